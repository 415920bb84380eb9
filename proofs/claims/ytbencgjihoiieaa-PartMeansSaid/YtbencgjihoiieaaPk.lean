/- The law's once. -/
import Derived.Test.YtbencgjihoiieaaPj
import Derived.Test.YtbencgjihoiieaaPq
set_option linter.unusedVariables false
namespace Go.Proofs.Ytbencgjihoiieaa
open Go.RowKit Go.Shelf
attribute [local go_sem] Oper.semAt_some

theorem equalIn_func (d : Nat) (t : TypeId) (f : Fn) (b : Array Value) (W : World) {ps rs : Array TypeId} {v : Bool} (h : Try.prog.underlying t = some (.func ps rs v)) : (Op.equalIn (d + 1) t (.func f #[] b) .nilFunc).run Try.prog W = .ok false W := by
  simp [Op.equalIn, run_underlying h]
theorem func_nil (f : Fn) (b : Array Value) (W : World) : (binOp .eql 45 (.func f #[] b) .nilFunc).run Try.prog W = .ok (.bool false) W := by
  have hu := Try.underlying45
  have h2 : (Op.equalIn 10000 45 (.func f #[] b) .nilFunc).run Try.prog W = .ok false W := equalIn_func 9999 _ f b W hu
  have h3 : (Op.equal 45 (.func f #[] b) .nilFunc).run Try.prog W = .ok false W := h2
  simp [binOp, go_sem, h3]

/-- how many sectors stand ahead of part k -/
def doneX (x y : Int) (k : Nat) : Int := match badRow x y with
  | true => 0
  | false => doneI x.toNat y.toNat k
def partX (x y : Int) (k : Nat) : SP := partI x.toNat y.toNat k
theorem rowX_facts (x y : Int) (k : Nat) (h : k < rowN x y) : (overX x y)[k]? = some (doneX x y k, partX x y k) ∧ (rowL x y)[k]? = some (partX x y k) ∧ doneX x y (k + 1) = doneX x y k + (partX x y k).t - (partX x y k).f ∧ 0 ≤ doneX x y k ∧ doneX x y k ≤ 1073741824 ∧ 0 ≤ (partX x y k).f ∧ (partX x y k).f < (partX x y k).t ∧ (partX x y k).t ≤ 4 := by
  rcases row_cases x y with hb | ⟨a, c, rfl, rfl, hc, hac⟩
  · unfold rowN at h; rw [hb] at h; exact absurd h (Nat.not_lt_zero _)
  · rw [rowN_good a c hc hac] at h
    rw [overX_good a c hc hac, rowL_good a c hc hac]
    have hd : ∀ k, doneX (a : Int) (c : Int) k = doneI a c k := fun k => by unfold doneX; rw [row_good a c hc hac]; rfl
    have hp : partX (a : Int) (c : Int) k = partI a c k := rfl
    have hbd := done_bounds a c k
    have hpb := part_bounds a c k h
    rw [hd, hd, hp, done_ahead a c k h, overL_get a c k h, partsL_get a c k h]
    rw [done_ahead a c k h] at hbd
    have hn := done_next a c k h
    rw [done_ahead a c k h] at hn
    exact ⟨rfl, rfl, hn, hbd.1, by omega, hpb.1, hpb.2.1, hpb.2.2⟩
theorem doneX_zero (x y : Int) : doneX x y 0 = 0 := by
  unfold doneX
  split
  · rfl
  · exact done_zero _ _
theorem pre_next {α : Type} {pre X : List α} {s : α} (h : pre <+: X) (hs : X[pre.length]? = some s) : pre ++ [s] <+: X := by
  obtain ⟨r, rfl⟩ := h
  rw [List.getElem?_append_right (Nat.le_refl _), Nat.sub_self] at hs
  cases r with
  | nil => simp at hs
  | cons u r => simp at hs; subst hs; exact ⟨r, by simp⟩
theorem pre_last {α : Type} {pre X : List α} {s u : α} (h : pre ++ [s] <+: X) (hs : X[pre.length]? = some u) : s = u := by
  obtain ⟨r, rfl⟩ := h
  simp at hs
  exact hs

/-- once, between two rounds -/
structure ON (w W : World) (bi : Nat) (A : Option Addr) (cp n : Nat) (m : Int) (i : Nat) (d : Int) : Prop where
  want : Boxed W w.heap.size 25 (.slice A n cp)
  most : Boxed W (w.heap.size + 1) 3 (.int .i64 m)
  res : Boxed W (w.heap.size + 2) 4 (.bool false)
  ci : Boxed W bi 3 (.int .i64 (i : Int))
  cd : Boxed W (bi + 1) 3 (.int .i64 d)
  bel : Below w.heap.size w W
theorem boxed_keep {X Y : World} {row : Option Nat} {B B0 : Nat} {t : TypeId} {v : Value} (h : Boxed X B t v) (hg : X.grownBy Y row) (hr : ∀ r, row = some r → B0 ≤ r ∧ ∃ o : Obj, X.heap[r]? = some o ∧ o.isCells = false) : Boxed Y B t v :=
  h.kept hg (fun e => by
    obtain ⟨_, o, ho, hc⟩ := hr B e.symm
    rw [show X.heap[B]? = _ from h] at ho
    cases ho
    cases hc)
theorem ON.own {w : World} {bi : Nat} {A : Option Addr} {cp n : Nat} {m : Int} {β : Type} {i : β → Nat} {d : β → Int} {B0 : Nat} (hB : w.heap.size ≤ B0) : OwnFrom B0 (fun (s : β) W => ON w W bi A cp n m (i s) (d s)) := by
  intro s X Y row h hg hr
  exact ⟨boxed_keep h.want hg hr, boxed_keep h.most hg hr, boxed_keep h.res hg hr, boxed_keep h.ci hg hr, boxed_keep h.cd hg hr, (ownFrom_below (β := Unit) (Nat.le_refl w.heap.size) hB) () X Y row h.bel hg hr⟩
theorem ON.alloc {w W : World} {bi : Nat} {A : Option Addr} {cp n : Nat} {m : Int} {i : Nat} {d : Int} (h : ON w W bi A cp n m i d) (o : Obj) : ON w (W.alloc o) bi A cp n m i d :=
  ⟨h.want.alloc o, h.most.alloc o, h.res.alloc o, h.ci.alloc o, h.cd.alloc o, h.bel.alloc h.bel.size o⟩
theorem ON.setd {w W : World} {bi : Nat} {A : Option Addr} {cp n : Nat} {m : Int} {i : Nat} {d : Int} (h : ON w W bi A cp n m i d) (hb : w.heap.size + 3 ≤ bi) (d' : Int) : ON w (W.setCell ⟨bi + 1, 0, none⟩ (.int .i64 d')) bi A cp n m i d' :=
  ⟨h.want.other (by omega) _, h.most.other (by omega) _, h.res.other (by omega) _, h.ci.other (by omega) _, h.cd.set _, h.bel.setCell (p := ⟨bi + 1, 0, none⟩) (by simp; omega) _⟩
theorem ON.seti {w W : World} {bi : Nat} {A : Option Addr} {cp n : Nat} {m : Int} {i : Nat} {d : Int} (h : ON w W bi A cp n m i d) (hb : w.heap.size + 3 ≤ bi) (i' : Nat) (z : Int) (hz : z = (i' : Int)) : ON w (W.setCell ⟨bi, 0, none⟩ (.int .i64 z)) bi A cp n m i' d := by
  subst hz
  exact ⟨h.want.other (by omega) _, h.most.other (by omega) _, h.res.other (by omega) _, h.ci.set _, h.cd.other (by omega) _, h.bel.setCell (p := ⟨bi, 0, none⟩) (by simp; omega) _⟩
theorem ON.drewN {w W : World} {bi : Nat} {A : Option Addr} {cp n : Nat} {m : Int} {i : Nat} {d : Int} (h : ON w W bi A cp n m i d) (k : Nat) : ON w (W.drewN k) bi A cp n m i d :=
  ⟨h.want, h.most, h.res, h.ci, h.cd, ⟨h.bel.os, h.bel.tape, h.bel.output, h.bel.size, h.bel.block⟩⟩
theorem Kc.drewN {B1 B2 : Nat} {x y : Int} (W : World) (k : Nat) : Kc B1 B2 x y W (W.drewN k) := ⟨fun a => a, fun a => a⟩
theorem keeps_drewN (W : World) (k : Nat) : KeepsOthers W (W.drewN k) := ⟨Nat.le_refl _, fun _ _ h _ => h⟩
theorem pre_more {x y : Int} {pre : List (Int × SP)} {k : Nat} {s : Int × SP} (hp : pre <+: overX x y) (hk : pre.length = k) (hs : (overX x y)[k]? = some s) : pre ++ [s] <+: overX x y ∧ (pre ++ [s]).length = k + 1 := ⟨pre_next hp (by rw [hk]; exact hs), by simp [hk]⟩
theorem kc_set {W : World} {B1 B2 B : Nat} {x y : Int} {v : Value} (h1 : B1 ≠ B) (h2 : B2 ≠ B) : Kc B1 B2 x y W (W.setCell ⟨B, 0, none⟩ v) := ⟨fun h => h.other h1 _, fun h => h.other h2 _⟩

/-- what a round of once's finds in its slots -/
def OAx (w : World) (bi : Nat) (x y m : Int) (A : Option Addr) (cp n : Nat) (s : Int × SP) (a' : Act) (W' : World) : Prop := ∃ Bx, W'.heap[Bx]? = some (.cells #[.int .i64 s.2.b, .int .i64 s.2.f, .int .i64 s.2.t] 23 (0, 0)) ∧
  a' = { tmps := #[.int .i64 x, .int .i64 y, .slice A n cp, .int .i64 m, undef, undef, .pointer (some ⟨w.heap.size, 0, none⟩), .pointer (some ⟨w.heap.size + 1, 0, none⟩), .pointer (some ⟨w.heap.size + 1 + 1, 0, none⟩),
    .func (.func 23) #[] #[.pointer (some ⟨w.heap.size + 1 + 1 + 1, 0, none⟩), .pointer (some ⟨w.heap.size + 1 + 1 + 1 + 1, 0, none⟩)], .pointer (some ⟨bi, 0, none⟩), .pointer (some ⟨bi + 1, 0, none⟩), .int .i64 s.1, .pointer (some ⟨Bx, 0, none⟩), .int .i64 x, .int .i64 y,
    .func (.func 23) #[] #[.pointer (some ⟨w.heap.size + 1 + 1 + 1, 0, none⟩), .pointer (some ⟨w.heap.size + 1 + 1 + 1 + 1, 0, none⟩)], .func (.func 23) #[] #[.pointer (some ⟨w.heap.size + 1 + 1 + 1, 0, none⟩), .pointer (some ⟨w.heap.size + 1 + 1 + 1 + 1, 0, none⟩)], .bool false,
    .func (.func 23) #[] #[.pointer (some ⟨w.heap.size + 1 + 1 + 1, 0, none⟩), .pointer (some ⟨w.heap.size + 1 + 1 + 1 + 1, 0, none⟩)], .int .i64 s.1, .agg #[.int .i64 s.2.b, .int .i64 s.2.f, .int .i64 s.2.t],
    undef, undef, undef, undef, undef, undef, undef, undef, undef, undef, undef, undef, undef, undef, undef, undef, undef, undef, undef, undef, undef, undef, undef, undef, undef, undef, undef, undef, undef, undef, undef, undef, undef], defers := [] }
/-- where a round has left -/
def OX (w : World) (x y : Int) (c : Code) (pre : List (Int × SP)) (W' : World) : Prop := c = .ret ∧ ∃ b, Boxed W' (w.heap.size + 2) 4 (.bool b) ∧ (b = true ∨ ¬ pre <+: overX x y) ∧ Below w.heap.size w W'

theorem ox_ret {w W : World} {bi : Nat} {A : Option Addr} {cp n : Nat} {m : Int} {i : Nat} {d : Int} {x y : Int} {pre : List (Int × SP)} (h : ON w W bi A cp n m i d) (b : Bool) (hor : b = true ∨ ¬ pre <+: overX x y) : OX w x y .ret pre (W.setCell ⟨w.heap.size + 1 + 1, 0, none⟩ (.bool b)) :=
  ⟨rfl, b, h.res.set _, hor, h.bel.setCell (p := ⟨w.heap.size + 1 + 1, 0, none⟩) (by simp; omega) _⟩

set_option maxRecDepth 100000 in
set_option maxHeartbeats 8000000 in
theorem once_any (w : World) (x y m : Int) (hx : -9223372036854775808 ≤ x ∧ x ≤ 9223372036854775807) (hy : -9223372036854775808 ≤ y ∧ y ≤ 9223372036854775807) (A : Option Addr) (cp : Nat) (hs : ShowsP w w.heap.size A (rowL x y)) :
    Calls Try.prog 10 #[.int .i64 x, .int .i64 y, .slice A (rowN x y) cp, .int .i64 m] w fun e w' => e = .returned (.bool true) ∧ Below w.heap.size w w' := by
  have HST := Lib.hid (fun B1 B2 W h1 h2 => over_stops 3 (by omega) B1 B2 x y hx hy W h1 h2)
  have HS := Lib.hid hs
  clear hx hy hs
  have HF := Lib.hid (fun f b W => func_nil f b W)
  refine (callsIn_wide (n := 4)).1 ?_
  refine callsIn_of_wp_marks Try.func10 rfl trivial ?_ rfl
  simp only [Try.ntmps10, List.size_toArray, List.length_cons, List.length_nil, Nat.reduceAdd, Nat.reduceSub, Array.replicate_succ, Array.replicate_zero, List.push_toArray, List.append_toArray, List.nil_append, List.cons_append]
  gi_wp2_with (refine ⟨trivial, ?_⟩; gi_at_call 19; refine (over_in _ x y _).mono ?_; rintro e w1 ⟨rfl, rfl⟩)
  obtain ⟨W0, hW0⟩ : ∃ W0, (((((w.alloc (Obj.cells #[Value.slice A (rowN x y) cp] 25)).alloc (Obj.cells #[Value.int IntKind.i64 m] 3)).alloc (Obj.cells #[Value.bool false] 4)).alloc (Obj.cells #[Value.int IntKind.i64 x] 3)).alloc (Obj.cells #[Value.int IntKind.i64 y] 3)) = W0 := ⟨_, rfl⟩
  rw [hW0]
  rw [HF.out]
  gi_wp2
  have hz0 : W0.heap.size = w.heap.size + 5 := by rw [← hW0]; simp
  obtain ⟨W1, hW1⟩ : ∃ W1, (W0.alloc (Obj.cells #[Value.int IntKind.i64 0] 3)).alloc (Obj.cells #[Value.int IntKind.i64 0] 3) = W1 := ⟨_, rfl⟩
  have hz1 : W1.heap.size = w.heap.size + 7 := by rw [← hW1]; simp [hz0]
  have H0 : Hid (ON w W1 W0.heap.size A cp (rowN x y) m 0 (doneX x y 0) ∧ Boxed W1 (w.heap.size + 1 + 1 + 1) 3 (.int .i64 x) ∧ Boxed W1 (w.heap.size + 1 + 1 + 1 + 1) 3 (.int .i64 y)) := by
    rw [doneX_zero]
    have e1 := Boxed.new w 25 (.slice A (rowN x y) cp)
    have e2 := Boxed.new (w.alloc (Obj.cells #[Value.slice A (rowN x y) cp] 25)) 3 (.int .i64 m)
    have e3 := Boxed.new ((w.alloc (Obj.cells #[Value.slice A (rowN x y) cp] 25)).alloc (Obj.cells #[Value.int IntKind.i64 m] 3)) 4 (.bool false)
    have e4 := Boxed.new (((w.alloc (Obj.cells #[Value.slice A (rowN x y) cp] 25)).alloc (Obj.cells #[Value.int IntKind.i64 m] 3)).alloc (Obj.cells #[Value.bool false] 4)) 3 (.int .i64 x)
    have e5 := Boxed.new ((((w.alloc (Obj.cells #[Value.slice A (rowN x y) cp] 25)).alloc (Obj.cells #[Value.int IntKind.i64 m] 3)).alloc (Obj.cells #[Value.bool false] 4)).alloc (Obj.cells #[Value.int IntKind.i64 x] 3)) 3 (.int .i64 y)
    have e6 := Boxed.new W0 3 (.int .i64 0)
    have e7 := Boxed.new (W0.alloc (Obj.cells #[Value.int IntKind.i64 0] 3)) 3 (.int .i64 0)
    simp only [World.size_alloc] at e2 e3 e4 e5 e7
    have e5' : Boxed W0 (w.heap.size + 1 + 1 + 1 + 1) 3 (.int .i64 y) := by rw [← hW0]; exact e5
    have up : ∀ (B : Nat) (t : TypeId) (v : Value), Boxed W0 B t v → Boxed W1 B t v := fun B t v h => by rw [← hW1]; exact (h.alloc _).alloc _
    have b0 : Below w.heap.size w W0 := by
      rw [← hW0]
      exact (((((Below.refl _ w).alloc (Nat.le_refl _) _).alloc (by simp) _).alloc (by simp; omega) _).alloc (by simp; omega) _).alloc (by simp; omega) _
    refine ⟨⟨up _ _ _ ?_, up _ _ _ ?_, up _ _ _ ?_, ?_, ?_, ?_⟩, up _ _ _ ?_, up _ _ _ e5'⟩
    · rw [← hW0]; exact (((e1.alloc _).alloc _).alloc _).alloc _
    · rw [← hW0]; exact ((e2.alloc _).alloc _).alloc _
    · rw [← hW0]; exact (e3.alloc _).alloc _
    · rw [← hW1]; exact e6.alloc _
    · rw [← hW1]; exact e7
    · rw [← hW1]; exact (b0.alloc b0.size _).alloc (by have := b0.size; simp; omega) _
    · rw [← hW0]; exact e4.alloc _
  have HB := Lib.hid hz0
  have hbi : w.heap.size + 5 ≤ W0.heap.size := by omega
  have hle1 : w.heap.size + 7 ≤ W1.heap.size := by omega
  rw [hW1]
  clear hz0 hz1
  obtain ⟨bi, hbe⟩ : ∃ bi, W0.heap.size = bi := ⟨_, rfl⟩
  rw [hbe] at hbi H0 ⊢
  have HSS := Lib.hid (HST.out _ _ W1 H0.out.2.1 H0.out.2.2)
  have H1 := Lib.hid H0.out.1
  clear HST H0 hW0 hW1 HB hbe
  refine wpIn_rangeFunc_ownH (α := Int × SP) rfl (by omega) (gf := 23) (lb := #[.pointer (some ⟨w.heap.size + 1 + 1 + 1, 0, none⟩), .pointer (some ⟨w.heap.size + 1 + 1 + 1 + 1, 0, none⟩)]) rfl trivial (enters_of Try.func23 (by kernel_rfl) rfl)
    HSS.out Kc.trans (fun W l o o' _ h hc _ => Kc.put W l o o' h hc) (Below.refl _ _) (fun _ => rfl)
    (fun pre W' => pre <+: overX x y ∧ ON w W' bi A cp (rowN x y) m pre.length (doneX x y pre.length))
    (OX w x y)
    (OwnFrom.and (ownFrom_pure _ _) (ON.own (by omega)))
    ?hIx
    ⟨List.nil_prefix, H1.out⟩
    (OAx w bi x y m A cp (rowN x y)) ?hAx ?assign ?body ?done ?stop
  case hIx =>
    rintro c s X Y row ⟨hc, b, hb, hor, hbel⟩ hg hr
    exact ⟨hc, b, boxed_keep hb hg hr, hor, (ownFrom_below (β := Unit) (Nat.le_refl w.heap.size) (show w.heap.size ≤ W1.heap.size by omega)) () X Y row hbel hg hr⟩
  case hAx =>
    rintro s a' u X Y row ⟨Bx, hh, ha⟩ hg hr
    refine ⟨Bx, ?_, ha⟩
    rw [hg.block Bx (Array.getElem?_eq_some_iff.1 hh).1 (fun e => ?_)]
    · exact hh
    · obtain ⟨_, o, ho, hc⟩ := hr Bx e.symm
      rw [hh] at ho
      cases ho
      cases hc
  case assign =>
    rintro l pre s X K ⟨hp, hI⟩ hK
    gi_wp2
    exact hK _ _ ((KeepsOthers.alloc _ _).from _) (Kc.alloc _ _) ⟨hp, hI.alloc _⟩ ⟨X.heap.size, heap_alloc_new _ _, rfl⟩
  case body =>
    rintro l pre s a' X hl ⟨r, hr⟩ ⟨hp, hI⟩ ⟨Bx, hbx, rfl⟩ hlt
    obtain ⟨f1, f2, f3, f4, f5, f6, f7, f8⟩ := rowX_facts x y pre.length hlt
    have hlen : pre.length < (rowL x y).length := by rw [rowL_length]; exact hlt
    obtain ⟨p, rfl, hp0, q0, q1, q2⟩ := ShowsP.span (HS.out.below hI.bel) pre.length hlen
    have eg : (rowL x y)[pre.length] = partX x y pre.length := by
      rw [List.getElem?_eq_getElem hlen] at f2
      injection f2
    rw [eg] at q0 q1 q2
    have hw := hI.want.cell
    have hm := hI.most.cell
    have hci := hI.ci.cell
    have hcd := hI.cd.cell
    have hx0 : X.cell? ⟨Bx, 0, none⟩ = some (.int .i64 s.2.b) := by rw [cell_of_row X Bx 0 _ _ _ hbx]; rfl
    have hx1 : X.cell? ⟨Bx, 1, none⟩ = some (.int .i64 s.2.f) := by rw [cell_of_row X Bx 1 _ _ _ hbx]; rfl
    have hx2 : X.cell? ⟨Bx, 2, none⟩ = some (.int .i64 s.2.t) := by rw [cell_of_row X Bx 2 _ _ _ hbx]; rfl
    have hrn := rowN_le x y
    have hltI : (pre.length : Int) < (rowN x y : Int) := by omega
    have HP := Lib.hid hp
    have HF1 := Lib.hid f1
    have HF3 := Lib.hid f3
    have HI := Lib.hid hI
    have HX := Lib.hid (And.intro hbx hl)
    have HLT := Lib.hid hlt
    clear f1 f2 f3 eg hp hI hbx hl hr hlen
    generalize hpl : pre.length = k at *
    have HK := Lib.hid hpl
    clear hpl
    generalize hdd : doneX x y k = d at *
    generalize hLL : partX x y k = L at *
    have HDL := Lib.hid (And.intro hdd hLL)
    clear hdd hLL
    have hgd : decide (rowN x y ≤ k) = false := by simp; omega
    obtain ⟨lb, lf, lt⟩ := L
    obtain ⟨a0, sb, sf, st⟩ := s
    dsimp only at *
    by_cases c1 : sb = lb
    · by_cases c2 : sf = lf
      · by_cases c3 : st = lt
        · by_cases c4 : a0 = d
          · subst c1 c2 c3 c4
            gi_wp2
            refine region_quiet_round (F := Fence.wide) l rfl (by kernel_rfl) (by kernel_rfl) (by kernel_rfl) ?_
            repeat (gi_big_quiet_step (fail))
            refine wpQuietIn_nil ?_
            intro _ hw'
            obtain ⟨nq, hw''⟩ := hw'
            subst hw''
            have HY := Lib.hid (HI.out.drewN nq)
            have HKY := Lib.hid (Kc.drewN (B1 := w.heap.size + 1 + 1 + 1) (B2 := w.heap.size + 1 + 1 + 1 + 1) (x := x) (y := y) X nq)
            have HOY := Lib.hid (keeps_drewN X nq)
            have hx1' : (X.drewN nq).cell? ⟨Bx, 1, none⟩ = some (.int .i64 sf) := hx1
            have hx2' : (X.drewN nq).cell? ⟨Bx, 2, none⟩ = some (.int .i64 st) := hx2
            clear hx0 hx1 hx2 q0 q1 q2 hw hm hci hcd hgd HI
            generalize X.drewN nq = Y at *
            have hm := HY.out.most.cell
            have hci := HY.out.ci.cell
            have hcd := HY.out.cd.cell
            have hfi := HY.out.ci.frozen
            have hfd := HY.out.cd.frozen
            have hrs := HY.out.res.cell
            have hfr := HY.out.res.frozen
            by_cases c5 : (k : Int) + 1 = m
            · subst c5
              gi_wp2
              exact ⟨(((HOY.out.trans (KeepsOthers.setCell _ _ _)).trans (KeepsOthers.setCell _ _ _)).trans (KeepsOthers.setCell _ _ _)).from _, ox_ret ((HY.out.setd (by omega) _).seti (by omega) (k + 1) _ (by simp)) true (.inl rfl)⟩
            · gi_wp2
              refine ⟨((HOY.out.trans (KeepsOthers.setCell _ _ _)).trans (KeepsOthers.setCell _ _ _)).from _, (HKY.out.trans (kc_set (by omega) (by omega))).trans (kc_set (by omega) (by omega)), (pre_more HP.out HK.out HF1.out).1, ?_⟩
              rw [(pre_more HP.out HK.out HF1.out).2, HF3.out]
              exact (HY.out.setd (by omega) _).seti (by omega) (k + 1) _ (by simp)
          · subst c1 c2 c3
            have hne : ¬ (((d, ⟨sb, sf, st⟩) : Int × SP) = (a0, ⟨sb, sf, st⟩)) := fun e => by injection e with e1 e2; injection e2 with e3 e4 e5; exact c4 e1.symm
            have HN := Lib.hid hne
            clear hne
            gi_wp2
            refine region_quiet_round (F := Fence.wide) l rfl (by kernel_rfl) (by kernel_rfl) (by kernel_rfl) ?_
            repeat (gi_big_quiet_step (fail))
            refine wpQuietIn_nil ?_
            intro _ hw'
            obtain ⟨nq, hw''⟩ := hw'
            subst hw''
            have HY := Lib.hid (HI.out.drewN nq)
            have HKY := Lib.hid (Kc.drewN (B1 := w.heap.size + 1 + 1 + 1) (B2 := w.heap.size + 1 + 1 + 1 + 1) (x := x) (y := y) X nq)
            have HOY := Lib.hid (keeps_drewN X nq)
            have hx1' : (X.drewN nq).cell? ⟨Bx, 1, none⟩ = some (.int .i64 sf) := hx1
            have hx2' : (X.drewN nq).cell? ⟨Bx, 2, none⟩ = some (.int .i64 st) := hx2
            clear hx0 hx1 hx2 q0 q1 q2 hw hm hci hcd hgd HI
            generalize X.drewN nq = Y at *
            have hm := HY.out.most.cell
            have hci := HY.out.ci.cell
            have hcd := HY.out.cd.cell
            have hfi := HY.out.ci.frozen
            have hfd := HY.out.cd.frozen
            have hrs := HY.out.res.cell
            have hfr := HY.out.res.frozen
            gi_wp2
            exact ⟨(HOY.out.trans (KeepsOthers.setCell _ _ _)).from _, ox_ret HY.out false (.inr (fun hpre => HN.out (pre_last hpre (by rw [HK.out]; exact HF1.out)).symm))⟩
        · subst c1 c2
          have hne : ¬ (((d, ⟨sb, sf, lt⟩) : Int × SP) = (a0, ⟨sb, sf, st⟩)) := fun e => by injection e with e1 e2; injection e2 with e3 e4 e5; exact c3 e5.symm
          have HN := Lib.hid hne
          clear hne
          gi_wp2
          refine region_quiet_round (F := Fence.wide) l rfl (by kernel_rfl) (by kernel_rfl) (by kernel_rfl) ?_
          repeat (gi_big_quiet_step (fail))
          refine wpQuietIn_nil ?_
          intro _ hw'
          obtain ⟨nq, hw''⟩ := hw'
          subst hw''
          have HY := Lib.hid (HI.out.drewN nq)
          have HKY := Lib.hid (Kc.drewN (B1 := w.heap.size + 1 + 1 + 1) (B2 := w.heap.size + 1 + 1 + 1 + 1) (x := x) (y := y) X nq)
          have HOY := Lib.hid (keeps_drewN X nq)
          have hx1' : (X.drewN nq).cell? ⟨Bx, 1, none⟩ = some (.int .i64 sf) := hx1
          have hx2' : (X.drewN nq).cell? ⟨Bx, 2, none⟩ = some (.int .i64 st) := hx2
          clear hx0 hx1 hx2 q0 q1 q2 hw hm hci hcd hgd HI
          generalize X.drewN nq = Y at *
          have hm := HY.out.most.cell
          have hci := HY.out.ci.cell
          have hcd := HY.out.cd.cell
          have hfi := HY.out.ci.frozen
          have hfd := HY.out.cd.frozen
          have hrs := HY.out.res.cell
          have hfr := HY.out.res.frozen
          gi_wp2
          exact ⟨(HOY.out.trans (KeepsOthers.setCell _ _ _)).from _, ox_ret HY.out false (.inr (fun hpre => HN.out (pre_last hpre (by rw [HK.out]; exact HF1.out)).symm))⟩
      · subst c1
        have hne : ¬ (((d, ⟨sb, lf, lt⟩) : Int × SP) = (a0, ⟨sb, sf, st⟩)) := fun e => by injection e with e1 e2; injection e2 with e3 e4 e5; exact c2 e4.symm
        have HN := Lib.hid hne
        clear hne
        gi_wp2
        refine region_quiet_round (F := Fence.wide) l rfl (by kernel_rfl) (by kernel_rfl) (by kernel_rfl) ?_
        repeat (gi_big_quiet_step (fail))
        refine wpQuietIn_nil ?_
        intro _ hw'
        obtain ⟨nq, hw''⟩ := hw'
        subst hw''
        have HY := Lib.hid (HI.out.drewN nq)
        have HKY := Lib.hid (Kc.drewN (B1 := w.heap.size + 1 + 1 + 1) (B2 := w.heap.size + 1 + 1 + 1 + 1) (x := x) (y := y) X nq)
        have HOY := Lib.hid (keeps_drewN X nq)
        have hx1' : (X.drewN nq).cell? ⟨Bx, 1, none⟩ = some (.int .i64 sf) := hx1
        have hx2' : (X.drewN nq).cell? ⟨Bx, 2, none⟩ = some (.int .i64 st) := hx2
        clear hx0 hx1 hx2 q0 q1 q2 hw hm hci hcd hgd HI
        generalize X.drewN nq = Y at *
        have hm := HY.out.most.cell
        have hci := HY.out.ci.cell
        have hcd := HY.out.cd.cell
        have hfi := HY.out.ci.frozen
        have hfd := HY.out.cd.frozen
        have hrs := HY.out.res.cell
        have hfr := HY.out.res.frozen
        gi_wp2
        exact ⟨(HOY.out.trans (KeepsOthers.setCell _ _ _)).from _, ox_ret HY.out false (.inr (fun hpre => HN.out (pre_last hpre (by rw [HK.out]; exact HF1.out)).symm))⟩
    · have hne : ¬ (((d, ⟨lb, lf, lt⟩) : Int × SP) = (a0, ⟨sb, sf, st⟩)) := fun e => by injection e with e1 e2; injection e2 with e3 e4 e5; exact c1 e3.symm
      have HN := Lib.hid hne
      clear hne
      gi_wp2
      refine region_quiet_round (F := Fence.wide) l rfl (by kernel_rfl) (by kernel_rfl) (by kernel_rfl) ?_
      repeat (gi_big_quiet_step (fail))
      refine wpQuietIn_nil ?_
      intro _ hw'
      obtain ⟨nq, hw''⟩ := hw'
      subst hw''
      have HY := Lib.hid (HI.out.drewN nq)
      have HKY := Lib.hid (Kc.drewN (B1 := w.heap.size + 1 + 1 + 1) (B2 := w.heap.size + 1 + 1 + 1 + 1) (x := x) (y := y) X nq)
      have HOY := Lib.hid (keeps_drewN X nq)
      have hx1' : (X.drewN nq).cell? ⟨Bx, 1, none⟩ = some (.int .i64 sf) := hx1
      have hx2' : (X.drewN nq).cell? ⟨Bx, 2, none⟩ = some (.int .i64 st) := hx2
      clear hx0 hx1 hx2 q0 q1 q2 hw hm hci hcd hgd HI
      generalize X.drewN nq = Y at *
      have hm := HY.out.most.cell
      have hci := HY.out.ci.cell
      have hcd := HY.out.cd.cell
      have hfi := HY.out.ci.frozen
      have hfd := HY.out.cd.frozen
      have hrs := HY.out.res.cell
      have hfr := HY.out.res.frozen
      gi_wp2
      exact ⟨(HOY.out.trans (KeepsOthers.setCell _ _ _)).from _, ox_ret HY.out false (.inr (fun hpre => HN.out (pre_last hpre (by rw [HK.out]; exact HF1.out)).symm))⟩
  case done =>
    rintro D ys X hD rfl ⟨hp, hI⟩ hK
    have HI := Lib.hid hI
    have hxl : (overX x y).length = rowN x y := overX_length x y
    rw [hxl] at HI
    have hci := HI.out.ci.cell
    have hw := HI.out.want.cell
    have hrs := HI.out.res.cell
    have hfr := HI.out.res.frozen
    clear hxl hp hI
    gi_wp2
    have hK' := (KeepsOthers.setCell X ⟨w.heap.size + 1 + 1, 0, none⟩ (.bool true)).same D _ hK rfl
    have hb2 : Boxed (X.setCell ⟨w.heap.size + 1 + 1, 0, none⟩ (.bool true)) (w.heap.size + 1 + 1) 4 (.bool true) := HI.out.res.set _
    have hb3 := hb2.kept (grownBy_putObj' _ D (.deferred none)) (boxed_ne hb2 hK' rfl)
    have hbel := (HI.out.bel.setCell (p := ⟨w.heap.size + 1 + 1, 0, none⟩) (by simp; omega) (.bool true)).trans (belowK_b (w := w) (Nat.le_refl _) _ D _ (.deferred none) (by omega) hK' rfl rfl)
    have hc5 := hb3.cell
    refine ⟨by simp, .inl ⟨_, _, rfl, run_takeDeferred hK', ?_⟩⟩
    refine ⟨.bool true, ?_, rfl, hbel⟩
    simp [results, Try.results10, go_sem, hc5]
  case stop =>
    rintro D c pre X hD hSp ⟨rfl, b, hb, hor, hbel⟩ hK
    have hbt : b = true := hor.resolve_right (fun h => h hSp)
    subst hbt
    gi_wp2
    have hb3 := hb.kept (grownBy_putObj' _ D (.deferred none)) (boxed_ne hb hK rfl)
    have hc5 := hb3.cell
    refine ⟨by simp, .inl ⟨_, _, rfl, run_takeDeferred hK, ?_⟩⟩
    refine ⟨.bool true, ?_, rfl, hbel.trans (belowK_b (w := w) (Nat.le_refl _) _ D _ (.deferred none) (by omega) hK rfl rfl)⟩
    simp [results, Try.results10, go_sem, hc5]
end Go.Proofs.Ytbencgjihoiieaa
