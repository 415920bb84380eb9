/- The program's Split. -/
import Derived.Test.YtbencgjihoiieaaPh
set_option linter.unusedVariables false
namespace Go.Proofs.Ytbencgjihoiieaa
open Go.RowKit Go.Shelf
attribute [local go_sem] Oper.semAt_some

theorem own_lo {w : World} {b b' : Nat} {e : TypeId} {s n : Nat} {v : Value} {xs : List Value} (h : w.ownsRow b e s v n xs) (hb : b' ≤ b) : w.ownsRow b' e s v n xs := by
  refine ⟨h.1, ?_⟩
  rcases h.2 with h | ⟨g, cap, cur, hv, hg, hh, h1, h2, h3, h4⟩
  · exact .inl h
  · exact .inr ⟨g, cap, cur, hv, Nat.le_trans hb hg, hh, h1, h2, h3, h4⟩
/-- while the parts are taken up -/
structure SI (w W : World) (L : List SP) (v : Value) : Prop where
  box : Boxed W w.heap.size 25 v
  own : W.ownsRow w.heap.size 23 3 v L.length (cells3 L)
  bel : Below w.heap.size w W
def lst (pre : List (Int × SP)) : List SP := pre.map (·.2)
theorem lst_snoc (pre : List (Int × SP)) (x : Int × SP) : lst (pre ++ [x]) = lst pre ++ [x.2] := by simp [lst]

theorem boxed_unlike {W : World} {B B' : Nat} {t t' : TypeId} {v v' : Value} (h : Boxed W B t v) (h' : Boxed W B' t' v') (ht : t ≠ t') : B ≠ B' := fun e => by
  subst e
  have := (show W.heap[B]? = _ from h).symm.trans h'
  simp at this
  exact ht this.2
theorem kc_app {W w1 : World} {B1 B2 Bp n₀ k : Nat} {x y : Int} {v v' : Value} {xs : List Value} {tmp : Obj} (hp : Boxed W Bp 25 v) (hrow : W.ownsRow n₀ 23 3 v k xs) (hg : (W.alloc tmp).grownBy w1 v.ownBlock) : Kc B1 B2 x y W (w1.setCell ⟨Bp, 0, none⟩ v') := by
  have hp1 : Boxed w1 Bp 25 v := (hp.alloc tmp).kept hg (hp.not_row (by decide) hrow)
  have one : ∀ (B : Nat) (u : Value), Boxed W B 3 u → Boxed (w1.setCell ⟨Bp, 0, none⟩ v') B 3 u := fun B u h => by
    have h1 : Boxed w1 B 3 u := (h.alloc tmp).kept hg (h.not_row (by decide) hrow)
    exact h1.other (boxed_unlike h1 hp1 (by decide)) _
  exact ⟨one B1 _, one B2 _⟩
theorem span_news (s : SP) (w : World) : ∀ j u, s.cs[j]? = some u → (w.alloc (.cells #[.int .i64 s.b, .int .i64 s.f, .int .i64 s.t] 23)).cell? ((⟨w.heap.size, 0, none⟩ : Addr).add j) = some u := by
  intro j u hu
  have h := (shows_new w #[.int .i64 s.b, .int .i64 s.f, .int .i64 s.t] 23)
  obtain ⟨p, hp, _, hx⟩ := h.lies (by simp)
  injection hp with hp
  subst hp
  exact hx j u hu
theorem cs_one (s : SP) : ∀ u ∈ s.cs, u.oneCell' = true := by
  intro u hu
  simp [SP.cs] at hu
  rcases hu with rfl | rfl | rfl <;> rfl
theorem cells3_snoc (L : List SP) (s : SP) : cells3 (L ++ [s]) = cells3 L ++ s.cs := by rw [cells3_append]; simp [cells3]

/-- what a round of Split's finds in its slots -/
def SAx (B0 : Nat) (x y : Int) (A : Option Addr) (cp n : Nat) (B1 B2 : Nat) (s : Int × SP) (a' : Act) (W' : World) : Prop := ∃ Bx, W'.heap[Bx]? = some (.cells #[.int .i64 s.2.b, .int .i64 s.2.f, .int .i64 s.2.t] 23 (0, 0)) ∧
  a' = { tmps := #[.int .i64 x, .int .i64 y, undef, undef, .slice none 0 0, .pointer (some ⟨B0, 0, none⟩), undef, .pointer (some ⟨Bx, 0, none⟩), .slice none 0 0, .int .i64 x, .int .i64 y, .int .i64 (n : Int), .slice A 0 cp, .int .i64 x, .int .i64 y, .func (.func 23) #[] #[.pointer (some ⟨B1, 0, none⟩), .pointer (some ⟨B2, 0, none⟩)], .int .i64 s.1, .agg #[.int .i64 s.2.b, .int .i64 s.2.f, .int .i64 s.2.t], undef, undef, undef, undef, undef], defers := [] }

set_option maxRecDepth 100000 in
set_option maxHeartbeats 4000000 in
theorem split_any (w : World) (x y : Int) (hx : -9223372036854775808 ≤ x ∧ x ≤ 9223372036854775807) (hy : -9223372036854775808 ≤ y ∧ y ≤ 9223372036854775807) :
    Calls Try.prog 9 #[.int .i64 x, .int .i64 y] w fun e w' => ∃ v, e = .returned v ∧ w'.ownsRow w.heap.size 23 3 v (rowL x y).length (cells3 (rowL x y)) ∧ Below w.heap.size w w' := by
  obtain ⟨i0, hi, hz0, hz1, hz2⟩ := info_parts span_info
  have HB := Lib.hid (fun W => blocks_any W x y hx hy)
  have HG := Lib.hid (fun W => grow_any W (rowN x y) (rowN_le x y))
  have HST := Lib.hid (fun B1 B2 W h1 h2 => over_stops 3 (by omega) B1 B2 x y hx hy W h1 h2)
  clear hx hy
  refine (callsIn_wide (n := 4)).1 ?_
  refine callsIn_of_wp_marks Try.func9 rfl trivial ?_ rfl
  simp only [Try.ntmps9, List.size_toArray, List.length_cons, List.length_nil, Nat.reduceAdd, Nat.reduceSub, Array.replicate_succ, Array.replicate_zero, List.push_toArray, List.append_toArray, List.nil_append, List.cons_append]
  gi_wp2_with fail
  refine wpIn_wide.2 ?_
  refine wp_mono (Q := fun e a' W => ∃ A cp, e = Exit.normal ∧ a' = { tmps := #[.int .i64 x, .int .i64 y, undef, undef, .slice none 0 0, .pointer (some ⟨w.heap.size, 0, none⟩), undef, undef, .slice none 0 0, .int .i64 x, .int .i64 y, .int .i64 ((rowN x y : Nat) : Int), .slice A 0 cp, undef, undef, undef, undef, undef, undef, undef, undef, undef, undef], defers := [] } ∧ Hid (SI w W [] (.slice A 0 cp))) ?region ?rest
  case region =>
    first | go_region_with (first
      | (go_at_call 11; (with_reducible refine (HB.out _).mono ?_); rintro e w1 ⟨rfl, rfl⟩)
      | (go_at_call 18; (with_reducible refine (HG.out _).mono ?_); rintro e w1 ⟨A, cp, rfl, hown, hbel⟩; have hbc : w1.cell? ⟨w.heap.size, 0, none⟩ = some (.slice none 0 0) := (hbel.cell (p := ⟨w.heap.size, 0, none⟩) (by simp)).trans (by simp); have hbf : w1.frozen? ⟨w.heap.size, 0, none⟩ = false := (hbel.frozen (p := ⟨w.heap.size, 0, none⟩) (by simp)).trans (by simp))
      | fail) | fail
    all_goals
      refine ⟨A, cp, rfl, rfl, ?_⟩
      have hb0 : Boxed w1 w.heap.size 25 (.slice none 0 0) := (hbel.block _ (by simp)).trans (Boxed.new w _ _)
      have hB1 : Below w.heap.size w w1 := ((Below.refl _ w).alloc (Nat.le_refl _) _).drew.trans (hbel.mono (by simp))
      exact ⟨hb0.set _, (own_lo hown (by simp)).kept (grownBy_setCell' w1 w.heap.size _) (.inr (hb0.not_row (by decide) hown).symm), hB1.setCell (p := ⟨w.heap.size, 0, none⟩) (Nat.le_refl _) _⟩
  case rest =>
    rintro e a' W ⟨A, cp, rfl, rfl, HI⟩
    gi_wp2_with (refine ⟨trivial, ?_⟩; gi_at_call 19; refine (over_in _ x y W).mono ?_; rintro e w1 ⟨rfl, rfl⟩)
    have b1 := (Boxed.new W 3 (.int .i64 x)).alloc (.cells #[.int .i64 y] 3)
    have b2 := Boxed.new (W.alloc (.cells #[.int .i64 x] 3)) 3 (.int .i64 y)
    rw [World.size_alloc] at b2
    obtain ⟨W1, hW1⟩ : ∃ W1, (W.alloc (.cells #[.int .i64 x] 3)).alloc (.cells #[.int .i64 y] 3) = W1 := ⟨_, rfl⟩
    have hsz : W1.heap.size = W.heap.size + 2 := by rw [← hW1]; simp
    rw [hW1] at b1 b2 ⊢
    have HI1 : Hid (SI w W1 [] (.slice A 0 cp)) := by
      rw [← hW1]
      exact ⟨(HI.out.box.alloc _).alloc _, (HI.out.own.alloc _).alloc _, (HI.out.bel.alloc HI.out.bel.size _).alloc (by have := HI.out.bel.size; simp; omega) _⟩
    have hle : w.heap.size ≤ W.heap.size := HI.out.bel.size
    have HS := Lib.hid (HST.out _ _ W1 b1 b2)
    clear HST HI hW1
    have HW1 := Lib.hid hsz
    have hle1 : w.heap.size + 2 ≤ W1.heap.size := by omega
    clear hsz
    refine wpIn_rangeFunc_ownH (α := Int × SP) rfl (by omega) (gf := 23) (lb := #[.pointer (some ⟨W.heap.size, 0, none⟩), .pointer (some ⟨W.heap.size + 1, 0, none⟩)]) rfl trivial (enters_of Try.func23 (by kernel_rfl) rfl)
      HS.out Kc.trans (fun W l o o' _ h hc _ => Kc.put W l o o' h hc) (Below.refl _ _) (fun _ => rfl)
      (fun pre W' => (∃ v, Boxed W' w.heap.size 25 v ∧ W'.ownsRow w.heap.size 23 3 v (lst pre).length (cells3 (lst pre)) ∧ True) ∧ Below w.heap.size w W')
      (fun _ _ _ => False)
      (OwnFrom.and (Own.from (holdsRow_own w.heap.size w.heap.size 25 23 3 (fun pre => (lst pre).length) (fun pre => cells3 (lst pre)) (fun _ _ => True)) _) (ownFrom_below (Nat.le_refl _) (by omega)))
      (fun _ _ _ _ _ hs _ _ => hs)
      ⟨⟨_, HI1.out.box, HI1.out.own, trivial⟩, HI1.out.bel⟩
      (SAx w.heap.size x y A cp (rowN x y) W.heap.size (W.heap.size + 1)) ?hAx ?assign ?body ?done ?stop
    case hAx =>
      rintro s a' u X Y row ⟨Bx, hh, ha⟩ hg hr
      refine ⟨Bx, ?_, ha⟩
      rw [hg.block Bx (Array.getElem?_eq_some_iff.1 hh).1 (fun e => ?_)]
      · exact hh
      · obtain ⟨_, o, ho, hc⟩ := hr Bx e.symm
        rw [hh] at ho
        cases ho
        cases hc
    case assign =>
      rintro l pre s X K ⟨⟨v, hv, hrow, _⟩, hB⟩ hK
      gi_wp2
      exact hK _ _ ((KeepsOthers.alloc _ _).from _) (Kc.alloc _ _) ⟨⟨v, hv.alloc _, hrow.alloc _, trivial⟩, hB.alloc hB.size _⟩ ⟨X.heap.size, heap_alloc_new _ _, rfl⟩
    case body =>
      rintro l pre s a' X hl ⟨r, hr⟩ ⟨⟨v, hv, hrow, _⟩, hB⟩ ⟨Bx, hbx, rfl⟩ hlt
      have hc := hv.cell
      have hx0 : X.cell? ⟨Bx, 0, none⟩ = some (.int .i64 s.2.b) := by rw [cell_of_row X Bx 0 _ _ _ hbx]; rfl
      have hx1 : X.cell? ⟨Bx, 1, none⟩ = some (.int .i64 s.2.f) := by rw [cell_of_row X Bx 1 _ _ _ hbx]; rfl
      have hx2 : X.cell? ⟨Bx, 2, none⟩ = some (.int .i64 s.2.t) := by rw [cell_of_row X Bx 2 _ _ _ hbx]; rfl
      have hll : (lst pre).length < rowN x y := by unfold lst; rw [List.length_map]; exact hlt
      have hrn := rowN_le x y
      have HP := Lib.hid hv
      have HR := Lib.hid hrow
      have HBB := Lib.hid hB
      have HL := Lib.hid hll
      have HBX := Lib.hid hbx
      clear hv hrow hB hll hbx hlt hr
      gi_wp2_with (gi_at_builtin; refine wpListIn_append_own _ rfl _ _ 25 rfl w.heap.size 23 i0 _ 3 24 Try.underlying25 hi hz0 hz1 hz2 rfl (by decide) _ _ _ rfl (HR.out.alloc _) ⟨X.heap.size, 0, none⟩ 1 1 s.2.cs rfl rfl (span_news s.2 X) (cs_one s.2) (by have := HL.out; unfold maxLen; omega) (by have := HL.out; omega) (by have := HBB.out.size; simp; omega) ?_; intro v' w1 hown' hgrow _; obtain ⟨g', cap', rfl⟩ := ownsRow_succ hown'; have HK := Lib.hid (kc_app (B1 := W.heap.size) (B2 := W.heap.size + 1) (x := x) (y := y) (v' := .slice (some ⟨g', 0, none⟩) ((lst pre).length + 1) cap') HP.out HR.out hgrow); obtain ⟨hv1, hv2, hr2, hk2, hb2⟩ := HP.out.appended (by decide) HR.out HBB.out.size (Nat.le_refl _) hown' hgrow; have hc1 := hv1.cell; have hf1 := hv1.frozen; have HV := Lib.hid hv2; have HR2 := Lib.hid hr2; have HKK := Lib.hid hk2; have HB2 := Lib.hid hb2; clear hv1 hv2 hr2 hk2 hb2 hgrow hown')
      refine ⟨HKK.out.from _, HK.out, ⟨⟨_, HV.out, ?_, trivial⟩, HBB.out.trans HB2.out⟩⟩
      rw [lst_snoc, cells3_snoc, List.length_append]
      exact HR2.out
    case done =>
      rintro D ys X hD rfl ⟨⟨v, hv, hrow, _⟩, hB⟩ hK
      have hc := hv.cell
      have HR := Lib.hid hrow
      have HBB := Lib.hid hB
      clear hrow hB hv
      gi_wp2
      refine ⟨by simp, .inl ⟨_, _, rfl, run_takeDeferred hK, ?_⟩⟩
      refine ⟨_, results_tmp rfl _ _ _, v, rfl, ?_, HBB.out.trans (belowK_b (w := w) (Nat.le_refl _) X D _ _ (by omega) hK rfl rfl)⟩
      have e : lst (overX x y) = rowL x y := overX_snd x y
      rw [← e]
      exact ownsRow_putObj HR.out _ hK rfl
    case stop =>
      rintro D c pre X _ _ h _
      exact h.elim
end Go.Proofs.Ytbencgjihoiieaa
