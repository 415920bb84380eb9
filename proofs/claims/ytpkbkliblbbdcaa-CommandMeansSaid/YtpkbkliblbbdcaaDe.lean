/- The walk of AnswerOf of package command. -/
import Derived.Test.YtpkbkliblbbdcaaDd
set_option linter.unusedVariables false
namespace Go.Proofs.Ytpkbkliblbbdcaa
open Go.RowKit
set_option maxRecDepth 20000

theorem results_cell_tmp {P : Program} {fn : Func} {p q : Tmp} {ty : TypeId} (h : fn.results = #[.cell p ty, .tmp q]) (tmps : Array Value) (w : World) (g : Nat) (t : TypeId) (cs : Array Value) (fr : Nat × Nat) (d : TypeDesc) (u : Value)
    (hp : tmps.getD p undef = .pointer (some ⟨g, 0, none⟩)) (hq : tmps.getD q undef = u) (hg : w.heap[g]? = some (.cells cs t fr))
    (hu : P.underlying ty = some d) (hd : (match d with | .struct _ | .array _ _ => true | _ => false) = true) (hi : (P.info? ty).map (·.size) = some cs.size) :
    (results fn tmps).run P w = .ok (.tuple #[.agg cs, u]) w := by
  have hp' : tmps[p]?.getD undef = .pointer (some ⟨g, 0, none⟩) := by simpa using hp
  have hq' : tmps[q]?.getD undef = u := by simpa using hq
  simp [results, h, hp', hq', asAddr, run_loadVar_row w g t ty cs fr d hg hu hd hi]

theorem dec_num {c : Int} {d : Nat} {l : List UInt8} (hc : c = 49 ∧ d = 1 ∨ c = 52 ∧ d = 4) : dec1 c l = if l.length < d then none else some (.num (num8 (l.take d)), d) := by
  rcases hc with ⟨rfl, rfl⟩ | ⟨rfl, rfl⟩
  · by_cases h : l.length < 1
    · rw [if_pos h]
      exact if_pos (show (l.length : Int) < lst 49 by have : lst 49 = 1 := by decide
                                                      omega)
    · rw [if_neg h]
      unfold dec1
      rw [if_neg (show ¬ (l.length : Int) < lst 49 by have : lst 49 = 1 := by decide
                                                      omega), if_neg (by decide), if_neg (by decide), if_neg (by decide)]
      rfl
  · by_cases h : l.length < 4
    · rw [if_pos h]
      exact if_pos (show (l.length : Int) < lst 52 by have : lst 52 = 4 := by decide
                                                      omega)
    · rw [if_neg h]
      unfold dec1
      rw [if_neg (show ¬ (l.length : Int) < lst 52 by have : lst 52 = 4 := by decide
                                                      omega), if_neg (by decide), if_neg (by decide), if_neg (by decide)]
      rfl
theorem num8_take_lt (l : List UInt8) (d : Nat) : num8 (l.take d) < 256 ^ d := by
  have h := num8_lt (l.take d)
  exact Nat.lt_of_lt_of_le h (Nat.pow_le_pow_right (by omega) (by rw [List.length_take]; omega))
theorem dec_blob {l : List UInt8} {p : PV} {k : Nat} (h : dec1 42 l = some (p, k)) : ∃ d, p = .blob d ∧ d.length ≤ 16777216 ∧ k = 4 + d.length := by
  unfold dec1 at h
  split at h
  · cases h
  · rw [if_neg (by decide), if_pos rfl] at h
    split at h
    · cases h
    · rename_i h2
      injection h with h
      injection h with h3 h4
      have hl : ((l.drop 4).take (num8 (l.take 4))).length = num8 (l.take 4) := by
        rw [List.length_take, List.length_drop]
        omega
      exact ⟨_, h3.symm, by rw [hl]; omega, by rw [hl]; exact h4.symm⟩

/-- what an answer's shape reads -/
theorem unp_ans {l : List UInt8} {ps : List PV} {n : Nat} (h : unpZ [49, 52, 42] l = some (ps, n)) : ∃ (a c : Nat) (d : List UInt8), ps = [.num a, .num c, .blob d] ∧ a < 256 ∧ c < 4294967296 ∧ d.length ≤ 16777216 := by
  simp only [unpZ] at h
  have e1 : dec1 ((49 : UInt8).toNat : Int) l = _ := dec_num (l := l) (.inl ⟨rfl, rfl⟩)
  rw [e1] at h
  by_cases h1 : l.length < 1
  · rw [if_pos h1] at h; cases h
  rw [if_neg h1] at h
  have e2 : dec1 ((52 : UInt8).toNat : Int) (l.drop 1) = _ := dec_num (l := l.drop 1) (.inr ⟨rfl, rfl⟩)
  simp only [e2] at h
  by_cases h2 : (l.drop 1).length < 4
  · rw [if_pos h2] at h; cases h
  rw [if_neg h2] at h
  cases h3 : dec1 ((42 : UInt8).toNat : Int) ((l.drop 1).drop 4) with
  | none => simp only [h3] at h; cases h
  | some r =>
    obtain ⟨p, k⟩ := r
    obtain ⟨d, rfl, hd, _⟩ := dec_blob h3
    simp only [h3] at h
    injection h with h
    injection h with h4 h5
    exact ⟨_, _, d, h4.symm, num8_take_lt l 1, num8_take_lt (l.drop 1) 4, hd⟩

/-- the answer whose bytes these are -/
def ansOf (l : List UInt8) : Option AN :=
  match unpZ [49, 52, 42] l with
  | some ([.num a, .num c, .blob d], n) => if n = l.length ∧ mayA ⟨(a : Int), (c : Int), d⟩ = true then some ⟨(a : Int), (c : Int), d⟩ else none
  | _ => none

/-- what AnswerOf hands back -/
def AOf (w : World) (r : Option AN) (en : Value → Prop) (e : Ending) (w' : World) : Prop :=
  ∃ A c u, e = .returned (.tuple #[.agg #[.int .i64 (r.getD ⟨0, 0, []⟩).k, .int .i64 (r.getD ⟨0, 0, []⟩).s, .slice A (r.getD ⟨0, 0, []⟩).d.length c], u]) ∧ en u ∧ Hid (Shows w' w'.heap.size A (r.getD ⟨0, 0, []⟩).d.length (cells8 (r.getD ⟨0, 0, []⟩).d) ∧ (r.getD ⟨0, 0, []⟩).d.length ≤ c ∧ c ≤ 9223372036854775807 ∧ Below w.heap.size w w')
theorem AOf.zero {w w' : World} {en : Value → Prop} {u : Value} (hu : en u) (hb : Below w.heap.size w w') : AOf w none en (.returned (.tuple #[.agg #[.int .i64 0, .int .i64 0, .slice none 0 0], u])) w' :=
  ⟨none, 0, u, rfl, hu, Shows.empty _ _ _, Nat.le_refl _, by omega, hb⟩

/-- the result's box, noughts -/
def ZA (w : World) (g : Nat) : Prop := w.heap[g]? = some (.cells #[.int .i64 0, .int .i64 0, .slice none 0 0] 41 (0, 0))
theorem ZA.cells {w : World} {g : Nat} (h : ZA w g) : (w.cell? ⟨g, 0, none⟩ = some (.int .i64 0) ∧ w.cell? ⟨g, 1, none⟩ = some (.int .i64 0) ∧ w.cell? ⟨g, 2, none⟩ = some (.slice none 0 0)) ∧ ∀ j, w.frozen? ⟨g, j, none⟩ = false :=
  ⟨⟨cell_of_row w g 0 _ _ (0, 0) h, cell_of_row w g 1 _ _ (0, 0) h, cell_of_row w g 2 _ _ (0, 0) h⟩, fun j => frozen_of_row w g j _ _ h⟩
theorem ZA.below {w w' : World} {B g : Nat} (h : ZA w g) (hb : Below B w w') (hg : g < B) : ZA w' g := (hb.block g hg).trans h

set_option maxHeartbeats 8000000 in
theorem ansOf_any (A : Option Addr) (cap : Nat) (l : List UInt8) (w : World) (hs : Shows w w.heap.size A l.length (cells8 l)) (hc : l.length ≤ cap) (hcm : cap ≤ 9223372036854775807) :
    Calls Try.prog 21 #[.slice A l.length cap] w (AOf w (ansOf l) (fun u => u = .int .i64 (if (ansOf l).isSome then 0 else 4))) := by
  have HU := Lib.hid (fun W hS => unpack_any ⟨#[49, 52, 42]⟩ w.heap.size A cap l W (by decide) hS)
  have HS := Lib.hid hs
  clear hs
  cases hu : unpZ [49, 52, 42] l with
  | none =>
    have hr : ansOf l = none := by simp only [ansOf, hu]
    rw [hr]
    clear hr
    have HUZ := Lib.hid hu
    clear hu
    go_enter Try.func21, Try.ntmps21
    go_wp2_with fail
    refine (HU.out _ (HS.out.alloc (Nat.le_refl _) _) (by simp) hc hcm).mono ?_
    intro e w1 hun
    obtain ⟨hb1, hun⟩ := hun
    rw [if_pos (by decide)] at hun
    have e0 : bs (⟨#[49, 52, 42]⟩ : ByteArray) = [49, 52, 42] := rfl
    rw [e0, HUZ.out] at hun
    subst hun
    have hz : ZA w1 w.heap.size := (hb1.block _ (by simp)).trans (heap_alloc_new _ _)
    obtain ⟨⟨z0, z1, z2⟩, zf⟩ := hz.cells
    have HZ := Lib.hid hz
    have HB := Lib.hid (((Below.refl _ w).alloc (Nat.le_refl _) (.cells #[.int .i64 0, .int .i64 0, .slice none 0 0] 41)).trans (hb1.mono (by simp)))
    clear hb1 hz
    go_wp2_with fail
    rw [three HZ.out]
    refine bodyPost_ret (results_cell_tmp rfl _ _ w.heap.size 41 _ (0, 0) _ _ rfl rfl (setRow_heap _ _ _ _ _ _ HZ.out) Try.underlying41 rfl an_size) rfl ?_
    exact AOf.zero rfl (below_setRow HB.out (Nat.le_refl _) _)
  | some r =>
    obtain ⟨ps, n⟩ := r
    obtain ⟨a, c, d, rfl, ha, hc4, hd⟩ := unp_ans hu
    have HUZ := Lib.hid hu
    have e0 : bs (⟨#[49, 52, 42]⟩ : ByteArray) = [49, 52, 42] := rfl
    have hwa : IntKind.i64.wrap (a : Int) = (a : Int) := toI_nat a (by omega)
    have hwc : IntKind.i64.wrap (c : Int) = (c : Int) := toI_nat c (by omega)
    by_cases hn : n = l.length
    · have HMA := Lib.hid (fun Ax cx W => mayA_any (a : Int) (c : Int) d Ax cx W (by omega))
      have hr : ansOf l = if mayA ⟨(a : Int), (c : Int), d⟩ = true then some ⟨(a : Int), (c : Int), d⟩ else none := by
        simp only [ansOf, hu, hn, true_and]
      rw [hr]
      clear hr hu
      generalize mayA ⟨(a : Int), (c : Int), d⟩ = mb at *
      go_enter Try.func21, Try.ntmps21
      go_wp2_with fail
      refine (HU.out _ (HS.out.alloc (Nat.le_refl _) _) (by simp) hc hcm).mono ?_
      intro e w1 hun
      rw [e0] at hun
      obtain ⟨A3, c3, vs, rfl, hown, hall, hb1⟩ := unpacked_ok hun (by decide) HUZ.out
      clear hun
      have hz : ZA w1 w.heap.size := (hb1.block _ (by simp)).trans (heap_alloc_new _ _)
      have HB := Lib.hid (((Below.refl _ w).alloc (Nat.le_refl _) (.cells #[.int .i64 0, .int .i64 0, .slice none 0 0] 41)).trans (hb1.mono (by simp)))
      obtain ⟨g, rfl⟩ := own_addr hown (show 0 < 3 by omega)
      obtain ⟨x0, hx0, ho0⟩ := hall.2 0 (show 0 < 3 by omega)
      obtain ⟨x1, hx1, ho1⟩ := hall.2 1 (show 1 < 3 by omega)
      obtain ⟨x2, hx2, ho2⟩ := hall.2 2 (show 2 < 3 by omega)
      obtain ⟨rfl, _⟩ : x0 = .iface 23 (.int .u64 (a : Int)) ∧ a < 18446744073709551616 := ho0
      obtain ⟨rfl, _⟩ : x1 = .iface 23 (.int .u64 (c : Int)) ∧ c < 18446744073709551616 := ho1
      obtain ⟨Ad, cd, rfl, hod, _⟩ : ∃ Ad cd, x2 = .iface 24 (.slice Ad d.length cd) ∧ w1.ownsRow _ 5 1 (.slice Ad d.length cd) d.length (cells8 d) ∧ d.length ≤ 16777216 := ho2
      have k0 : w1.cell? ⟨g, 0, none⟩ = _ := (hown.cellAt 0 (show 0 < 3 * 1 by omega)).trans hx0
      have k1 : w1.cell? ⟨g, 1, none⟩ = _ := (hown.cellAt 1 (show 1 < 3 * 1 by omega)).trans hx1
      have k2 : w1.cell? ⟨g, 2, none⟩ = _ := (hown.cellAt 2 (show 2 < 3 * 1 by omega)).trans hx2
      have q0 := ask_u64_u64 (.int .u64 (a : Int))
      have q1 := ask_u64_u64 (.int .u64 (c : Int))
      have q2 := ask_bytes_bytes (.slice Ad d.length cd)
      have HOD := Lib.hid hod
      obtain ⟨Ad', cd', hvd, hcd, hcdm⟩ := own_form hod
      injection hvd with e1 e2 e3
      subst e1
      subst e3
      unfold maxLen at hcdm
      have hn3 : ([PV.num a, PV.num c, PV.blob d] : List PV).length = 3 := rfl
      rw [hn3]
      subst hn
      have HZ := Lib.hid hz
      clear hown hall hx0 hx1 hx2 hod hb1 hz hn3
      go_wp2_with fail
      refine (HMA.out Ad cd _).mono ?_
      rintro e w2 ⟨rfl, hb2⟩
      have hbx : BoxA w2 w1.heap.size ⟨(a : Int), (c : Int), d⟩ Ad cd := (hb2.block _ (by simp)).trans (heap_alloc_new _ _)
      have hlt : w.heap.size < w1.heap.size := (Array.getElem?_eq_some_iff.1 HZ.out).1
      have hbu : Below w1.heap.size w1 w2 := ((Below.refl _ w1).alloc (Nat.le_refl _) _).trans (hb2.mono (by simp))
      have hz2 : ZA w2 w.heap.size := HZ.out.below hbu hlt
      have HB2 : Hid (Below w.heap.size w w2) := HB.out.trans (hbu.mono HB.out.size)
      have HOD2 := Lib.hid (own_below HOD.out hbu)
      obtain ⟨⟨z0, z1, z2⟩, zf⟩ := hz2.cells
      obtain ⟨l0, l1, l2⟩ := hbx.cells
      have HZ2 := Lib.hid hz2
      clear hbx hbu hz2 hb2 HB HZ HOD k0 k1 k2 q0 q1 q2 HMA HU HUZ hwa hwc
      cases mb with
      | false =>
        go_wp2_with fail
        rw [three HZ2.out]
        refine bodyPost_ret (results_cell_tmp rfl _ _ w.heap.size 41 _ (0, 0) _ _ rfl rfl (setRow_heap _ _ _ _ _ _ HZ2.out) Try.underlying41 rfl an_size) rfl ?_
        exact AOf.zero (en := fun u => u = .int .i64 4) rfl (below_setRow HB2.out (Nat.le_refl _) _)
      | true =>
        go_wp2_with fail
        rw [three HZ2.out]
        refine bodyPost_ret (results_cell_tmp rfl _ _ w.heap.size 41 _ (0, 0) _ _ rfl rfl (setRow_heap _ _ _ _ _ _ HZ2.out) Try.underlying41 rfl an_size) rfl ?_
        show AOf w (some ⟨(a : Int), (c : Int), d⟩) _ _ _
        exact ⟨Ad, cd, _, rfl, rfl, Shows.owned (own_setRow HOD2.out (by simp) _), hcd, hcdm, below_setRow HB2.out (Nat.le_refl _) _⟩
    · have hr : ansOf l = none := by
        simp only [ansOf, hu]
        exact if_neg (fun h => hn h.1)
      rw [hr]
      have hnI : ((n : Int) != (l.length : Int)) = true := by rw [bne_iff_ne]; omega
      clear hr hu hn
      go_enter Try.func21, Try.ntmps21
      go_wp2_with fail
      refine (HU.out _ (HS.out.alloc (Nat.le_refl _) _) (by simp) hc hcm).mono ?_
      intro e w1 hun
      rw [e0] at hun
      obtain ⟨A3, c3, vs, rfl, hown, hall, hb1⟩ := unpacked_ok hun (by decide) HUZ.out
      clear hun
      have hz : ZA w1 w.heap.size := (hb1.block _ (by simp)).trans (heap_alloc_new _ _)
      obtain ⟨⟨z0, z1, z2⟩, zf⟩ := hz.cells
      have HZ := Lib.hid hz
      have HB := Lib.hid (((Below.refl _ w).alloc (Nat.le_refl _) (.cells #[.int .i64 0, .int .i64 0, .slice none 0 0] 41)).trans (hb1.mono (by simp)))
      clear hb1 hz hown hall
      go_wp2_with fail
      rw [three HZ.out]
      refine bodyPost_ret (results_cell_tmp rfl _ _ w.heap.size 41 _ (0, 0) _ _ rfl rfl (setRow_heap _ _ _ _ _ _ HZ.out) Try.underlying41 rfl an_size) rfl ?_
      exact AOf.zero rfl (below_setRow HB.out (Nat.le_refl _) _)

end Go.Proofs.Ytpkbkliblbbdcaa
