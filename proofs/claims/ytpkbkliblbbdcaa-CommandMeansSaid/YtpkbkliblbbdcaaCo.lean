/- Walks: copies; what an operation names besides its volume. -/
import Derived.Test.YtpkbkliblbbdcaaCn
set_option linter.unusedVariables false
namespace Go.Proofs.Ytpkbkliblbbdcaa
open Go.RowKit
set_option maxRecDepth 20000

set_option maxHeartbeats 1000000 in
theorem clone_any (w : World) (A : Option Addr) (n cap : Nat) (l : List UInt8) (hm : l.length ≤ 1073741824) (h : Shows w w.heap.size A n (cells8 l)) :
    Calls Try.prog 37 #[.slice A n cap] w fun e w' => ∃ v, e = .returned v ∧ Hid (w'.ownsRow w.heap.size 5 1 v n (cells8 l) ∧ Below w.heap.size w w') := by
  have hn := bytes_row h
  cases A with
  | none =>
    have h0 : n = 0 := by
      by_cases hp : 0 < n
      · obtain ⟨p, hp2, _⟩ := h.lies hp
        cases hp2
      · omega
    have hl : l = [] := List.eq_nil_of_length_eq_zero (by omega)
    subst h0
    subst hl
    clear h hn
    have he2 : (Op.equal 24 (.slice none 0 cap) (.slice none 0 0)).run Try.prog w = .ok true w := run_equal_slice_nil w _ _ none 0 cap Try.underlying24
    have heq : (binOp .eql 24 (.slice none 0 cap) (.slice none 0 0)).run Try.prog w = .ok (.bool true) w := by
      simp only [binOp]
      simp [he2]
    go_enter Try.func37, Try.ntmps37
    go_wp2
    go_ret
    exact ⟨_, rfl, ⟨rfl, .inl ⟨rfl, rfl⟩⟩, Below.refl _ _⟩
  | some p =>
    obtain ⟨i0, hi, hz0, hz1, hz2⟩ := info_parts u8_info
    have he2 : (Op.equal 24 (.slice (some p) n cap) (.slice none 0 0)).run Try.prog w = .ok false w := run_equal_slice_nil w _ _ (some p) n cap Try.underlying24
    have heq : (binOp .eql 24 (.slice (some p) n cap) (.slice none 0 0)).run Try.prog w = .ok (.bool false) w := by
      simp only [binOp]
      simp [he2]
    have H := Lib.hid h
    have HN := Lib.hid hn
    have hm2 : n ≤ 1073741824 := by omega
    clear h hn hm he2
    have H0 : Hid ((w.alloc (.cells #[] 5)).ownsRow w.heap.size 5 1 (.slice (some ⟨w.heap.size, 0, none⟩) 0 0) 0 (cells8 [])) :=
      ⟨by simp [cells8], .inr ⟨w.heap.size, 0, #[], rfl, Nat.le_refl _, heap_alloc_new _ _, Nat.le_refl _, by unfold maxLen; omega, rfl, by simp [cells8]⟩⟩
    go_enter Try.func37, Try.ntmps37
    go_wp2_with (first
      | (at_builtin; refine wpList_append_shows _ rfl _ _ 24 rfl w.heap.size 5 i0 _ 1 Try.underlying24 hi hz0 hz1 hz2 rfl _ 0 _ rfl H0.out w.heap.size (some p) n cap (cells8 l) rfl (H.out.alloc (Nat.le_refl _) _) (cells8_one _) (by unfold maxLen; omega) (by omega) (by simp) ?_; intro v' w1 hown hgr; have HO := Lib.hid hown; have HG := Lib.hid hgr; clear hown hgr)
      | fail)
    go_ret
    refine ⟨_, rfl, ?_, ?_⟩
    · have h := HO.out
      rw [Nat.zero_add] at h
      exact h
    · exact ((Below.refl _ w).alloc (Nat.le_refl _) _).trans (HG.out.below H0.out (Nat.le_refl _) (by simp))

theorem setCell_row {w : World} {g i : Nat} {cur : Array Value} {t : TypeId} {fr : Nat × Nat} {x : Value} (hg : w.heap[g]? = some (.cells cur t fr)) (v : Value) : (w.setRow g (cur.setIfInBounds i x)).heap[g]? = some (.cells (cur.setIfInBounds i x) t fr) := setRow_heap _ _ _ _ _ _ hg
/-- a whole operation stored cell by cell -/
theorem seven {w : World} {g : Nat} {a0 a1 a2 a3 a4 a5 a6 : Value} {t : TypeId} {fr : Nat × Nat} (hg : w.heap[g]? = some (.cells #[a0, a1, a2, a3, a4, a5, a6] t fr)) (b0 b1 b2 b3 b4 b5 b6 : Value) :
    ((((((w.setCell ⟨g, 0, none⟩ b0).setCell ⟨g, 1, none⟩ b1).setCell ⟨g, 2, none⟩ b2).setCell ⟨g, 3, none⟩ b3).setCell ⟨g, 4, none⟩ b4).setCell ⟨g, 5, none⟩ b5).setCell ⟨g, 6, none⟩ b6 = w.setRow g #[b0, b1, b2, b3, b4, b5, b6] := by
  rw [setCell_eq_setRow w g 0 _ _ _ _ hg]
  have h0 := setRow_heap w g _ (#[a0, a1, a2, a3, a4, a5, a6].setIfInBounds 0 b0) t fr hg
  rw [setCell_eq_setRow _ g 1 _ _ _ _ h0, setRow_setRow]
  have h1 := setRow_heap w g _ ((#[a0, a1, a2, a3, a4, a5, a6].setIfInBounds 0 b0).setIfInBounds 1 b1) t fr hg
  rw [setCell_eq_setRow _ g 2 _ _ _ _ h1, setRow_setRow]
  have h2 := setRow_heap w g _ (((#[a0, a1, a2, a3, a4, a5, a6].setIfInBounds 0 b0).setIfInBounds 1 b1).setIfInBounds 2 b2) t fr hg
  rw [setCell_eq_setRow _ g 3 _ _ _ _ h2, setRow_setRow]
  have h3 := setRow_heap w g _ ((((#[a0, a1, a2, a3, a4, a5, a6].setIfInBounds 0 b0).setIfInBounds 1 b1).setIfInBounds 2 b2).setIfInBounds 3 b3) t fr hg
  rw [setCell_eq_setRow _ g 4 _ _ _ _ h3, setRow_setRow]
  have h4 := setRow_heap w g _ (((((#[a0, a1, a2, a3, a4, a5, a6].setIfInBounds 0 b0).setIfInBounds 1 b1).setIfInBounds 2 b2).setIfInBounds 3 b3).setIfInBounds 4 b4) t fr hg
  rw [setCell_eq_setRow _ g 5 _ _ _ _ h4, setRow_setRow]
  have h5 := setRow_heap w g _ ((((((#[a0, a1, a2, a3, a4, a5, a6].setIfInBounds 0 b0).setIfInBounds 1 b1).setIfInBounds 2 b2).setIfInBounds 3 b3).setIfInBounds 4 b4).setIfInBounds 5 b5) t fr hg
  rw [setCell_eq_setRow _ g 6 _ _ _ _ h5, setRow_setRow]
  rfl
theorem three {w : World} {g : Nat} {a0 a1 a2 : Value} {t : TypeId} {fr : Nat × Nat} (hg : w.heap[g]? = some (.cells #[a0, a1, a2] t fr)) (b0 b1 b2 : Value) :
    ((w.setCell ⟨g, 0, none⟩ b0).setCell ⟨g, 1, none⟩ b1).setCell ⟨g, 2, none⟩ b2 = w.setRow g #[b0, b1, b2] := by
  rw [setCell_eq_setRow w g 0 _ _ _ _ hg]
  have h0 := setRow_heap w g _ (#[a0, a1, a2].setIfInBounds 0 b0) t fr hg
  rw [setCell_eq_setRow _ g 1 _ _ _ _ h0, setRow_setRow]
  have h1 := setRow_heap w g _ ((#[a0, a1, a2].setIfInBounds 0 b0).setIfInBounds 1 b1) t fr hg
  rw [setCell_eq_setRow _ g 2 _ _ _ _ h1, setRow_setRow]
  rfl
theorem own_setRow {w : World} {base e s n g : Nat} {v : Value} {xs : List Value} (h : w.ownsRow base e s v n xs) (hg : g < base) (cs : Array Value) : (w.setRow g cs).ownsRow base e s v n xs := by
  refine ⟨h.1, ?_⟩
  rcases h.2 with hn | ⟨g', cap, cur, hv, hb, hh, rest⟩
  · exact .inl hn
  · exact .inr ⟨g', cap, cur, hv, hb, (setRow_other _ _ _ _ (by omega)).trans hh, rest⟩
theorem op_size : (Try.prog.info? 26).map (·.size) = some 7 := by kernel_rfl
theorem an_size : (Try.prog.info? 41).map (·.size) = some 3 := by kernel_rfl

section
variable (k : Int) (v t : Nat) (s a c : Int) (d : List UInt8) (A : Option Addr) (cap : Nat) (w : World)

set_option maxHeartbeats 1000000 in
theorem copyO_any (hm : d.length ≤ 1073741824) (h : Shows w w.heap.size A d.length (cells8 d)) :
    Calls Try.prog 12 #[.agg #[.int .i64 k, .int .u64 (v : Int), .int .u64 (t : Int), .int .i64 s, .int .i64 a, .int .i64 c, .slice A d.length cap]] w fun e w' => ∃ A' c', e = .returned (.agg #[.int .i64 k, .int .u64 (v : Int), .int .u64 (t : Int), .int .i64 s, .int .i64 a, .int .i64 c, .slice A' d.length c']) ∧ Hid (w'.ownsRow w.heap.size 5 1 (.slice A' d.length c') d.length (cells8 d)) ∧ Below w.heap.size w w' := by
  have H := Lib.hid h
  clear h
  go_enter Try.func12, Try.ntmps12
  go_wp2_with fail
  refine (clone_any _ A _ cap d hm (((H.out.alloc (Nat.le_refl _) _).alloc (by simp) _).wide (by simp; omega))).mono ?_
  rintro e w2 ⟨v', rfl, hown⟩
  obtain ⟨A', c', rfl, hc1, hc2⟩ := own_form hown.out.1
  have hb1 : Box w2 w.heap.size ⟨k, v, t, s, a, c, d⟩ A cap := (hown.out.2.block _ (by simp; omega)).trans ((Below.heap_alloc _ _ _ (by simp)).trans (heap_alloc_new _ _))
  have hb2 : Box w2 (w.heap.size + 1) ⟨0, 0, 0, 0, 0, 0, []⟩ none 0 := by
    have h := heap_alloc_new (w.alloc (.cells #[.int .i64 k, .int .u64 (v : Int), .int .u64 (t : Int), .int .i64 s, .int .i64 a, .int .i64 c, .slice A d.length cap] 26)) (.cells #[.int .i64 0, .int .u64 0, .int .u64 0, .int .i64 0, .int .i64 0, .int .i64 0, .slice none 0 0] 26)
    rw [World.size_alloc] at h
    exact (hown.out.2.block _ (by simp)).trans h
  have hB : Hid (Below w.heap.size w w2) := (below2 w _ _).trans (hown.out.2.mono (by simp; omega))
  have HO : Hid (w2.ownsRow (w.heap.size + 2) 5 1 (.slice A' d.length c') d.length (cells8 d)) := by
    have h := hown.out.1
    rw [World.size_alloc, World.size_alloc] at h
    exact h
  obtain ⟨l0, l1, l2, l3, l4, l5, l6⟩ := hb1.cells
  obtain ⟨m0, m1, m2, m3, m4, m5, m6⟩ := hb2.cells
  have f1 := fun j => frozen_of_row w2 w.heap.size j _ _ hb1
  have f2 := fun j => frozen_of_row w2 (w.heap.size + 1) j _ _ hb2
  have HB1 := Lib.hid hb1
  have HB2 := Lib.hid hb2
  clear hown hb1 hb2
  go_wp2_with fail
  have e1 := setCell_eq_setRow w2 w.heap.size 6 _ _ _ (.slice A' d.length c') HB1.out
  rw [e1]
  have HB3 : (w2.setRow w.heap.size (#[.int .i64 k, .int .u64 (v : Int), .int .u64 (t : Int), .int .i64 s, .int .i64 a, .int .i64 c, .slice A d.length cap].setIfInBounds 6 (.slice A' d.length c'))).heap[w.heap.size + 1]? = _ := (setRow_other _ _ _ _ (by omega)).trans HB2.out
  rw [seven HB3]
  refine bodyPost_ret (results_cell_row rfl _ _ (w.heap.size + 1) 26 _ (0, 0) _ rfl (setRow_heap _ _ _ _ _ _ HB3) Try.underlying26 rfl op_size) rfl ?_
  refine ⟨A', c', rfl, ?_, below_setRow (below_setRow hB.out (Nat.le_refl _) _) (by omega) _⟩
  exact own_lo (own_setRow (own_setRow HO.out (by omega) _) (by omega) _) (by omega)

set_option maxHeartbeats 1000000 in
theorem copyA_any (hm : d.length ≤ 1073741824) (h : Shows w w.heap.size A d.length (cells8 d)) :
    Calls Try.prog 26 #[.agg #[.int .i64 k, .int .i64 s, .slice A d.length cap]] w fun e w' => ∃ A' c', e = .returned (.agg #[.int .i64 k, .int .i64 s, .slice A' d.length c']) ∧ Hid (w'.ownsRow w.heap.size 5 1 (.slice A' d.length c') d.length (cells8 d)) ∧ Below w.heap.size w w' := by
  have H := Lib.hid h
  clear h
  go_enter Try.func26, Try.ntmps26
  go_wp2_with fail
  refine (clone_any _ A _ cap d hm (((H.out.alloc (Nat.le_refl _) _).alloc (by simp) _).wide (by simp; omega))).mono ?_
  rintro e w2 ⟨v', rfl, hown⟩
  obtain ⟨A', c', rfl, hc1, hc2⟩ := own_form hown.out.1
  have hb1 : w2.heap[w.heap.size]? = some (.cells #[.int .i64 k, .int .i64 s, .slice A d.length cap] 41 (0, 0)) := (hown.out.2.block _ (by simp; omega)).trans ((Below.heap_alloc _ _ _ (by simp)).trans (heap_alloc_new _ _))
  have hb2 : w2.heap[w.heap.size + 1]? = some (.cells #[.int .i64 0, .int .i64 0, .slice none 0 0] 41 (0, 0)) := by
    have h := heap_alloc_new (w.alloc (.cells #[.int .i64 k, .int .i64 s, .slice A d.length cap] 41)) (.cells #[.int .i64 0, .int .i64 0, .slice none 0 0] 41)
    rw [World.size_alloc] at h
    exact (hown.out.2.block _ (by simp)).trans h
  have hB : Hid (Below w.heap.size w w2) := (below2 w _ _).trans (hown.out.2.mono (by simp; omega))
  have HO : Hid (w2.ownsRow (w.heap.size + 2) 5 1 (.slice A' d.length c') d.length (cells8 d)) := by
    have h := hown.out.1
    rw [World.size_alloc, World.size_alloc] at h
    exact h
  have l0 : w2.cell? ⟨w.heap.size, 0, none⟩ = some (.int .i64 k) := cell_of_row w2 _ 0 _ _ (0, 0) hb1
  have l1 : w2.cell? ⟨w.heap.size, 1, none⟩ = some (.int .i64 s) := cell_of_row w2 _ 1 _ _ (0, 0) hb1
  have l2 : w2.cell? ⟨w.heap.size, 2, none⟩ = some (.slice A d.length cap) := cell_of_row w2 _ 2 _ _ (0, 0) hb1
  have m0 : w2.cell? ⟨w.heap.size + 1, 0, none⟩ = some (.int .i64 0) := cell_of_row w2 _ 0 _ _ (0, 0) hb2
  have m1 : w2.cell? ⟨w.heap.size + 1, 1, none⟩ = some (.int .i64 0) := cell_of_row w2 _ 1 _ _ (0, 0) hb2
  have m2 : w2.cell? ⟨w.heap.size + 1, 2, none⟩ = some (.slice none 0 0) := cell_of_row w2 _ 2 _ _ (0, 0) hb2
  have f1 := fun j => frozen_of_row w2 w.heap.size j _ _ hb1
  have f2 := fun j => frozen_of_row w2 (w.heap.size + 1) j _ _ hb2
  have HB1 := Lib.hid hb1
  have HB2 := Lib.hid hb2
  clear hown hb1 hb2
  go_wp2_with fail
  have e1 := setCell_eq_setRow w2 w.heap.size 2 _ _ _ (.slice A' d.length c') HB1.out
  rw [e1]
  have HB3 : (w2.setRow w.heap.size (#[.int .i64 k, .int .i64 s, .slice A d.length cap].setIfInBounds 2 (.slice A' d.length c'))).heap[w.heap.size + 1]? = _ := (setRow_other _ _ _ _ (by omega)).trans HB2.out
  rw [three HB3]
  refine bodyPost_ret (results_cell_row rfl _ _ (w.heap.size + 1) 41 _ (0, 0) _ rfl (setRow_heap _ _ _ _ _ _ HB3) Try.underlying41 rfl an_size) rfl ?_
  refine ⟨A', c', rfl, ?_, below_setRow (below_setRow hB.out (Nat.le_refl _) _) (by omega) _⟩
  exact own_lo (own_setRow (own_setRow HO.out (by omega) _) (by omega) _) (by omega)

/-- what an operation names besides its volume -/
def partV (k : Int) (v t : Nat) (s a c : Int) (d : List UInt8) : Value :=
  if k = 5 then .iface 54 (.agg #[.int .i64 a, .int .i64 ((d.length / 64 : Nat) : Int)])
  else if k = 6 ∨ k = 9 then .iface 54 (.agg #[.int .i64 a, .int .i64 c])
  else if k = 7 then .iface 56 (.agg #[.int .i64 a, .int .i64 c])
  else if k = 1 ∨ k = 3 then .iface 3 (.int .i64 s)
  else if k = 4 then .iface 60 (.agg #[.int .u64 (v : Int), .int .u64 (t : Int)])
  else .nilIface

set_option maxHeartbeats 2000000 in
theorem part_any (hd : d.length ≤ 9223372036854775807) : Calls Try.prog 30 #[.agg #[.int .i64 k, .int .u64 (v : Int), .int .u64 (t : Int), .int .i64 s, .int .i64 a, .int .i64 c, .slice A d.length cap]] w fun e w' => e = .returned (partV k v t s a c d) ∧ Below w.heap.size w w' := by
  by_cases h : 1 ≤ k ∧ k ≤ 9
  · have hk : k = 1 ∨ k = 2 ∨ k = 3 ∨ k = 4 ∨ k = 5 ∨ k = 6 ∨ k = 7 ∨ k = 8 ∨ k = 9 := by omega
    have hdq : (d.length : Int).tdiv 64 = ((d.length / 64 : Nat) : Int) := by rw [Int.tdiv_eq_ediv_of_nonneg (by omega)]; omega
    have hq9 : d.length / 64 ≤ 9223372036854775807 := by omega
    generalize hq : d.length / 64 = q at *
    have HQ := Lib.hid hq
    clear hq h hd
    rcases hk with rfl | rfl | rfl | rfl | rfl | rfl | rfl | rfl | rfl
    all_goals
      go_enter Try.func30, Try.ntmps30
      go_wp2
      go_ret
      first
        | exact ⟨rfl, (Below.refl _ _).alloc (Nat.le_refl _) _⟩
        | exact ⟨by rw [← HQ.out]; rfl, (Below.refl _ _).alloc (Nat.le_refl _) _⟩
  · have e : ∀ j : Int, 1 ≤ j → j ≤ 9 → (k == j) = false := fun j h3 h4 => by rw [beq_eq_false_iff_ne]; omega
    have b1 := e 1 (by omega) (by omega)
    have b3 := e 3 (by omega) (by omega)
    have b4 := e 4 (by omega) (by omega)
    have b5 := e 5 (by omega) (by omega)
    have b6 := e 6 (by omega) (by omega)
    have b7 := e 7 (by omega) (by omega)
    have b9 := e 9 (by omega) (by omega)
    have hp : partV k v t s a c d = .nilIface := by
      unfold partV
      repeat rw [if_neg (by omega)]
    rw [hp]
    clear e hp h
    go_enter Try.func30, Try.ntmps30
    go_wp2
    go_ret
    exact ⟨rfl, (Below.refl _ _).alloc (Nat.le_refl _) _⟩

end

end Go.Proofs.Ytpkbkliblbbdcaa
