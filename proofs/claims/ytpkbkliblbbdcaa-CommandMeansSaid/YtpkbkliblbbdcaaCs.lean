/- Walks: the document's shapes and values. -/
import Derived.Test.YtpkbkliblbbdcaaCr
import Derived.Test.YtpkbkliblbbdcaaWf
import Derived.Test.YtpkbkliblbbdcaaWg
set_option linter.unusedVariables false
namespace Go.Proofs.Ytpkbkliblbbdcaa
open Go.RowKit
set_option maxRecDepth 20000

/-- the document's value of one of wire's -/
def lvP : PV → LVal
  | .num n => lvN n
  | .blob l => lvB l
  | _ => lvN 0
theorem told_lvP {o : OP} {x : Int} : toldP (lvP (valP o x)) = valP o x := by
  unfold valP
  repeat' split
  all_goals rfl

def rshapeF (c : UInt8) : UInt8 := if c = 100 then 42 else 52
theorem rshape_eq {k : Int} : (bs (rtxtK k)).map rshapeF = ((namesL k).getD []).map shapeF := by
  rcases namesL_cases k with ⟨h, h2⟩ | h
  · simp only [rtxtK, h]
    rfl
  · rcases h with rfl | rfl | rfl | rfl | rfl | rfl | rfl | rfl | rfl <;> decide

def rshS (l : List UInt8) : ByteArray := ⟨(l.map rshapeF).toArray⟩
theorem rsh_cat (l : List UInt8) (x : UInt8) : (⟨(l.map rshapeF).toArray⟩ : ByteArray) ++ ⟨#[x]⟩ = ⟨(l.map rshapeF ++ [x]).toArray⟩ := by
  ext1
  simp [ByteArray.data_append]

set_option maxHeartbeats 1000000 in
theorem rshape_any (k : Int) (w : World) : Calls Try.prog 45 #[.int .i64 k] w fun e w' => e = .returned (.string (rshS (bs (rtxtK k)))) ∧ w = w' := by
  have h3 := rtxt_size k
  have HN := Lib.hid (rnames_any k)
  generalize rtxtK k = R at *
  go_enter Try.func45, Try.ntmps45
  go_wp2
  go_loop [3, 4] (fun u j => ∃ i : Nat, i ≤ R.size ∧ j = .int .i64 (i : Int) ∧ u = .string (rshS ((bs R).take i))) (fun _ j => R.size - (intOf j).toNat)
  case atStart => exact ⟨0, Nat.zero_le _, rfl, rfl⟩
  case round =>
    obtain ⟨i, hp, rfl, rfl⟩ := hrel
    by_cases hlt : i < R.size
    · have hst : rshS ((bs R).take (i + 1)) = ⟨(((bs R).take i).map rshapeF ++ [rshapeF (R[i]'hlt)]).toArray⟩ := by rw [rshS, bs_take R i hlt, List.map_append]; rfl
      have HS := Lib.hid hst
      have hz : (rshS ((bs R).take i)).size ≤ 1001 := by
        show (((bs R).take i).map rshapeF).toArray.size ≤ 1001
        simp
        omega
      clear hst
      by_cases hc : (R[i]'hlt) = 100
      · have e : (((R[i]'hlt).toNat : Int) == 100) = true := by rw [hc]; rfl
        have HC := Lib.hid hc
        clear hc
        go_wp2_with (go_at_call 42; refine (HN.out _).mono ?_; rintro e w' ⟨rfl, rfl⟩)
        go_round
        case rel => exact ⟨i + 1, hlt, by go_num, by rw [HS.out, HC.out, rshS, rsh_cat]; rfl⟩
        case measure => simp [intOf]; omega
      · have e : (((R[i]'hlt).toNat : Int) == 100) = false := by rw [beq_eq_false_iff_ne]; intro e; exact hc (UInt8.toNat.inj (by show _ = 100; omega))
        have HC := Lib.hid hc
        clear hc
        go_wp2_with (go_at_call 42; refine (HN.out _).mono ?_; rintro e w' ⟨rfl, rfl⟩)
        go_round
        case rel => exact ⟨i + 1, hlt, by go_num, by rw [HS.out, rshapeF, if_neg HC.out, rshS, rsh_cat]⟩
        case measure => simp [intOf]; omega
    · obtain rfl : i = R.size := by omega
      go_wp2_with (go_at_call 42; refine (HN.out _).mono ?_; rintro e w' ⟨rfl, rfl⟩)
      go_ret
      exact ⟨by rw [bs_all]; rfl, rfl⟩

section
variable (k : Int) (v t : Nat) (s a c : Int) (d : List UInt8) (A : Option Addr) (cap : Nat) (w : World)

/-- what a value's cells are, behind the call -/
def ValAt (w : World) (B : Nat) (p : PV) (e : Ending) (w' : World) : Prop := ∃ A' c', e = .returned (.agg (lvCells (lvP p) A' c').toArray) ∧ Hid (LVok w' B (lvCells (lvP p) A' c') (lvP p)) ∧ Below w.heap.size w w'

set_option maxHeartbeats 2000000 in
theorem rval_V (B : Nat) (hv : v < 18446744073709551616) : Calls Try.prog 43 #[.agg #[.int .i64 k, .int .u64 (v : Int), .int .u64 (t : Int), .int .i64 s, .int .i64 a, .int .i64 c, .slice A d.length cap], .int .u8 118] w (ValAt w B (.num v)) := by
  have hzv := zero_val
  go_enter Try.func43, Try.ntmps43
  go_wp2_with fail
  refine (number_val v _).mono ?_
  rintro e w2 ⟨rfl, hb2⟩
  have hb1 : w2.heap[w.heap.size + 1]? = some (.cells (lvCells lv0 none 0).toArray 78 (0, 0)) := by
    have h := heap_alloc_new (w.alloc (.cells #[.int .i64 k, .int .u64 (v : Int), .int .u64 (t : Int), .int .i64 s, .int .i64 a, .int .i64 c, .slice A d.length cap] 26)) (.cells (lvCells lv0 none 0).toArray 78)
    rw [World.size_alloc] at h
    exact (hb2.block _ (by simp)).trans h
  have hB : Hid (Below w.heap.size w w2) := (below2 w _ _).trans (hb2.mono (by simp; omega))
  have HB1 := Lib.hid hb1
  clear hb1 hb2
  go_wp2_with (first
    | (refine wpList_store_row rfl 78 (.tmp 4) (.tmp 10) rfl (w.heap.size + 1) (lvCells (lvN v) none 0).toArray rfl rfl 78 (lvCells lv0 none 0).toArray HB1.out (by rw [val_size, cells_sz zeros256_length]) (by rw [cells_sz zeros256_length, cells_sz zeros256_length]) (cells_one _ _ _) ?_)
    | fail)
  refine bodyPost_ret (results_cell_row rfl _ _ (w.heap.size + 1) 78 (lvCells (lvN v) none 0).toArray (0, 0) _ rfl (setRow_heap _ _ _ _ _ _ HB1.out) Try.underlying78 rfl (by rw [val_size, cells_sz zeros256_length])) rfl ?_
  exact ⟨none, 0, rfl, ⟨none, 0, rfl, zeros256_length, hv, Shows.empty _ _ _, Nat.le_refl _, by omega⟩, below_setRow hB.out (by omega) _⟩

set_option maxHeartbeats 2000000 in
theorem rval_T (B : Nat) (ht : t < 18446744073709551616) : Calls Try.prog 43 #[.agg #[.int .i64 k, .int .u64 (v : Int), .int .u64 (t : Int), .int .i64 s, .int .i64 a, .int .i64 c, .slice A d.length cap], .int .u8 116] w (ValAt w B (.num t)) := by
  have hzv := zero_val
  go_enter Try.func43, Try.ntmps43
  go_wp2_with fail
  refine (number_val t _).mono ?_
  rintro e w2 ⟨rfl, hb2⟩
  have hb1 : w2.heap[w.heap.size + 1]? = some (.cells (lvCells lv0 none 0).toArray 78 (0, 0)) := by
    have h := heap_alloc_new (w.alloc (.cells #[.int .i64 k, .int .u64 (v : Int), .int .u64 (t : Int), .int .i64 s, .int .i64 a, .int .i64 c, .slice A d.length cap] 26)) (.cells (lvCells lv0 none 0).toArray 78)
    rw [World.size_alloc] at h
    exact (hb2.block _ (by simp)).trans h
  have hB : Hid (Below w.heap.size w w2) := (below2 w _ _).trans (hb2.mono (by simp; omega))
  have HB1 := Lib.hid hb1
  clear hb1 hb2
  go_wp2_with (first
    | (refine wpList_store_row rfl 78 (.tmp 4) (.tmp 15) rfl (w.heap.size + 1) (lvCells (lvN t) none 0).toArray rfl rfl 78 (lvCells lv0 none 0).toArray HB1.out (by rw [val_size, cells_sz zeros256_length]) (by rw [cells_sz zeros256_length, cells_sz zeros256_length]) (cells_one _ _ _) ?_)
    | fail)
  refine bodyPost_ret (results_cell_row rfl _ _ (w.heap.size + 1) 78 (lvCells (lvN t) none 0).toArray (0, 0) _ rfl (setRow_heap _ _ _ _ _ _ HB1.out) Try.underlying78 rfl (by rw [val_size, cells_sz zeros256_length])) rfl ?_
  exact ⟨none, 0, rfl, ⟨none, 0, rfl, zeros256_length, ht, Shows.empty _ _ _, Nat.le_refl _, by omega⟩, below_setRow hB.out (by omega) _⟩

set_option maxHeartbeats 2000000 in
theorem rval_S (B : Nat) (z : Nat) (hz : s = (z : Int)) (hz2 : z < 9223372036854775808) : Calls Try.prog 43 #[.agg #[.int .i64 k, .int .u64 (v : Int), .int .u64 (t : Int), .int .i64 s, .int .i64 a, .int .i64 c, .slice A d.length cap], .int .u8 115] w (ValAt w B (.num z)) := by
  subst hz
  have hw := wrap_u z (by omega)
  have hzv := zero_val
  go_enter Try.func43, Try.ntmps43
  go_wp2_with fail
  refine (number_val z _).mono ?_
  rintro e w2 ⟨rfl, hb2⟩
  have hb1 : w2.heap[w.heap.size + 1]? = some (.cells (lvCells lv0 none 0).toArray 78 (0, 0)) := by
    have h := heap_alloc_new (w.alloc (.cells #[.int .i64 k, .int .u64 (v : Int), .int .u64 (t : Int), .int .i64 (z : Int), .int .i64 a, .int .i64 c, .slice A d.length cap] 26)) (.cells (lvCells lv0 none 0).toArray 78)
    rw [World.size_alloc] at h
    exact (hb2.block _ (by simp)).trans h
  have hB : Hid (Below w.heap.size w w2) := (below2 w _ _).trans (hb2.mono (by simp; omega))
  have HB1 := Lib.hid hb1
  clear hb1 hb2
  go_wp2_with (first
    | (refine wpList_store_row rfl 78 (.tmp 4) (.tmp 21) rfl (w.heap.size + 1) (lvCells (lvN z) none 0).toArray rfl rfl 78 (lvCells lv0 none 0).toArray HB1.out (by rw [val_size, cells_sz zeros256_length]) (by rw [cells_sz zeros256_length, cells_sz zeros256_length]) (cells_one _ _ _) ?_)
    | fail)
  refine bodyPost_ret (results_cell_row rfl _ _ (w.heap.size + 1) 78 (lvCells (lvN z) none 0).toArray (0, 0) _ rfl (setRow_heap _ _ _ _ _ _ HB1.out) Try.underlying78 rfl (by rw [val_size, cells_sz zeros256_length])) rfl ?_
  exact ⟨none, 0, rfl, ⟨none, 0, rfl, zeros256_length, (show z < 18446744073709551616 by omega), Shows.empty _ _ _, Nat.le_refl _, by omega⟩, below_setRow hB.out (by omega) _⟩

set_option maxHeartbeats 2000000 in
theorem rval_A (B : Nat) (z : Nat) (hz : a = (z : Int)) (hz2 : z < 9223372036854775808) : Calls Try.prog 43 #[.agg #[.int .i64 k, .int .u64 (v : Int), .int .u64 (t : Int), .int .i64 s, .int .i64 a, .int .i64 c, .slice A d.length cap], .int .u8 97] w (ValAt w B (.num z)) := by
  subst hz
  have hw := wrap_u z (by omega)
  have hzv := zero_val
  go_enter Try.func43, Try.ntmps43
  go_wp2_with fail
  refine (number_val z _).mono ?_
  rintro e w2 ⟨rfl, hb2⟩
  have hb1 : w2.heap[w.heap.size + 1]? = some (.cells (lvCells lv0 none 0).toArray 78 (0, 0)) := by
    have h := heap_alloc_new (w.alloc (.cells #[.int .i64 k, .int .u64 (v : Int), .int .u64 (t : Int), .int .i64 s, .int .i64 (z : Int), .int .i64 c, .slice A d.length cap] 26)) (.cells (lvCells lv0 none 0).toArray 78)
    rw [World.size_alloc] at h
    exact (hb2.block _ (by simp)).trans h
  have hB : Hid (Below w.heap.size w w2) := (below2 w _ _).trans (hb2.mono (by simp; omega))
  have HB1 := Lib.hid hb1
  clear hb1 hb2
  go_wp2_with (first
    | (refine wpList_store_row rfl 78 (.tmp 4) (.tmp 27) rfl (w.heap.size + 1) (lvCells (lvN z) none 0).toArray rfl rfl 78 (lvCells lv0 none 0).toArray HB1.out (by rw [val_size, cells_sz zeros256_length]) (by rw [cells_sz zeros256_length, cells_sz zeros256_length]) (cells_one _ _ _) ?_)
    | fail)
  refine bodyPost_ret (results_cell_row rfl _ _ (w.heap.size + 1) 78 (lvCells (lvN z) none 0).toArray (0, 0) _ rfl (setRow_heap _ _ _ _ _ _ HB1.out) Try.underlying78 rfl (by rw [val_size, cells_sz zeros256_length])) rfl ?_
  exact ⟨none, 0, rfl, ⟨none, 0, rfl, zeros256_length, (show z < 18446744073709551616 by omega), Shows.empty _ _ _, Nat.le_refl _, by omega⟩, below_setRow hB.out (by omega) _⟩

set_option maxHeartbeats 2000000 in
theorem rval_C (B : Nat) (z : Nat) (hz : c = (z : Int)) (hz2 : z < 9223372036854775808) : Calls Try.prog 43 #[.agg #[.int .i64 k, .int .u64 (v : Int), .int .u64 (t : Int), .int .i64 s, .int .i64 a, .int .i64 c, .slice A d.length cap], .int .u8 99] w (ValAt w B (.num z)) := by
  subst hz
  have hw := wrap_u z (by omega)
  have hzv := zero_val
  go_enter Try.func43, Try.ntmps43
  go_wp2_with fail
  refine (number_val z _).mono ?_
  rintro e w2 ⟨rfl, hb2⟩
  have hb1 : w2.heap[w.heap.size + 1]? = some (.cells (lvCells lv0 none 0).toArray 78 (0, 0)) := by
    have h := heap_alloc_new (w.alloc (.cells #[.int .i64 k, .int .u64 (v : Int), .int .u64 (t : Int), .int .i64 s, .int .i64 a, .int .i64 (z : Int), .slice A d.length cap] 26)) (.cells (lvCells lv0 none 0).toArray 78)
    rw [World.size_alloc] at h
    exact (hb2.block _ (by simp)).trans h
  have hB : Hid (Below w.heap.size w w2) := (below2 w _ _).trans (hb2.mono (by simp; omega))
  have HB1 := Lib.hid hb1
  clear hb1 hb2
  go_wp2_with (first
    | (refine wpList_store_row rfl 78 (.tmp 4) (.tmp 33) rfl (w.heap.size + 1) (lvCells (lvN z) none 0).toArray rfl rfl 78 (lvCells lv0 none 0).toArray HB1.out (by rw [val_size, cells_sz zeros256_length]) (by rw [cells_sz zeros256_length, cells_sz zeros256_length]) (cells_one _ _ _) ?_)
    | fail)
  refine bodyPost_ret (results_cell_row rfl _ _ (w.heap.size + 1) 78 (lvCells (lvN z) none 0).toArray (0, 0) _ rfl (setRow_heap _ _ _ _ _ _ HB1.out) Try.underlying78 rfl (by rw [val_size, cells_sz zeros256_length])) rfl ?_
  exact ⟨none, 0, rfl, ⟨none, 0, rfl, zeros256_length, (show z < 18446744073709551616 by omega), Shows.empty _ _ _, Nat.le_refl _, by omega⟩, below_setRow hB.out (by omega) _⟩

set_option maxHeartbeats 2000000 in
theorem rval_D (B : Nat) (hs : Shows w B A d.length (cells8 d)) (hB0 : B ≤ w.heap.size) (hcap : d.length ≤ cap) (hcm : cap ≤ 9223372036854775807) : Calls Try.prog 43 #[.agg #[.int .i64 k, .int .u64 (v : Int), .int .u64 (t : Int), .int .i64 s, .int .i64 a, .int .i64 c, .slice A d.length cap], .int .u8 100] w (ValAt w B (.blob d)) := by
  have HS0 := Lib.hid hs
  clear hs
  have hzv := zero_val
  go_enter Try.func43, Try.ntmps43
  go_wp2_with fail
  refine (bytes_val d A cap _).mono ?_
  rintro e w2 ⟨rfl, hb2⟩
  have hb1 : w2.heap[w.heap.size + 1]? = some (.cells (lvCells lv0 none 0).toArray 78 (0, 0)) := by
    have h := heap_alloc_new (w.alloc (.cells #[.int .i64 k, .int .u64 (v : Int), .int .u64 (t : Int), .int .i64 s, .int .i64 a, .int .i64 c, .slice A d.length cap] 26)) (.cells (lvCells lv0 none 0).toArray 78)
    rw [World.size_alloc] at h
    exact (hb2.block _ (by simp)).trans h
  have hB : Hid (Below w.heap.size w w2) := (below2 w _ _).trans (hb2.mono (by simp; omega))
  have HB1 := Lib.hid hb1
  clear hb1 hb2
  go_wp2_with (first
    | (refine wpList_store_row rfl 78 (.tmp 4) (.tmp 36) rfl (w.heap.size + 1) (lvCells (lvB d) A cap).toArray rfl rfl 78 (lvCells lv0 none 0).toArray HB1.out (by rw [val_size, cells_sz zeros256_length]) (by rw [cells_sz zeros256_length, cells_sz zeros256_length]) (cells_one _ _ _) ?_)
    | fail)
  refine bodyPost_ret (results_cell_row rfl _ _ (w.heap.size + 1) 78 (lvCells (lvB d) A cap).toArray (0, 0) _ rfl (setRow_heap _ _ _ _ _ _ HB1.out) Try.underlying78 rfl (by rw [val_size, cells_sz zeros256_length])) rfl ?_
  exact ⟨A, cap, rfl, ⟨A, cap, rfl, zeros256_length, show (0 : Nat) < 18446744073709551616 by omega, HS0.out.below (below_setRow (hB.out.mono hB0) (by omega) _), hcap, hcm⟩, below_setRow hB.out (by omega) _⟩


theorem rvalue_any (x : Int) (hx : isL x) (B : Nat) (hv : v < 18446744073709551616) (ht : t < 18446744073709551616) (hcap : d.length ≤ cap) (hcm : cap ≤ 9223372036854775807) (hs : Shows w B A d.length (cells8 d)) (hB : B ≤ w.heap.size) (hb : bnd ⟨k, v, t, s, a, c, d⟩ x = true) :
    Calls Try.prog 43 #[.agg #[.int .i64 k, .int .u64 (v : Int), .int .u64 (t : Int), .int .i64 s, .int .i64 a, .int .i64 c, .slice A d.length cap], .int .u8 (x + 32)] w (ValAt w B (valP ⟨k, v, t, s, a, c, d⟩ x)) := by
  rcases hx with rfl | rfl | rfl | rfl | rfl | rfl
  · exact rval_V k v t s a c d A cap w B hv
  · exact rval_T k v t s a c d A cap w B ht
  · have h : 0 ≤ s ∧ s ≤ 256 := by
      have h2 : (decide (0 ≤ s) && decide (s ≤ 256)) = true := hb
      simpa using h2
    obtain ⟨z, hz⟩ := int_nat h.1
    have h2 := rval_S k v t s a c d A cap w B z hz (by omega)
    have e : valP ⟨k, v, t, s, a, c, d⟩ 83 = .num z := by show PV.num s.toNat = _; rw [hz]; rfl
    rw [e]
    exact h2
  · have h : 0 ≤ a ∧ a ≤ 1048576 := by
      have h2 : (decide (0 ≤ a) && decide (a ≤ 1048576)) = true := hb
      simpa using h2
    obtain ⟨z, hz⟩ := int_nat h.1
    have h2 := rval_A k v t s a c d A cap w B z hz (by omega)
    have e : valP ⟨k, v, t, s, a, c, d⟩ 65 = .num z := by show PV.num a.toNat = _; rw [hz]; rfl
    rw [e]
    exact h2
  · have h : 1 ≤ c ∧ c ≤ 1024 := by
      have h2 : (decide (1 ≤ c) && decide (c ≤ 1024)) = true := hb
      simpa using h2
    obtain ⟨z, hz⟩ := int_nat (show 0 ≤ c by omega)
    have h2 := rval_C k v t s a c d A cap w B z hz (by omega)
    have e : valP ⟨k, v, t, s, a, c, d⟩ 67 = .num z := by show PV.num c.toNat = _; rw [hz]; rfl
    rw [e]
    exact h2
  · exact rval_D k v t s a c d A cap w B hs hB hcap hcm

end

end Go.Proofs.Ytpkbkliblbbdcaa
