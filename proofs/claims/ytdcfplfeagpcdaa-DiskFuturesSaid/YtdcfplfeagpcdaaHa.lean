/- DiskFutures: what a loss of power leaves, by its picks; and the law's 'among'. -/
import Derived.Test.YtdcfplfeagpcdaaGl
import Derived.Test.YtdcfplfeagpcdaaGh
import Derived.Deep.RegionHeld3
set_option linter.unusedVariables false
namespace Go.Proofs.Ytdcfplfeagpcdaa
open Go.RowKit

theorem pickN_tail (p : Int) (picks : List Int) (j n : Nat) (hj : 0 < j) : pickN (p :: picks.drop 1) j n = pickN picks j n := by
  obtain ⟨j, rfl⟩ : ∃ i, j = i + 1 := ⟨j - 1, by omega⟩
  cases picks with
  | nil => simp [pickN]
  | cons a t => simp [pickN]
theorem pickN_zeros (picks : List Int) (z j n : Nat) : pickN (picks ++ List.replicate z 0) j n = pickN picks j n := by
  unfold pickN
  by_cases h : j < picks.length
  · rw [dif_pos h, dif_pos (by simp; omega), List.getElem_append_left h]
  · rw [dif_neg h]
    by_cases h2 : j < (picks ++ List.replicate z 0).length
    · rw [dif_pos h2, List.getElem_append_right (by omega), List.getElem_replicate, pickAt_zero]
    · rw [dif_neg h2]
theorem crashS_zeros (s : List (List UInt8)) (l : List Nat) (picks : List Int) (z : Nat) : ∀ j, crashS s l (picks ++ List.replicate z 0) j = crashS s l picks j
  | 0 => rfl
  | j + 1 => by simp only [crashS, crashS_zeros s l picks z j, pickN_zeros]
theorem crash_zeros (d : RD) (picks : List Int) (z : Nat) : crashD d (picks ++ List.replicate z 0) = crashD d picks := by
  unfold crashD
  rw [crashS_zeros]
theorem crashS_other (s : List (List UInt8)) (l : List Nat) (p : Int) (picks : List Int) (i : Nat) (hi : l.getD 0 0 ≠ i) : ∀ j, (crashS s l (p :: picks.drop 1) j)[i]? = (crashS s l picks j)[i]?
  | 0 => rfl
  | j + 1 => by
    have ih := crashS_other s l p picks i hi j
    simp only [crashS]
    by_cases he : l.getD j 0 = i
    · have hj : 0 < j := by
        rcases Nat.eq_zero_or_pos j with h | h
        · subst h; exact absurd he hi
        · exact h
      rw [he, pickN_tail p picks j _ hj]
      have e : (crashS s l (p :: picks.drop 1) j).getD i [] = (crashS s l picks j).getD i [] := by simp only [List.getD, ih]
      rw [e]
      by_cases hl : i < s.length
      · rw [List.getElem?_set_self (by rw [crashS_len]; exact hl), List.getElem?_set_self (by rw [crashS_len]; exact hl)]
      · rw [List.set_eq_of_length_le (by rw [crashS_len]; omega), List.set_eq_of_length_le (by rw [crashS_len]; omega)]
        exact ih
    · rw [List.getElem?_set_ne he, List.getElem?_set_ne he]
      exact ih
theorem crash_other (d : RD) (p : Int) (picks : List Int) (i : Nat) (h : openL d = [] ∨ (openL d).getD 0 0 ≠ i) : pastN (crashD d (p :: picks.drop 1)) i = pastN (crashD d picks) i := by
  rcases h with h | h
  · simp only [pastN, crashD, h]
    rfl
  · have := crashS_other d.s (openL d) p picks i h (openL d).length
    simp only [pastN, crashD, List.getD, this]
theorem crash_mem (d : RD) (picks : List Int) (i : Nat) (hi : i < d.s.length) (h0 : 0 < (pastN d i).length) : ∃ x, x ∈ pastN d i ∧ pastN (crashD d picks) i = [x] := by
  by_cases ho : i ∈ openL d
  · obtain ⟨k, hk, e⟩ := List.getElem_of_mem ho
    exact crashS_one d.s (openL d) picks i hi h0 (openL d).length ⟨k, hk, by simp [List.getD, hk, e]⟩
  · have h1 : ¬ 1 < (pastN d i).length := fun h => ho ((openL_mem d i).2 ⟨hi, by simpa [pastN, List.getD, hi] using h⟩)
    have e : pastN (crashD d picks) i = pastN d i := by
      have := crash_keep d picks i ho
      simp only [pastN, List.getD, this]
    rw [e]
    match hp : pastN d i, h0, h1 with
    | [x], _, _ => exact ⟨x, by simp, rfl⟩
    | x :: y :: t, _, h1 => simp at h1
theorem crash_open (d : RD) (picks : List Int) (h : ∀ i, i < d.s.length → 0 < (pastN d i).length) : openL (crashD d picks) = [] := by
  cases ho : openL (crashD d picks) with
  | nil => rfl
  | cons i t =>
    exfalso
    obtain ⟨hi, h1⟩ := (openL_mem (crashD d picks) i).1 (by rw [ho]; simp)
    have hi' : i < d.s.length := by rw [← crash_len d picks]; exact hi
    obtain ⟨x, _, e⟩ := crash_mem d picks i hi' (h i hi')
    simp only [pastN, List.getD, List.getElem?_eq_getElem hi, Option.getD_some] at e
    rw [e] at h1
    simp at h1
theorem rd_crash (d : RD) (picks : List Int) (i : Nat) (hi : i < d.s.length) (x : UInt8) (h : pastN (crashD d picks) i = [x]) : rdC (crashD d picks) (i : Int) = x := by
  unfold rdC
  rw [if_pos ⟨by omega, by rw [crash_len]; omega⟩]
  show (pastN (crashD d picks) i).getLastD 0 = x
  rw [h]
  rfl
theorem rr_crash (d : RD) (picks : List Int) (i : Nat) (hi : i < d.s.length) : rdR (crashD d picks) (i : Int) = 0 := by
  unfold rdR
  rw [if_pos ⟨by omega, by rw [crash_len]; omega⟩]

set_option maxRecDepth 10000 in
set_option maxHeartbeats 2000000 in
theorem among_any (w : World) (B : Nat) (A : Option Addr) (cap : Nat) (l : List UInt8) (hs : Shows w B A l.length (cells8 l)) (hB : B ≤ w.heap.size) (hl : l.length ≤ 1000000) (x : UInt8) (hx : x ∈ l) :
    Calls Try.prog 17 #[.slice A l.length cap, .agg (sec x).toArray] w fun e w' => e = .returned (.bool true) ∧ Below w.heap.size w w' := by
  have hu := sector_u
  have z1 := sector_sz x
  have HS := Lib.hid (hs.wide hB)
  have HX := Lib.hid hx
  have HBX : Hid (Below w.heap.size w (w.alloc (.cells (sec x).toArray 38)) ∧ (w.alloc (.cells (sec x).toArray 38)).heap[w.heap.size]? = some (.cells (sec x).toArray 38 (0, 0))) := ⟨(Below.refl _ _).alloc (Nat.le_refl _) _, heap_alloc_new w _⟩
  clear hs hx
  go_enter Try.func17, Try.ntmps17
  go_wp2_with fail
  generalize w.alloc (.cells (sec x).toArray 38) = w1 at *
  go_loopw [5] (fun j wr => ∃ i : Nat, i < l.length ∧ j = .int .i64 (i : Int) ∧ Hid ((∀ k, k < i → l.getD k 0 ≠ x) ∧ Below w.heap.size w wr ∧ wr.heap[w.heap.size]? = some (.cells (sec x).toArray 38 (0, 0)))) (fun j _ => l.length - (intOf j).toNat)
  case atStart => exact ⟨0, List.length_pos_of_mem HX.out, rfl, fun k hk => by omega, HBX.out.1, HBX.out.2⟩
  case round =>
    obtain ⟨i, hi, rfl, HR⟩ := hrel
    obtain ⟨p, u, rfl, hp, hu2, hc0⟩ := HS.out.cell hi
    rw [cells8_get _ i hi] at hu2
    injection hu2 with hu2
    subst hu2
    have hcw : wr.cell? (p.add i) = some (.int .u8 ((l[i].toNat : Nat) : Int)) := (HR.out.2.1.cell (by rw [addr_block]; exact hp)).trans hc0
    have hgd : l.getD i 0 = l[i] := by simp [List.getD, hi]
    generalize hy : l[i] = y at *
    have hiI : (i : Int) < (l.length : Int) := by omega
    have hcd : wr.drew.cell? (p.add i) = some (.int .u8 ((y.toNat : Nat) : Int)) := hcw
    have hkeep : ∀ W, Below wr.heap.size wr W → (W.cell? (p.add i) = some (.int .u8 ((y.toNat : Nat) : Int)) ∧ W.rangeAt w.heap.size 0 (sec x)) ∧ Below w.heap.size w W ∧ W.heap[w.heap.size]? = some (.cells (sec x).toArray 38 (0, 0)) := fun W hb => by
      have hb2 := HR.out.2.1.trans (hb.mono HR.out.2.1.size)
      have hx2 := (hb.block w.heap.size (Array.getElem?_eq_some_iff.1 HR.out.2.2).1).trans HR.out.2.2
      refine ⟨⟨(hb.cell (by rw [addr_block]; have := HR.out.2.1.size; omega)).trans hcw, fun j u hu => ?_⟩, hb2, hx2⟩
      rw [cell_of_row _ _ _ _ _ _ hx2, Nat.zero_add, List.getElem?_toArray]
      exact hu
    have HS0 := Lib.hid (hkeep _ (Below.refl _ _).drew).1
    have HKP := Lib.hid hkeep
    have hfl : Calls Try.prog 24 #[.int .u8 (y.toNat : Int)] wr.drew fun e w' => e = .returned (.agg (sec y).toArray) ∧ (w'.cell? (p.add i) = some (.int .u8 ((y.toNat : Nat) : Int)) ∧ w'.rangeAt w.heap.size 0 (sec x)) ∧ Hid (Below w.heap.size w w' ∧ w'.heap[w.heap.size]? = some (.cells (sec x).toArray 38 (0, 0))) := (full_sec y wr.drew).mono fun e w' hp => ⟨hp.1, HKP.out _ ((Below.refl _ _).drew.trans hp.2)⟩
    have HFL := Lib.hid hfl
    clear hfl hkeep hcd
    by_cases hxy : x = y
    · have n1 : ∀ w : World, (binOp .eql 38 (.agg (sec x).toArray) (.agg (sec y).toArray)).run Try.prog w = .ok (.bool true) w := fun w => by rw [eql_sec, hxy]; simp
      clear hxy
      go_wp2_with fail
      first | go_region_held3 (fun w' => w'.cell? (p.add i) = some (.int .u8 ((y.toNat : Nat) : Int)) ∧ w'.rangeAt w.heap.size 0 (sec x))
        (first | with_reducible exact HS0.out | with_reducible exact hSa)
        (first
          | (go_at_call 24; (with_reducible refine HFL.out.mono ?_); rintro e wa ⟨rfl, hSa, hba⟩)) | fail
      have hend := hba.out.1
      go_wp2_with fail
      go_ret
      exact ⟨rfl, hend⟩
    · have n1 : ∀ w : World, (binOp .eql 38 (.agg (sec x).toArray) (.agg (sec y).toArray)).run Try.prog w = .ok (.bool false) w := fun w => by rw [eql_sec, beq_false_of_ne hxy]
      have hnext : (∀ k, k < i + 1 → l.getD k 0 ≠ x) := fun k hk => by
        by_cases e : k = i
        · subst e; rw [hgd]; exact fun e => hxy e.symm
        · exact HR.out.1 k (by omega)
      have hlt : i + 1 < l.length := by
        obtain ⟨k, hk, e⟩ := List.getElem_of_mem HX.out
        have h1 : ¬ k < i + 1 := fun h => hnext k h (by simp [List.getD, hk, e])
        omega
      have HNX := Lib.hid hnext
      clear hxy hnext
      go_wp2_with fail
      first | go_region_held3 (fun w' => w'.cell? (p.add i) = some (.int .u8 ((y.toNat : Nat) : Int)) ∧ w'.rangeAt w.heap.size 0 (sec x))
        (first | with_reducible exact HS0.out | with_reducible exact hSa)
        (first
          | (go_at_call 24; (with_reducible refine HFL.out.mono ?_); rintro e wa ⟨rfl, hSa, hba⟩)) | fail
      have HEND := Lib.hid hba.out
      clear hba hSa
      go_wp2_with fail
      go_roundw
      case rel => exact ⟨i + 1, hlt, by go_num, HNX.out, HEND.out.1, HEND.out.2⟩
      case measure => simp [intOf]; omega
end Go.Proofs.Ytdcfplfeagpcdaa
