/- Walks of the document's fits and Low. -/
import Derived.Test.YthjbchdpnlenjaaRefa
import Derived.Test.YthjbchdpnlenjaaBoundsW
namespace Go.Proofs.Ythjbchdpnlenjaa
open Go.RowKit

set_option maxHeartbeats 1000000 in
theorem fits_any (n k : Nat) (w : World) (hn : n < 18446744073709551616) (hk : k ≤ 8) :
    Calls Try.prog 32 #[.int .u64 (n : Int), .int .i64 (k : Int)] w fun e w' => e = .returned (.bool (decide (n < 256 ^ k))) ∧ w' = w := by
  go_enter Try.func32, Try.ntmps32
  go_wp2
  go_loop [0, 5] (fun x j => ∃ i : Nat, i ≤ k ∧ j = .int .i64 (i : Int) ∧ x = .int .u64 ((n / 256 ^ i : Nat) : Int)) (fun _ j => k - (intOf j).toNat)
  case atStart => exact ⟨0, Nat.zero_le _, rfl, by simp⟩
  case round =>
    obtain ⟨i, hp, rfl, rfl⟩ := hrel
    have hdiv : n / 256 ^ i ≤ n := Nat.div_le_self _ _
    generalize hx : n / 256 ^ i = x at *
    have HX := Lib.hid hx
    clear hx
    by_cases hlt : i < k
    · go_wp2
      go_round
      case rel => exact ⟨i + 1, hlt, by go_num, val_int (low_next HX.out)⟩
      case measure => simp [intOf]; omega
    · obtain rfl : i = k := by omega
      have hd : decide (n < 256 ^ i) = ((x : Int) == 0) := by
        rw [← HX.out, Bool.eq_iff_iff]
        simp only [decide_eq_true_eq, beq_iff_eq]
        constructor
        · intro h; rw [Nat.div_eq_of_lt h]; rfl
        · intro h
          have h0 : n / 256 ^ i = 0 := by omega
          rcases (Nat.div_eq_zero_iff).1 h0 with h1 | h1
          · exact absurd h1 (Nat.ne_of_gt (Nat.pow_pos (by omega)))
          · exact h1
      have HD := Lib.hid hd
      clear hd
      go_wp2
      go_ret
      rw [HD.out]
      exact ⟨rfl, rfl⟩

theorem low_set (n i k : Nat) (hi : i < k) : (cells8 (low n i ++ noughts (k - i))).set i (.int .u8 (((n / 256 ^ i : Nat) : Int) % 256)) = cells8 (low n (i + 1) ++ noughts (k - (i + 1))) := by
  have e1 : noughts (k - i) = 0 :: noughts (k - (i + 1)) := by
    have : k - i = (k - (i + 1)) + 1 := by omega
    rw [this]
    rfl
  rw [e1, cells8_append, List.set_append_right _ _ (by rw [cells8_length, low_length]; omega), cells8_length, low_length, Nat.sub_self, cells8_append, low_cells rfl]
  simp [cells8]

set_option maxHeartbeats 1000000 in
theorem low_any (n k : Nat) (w : World) (hn : n < 18446744073709551616) (hk : k ≤ 8) :
    Calls Try.prog 33 #[.int .u64 (n : Int), .int .i64 (k : Int)] w fun e w' => ∃ c, e = .returned (.slice (some ⟨w.heap.size, 0, none⟩) k c) ∧ w'.ownsRow w.heap.size 5 1 (.slice (some ⟨w.heap.size, 0, none⟩) k c) k (cells8 (low n k)) ∧ Below w.heap.size w w' := by
  obtain ⟨i0, hi, hz0, hz1, hz2⟩ := info_parts u8_info
  go_enter Try.func33, Try.ntmps33
  go_wp2_with (at_make; refine wpList_make_full _ rfl _ _ 25 rfl w.heap.size 5 i0 _ 1 Try.underlying25 hi hz0 hz1 _ _ _ _ k rfl rfl rfl rfl (by rw [hz2]; omega) (by unfold maxLen; omega) (Nat.le_refl _) ?_; intro w3 hown3 hg3; rw [noughts_made] at hown3)
  have hb3 : Below w.heap.size w w3 := (Below.refl _ _).grown hg3 (Nat.le_refl _) (by simp)
  clear hg3
  go_loopw [0, 6] (fun x j wr => ∃ i : Nat, i ≤ k ∧ j = .int .i64 (i : Int) ∧ x = .int .u64 ((n / 256 ^ i : Nat) : Int) ∧ wr.ownsRow w.heap.size 5 1 (.slice (some ⟨w.heap.size, 0, none⟩) k k) k (cells8 (low n i ++ noughts (k - i))) ∧ Below w.heap.size w wr) (fun _ j _ => k - (intOf j).toNat)
  case atStart => exact ⟨0, Nat.zero_le _, rfl, by simp, hown3, hb3⟩
  case round =>
    obtain ⟨i, hp, rfl, rfl, hown, hbr⟩ := hrel
    have hdiv : n / 256 ^ i ≤ n := Nat.div_le_self _ _
    have HS := fun hi => Lib.hid (low_set n i k hi)
    generalize hx : n / 256 ^ i = x at *
    have HX := Lib.hid hx
    clear hx hown3 hb3
    by_cases hlt : i < k
    · have hlen : (cells8 (low n i ++ noughts (k - i))).length = k := by rw [cells8_length, List.length_append, low_length, noughts_length]; omega
      have hcell : wr.cell? ⟨w.heap.size, i, none⟩ = some ((cells8 (low n i ++ noughts (k - i)))[i]'(by omega)) := by
        rw [hown.cellAt i (by omega), List.getElem?_eq_getElem (by omega)]
      have hfr := hown.frozenAt i
      have HS1 := HS hlt
      have hst := hown.stored i (.int .u8 ((x : Int) % 256))
      have HST := Lib.hid hst
      clear hst HS
      generalize (cells8 (low n i ++ noughts (k - i)))[i]'_ = cu at hcell
      go_wp2
      go_roundw
      case rel => exact ⟨i + 1, hlt, by go_num, val_int (low_next HX.out), by rw [← HS1.out]; exact HST.out.1, hbr.setCell (p := ⟨w.heap.size, i, none⟩) (Nat.le_refl _) _⟩
      case measure => simp [intOf]; omega
    · obtain rfl : i = k := by omega
      rw [Nat.sub_self, show noughts 0 = [] from rfl, List.append_nil] at hown
      go_wp2
      go_ret
      exact ⟨i, rfl, hown, hbr⟩

end Go.Proofs.Ythjbchdpnlenjaa
