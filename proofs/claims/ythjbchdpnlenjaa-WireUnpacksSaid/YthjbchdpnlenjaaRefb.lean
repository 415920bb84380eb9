/- The walk of the document's Least; of the bound 'much' at no values. -/
import Derived.Test.YthjbchdpnlenjaaRefa
namespace Go.Proofs.Ythjbchdpnlenjaa
open Go.RowKit

set_option maxHeartbeats 2000000 in
theorem rleast_any (s : ByteArray) (w : World) (hs : s.size ≤ 1000000) :
    Calls Try.prog 22 #[.string s] w fun e w' => e = .returned (.int .i64 (leastM (bs s) : Int)) ∧ w = w' := by
  cases hm : mayS (bs s) with
  | false =>
    have hL : leastM (bs s) = 0 := by rw [leastM, hm]; rfl
    rw [hL]
    have HM := Lib.hid hm
    clear hm hL
    have hpos : 0 < s.size := by
      rcases Nat.eq_zero_or_pos s.size with h0 | h0
      · have : bs s = [] := List.eq_nil_of_length_eq_zero (by rw [bs_length]; exact h0)
        have h1 := HM.out
        rw [this] at h1
        cases h1
      · exact h0
    go_enter Try.func22, Try.ntmps22
    go_wp2
    refine wp_loop_rounds 1 ?_
    rw [rounds_succ]
    go_wp2_with fail
    refine (rmay_any s w hs).mono ?_
    rintro e w' ⟨rfl, rfl⟩
    rw [HM.out]
    go_wp2_with fail
    go_ret
    exact ⟨rfl, rfl⟩
  | true =>
    have hL : leastM (bs s) = leastS (bs s) := by rw [leastM, if_pos hm]
    rw [hL]
    have HM := Lib.hid hm
    clear hm hL
    go_enter Try.func22, Try.ntmps22
    go_wp2
    go_loop [3, 4] (fun v j => ∃ i : Nat, i ≤ s.size ∧ j = .int .i64 i ∧ v = .int .i64 (leastS ((bs s).take i) : Int)) (fun _ j => s.size - (intOf j).toNat)
    case atStart => exact ⟨0, Nat.zero_le _, rfl, rfl⟩
    case round =>
      obtain ⟨i, hp, rfl, rfl⟩ := hrel
      have hb := leastS_bound s i hp
      by_cases hlt : i < s.size
      · have hst := leastS_step s i hlt
        have hno := mayS_at s i hlt HM.out
        have HST := Lib.hid hst
        have hwb := wid_le ((s[i]'hlt).toNat : Int)
        clear hst hno
        by_cases h : ((s[i]'hlt).toNat : Int) = 63
        · have k63 : (((s[i]'hlt).toNat : Int) == 63) = true := by rw [h]; rfl
          have HW := Lib.hid (show wid ((s[i]'hlt).toNat : Int) = 0 by rw [h]; decide)
          have HS := Lib.hid (show lst ((s[i]'hlt).toNat : Int) = 1 by rw [h]; decide)
          clear h
          go_wp2_with fail
          refine (rmay_any s w hs).mono ?_
          rintro e w' ⟨rfl, rfl⟩
          rw [HM.out]
          go_wp2_with fail
          refine (size_any _ _).mono ?_
          rintro e w' ⟨rfl, rfl⟩
          rw [HW.out]
          go_wp2_with fail
          go_round
          case rel => exact ⟨i + 1, hlt, by go_num, val_int (by rw [HST.out, HS.out])⟩
          case measure => simp [intOf]; omega
        have k63 : (((s[i]'hlt).toNat : Int) == 63) = false := by rw [beq_eq_false_iff_ne]; exact h
        have h63 := Lib.hid h
        clear h
        by_cases h : ((s[i]'hlt).toNat : Int) = 42
        · have k42 : (((s[i]'hlt).toNat : Int) == 42) = true := by rw [h]; rfl
          have HW := Lib.hid (show wid ((s[i]'hlt).toNat : Int) = 0 by rw [h]; decide)
          have HS := Lib.hid (show lst ((s[i]'hlt).toNat : Int) = 4 by rw [h]; decide)
          clear h
          go_wp2_with fail
          refine (rmay_any s w hs).mono ?_
          rintro e w' ⟨rfl, rfl⟩
          rw [HM.out]
          go_wp2_with fail
          refine (size_any _ _).mono ?_
          rintro e w' ⟨rfl, rfl⟩
          rw [HW.out]
          go_wp2_with fail
          go_round
          case rel => exact ⟨i + 1, hlt, by go_num, val_int (by rw [HST.out, HS.out])⟩
          case measure => simp [intOf]; omega
        have k42 : (((s[i]'hlt).toNat : Int) == 42) = false := by rw [beq_eq_false_iff_ne]; exact h
        have h42 := Lib.hid h
        clear h
        by_cases h : ((s[i]'hlt).toNat : Int) = 35
        · have k35 : (((s[i]'hlt).toNat : Int) == 35) = true := by rw [h]; rfl
          have HW := Lib.hid (show wid ((s[i]'hlt).toNat : Int) = 0 by rw [h]; decide)
          have HS := Lib.hid (show lst ((s[i]'hlt).toNat : Int) = 256 by rw [h]; decide)
          clear h
          go_wp2_with fail
          refine (rmay_any s w hs).mono ?_
          rintro e w' ⟨rfl, rfl⟩
          rw [HM.out]
          go_wp2_with fail
          refine (size_any _ _).mono ?_
          rintro e w' ⟨rfl, rfl⟩
          rw [HW.out]
          go_wp2_with fail
          go_round
          case rel => exact ⟨i + 1, hlt, by go_num, val_int (by rw [HST.out, HS.out])⟩
          case measure => simp [intOf]; omega
        have k35 : (((s[i]'hlt).toNat : Int) == 35) = false := by rw [beq_eq_false_iff_ne]; exact h
        have h35 := Lib.hid h
        clear h
        have HN := Lib.hid (lst_num ((s[i]'hlt).toNat : Int) h63.out h42.out h35.out)
        clear h63 h42 h35
        go_wp2_with fail
        refine (rmay_any s w hs).mono ?_
        rintro e w' ⟨rfl, rfl⟩
        rw [HM.out]
        go_wp2_with fail
        refine (size_any _ _).mono ?_
        rintro e w' ⟨rfl, rfl⟩
        go_wp2_with fail
        go_round
        case rel => exact ⟨i + 1, hlt, by go_num, val_int (by rw [HST.out, HN.out])⟩
        case measure => simp [intOf]; omega
      · obtain rfl : i = s.size := by omega
        rw [bs_all]
        go_wp2_with fail
        go_ret
        exact ⟨rfl, rfl⟩

set_option maxHeartbeats 400000 in
theorem much_nil (s : ByteArray) (w : World) :
    Calls Try.prog 10 #[.string s, .slice none 0 0] w fun e w' => e = .returned (.bool (decide (40 < s.size))) ∧ w = w' := by
  by_cases h : 40 < s.size
  · have hd : decide (40 < s.size) = true := by simpa using h
    rw [hd]
    go_enter Try.func10, Try.ntmps10
    go_wp2
    refine wp_loop_rounds 1 ?_
    rw [rounds_succ]
    go_wp2
    go_ret
    exact ⟨rfl, rfl⟩
  · have hd : decide (40 < s.size) = false := by simpa using h
    have hd2 : decide ((40 : Int) < (s.size : Int)) = false := by simp; omega
    rw [hd]
    go_enter Try.func10, Try.ntmps10
    go_wp2
    refine wp_loop_rounds 1 ?_
    rw [rounds_succ]
    go_wp2
    go_ret
    exact ⟨rfl, rfl⟩

end Go.Proofs.Ythjbchdpnlenjaa
