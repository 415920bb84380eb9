/- Walks of the document's own answers: size, May, Least; and the laws' bound on what is gone through. -/
import Derived.Test.YthjbchdpnlenjaaKnown
import Derived.Deep.QuietTactic
import Derived.BigQuiet
namespace Go.Proofs.Ythjbchdpnlenjaa
open Go.RowKit

set_option maxHeartbeats 400000 in
theorem size_any (c : Int) (w : World) :
    Calls Try.prog 31 #[.int .u8 c] w fun e w' => e = .returned (.int .i64 (wid c)) ∧ w = w' := by
  go_enter Try.func31, Try.ntmps31
  go_wp2
  all_goals go_ret
  all_goals refine ⟨ret_int ?_, rfl⟩
  all_goals simp only [beq_iff_eq, beq_eq_false_iff_ne, ne_eq] at *
  all_goals simp [wid, *]

theorem lst_zero (c : Int) (h : lst c = 0) : wid c = 0 ∧ (c != 63) = true ∧ (c != 42) = true ∧ (c != 35) = true := by
  unfold lst at h
  have h1 : ¬ c = 63 := by intro e; rw [if_pos e] at h; omega
  rw [if_neg h1] at h
  have h2 : ¬ c = 42 := by intro e; rw [if_pos e] at h; omega
  rw [if_neg h2] at h
  have h3 : ¬ c = 35 := by intro e; rw [if_pos e] at h; omega
  rw [if_neg h3] at h
  simp [h, h1, h2, h3]
theorem lst_some (c : Int) (h : ¬ lst c = 0) : ¬ wid c = 0 ∨ c = 63 ∨ c = 42 ∨ c = 35 := by
  unfold lst at h
  by_cases h1 : c = 63
  · exact .inr (.inl h1)
  · by_cases h2 : c = 42
    · exact .inr (.inr (.inl h2))
    · by_cases h3 : c = 35
      · exact .inr (.inr (.inr h3))
      · simp only [h1, h2, h3, if_false] at h; exact .inl h
theorem wid_63 : wid 63 = 0 := by decide
theorem wid_42 : wid 42 = 0 := by decide
theorem wid_35 : wid 35 = 0 := by decide

set_option maxHeartbeats 1000000 in
theorem rmay_any (s : ByteArray) (w : World) (hs : s.size ≤ 1000000) :
    Calls Try.prog 21 #[.string s] w fun e w' => e = .returned (.bool (mayS (bs s))) ∧ w = w' := by
  go_enter Try.func21, Try.ntmps21
  go_wp2
  go_loop [3] (fun j => ∃ i : Nat, i ≤ s.size ∧ j = .int .i64 i ∧ Hid (mayS ((bs s).take i) = true)) (fun j => s.size - (intOf j).toNat)
  case atStart => exact ⟨0, Nat.zero_le _, rfl, rfl⟩
  case round =>
    obtain ⟨i, hp, rfl, HM⟩ := hrel
    by_cases hlt : i < s.size
    · by_cases hz : lst ((s[i]'hlt).toNat : Int) = 0
      · have hfin : mayS (bs s) = false := mayS_stop (bs s) i (by rw [bs_length]; exact hlt) (by rw [bs_get s i hlt]; exact hz)
        obtain ⟨z0, z1, z2, z3⟩ := lst_zero _ hz
        have HF := Lib.hid hfin
        have HZ := Lib.hid z0
        clear hfin hz z0
        go_wp2_with fail
        refine (size_any _ _).mono ?_
        rintro e w' ⟨rfl, rfl⟩
        rw [HZ.out]
        go_wp2
        go_ret
        exact ⟨by rw [HF.out]; rfl, rfl⟩
      · have HM2 := Lib.hid (mayS_step s i hlt HM.out hz)
        clear HM
        generalize hc : ((s[i]'hlt).toNat : Int) = c at *
        have hcs := lst_some c hz
        clear hz
        by_cases hw : wid c = 0
        · rcases hcs with h | h | h | h
          · exact absurd hw h
          all_goals
            subst h
            have HC := Lib.hid hc
            clear hc hw
            go_wp2_with fail
            rw [HC.out]
            refine (size_any _ _).mono ?_
            rintro e w' ⟨rfl, rfl⟩
            first | rw [wid_63] | rw [wid_42] | rw [wid_35]
            go_wp2
            go_round
            case rel => exact ⟨i + 1, hlt, by go_num, HM2⟩
            case measure => simp [intOf]; omega
        · have hwb : (wid c == 0) = false := by simpa using hw
          have HC := Lib.hid hc
          clear hc hw hcs
          go_wp2_with fail
          rw [HC.out]
          refine (size_any _ _).mono ?_
          rintro e w' ⟨rfl, rfl⟩
          go_wp2
          go_round
          case rel => exact ⟨i + 1, hlt, by go_num, HM2⟩
          case measure => simp [intOf]; omega
    · obtain rfl : i = s.size := by omega
      have HM2 := Lib.hid (show mayS (bs s) = true by rw [← bs_all]; exact HM.out)
      clear HM
      go_wp2
      go_ret
      exact ⟨by rw [HM2.out]; rfl, rfl⟩

end Go.Proofs.Ythjbchdpnlenjaa
