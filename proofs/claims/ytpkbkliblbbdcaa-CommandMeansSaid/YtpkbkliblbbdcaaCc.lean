/- Walks: what a kind names, its shape; the numbers' bounds. -/
import Derived.Test.YtpkbkliblbbdcaaCb
import Derived.Test.YtpkbkliblbbdcaaWd
set_option linter.unusedVariables false
namespace Go.Proofs.Ytpkbkliblbbdcaa
open Go.RowKit
set_option maxRecDepth 20000

/-- the text of what a kind names -/
def txtK (k : Int) : ByteArray := ⟨((namesL k).getD []).toArray⟩
theorem bs_txt (k : Int) : bs (txtK k) = (namesL k).getD [] := rfl

set_option maxHeartbeats 1000000 in
theorem named_any (k : Int) (w : World) : Calls Try.prog 31 #[.int .i64 k] w fun e w' => e = .returned (.tuple #[.string (txtK k), .bool (namesL k).isSome]) ∧ w = w' := by
  rcases namesL_cases k with ⟨h, h2⟩ | h
  · have e : ∀ j : Int, 1 ≤ j → j ≤ 9 → (k == j) = false := fun j h3 h4 => by rw [beq_eq_false_iff_ne]; omega
    have b1 := e 1 (by omega) (by omega)
    have b2 := e 2 (by omega) (by omega)
    have b3 := e 3 (by omega) (by omega)
    have b4 := e 4 (by omega) (by omega)
    have b5 := e 5 (by omega) (by omega)
    have b6 := e 6 (by omega) (by omega)
    have b7 := e 7 (by omega) (by omega)
    have b8 := e 8 (by omega) (by omega)
    have b9 := e 9 (by omega) (by omega)
    have H := Lib.hid h
    clear h h2 e
    go_enter Try.func31, Try.ntmps31
    go_wp2
    go_ret2
    refine ⟨?_, rfl⟩
    rw [txtK, H.out]
    rfl
  · rcases h with rfl | rfl | rfl | rfl | rfl | rfl | rfl | rfl | rfl
    all_goals
      go_enter Try.func31, Try.ntmps31
      go_wp2
      go_ret2
      exact ⟨rfl, rfl⟩

theorem mayNumber_any (n : Nat) (w : World) : Calls Try.prog 53 #[.int .u64 (n : Int)] w fun e w' => e = .returned (.bool (decide (1 ≤ n) && decide (n ≤ 4294967295))) ∧ w = w' := by
  by_cases h1 : 1 ≤ n
  · by_cases h2 : n ≤ 4294967295
    · have d1 : decide ((1 : Int) ≤ (n : Int)) = true := by rw [decide_eq_true_eq]; omega
      have d2 : decide ((n : Int) ≤ 4294967295) = true := by rw [decide_eq_true_eq]; omega
      have e : (decide (1 ≤ n) && decide (n ≤ 4294967295)) = true := by simp [h1, h2]
      rw [e]
      clear e h1 h2
      go_enter Try.func53, Try.ntmps53
      go_wp2
      go_ret
      exact ⟨rfl, rfl⟩
    · have d1 : decide ((1 : Int) ≤ (n : Int)) = true := by rw [decide_eq_true_eq]; omega
      have d2 : decide ((n : Int) ≤ 4294967295) = false := by rw [decide_eq_false_iff_not]; omega
      have e : (decide (1 ≤ n) && decide (n ≤ 4294967295)) = false := by simp; omega
      rw [e]
      clear e h1 h2
      go_enter Try.func53, Try.ntmps53
      go_wp2
      go_ret
      exact ⟨rfl, rfl⟩
  · have d1 : decide ((1 : Int) ≤ (n : Int)) = false := by rw [decide_eq_false_iff_not]; omega
    have e : (decide (1 ≤ n) && decide (n ≤ 4294967295)) = false := by simp; omega
    rw [e]
    clear e h1
    go_enter Try.func53, Try.ntmps53
    go_wp2
    go_ret
    exact ⟨rfl, rfl⟩

theorem maySectors_any (A : Option Addr) (n cap most : Nat) (w : World) (hn : n ≤ 9223372036854775807) (hm : most ≤ 2000) : Calls Try.prog 48 #[.slice A n cap, .int .i64 (most : Int)] w fun e w' => e = .returned (.bool (secB n most)) ∧ w = w' := by
  have m2 : (n : Int).tdiv 64 = ((n / 64 : Nat) : Int) := by rw [Int.tdiv_eq_ediv_of_nonneg (by omega)]; omega
  have M2 := Lib.hid m2
  by_cases h1 : n % 64 = 0
  · have m1 : (n : Int).tmod 64 = 0 := by rw [Int.tmod_eq_emod_of_nonneg (by omega)]; omega
    have e : secB n most = decide (n / 64 ≤ most) := by simp [secB, h1]
    rw [e]
    have hq9 : n / 64 ≤ 9223372036854775807 := by omega
    generalize hq : n / 64 = q at *
    clear e h1 hq M2
    go_enter Try.func48, Try.ntmps48
    go_wp2
    go_ret
    exact ⟨by simp, rfl⟩
  · have m1 : (n : Int).tmod 64 = ((n % 64 : Nat) : Int) := by rw [Int.tmod_eq_emod_of_nonneg (by omega)]; omega
    have e : secB n most = false := by simp [secB, h1]
    generalize hr : n % 64 = r at *
    have m3 : ((r : Int) == 0) = false := by rw [beq_eq_false_iff_ne]; omega
    clear hr
    rw [e]
    clear e h1 m2 M2
    go_enter Try.func48, Try.ntmps48
    go_wp2
    go_ret
    exact ⟨rfl, rfl⟩

end Go.Proofs.Ytpkbkliblbbdcaa
