/- How many pages; a page cut; what is known. -/
import Derived.Test.YtojbajbghldoeaaProg
import Derived.Test.YtojbajbghldoeaaPa
import Derived.Test.YtojbajbghldoeaaRow
import Derived.WalkKit
import Derived.WalkSpells
import Derived.WalkLawsBesides
import Derived.LoopTactic
import Derived.Lib.SmallJoins
import Derived.Deep.QuietTactic
import Derived.Deep.WholeRow
import Derived.Laws.Rows
import Derived.Laws.OwnMore
import Derived.Laws.BitsAllLaws
import Derived.RegionTactic
import Derived.Deep.RegionWith
import Derived.Deep.RegionHeld3
import Derived.Deep.DeepCutAuto
import Derived.BigQuiet
set_option linter.unusedVariables false
namespace Go.Proofs.Ytojbajbghldoeaa
open Go.RowKit

theorem slice_ret {A : Option Addr} {n m c d : Nat} (h : n = m) (h2 : c = d) : Ending.returned (.slice A n c) = .returned (.slice A m d) := by rw [h, h2]
set_option maxHeartbeats 1000000 in
theorem pages_any (w : World) (z : Int) (h : z ≤ 100000) : Calls Try.prog 4 #[.int .i64 z] w fun e w' => e = .returned (.int .i64 ((pagesN z.toNat : Nat) : Int)) ∧ w' = w := by
  by_cases h1 : z < 1
  · have e : z.toNat = 0 := by omega
    rw [e]
    go_enter Try.func4, Try.ntmps4
    go_wp2
    go_ret
    exact ⟨rfl, rfl⟩
  · obtain ⟨n, rfl⟩ := Int.eq_ofNat_of_zero_le (show 0 ≤ z by omega)
    have e : ((n : Int) - 1) / 120 + 1 = ((pagesN n : Nat) : Int) := by unfold pagesN; omega
    rw [Int.toNat_natCast]
    go_enter Try.func4, Try.ntmps4
    go_wp2
    go_ret
    exact ⟨by rw [← e]; rfl, rfl⟩
set_option maxHeartbeats 1000000 in
theorem rpages_any (w : World) (n : Nat) (h : n ≤ 100000) : Calls Try.prog 5 #[.int .i64 (n : Int)] w fun e w' => e = .returned (.int .i64 ((pagesN n : Nat) : Int)) ∧ w' = w := by
  go_enter Try.func5, Try.ntmps5
  go_wp2
  go_loop [0, 3] (fun x c => ∃ j : Nat, j ≤ pagesN n ∧ c = .int .i64 (j : Int) ∧ x = .int .i64 ((n : Int) - 120 * (j : Int))) (fun _ c => pagesN n - (intOf c).toNat)
  case atStart => exact ⟨0, Nat.zero_le _, rfl, by simp⟩
  case round =>
    obtain ⟨j, hj, rfl, rfl⟩ := hrel
    by_cases hlt : j < pagesN n
    · have h0 : (0 : Int) < (n : Int) - 120 * (j : Int) := by unfold pagesN at hlt; omega
      have hj2 : j ≤ 1000 := by unfold pagesN at hlt; omega
      go_wp2
      go_round
      case rel => exact ⟨j + 1, hlt, by go_num, by go_num⟩
      case measure => simp [intOf]; omega
    · obtain rfl : j = pagesN n := by omega
      have h0 : ¬ (0 : Int) < (n : Int) - 120 * ((pagesN n : Nat) : Int) := by have := pages_cover n; omega
      go_wp2
      go_ret
      exact ⟨rfl, rfl⟩
theorem known_any (w : World) : Calls Try.prog 9 #[] w fun e w' => e = .returned (.bool true) ∧ w' = w := by
  have H1 := Lib.hid (pages_any w 1 (by omega))
  have H2 := Lib.hid (pages_any w 120 (by omega))
  have H3 := Lib.hid (pages_any w 121 (by omega))
  go_enter Try.func9, Try.ntmps9
  go_wp2_with (first
    | (go_at_call 4; first
        | ((with_reducible refine H1.out.mono ?_); rintro e w1 ⟨rfl, rfl⟩; rw [show ((pagesN (1 : Int).toNat : Nat) : Int) = 1 from rfl])
        | ((with_reducible refine H2.out.mono ?_); rintro e w2 ⟨rfl, rfl⟩; rw [show ((pagesN (120 : Int).toNat : Nat) : Int) = 1 from rfl])
        | ((with_reducible refine H3.out.mono ?_); rintro e w3 ⟨rfl, rfl⟩; rw [show ((pagesN (121 : Int).toNat : Nat) : Int) = 2 from rfl]))
    | fail)
  go_ret
  exact ⟨rfl, rfl⟩
set_option maxRecDepth 10000 in
set_option maxHeartbeats 2000000 in
theorem cut_any (w : World) (p : Addr) (n cap k : Nat) (h1010 : n ≤ 1010) (hc : n ≤ cap) (h : k < pagesN n) :
    Calls Try.prog 11 #[.slice (some p) n cap, .int .i64 (k : Int)] w fun e w' => e = .returned (.slice (some (p.add (k * 120))) (cutN n k) (cutN n k)) ∧ w' = w := by
  have HP := Lib.hid (pages_any w (n : Int) (by omega))
  have hk : k * 120 < n := by unfold pagesN at h; omega
  have h1 : (k : Int) < ((pagesN n : Nat) : Int) := by omega
  have hk9 : k ≤ 8 := by omega
  have hkI : (k : Int) * 120 < (n : Int) := by omega
  have hcut : cutN n k = min (n - k * 120) 120 := rfl
  have HCUT := Lib.hid hcut
  clear hk h hcut
  go_enter Try.func11, Try.ntmps11
  go_wp2_with (first
    | (go_at_call 4; (with_reducible refine HP.out.mono ?_); rintro e w1 ⟨rfl, rfl⟩; rw [Int.toNat_natCast])
    | fail)
  all_goals go_ret
  all_goals
    have hcut := HCUT.out
    exact ⟨slice_ret (by omega) (by omega), rfl⟩
theorem cut_none (w : World) (A : Option Addr) (n cap : Nat) (ix : Int) (h1010 : n ≤ 1010) (h : ix < 0 ∨ (pagesN n : Int) ≤ ix) :
    Calls Try.prog 11 #[.slice A n cap, .int .i64 ix] w fun e w' => e = .returned (.slice none 0 0) ∧ w' = w := by
  have HP := Lib.hid (pages_any w (n : Int) (by omega))
  by_cases h0 : ix < 0
  · clear h
    go_enter Try.func11, Try.ntmps11
    go_wp2
    go_ret
    exact ⟨rfl, rfl⟩
  · have h1 : ¬ ix < ((pagesN n : Nat) : Int) := by omega
    have h2 : ((pagesN n : Nat) : Int) ≤ ix := by omega
    clear h
    go_enter Try.func11, Try.ntmps11
    go_wp2_with (first
      | (go_at_call 4; (with_reducible refine HP.out.mono ?_); rintro e w1 ⟨rfl, rfl⟩; rw [Int.toNat_natCast])
      | fail)
    go_ret
    exact ⟨rfl, rfl⟩
end Go.Proofs.Ytojbajbghldoeaa
