/- The document's Same; Pages; the chapter's row. -/
import Derived.Test.YtojbajbghldoeaaDoorVe
set_option linter.unusedVariables false
namespace Go.Proofs.YtojbajbghldoeaaDoor
open Go.RowKit

set_option maxHeartbeats 1000000 in
theorem vsame_ok (w : World) (l : List Nat) (A A' : Option Addr) (c c' : Nat) (hlen : l.length ≤ 120) (hs : Shows w w.heap.size A l.length (nums16 l)) (hv : Shows w w.heap.size A' l.length (nums16 l)) :
    Calls Tryd.prog 43 #[.slice A l.length c, .slice A' l.length c'] w fun e w' => e = .returned (.bool true) ∧ Below w.heap.size w w' := by
  have HS := Lib.hid hs
  have HV := Lib.hid hv
  clear hs hv
  go_enter Tryd.func43, Tryd.ntmps43
  go_wp2
  go_loopw [5] (fun j wr => ∃ i : Nat, i ≤ l.length ∧ j = .int .i64 (i : Int) ∧ Below w.heap.size w wr) (fun j _ => l.length - (intOf j).toNat)
  case atStart => exact ⟨0, Nat.zero_le _, rfl, Below.refl _ _⟩
  case round =>
    obtain ⟨i, hi, rfl, hbr⟩ := hrel
    by_cases hlt : i < l.length
    · have hltI : (i : Int) < (l.length : Int) := by omega
      obtain ⟨p, rfl, hp, hck⟩ := (HS.out.below hbr).num16 i hlt
      obtain ⟨p2, rfl, hp2, hcv⟩ := (HV.out.below hbr).num16 i hlt
      generalize l.getD i 0 = x at *
      have hck2 : wr.drew.cell? (p.add i) = some (.int .u16 (x : Int)) := hck
      have hcv2 : wr.drew.cell? (p2.add i) = some (.int .u16 (x : Int)) := hcv
      go_wp2
      first
        | go_region
        | fail
      go_wp2
      go_roundw
      case rel => exact ⟨i + 1, hlt, by go_num, hbr.drew⟩
      case measure => simp [intOf]; omega
    · obtain rfl : i = l.length := by omega
      have hltI : ¬ (l.length : Int) < (l.length : Int) := by omega
      go_wp2
      go_ret
      exact ⟨rfl, hbr⟩
theorem vpages1 (w : World) : Calls Tryd.prog 69 #[.int .i64 1] w fun e w' => e = .returned (.int .i64 1) ∧ w' = w := by
  go_enter Tryd.func69, Tryd.ntmps69
  go_wp2
  go_ret
  exact ⟨rfl, rfl⟩
theorem vpages120 (w : World) : Calls Tryd.prog 69 #[.int .i64 120] w fun e w' => e = .returned (.int .i64 1) ∧ w' = w := by
  go_enter Tryd.func69, Tryd.ntmps69
  go_wp2
  go_ret
  exact ⟨rfl, rfl⟩
theorem vpages121 (w : World) : Calls Tryd.prog 69 #[.int .i64 121] w fun e w' => e = .returned (.int .i64 2) ∧ w' = w := by
  go_enter Tryd.func69, Tryd.ntmps69
  go_wp2
  go_ret
  exact ⟨rfl, rfl⟩
theorem vknown (w : World) : Calls Tryd.prog 38 #[] w fun e w' => e = .returned (.bool true) ∧ w' = w := by
  have H1 := Lib.hid (vpages1 w)
  have H2 := Lib.hid (vpages120 w)
  have H3 := Lib.hid (vpages121 w)
  go_enter Tryd.func38, Tryd.ntmps38
  go_wp2_with (first
    | (go_at_call 69; first
        | ((with_reducible refine H1.out.mono ?_); rintro e w1 ⟨rfl, rfl⟩)
        | ((with_reducible refine H2.out.mono ?_); rintro e w2 ⟨rfl, rfl⟩)
        | ((with_reducible refine H3.out.mono ?_); rintro e w3 ⟨rfl, rfl⟩))
    | fail)
  go_ret
  exact ⟨rfl, rfl⟩
end Go.Proofs.YtojbajbghldoeaaDoor
