/- The small functions: Blocks, Over, num. -/
import Derived.Test.YtbencgjihoiieaaPb
import Derived.Test.YtbencgjihoiieaaRow
import Derived.Test.YtbencgjihoiieaaChecked
import Derived.WalkKit
import Derived.WalkSpells
import Derived.WalkLawsBesides
import Derived.LoopTactic
import Derived.Lib.SmallJoins
import Derived.Deep.QuietTactic
import Derived.Deep.WholeRow
import Derived.Laws.Rows
import Derived.Laws.OwnMore
import Derived.Laws.BitsAllLaws
import Derived.RegionTactic
import Derived.Deep.RegionWith
import Derived.Deep.RegionHeld3
import Derived.Deep.DeepCutAuto
import Derived.BigQuiet
import Derived.IntWalk
import Derived.Lib.Hide
set_option linter.unusedVariables false
namespace Go.Proofs.Ytbencgjihoiieaa
open Go.RowKit

theorem blocks_any (w : World) (x y : Int) (hx : -9223372036854775808 ≤ x ∧ x ≤ 9223372036854775807) (hy : -9223372036854775808 ≤ y ∧ y ≤ 9223372036854775807) :
    Calls Try.prog 11 #[.int .i64 x, .int .i64 y] w fun e w' => e = .returned (.int .i64 ((rowN x y : Nat) : Int)) ∧ w' = w := by
  obtain ⟨hx1, hx2⟩ := hx
  obtain ⟨hy1, hy2⟩ := hy
  rcases row_cases x y with hb | ⟨a, c, rfl, rfl, hc, h⟩
  · have hr : rowN x y = 0 := by unfold rowN; rw [hb]
    rw [hr]
    have hor : x < 0 ∨ y < 1 ∨ 1073741824 - x < y := by unfold badRow at hb; simpa using hb
    clear hr hb
    by_cases h1 : x < 0
    · clear hor
      go_enter Try.func11, Try.ntmps11
      go_wp2
      go_ret
      exact ⟨rfl, rfl⟩
    by_cases h2 : y < 1
    · clear hor
      go_enter Try.func11, Try.ntmps11
      go_wp2
      go_ret
      exact ⟨rfl, rfl⟩
    have h3 : 1073741824 - x < y := by omega
    have h1' : 0 ≤ x := by omega
    clear hor
    go_enter Try.func11, Try.ntmps11
    go_wp2
    go_ret
    exact ⟨rfl, rfl⟩
  · have hr : rowN (a : Int) (c : Int) = nB a c := by unfold rowN; rw [row_good a c hc h]; rfl
    rw [hr]
    have hn : ((nB a c : Nat) : Int) = ((a : Int) + (c : Int) - 1) / 4 - (a : Int) / 4 + 1 := by unfold nB; rw [if_neg (by omega)]; omega
    rw [hn]
    have h1 : ¬ (a : Int) < 0 := by omega
    have h2 : ¬ (c : Int) < 1 := by omega
    have h3 : ¬ 1073741824 - (a : Int) < (c : Int) := by omega
    clear hr hn
    go_enter Try.func11, Try.ntmps11
    go_wp2
    go_ret
    exact ⟨rfl, rfl⟩
end Go.Proofs.Ytbencgjihoiieaa
