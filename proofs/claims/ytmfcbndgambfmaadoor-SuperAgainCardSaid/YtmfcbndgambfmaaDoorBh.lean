/- A node whose two lists grow. -/
import Derived.Test.YtmfcbndgambfmaaDoorBd
import Derived.Deep.RegionHeld3
import Derived.Deep.RegionHeldLaw
import Derived.Deep.AppendLies
import Derived.Laws.OwnMore
set_option linter.unusedVariables false
namespace Go.Proofs.YtmfcbndgambfmaaDoor
open Go.RowKit

theorem nums64_snoc (l : List Nat) (x : Nat) : nums64 l ++ [.int .u64 (x : Int)] = nums64 (l ++ [x]) := by simp [nums64]
theorem grown_set (w : World) (a : Addr) (v : Value) : w.grownBy (w.setCell a v) (some a.block) := by
  have hb := (Below.refl a.block w).setCell (Nat.le_refl _) v (p := a)
  exact ⟨hb.os, hb.tape, hb.output, hb.size, fun i hi hne => Below.heap_setCell w a v i (fun e => hne (by rw [e]))⟩
section
end
end Go.Proofs.YtmfcbndgambfmaaDoor
