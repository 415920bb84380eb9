/- The program's Block, of a node that may be. -/
import Derived.Test.YtmfcbndgambfmaaDoorBd
set_option linter.unusedVariables false
namespace Go.Proofs.YtmfcbndgambfmaaDoor
open Go.RowKit

theorem leN_one (n : Nat) : leN 1 n = [UInt8.ofNat n] := rfl
end Go.Proofs.YtmfcbndgambfmaaDoor
