/- The document's Low, Number, Summed. -/
import Derived.Test.YtoclhiaidbfheaaGreatDoorBh
import Derived.LoopTactic
set_option linter.unusedVariables false
namespace Go.Proofs.YtoclhiaidbfheaaGreatDoor
open Go.RowKit

end Go.Proofs.YtoclhiaidbfheaaGreatDoor
