/- Same: the program's, the document's. -/
import Derived.Test.YtoclhiaidbfheaaGreatDoorBd
set_option linter.unusedVariables false
namespace Go.Proofs.YtoclhiaidbfheaaGreatDoor
open Go.RowKit

end Go.Proofs.YtoclhiaidbfheaaGreatDoor
