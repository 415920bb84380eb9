/- Bytes that came in as an argument, as a list. -/
import Derived.Test.YtoclhiaidbfheaaGreatDoorMem
import Derived.OpenShut
namespace Go.Proofs.YtoclhiaidbfheaaGreatDoor
open Go.RowKit

end Go.Proofs.YtoclhiaidbfheaaGreatDoor
