/- Walks: the document's own answers: run, Sum, Add, Table; the chapter's row. -/
import Derived.Test.YtoclhiaidbfheaaGreatDoorCe
import Derived.Laws.BytesString
import Derived.Laws.IdiomStrings
namespace Go.Proofs.YtoclhiaidbfheaaGreatDoor
open Go.RowKit

end Go.Proofs.YtoclhiaidbfheaaGreatDoor
