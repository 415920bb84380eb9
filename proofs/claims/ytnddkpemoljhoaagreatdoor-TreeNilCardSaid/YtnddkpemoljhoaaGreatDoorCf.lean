/- Walks: the document's own answers: run, Sum, Add, Table; the chapter's row. -/
import Derived.Test.YtnddkpemoljhoaaGreatDoorCe
import Derived.Laws.BytesString
import Derived.Laws.IdiomStrings
namespace Go.Proofs.YtnddkpemoljhoaaGreatDoor
open Go.RowKit

theorem in32 (r : Nat) (b : UInt8) (h : r < 4294967296) : bits .xor .u32 (r : Int) (b.toNat : Int) = ((r ^^^ b.toNat : Nat) : Int) := u32_xor_nat _ _ h (byte_lt32 b)

theorem sub32 (x : Nat) (h : x < 4294967296) : IntKind.u32.wrap (4294967295 - (x : Int)) = ((M32 - x : Nat) : Int) := by rw [IntKind.wrap_u32']; unfold M32; omega

end Go.Proofs.YtnddkpemoljhoaaGreatDoor
