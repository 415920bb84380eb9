/- The program's Of. -/
import Derived.Test.YtmfcbndgambfmaaDoorBe
import Derived.Test.YtmfcbndgambfmaaDoorBi
import Derived.Stop.BytesEq
set_option linter.unusedVariables false
namespace Go.Proofs.YtmfcbndgambfmaaDoor
open Go.RowKit

theorem neq_blk (a b : List UInt8) (ha : a.length = 256) (hb : b.length = 256) (w : World) : (binOp .neq 45 (.agg (cells8 a).toArray) (.agg (cells8 b).toArray)).run Tryd.prog w = .ok (.bool (!(a == b))) w := by
  have h := run_equalIn_bytes (P := Tryd.prog) w 9998 45 5 256 Tryd.underlying45 Tryd.underlying5 (fun w => by kernel_rfl) a b ha hb
  have h2 : (Op.equalIn 10000 45 (.agg (cells8 a).toArray) (.agg (cells8 b).toArray)).run Tryd.prog w = .ok (a == b) w := h
  rw [run_neq_struct, h2]
  rfl
theorem eql_blk (a b : List UInt8) (ha : a.length = 256) (hb : b.length = 256) (w : World) : (binOp .eql 45 (.agg (cells8 a).toArray) (.agg (cells8 b).toArray)).run Tryd.prog w = .ok (.bool (a == b)) w := by
  have h := run_equalIn_bytes (P := Tryd.prog) w 9998 45 5 256 Tryd.underlying45 Tryd.underlying5 (fun w => by kernel_rfl) a b ha hb
  have h2 : (Op.equalIn 10000 45 (.agg (cells8 a).toArray) (.agg (cells8 b).toArray)).run Tryd.prog w = .ok (a == b) w := h
  rw [run_eql_struct, h2]
  rfl
theorem store_blk (w : World) (old new : List UInt8) (ho : old.length = 256) (hn : new.length = 256) : (storeCells ⟨w.heap.size, 0, none⟩ (cells8 new)).run Tryd.prog (w.alloc (.cells (cells8 old).toArray 45)) = .ok () (w.alloc (.cells (cells8 new).toArray 45)) := by
  have := run_storeCells_new (P := Tryd.prog) w 45 (cells8 old).toArray (cells8 new).toArray (by rw [blk_size, cells8_size, hn]) (by rw [cells8_size, cells8_size, ho, hn]) (cells8_all _)
  simpa using this
/-- what Of answers -/
def OfAs (w : World) (o : Option ND) (e : Ending) (w' : World) : Prop :=
  Below w.heap.size w w' ∧ match o with
    | none => e = .returned (.tuple #[.agg #[.int .i64 0, .int .u64 0, .slice none 0 0, .slice none 0 0], .int .i64 4])
    | some n => ∃ A A' ck cv, e = .returned (.tuple #[.agg #[.int .i64 n.kind, .int .u64 (n.birth : Int), .slice A n.keys.length ck, .slice A' n.vals.length cv], .int .i64 0]) ∧ Shows w' w'.heap.size A n.keys.length (nums64 n.keys) ∧ Shows w' w'.heap.size A' n.vals.length (nums64 n.vals)
def pickO (b : Bool) (n : ND) : Option ND := match b with | true => some n | false => none
end Go.Proofs.YtmfcbndgambfmaaDoor
