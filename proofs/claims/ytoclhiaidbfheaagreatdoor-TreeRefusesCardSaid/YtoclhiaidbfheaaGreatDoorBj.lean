/- The program's Of. -/
import Derived.Test.YtoclhiaidbfheaaGreatDoorBe
import Derived.Test.YtoclhiaidbfheaaGreatDoorBi
import Derived.Stop.BytesEq
set_option linter.unusedVariables false
namespace Go.Proofs.YtoclhiaidbfheaaGreatDoor
open Go.RowKit

theorem neq_blk (a b : List UInt8) (ha : a.length = 256) (hb : b.length = 256) (w : World) : (binOp .neq 151 (.agg (cells8 a).toArray) (.agg (cells8 b).toArray)).run Tryz.prog w = .ok (.bool (!(a == b))) w := by
  have h := run_equalIn_bytes (P := Tryz.prog) w 9998 151 5 256 Tryz.underlying151 Tryz.underlying5 (fun w => by kernel_rfl) a b ha hb
  have h2 : (Op.equalIn 10000 151 (.agg (cells8 a).toArray) (.agg (cells8 b).toArray)).run Tryz.prog w = .ok (a == b) w := h
  rw [run_neq_struct, h2]
  rfl
theorem store_blk (w : World) (old new : List UInt8) (ho : old.length = 256) (hn : new.length = 256) : (storeCells ⟨w.heap.size, 0, none⟩ (cells8 new)).run Tryz.prog (w.alloc (.cells (cells8 old).toArray 151)) = .ok () (w.alloc (.cells (cells8 new).toArray 151)) := by
  have := run_storeCells_new (P := Tryz.prog) w 151 (cells8 old).toArray (cells8 new).toArray (by rw [blk_size, cells8_size, hn]) (by rw [cells8_size, cells8_size, ho, hn]) (cells8_all _)
  simpa using this
end Go.Proofs.YtoclhiaidbfheaaGreatDoor
