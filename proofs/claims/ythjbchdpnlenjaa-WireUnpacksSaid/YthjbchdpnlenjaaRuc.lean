/- The document's Block. -/
import Derived.Test.YthjbchdpnlenjaaRua
namespace Go.Proofs.Ythjbchdpnlenjaa
open Go.RowKit

set_option maxRecDepth 10000 in
set_option maxHeartbeats 1000000 in
theorem block_val (l : List UInt8) (h : l.length = 256) (w : World) :
    Calls Try.prog 38 #[.agg (cells8 l).toArray] w fun e w' => e = .returned (.agg (lvCells (lvX l) none 0).toArray) ∧ Below w.heap.size w w' := by
  have hzv := zero_val
  have HB := Lib.hid (built_block l h)
  have hb1 : Below w.heap.size w ((w.alloc (.cells (cells8 l).toArray 52)).alloc (.cells (lvCells lv0 none 0).toArray 54)) := ((Below.refl _ _).alloc (Nat.le_refl _) _).alloc (by simp) _
  go_enter Try.func38, Try.ntmps38
  have h0 : ((w.alloc (.cells (cells8 l).toArray 52)).alloc (.cells (lvCells lv0 none 0).toArray 54)).heap[w.heap.size]? = some (.cells (cells8 l).toArray 52 (0, 0)) := by
    rw [Below.heap_alloc _ _ _ (by simp)]
    exact heap_alloc_new w _
  have h1 := heap_alloc2_new w (.cells (cells8 l).toArray 52) (.cells (lvCells lv0 none 0).toArray 54)
  have H0 := Lib.hid h0
  have H1 := Lib.hid h1
  clear h0 h1
  go_wp2_with (first
    | refine wpList_load_row rfl 52 (.tmp 1) rfl w.heap.size rfl 52 (cells8 l).toArray (0, 0) _ H0.out Try.underlying52 rfl (block_cells l h) ?_
    | refine wpList_buildTo rfl 54 _ rfl (some 4) rfl (lvCells (lvX l) none 0).toArray (by rw [Array.toList_map]; exact HB.out) ?_
    | refine wpList_store_row rfl 54 (.tmp 2) (.tmp 4) rfl (w.heap.size + 1) (lvCells (lvX l) none 0).toArray rfl rfl 54 (lvCells lv0 none 0).toArray H1.out (by rw [val_size, cells_sz h]) (by rw [cells_sz zeros256_length, cells_sz h]) (cells_one _ _ _) ?_
    | fail)
  exact bodyPost_ret (results_cell_row rfl _ _ (w.heap.size + 1) 54 (lvCells (lvX l) none 0).toArray (0, 0) _ rfl (setRow_heap _ _ _ _ _ _ H1.out) Try.underlying54 rfl (by rw [val_size, cells_sz h])) rfl ⟨rfl, below_setRow hb1 (by omega) _⟩
end Go.Proofs.Ythjbchdpnlenjaa
