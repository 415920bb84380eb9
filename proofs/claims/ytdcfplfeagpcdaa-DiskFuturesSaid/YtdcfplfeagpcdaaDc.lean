/- The document's disk: Full, more, New, Open. -/
import Derived.Test.YtdcfplfeagpcdaaDb
namespace Go.Proofs.Ytdcfplfeagpcdaa
open Go.RowKit

/-- a sector of one byte, i of its places made -/
def fullN (c : UInt8) (i : Nat) : List UInt8 := List.replicate i c ++ List.replicate (64 - i) 0
def full (c : UInt8) : List UInt8 := List.replicate 64 c
theorem fullN_len (c : UInt8) (i : Nat) (h : i ≤ 64) : (fullN c i).length = 64 := by simp [fullN]; omega
theorem fullN_set (c : UInt8) (i : Nat) (h : i < 64) : (fullN c i).set i c = fullN c (i + 1) := by
  unfold fullN
  rw [List.set_append_right _ _ (by simp), List.length_replicate, Nat.sub_self, show 64 - i = (64 - (i + 1)) + 1 by omega, List.replicate_succ, List.set_cons_zero, List.replicate_succ', List.append_assoc]
  rfl
theorem fullN_all (c : UInt8) : fullN c 64 = full c := by simp [fullN, full]
theorem cells8_set (l : List UInt8) (k : Nat) (b : UInt8) : (cells8 l).toArray.setIfInBounds k (.int .u8 (b.toNat : Int)) = (cells8 (l.set k b)).toArray := by simp [cells8, List.map_set]
theorem sector_size : (Try.prog.info? 38).map (·.size) = some 64 := by kernel_rfl
theorem zero_sector (w : World) : (zeroValue 38).run Try.prog w = .ok (.agg (cells8 (fullN 0 0)).toArray) w := by kernel_rfl
theorem one8 (l : List UInt8) : (cells8 l).toArray.all (·.oneCell') = true := by simp [cells8, Value.oneCell']
theorem size8 (l : List UInt8) : (cells8 l).toArray.size = l.length := by rw [List.size_toArray, cells8_length]

set_option maxRecDepth 10000 in
set_option maxHeartbeats 2000000 in
theorem full_any (c : UInt8) (w : World) :
    Calls Try.prog 24 #[.int .u8 (c.toNat : Int)] w fun e w' => e = .returned (.agg (cells8 (full c)).toArray) ∧ Below w.heap.size w w' := by
  have hzv := zero_sector
  have h00 : fullN 0 0 = fullN c 0 := by simp [fullN]
  rw [h00] at hzv
  clear h00
  go_enter Try.func24, Try.ntmps24
  go_wp2_with (first
    | refine wpList_store_row rfl 38 (.tmp 3) (.tmp 5) rfl (w.heap.size + 1) (cells8 (fullN c 0)).toArray rfl rfl 38 (cells8 (fullN c 0)).toArray (heap_alloc2_new w _ _) (by rw [sector_size, size8, fullN_len c 0 (by omega)]) rfl (one8 _) ?_
    | fail)
  have e0 : ((w.alloc (.cells (cells8 (fullN c 0)).toArray 38)).alloc (.cells (cells8 (fullN c 0)).toArray 38)).heap[w.heap.size]? = some (.cells (cells8 (fullN c 0)).toArray 38 (0, 0)) := by
    rw [Below.heap_alloc _ _ _ (by simp)]
    exact heap_alloc_new w _
  have e1 := heap_alloc2_new w (.cells (cells8 (fullN c 0)).toArray 38) (.cells (cells8 (fullN c 0)).toArray 38)
  have f0 : (((w.alloc (.cells (cells8 (fullN c 0)).toArray 38)).alloc (.cells (cells8 (fullN c 0)).toArray 38)).setRow (w.heap.size + 1) (cells8 (fullN c 0)).toArray).heap[w.heap.size]? = some (.cells (cells8 (fullN c 0)).toArray 38 (0, 0)) := by
    rw [setRow_other _ _ _ _ (by omega)]
    exact e0
  have f1 := setRow_heap _ (w.heap.size + 1) _ (cells8 (fullN c 0)).toArray 38 (0, 0) e1
  have f2 := below_setRow (((Below.refl w.heap.size w).alloc (Nat.le_refl _) (.cells (cells8 (fullN c 0)).toArray 38)).alloc (by simp) (.cells (cells8 (fullN c 0)).toArray 38)) (show w.heap.size ≤ w.heap.size + 1 by omega) (cells8 (fullN c 0)).toArray
  generalize (((w.alloc (.cells (cells8 (fullN c 0)).toArray 38)).alloc (.cells (cells8 (fullN c 0)).toArray 38)).setRow (w.heap.size + 1) (cells8 (fullN c 0)).toArray) = W at *
  clear e0 e1 hzv
  go_loopw [4] (fun j wr => ∃ i : Nat, i ≤ 64 ∧ j = .int .i64 (i : Int) ∧ wr.heap[w.heap.size]? = some (.cells (cells8 (fullN c 0)).toArray 38 (0, 0)) ∧ wr.heap[w.heap.size + 1]? = some (.cells (cells8 (fullN c i)).toArray 38 (0, 0)) ∧ Below w.heap.size w wr) (fun j _ => 64 - (intOf j).toNat)
  case atStart => exact ⟨0, Nat.zero_le _, rfl, f0, f1, f2⟩
  case round =>
    obtain ⟨i, hi, rfl, H0, H1, hb⟩ := hrel
    clear f0 f1 f2
    by_cases hlt : i < 64
    · have hc1 : wr.cell? ⟨w.heap.size + 1, i, none⟩ = some (.int .u8 (((fullN c i)[i]'(by rw [fullN_len c i hi]; exact hlt)).toNat : Int)) := by
        rw [cell_of_row wr _ i _ _ _ H1, List.getElem?_toArray]
        exact cells8_get _ i _
      have hf := Joins.unfrozen_of_block H1 i
      generalize (((fullN c i)[i]'(by rw [fullN_len c i hi]; exact hlt)).toNat : Int) = y at *
      have s0 : (wr.setCell ⟨w.heap.size + 1, i, none⟩ (.int .u8 (c.toNat : Int))).heap[w.heap.size]? = some (.cells (cells8 (fullN c 0)).toArray 38 (0, 0)) := by
        rw [Below.heap_setCell _ _ _ _ (by simp)]
        exact H0
      have s1 : (wr.setCell ⟨w.heap.size + 1, i, none⟩ (.int .u8 (c.toNat : Int))).heap[w.heap.size + 1]? = some (.cells (cells8 (fullN c (i + 1))).toArray 38 (0, 0)) := by
        rw [Joins.block_setCell H1, cells8_set, fullN_set c i hlt]
      have S0 := Lib.hid s0
      have S1 := Lib.hid s1
      clear s0 s1 H0 H1
      go_wp2
      go_roundw
      case rel => exact ⟨i + 1, hlt, by go_num, S0.out, S1.out, hb.setCell (by simp) _⟩
      case measure => simp [intOf]; omega
    · have : i = 64 := by omega
      subst this
      rw [fullN_all] at H1
      have hl64 : (full c).length = 64 := by simp [full]
      go_wp2_with (first
        | refine wpList_load_row rfl 38 (.tmp 3) rfl (w.heap.size + 1) rfl 38 (cells8 (full c)).toArray (0, 0) _ H1 Try.underlying38 rfl (by rw [sector_size, size8, hl64]) ?_
        | refine wpList_store_row rfl 38 (.tmp 2) (.tmp 13) rfl w.heap.size (cells8 (full c)).toArray rfl rfl 38 (cells8 (fullN c 0)).toArray H0 (by rw [sector_size, size8, hl64]) (by rw [size8, size8, hl64, fullN_len c 0 (by omega)]) (one8 _) ?_
        | fail)
      exact bodyPost_ret (results_cell_row rfl _ _ w.heap.size 38 (cells8 (full c)).toArray (0, 0) _ rfl (setRow_heap _ _ _ _ _ _ H0) Try.underlying38 rfl (by rw [sector_size, size8, hl64])) rfl ⟨rfl, below_setRow hb (Nat.le_refl _) _⟩
end Go.Proofs.Ytdcfplfeagpcdaa
