/- The walk of 'is', for blocks: a value that the program answers, held against one of the law's. -/
import Derived.Test.YthjbchdpnlenjaaIs
namespace Go.Proofs.Ythjbchdpnlenjaa
open Go.RowKit

set_option maxRecDepth 5000 in
set_option maxHeartbeats 2000000 in
theorem is_block (v : LVal) (A : Option Addr) (cap : Nat) (w : World) (hx : v.x.length = 256) (hk : v.c = 35) :
    Calls Try.prog 40 #[.iface 52 (.agg (cells8 v.x).toArray), .agg (lvCells v A cap).toArray] w fun e w' => e = .returned (.bool true) ∧ Below w.heap.size w w' := by
  have a1 := ask_block_u64 (.agg (cells8 v.x).toArray)
  have a2 := ask_block_bool (.agg (cells8 v.x).toArray)
  have a3 := ask_block_bytes (.agg (cells8 v.x).toArray)
  have a4 := ask_block_block (.agg (cells8 v.x).toArray)
  have hzv := zero_block
  have hst := store_block v.x hx (w.alloc (.cells (lvCells v A cap).toArray 54))
  rw [World.size_alloc] at hst
  have hcl : (cells8 v.x).length = 256 := by rw [cells8_length, hx]
  have e0 : (lvCells v A cap).toArray[0]? = some (.int .u8 (v.c.toNat : Int)) := rfl
  have e1 : (lvCells v A cap).toArray[1]? = some (.int .u64 (v.n : Int)) := rfl
  have e2 : (lvCells v A cap).toArray[2]? = some (.bool v.yes) := rfl
  have e3 : (lvCells v A cap).toArray[3]? = some (.slice A v.b.length cap) := rfl
  have hbel : Below w.heap.size w ((w.alloc (.cells (lvCells v A cap).toArray 54)).alloc (.cells (cells8 v.x).toArray 52)) := ((Below.refl _ _).alloc (Nat.le_refl _) _).alloc (by simp) _
  have hr4 := (lv_range v A cap w 54)
  have hr5 : ((w.alloc (.cells (lvCells v A cap).toArray 54)).alloc (.cells (cells8 v.x).toArray 52)).rangeAt w.heap.size 4 (cells8 v.x) := fun j u hu => by
    rw [World.cell?_alloc_lt _ _ _ (by simp)]
    exact hr4 j u hu
  have hh := heap_alloc_new (w.alloc (.cells (lvCells v A cap).toArray 54)) (.cells (cells8 v.x).toArray 52)
  rw [World.size_alloc] at hh
  have HR := Lib.hid hr5
  have HH := Lib.hid hh
  have HX := Lib.hid hx
  have heq := eql_block v.x hx
  clear hr4 hr5 hh
  have k56 := ne56 (c := v.c) (by rw [hk]; decide)
  have k63 := ne63 (c := v.c) (by rw [hk]; decide)
  have k42 := ne42 (c := v.c) (by rw [hk]; decide)
  have k35 := eq35 hk
  clear hk hx
  generalize (lvCells v A cap).toArray = CS at *
  go_enter Try.func40, Try.ntmps40
  go_wp2_with fail
  refine wp_load_row 52 (.tmp 11) rfl (w.heap.size + 1) rfl 52 (cells8 v.x).toArray (0, 0) _ HH.out Try.underlying52 rfl (block_cells _ HX.out) ?_
  go_wp2_with fail
  refine wp_load_mid 52 (.tmp 115) rfl w.heap.size 4 rfl (cells8 v.x) _ HR.out Try.underlying52 rfl (by rw [block_size, cells8_length, HX.out]) ?_
  go_wp2_with fail
  go_ret
  exact ⟨rfl, hbel⟩

end Go.Proofs.Ythjbchdpnlenjaa
