/- The walk of 'is': a value that the program answers, held against one of the law's. -/
import Derived.Test.YthjbchdpnlenjaaAll
namespace Go.Proofs.Ythjbchdpnlenjaa
open Go.RowKit

theorem eql_block (x : List UInt8) (hx : x.length = 256) (w : World) : (binOp .eql 52 (.agg (cells8 x).toArray) (.agg (cells8 x).toArray)).run Try.prog w = .ok (.bool true) w := by
  have h := run_eql_bytes (P := Try.prog) w 52 5 256 Try.underlying52 Try.underlying5 (fun w => by kernel_rfl) x x hx hx
  rw [beq_self_eq_true] at h
  exact h

set_option maxRecDepth 5000 in
set_option maxHeartbeats 2000000 in
theorem is_num (v : LVal) (A : Option Addr) (cap : Nat) (w : World) (hk : v.c = 56) :
    Calls Try.prog 40 #[.iface 42 (.int .u64 (v.n : Int)), .agg (lvCells v A cap).toArray] w fun e w' => e = .returned (.bool true) ∧ Below w.heap.size w w' := by
  have a1 := ask_u64_u64 (.int .u64 (v.n : Int))
  have a2 := ask_u64_bool (.int .u64 (v.n : Int))
  have a3 := ask_u64_bytes (.int .u64 (v.n : Int))
  have a4 := ask_u64_block (.int .u64 (v.n : Int))
  have hzv := zero_block
  have hst := store_block zeros256 zeros256_length (w.alloc (.cells (lvCells v A cap).toArray 54))
  rw [World.size_alloc] at hst
  have hcl : (cells8 zeros256).length = 256 := by rw [cells8_length, zeros256_length]
  have e0 : (lvCells v A cap).toArray[0]? = some (.int .u8 (v.c.toNat : Int)) := rfl
  have e1 : (lvCells v A cap).toArray[1]? = some (.int .u64 (v.n : Int)) := rfl
  have e2 : (lvCells v A cap).toArray[2]? = some (.bool v.yes) := rfl
  have e3 : (lvCells v A cap).toArray[3]? = some (.slice A v.b.length cap) := rfl
  have hbel : Below w.heap.size w ((w.alloc (.cells (lvCells v A cap).toArray 54)).alloc (.cells (cells8 zeros256).toArray 52)) := ((Below.refl _ _).alloc (Nat.le_refl _) _).alloc (by simp) _
  have k56 := eq56 hk
  clear hk
  generalize (lvCells v A cap).toArray = CS at *
  go_enter Try.func40, Try.ntmps40
  go_wp2_with fail
  go_ret
  exact ⟨rfl, hbel⟩

set_option maxRecDepth 5000 in
set_option maxHeartbeats 2000000 in
theorem is_flag (v : LVal) (A : Option Addr) (cap : Nat) (w : World) (hk : v.c = 63) :
    Calls Try.prog 40 #[.iface 4 (.bool v.yes), .agg (lvCells v A cap).toArray] w fun e w' => e = .returned (.bool true) ∧ Below w.heap.size w w' := by
  have a1 := ask_bool_u64 (.bool v.yes)
  have a2 := ask_bool_bool (.bool v.yes)
  have a3 := ask_bool_bytes (.bool v.yes)
  have a4 := ask_bool_block (.bool v.yes)
  have hzv := zero_block
  have hst := store_block zeros256 zeros256_length (w.alloc (.cells (lvCells v A cap).toArray 54))
  rw [World.size_alloc] at hst
  have hcl : (cells8 zeros256).length = 256 := by rw [cells8_length, zeros256_length]
  have e0 : (lvCells v A cap).toArray[0]? = some (.int .u8 (v.c.toNat : Int)) := rfl
  have e1 : (lvCells v A cap).toArray[1]? = some (.int .u64 (v.n : Int)) := rfl
  have e2 : (lvCells v A cap).toArray[2]? = some (.bool v.yes) := rfl
  have e3 : (lvCells v A cap).toArray[3]? = some (.slice A v.b.length cap) := rfl
  have hbel : Below w.heap.size w ((w.alloc (.cells (lvCells v A cap).toArray 54)).alloc (.cells (cells8 zeros256).toArray 52)) := ((Below.refl _ _).alloc (Nat.le_refl _) _).alloc (by simp) _
  have k56 := ne56 (c := v.c) (by rw [hk]; decide)
  have k63 := eq63 hk
  clear hk
  generalize (lvCells v A cap).toArray = CS at *
  go_enter Try.func40, Try.ntmps40
  go_wp2_with fail
  go_ret
  exact ⟨rfl, hbel⟩

set_option maxRecDepth 5000 in
set_option maxHeartbeats 2000000 in
theorem is_blob (v : LVal) (A : Option Addr) (cap : Nat) (w : World) (A1 : Option Addr) (c1 : Nat) (h1 : Shows w w.heap.size A1 v.b.length (cells8 v.b)) (h2 : Shows w w.heap.size A v.b.length (cells8 v.b)) (hk : v.c = 42) :
    Calls Try.prog 40 #[.iface 25 (.slice A1 v.b.length c1), .agg (lvCells v A cap).toArray] w fun e w' => e = .returned (.bool true) ∧ Below w.heap.size w w' := by
  have a1 := ask_bytes_u64 (.slice A1 v.b.length c1)
  have a2 := ask_bytes_bool (.slice A1 v.b.length c1)
  have a3 := ask_bytes_bytes (.slice A1 v.b.length c1)
  have a4 := ask_bytes_block (.slice A1 v.b.length c1)
  have hzv := zero_block
  have hst := store_block zeros256 zeros256_length (w.alloc (.cells (lvCells v A cap).toArray 54))
  rw [World.size_alloc] at hst
  have hcl : (cells8 zeros256).length = 256 := by rw [cells8_length, zeros256_length]
  have e0 : (lvCells v A cap).toArray[0]? = some (.int .u8 (v.c.toNat : Int)) := rfl
  have e1 : (lvCells v A cap).toArray[1]? = some (.int .u64 (v.n : Int)) := rfl
  have e2 : (lvCells v A cap).toArray[2]? = some (.bool v.yes) := rfl
  have e3 : (lvCells v A cap).toArray[3]? = some (.slice A v.b.length cap) := rfl
  have hbel : Below w.heap.size w ((w.alloc (.cells (lvCells v A cap).toArray 54)).alloc (.cells (cells8 zeros256).toArray 52)) := ((Below.refl _ _).alloc (Nat.le_refl _) _).alloc (by simp) _
  have hz : ∀ (w' : World) (o : Obj), w'.heap.size ≤ (w'.alloc o).heap.size := fun w' o => by simp
  have hs1 := str_shows 25 9 5 Try.underlying25 Try.underlying5 Try.underlying9 (c := c1) ((h1.alloc (Nat.le_refl _) (.cells (lvCells v A cap).toArray 54)).alloc (hz _ _) (.cells (cells8 zeros256).toArray 52))
  have hs2 := str_shows 25 9 5 Try.underlying25 Try.underlying5 Try.underlying9 (c := cap) ((h2.alloc (Nat.le_refl _) (.cells (lvCells v A cap).toArray 54)).alloc (hz _ _) (.cells (cells8 zeros256).toArray 52))
  clear hz
  have k56 := ne56 (c := v.c) (by rw [hk]; decide)
  have k63 := ne63 (c := v.c) (by rw [hk]; decide)
  have k42 := eq42 hk
  clear hk
  generalize (lvCells v A cap).toArray = CS at *
  go_enter Try.func40, Try.ntmps40
  go_wp2_with fail
  go_ret
  exact ⟨rfl, hbel⟩

end Go.Proofs.Ythjbchdpnlenjaa
