/- Walks: a value laid into an operation, as what a letter names. -/
import Derived.Test.YtpkbkliblbbdcaaCe
import Derived.Laws.Tables
set_option linter.unusedVariables false
namespace Go.Proofs.Ytpkbkliblbbdcaa
open Go.RowKit
set_option maxRecDepth 20000

def isN (c : Int) : Prop := c = 86 ∨ c = 84 ∨ c = 83 ∨ c = 65 ∨ c = 67

section
variable (k : Int) (v t : Nat) (s a c : Int) (d : List UInt8) (A : Option Addr) (cap : Nat) (w : World) (g : Nat)

set_option maxHeartbeats 1000000 in
theorem lay_blob (A' : Option Addr) (cap' : Nat) (l : List UInt8) (hg : w.heap[g]? = some (.cells #[.int .i64 k, .int .u64 (v : Int), .int .u64 (t : Int), .int .i64 s, .int .i64 a, .int .i64 c, .slice A d.length cap] 26 (0, 0))) :
    Calls Try.prog 39 #[.pointer (some ⟨g, 0, none⟩), .int .i32 68, .iface 24 (.slice A' l.length cap')] w fun e w' => e = .returned (.bool true) ∧ w' = w.setRow g #[.int .i64 k, .int .u64 (v : Int), .int .u64 (t : Int), .int .i64 s, .int .i64 a, .int .i64 c, .slice A' l.length cap'] := by
  have h3 := ask_bytes_bytes (.slice A' l.length cap')
  have hf := frozen_of_row w g 6 _ _ hg
  have hc6 : w.cell? ⟨g, 6, none⟩ = some (.slice A d.length cap) := cell_of_row w g 6 _ _ (0, 0) hg
  go_enter Try.func39, Try.ntmps39
  go_wp2
  go_ret
  refine ⟨rfl, ?_⟩
  rw [setCell_eq_setRow w g 6 _ _ _ _ hg]
  rfl

set_option maxHeartbeats 1000000 in
theorem lay_num (x : Int) (hx : isN x) (n : Nat) (hn : n < 18446744073709551616) (hg : w.heap[g]? = some (.cells #[.int .i64 k, .int .u64 (v : Int), .int .u64 (t : Int), .int .i64 s, .int .i64 a, .int .i64 c, .slice A d.length cap] 26 (0, 0))) :
    Calls Try.prog 39 #[.pointer (some ⟨g, 0, none⟩), .int .i32 x, .iface 23 (.int .u64 (n : Int))] w fun e w' => e = .returned (.bool true) ∧ w' = w.setRow g (opCells (laid ⟨k, v, t, s, a, c, d⟩ x (.num n)) A cap).toArray := by
  have h3 := ask_u64_u64 (.int .u64 (n : Int))
  have hf := fun j => frozen_of_row w g j _ _ hg
  have hcs := fun j => cell_of_row w g j _ _ (0, 0) hg
  have hc1 : w.cell? ⟨g, 1, none⟩ = some (.int .u64 (v : Int)) := hcs 1
  have hc2 : w.cell? ⟨g, 2, none⟩ = some (.int .u64 (t : Int)) := hcs 2
  have hc3 : w.cell? ⟨g, 3, none⟩ = some (.int .i64 s) := hcs 3
  have hc4 : w.cell? ⟨g, 4, none⟩ = some (.int .i64 a) := hcs 4
  have hc5 : w.cell? ⟨g, 5, none⟩ = some (.int .i64 c) := hcs 5
  clear hcs
  rcases hx with rfl | rfl | rfl | rfl | rfl
  · go_enter Try.func39, Try.ntmps39
    go_wp2
    go_ret
    refine ⟨rfl, ?_⟩
    rw [setCell_eq_setRow w g 1 _ _ _ _ hg]
    rfl
  · go_enter Try.func39, Try.ntmps39
    go_wp2
    go_ret
    refine ⟨rfl, ?_⟩
    rw [setCell_eq_setRow w g 2 _ _ _ _ hg]
    rfl
  · have hw : IntKind.i64.wrap (n : Int) = toI n := rfl
    generalize toI n = tn at *
    go_enter Try.func39, Try.ntmps39
    go_wp2
    go_ret
    refine ⟨rfl, ?_⟩
    rw [setCell_eq_setRow w g 3 _ _ _ _ hg, ← hw]
    rfl
  · have hw : IntKind.i64.wrap (n : Int) = toI n := rfl
    generalize toI n = tn at *
    go_enter Try.func39, Try.ntmps39
    go_wp2
    go_ret
    refine ⟨rfl, ?_⟩
    rw [setCell_eq_setRow w g 4 _ _ _ _ hg, ← hw]
    rfl
  · have hw : IntKind.i64.wrap (n : Int) = toI n := rfl
    generalize toI n = tn at *
    go_enter Try.func39, Try.ntmps39
    go_wp2
    go_ret
    refine ⟨rfl, ?_⟩
    rw [setCell_eq_setRow w g 5 _ _ _ _ hg, ← hw]
    rfl
end

end Go.Proofs.Ytpkbkliblbbdcaa
