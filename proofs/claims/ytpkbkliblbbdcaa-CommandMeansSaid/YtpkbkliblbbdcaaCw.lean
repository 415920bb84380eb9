/- The walk of the law CommandOps. -/
import Derived.Test.YtpkbkliblbbdcaaCv
set_option linter.unusedVariables false
namespace Go.Proofs.Ytpkbkliblbbdcaa
open Go.RowKit
set_option maxRecDepth 20000

theorem Packed.bytes {w w' : World} {r : Option (List UInt8)} {e : Ending} (h : Packed w r e w') : ∃ A n c, e = .returned (.tuple #[.slice A n c, .int .i64 (packE r)]) ∧ Hid (n = (r.getD []).length ∧ Shows w' w'.heap.size A n (cells8 (r.getD [])) ∧ Below w.heap.size w w') := by
  cases r with
  | none => exact ⟨none, 0, 0, h.1, rfl, Shows.empty _ _ _, h.2⟩
  | some l =>
    obtain ⟨A, c, rfl, ho, hb, _⟩ := packed_ok h
    exact ⟨A, l.length, c, rfl, rfl, Shows.owned ho, hb⟩

set_option maxHeartbeats 8000000 in
theorem ops_much (k : Int) (v t : Nat) (s a c : Int) (d : List UInt8) (A : Option Addr) (cap : Nat) (k2 : Int) (v2 t2 : Nat) (s2 a2 c2 : Int) (d2 : List UInt8) (A2 : Option Addr) (cap2 : Nat) (w : World) (hmu : 9000 < d.length ∨ 9000 < d2.length) :
    Calls Try.prog 3 #[.agg #[.int .i64 k, .int .u64 (v : Int), .int .u64 (t : Int), .int .i64 s, .int .i64 a, .int .i64 c, .slice A d.length cap], .agg #[.int .i64 k2, .int .u64 (v2 : Int), .int .u64 (t2 : Int), .int .i64 s2, .int .i64 a2, .int .i64 c2, .slice A2 d2.length cap2]] w fun e w' => e = .returned (.bool true) ∧ Below w.heap.size w w' := by
  have HM1 := Lib.hid (much_any k v t s a c d A cap)
  have HM2 := Lib.hid (much_any k2 v2 t2 s2 a2 c2 d2 A2 cap2)
  by_cases h1 : 9000 < d.length
  · rw [dec_t h1] at HM1
    clear h1 hmu HM2
    go_enter Try.func3, Try.ntmps3
    go_wp2_with fail
    refine (HM1.out _).mono ?_
    rintro e w1 ⟨rfl, hb1⟩
    have hB : Below w.heap.size w w1 := (below2 w _ _).trans (hb1.mono (by simp; omega))
    clear hb1
    go_wp2_with fail
    refine (known_any _).mono ?_
    rintro e w2 ⟨rfl, hb2⟩
    go_wp2_with fail
    go_ret
    exact ⟨rfl, hB.trans (hb2.mono hB.size)⟩
  · have h2 : 9000 < d2.length := by omega
    rw [dec_f h1] at HM1
    rw [dec_t h2] at HM2
    clear h1 h2 hmu
    go_enter Try.func3, Try.ntmps3
    go_wp2_with fail
    refine (HM1.out _).mono ?_
    rintro e w1 ⟨rfl, hb1⟩
    have hB : Below w.heap.size w w1 := (below2 w _ _).trans (hb1.mono (by simp; omega))
    have hbp : Box w1 (w.heap.size + 1) ⟨k2, v2, t2, s2, a2, c2, d2⟩ A2 cap2 := by
      have h := heap_alloc_new (w.alloc (.cells #[.int .i64 k, .int .u64 (v : Int), .int .u64 (t : Int), .int .i64 s, .int .i64 a, .int .i64 c, .slice A d.length cap] 26)) (.cells #[.int .i64 k2, .int .u64 (v2 : Int), .int .u64 (t2 : Int), .int .i64 s2, .int .i64 a2, .int .i64 c2, .slice A2 d2.length cap2] 26)
      rw [World.size_alloc] at h
      exact (hb1.block _ (by simp)).trans h
    obtain ⟨l0, l1, l2, l3, l4, l5, l6⟩ := hbp.cells
    clear hb1 hbp
    go_wp2_with fail
    refine (HM2.out _).mono ?_
    rintro e w2 ⟨rfl, hb2⟩
    have hB2 := hB.trans (hb2.mono hB.size)
    clear hb2 l0 l1 l2 l3 l4 l5 l6
    go_wp2_with fail
    refine (known_any _).mono ?_
    rintro e w3 ⟨rfl, hb3⟩
    go_wp2_with fail
    go_ret
    exact ⟨rfl, hB2.trans (hb3.mono hB2.size)⟩

end Go.Proofs.Ytpkbkliblbbdcaa
