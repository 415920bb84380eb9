/- The walk of the law CommandParts. -/
import Derived.Test.YtpkbkliblbbdcaaCp
set_option linter.unusedVariables false
namespace Go.Proofs.Ytpkbkliblbbdcaa
open Go.RowKit
set_option maxRecDepth 20000

theorem as_RR (x : Value) (w : World) : (Instr.typeAssert (.iface 54 x) 20 54 true).run Try.prog w = .ok (.tuple #[x, .bool true]) w := by kernel_rfl
theorem as_RS (x : Value) (w : World) : (Instr.typeAssert (.iface 54 x) 20 56 true).run Try.prog w = .ok (.tuple #[.agg #[.int .i64 0, .int .i64 0], .bool false]) w := by kernel_rfl
theorem as_RI (x : Value) (w : World) : (Instr.typeAssert (.iface 54 x) 20 3 true).run Try.prog w = .ok (.tuple #[.int .i64 0, .bool false]) w := by kernel_rfl
theorem as_RF (x : Value) (w : World) : (Instr.typeAssert (.iface 54 x) 20 60 true).run Try.prog w = .ok (.tuple #[.agg #[.int .u64 0, .int .u64 0], .bool false]) w := by kernel_rfl
theorem as_SR (x : Value) (w : World) : (Instr.typeAssert (.iface 56 x) 20 54 true).run Try.prog w = .ok (.tuple #[.agg #[.int .i64 0, .int .i64 0], .bool false]) w := by kernel_rfl
theorem as_SS (x : Value) (w : World) : (Instr.typeAssert (.iface 56 x) 20 56 true).run Try.prog w = .ok (.tuple #[x, .bool true]) w := by kernel_rfl
theorem as_SI (x : Value) (w : World) : (Instr.typeAssert (.iface 56 x) 20 3 true).run Try.prog w = .ok (.tuple #[.int .i64 0, .bool false]) w := by kernel_rfl
theorem as_SF (x : Value) (w : World) : (Instr.typeAssert (.iface 56 x) 20 60 true).run Try.prog w = .ok (.tuple #[.agg #[.int .u64 0, .int .u64 0], .bool false]) w := by kernel_rfl
theorem as_IR (x : Value) (w : World) : (Instr.typeAssert (.iface 3 x) 20 54 true).run Try.prog w = .ok (.tuple #[.agg #[.int .i64 0, .int .i64 0], .bool false]) w := by kernel_rfl
theorem as_IS (x : Value) (w : World) : (Instr.typeAssert (.iface 3 x) 20 56 true).run Try.prog w = .ok (.tuple #[.agg #[.int .i64 0, .int .i64 0], .bool false]) w := by kernel_rfl
theorem as_II (x : Value) (w : World) : (Instr.typeAssert (.iface 3 x) 20 3 true).run Try.prog w = .ok (.tuple #[x, .bool true]) w := by kernel_rfl
theorem as_IF (x : Value) (w : World) : (Instr.typeAssert (.iface 3 x) 20 60 true).run Try.prog w = .ok (.tuple #[.agg #[.int .u64 0, .int .u64 0], .bool false]) w := by kernel_rfl
theorem as_FR (x : Value) (w : World) : (Instr.typeAssert (.iface 60 x) 20 54 true).run Try.prog w = .ok (.tuple #[.agg #[.int .i64 0, .int .i64 0], .bool false]) w := by kernel_rfl
theorem as_FS (x : Value) (w : World) : (Instr.typeAssert (.iface 60 x) 20 56 true).run Try.prog w = .ok (.tuple #[.agg #[.int .i64 0, .int .i64 0], .bool false]) w := by kernel_rfl
theorem as_FI (x : Value) (w : World) : (Instr.typeAssert (.iface 60 x) 20 3 true).run Try.prog w = .ok (.tuple #[.int .i64 0, .bool false]) w := by kernel_rfl
theorem as_FF (x : Value) (w : World) : (Instr.typeAssert (.iface 60 x) 20 60 true).run Try.prog w = .ok (.tuple #[x, .bool true]) w := by kernel_rfl
theorem as_NR (w : World) : (Instr.typeAssert .nilIface 20 54 true).run Try.prog w = .ok (.tuple #[.agg #[.int .i64 0, .int .i64 0], .bool false]) w := by kernel_rfl
theorem as_NS (w : World) : (Instr.typeAssert .nilIface 20 56 true).run Try.prog w = .ok (.tuple #[.agg #[.int .i64 0, .int .i64 0], .bool false]) w := by kernel_rfl
theorem as_NI (w : World) : (Instr.typeAssert .nilIface 20 3 true).run Try.prog w = .ok (.tuple #[.int .i64 0, .bool false]) w := by kernel_rfl
theorem as_NF (w : World) : (Instr.typeAssert .nilIface 20 60 true).run Try.prog w = .ok (.tuple #[.agg #[.int .u64 0, .int .u64 0], .bool false]) w := by kernel_rfl
theorem ne_R (x y : Int) (w : World) : (binOp .neq 54 (.agg #[.int .i64 x, .int .i64 y]) (.agg #[.int .i64 x, .int .i64 y])).run Try.prog w = .ok (.bool false) w := by
  rw [run_neq_struct]
  go_simp
theorem ne_S (x y : Int) (w : World) : (binOp .neq 56 (.agg #[.int .i64 x, .int .i64 y]) (.agg #[.int .i64 x, .int .i64 y])).run Try.prog w = .ok (.bool false) w := by
  rw [run_neq_struct]
  go_simp
theorem ne_F (x y : Int) (w : World) : (binOp .neq 60 (.agg #[.int .u64 x, .int .u64 y]) (.agg #[.int .u64 x, .int .u64 y])).run Try.prog w = .ok (.bool false) w := by
  rw [run_neq_struct]
  go_simp

theorem fin_parts {w w2 w6 : World} {a b c : Obj} (h : Below w.heap.size w w2) (h6 : Below ((((w2.alloc a).alloc b).alloc c).heap.size) (((w2.alloc a).alloc b).alloc c) w6) : Below w.heap.size w w6 := by
  have h3 : Below w.heap.size w (((w2.alloc a).alloc b).alloc c) := ((h.alloc h.size _).alloc (by have := h.size; simp; omega) _).alloc (by have := h.size; simp; omega) _
  exact h3.trans (h6.mono h3.size)

/-- the box that came, and what lay -/
def BoxB (w wr : World) (o : OP) (A : Option Addr) (cap : Nat) : Prop := Box wr w.heap.size o A cap ∧ Below w.heap.size w wr
theorem BoxB.on {w wr w' : World} {o : OP} {A : Option Addr} {cap : Nat} (h : BoxB w wr o A cap) (hb : Below wr.heap.size wr w') : BoxB w w' o A cap :=
  ⟨h.1.below hb (Array.getElem?_eq_some_iff.1 h.1).1, h.2.trans (hb.mono h.2.size)⟩
theorem BoxB.up3 {w wr : World} {o : OP} {A : Option Addr} {cap : Nat} (h : BoxB w wr o A cap) (a b c : Obj) : BoxB w (((wr.alloc a).alloc b).alloc c) o A cap :=
  h.on ((below2 wr a b).alloc (by simp; omega) c)
theorem BoxB.new (w : World) (o : OP) (A : Option Addr) (cap : Nat) : BoxB w (w.alloc (.cells #[.int .i64 o.k, .int .u64 (o.v : Int), .int .u64 (o.t : Int), .int .i64 o.s, .int .i64 o.a, .int .i64 o.c, .slice A o.d.length cap] 26)) o A cap := ⟨heap_alloc_new _ _, (Below.refl _ _).alloc (Nat.le_refl _) _⟩

set_option maxHeartbeats 8000000 in
theorem parts_law (k : Int) (v t : Nat) (s a c : Int) (d : List UInt8) (A : Option Addr) (cap : Nat) (w : World) (hd : d.length ≤ 9223372036854775807) :
    Calls Try.prog 6 #[.agg #[.int .i64 k, .int .u64 (v : Int), .int .u64 (t : Int), .int .i64 s, .int .i64 a, .int .i64 c, .slice A d.length cap]] w fun e w' => e = .returned (.bool true) ∧ Below w.heap.size w w' := by
  have HB0 := Lib.hid (BoxB.new w ⟨k, v, t, s, a, c, d⟩ A cap)
  have HMU := Lib.hid (much_any k v t s a c d A cap)
  by_cases hmu : 9000 < d.length
  · rw [dec_t hmu] at HMU
    clear hmu
    go_enter Try.func6, Try.ntmps6
    go_wp2_with fail
    refine (HMU.out _).mono ?_
    rintro e w1 ⟨rfl, hb1⟩
    have N1 := Lib.hid (HB0.out.on hb1)
    go_wp2_with fail
    refine (known_any _).mono ?_
    rintro e w2 ⟨rfl, hb2⟩
    have N2 := Lib.hid (N1.out.on hb2)
    go_wp2_with fail
    go_ret
    exact ⟨rfl, N2.out.2⟩
  · rw [dec_f hmu] at HMU
    have HPA := Lib.hid (fun W => part_any k v t s a c d A cap W hd)
    by_cases h19 : 1 ≤ k ∧ k ≤ 9
    · have hk : k = 1 ∨ k = 2 ∨ k = 3 ∨ k = 4 ∨ k = 5 ∨ k = 6 ∨ k = 7 ∨ k = 8 ∨ k = 9 := by omega
      have hdq : (d.length : Int).tdiv 64 = ((d.length / 64 : Nat) : Int) := by rw [Int.tdiv_eq_ediv_of_nonneg (by omega)]; omega
      have hq9 : d.length / 64 ≤ 9223372036854775807 := by omega
      clear h19 hmu
      rcases hk with rfl | rfl | rfl | rfl | rfl | rfl | rfl | rfl | rfl
      · have hpv : partV 1 v t s a c d = .iface 3 (.int .i64 s) := rfl
        rw [hpv] at HPA
        clear hpv
        clear hdq hq9
        have aR := as_IR (.int .i64 s)
        have aS := as_IS (.int .i64 s)
        have aI := as_II (.int .i64 s)
        have aF := as_IF (.int .i64 s)
        go_enter Try.func6, Try.ntmps6
        go_wp2_with fail
        refine (HMU.out _).mono ?_
        rintro e w1 ⟨rfl, hb1⟩
        have N1 := Lib.hid (HB0.out.on hb1)
        clear HB0 hb1
        obtain ⟨l0, l1, l2, l3, l4, l5, l6⟩ := N1.out.1.cells
        go_wp2_with fail
        refine (HPA.out _).mono ?_
        rintro e w2 ⟨rfl, hb2⟩
        have N2 := Lib.hid (N1.out.on hb2)
        clear N1 hb2 l0 l1 l2 l3 l4 l5 l6
        obtain ⟨l0, l1, l2, l3, l4, l5, l6⟩ := N2.out.1.cells
        have U := fun x y z => (N2.out.up3 x y z).1.cells
        have u0 := fun x y z => (U x y z).1
        have u1 := fun x y z => (U x y z).2.1
        have u2 := fun x y z => (U x y z).2.2.1
        have u3 := fun x y z => (U x y z).2.2.2.1
        have u4 := fun x y z => (U x y z).2.2.2.2.1
        have u5 := fun x y z => (U x y z).2.2.2.2.2.1
        have u6 := fun x y z => (U x y z).2.2.2.2.2.2
        clear U
        go_wp2_with (go_at_call 9; refine (known_any _).mono ?_; rintro e w6 ⟨rfl, hb6⟩)
        go_ret
        exact ⟨rfl, fin_parts N2.out.2 hb6⟩
      · have hpv : partV 2 v t s a c d = .nilIface := rfl
        rw [hpv] at HPA
        clear hpv
        clear hdq hq9
        have aR := as_NR
        have aS := as_NS
        have aI := as_NI
        have aF := as_NF
        go_enter Try.func6, Try.ntmps6
        go_wp2_with fail
        refine (HMU.out _).mono ?_
        rintro e w1 ⟨rfl, hb1⟩
        have N1 := Lib.hid (HB0.out.on hb1)
        clear HB0 hb1
        obtain ⟨l0, l1, l2, l3, l4, l5, l6⟩ := N1.out.1.cells
        go_wp2_with fail
        refine (HPA.out _).mono ?_
        rintro e w2 ⟨rfl, hb2⟩
        have N2 := Lib.hid (N1.out.on hb2)
        clear N1 hb2 l0 l1 l2 l3 l4 l5 l6
        obtain ⟨l0, l1, l2, l3, l4, l5, l6⟩ := N2.out.1.cells
        have U := fun x y z => (N2.out.up3 x y z).1.cells
        have u0 := fun x y z => (U x y z).1
        have u1 := fun x y z => (U x y z).2.1
        have u2 := fun x y z => (U x y z).2.2.1
        have u3 := fun x y z => (U x y z).2.2.2.1
        have u4 := fun x y z => (U x y z).2.2.2.2.1
        have u5 := fun x y z => (U x y z).2.2.2.2.2.1
        have u6 := fun x y z => (U x y z).2.2.2.2.2.2
        clear U
        go_wp2_with (go_at_call 9; refine (known_any _).mono ?_; rintro e w6 ⟨rfl, hb6⟩)
        go_ret
        exact ⟨rfl, fin_parts N2.out.2 hb6⟩
      · have hpv : partV 3 v t s a c d = .iface 3 (.int .i64 s) := rfl
        rw [hpv] at HPA
        clear hpv
        clear hdq hq9
        have aR := as_IR (.int .i64 s)
        have aS := as_IS (.int .i64 s)
        have aI := as_II (.int .i64 s)
        have aF := as_IF (.int .i64 s)
        go_enter Try.func6, Try.ntmps6
        go_wp2_with fail
        refine (HMU.out _).mono ?_
        rintro e w1 ⟨rfl, hb1⟩
        have N1 := Lib.hid (HB0.out.on hb1)
        clear HB0 hb1
        obtain ⟨l0, l1, l2, l3, l4, l5, l6⟩ := N1.out.1.cells
        go_wp2_with fail
        refine (HPA.out _).mono ?_
        rintro e w2 ⟨rfl, hb2⟩
        have N2 := Lib.hid (N1.out.on hb2)
        clear N1 hb2 l0 l1 l2 l3 l4 l5 l6
        obtain ⟨l0, l1, l2, l3, l4, l5, l6⟩ := N2.out.1.cells
        have U := fun x y z => (N2.out.up3 x y z).1.cells
        have u0 := fun x y z => (U x y z).1
        have u1 := fun x y z => (U x y z).2.1
        have u2 := fun x y z => (U x y z).2.2.1
        have u3 := fun x y z => (U x y z).2.2.2.1
        have u4 := fun x y z => (U x y z).2.2.2.2.1
        have u5 := fun x y z => (U x y z).2.2.2.2.2.1
        have u6 := fun x y z => (U x y z).2.2.2.2.2.2
        clear U
        go_wp2_with (go_at_call 9; refine (known_any _).mono ?_; rintro e w6 ⟨rfl, hb6⟩)
        go_ret
        exact ⟨rfl, fin_parts N2.out.2 hb6⟩
      · have hpv : partV 4 v t s a c d = .iface 60 (.agg #[.int .u64 (v : Int), .int .u64 (t : Int)]) := rfl
        rw [hpv] at HPA
        clear hpv
        clear hdq hq9
        have aR := as_FR (.agg #[.int .u64 (v : Int), .int .u64 (t : Int)])
        have aS := as_FS (.agg #[.int .u64 (v : Int), .int .u64 (t : Int)])
        have aI := as_FI (.agg #[.int .u64 (v : Int), .int .u64 (t : Int)])
        have aF := as_FF (.agg #[.int .u64 (v : Int), .int .u64 (t : Int)])
        have hne := ne_F (v : Int) (t : Int)
        go_enter Try.func6, Try.ntmps6
        go_wp2_with fail
        refine (HMU.out _).mono ?_
        rintro e w1 ⟨rfl, hb1⟩
        have N1 := Lib.hid (HB0.out.on hb1)
        clear HB0 hb1
        obtain ⟨l0, l1, l2, l3, l4, l5, l6⟩ := N1.out.1.cells
        go_wp2_with fail
        refine (HPA.out _).mono ?_
        rintro e w2 ⟨rfl, hb2⟩
        have N2 := Lib.hid (N1.out.on hb2)
        clear N1 hb2 l0 l1 l2 l3 l4 l5 l6
        obtain ⟨l0, l1, l2, l3, l4, l5, l6⟩ := N2.out.1.cells
        have U := fun x y z => (N2.out.up3 x y z).1.cells
        have u0 := fun x y z => (U x y z).1
        have u1 := fun x y z => (U x y z).2.1
        have u2 := fun x y z => (U x y z).2.2.1
        have u3 := fun x y z => (U x y z).2.2.2.1
        have u4 := fun x y z => (U x y z).2.2.2.2.1
        have u5 := fun x y z => (U x y z).2.2.2.2.2.1
        have u6 := fun x y z => (U x y z).2.2.2.2.2.2
        clear U
        go_wp2_with (go_at_call 9; refine (known_any _).mono ?_; rintro e w6 ⟨rfl, hb6⟩)
        go_ret
        exact ⟨rfl, fin_parts N2.out.2 hb6⟩
      · generalize hq : d.length / 64 = q at *
        have HQ := Lib.hid hq
        have hpv : partV 5 v t s a c d = .iface 54 (.agg #[.int .i64 a, .int .i64 (q : Int)]) := by rw [← hq]; rfl
        rw [hpv] at HPA
        clear hpv
        clear hq
        have aR := as_RR (.agg #[.int .i64 a, .int .i64 (q : Int)])
        have aS := as_RS (.agg #[.int .i64 a, .int .i64 (q : Int)])
        have aI := as_RI (.agg #[.int .i64 a, .int .i64 (q : Int)])
        have aF := as_RF (.agg #[.int .i64 a, .int .i64 (q : Int)])
        have hne := ne_R a (q : Int)
        go_enter Try.func6, Try.ntmps6
        go_wp2_with fail
        refine (HMU.out _).mono ?_
        rintro e w1 ⟨rfl, hb1⟩
        have N1 := Lib.hid (HB0.out.on hb1)
        clear HB0 hb1
        obtain ⟨l0, l1, l2, l3, l4, l5, l6⟩ := N1.out.1.cells
        go_wp2_with fail
        refine (HPA.out _).mono ?_
        rintro e w2 ⟨rfl, hb2⟩
        have N2 := Lib.hid (N1.out.on hb2)
        clear N1 hb2 l0 l1 l2 l3 l4 l5 l6
        obtain ⟨l0, l1, l2, l3, l4, l5, l6⟩ := N2.out.1.cells
        have U := fun x y z => (N2.out.up3 x y z).1.cells
        have u0 := fun x y z => (U x y z).1
        have u1 := fun x y z => (U x y z).2.1
        have u2 := fun x y z => (U x y z).2.2.1
        have u3 := fun x y z => (U x y z).2.2.2.1
        have u4 := fun x y z => (U x y z).2.2.2.2.1
        have u5 := fun x y z => (U x y z).2.2.2.2.2.1
        have u6 := fun x y z => (U x y z).2.2.2.2.2.2
        clear U
        go_wp2_with (go_at_call 9; refine (known_any _).mono ?_; rintro e w6 ⟨rfl, hb6⟩)
        go_ret
        exact ⟨rfl, fin_parts N2.out.2 hb6⟩
      · have hpv : partV 6 v t s a c d = .iface 54 (.agg #[.int .i64 a, .int .i64 c]) := rfl
        rw [hpv] at HPA
        clear hpv
        clear hdq hq9
        have aR := as_RR (.agg #[.int .i64 a, .int .i64 c])
        have aS := as_RS (.agg #[.int .i64 a, .int .i64 c])
        have aI := as_RI (.agg #[.int .i64 a, .int .i64 c])
        have aF := as_RF (.agg #[.int .i64 a, .int .i64 c])
        have hne := ne_R a c
        go_enter Try.func6, Try.ntmps6
        go_wp2_with fail
        refine (HMU.out _).mono ?_
        rintro e w1 ⟨rfl, hb1⟩
        have N1 := Lib.hid (HB0.out.on hb1)
        clear HB0 hb1
        obtain ⟨l0, l1, l2, l3, l4, l5, l6⟩ := N1.out.1.cells
        go_wp2_with fail
        refine (HPA.out _).mono ?_
        rintro e w2 ⟨rfl, hb2⟩
        have N2 := Lib.hid (N1.out.on hb2)
        clear N1 hb2 l0 l1 l2 l3 l4 l5 l6
        obtain ⟨l0, l1, l2, l3, l4, l5, l6⟩ := N2.out.1.cells
        have U := fun x y z => (N2.out.up3 x y z).1.cells
        have u0 := fun x y z => (U x y z).1
        have u1 := fun x y z => (U x y z).2.1
        have u2 := fun x y z => (U x y z).2.2.1
        have u3 := fun x y z => (U x y z).2.2.2.1
        have u4 := fun x y z => (U x y z).2.2.2.2.1
        have u5 := fun x y z => (U x y z).2.2.2.2.2.1
        have u6 := fun x y z => (U x y z).2.2.2.2.2.2
        clear U
        go_wp2_with (go_at_call 9; refine (known_any _).mono ?_; rintro e w6 ⟨rfl, hb6⟩)
        go_ret
        exact ⟨rfl, fin_parts N2.out.2 hb6⟩
      · have hpv : partV 7 v t s a c d = .iface 56 (.agg #[.int .i64 a, .int .i64 c]) := rfl
        rw [hpv] at HPA
        clear hpv
        clear hdq hq9
        have aR := as_SR (.agg #[.int .i64 a, .int .i64 c])
        have aS := as_SS (.agg #[.int .i64 a, .int .i64 c])
        have aI := as_SI (.agg #[.int .i64 a, .int .i64 c])
        have aF := as_SF (.agg #[.int .i64 a, .int .i64 c])
        have hne := ne_S a c
        go_enter Try.func6, Try.ntmps6
        go_wp2_with fail
        refine (HMU.out _).mono ?_
        rintro e w1 ⟨rfl, hb1⟩
        have N1 := Lib.hid (HB0.out.on hb1)
        clear HB0 hb1
        obtain ⟨l0, l1, l2, l3, l4, l5, l6⟩ := N1.out.1.cells
        go_wp2_with fail
        refine (HPA.out _).mono ?_
        rintro e w2 ⟨rfl, hb2⟩
        have N2 := Lib.hid (N1.out.on hb2)
        clear N1 hb2 l0 l1 l2 l3 l4 l5 l6
        obtain ⟨l0, l1, l2, l3, l4, l5, l6⟩ := N2.out.1.cells
        have U := fun x y z => (N2.out.up3 x y z).1.cells
        have u0 := fun x y z => (U x y z).1
        have u1 := fun x y z => (U x y z).2.1
        have u2 := fun x y z => (U x y z).2.2.1
        have u3 := fun x y z => (U x y z).2.2.2.1
        have u4 := fun x y z => (U x y z).2.2.2.2.1
        have u5 := fun x y z => (U x y z).2.2.2.2.2.1
        have u6 := fun x y z => (U x y z).2.2.2.2.2.2
        clear U
        go_wp2_with (go_at_call 9; refine (known_any _).mono ?_; rintro e w6 ⟨rfl, hb6⟩)
        go_ret
        exact ⟨rfl, fin_parts N2.out.2 hb6⟩
      · have hpv : partV 8 v t s a c d = .nilIface := rfl
        rw [hpv] at HPA
        clear hpv
        clear hdq hq9
        have aR := as_NR
        have aS := as_NS
        have aI := as_NI
        have aF := as_NF
        go_enter Try.func6, Try.ntmps6
        go_wp2_with fail
        refine (HMU.out _).mono ?_
        rintro e w1 ⟨rfl, hb1⟩
        have N1 := Lib.hid (HB0.out.on hb1)
        clear HB0 hb1
        obtain ⟨l0, l1, l2, l3, l4, l5, l6⟩ := N1.out.1.cells
        go_wp2_with fail
        refine (HPA.out _).mono ?_
        rintro e w2 ⟨rfl, hb2⟩
        have N2 := Lib.hid (N1.out.on hb2)
        clear N1 hb2 l0 l1 l2 l3 l4 l5 l6
        obtain ⟨l0, l1, l2, l3, l4, l5, l6⟩ := N2.out.1.cells
        have U := fun x y z => (N2.out.up3 x y z).1.cells
        have u0 := fun x y z => (U x y z).1
        have u1 := fun x y z => (U x y z).2.1
        have u2 := fun x y z => (U x y z).2.2.1
        have u3 := fun x y z => (U x y z).2.2.2.1
        have u4 := fun x y z => (U x y z).2.2.2.2.1
        have u5 := fun x y z => (U x y z).2.2.2.2.2.1
        have u6 := fun x y z => (U x y z).2.2.2.2.2.2
        clear U
        go_wp2_with (go_at_call 9; refine (known_any _).mono ?_; rintro e w6 ⟨rfl, hb6⟩)
        go_ret
        exact ⟨rfl, fin_parts N2.out.2 hb6⟩
      · have hpv : partV 9 v t s a c d = .iface 54 (.agg #[.int .i64 a, .int .i64 c]) := rfl
        rw [hpv] at HPA
        clear hpv
        clear hdq hq9
        have aR := as_RR (.agg #[.int .i64 a, .int .i64 c])
        have aS := as_RS (.agg #[.int .i64 a, .int .i64 c])
        have aI := as_RI (.agg #[.int .i64 a, .int .i64 c])
        have aF := as_RF (.agg #[.int .i64 a, .int .i64 c])
        have hne := ne_R a c
        go_enter Try.func6, Try.ntmps6
        go_wp2_with fail
        refine (HMU.out _).mono ?_
        rintro e w1 ⟨rfl, hb1⟩
        have N1 := Lib.hid (HB0.out.on hb1)
        clear HB0 hb1
        obtain ⟨l0, l1, l2, l3, l4, l5, l6⟩ := N1.out.1.cells
        go_wp2_with fail
        refine (HPA.out _).mono ?_
        rintro e w2 ⟨rfl, hb2⟩
        have N2 := Lib.hid (N1.out.on hb2)
        clear N1 hb2 l0 l1 l2 l3 l4 l5 l6
        obtain ⟨l0, l1, l2, l3, l4, l5, l6⟩ := N2.out.1.cells
        have U := fun x y z => (N2.out.up3 x y z).1.cells
        have u0 := fun x y z => (U x y z).1
        have u1 := fun x y z => (U x y z).2.1
        have u2 := fun x y z => (U x y z).2.2.1
        have u3 := fun x y z => (U x y z).2.2.2.1
        have u4 := fun x y z => (U x y z).2.2.2.2.1
        have u5 := fun x y z => (U x y z).2.2.2.2.2.1
        have u6 := fun x y z => (U x y z).2.2.2.2.2.2
        clear U
        go_wp2_with (go_at_call 9; refine (known_any _).mono ?_; rintro e w6 ⟨rfl, hb6⟩)
        go_ret
        exact ⟨rfl, fin_parts N2.out.2 hb6⟩
    · have e : ∀ j : Int, 1 ≤ j → j ≤ 9 → (k == j) = false := fun j h3 h4 => by rw [beq_eq_false_iff_ne]; omega
      have b1 := e 1 (by omega) (by omega)
      have b3 := e 3 (by omega) (by omega)
      have b4 := e 4 (by omega) (by omega)
      have b5 := e 5 (by omega) (by omega)
      have b6 := e 6 (by omega) (by omega)
      have b7 := e 7 (by omega) (by omega)
      have b9 := e 9 (by omega) (by omega)
      have hpv : partV k v t s a c d = .nilIface := by
        unfold partV
        repeat rw [if_neg (by omega)]
      rw [hpv] at HPA
      clear e hpv h19 hmu
      have aR := as_NR
      have aS := as_NS
      have aI := as_NI
      have aF := as_NF
      go_enter Try.func6, Try.ntmps6
      go_wp2_with fail
      refine (HMU.out _).mono ?_
      rintro e w1 ⟨rfl, hb1⟩
      have N1 := Lib.hid (HB0.out.on hb1)
      clear HB0 hb1
      obtain ⟨l0, l1, l2, l3, l4, l5, l6⟩ := N1.out.1.cells
      go_wp2_with fail
      refine (HPA.out _).mono ?_
      rintro e w2 ⟨rfl, hb2⟩
      have N2 := Lib.hid (N1.out.on hb2)
      clear N1 hb2 l0 l1 l2 l3 l4 l5 l6
      obtain ⟨l0, l1, l2, l3, l4, l5, l6⟩ := N2.out.1.cells
      have U := fun x y z => (N2.out.up3 x y z).1.cells
      have u0 := fun x y z => (U x y z).1
      have u1 := fun x y z => (U x y z).2.1
      have u2 := fun x y z => (U x y z).2.2.1
      have u3 := fun x y z => (U x y z).2.2.2.1
      have u4 := fun x y z => (U x y z).2.2.2.2.1
      have u5 := fun x y z => (U x y z).2.2.2.2.2.1
      have u6 := fun x y z => (U x y z).2.2.2.2.2.2
      clear U
      go_wp2_with (go_at_call 9; refine (known_any _).mono ?_; rintro e w6 ⟨rfl, hb6⟩)
      go_ret
      exact ⟨rfl, fin_parts N2.out.2 hb6⟩

end Go.Proofs.Ytpkbkliblbbdcaa
