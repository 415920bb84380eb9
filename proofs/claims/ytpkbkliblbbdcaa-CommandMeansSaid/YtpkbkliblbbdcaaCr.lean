/- Operations, answers, bytes that came in as arguments. -/
import Derived.Test.YtpkbkliblbbdcaaRows
import Derived.Test.YtpkbkliblbbdcaaCp
import Derived.Test.YtpkbkliblbbdcaaWa
import Derived.ProofKit
import Derived.OpenShut
import Derived.Stop.Joined
import Derived.Lib.SmallJoins
import Derived.Deep.Slices
set_option linter.unusedVariables false
namespace Go.Proofs.Ytpkbkliblbbdcaa
open Go.RowKit Go.ChangeShapes Go.WideShapes Go.Deep Go.WideMaps Go.WideElems

theorem nat64 {z : Int} (h : (Lit.int .u64 z).wf = true) : ∃ u : Nat, z = (u : Int) ∧ u < 18446744073709551616 := by
  have hb := bounds_u64 h
  exact ⟨z.toNat, by omega, by omega⟩
theorem int_of {z : Int} (h : (Lit.int .i64 z).wf = true) : -9223372036854775808 ≤ z ∧ z ≤ 9223372036854775807 := by
  have hb := bounds_i64 h
  omega
theorem arr7 {cs : Array Value} (h : cs.size = 7) : ∃ a0 a1 a2 a3 a4 a5 a6, cs = #[a0, a1, a2, a3, a4, a5, a6] := by
  obtain ⟨l⟩ := cs
  have h : l.length = 7 := by simpa using h
  match l, h with
  | [a0, a1, a2, a3, a4, a5, a6], _ => exact ⟨a0, a1, a2, a3, a4, a5, a6, rfl⟩
theorem arr3 {cs : Array Value} (h : cs.size = 3) : ∃ a0 a1 a2, cs = #[a0, a1, a2] := by
  obtain ⟨l⟩ := cs
  have h : l.length = 3 := by simpa using h
  match l, h with
  | [a0, a1, a2], _ => exact ⟨a0, a1, a2, rfl⟩

section
variable {H : Type} {enc : TypeId × Value → H} {w : World} {base : Nat} {held : Bool}
/-- bytes, read -/
theorem bytes_of {fuel : Nat} {v : Value} {x : DataW H × List MemPlace} (h : DataW.trod enc Try.prog w base (fun _ => true) held fuel 24 [v] = some x) :
    ∃ (A : Option Addr) (l : List UInt8) (cap : Nat), v = .slice A l.length cap ∧ Shows w w.heap.size A l.length (cells8 l) ∧ l.length ≤ cap ∧ cap ≤ 9223372036854775807 := by
  rcases open_ints Try.underlying24 Try.underlying5 (by kernel_rfl) h with ⟨hcs, _⟩ | ⟨a, len, cap, zs, hcs, _, hl, hm, hz, _, hcell, hwz⟩
  · injection hcs with hcs _
    exact ⟨none, [], 0, hcs, Shows.empty _ _ _, Nat.le_refl _, by omega⟩
  · injection hcs with hcs _
    have hz' : zs.length = cap := by simpa using hz
    obtain ⟨l, hll, hs, hc, hcm⟩ := row_bytes (w := w) (a := some a) (len := len) (cap := cap) (zs := zs) (.inr ⟨a, rfl, hl, hm, hz', (fun i hi => hcell i (by omega)), hwz⟩)
    subst hll
    exact ⟨some a, l, cap, hcs, hs, hc, hcm⟩
theorem op_fields : ∃ f0 f1 f2 f3 f4 f5 f6 : Field, Try.prog.underlying 26 = some (.struct #[f0, f1, f2, f3, f4, f5, f6]) ∧
    (f0.type = 22 ∧ f0.offset = 0) ∧ (f1.type = 23 ∧ f1.offset = 1) ∧ (f2.type = 23 ∧ f2.offset = 2) ∧ (f3.type = 3 ∧ f3.offset = 3) ∧ (f4.type = 3 ∧ f4.offset = 4) ∧ (f5.type = 3 ∧ f5.offset = 5) ∧ (f6.type = 24 ∧ f6.offset = 6) :=
  ⟨_, _, _, _, _, _, _, Try.underlying26, ⟨rfl, rfl⟩, ⟨rfl, rfl⟩, ⟨rfl, rfl⟩, ⟨rfl, rfl⟩, ⟨rfl, rfl⟩, ⟨rfl, rfl⟩, ⟨rfl, rfl⟩⟩
set_option maxRecDepth 100000 in
theorem op_of {b0 : Nat} {v : Value} {d : DataW H} {p : List MemPlace} (hv : Value.okWide Try.prog w .any b0 26 v) (h : DataW.Trod enc Try.prog w base (fun _ => true) held 26 v d p) :
    ∃ (o : OP) (A : Option Addr) (cap : Nat), v = .agg #[.int .i64 o.k, .int .u64 (o.v : Int), .int .u64 (o.t : Int), .int .i64 o.s, .int .i64 o.a, .int .i64 o.c, .slice A o.d.length cap] ∧ o.fit ∧ Shows w w.heap.size A o.d.length (cells8 o.d) ∧ o.d.length ≤ cap ∧ cap ≤ 9223372036854775807 := by
  have sn : Try.prog.cellsOf 26 = 7 := by kernel_rfl
  have s0 : Try.prog.cellsOf 24 = 1 := by kernel_rfl
  have s1 : Try.prog.cellsOf 22 = 1 := by kernel_rfl
  have s2 : Try.prog.cellsOf 3 = 1 := by kernel_rfl
  have s3 : Try.prog.cellsOf 23 = 1 := by kernel_rfl
  obtain ⟨f0, f1, f2, f3, f4, f5, f6, hu, ⟨t0, o0⟩, ⟨t1, o1⟩, ⟨t2, o2⟩, ⟨t3, o3⟩, ⟨t4, o4⟩, ⟨t5, o5⟩, ⟨t6, o6⟩⟩ := op_fields
  have hv2 := okWide_struct hu hv
  obtain ⟨cs, hv3, hsz⟩ := hv2
  subst hv3
  obtain ⟨fuel, hf0⟩ := h
  have hf0 : DataW.trod enc Try.prog w base (fun _ => true) held fuel 26 cs.toList = some (d, p) := by simpa [Value.cells] using hf0
  obtain ⟨xs, n, _, _, _, hxl, hf⟩ := DataW.trod_struct hu hf0
  rw [sn] at hsz
  obtain ⟨a0, a1, a2, a3, a4, a5, a6, rfl⟩ := arr7 hsz
  have hx : ∀ i, i < 7 → ∃ y, xs[i]? = some y := fun i hi => ⟨xs[i]'(by rw [hxl]; exact hi), List.getElem?_eq_getElem _⟩
  obtain ⟨y0, e0⟩ := hx 0 (by omega)
  obtain ⟨y1, e1⟩ := hx 1 (by omega)
  obtain ⟨y2, e2⟩ := hx 2 (by omega)
  obtain ⟨y3, e3⟩ := hx 3 (by omega)
  obtain ⟨y4, e4⟩ := hx 4 (by omega)
  obtain ⟨y5, e5⟩ := hx 5 (by omega)
  obtain ⟨y6, e6⟩ := hx 6 (by omega)
  have h0 := (hf 0 f0 rfl).trans e0
  have h1 := (hf 1 f1 rfl).trans e1
  have h2 := (hf 2 f2 rfl).trans e2
  have h3 := (hf 3 f3 rfl).trans e3
  have h4 := (hf 4 f4 rfl).trans e4
  have h5 := (hf 5 f5 rfl).trans e5
  have h6 := (hf 6 f6 rfl).trans e6
  rw [t0, o0, s1] at h0
  rw [t1, o1, s3] at h1
  rw [t2, o2, s3] at h2
  rw [t3, o3, s2] at h3
  rw [t4, o4, s2] at h4
  rw [t5, o5, s2] at h5
  rw [t6, o6, s0] at h6
  simp only [List.drop_zero, List.drop_succ_cons, List.take_succ_cons, List.take_zero] at h0 h1 h2 h3 h4 h5 h6
  obtain ⟨z0, c0, _, w0⟩ := DataW.trod_int Try.underlying22 h0
  injection c0 with c0 _
  subst c0
  obtain ⟨z1, c1, _, w1⟩ := DataW.trod_int Try.underlying23 h1
  injection c1 with c1 _
  subst c1
  obtain ⟨z2, c2, _, w2⟩ := DataW.trod_int Try.underlying23 h2
  injection c2 with c2 _
  subst c2
  obtain ⟨z3, c3, _, w3⟩ := DataW.trod_int Try.underlying3 h3
  injection c3 with c3 _
  subst c3
  obtain ⟨z4, c4, _, w4⟩ := DataW.trod_int Try.underlying3 h4
  injection c4 with c4 _
  subst c4
  obtain ⟨z5, c5, _, w5⟩ := DataW.trod_int Try.underlying3 h5
  injection c5 with c5 _
  subst c5
  obtain ⟨A, l, cap, rfl, hs, hc, hm⟩ := bytes_of h6
  obtain ⟨u1, rfl, hu1⟩ := nat64 w1
  obtain ⟨u2, rfl, hu2⟩ := nat64 w2
  exact ⟨⟨z0, u1, u2, z3, z4, z5, l⟩, A, cap, rfl, ⟨hu1, hu2, int_of w0, int_of w3, int_of w4, int_of w5⟩, hs, hc, hm⟩
theorem an_fields : ∃ f0 f1 f2 : Field, Try.prog.underlying 41 = some (.struct #[f0, f1, f2]) ∧
    (f0.type = 29 ∧ f0.offset = 0) ∧ (f1.type = 3 ∧ f1.offset = 1) ∧ (f2.type = 24 ∧ f2.offset = 2) :=
  ⟨_, _, _, Try.underlying41, ⟨rfl, rfl⟩, ⟨rfl, rfl⟩, ⟨rfl, rfl⟩⟩
set_option maxRecDepth 100000 in
theorem an_of {b0 : Nat} {v : Value} {d : DataW H} {p : List MemPlace} (hv : Value.okWide Try.prog w .any b0 41 v) (h : DataW.Trod enc Try.prog w base (fun _ => true) held 41 v d p) :
    ∃ (a : AN) (A : Option Addr) (cap : Nat), v = .agg #[.int .i64 a.k, .int .i64 a.s, .slice A a.d.length cap] ∧ ((-9223372036854775808 ≤ a.k ∧ a.k ≤ 9223372036854775807) ∧ (-9223372036854775808 ≤ a.s ∧ a.s ≤ 9223372036854775807)) ∧ Shows w w.heap.size A a.d.length (cells8 a.d) ∧ a.d.length ≤ cap ∧ cap ≤ 9223372036854775807 := by
  have sn : Try.prog.cellsOf 41 = 3 := by kernel_rfl
  have s0 : Try.prog.cellsOf 24 = 1 := by kernel_rfl
  have s1 : Try.prog.cellsOf 29 = 1 := by kernel_rfl
  have s2 : Try.prog.cellsOf 3 = 1 := by kernel_rfl
  obtain ⟨f0, f1, f2, hu, ⟨t0, o0⟩, ⟨t1, o1⟩, ⟨t2, o2⟩⟩ := an_fields
  have hv2 := okWide_struct hu hv
  obtain ⟨cs, hv3, hsz⟩ := hv2
  subst hv3
  obtain ⟨fuel, hf0⟩ := h
  have hf0 : DataW.trod enc Try.prog w base (fun _ => true) held fuel 41 cs.toList = some (d, p) := by simpa [Value.cells] using hf0
  obtain ⟨xs, n, _, _, _, hxl, hf⟩ := DataW.trod_struct hu hf0
  rw [sn] at hsz
  obtain ⟨a0, a1, a2, rfl⟩ := arr3 hsz
  have hx : ∀ i, i < 3 → ∃ y, xs[i]? = some y := fun i hi => ⟨xs[i]'(by rw [hxl]; exact hi), List.getElem?_eq_getElem _⟩
  obtain ⟨y0, e0⟩ := hx 0 (by omega)
  obtain ⟨y1, e1⟩ := hx 1 (by omega)
  obtain ⟨y2, e2⟩ := hx 2 (by omega)
  have h0 := (hf 0 f0 rfl).trans e0
  have h1 := (hf 1 f1 rfl).trans e1
  have h2 := (hf 2 f2 rfl).trans e2
  rw [t0, o0, s1] at h0
  rw [t1, o1, s2] at h1
  rw [t2, o2, s0] at h2
  simp only [List.drop_zero, List.drop_succ_cons, List.take_succ_cons, List.take_zero] at h0 h1 h2
  obtain ⟨z0, c0, _, w0⟩ := DataW.trod_int Try.underlying29 h0
  injection c0 with c0 _
  subst c0
  obtain ⟨z1, c1, _, w1⟩ := DataW.trod_int Try.underlying3 h1
  injection c1 with c1 _
  subst c1
  obtain ⟨A, l, cap, rfl, hs, hc, hm⟩ := bytes_of h2
  exact ⟨⟨z0, z1, l⟩, A, cap, rfl, ⟨int_of w0, int_of w1⟩, hs, hc, hm⟩
end

end Go.Proofs.Ytpkbkliblbbdcaa
