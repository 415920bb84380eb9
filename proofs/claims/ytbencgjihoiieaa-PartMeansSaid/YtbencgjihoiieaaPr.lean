/- A part, bytes, a block that came in as arguments. -/
import Derived.Test.YtbencgjihoiieaaRows
import Derived.Test.YtbencgjihoiieaaPb
import Derived.Test.YtbencgjihoiieaaRow
import Derived.ProofKit
import Derived.OpenShut
import Derived.Stop.Joined
import Derived.Lib.SmallJoins
import Derived.Deep.Slices
set_option linter.unusedVariables false
namespace Go.Proofs.Ytbencgjihoiieaa
open Go.RowKit Go.ChangeShapes Go.WideShapes Go.Deep Go.WideMaps Go.WideElems

theorem byte_of {z : Int} (h : (Lit.int .u8 z).wf = true) : ∃ b : UInt8, z = (b.toNat : Int) := by
  have hb := bounds_u8 h
  exact ⟨UInt8.ofNat z.toNat, by simp; omega⟩
theorem bytes_list : ∀ {cs : List Value}, (∀ i, i < cs.length → ∃ z : Int, cs[i]? = some (.int .u8 z) ∧ (Lit.int .u8 z).wf = true) → ∃ l : List UInt8, l.length = cs.length ∧ cs = cells8 l
  | [], _ => ⟨[], rfl, rfl⟩
  | c :: cs, h => by
    obtain ⟨z, hz, hw⟩ := h 0 (by simp)
    obtain ⟨b, rfl⟩ := byte_of hw
    obtain ⟨l, hl, he⟩ := bytes_list (cs := cs) fun i hi => h (i + 1) (by simpa using hi)
    refine ⟨b :: l, by simp [hl], ?_⟩
    simp at hz
    rw [hz, he]
    simp [cells8]
theorem arr3 {cs : Array Value} (h : cs.size = 3) : ∃ a0 a1 a2, cs = #[a0, a1, a2] := by
  obtain ⟨l⟩ := cs
  rcases l with _ | ⟨a0, _ | ⟨a1, _ | ⟨a2, _ | ⟨a3, t⟩⟩⟩⟩
  · cases h
  · cases h
  · cases h
  · exact ⟨a0, a1, a2, rfl⟩
  · simp at h

section
variable {H : Type} {enc : TypeId × Value → H} {w : World} {base : Nat} {held : Bool}
theorem span_fields : ∃ f0 f1 f2 : Field, Try.prog.underlying 23 = some (.struct #[f0, f1, f2]) ∧
    (f0.type = 3 ∧ f0.offset = 0) ∧ (f1.type = 3 ∧ f1.offset = 1) ∧ (f2.type = 3 ∧ f2.offset = 2) :=
  ⟨_, _, _, Try.underlying23, ⟨rfl, rfl⟩, ⟨rfl, rfl⟩, ⟨rfl, rfl⟩⟩
set_option maxRecDepth 100000 in
/-- a part, read -/
theorem span_of {b0 : Nat} {v : Value} {d : DataW H} {p : List MemPlace} (hv : Value.okWide Try.prog w .any b0 23 v) (h : DataW.Trod enc Try.prog w base (fun _ => true) held 23 v d p) :
    ∃ s : SP, v = .agg #[.int .i64 s.b, .int .i64 s.f, .int .i64 s.t] ∧ (-9223372036854775808 ≤ s.b ∧ s.b ≤ 9223372036854775807) ∧ (-9223372036854775808 ≤ s.f ∧ s.f ≤ 9223372036854775807) ∧ (-9223372036854775808 ≤ s.t ∧ s.t ≤ 9223372036854775807) := by
  have s3 : Try.prog.cellsOf 23 = 3 := by kernel_rfl
  have s1 : Try.prog.cellsOf 3 = 1 := by kernel_rfl
  obtain ⟨f0, f1, f2, hu, ⟨t0, o0⟩, ⟨t1, o1⟩, ⟨t2, o2⟩⟩ := span_fields
  have hv2 := okWide_struct hu hv
  obtain ⟨cs, hv3, hsz⟩ := hv2
  subst hv3
  obtain ⟨fuel, hf0⟩ := h
  have hf0 : DataW.trod enc Try.prog w base (fun _ => true) held fuel 23 cs.toList = some (d, p) := by simpa [Value.cells] using hf0
  obtain ⟨xs, n, _, _, _, hxl, hf⟩ := DataW.trod_struct hu hf0
  rw [s3] at hsz
  obtain ⟨a0, a1, a2, rfl⟩ := arr3 hsz
  have hx : ∀ i, i < 3 → ∃ y, xs[i]? = some y := fun i hi => ⟨xs[i]'(by rw [hxl]; exact hi), List.getElem?_eq_getElem _⟩
  obtain ⟨y0, e0⟩ := hx 0 (by omega)
  obtain ⟨y1, e1⟩ := hx 1 (by omega)
  obtain ⟨y2, e2⟩ := hx 2 (by omega)
  have h0 := (hf 0 f0 rfl).trans e0
  have h1 := (hf 1 f1 rfl).trans e1
  have h2 := (hf 2 f2 rfl).trans e2
  rw [t0, o0, s1] at h0
  rw [t1, o1, s1] at h1
  rw [t2, o2, s1] at h2
  simp only [List.drop_zero, List.drop_succ_cons, List.take_succ_cons, List.take_zero] at h0 h1 h2
  obtain ⟨z0, c0, _, w0⟩ := DataW.trod_int Try.underlying3 h0
  obtain ⟨z1, c1, _, w1⟩ := DataW.trod_int Try.underlying3 h1
  obtain ⟨z2, c2, _, w2⟩ := DataW.trod_int Try.underlying3 h2
  injection c0 with c0 _
  injection c1 with c1 _
  injection c2 with c2 _
  subst c0
  subst c1
  subst c2
  have b0 := bounds_i64 w0
  have b1 := bounds_i64 w1
  have b2 := bounds_i64 w2
  exact ⟨⟨z0, z1, z2⟩, rfl, by omega, by omega, by omega⟩
/-- bytes, read -/
theorem bytes_of {fuel : Nat} {v : Value} {x : DataW H × List MemPlace} (h : DataW.trod enc Try.prog w base (fun _ => true) held fuel 32 [v] = some x) :
    ∃ (A : Option Addr) (l : List UInt8) (cap : Nat), v = .slice A l.length cap ∧ Shows w w.heap.size A l.length (cells8 l) ∧ l.length ≤ cap ∧ cap ≤ 9223372036854775807 := by
  rcases open_ints Try.underlying32 Try.underlying5 (by kernel_rfl) h with ⟨hcs, _⟩ | ⟨a, len, cap, zs, hcs, _, hl, hm, hz, _, hcell, hwz⟩
  · injection hcs with hcs _
    exact ⟨none, [], 0, hcs, Shows.empty _ _ _, Nat.le_refl _, by omega⟩
  · injection hcs with hcs _
    have hz' : zs.length = cap := by simpa using hz
    obtain ⟨l, hll, hs, hc, hcm⟩ := row_bytes (w := w) (a := some a) (len := len) (cap := cap) (zs := zs) (.inr ⟨a, rfl, hl, hm, hz', (fun i hi => hcell i (by omega)), hwz⟩)
    subst hll
    exact ⟨some a, l, cap, hcs, hs, hc, hcm⟩
set_option maxRecDepth 100000 in
/-- a block, read -/
theorem block_of {b0 : Nat} {v : Value} {d : DataW H} {p : List MemPlace} (hv : Value.okWide Try.prog w .any b0 36 v) (h : DataW.Trod enc Try.prog w base (fun _ => true) held 36 v d p) :
    ∃ l : List UInt8, l.length = 256 ∧ v = .agg (cells8 l).toArray := by
  have s256 : Try.prog.cellsOf 36 = 256 := by kernel_rfl
  have s1 : Try.prog.cellsOf 5 = 1 := by kernel_rfl
  obtain ⟨cs, rfl⟩ : ∃ cs, v = .agg cs := by
    simp only [Value.okWide, Try.underlying36] at hv
    obtain ⟨cs, h1, _⟩ := hv
    exact ⟨cs, h1⟩
  obtain ⟨fuel, hf⟩ := h
  have hf : DataW.trod enc Try.prog w base (fun _ => true) held fuel 36 cs.toList = some (d, p) := by simpa [Value.cells] using hf
  obtain ⟨xs, m, _, _, hl, hxl, hi⟩ := DataW.trod_array Try.underlying36 hf
  rw [s256] at hl
  obtain ⟨l, hll, he⟩ := bytes_list (cs := cs.toList) fun i hlt => by
    have hi' := hi i (by omega)
    rw [s1, Nat.mul_one, List.drop_eq_getElem_cons hlt] at hi'
    simp only [List.take_succ_cons, List.take_zero] at hi'
    obtain ⟨y, hy⟩ : ∃ y, xs[i]? = some y := ⟨xs[i]'(by omega), List.getElem?_eq_getElem _⟩
    obtain ⟨z, hz, _, hw⟩ := DataW.trod_int Try.underlying5 (hi'.trans hy)
    have hz := (List.cons.inj hz).1
    exact ⟨z, by rw [List.getElem?_eq_getElem hlt, hz], hw⟩
  refine ⟨l, by omega, ?_⟩
  rw [← he]
theorem int_of {z : Int} (h : (Lit.int .i64 z).wf = true) : -9223372036854775808 ≤ z ∧ z ≤ 9223372036854775807 := by
  have hb := bounds_i64 h
  omega
end
end Go.Proofs.Ytbencgjihoiieaa
