/- What comes in to SuperAgain: one text out of Bs, Tr, Ti, Tk, Ub, Wj. -/
import Derived.Test.YtmfcbndgambfmaaDoorRows
import Derived.Test.YtmfcbndgambfmaaDoorBc
import Derived.Test.YtmfcbndgambfmaaDoorCa
import Derived.ProofKit
import Derived.LaidMore
import Derived.OpenShut
import Derived.Stop.Joined
import Derived.Lib.LaidTab
import Derived.Lib.SmallJoins
import Derived.Deep.Slices
import Derived.Test.YtmfcbndgambfmaaDoorSg
import Derived.Test.YtmfcbndgambfmaaDoorTh
import Derived.Test.YtmfcbndgambfmaaDoorWz
section
/- From what the row lists to what the walks ask; nodes, blocks that came in as arguments. -/
namespace Go.Proofs.YtmfcbndgambfmaaDoor
open Go.RowKit Go.ChangeShapes Go.WideShapes Go.Deep Go.WideMaps Go.WideElems

def laidL : List (String × DataW Unit) := [("math/bits.deBruijn32tab", Rows.laid_math_bits_deBruijn32tab), ("math/bits.deBruijn64tab", Rows.laid_math_bits_deBruijn64tab)]

theorem door_met (os : Os) (args : Array Value) : laidMetH Tryd.prog laidL ((World.doorLaid Tryd.prog 400 os).forCall (fun _ _ => 0) ⟨#[], args, []⟩).memory :=
  laidMetH_of_parts3 (fuel := 8) (laidMet_of_run' 8 (by kernel_rfl) (by kernel_rfl)) (by kernel_rfl) (by kernel_rfl)

theorem gTab : Tryd.prog.globalNamed "math/bits.deBruijn64tab" = some 2 := by kernel_rfl
theorem tTab : (Tryd.prog.globals[2]?).map (·.type) = some 63 := by kernel_rfl
theorem tabs_of {W : World} (h : laidMetH Tryd.prog laidL W) : Tabs W := by
  rw [MakeChecks.laidMetH_plain _ _ _ (by kernel_rfl)] at h
  obtain ⟨ps, ⟨g0, t0, cs0, f0, p0, q0, hg0, ht0, hv0, hd0, ⟨g1, t1, cs1, f1, p1, q1, hg1, ht1, hv1, hd1, _, _⟩, _⟩, _, _⟩ := h
  obtain rfl := Option.some.inj (gTab.symm.trans hg1)
  obtain rfl := Option.some.inj (tTab.symm.trans ht1)
  have e : (Rows.laid_math_bits_deBruijn64tab : DataW Unit) = Lib.tabData .u8 db64 := rfl
  rw [e] at hd1
  have hcs := Lib.cells_of_tab Tryd.underlying63 Tryd.underlying5 (by kernel_rfl) (by kernel_rfl) hd1
  have hT : Lib.TabIs Tryd.prog W "math/bits.deBruijn64tab" .u8 db64 := by
    unfold Lib.TabIs
    rw [hv1, ← hcs]
  intro i hi
  exact hT.cell gTab i (by simpa [db64] using hi)

theorem nat32 {z : Int} (h : (Lit.int .u32 z).wf = true) : ∃ u : Nat, z = (u : Int) ∧ u < 4294967296 := by
  have hb := bounds_u32 h
  exact ⟨z.toNat, by omega, by omega⟩
theorem nat64 {z : Int} (h : (Lit.int .u64 z).wf = true) : ∃ u : Nat, z = (u : Int) ∧ u < 18446744073709551616 := by
  have hb := bounds_u64 h
  exact ⟨z.toNat, by omega, by omega⟩
theorem byte_of {z : Int} (h : (Lit.int .u8 z).wf = true) : ∃ b : UInt8, z = (b.toNat : Int) := by
  have hb := bounds_u8 h
  exact ⟨UInt8.ofNat z.toNat, by simp; omega⟩
theorem bytes_list : ∀ {cs : List Value}, (∀ i, i < cs.length → ∃ z : Int, cs[i]? = some (.int .u8 z) ∧ (Lit.int .u8 z).wf = true) → ∃ l : List UInt8, l.length = cs.length ∧ cs = cells8 l
  | [], _ => ⟨[], rfl, rfl⟩
  | c :: cs, h => by
    obtain ⟨z, hz, hw⟩ := h 0 (by simp)
    obtain ⟨b, rfl⟩ := byte_of hw
    obtain ⟨l, hl, he⟩ := bytes_list (cs := cs) fun i hi => h (i + 1) (by simpa using hi)
    refine ⟨b :: l, by simp [hl], ?_⟩
    simp at hz
    rw [hz, he]
    simp [cells8]

section
variable {H : Type} {enc : TypeId × Value → H} {w : World} {base : Nat} {held : Bool}
set_option maxRecDepth 100000 in
/-- a block, read -/
theorem block_of {b0 : Nat} {v : Value} {d : DataW H} {p : List MemPlace} (hv : Value.okWide Tryd.prog w .any b0 45 v) (h : DataW.Trod enc Tryd.prog w base (fun _ => true) held 45 v d p) :
    ∃ l : List UInt8, l.length = 256 ∧ v = .agg (cells8 l).toArray := by
  have s256 : Tryd.prog.cellsOf 45 = 256 := by kernel_rfl
  have s1 : Tryd.prog.cellsOf 5 = 1 := by kernel_rfl
  obtain ⟨cs, rfl⟩ : ∃ cs, v = .agg cs := by
    simp only [Value.okWide, Tryd.underlying45] at hv
    obtain ⟨cs, h1, _⟩ := hv
    exact ⟨cs, h1⟩
  obtain ⟨fuel, hf⟩ := h
  have hf : DataW.trod enc Tryd.prog w base (fun _ => true) held fuel 45 cs.toList = some (d, p) := by simpa [Value.cells] using hf
  obtain ⟨xs, m, _, _, hl, hxl, hi⟩ := DataW.trod_array Tryd.underlying45 hf
  rw [s256] at hl
  obtain ⟨l, hll, he⟩ := bytes_list (cs := cs.toList) fun i hlt => by
    have hi' := hi i (by omega)
    rw [s1, Nat.mul_one, List.drop_eq_getElem_cons hlt] at hi'
    simp only [List.take_succ_cons, List.take_zero] at hi'
    obtain ⟨y, hy⟩ : ∃ y, xs[i]? = some y := ⟨xs[i]'(by omega), List.getElem?_eq_getElem _⟩
    obtain ⟨z, hz, _, hw⟩ := DataW.trod_int Tryd.underlying5 (hi'.trans hy)
    have hz := (List.cons.inj hz).1
    exact ⟨z, by rw [List.getElem?_eq_getElem hlt, hz], hw⟩
  refine ⟨l, by omega, ?_⟩
  rw [← he]
end
end Go.Proofs.YtmfcbndgambfmaaDoor
end

section
/- A superblock that came in as an argument. -/
set_option linter.unusedVariables false
namespace Go.Proofs.YtmfcbndgambfmaaDoor
open Go.RowKit Go.ChangeShapes Go.WideShapes Go.Deep Go.WideMaps Go.WideElems

theorem super_fields : ∃ f0 f1 f2 f3 f4 f5 f6 f7 f8 : Field, Tryd.prog.underlying 36 = some (.struct #[f0, f1, f2, f3, f4, f5, f6, f7, f8]) ∧ (f0.type = 22 ∧ f0.offset = 0) ∧ (f1.type = 3 ∧ f1.offset = 1) ∧ (f2.type = 3 ∧ f2.offset = 2) ∧ (f3.type = 34 ∧ f3.offset = 3) ∧ (f4.type = 33 ∧ f4.offset = 9) ∧ (f5.type = 33 ∧ f5.offset = 10) ∧ (f6.type = 33 ∧ f6.offset = 11) ∧ (f7.type = 3 ∧ f7.offset = 12) ∧ (f8.type = 24 ∧ f8.offset = 13) :=
  ⟨_, _, _, _, _, _, _, _, _, Tryd.underlying36, ⟨rfl, rfl⟩, ⟨rfl, rfl⟩, ⟨rfl, rfl⟩, ⟨rfl, rfl⟩, ⟨rfl, rfl⟩, ⟨rfl, rfl⟩, ⟨rfl, rfl⟩, ⟨rfl, rfl⟩, ⟨rfl, rfl⟩⟩
theorem state_fields : ∃ f0 f1 f2 f3 f4 f5 : Field, Tryd.prog.underlying 24 = some (.struct #[f0, f1, f2, f3, f4, f5]) ∧ (f0.type = 22 ∧ f0.offset = 0) ∧ (f1.type = 22 ∧ f1.offset = 1) ∧ (f2.type = 22 ∧ f2.offset = 2) ∧ (f3.type = 22 ∧ f3.offset = 3) ∧ (f4.type = 22 ∧ f4.offset = 4) ∧ (f5.type = 4 ∧ f5.offset = 5) :=
  ⟨_, _, _, _, _, _, Tryd.underlying24, ⟨rfl, rfl⟩, ⟨rfl, rfl⟩, ⟨rfl, rfl⟩, ⟨rfl, rfl⟩, ⟨rfl, rfl⟩, ⟨rfl, rfl⟩⟩
section
variable {H : Type} {enc : TypeId × Value → H} {w : World} {base : Nat} {held : Bool}
theorem one_u32 {n : Nat} {a : Value} {x : DataW H × List MemPlace} (h : DataW.trod enc Tryd.prog w base (fun _ => true) held n 33 [a] = some x) : ∃ u : Nat, a = .int .u32 (u : Int) ∧ u < 4294967296 := by
  obtain ⟨z, c, _, hw⟩ := DataW.trod_int Tryd.underlying33 h
  injection c with c _
  obtain ⟨u, rfl, hu⟩ := nat32 hw
  exact ⟨u, c, hu⟩
theorem one_u64 {n : Nat} {a : Value} {x : DataW H × List MemPlace} (h : DataW.trod enc Tryd.prog w base (fun _ => true) held n 22 [a] = some x) : ∃ u : Nat, a = .int .u64 (u : Int) ∧ u < 18446744073709551616 := by
  obtain ⟨z, c, _, hw⟩ := DataW.trod_int Tryd.underlying22 h
  injection c with c _
  obtain ⟨u, rfl, hu⟩ := nat64 hw
  exact ⟨u, c, hu⟩
theorem one_int {n : Nat} {a : Value} {x : DataW H × List MemPlace} (h : DataW.trod enc Tryd.prog w base (fun _ => true) held n 3 [a] = some x) : ∃ z : Int, a = .int .i64 z := by
  obtain ⟨z, c, _, hw⟩ := DataW.trod_int Tryd.underlying3 h
  injection c with c _
  exact ⟨z, c⟩
theorem one_bool {n : Nat} {a : Value} {x : DataW H × List MemPlace} (h : DataW.trod enc Tryd.prog w base (fun _ => true) held n 4 [a] = some x) : ∃ b : Bool, a = .bool b := by
  obtain ⟨b, c, _⟩ := DataW.trod_bool Tryd.underlying4 h
  injection c with c _
  exact ⟨b, c⟩
theorem some_of {α : Type} {xs : List α} {o : Option α} {n i : Nat} (hl : xs.length = n) (h : o = xs[i]?) (hi : i < n) : ∃ y, o = some y := ⟨xs[i]'(by omega), by rw [h]; exact List.getElem?_eq_getElem _⟩
set_option maxRecDepth 100000 in
theorem six_u32 {n : Nat} {a0 a1 a2 a3 a4 a5 : Value} {x : DataW H × List MemPlace} (h : DataW.trod enc Tryd.prog w base (fun _ => true) held n 34 [a0, a1, a2, a3, a4, a5] = some x) :
    ∃ u0 u1 u2 u3 u4 u5 : Nat, (a0 = .int .u32 (u0 : Int) ∧ a1 = .int .u32 (u1 : Int) ∧ a2 = .int .u32 (u2 : Int) ∧ a3 = .int .u32 (u3 : Int) ∧ a4 = .int .u32 (u4 : Int) ∧ a5 = .int .u32 (u5 : Int)) ∧ u0 < 4294967296 ∧ u1 < 4294967296 ∧ u2 < 4294967296 ∧ u3 < 4294967296 ∧ u4 < 4294967296 ∧ u5 < 4294967296 := by
  have s1 : Tryd.prog.cellsOf 33 = 1 := by kernel_rfl
  obtain ⟨xs, m, _, _, _, hxl, hi⟩ := DataW.trod_array Tryd.underlying34 h
  obtain ⟨y0, g0⟩ := some_of hxl (hi 0 (by omega)) (by omega)
  rw [s1] at g0
  obtain ⟨u0, e0, b0⟩ := one_u32 (a := a0) g0
  obtain ⟨y1, g1⟩ := some_of hxl (hi 1 (by omega)) (by omega)
  rw [s1] at g1
  obtain ⟨u1, e1, b1⟩ := one_u32 (a := a1) g1
  obtain ⟨y2, g2⟩ := some_of hxl (hi 2 (by omega)) (by omega)
  rw [s1] at g2
  obtain ⟨u2, e2, b2⟩ := one_u32 (a := a2) g2
  obtain ⟨y3, g3⟩ := some_of hxl (hi 3 (by omega)) (by omega)
  rw [s1] at g3
  obtain ⟨u3, e3, b3⟩ := one_u32 (a := a3) g3
  obtain ⟨y4, g4⟩ := some_of hxl (hi 4 (by omega)) (by omega)
  rw [s1] at g4
  obtain ⟨u4, e4, b4⟩ := one_u32 (a := a4) g4
  obtain ⟨y5, g5⟩ := some_of hxl (hi 5 (by omega)) (by omega)
  rw [s1] at g5
  obtain ⟨u5, e5, b5⟩ := one_u32 (a := a5) g5
  exact ⟨u0, u1, u2, u3, u4, u5, ⟨e0, e1, e2, e3, e4, e5⟩, b0, b1, b2, b3, b4, b5⟩
set_option maxRecDepth 100000 in
theorem state_of {n : Nat} {a0 a1 a2 a3 a4 a5 : Value} {x : DataW H × List MemPlace} (h : DataW.trod enc Tryd.prog w base (fun _ => true) held n 24 [a0, a1, a2, a3, a4, a5] = some x) :
    ∃ (u0 u1 u2 u3 u4 : Nat) (b : Bool), (a0 = .int .u64 (u0 : Int) ∧ a1 = .int .u64 (u1 : Int) ∧ a2 = .int .u64 (u2 : Int) ∧ a3 = .int .u64 (u3 : Int) ∧ a4 = .int .u64 (u4 : Int) ∧ a5 = .bool b) ∧ u0 < 18446744073709551616 ∧ u1 < 18446744073709551616 ∧ u2 < 18446744073709551616 ∧ u3 < 18446744073709551616 ∧ u4 < 18446744073709551616 := by
  have s1 : Tryd.prog.cellsOf 22 = 1 := by kernel_rfl
  have s2 : Tryd.prog.cellsOf 4 = 1 := by kernel_rfl
  obtain ⟨f0, f1, f2, f3, f4, f5, hu, ⟨t0, o0⟩, ⟨t1, o1⟩, ⟨t2, o2⟩, ⟨t3, o3⟩, ⟨t4, o4⟩, ⟨t5, o5⟩⟩ := state_fields
  obtain ⟨xs, m, _, _, _, hxl, hf⟩ := DataW.trod_struct hu h
  obtain ⟨y0, g0⟩ := some_of hxl (hf 0 f0 rfl) (by show 0 < 6; omega)
  rw [t0, o0, s1] at g0
  obtain ⟨u0, e0, b0⟩ := one_u64 (a := a0) g0
  obtain ⟨y1, g1⟩ := some_of hxl (hf 1 f1 rfl) (by show 1 < 6; omega)
  rw [t1, o1, s1] at g1
  obtain ⟨u1, e1, b1⟩ := one_u64 (a := a1) g1
  obtain ⟨y2, g2⟩ := some_of hxl (hf 2 f2 rfl) (by show 2 < 6; omega)
  rw [t2, o2, s1] at g2
  obtain ⟨u2, e2, b2⟩ := one_u64 (a := a2) g2
  obtain ⟨y3, g3⟩ := some_of hxl (hf 3 f3 rfl) (by show 3 < 6; omega)
  rw [t3, o3, s1] at g3
  obtain ⟨u3, e3, b3⟩ := one_u64 (a := a3) g3
  obtain ⟨y4, g4⟩ := some_of hxl (hf 4 f4 rfl) (by show 4 < 6; omega)
  rw [t4, o4, s1] at g4
  obtain ⟨u4, e4, b4⟩ := one_u64 (a := a4) g4
  obtain ⟨y5, g5⟩ := some_of hxl (hf 5 f5 rfl) (by show 5 < 6; omega)
  rw [t5, o5, s2] at g5
  obtain ⟨u5, e5⟩ := one_bool (a := a5) g5
  exact ⟨u0, u1, u2, u3, u4, u5, ⟨e0, e1, e2, e3, e4, e5⟩, b0, b1, b2, b3, b4⟩
theorem list19 {α : Type} {l : List α} (h : l.length = 19) : ∃ a0 a1 a2 a3 a4 a5 a6 a7 a8 a9 a10 a11 a12 a13 a14 a15 a16 a17 a18, l = [a0, a1, a2, a3, a4, a5, a6, a7, a8, a9, a10, a11, a12, a13, a14, a15, a16, a17, a18] := by
  match l, h with
  | [a0, a1, a2, a3, a4, a5, a6, a7, a8, a9, a10, a11, a12, a13, a14, a15, a16, a17, a18], _ => exact ⟨a0, a1, a2, a3, a4, a5, a6, a7, a8, a9, a10, a11, a12, a13, a14, a15, a16, a17, a18, rfl⟩
set_option maxRecDepth 100000 in
/-- a superblock, read -/
theorem super_of {b0 : Nat} {v : Value} {d : DataW H} {p : List MemPlace} (hv : Value.okWide Tryd.prog w .any b0 36 v) (h : DataW.Trod enc Tryd.prog w base (fun _ => true) held 36 v d p) : ∃ s : SU, v = .agg s.cells ∧ s.fits := by
  have c19 : Tryd.prog.cellsOf 36 = 19 := by kernel_rfl
  have s0 : Tryd.prog.cellsOf 22 = 1 := by kernel_rfl
  have s1 : Tryd.prog.cellsOf 3 = 1 := by kernel_rfl
  have s2 : Tryd.prog.cellsOf 3 = 1 := by kernel_rfl
  have s3 : Tryd.prog.cellsOf 34 = 6 := by kernel_rfl
  have s4 : Tryd.prog.cellsOf 33 = 1 := by kernel_rfl
  have s5 : Tryd.prog.cellsOf 33 = 1 := by kernel_rfl
  have s6 : Tryd.prog.cellsOf 33 = 1 := by kernel_rfl
  have s7 : Tryd.prog.cellsOf 3 = 1 := by kernel_rfl
  have s8 : Tryd.prog.cellsOf 24 = 6 := by kernel_rfl
  obtain ⟨f0, f1, f2, f3, f4, f5, f6, f7, f8, hu, ⟨t0, o0⟩, ⟨t1, o1⟩, ⟨t2, o2⟩, ⟨t3, o3⟩, ⟨t4, o4⟩, ⟨t5, o5⟩, ⟨t6, o6⟩, ⟨t7, o7⟩, ⟨t8, o8⟩⟩ := super_fields
  have hv2 := okWide_struct hu hv
  obtain ⟨cs, hv3, hsz⟩ := hv2
  subst hv3
  obtain ⟨fuel, hf0⟩ := h
  have hf0 : DataW.trod enc Tryd.prog w base (fun _ => true) held fuel 36 cs.toList = some (d, p) := by simpa [Value.cells] using hf0
  obtain ⟨xs, n, _, _, _, hxl, hf⟩ := DataW.trod_struct hu hf0
  rw [c19] at hsz
  obtain ⟨a0, a1, a2, a3, a4, a5, a6, a7, a8, a9, a10, a11, a12, a13, a14, a15, a16, a17, a18, hL⟩ := list19 (l := cs.toList) (by simpa using hsz)
  rw [hL] at hf
  obtain rfl : cs = #[a0, a1, a2, a3, a4, a5, a6, a7, a8, a9, a10, a11, a12, a13, a14, a15, a16, a17, a18] := by rw [← Array.toArray_toList (xs := cs), hL]
  obtain ⟨y0, g0⟩ := some_of hxl (hf 0 f0 rfl) (by show 0 < 9; omega)
  rw [t0, o0, s0] at g0
  obtain ⟨u0, e0, b0⟩ := one_u64 (a := a0) g0
  obtain ⟨y1, g1⟩ := some_of hxl (hf 1 f1 rfl) (by show 1 < 9; omega)
  rw [t1, o1, s1] at g1
  obtain ⟨u1, e1⟩ := one_int (a := a1) g1
  obtain ⟨y2, g2⟩ := some_of hxl (hf 2 f2 rfl) (by show 2 < 9; omega)
  rw [t2, o2, s2] at g2
  obtain ⟨u2, e2⟩ := one_int (a := a2) g2
  obtain ⟨y3, g3⟩ := some_of hxl (hf 3 f3 rfl) (by show 3 < 9; omega)
  rw [t3, o3, s3] at g3
  obtain ⟨u3, u4, u5, u6, u7, u8, ⟨e3, e4, e5, e6, e7, e8⟩, b3, b4, b5, b6, b7, b8⟩ := six_u32 (a0 := a3) (a1 := a4) (a2 := a5) (a3 := a6) (a4 := a7) (a5 := a8) g3
  obtain ⟨y4, g4⟩ := some_of hxl (hf 4 f4 rfl) (by show 4 < 9; omega)
  rw [t4, o4, s4] at g4
  obtain ⟨u9, e9, b9⟩ := one_u32 (a := a9) g4
  obtain ⟨y5, g5⟩ := some_of hxl (hf 5 f5 rfl) (by show 5 < 9; omega)
  rw [t5, o5, s5] at g5
  obtain ⟨u10, e10, b10⟩ := one_u32 (a := a10) g5
  obtain ⟨y6, g6⟩ := some_of hxl (hf 6 f6 rfl) (by show 6 < 9; omega)
  rw [t6, o6, s6] at g6
  obtain ⟨u11, e11, b11⟩ := one_u32 (a := a11) g6
  obtain ⟨y7, g7⟩ := some_of hxl (hf 7 f7 rfl) (by show 7 < 9; omega)
  rw [t7, o7, s7] at g7
  obtain ⟨u12, e12⟩ := one_int (a := a12) g7
  obtain ⟨y8, g8⟩ := some_of hxl (hf 8 f8 rfl) (by show 8 < 9; omega)
  rw [t8, o8, s8] at g8
  obtain ⟨u13, u14, u15, u16, u17, u18, ⟨e13, e14, e15, e16, e17, e18⟩, b13, b14, b15, b16, b17⟩ := state_of (a0 := a13) (a1 := a14) (a2 := a15) (a3 := a16) (a4 := a17) (a5 := a18) g8
  subst e0 e1 e2 e3 e4 e5 e6 e7 e8 e9 e10 e11 e12 e13 e14 e15 e16 e17 e18
  exact ⟨⟨u0, u1, u2, u3, u4, u5, u6, u7, u8, u9, u10, u11, u12, u13, u14, u15, u16, u17, u18⟩, rfl, ⟨b0, ⟨b3, b4, b5, b6, b7, b8, b9, b10, b11⟩, ⟨b13, b14, b15, b16, b17⟩⟩⟩
end
end Go.Proofs.YtmfcbndgambfmaaDoor
end

section
/- Super without a disk, or with a short one. -/
set_option linter.unusedVariables false
namespace Go.Proofs.YtmfcbndgambfmaaDoor.Q
open Go.RowKit

theorem sectors_nil (w : World) : Calls Tryd.prog 14 #[.pointer none] w fun e w' => e = .returned (.int .i64 0) ∧ w' = w := by
  go_enter Tryd.func14, Tryd.ntmps14
  go_wp2_with (go_at_call 19; refine (none_nil _).mono ?_; rintro e w' ⟨rfl, rfl⟩)
  go_ret
  exact ⟨rfl, rfl⟩
set_option maxRecDepth 100000 in
set_option maxHeartbeats 4000000 in
theorem read_nil (w : World) (k : Int) : Calls Tryd.prog 11 #[.pointer none, .int .i64 k] w fun e w' => e = .returned (.tuple #[.agg (cells8 noughts).toArray, .int .i64 1]) ∧ Below w.heap.size w w' := by
  have hz := blk_zero
  have hcs := cells8_size noughts
  have HP := Lib.hid (fun (W : World) => place_nil W k (sectors_nil W))
  have HB := Lib.hid ((Below.refl _ w).alloc (Nat.le_refl _) (.cells (cells8 noughts).toArray 45))
  have HNEW := Lib.hid (heap_alloc_new w (.cells (cells8 noughts).toArray 45))
  go_enter Tryd.func11, Tryd.ntmps11
  go_wp2_with (first
    | (go_at_call 23; (with_reducible refine (HP.out _).mono ?_); rintro e w1 ⟨rfl, rfl⟩)
    | refine wpList_store_row rfl 45 (.tmp 4) (.tmp 16) rfl w.heap.size (cells8 noughts).toArray rfl rfl 45 (cells8 noughts).toArray HNEW.out (by rw [blk_sz _ noughts_len]; simp) rfl (all_oneCell_toArray (cells8_one _)) ?_
    | fail)
  exact bodyPost_ret (results_cell_tmp rfl _ _ w.heap.size 45 (cells8 noughts).toArray (0, 0) _ (.int .i64 1) rfl rfl (setRow_heap _ _ _ _ _ _ HNEW.out) blk_u rfl (by rw [blk_sz _ noughts_len]; simp)) rfl ⟨rfl, below_setRow HB.out (Nat.le_refl _) _⟩
set_option maxRecDepth 100000 in
set_option maxHeartbeats 4000000 in
theorem write_nil (w : World) (k : Int) (l : List UInt8) (hl : l.length = 256) : Calls Tryd.prog 17 #[.pointer none, .int .i64 k, .agg (cells8 l).toArray] w fun e w' => e = .returned (.int .i64 1) ∧ Below w.heap.size w w' := by
  have hcs := cells8_size l
  have HP := Lib.hid (fun (W : World) => place_nil W k (sectors_nil W))
  have HB := Lib.hid ((Below.refl _ w).alloc (Nat.le_refl _) (.cells (cells8 l).toArray 45))
  go_enter Tryd.func17, Tryd.ntmps17
  go_wp2_with (first
    | (go_at_call 23; (with_reducible refine (HP.out _).mono ?_); rintro e w1 ⟨rfl, rfl⟩)
    | fail)
  go_ret
  exact ⟨rfl, HB.out⟩
set_option maxRecDepth 100000 in
set_option maxHeartbeats 4000000 in
theorem save_nil (w : World) (s : SU) : Calls Tryd.prog 7 #[.pointer none, .agg s.cells] w fun e w' => e = .returned (.int .i64 1) ∧ Below w.heap.size w w' := by
  have HB := Lib.hid ((Below.refl _ w).alloc (Nat.le_refl _) (.cells s.cells 36))
  have hs : s.cells.size = 19 := rfl
  obtain ⟨cs, hcs⟩ : ∃ cs, s.cells = cs := ⟨_, rfl⟩
  rw [hcs] at HB hs ⊢
  clear hcs
  go_enter Tryd.func7, Tryd.ntmps7
  go_wp2_with (first
    | (go_at_call 14; (with_reducible refine (sectors_nil _).mono ?_); rintro e w1 ⟨rfl, rfl⟩)
    | fail)
  go_ret
  exact ⟨rfl, HB.out⟩
set_option maxRecDepth 100000 in
set_option maxHeartbeats 4000000 in
theorem save_bad {w : World} {F : Nat → Prop} {b : Nat} {d : RD} (hT : Tabs w) (hW : Wids w) (h : PD w F b d) (s : SU) (hf : s.fits) (hm : s.may = false) :
    Calls Tryd.prog 7 #[.pointer (some ⟨b, 0, none⟩), .agg s.cells] w (PDone w F b 2 d) := by
  have HTW : Hid (∀ W, Below w.heap.size w W → Tabs W ∧ Wids W) := Lib.hid (fun W hb => ⟨hT.below hb hT.size, hW.below hb hW.size⟩)
  have HH := Lib.hid h
  have n0 : ((d.s.length : Int) == 0) = false := by have := h.n0; rw [beq_eq_false_iff_ne]; omega
  have HSEC := Lib.hid (fun (W : World) (hb : Below w.heap.size w W) => pd_sectors (h.below hb))
  have HBL := Lib.hid (fun (W : World) (hb : Below w.heap.size w W) => SU.block W (HTW.out W hb).1 (HTW.out W hb).2 s hf)
  have HSL := Lib.hid (fun (W : World) => slotOf_any W s hf)
  have hz2 := blk_zero
  have hsc : s.cells.size = 19 := rfl
  have hbl : s.blk.length = 256 := blkB_len _ _ s.img_len
  have hst := fun w => store_blk w noughts s.blk noughts_len hbl
  have hbc : (cells8 s.blk).length = 256 := by rw [cells8_length, hbl]
  have HIM := Lib.hid s.img_len
  have e1 : s.err = 2 := by rw [SU.err, hm]; rfl
  rw [e1] at HBL
  have HBA := Lib.hid ((Below.refl _ w).alloc (Nat.le_refl _) (.cells s.cells 36))
  have HRG : Hid (∀ W, Below (w.alloc (.cells s.cells 36)).heap.size (w.alloc (.cells s.cells 36)) W → W.rangeAt w.heap.size 0 s.cells.toList) := Lib.hid (fun W hb j u hu => by
    rw [Joins.cell_of_block ((hb.block _ (by simp)).trans (heap_alloc_new w _)), Nat.zero_add, ← Array.getElem?_toList]; exact hu)
  obtain ⟨cl, hcl⟩ : ∃ cl : List Value, s.cells = cl.toArray := ⟨s.cells.toList, by simp⟩
  rw [hcl] at HBL HSL HBA hsc HRG ⊢
  rw [List.toList_toArray] at HRG
  have hsc' : cl.length = 19 := by simpa using hsc
  have hinf : (Tryd.prog.info? 36).map (·.size) = some cl.length := by rw [hsc']; kernel_rfl
  clear hT hW h hf hm e1 hcl HSL
  generalize s.blk = l at *
  go_enter Tryd.func7, Tryd.ntmps7
  go_wp2_with (first
    | (go_at_call 14; (with_reducible refine (HSEC.out _ HBA.out).mono ?_); rintro e w1 ⟨rfl, rfl⟩)
    | refine wpList_load_mid rfl 36 (.tmp 3) rfl w.heap.size 0 rfl cl _ (HRG.out _ (by with_reducible first | exact Below.refl _ _ | exact HB2.out)) Tryd.underlying36 rfl hinf ?_
    | (go_at_call 12; (with_reducible refine (HBL.out _ HBA.out).mono ?_); rintro e w2 ⟨rfl, hb2⟩; have HB2 := Lib.hid (hb2.alloc hb2.size (.cells (cells8 l).toArray 45)); clear hb2)
    | fail)
  go_ret
  exact PDone.same HH.out (HBA.out.trans (HB2.out.mono (by simp)))
set_option maxRecDepth 100000 in
set_option maxHeartbeats 4000000 in
theorem load_nil (w : World) : Calls Tryd.prog 10 #[.pointer none] w fun e w' => e = .returned (.tuple #[.agg zeroSC, .int .i64 1]) ∧ Below w.heap.size w w' := by
  have hzs := sup_zero
  have hz2 := blk_zero
  have hnc : (cells8 noughts).length = 256 := by rw [cells8_length, noughts_len]
  have hst := fun w => store_blk w noughts noughts noughts_len noughts_len
  have HL0 : Hid (LL w ((w.alloc (.cells zeroSC 36)).alloc (.cells zeroSC 36)) zeroSU) := by
    have hn := heap_alloc_new (w.alloc (.cells zeroSC 36)) (.cells zeroSC 36)
    rw [World.size_alloc] at hn
    exact Lib.hid ⟨(Below.heap_alloc _ _ _ (by simp)).trans (heap_alloc_new w _), hn, (((Below.refl _ w).alloc (Nat.le_refl _) _).alloc (by simp) _)⟩
  go_enter Tryd.func10, Tryd.ntmps10
  go_wp2_with fail
  go_loopw [9] (fun j wr => j = .int .i64 0 ∧ Hid (LL w wr zeroSU)) (fun j _ => 0)
  case atStart => exact ⟨rfl, HL0.out⟩
  case round =>
    obtain ⟨rfl, HLL⟩ := hrel
    go_wp2_with (first
      | (go_at_call 11; (with_reducible refine (read_nil _ _).mono ?_); rintro e w1 ⟨rfl, hb1⟩; have HL1 := Lib.hid ((HLL.out.below hb1).below ((Below.refl _ w1).alloc (Nat.le_refl _) (.cells (cells8 noughts).toArray 45))); clear hb1)
      | refine wpList_store_row rfl 36 (.tmp 2) (.tmp 20) rfl w.heap.size zeroSC rfl rfl 36 zeroSC HL1.out.n (sup_info zeroSU) rfl (by simp [zeroSC, Value.oneCell']) ?_
      | fail)
    exact bodyPost_ret (results_cell_tmp rfl _ _ w.heap.size 36 zeroSC (0, 0) _ (.int .i64 1) rfl rfl (setRow_heap _ _ _ _ _ _ HL1.out.n) Tryd.underlying36 rfl (sup_info zeroSU)) rfl ⟨rfl, below_setRow HL1.out.bel (Nat.le_refl _) _⟩
theorem short_blk : blkAt (newD 7) 0 = noughts := by
  have h : ∀ i, i < 7 → (lastD (newD 7) i).1 = List.replicate 64 0 := fun i hi => by
    have e : lastD (newD 7) i = 0 := by
      show ((List.replicate 7 [(0 : SB)]).getD i []).getLastD 0 = 0
      rw [List.getD_eq_getElem?_getD, List.getElem?_replicate, if_pos hi]
      rfl
    rw [e]
    rfl
  rw [blkAt_last _ _ (by simp [newD]), h _ (by omega), h _ (by omega), h _ (by omega), h _ (by omega), List.replicate_append_replicate, List.replicate_append_replicate, List.replicate_append_replicate]
  rfl
set_option maxRecDepth 100000 in
set_option maxHeartbeats 4000000 in
theorem load_7 {w : World} {F : Nat → Prop} {b : Nat} (hT : Tabs w) (hW : Wids w) (h : PD w F b (newD 7)) :
    Calls Tryd.prog 10 #[.pointer (some ⟨b, 0, none⟩)] w fun e w' => e = .returned (.tuple #[.agg zeroSC, .int .i64 2]) ∧ Below w.heap.size w w' := by
  have HTW : Hid (∀ W, Below w.heap.size w W → Tabs W ∧ Wids W) := Lib.hid (fun W hb => ⟨hT.below hb hT.size, hW.below hb hW.size⟩)
  have hl7 : (newD 7).s.length = 7 := by simp [newD]
  have HR0 : Hid (∀ W, Below w.heap.size w W → Calls Tryd.prog 11 #[.pointer (some ⟨b, 0, none⟩), .int .i64 0] W fun e w' => e = .returned (.tuple #[.agg (cells8 noughts).toArray, .int .i64 0]) ∧ Below W.heap.size W w') := Lib.hid (fun W hb => by
    have := read_any' (h.below hb) 0 ⟨by omega, by rw [hl7]; decide⟩
    rw [short_blk] at this
    exact this)
  have HR1 : Hid (∀ W, Below w.heap.size w W → Calls Tryd.prog 11 #[.pointer (some ⟨b, 0, none⟩), .int .i64 1] W fun e w' => e = .returned (.tuple #[.agg (cells8 noughts).toArray, .int .i64 2]) ∧ Below W.heap.size W w') := Lib.hid (fun W hb => read_out (h.below hb) 1 (fun hk => by have := hk.2; rw [hl7] at this; omega))
  have HOF : Hid (∀ W, Below w.heap.size w W → Calls Tryd.prog 22 #[.agg (cells8 noughts).toArray] W fun e w' => e = .returned (.tuple #[.agg zeroSC, .int .i64 4]) ∧ Below W.heap.size W w') := Lib.hid (fun W hb => by
    have := sof_any W (HTW.out W hb).1 (HTW.out W hb).2 noughts noughts_len
    rw [ofB_noughts] at this
    exact this)
  have hzs := sup_zero
  have hz2 := blk_zero
  have hnc : (cells8 noughts).length = 256 := by rw [cells8_length, noughts_len]
  have hst := fun w => store_blk w noughts noughts noughts_len noughts_len
  have hVst := fun w => store_sup w zeroSC rfl (by simp [zeroSC, Value.oneCell'])
  have hVs : zeroSC.size = 19 := rfl
  have HG : Hid (∀ (w1 W : World), Below (w1.alloc (.cells (cells8 noughts).toArray 45)).heap.size (w1.alloc (.cells (cells8 noughts).toArray 45)) W → W.rangeAt w1.heap.size 0 (cells8 noughts)) := Lib.hid (fun w1 W hb j u hu => by
    rw [Joins.cell_of_block ((hb.block _ (by simp)).trans (heap_alloc_new w1 _)), List.getElem?_toArray, Nat.zero_add]; exact hu)
  have HL0 : Hid (LL w ((w.alloc (.cells zeroSC 36)).alloc (.cells zeroSC 36)) zeroSU) := by
    have hn := heap_alloc_new (w.alloc (.cells zeroSC 36)) (.cells zeroSC 36)
    rw [World.size_alloc] at hn
    exact Lib.hid ⟨(Below.heap_alloc _ _ _ (by simp)).trans (heap_alloc_new w _), hn, (((Below.refl _ w).alloc (Nat.le_refl _) _).alloc (by simp) _)⟩
  clear hT hW h hl7
  go_enter Tryd.func10, Tryd.ntmps10
  go_wp2_with fail
  go_loopw [9] (fun j wr => ∃ i : Nat, i ≤ 1 ∧ j = .int .i64 (i : Int) ∧ Hid (LL w wr zeroSU)) (fun j _ => 2 - (intOf j).toNat)
  case atStart => exact ⟨0, by omega, rfl, HL0.out⟩
  case round =>
    obtain ⟨i, hi, rfl, HLL⟩ := hrel
    by_cases h0 : i = 0
    · subst h0
      go_wp2_with (first
        | (go_at_call 11; (with_reducible refine (HR0.out _ HLL.out.bel).mono ?_); rintro e w1 ⟨rfl, hb1⟩; have HB1 := Lib.hid (hb1.alloc hb1.size (.cells (cells8 noughts).toArray 45)); clear hb1)
        | refine wpList_load_mid rfl 45 (.tmp 6) rfl w1.heap.size 0 rfl (cells8 noughts) _ (HG.out _ _ (Below.refl _ _)) blk_u rfl (blk_sz noughts noughts_len) ?_
        | (go_at_call 22; (with_reducible refine (HOF.out _ (HLL.out.below HB1.out).bel).mono ?_); rintro e w2 ⟨rfl, hb2⟩; have HB2 := Lib.hid hb2; clear hb2)
        | fail)
      exact ⟨⟨1, by omega, rfl, (HLL.out.below HB1.out).below (HB2.out.alloc HB2.out.size _)⟩, by simp [intOf]⟩
    · obtain rfl : i = 1 := by omega
      go_wp2_with (first
        | (go_at_call 11; (with_reducible refine (HR1.out _ HLL.out.bel).mono ?_); rintro e w1 ⟨rfl, hb1⟩; have HL1 := Lib.hid ((HLL.out.below hb1).below ((Below.refl _ w1).alloc (Nat.le_refl _) (.cells (cells8 noughts).toArray 45))); clear hb1)
        | refine wpList_store_row rfl 36 (.tmp 2) (.tmp 20) rfl w.heap.size zeroSC rfl rfl 36 zeroSC HL1.out.n (sup_info zeroSU) rfl (by simp [zeroSC, Value.oneCell']) ?_
        | fail)
      exact bodyPost_ret (results_cell_tmp rfl _ _ w.heap.size 36 zeroSC (0, 0) _ (.int .i64 2) rfl rfl (setRow_heap _ _ _ _ _ _ HL1.out.n) Tryd.underlying36 rfl (sup_info zeroSU)) rfl ⟨rfl, below_setRow HL1.out.bel (Nat.le_refl _) _⟩
end Go.Proofs.YtmfcbndgambfmaaDoor.Q
end

section
/- From what a row of super's lists to what the walks ask. -/
namespace Go.Proofs.YtmfcbndgambfmaaDoor
open Go.RowKit Go.ChangeShapes Go.WideShapes Go.Deep Go.WideMaps Go.WideElems

def laidS : List (String × DataW Unit) := [("math/bits.deBruijn32tab", Rows.laid_math_bits_deBruijn32tab), ("math/bits.deBruijn64tab", Rows.laid_math_bits_deBruijn64tab), ("voile/super.widths", Rows.laid_voile_super_widths)]
theorem door_metS (os : Os) (args : Array Value) : laidMetH Tryd.prog laidS ((World.doorLaid Tryd.prog 400 os).forCall (fun _ _ => 0) ⟨#[], args, []⟩).memory :=
  laidMetH_of_parts3 (fuel := 8) (laidMet_of_run' 8 (by kernel_rfl) (by kernel_rfl)) (by kernel_rfl) (by kernel_rfl)
theorem gTabS : Tryd.prog.globalNamed "math/bits.deBruijn64tab" = some 2 := by kernel_rfl
theorem tTabS : (Tryd.prog.globals[2]?).map (·.type) = some 63 := by kernel_rfl
theorem gWid : Tryd.prog.globalNamed "voile/super.widths" = some 0 := by kernel_rfl
theorem tWid : (Tryd.prog.globals[0]?).map (·.type) = some 75 := by kernel_rfl
def widZ : List Int := [8, 4, 4, 4, 4, 4, 4, 4, 4, 4, 4, 4, 4, 8, 8, 8, 8, 8, 1]
theorem widZ_at : ∀ i, i < 19 → widZ.getD i 0 = ((widL.getD i 0 : Nat) : Int) := by decide
theorem tabs_ofS {W : World} (h : laidMetH Tryd.prog laidS W) : Tabs W ∧ Wids W := by
  rw [MakeChecks.laidMetH_plain _ _ _ (by kernel_rfl)] at h
  obtain ⟨ps, ⟨g0, t0, cs0, f0, p0, q0, hg0, ht0, hv0, hd0, ⟨g1, t1, cs1, f1, p1, q1, hg1, ht1, hv1, hd1, ⟨g2, t2, cs2, f2, p2, q2, hg2, ht2, hv2, hd2, _, _⟩, _⟩, _⟩, _, _⟩ := h
  obtain rfl := Option.some.inj (gTabS.symm.trans hg1)
  obtain rfl := Option.some.inj (tTabS.symm.trans ht1)
  obtain rfl := Option.some.inj (gWid.symm.trans hg2)
  obtain rfl := Option.some.inj (tWid.symm.trans ht2)
  have e : (Rows.laid_math_bits_deBruijn64tab : DataW Unit) = Lib.tabData .u8 db64 := rfl
  rw [e] at hd1
  have hcs := Lib.cells_of_tab Tryd.underlying63 Tryd.underlying5 (by kernel_rfl) (by kernel_rfl) hd1
  have hT : Lib.TabIs Tryd.prog W "math/bits.deBruijn64tab" .u8 db64 := by
    unfold Lib.TabIs
    rw [hv1, ← hcs]
  have e2 : (Rows.laid_voile_super_widths : DataW Unit) = Lib.tabData .i64 widZ := rfl
  rw [e2] at hd2
  have hcs2 := Lib.cells_of_tab Tryd.underlying75 Tryd.underlying3 (by kernel_rfl) (by kernel_rfl) hd2
  have hT2 : Lib.TabIs Tryd.prog W "voile/super.widths" .i64 widZ := by
    unfold Lib.TabIs
    rw [hv2, ← hcs2]
  refine ⟨fun i hi => hT.cell gTabS i (by simpa [db64] using hi), fun i hi => ?_⟩
  rw [hT2.cell gWid i (by simpa [widZ] using hi), widZ_at i hi]
end Go.Proofs.YtmfcbndgambfmaaDoor
end

section
/- Ints that came in as an argument. -/
namespace Go.Proofs.YtmfcbndgambfmaaDoor
open Go.RowKit Go.ChangeShapes Go.WideShapes Go.Deep Go.WideMaps Go.WideElems

def numsI (l : List Int) : List Value := l.map fun n => .int .i64 n
theorem numsI_len (l : List Int) : (numsI l).length = l.length := by simp [numsI]
theorem Shows.numI {w : World} {B : Nat} {A : Option Addr} {l : List Int} (h : Shows w B A l.length (numsI l)) (i : Nat) (hi : i < l.length) : ∃ p : Addr, A = some p ∧ p.block < B ∧ w.cell? (p.add i) = some (.int .i64 (l[i]'hi)) := by
  obtain ⟨p, u, h1, h2, h3, h4⟩ := h.cell hi
  have e : (numsI l)[i]? = some (.int .i64 (l[i]'hi)) := by simp [numsI, hi]
  rw [e] at h3
  exact ⟨p, h1, h2, by rw [h4, ← h3]⟩
section
variable {H : Type} {enc : TypeId × Value → H} {w : World} {base : Nat} {held : Bool}
theorem ints_of {fuel : Nat} {v : Value} {x : DataW H × List MemPlace} (h : DataW.trod enc Tryd.prog w base (fun _ => true) held fuel 27 [v] = some x) :
    ∃ (A : Option Addr) (l : List Int) (cap : Nat), v = .slice A l.length cap ∧ Shows w w.heap.size A l.length (numsI l) ∧ l.length ≤ cap ∧ cap ≤ 9223372036854775807 := by
  rcases open_ints Tryd.underlying27 Tryd.underlying3 (by kernel_rfl) h with ⟨hcs, _⟩ | ⟨a, len, cap, zs, hcs, _, hl, hm, hz, _, hcell, hwz⟩
  · injection hcs with hcs _
    exact ⟨none, [], 0, hcs, Shows.empty _ _ _, Nat.le_refl _, by omega⟩
  · injection hcs with hcs _
    have hz' : zs.length = cap := by simpa using hz
    have hlen : (zs.take len).length = len := by simp; omega
    refine ⟨some a, zs.take len, cap, by rw [hlen]; exact hcs, ?_, by omega, hm⟩
    have hc : ∀ j u, (numsI (zs.take len))[j]? = some u → w.cell? (a.add j) = some u := by
      intro j u hu
      have hj : j < len := by
        rcases Nat.lt_or_ge j len with h1 | h1
        · exact h1
        · rw [List.getElem?_eq_none (by simp [numsI]; omega)] at hu; cases hu
      rw [hcell j (by omega), ← hu]
      simp [numsI, List.getD, hj]
      have : j < zs.length := by omega
      simp [this]
    refine ⟨by simp [numsI], fun hp => ⟨a, rfl, ?_, hc⟩⟩
    rw [hlen] at hp
    have h0 := hcell 0 (by omega)
    have := block_lt_of_cell h0
    rwa [addr_block] at this
/-- bytes, read -/
theorem bytes_of {fuel : Nat} {v : Value} {x : DataW H × List MemPlace} (h : DataW.trod enc Tryd.prog w base (fun _ => true) held fuel 69 [v] = some x) :
    ∃ (A : Option Addr) (l : List UInt8) (cap : Nat), v = .slice A l.length cap ∧ Shows w w.heap.size A l.length (cells8 l) ∧ l.length ≤ cap ∧ cap ≤ 9223372036854775807 := by
  rcases open_ints Tryd.underlying69 Tryd.underlying5 (by kernel_rfl) h with ⟨hcs, _⟩ | ⟨a, len, cap, zs, hcs, _, hl, hm, hz, _, hcell, hwz⟩
  · injection hcs with hcs _
    exact ⟨none, [], 0, hcs, Shows.empty _ _ _, Nat.le_refl _, by omega⟩
  · injection hcs with hcs _
    have hz' : zs.length = cap := by simpa using hz
    have hlen : ((zs.take len).map fun z => UInt8.ofNat z.toNat).length = len := by simp; omega
    refine ⟨some a, (zs.take len).map fun z => UInt8.ofNat z.toNat, cap, by rw [hlen]; exact hcs, ?_, by omega, hm⟩
    have hc : ∀ j u, (cells8 ((zs.take len).map fun z => UInt8.ofNat z.toNat))[j]? = some u → w.cell? (a.add j) = some u := by
      intro j u hu
      have hj : j < len := by
        rcases Nat.lt_or_ge j len with h1 | h1
        · exact h1
        · rw [List.getElem?_eq_none (by rw [cells8_length, hlen]; exact h1)] at hu; cases hu
      have hjz : j < zs.length := by omega
      rw [hcell j (by omega), ← hu, cells8_get _ j (by rw [hlen]; exact hj)]
      have hb := bounds_u8 (hwz _ (List.getElem_mem hjz))
      simp [List.getD, hjz]
      omega
    refine ⟨by rw [cells8_length], fun hp => ⟨a, rfl, ?_, hc⟩⟩
    rw [hlen] at hp
    have h0 := hcell 0 (by omega)
    have := block_lt_of_cell h0
    rwa [addr_block] at this
end
end Go.Proofs.YtmfcbndgambfmaaDoor
end

section
/- Four states, and two ints, that came in as arguments. -/
set_option linter.unusedVariables false
namespace Go.Proofs.YtmfcbndgambfmaaDoor
open Go.RowKit Go.ChangeShapes Go.WideShapes Go.Deep Go.WideMaps Go.WideElems

theorem list24 {α : Type} {l : List α} (h : l.length = 24) : ∃ a0 a1 a2 a3 a4 a5 a6 a7 a8 a9 a10 a11 a12 a13 a14 a15 a16 a17 a18 a19 a20 a21 a22 a23, l = [a0, a1, a2, a3, a4, a5, a6, a7, a8, a9, a10, a11, a12, a13, a14, a15, a16, a17, a18, a19, a20, a21, a22, a23] := by
  match l, h with
  | [a0, a1, a2, a3, a4, a5, a6, a7, a8, a9, a10, a11, a12, a13, a14, a15, a16, a17, a18, a19, a20, a21, a22, a23], _ => exact ⟨a0, a1, a2, a3, a4, a5, a6, a7, a8, a9, a10, a11, a12, a13, a14, a15, a16, a17, a18, a19, a20, a21, a22, a23, rfl⟩
theorem list2 {α : Type} {l : List α} (h : l.length = 2) : ∃ a0 a1, l = [a0, a1] := by
  match l, h with
  | [a0, a1], _ => exact ⟨a0, a1, rfl⟩
section
variable {H : Type} {enc : TypeId × Value → H} {w : World} {base : Nat} {held : Bool}
set_option maxRecDepth 100000 in
theorem four_of {b0 : Nat} {v : Value} {d : DataW H} {p : List MemPlace} (hv : Value.okWide Tryd.prog w .any b0 25 v) (h : DataW.Trod enc Tryd.prog w base (fun _ => true) held 25 v d p) :
    ∃ T : Nat → Q.ST, v = .agg (Q.row6 T).toArray ∧ ∀ i, i < 4 → (T i).fits := by
  have s24 : Tryd.prog.cellsOf 25 = 24 := by kernel_rfl
  have s6 : Tryd.prog.cellsOf 24 = 6 := by kernel_rfl
  obtain ⟨cs, rfl⟩ : ∃ cs, v = .agg cs := by
    simp only [Value.okWide, Tryd.underlying25] at hv
    obtain ⟨cs, h1, _⟩ := hv
    exact ⟨cs, h1⟩
  obtain ⟨fuel, hf⟩ := h
  have hf : DataW.trod enc Tryd.prog w base (fun _ => true) held fuel 25 cs.toList = some (d, p) := by simpa [Value.cells] using hf
  obtain ⟨xs, m, _, _, hl, hxl, hi⟩ := DataW.trod_array Tryd.underlying25 hf
  rw [s24] at hl
  obtain ⟨a0, a1, a2, a3, a4, a5, a6, a7, a8, a9, a10, a11, a12, a13, a14, a15, a16, a17, a18, a19, a20, a21, a22, a23, hL⟩ := list24 hl
  obtain rfl : cs = #[a0, a1, a2, a3, a4, a5, a6, a7, a8, a9, a10, a11, a12, a13, a14, a15, a16, a17, a18, a19, a20, a21, a22, a23] := by rw [← Array.toArray_toList (xs := cs), hL]
  obtain ⟨y0, g0⟩ := some_of hxl (hi 0 (by omega)) (by omega)
  obtain ⟨y1, g1⟩ := some_of hxl (hi 1 (by omega)) (by omega)
  obtain ⟨y2, g2⟩ := some_of hxl (hi 2 (by omega)) (by omega)
  obtain ⟨y3, g3⟩ := some_of hxl (hi 3 (by omega)) (by omega)
  rw [s6] at g0 g1 g2 g3
  obtain ⟨p0, p1, p2, p3, p4, pb, ⟨e0, e1, e2, e3, e4, e5⟩, x0⟩ := state_of (a0 := a0) (a1 := a1) (a2 := a2) (a3 := a3) (a4 := a4) (a5 := a5) g0
  obtain ⟨q0, q1, q2, q3, q4, qb, ⟨f0, f1, f2, f3, f4, f5⟩, x1⟩ := state_of (a0 := a6) (a1 := a7) (a2 := a8) (a3 := a9) (a4 := a10) (a5 := a11) g1
  obtain ⟨r0, r1, r2, r3, r4, rb, ⟨k0, k1, k2, k3, k4, k5⟩, x2⟩ := state_of (a0 := a12) (a1 := a13) (a2 := a14) (a3 := a15) (a4 := a16) (a5 := a17) g2
  obtain ⟨t0, t1, t2, t3, t4, tb, ⟨l0, l1, l2, l3, l4, l5⟩, x3⟩ := state_of (a0 := a18) (a1 := a19) (a2 := a20) (a3 := a21) (a4 := a22) (a5 := a23) g3
  subst e0 e1 e2 e3 e4 e5 f0 f1 f2 f3 f4 f5 k0 k1 k2 k3 k4 k5 l0 l1 l2 l3 l4 l5
  refine ⟨fun i => match i with | 0 => ⟨p0, p1, p2, p3, p4, pb⟩ | 1 => ⟨q0, q1, q2, q3, q4, qb⟩ | 2 => ⟨r0, r1, r2, r3, r4, rb⟩ | _ => ⟨t0, t1, t2, t3, t4, tb⟩, rfl, fun i hi => ?_⟩
  rcases i with _ | _ | _ | _ | i
  · exact x0
  · exact x1
  · exact x2
  · exact x3
  · omega
set_option maxRecDepth 100000 in
theorem two_of {b0 : Nat} {v : Value} {d : DataW H} {p : List MemPlace} (hv : Value.okWide Tryd.prog w .any b0 26 v) (h : DataW.Trod enc Tryd.prog w base (fun _ => true) held 26 v d p) :
    ∃ u0 u1 : Int, v = .agg #[.int .i64 u0, .int .i64 u1] := by
  have s2 : Tryd.prog.cellsOf 26 = 2 := by kernel_rfl
  have s1 : Tryd.prog.cellsOf 3 = 1 := by kernel_rfl
  obtain ⟨cs, rfl⟩ : ∃ cs, v = .agg cs := by
    simp only [Value.okWide, Tryd.underlying26] at hv
    obtain ⟨cs, h1, _⟩ := hv
    exact ⟨cs, h1⟩
  obtain ⟨fuel, hf⟩ := h
  have hf : DataW.trod enc Tryd.prog w base (fun _ => true) held fuel 26 cs.toList = some (d, p) := by simpa [Value.cells] using hf
  obtain ⟨xs, m, _, _, hl, hxl, hi⟩ := DataW.trod_array Tryd.underlying26 hf
  rw [s2] at hl
  obtain ⟨a0, a1, hL⟩ := list2 hl
  obtain rfl : cs = #[a0, a1] := by rw [← Array.toArray_toList (xs := cs), hL]
  obtain ⟨y0, g0⟩ := some_of hxl (hi 0 (by omega)) (by omega)
  obtain ⟨y1, g1⟩ := some_of hxl (hi 1 (by omega)) (by omega)
  rw [s1] at g0 g1
  obtain ⟨u0, e0⟩ := one_int (a := a0) g0
  obtain ⟨u1, e1⟩ := one_int (a := a1) g1
  subst e0 e1
  exact ⟨u0, u1, rfl⟩
end
end Go.Proofs.YtmfcbndgambfmaaDoor
end
