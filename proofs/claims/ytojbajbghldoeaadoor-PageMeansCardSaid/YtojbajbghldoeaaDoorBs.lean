/- From what the row lists to what the walks ask; nodes, blocks that came in as arguments. -/
import Derived.Test.YtojbajbghldoeaaDoorRows
import Derived.Test.YtojbajbghldoeaaDoorBc
import Derived.Test.YtojbajbghldoeaaDoorCa
import Derived.ProofKit
import Derived.LaidMore
import Derived.OpenShut
import Derived.Stop.Joined
import Derived.Lib.LaidTab
import Derived.Lib.SmallJoins
import Derived.Deep.Slices
namespace Go.Proofs.YtojbajbghldoeaaDoor
open Go.RowKit Go.ChangeShapes Go.WideShapes Go.Deep Go.WideMaps Go.WideElems

def laidL : List (String × DataW Unit) := [("math/bits.deBruijn32tab", Rows.laid_math_bits_deBruijn32tab), ("math/bits.deBruijn64tab", Rows.laid_math_bits_deBruijn64tab)]

theorem door_met (os : Os) (args : Array Value) : laidMetH Tryd.prog laidL ((World.doorLaid Tryd.prog 400 os).forCall (fun _ _ => 0) ⟨#[], args, []⟩).memory :=
  laidMetH_of_parts3 (fuel := 8) (laidMet_of_run' 8 (by kernel_rfl) (by kernel_rfl)) (by kernel_rfl) (by kernel_rfl)

theorem gTab : Tryd.prog.globalNamed "math/bits.deBruijn64tab" = some 2 := by kernel_rfl
theorem tTab : (Tryd.prog.globals[2]?).map (·.type) = some 113 := by kernel_rfl
theorem tabs_of {W : World} (h : laidMetH Tryd.prog laidL W) : Tabs W := by
  rw [MakeChecks.laidMetH_plain _ _ _ (by kernel_rfl)] at h
  obtain ⟨ps, ⟨g0, t0, cs0, f0, p0, q0, hg0, ht0, hv0, hd0, ⟨g1, t1, cs1, f1, p1, q1, hg1, ht1, hv1, hd1, _, _⟩, _⟩, _, _⟩ := h
  obtain rfl := Option.some.inj (gTab.symm.trans hg1)
  obtain rfl := Option.some.inj (tTab.symm.trans ht1)
  have e : (Rows.laid_math_bits_deBruijn64tab : DataW Unit) = Lib.tabData .u8 db64 := rfl
  rw [e] at hd1
  have hcs := Lib.cells_of_tab Tryd.underlying113 Tryd.underlying5 (by kernel_rfl) (by kernel_rfl) hd1
  have hT : Lib.TabIs Tryd.prog W "math/bits.deBruijn64tab" .u8 db64 := by
    unfold Lib.TabIs
    rw [hv1, ← hcs]
  intro i hi
  exact hT.cell gTab i (by simpa [db64] using hi)

theorem nat32 {z : Int} (h : (Lit.int .u32 z).wf = true) : ∃ u : Nat, z = (u : Int) ∧ u < 4294967296 := by
  have hb := bounds_u32 h
  exact ⟨z.toNat, by omega, by omega⟩
theorem nat64 {z : Int} (h : (Lit.int .u64 z).wf = true) : ∃ u : Nat, z = (u : Int) ∧ u < 18446744073709551616 := by
  have hb := bounds_u64 h
  exact ⟨z.toNat, by omega, by omega⟩
theorem byte_of {z : Int} (h : (Lit.int .u8 z).wf = true) : ∃ b : UInt8, z = (b.toNat : Int) := by
  have hb := bounds_u8 h
  exact ⟨UInt8.ofNat z.toNat, by simp; omega⟩
theorem bytes_list : ∀ {cs : List Value}, (∀ i, i < cs.length → ∃ z : Int, cs[i]? = some (.int .u8 z) ∧ (Lit.int .u8 z).wf = true) → ∃ l : List UInt8, l.length = cs.length ∧ cs = cells8 l
  | [], _ => ⟨[], rfl, rfl⟩
  | c :: cs, h => by
    obtain ⟨z, hz, hw⟩ := h 0 (by simp)
    obtain ⟨b, rfl⟩ := byte_of hw
    obtain ⟨l, hl, he⟩ := bytes_list (cs := cs) fun i hi => h (i + 1) (by simpa using hi)
    refine ⟨b :: l, by simp [hl], ?_⟩
    simp at hz
    rw [hz, he]
    simp [cells8]

section
variable {H : Type} {enc : TypeId × Value → H} {w : World} {base : Nat} {held : Bool}
/-- a slice of numbers, read -/
theorem nums_of {fuel : Nat} {v : Value} {x : DataW H × List MemPlace} (h : DataW.trod enc Tryd.prog w base (fun _ => true) held fuel 25 [v] = some x) :
    ∃ (A : Option Addr) (l : List Nat) (cap : Nat), v = .slice A l.length cap ∧ Shows w w.heap.size A l.length (nums64 l) ∧ ∀ k ∈ l, k < 18446744073709551616 := by
  rcases open_ints Tryd.underlying25 Tryd.underlying24 (by kernel_rfl) h with ⟨hcs, _⟩ | ⟨a, len, cap, zs, hcs, _, hl, hm, hz, _, hcell, hwz⟩
  · injection hcs with hcs _
    exact ⟨none, [], 0, hcs, Shows.empty _ _ _, by simp⟩
  · injection hcs with hcs _
    have hz' : zs.length = cap := by simpa using hz
    have hlen : ((zs.take len).map Int.toNat).length = len := by simp; omega
    refine ⟨some a, (zs.take len).map Int.toNat, cap, by rw [hlen]; exact hcs, ?_, ?_⟩
    · have hc : ∀ j u, (nums64 ((zs.take len).map Int.toNat))[j]? = some u → w.cell? (a.add j) = some u := by
        intro j u hu
        have hj : j < len := by
          rcases Nat.lt_or_ge j len with h1 | h1
          · exact h1
          · rw [List.getElem?_eq_none (by rw [nums64_length, hlen]; exact h1)] at hu; cases hu
        have hjz : j < zs.length := by omega
        rw [hcell j (by omega), ← hu, nums64_get _ j (by rw [hlen]; exact hj)]
        have hb := bounds_u64 (hwz _ (List.getElem_mem hjz))
        simp [List.getD, hjz, hj]
        omega
      refine ⟨by rw [nums64_length], fun hp => ⟨a, rfl, ?_, hc⟩⟩
      rw [hlen] at hp
      have h0 := hcell 0 (by omega)
      have := block_lt_of_cell h0
      rwa [addr_block] at this
    · intro k hk
      obtain ⟨z, hzm, rfl⟩ := List.mem_map.1 hk
      have hb := bounds_u64 (hwz _ (List.mem_of_mem_take hzm))
      omega

theorem node_fields : ∃ f0 f1 f2 f3 : Field, Tryd.prog.underlying 27 = some (.struct #[f0, f1, f2, f3]) ∧
    (f0.type = 23 ∧ f0.offset = 0) ∧ (f1.type = 24 ∧ f1.offset = 1) ∧ (f2.type = 25 ∧ f2.offset = 2) ∧ (f3.type = 25 ∧ f3.offset = 3) := by
  exact ⟨_, _, _, _, Tryd.underlying27, ⟨rfl, rfl⟩, ⟨rfl, rfl⟩, ⟨rfl, rfl⟩, ⟨rfl, rfl⟩⟩

set_option maxRecDepth 100000 in
/-- a node, read -/
theorem node_of {b0 : Nat} {v : Value} {d : DataW H} {p : List MemPlace} (hv : Value.okWide Tryd.prog w .any b0 27 v) (h : DataW.Trod enc Tryd.prog w base (fun _ => true) held 27 v d p) :
    ∃ (kind : Int) (birth : Nat) (keys vals : List Nat) (A A' : Option Addr) (ck cv : Nat), v = .agg #[.int .i64 kind, .int .u64 (birth : Int), .slice A keys.length ck, .slice A' vals.length cv] ∧ (ND.mk kind birth keys vals).fits ∧
      Shows w w.heap.size A keys.length (nums64 keys) ∧ Shows w w.heap.size A' vals.length (nums64 vals) := by
  have s4 : Tryd.prog.cellsOf 27 = 4 := by kernel_rfl
  have s0 : Tryd.prog.cellsOf 23 = 1 := by kernel_rfl
  have s1 : Tryd.prog.cellsOf 24 = 1 := by kernel_rfl
  have s2 : Tryd.prog.cellsOf 25 = 1 := by kernel_rfl
  obtain ⟨f0, f1, f2, f3, hu, ⟨t0, o0⟩, ⟨t1, o1⟩, ⟨t2, o2⟩, ⟨t3, o3⟩⟩ := node_fields
  have hv2 := okWide_struct hu hv
  obtain ⟨cs, hv3, hsz⟩ := hv2
  subst hv3
  obtain ⟨fuel, hf0⟩ := h
  have hf0 : DataW.trod enc Tryd.prog w base (fun _ => true) held fuel 27 cs.toList = some (d, p) := by simpa [Value.cells] using hf0
  obtain ⟨xs, n, _, _, _, hxl, hf⟩ := DataW.trod_struct hu hf0
  rw [s4] at hsz
  obtain ⟨a0, a1, a2, a3, rfl⟩ := Joins.array4 hsz
  have hx : ∀ i, i < 4 → ∃ y, xs[i]? = some y := fun i hi => ⟨xs[i]'(by rw [hxl]; exact hi), List.getElem?_eq_getElem _⟩
  obtain ⟨y0, e0⟩ := hx 0 (by omega)
  obtain ⟨y1, e1⟩ := hx 1 (by omega)
  obtain ⟨y2, e2⟩ := hx 2 (by omega)
  obtain ⟨y3, e3⟩ := hx 3 (by omega)
  have h0 := (hf 0 f0 rfl).trans e0
  have h1 := (hf 1 f1 rfl).trans e1
  have h2 := (hf 2 f2 rfl).trans e2
  have h3 := (hf 3 f3 rfl).trans e3
  rw [t0, o0, s0] at h0
  rw [t1, o1, s1] at h1
  rw [t2, o2, s2] at h2
  rw [t3, o3, s2] at h3
  simp only [List.drop_zero, List.drop_succ_cons, List.take_succ_cons, List.take_zero] at h0 h1 h2 h3
  obtain ⟨z0, c0, _, w0⟩ := DataW.trod_int Tryd.underlying23 h0
  obtain ⟨z1, c1, _, w1⟩ := DataW.trod_int Tryd.underlying24 h1
  injection c0 with c0 _
  injection c1 with c1 _
  subst c0
  subst c1
  obtain ⟨b1, rfl, hb1⟩ := nat64 w1
  obtain ⟨A, keys, ck, rfl, hs, hk⟩ := nums_of h2
  obtain ⟨A', vals, cv, rfl, hs', hk'⟩ := nums_of h3
  exact ⟨z0, b1, keys, vals, A, A', ck, cv, rfl, ⟨hb1, hk, hk'⟩, hs, hs'⟩

set_option maxRecDepth 100000 in
/-- a block, read -/
theorem block_of {b0 : Nat} {v : Value} {d : DataW H} {p : List MemPlace} (hv : Value.okWide Tryd.prog w .any b0 29 v) (h : DataW.Trod enc Tryd.prog w base (fun _ => true) held 29 v d p) :
    ∃ l : List UInt8, l.length = 256 ∧ v = .agg (cells8 l).toArray := by
  have s256 : Tryd.prog.cellsOf 29 = 256 := by kernel_rfl
  have s1 : Tryd.prog.cellsOf 5 = 1 := by kernel_rfl
  obtain ⟨cs, rfl⟩ : ∃ cs, v = .agg cs := by
    simp only [Value.okWide, Tryd.underlying29] at hv
    obtain ⟨cs, h1, _⟩ := hv
    exact ⟨cs, h1⟩
  obtain ⟨fuel, hf⟩ := h
  have hf : DataW.trod enc Tryd.prog w base (fun _ => true) held fuel 29 cs.toList = some (d, p) := by simpa [Value.cells] using hf
  obtain ⟨xs, m, _, _, hl, hxl, hi⟩ := DataW.trod_array Tryd.underlying29 hf
  rw [s256] at hl
  obtain ⟨l, hll, he⟩ := bytes_list (cs := cs.toList) fun i hlt => by
    have hi' := hi i (by omega)
    rw [s1, Nat.mul_one, List.drop_eq_getElem_cons hlt] at hi'
    simp only [List.take_succ_cons, List.take_zero] at hi'
    obtain ⟨y, hy⟩ : ∃ y, xs[i]? = some y := ⟨xs[i]'(by omega), List.getElem?_eq_getElem _⟩
    obtain ⟨z, hz, _, hw⟩ := DataW.trod_int Tryd.underlying5 (hi'.trans hy)
    have hz := (List.cons.inj hz).1
    exact ⟨z, by rw [List.getElem?_eq_getElem hlt, hz], hw⟩
  refine ⟨l, by omega, ?_⟩
  rw [← he]
end
end Go.Proofs.YtojbajbghldoeaaDoor
