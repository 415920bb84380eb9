/- A slice of steps that came in as an argument, read as a list of steps; numbers and bytes likewise. -/
import Derived.Test.YtdcfplfeagpcdaaFe
import Derived.Test.YtdcfplfeagpcdaaRow
import Derived.Deep.Slices
import Derived.OpenShut
namespace Go.Proofs.Ytdcfplfeagpcdaa
open Go.RowKit Go.ChangeShapes Go.WideShapes Go.Deep

theorem list_of {α : Type} {P : Nat → α → Prop} : ∀ n, (∀ i, i < n → ∃ v, P i v) → ∃ l : List α, l.length = n ∧ ∀ i (h : i < l.length), P i l[i]
  | 0, _ => ⟨[], rfl, fun i h => absurd h (by simp)⟩
  | n + 1, h => by
    obtain ⟨l, hl, hp⟩ := list_of n fun i hi => h i (by omega)
    obtain ⟨v, hv⟩ := h n (by omega)
    refine ⟨l ++ [v], by simp [hl], fun i hi => ?_⟩
    rcases Nat.lt_or_ge i l.length with h1 | h1
    · rw [List.getElem_append_left h1]; exact hp i h1
    · have : i = l.length := by simp at hi; omega
      subst this
      subst hl
      simpa using hv

section
variable {H : Type} {enc : TypeId × Value → H} {w : World} {base : Nat} {spare : Nat → Bool} {held : Bool}

theorem byte_of {z : Int} (h : (Lit.int .u8 z).wf = true) : ∃ b : UInt8, z = (b.toNat : Int) := by
  have hb := bounds_u8 h
  exact ⟨UInt8.ofNat z.toNat, by simp; omega⟩

/-- a slice of ints, read -/
theorem ints_of {fuel : Nat} {v : Value} {x : DataW H × List MemPlace} (h : DataW.trod enc Try.prog w base (fun _ => true) held fuel 23 [v] = some x) :
    ∃ (A : Option Addr) (l : List Int) (cap : Nat), v = .slice A l.length cap ∧ Shows w w.heap.size A l.length (nums l) ∧ l.length ≤ cap ∧ cap ≤ 9223372036854775807 := by
  rcases open_ints Try.underlying23 Try.underlying3 (by kernel_rfl) h with ⟨hcs, _⟩ | ⟨a, len, cap, zs, hcs, _, hl, hm, hz, _, hcell, hwz⟩
  · injection hcs with hcs _
    exact ⟨none, [], 0, hcs, Shows.empty _ _ _, Nat.le_refl _, by omega⟩
  · injection hcs with hcs _
    have hz' : zs.length = cap := by simpa using hz
    have hlen : (zs.take len).length = len := by simp; omega
    refine ⟨some a, zs.take len, cap, by rw [hlen]; exact hcs, ?_, by omega, hm⟩
    have hc : ∀ j u, (nums (zs.take len))[j]? = some u → w.cell? (a.add j) = some u := by
      intro j u hu
      have hj : j < len := by
        rcases Nat.lt_or_ge j len with h1 | h1
        · exact h1
        · rw [List.getElem?_eq_none (by simp [nums]; omega)] at hu; cases hu
      rw [hcell j (by omega), ← hu]
      simp [nums, List.getD, hj]
      have : j < zs.length := by omega
      simp [this]
    refine ⟨by simp [nums], fun hp => ⟨a, rfl, ?_, hc⟩⟩
    rw [hlen] at hp
    have h0 := hcell 0 (by omega)
    have := block_lt_of_cell h0
    rwa [addr_block] at this

theorem step_fields : ∃ f0 f1 f2 f3 : Field, Try.prog.underlying 54 = some (.struct #[f0, f1, f2, f3]) ∧
    (f0.type = 3 ∧ f0.offset = 0) ∧ (f1.type = 3 ∧ f1.offset = 1) ∧ (f2.type = 5 ∧ f2.offset = 2) ∧ (f3.type = 23 ∧ f3.offset = 3) := by
  exact ⟨_, _, _, _, Try.underlying54, ⟨rfl, rfl⟩, ⟨rfl, rfl⟩, ⟨rfl, rfl⟩, ⟨rfl, rfl⟩⟩

/-- one step's cells, read -/
theorem step_of {fuel : Nat} {cs : List Value} {x : DataW H × List MemPlace} (hl : cs.length = 4) (h : DataW.trod enc Try.prog w base (fun _ => true) held fuel 54 cs = some x) :
    ∃ s : ST, s.ok ∧ STok w w.heap.size cs.toArray s := by
  obtain ⟨f0, f1, f2, f3, hu, ⟨t0, o0⟩, ⟨t1, o1⟩, ⟨t2, o2⟩, ⟨t3, o3⟩⟩ := step_fields
  obtain ⟨xs, n, _, _, _, hxl, hf⟩ := DataW.trod_struct hu h
  have s1 : Try.prog.cellsOf 3 = 1 := by kernel_rfl
  have s2 : Try.prog.cellsOf 5 = 1 := by kernel_rfl
  have s3 : Try.prog.cellsOf 23 = 1 := by kernel_rfl
  obtain ⟨a0, a1, a2, a3, rfl⟩ : ∃ a0 a1 a2 a3, cs = [a0, a1, a2, a3] := by
    rcases cs with _ | ⟨a0, _ | ⟨a1, _ | ⟨a2, _ | ⟨a3, _ | ⟨a4, t⟩⟩⟩⟩⟩
    · cases hl
    · cases hl
    · cases hl
    · cases hl
    · exact ⟨a0, a1, a2, a3, rfl⟩
    · simp only [List.length_cons] at hl; omega
  have hx : ∀ i, i < 4 → ∃ y, xs[i]? = some y := fun i hi => ⟨xs[i]'(by rw [hxl]; exact hi), List.getElem?_eq_getElem _⟩
  obtain ⟨y0, e0⟩ := hx 0 (by omega)
  obtain ⟨y1, e1⟩ := hx 1 (by omega)
  obtain ⟨y2, e2⟩ := hx 2 (by omega)
  obtain ⟨y3, e3⟩ := hx 3 (by omega)
  have g0 := (hf 0 f0 rfl).trans e0
  have g1 := (hf 1 f1 rfl).trans e1
  have g2 := (hf 2 f2 rfl).trans e2
  have g3 := (hf 3 f3 rfl).trans e3
  rw [t0, o0, s1] at g0
  rw [t1, o1, s1] at g1
  rw [t2, o2, s2] at g2
  rw [t3, o3, s3] at g3
  simp only [List.drop_zero, List.drop_succ_cons, List.take_succ_cons, List.take_zero] at g0 g1 g2 g3
  obtain ⟨z0, c0, _, w0⟩ := DataW.trod_int Try.underlying3 g0
  obtain ⟨z1, c1, _, w1⟩ := DataW.trod_int Try.underlying3 g1
  obtain ⟨z2, c2, _, w2⟩ := DataW.trod_int Try.underlying5 g2
  injection c0 with c0 _
  injection c1 with c1 _
  injection c2 with c2 _
  subst c0
  subst c1
  subst c2
  obtain ⟨b2, rfl⟩ := byte_of w2
  have hb1 := bounds_i64 w1
  obtain ⟨A, l, cap, rfl, hs, hc, hcm⟩ := ints_of g3
  exact ⟨⟨z0, z1, b2, l⟩, by show _ ≤ z1 ∧ z1 ≤ _; omega, A, cap, rfl, hs, hc, hcm⟩

/-- the slice, read -/
theorem steps_of {a : Option Addr} {len cap fuel : Nat} {x : DataW H × List MemPlace} (h : DataW.trod enc Try.prog w base (fun _ => true) held fuel 22 [.slice a len cap] = some x) :
    ∃ l : List ST, l.length = len ∧ len ≤ 9223372036854775807 ∧ SRow w w.heap.size a l ∧ ∀ s ∈ l, s.ok := by
  have s6 : Try.prog.cellsOf 54 = 4 := by kernel_rfl
  rcases open_slice Try.underlying22 h with ⟨hcs, _⟩ | ⟨p, len', cap', m, n, D, Pl, hcs, _, hl, hm, hmm, _, hi⟩
  · injection hcs with hcs _
    injection hcs with h1 h2 h3
    subst h2
    exact ⟨[], rfl, by omega, fun h => absurd h (by simp), by simp⟩
  · injection hcs with hcs _
    injection hcs with h1 h2 h3
    subst h1
    subst h2
    subst h3
    rw [if_pos rfl] at hmm
    subst hmm
    rw [s6] at hi
    obtain ⟨l, hvl, hv⟩ := list_of (P := fun i (v : ST) => v.ok ∧ ∃ cs : Array Value, STok w w.heap.size cs v ∧ ∀ (j : Nat) (u : Value), cs[j]? = some u → w.cell? (p.add (i * 4 + j)) = some u) len (fun i hlt => by
      obtain ⟨cs, hc, ht⟩ := hi i (by omega)
      obtain ⟨_, hcl, hat⟩ := World.cells?_some hc
      obtain ⟨v, hk, hv⟩ := step_of hcl ht
      refine ⟨v, hk, cs.toArray, hv, fun j u hu => ?_⟩
      rw [List.getElem?_toArray] at hu
      have hj : j < cs.length := (List.getElem?_eq_some_iff.1 hu).1
      rw [← addr_twice, hat j (by omega)]
      exact hu)
    refine ⟨l, hvl, Nat.le_trans hl hm, fun hp => ⟨p, rfl, ?_, fun i h => (hv i h).2⟩, fun s hs => ?_⟩
    · obtain ⟨_, cs, ⟨A, c, rfl, _⟩, hc⟩ := hv 0 hp
      have h0 := hc 0 _ rfl
      have := block_lt_of_cell h0
      rwa [addr_block] at this
    · obtain ⟨i, hi, rfl⟩ := List.mem_iff_getElem.1 hs
      exact (hv i hi).1
end
end Go.Proofs.Ytdcfplfeagpcdaa
