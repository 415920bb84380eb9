/- Counts, and acts, that came in as arguments, read. -/
import Derived.Test.YtiodhihddpbadaaRow
import Derived.Test.YtiodhihddpbadaaKp
import Derived.Deep.Slices
import Derived.OpenShut
namespace Go.Proofs.Ytiodhihddpbadaa
open Go.RowKit Go.ChangeShapes Go.WideShapes Go.Deep

/-- a row of acts -/
def ARow (w : World) (B : Nat) (A : Option Addr) (l : List (Int × Int)) : Prop :=
  0 < l.length → ∃ p : Addr, A = some p ∧ p.block < B ∧ ∀ i (h : i < l.length), w.cell? (p.add (i * 2)) = some (.int .i64 l[i].1) ∧ w.cell? (p.add (i * 2 + 1)) = some (.int .i64 l[i].2)
theorem ARow.at2 {w : World} {A : Option Addr} {l : List (Int × Int)} (h : ARow w w.heap.size A l) (i : Nat) (hi : i < l.length) : ∃ p : Addr, A = some p ∧
    ∀ W, Below w.heap.size w W → W.cell? (p.add (i * 2)) = some (.int .i64 l[i].1) ∧ W.cell? ⟨(p.add (i * 2)).block, (p.add (i * 2)).off + 1, none⟩ = some (.int .i64 l[i].2) := by
  obtain ⟨p, e, hpb, hx⟩ := h (by omega)
  refine ⟨p, e, fun W hb => ⟨?_, ?_⟩⟩
  · rw [hb.cell (by rw [addr_block]; exact hpb)]; exact (hx i hi).1
  · rw [← add_pos (p.add (i * 2)) 1 (by omega), addr_twice, hb.cell (by rw [addr_block]; exact hpb)]; exact (hx i hi).2

theorem list_of {α : Type} {P : Nat → α → Prop} : ∀ n, (∀ i, i < n → ∃ v, P i v) → ∃ l : List α, l.length = n ∧ ∀ i (h : i < l.length), P i l[i]
  | 0, _ => ⟨[], rfl, fun i h => absurd h (by simp)⟩
  | n + 1, h => by
    obtain ⟨l, hl, hp⟩ := list_of n fun i hi => h i (by omega)
    obtain ⟨v, hv⟩ := h n (by omega)
    refine ⟨l ++ [v], by simp [hl], fun i hi => ?_⟩
    rcases Nat.lt_or_ge i l.length with h1 | h1
    · rw [List.getElem_append_left h1]; exact hp i h1
    · have : i = l.length := by simp at hi; omega
      subst this
      subst hl
      simpa using hv

section
variable {H : Type} {enc : TypeId × Value → H} {w : World} {base : Nat} {spare : Nat → Bool} {held : Bool}
/-- counts, read -/
theorem counts_of {fuel : Nat} {v : Value} {x : DataW H × List MemPlace} (h : DataW.trod enc Try.prog w base (fun _ => true) held fuel 22 [v] = some x) :
    ∃ (A : Option Addr) (l : List Nat) (cap : Nat), v = .slice A l.length cap ∧ Shows w w.heap.size A l.length (nz .u16 l) ∧ (∀ k ∈ l, k ≤ 65535) ∧ l.length ≤ cap ∧ cap ≤ 9223372036854775807 := by
  rcases open_ints Try.underlying22 Try.underlying43 (by kernel_rfl) h with ⟨hcs, _⟩ | ⟨a, len, cap, zs, hcs, _, hl, hm, hz, _, hcell, hwz⟩
  · injection hcs with hcs _
    exact ⟨none, [], 0, hcs, Shows.empty _ _ _, by simp, Nat.le_refl _, by omega⟩
  · injection hcs with hcs _
    have hz' : zs.length = cap := by simpa using hz
    have hlen : ((zs.take len).map Int.toNat).length = len := by simp; omega
    refine ⟨some a, (zs.take len).map Int.toNat, cap, by rw [hlen]; exact hcs, ?_, ?_, by omega, hm⟩
    · have hc : ∀ j u, (nz .u16 ((zs.take len).map Int.toNat))[j]? = some u → w.cell? (a.add j) = some u := by
        intro j u hu
        have hj : j < len := by
          rcases Nat.lt_or_ge j len with h1 | h1
          · exact h1
          · rw [List.getElem?_eq_none (by rw [nz_len, hlen]; exact h1)] at hu; cases hu
        have hjz : j < zs.length := by omega
        rw [hcell j (by omega), ← hu, nz_get .u16 _ j (by rw [hlen]; exact hj)]
        have hb := bounds_u16 (hwz _ (List.getElem_mem hjz))
        simp [List.getD, hjz, hj]
        omega
      refine ⟨by rw [nz_len], fun hp => ⟨a, rfl, ?_, hc⟩⟩
      rw [hlen] at hp
      have h0 := hcell 0 (by omega)
      have := block_lt_of_cell h0
      rwa [addr_block] at this
    · intro k hk
      obtain ⟨z, hzm, rfl⟩ := List.mem_map.1 hk
      have hb := bounds_u16 (hwz _ (List.mem_of_mem_take hzm))
      omega

theorem act_fields : ∃ f0 f1 : Field, Try.prog.underlying 35 = some (.struct #[f0, f1]) ∧ (f0.type = 3 ∧ f0.offset = 0) ∧ (f1.type = 3 ∧ f1.offset = 1) := by
  exact ⟨_, _, Try.underlying35, ⟨rfl, rfl⟩, ⟨rfl, rfl⟩⟩
/-- one act's cells, read -/
theorem act_of {fuel : Nat} {cs : List Value} {x : DataW H × List MemPlace} (hl : cs.length = 2) (h : DataW.trod enc Try.prog w base (fun _ => true) held fuel 35 cs = some x) :
    ∃ s : Int × Int, cs = [.int .i64 s.1, .int .i64 s.2] := by
  obtain ⟨f0, f1, hu, ⟨t0, o0⟩, ⟨t1, o1⟩⟩ := act_fields
  obtain ⟨xs, n, _, _, _, hxl, hf⟩ := DataW.trod_struct hu h
  have s1 : Try.prog.cellsOf 3 = 1 := by kernel_rfl
  obtain ⟨a0, a1, rfl⟩ : ∃ a0 a1, cs = [a0, a1] := by
    rcases cs with _ | ⟨a0, _ | ⟨a1, _ | ⟨a2, t⟩⟩⟩
    · cases hl
    · cases hl
    · exact ⟨a0, a1, rfl⟩
    · simp only [List.length_cons] at hl; omega
  have hx : ∀ i, i < 2 → ∃ y, xs[i]? = some y := fun i hi => ⟨xs[i]'(by rw [hxl]; exact hi), List.getElem?_eq_getElem _⟩
  obtain ⟨y0, e0⟩ := hx 0 (by omega)
  obtain ⟨y1, e1⟩ := hx 1 (by omega)
  have g0 := (hf 0 f0 rfl).trans e0
  have g1 := (hf 1 f1 rfl).trans e1
  rw [t0, o0, s1] at g0
  rw [t1, o1, s1] at g1
  simp only [List.drop_zero, List.drop_succ_cons, List.take_succ_cons, List.take_zero] at g0 g1
  obtain ⟨z0, c0, _, w0⟩ := DataW.trod_int Try.underlying3 g0
  obtain ⟨z1, c1, _, w1⟩ := DataW.trod_int Try.underlying3 g1
  injection c0 with c0 _
  injection c1 with c1 _
  subst c0
  subst c1
  exact ⟨(z0, z1), rfl⟩
/-- the slice, read -/
theorem acts_of {a : Option Addr} {len cap fuel : Nat} {x : DataW H × List MemPlace} (h : DataW.trod enc Try.prog w base (fun _ => true) held fuel 23 [.slice a len cap] = some x) :
    ∃ l : List (Int × Int), l.length = len ∧ len ≤ 9223372036854775807 ∧ ARow w w.heap.size a l := by
  have s6 : Try.prog.cellsOf 35 = 2 := by kernel_rfl
  rcases open_slice Try.underlying23 h with ⟨hcs, _⟩ | ⟨p, len', cap', m, n, D, Pl, hcs, _, hl, hm, hmm, _, hi⟩
  · injection hcs with hcs _
    injection hcs with h1 h2 h3
    subst h2
    exact ⟨[], rfl, by omega, fun h => absurd h (by simp)⟩
  · injection hcs with hcs _
    injection hcs with h1 h2 h3
    subst h1
    subst h2
    subst h3
    rw [if_pos rfl] at hmm
    subst hmm
    rw [s6] at hi
    obtain ⟨l, hvl, hv⟩ := list_of (P := fun i (v : Int × Int) => w.cell? (p.add (i * 2)) = some (.int .i64 v.1) ∧ w.cell? (p.add (i * 2 + 1)) = some (.int .i64 v.2)) len (fun i hlt => by
      obtain ⟨cs, hc, ht⟩ := hi i (by omega)
      obtain ⟨_, hcl, hat⟩ := World.cells?_some hc
      obtain ⟨v, rfl⟩ := act_of hcl ht
      have h0 := hat 0 (by simp)
      have h1 := hat 1 (by simp)
      rw [addr_twice] at h0 h1
      exact ⟨v, h0, h1⟩)
    refine ⟨l, hvl, Nat.le_trans hl hm, fun hp => ⟨p, rfl, ?_, hv⟩⟩
    have h0 := (hv 0 hp).1
    have := block_lt_of_cell h0
    rwa [addr_block] at this
end
end Go.Proofs.Ytiodhihddpbadaa
