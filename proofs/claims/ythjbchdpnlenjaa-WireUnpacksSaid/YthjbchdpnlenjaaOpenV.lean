/- A slice of the law's values that came in as an argument, read as a list of values. -/
import Derived.Test.YthjbchdpnlenjaaAll
import Derived.Test.YthjbchdpnlenjaaRow
import Derived.Deep.Slices
import Derived.OpenShut
namespace Go.Proofs.Ythjbchdpnlenjaa
open Go.RowKit Go.ChangeShapes Go.WideShapes Go.Deep

theorem list_of {α : Type} {P : Nat → α → Prop} : ∀ n, (∀ i, i < n → ∃ v, P i v) → ∃ l : List α, l.length = n ∧ ∀ i (h : i < l.length), P i l[i]
  | 0, _ => ⟨[], rfl, fun i h => absurd h (by simp)⟩
  | n + 1, h => by
    obtain ⟨l, hl, hp⟩ := list_of n fun i hi => h i (by omega)
    obtain ⟨v, hv⟩ := h n (by omega)
    refine ⟨l ++ [v], by simp [hl], fun i hi => ?_⟩
    rcases Nat.lt_or_ge i l.length with h1 | h1
    · rw [List.getElem_append_left h1]; exact hp i h1
    · have : i = l.length := by simp at hi; omega
      subst this
      subst hl
      simpa using hv

section
variable {H : Type} {enc : TypeId × Value → H} {w : World} {base : Nat} {spare : Nat → Bool} {held : Bool}

theorem byte_of {z : Int} (h : (Lit.int .u8 z).wf = true) : ∃ b : UInt8, z = (b.toNat : Int) := by
  have hb := bounds_u8 h
  exact ⟨UInt8.ofNat z.toNat, by simp; omega⟩

/-- a slice of bytes, read -/
theorem bytes_of {fuel : Nat} {v : Value} {x : DataW H × List MemPlace} (h : DataW.trod enc Try.prog w base (fun _ => true) held fuel 25 [v] = some x) :
    ∃ (A : Option Addr) (l : List UInt8) (cap : Nat), v = .slice A l.length cap ∧ Shows w w.heap.size A l.length (cells8 l) ∧ l.length ≤ cap ∧ cap ≤ 9223372036854775807 := by
  rcases open_ints Try.underlying25 Try.underlying5 (by kernel_rfl) h with ⟨hcs, _⟩ | ⟨a, len, cap, zs, hcs, _, hl, hm, hz, _, hcell, hwz⟩
  · injection hcs with hcs _
    exact ⟨none, [], 0, hcs, Shows.empty _ _ _, Nat.le_refl _, by omega⟩
  · injection hcs with hcs _
    obtain ⟨l, hll, hs, hc, hcm⟩ := row_bytes (w := w) (a := some a) (len := len) (cap := cap) (zs := zs) (.inr ⟨a, rfl, hl, hm, by simpa using hz, hcell, hwz⟩)
    subst hll
    exact ⟨some a, l, cap, hcs, hs, hc, hcm⟩

theorem val_fields : ∃ f0 f1 f2 f3 f4 : Field, Try.prog.underlying 54 = some (.struct #[f0, f1, f2, f3, f4]) ∧
    (f0.type = 5 ∧ f0.offset = 0) ∧ (f1.type = 42 ∧ f1.offset = 1) ∧ (f2.type = 4 ∧ f2.offset = 2) ∧ (f3.type = 25 ∧ f3.offset = 3) ∧ (f4.type = 52 ∧ f4.offset = 4) := by
  exact ⟨_, _, _, _, _, Try.underlying54, ⟨rfl, rfl⟩, ⟨rfl, rfl⟩, ⟨rfl, rfl⟩, ⟨rfl, rfl⟩, ⟨rfl, rfl⟩⟩

/-- one value's cells, read -/
theorem val_of {fuel : Nat} {cs : List Value} {x : DataW H × List MemPlace} (hl : cs.length = 260) (h : DataW.trod enc Try.prog w base (fun _ => true) held fuel 54 cs = some x) :
    ∃ v, LVok w w.heap.size cs v := by
  obtain ⟨f0, f1, f2, f3, f4, hu, ⟨t0, o0⟩, ⟨t1, o1⟩, ⟨t2, o2⟩, ⟨t3, o3⟩, ⟨t4, o4⟩⟩ := val_fields
  obtain ⟨xs, n, _, _, _, hxl, hf⟩ := DataW.trod_struct hu h
  have s1 : Try.prog.cellsOf 5 = 1 := by kernel_rfl
  have s2 : Try.prog.cellsOf 42 = 1 := by kernel_rfl
  have s3 : Try.prog.cellsOf 4 = 1 := by kernel_rfl
  have s4 : Try.prog.cellsOf 25 = 1 := by kernel_rfl
  have s5 : Try.prog.cellsOf 52 = 256 := by kernel_rfl
  obtain ⟨a0, a1, a2, a3, tl, rfl, htl⟩ : ∃ a0 a1 a2 a3 tl, cs = a0 :: a1 :: a2 :: a3 :: tl ∧ tl.length = 256 := by
    match cs, hl with
    | a0 :: a1 :: a2 :: a3 :: tl, hl => exact ⟨a0, a1, a2, a3, tl, rfl, by simpa using hl⟩
  have hx : ∀ i, i < 5 → ∃ y, xs[i]? = some y := fun i hi => ⟨xs[i]'(by rw [hxl]; exact hi), List.getElem?_eq_getElem _⟩
  obtain ⟨y0, e0⟩ := hx 0 (by omega)
  obtain ⟨y1, e1⟩ := hx 1 (by omega)
  obtain ⟨y2, e2⟩ := hx 2 (by omega)
  obtain ⟨y3, e3⟩ := hx 3 (by omega)
  obtain ⟨y4, e4⟩ := hx 4 (by omega)
  have g0 := (hf 0 f0 rfl).trans e0
  have g1 := (hf 1 f1 rfl).trans e1
  have g2 := (hf 2 f2 rfl).trans e2
  have g3 := (hf 3 f3 rfl).trans e3
  have g4 := (hf 4 f4 rfl).trans e4
  rw [t0, o0, s1] at g0
  rw [t1, o1, s2] at g1
  rw [t2, o2, s3] at g2
  rw [t3, o3, s4] at g3
  rw [t4, o4, s5] at g4
  simp only [List.drop_zero, List.drop_succ_cons, List.take_succ_cons, List.take_zero] at g0 g1 g2 g3 g4
  obtain ⟨z0, c0, _, w0⟩ := DataW.trod_int Try.underlying5 g0
  obtain ⟨z1, c1, _, w1⟩ := DataW.trod_int Try.underlying42 g1
  obtain ⟨z2, c2, _⟩ := DataW.trod_bool Try.underlying4 g2
  injection c0 with c0 _
  injection c1 with c1 _
  injection c2 with c2 _
  subst c0
  subst c1
  subst c2
  obtain ⟨b0, rfl⟩ := byte_of w0
  have hb1 := bounds_u64 w1
  obtain ⟨m1, rfl⟩ := Int.eq_ofNat_of_zero_le hb1.1
  obtain ⟨A, l, cap, rfl, hs, hc, hcm⟩ := bytes_of g3
  rw [List.take_of_length_le (by omega)] at g4
  obtain ⟨zs, m, _, _, _, hzl, hz⟩ := DataW.trod_array Try.underlying52 g4
  obtain ⟨X, hXl, hX⟩ := list_of (P := fun i (b : UInt8) => tl[i]? = some (.int .u8 (b.toNat : Int))) 256 (fun i hi => by
    have h1 := hz i hi
    rw [s1, Nat.mul_one] at h1
    have h2 : zs[i]? = some (zs[i]'(by omega)) := List.getElem?_eq_getElem _
    rw [h2] at h1
    have h3 : (tl.drop i).take 1 = [tl[i]'(by omega)] := by rw [List.drop_eq_getElem_cons (by omega)]; rfl
    rw [h3] at h1
    obtain ⟨z, hc1, _, wz⟩ := DataW.trod_int Try.underlying5 h1
    injection hc1 with hc1 _
    obtain ⟨b, rfl⟩ := byte_of wz
    exact ⟨b, by rw [List.getElem?_eq_getElem (by omega), hc1]⟩)
  have hcells : tl = cells8 X := by
    apply List.ext_getElem?
    intro i
    rcases Nat.lt_or_ge i 256 with h1 | h1
    · rw [hX i (by omega), cells8_get X i (by omega)]
    · rw [List.getElem?_eq_none (by omega), List.getElem?_eq_none (by rw [cells8_length]; omega)]
  subst hcells
  exact ⟨⟨b0, m1, z2, l, X⟩, A, cap, rfl, hXl, by show m1 < _; omega, hs, hc, hcm⟩

/-- the slice, read -/
theorem vals_of {a : Option Addr} {len cap fuel : Nat} {x : DataW H × List MemPlace} (h : DataW.trod enc Try.prog w base (fun _ => true) held fuel 22 [.slice a len cap] = some x) :
    ∃ vals : List LVal, vals.length = len ∧ len ≤ 9223372036854775807 ∧ VRow w w.heap.size a vals := by
  have s6 : Try.prog.cellsOf 54 = 260 := by kernel_rfl
  rcases open_slice Try.underlying22 h with ⟨hcs, _⟩ | ⟨p, len', cap', m, n, D, Pl, hcs, _, hl, hm, hmm, _, hi⟩
  · injection hcs with hcs _
    injection hcs with h1 h2 h3
    subst h2
    exact ⟨[], rfl, by omega, fun h => absurd h (by simp)⟩
  · injection hcs with hcs _
    injection hcs with h1 h2 h3
    subst h1
    subst h2
    subst h3
    rw [if_pos rfl] at hmm
    subst hmm
    rw [s6] at hi
    obtain ⟨vals, hvl, hv⟩ := list_of (P := fun i (v : LVal) => ∃ cs, LVok w w.heap.size cs v ∧ ∀ (j : Nat) (u : Value), cs[j]? = some u → w.cell? (p.add (i * 260 + j)) = some u) len (fun i hlt => by
      obtain ⟨cs, hc, ht⟩ := hi i (by omega)
      obtain ⟨_, hcl, hat⟩ := World.cells?_some hc
      obtain ⟨v, hv⟩ := val_of hcl ht
      refine ⟨v, cs, hv, fun j u hu => ?_⟩
      have hj : j < cs.length := (List.getElem?_eq_some_iff.1 hu).1
      rw [← addr_twice, hat j (by omega)]
      exact hu)
    refine ⟨vals, hvl, Nat.le_trans hl hm, fun hp => ⟨p, rfl, ?_, hv⟩⟩
    obtain ⟨cs, hok, hc⟩ := hv 0 hp
    have h0 := hc 0 (cs[0]'(by rw [hok.length]; omega)) (List.getElem?_eq_getElem _)
    have := block_lt_of_cell h0
    rwa [addr_block] at this
end

end Go.Proofs.Ythjbchdpnlenjaa
