/- Layer 7: an area's counts as pages. No program is named here. -/
import Derived.Test.YtojbajbghldoeaaMem
import Derived.Lib.Hide
set_option linter.unusedVariables false
namespace Go.Proofs.Ytojbajbghldoeaa
open Go.RowKit

/-- counts, as they lie -/
def nums16 (l : List Nat) : List Value := l.map fun n : Nat => .int .u16 (n : Int)
theorem nums16_length (l : List Nat) : (nums16 l).length = l.length := by simp [nums16]
theorem nums16_append (a b : List Nat) : nums16 (a ++ b) = nums16 a ++ nums16 b := by simp [nums16]
theorem nums16_one (l : List Nat) : ∀ v ∈ nums16 l, v.oneCell' = true := by
  intro v hv
  obtain ⟨x, _, rfl⟩ := List.mem_map.1 hv
  rfl
theorem nums16_get (l : List Nat) (i : Nat) (h : i < l.length) : (nums16 l)[i]? = some (.int .u16 ((l.getD i 0 : Nat) : Int)) := by
  simp [nums16, h]
theorem Shows.num16 {w : World} {B : Nat} {A : Option Addr} {l : List Nat} (h : Shows w B A l.length (nums16 l)) (i : Nat) (hi : i < l.length) : ∃ p : Addr, A = some p ∧ p.block < B ∧ w.cell? (p.add i) = some (.int .u16 ((l.getD i 0 : Nat) : Int)) := by
  obtain ⟨p, u, h1, h2, h3, h4⟩ := h.cell hi
  rw [nums16_get l i hi] at h3
  exact ⟨p, h1, h2, by rw [h4, ← h3]⟩

def pagesN (n : Nat) : Nat := (n + 119) / 120
/-- the counts from a place on, noughts behind the end -/
def rowL (l : List Nat) (a k : Nat) : List Nat := (List.range k).map fun i => l.getD (a + i) 0
theorem rowL_length (l : List Nat) (a k : Nat) : (rowL l a k).length = k := by simp [rowL]
theorem rowL_get (l : List Nat) (a k i : Nat) (h : i < k) : (rowL l a k).getD i 0 = l.getD (a + i) 0 := by simp [rowL, List.getD, h]
theorem rowL_append (l : List Nat) (a m k : Nat) : rowL l a (m + k) = rowL l a m ++ rowL l (a + m) k := by
  simp only [rowL, List.range_add, List.map_append, List.map_map]
  congr 1
  apply List.map_congr_left
  intro i _
  simp [Nat.add_assoc]
theorem getD_ext {a b : List Nat} (hl : a.length = b.length) (h : ∀ i, i < a.length → a.getD i 0 = b.getD i 0) : a = b := by
  apply List.ext_getElem hl
  intro i h1 h2
  have := h i h1
  simpa [List.getD, h1, h2] using this
theorem rowL_in (l : List Nat) (a k : Nat) (h : a + k ≤ l.length) : rowL l a k = (l.drop a).take k := by
  refine getD_ext (by simp [rowL_length]; omega) fun i hi => ?_
  rw [rowL_length] at hi
  rw [rowL_get l a k i hi]
  simp [List.getD, hi]
theorem rowL_out (l : List Nat) (a k : Nat) (h : l.length ≤ a) : rowL l a k = List.replicate k 0 := by
  refine getD_ext (by simp [rowL_length]) fun i hi => ?_
  rw [rowL_length] at hi
  rw [rowL_get l a k i hi]
  simp [List.getD, hi, show ¬ a + i < l.length by omega]
/-- a page of an area -/
def partL (l : List Nat) (ix : Int) : List Nat := if ix < 0 then List.replicate 120 0 else rowL l (ix.toNat * 120) 120
theorem partL_length (l : List Nat) (ix : Int) : (partL l ix).length = 120 := by unfold partL; split <;> simp [rowL_length]
theorem partL_nat (l : List Nat) (k : Nat) : partL l (k : Int) = rowL l (k * 120) 120 := by rw [partL, if_neg (by omega), Int.toNat_natCast]
theorem partL_none (l : List Nat) (ix : Int) (h : ix < 0 ∨ (pagesN l.length : Int) ≤ ix) : partL l ix = List.replicate 120 0 := by
  unfold partL
  split
  · rfl
  · have hp : l.length ≤ pagesN l.length * 120 := by unfold pagesN; omega
    exact rowL_out l _ _ (by omega)
/-- how many counts of an area a page has -/
def cutN (n k : Nat) : Nat := min (n - k * 120) 120
theorem partL_cut (l : List Nat) (k : Nat) (h : k * 120 ≤ l.length) : partL l (k : Int) = (l.drop (k * 120)).take (cutN l.length k) ++ List.replicate (120 - cutN l.length k) 0 := by
  have hc : cutN l.length k ≤ 120 := Nat.min_le_right _ _
  have hc2 : cutN l.length k ≤ l.length - k * 120 := Nat.min_le_left _ _
  rw [partL_nat, ← rowL_in l (k * 120) (cutN l.length k) (by omega)]
  have e := rowL_append l (k * 120) (cutN l.length k) (120 - cutN l.length k)
  rw [show cutN l.length k + (120 - cutN l.length k) = 120 by omega] at e
  rw [e]
  congr 1
  rcases Nat.lt_or_ge (cutN l.length k) 120 with h1 | h1
  · have : cutN l.length k = l.length - k * 120 := by unfold cutN at *; omega
    exact rowL_out l _ _ (by omega)
  · rw [show 120 - cutN l.length k = 0 by omega]; rfl
/-- all pages up to one -/
def pagesL (l : List Nat) (m : Nat) : List (List Nat) := (List.range m).map fun k : Nat => partL l (k : Int)
theorem pagesL_length (l : List Nat) (m : Nat) : (pagesL l m).length = m := by simp [pagesL]
theorem pagesL_succ (l : List Nat) (m : Nat) : pagesL l (m + 1) = pagesL l m ++ [partL l (m : Int)] := by simp [pagesL, List.range_succ]
theorem pagesL_120 (l : List Nat) (m : Nat) : ∀ p ∈ pagesL l m, p.length = 120 := by
  intro p hp
  obtain ⟨k, _, rfl⟩ := List.mem_map.1 hp
  exact partL_length _ _
theorem pagesL_flat (l : List Nat) : ∀ m, (pagesL l m).flatten = rowL l 0 (m * 120)
  | 0 => by simp [pagesL, rowL]
  | m + 1 => by
    rw [pagesL_succ, List.flatten_append, pagesL_flat l m, show (m + 1) * 120 = m * 120 + 120 by omega, rowL_append, List.flatten_singleton, partL_nat]
    simp
theorem rowL_all (l : List Nat) (k : Nat) (h : l.length ≤ k) : rowL l 0 k = l ++ List.replicate (k - l.length) 0 := by
  have e := rowL_append l 0 l.length (k - l.length)
  rw [show l.length + (k - l.length) = k by omega] at e
  rw [e, rowL_in l 0 l.length (by omega), rowL_out l (0 + l.length) _ (by omega)]
  simp
theorem pages_cover (n : Nat) : n ≤ pagesN n * 120 := by unfold pagesN; omega
/-- a flat row of 120s, one count of one of them another -/
theorem flat_len : ∀ (L : List (List Nat)), (∀ p ∈ L, p.length = 120) → L.flatten.length = L.length * 120
  | [], _ => rfl
  | p :: L, h => by
    rw [List.flatten_cons, List.length_append, flat_len L (fun q hq => h q (List.mem_cons_of_mem _ hq)), h p (List.mem_cons_self ..), List.length_cons]
    omega
theorem flat_set : ∀ (L : List (List Nat)) (i j x : Nat), (∀ p ∈ L, p.length = 120) → i < L.length → j < 120 → (L.set i ((L.getD i []).set j x)).flatten = L.flatten.set (i * 120 + j) x
  | [], i, j, x, _, hi, _ => absurd hi (by simp)
  | p :: L, 0, j, x, h, _, hj => by
    have hp := h p (List.mem_cons_self ..)
    simp only [List.getD_cons_zero, List.set_cons_zero, List.flatten_cons, Nat.zero_mul, Nat.zero_add]
    rw [List.set_append_left _ _ (by omega)]
  | p :: L, i + 1, j, x, h, hi, hj => by
    have hp := h p (List.mem_cons_self ..)
    simp only [List.getD_cons_succ, List.set_cons_succ, List.flatten_cons]
    rw [flat_set L i j x (fun q hq => h q (List.mem_cons_of_mem _ hq)) (by simpa using hi) hj, List.set_append_right _ _ (by omega), hp]
    congr 2
    omega
theorem flat_get : ∀ (L : List (List Nat)) (i j : Nat), (∀ p ∈ L, p.length = 120) → i < L.length → j < 120 → L.flatten.getD (i * 120 + j) 0 = (L.getD i []).getD j 0
  | [], i, j, _, hi, _ => absurd hi (by simp)
  | p :: L, 0, j, h, _, hj => by
    have hp := h p (List.mem_cons_self ..)
    simp only [List.getD_cons_zero, List.flatten_cons, Nat.zero_mul, Nat.zero_add]
    simp [List.getD, List.getElem?_append_left (show j < p.length by omega)]
  | p :: L, i + 1, j, h, hi, hj => by
    have hp := h p (List.mem_cons_self ..)
    simp only [List.getD_cons_succ, List.flatten_cons]
    rw [← flat_get L i j (fun q hq => h q (List.mem_cons_of_mem _ hq)) (by simpa using hi) hj]
    simp only [List.getD]
    rw [List.getElem?_append_right (by omega), hp, show (i + 1) * 120 + j - 120 = i * 120 + j by omega]
/-- is there a count behind the end? -/
def anyN (l : List Nat) : Bool := l.any fun x => decide (x ≠ 0)
theorem anyN_zero (k : Nat) : anyN (List.replicate k 0) = false := by simp [anyN]
theorem anyN_mem {l : List Nat} {i : Nat} (hi : i < l.length) (h : l.getD i 0 ≠ 0) : anyN l = true := by
  unfold anyN
  rw [List.any_eq_true]
  exact ⟨l[i], List.getElem_mem hi, by simpa [List.getD, hi] using h⟩
end Go.Proofs.Ytojbajbghldoeaa
