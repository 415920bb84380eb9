/- Parts of a row of sectors, as numbers: no program is named here. -/
import Derived.WalkKit
set_option linter.unusedVariables false
namespace Go.Proofs.Ytbencgjihoiieaa
open Go.RowKit

/-- a part: the block, from where, to where -/
structure SP where
  b : Int
  f : Int
  t : Int
def SP.v (s : SP) : Value := .agg #[.int .i64 s.b, .int .i64 s.f, .int .i64 s.t]
def SP.cs (s : SP) : List Value := [.int .i64 s.b, .int .i64 s.f, .int .i64 s.t]
def cells3 : List SP → List Value
  | [] => []
  | s :: l => s.cs ++ cells3 l
theorem cells3_append (l m : List SP) : cells3 (l ++ m) = cells3 l ++ cells3 m := by
  induction l with
  | nil => rfl
  | cons s l ih => simp [cells3, ih]
theorem cells3_length (l : List SP) : (cells3 l).length = l.length * 3 := by
  induction l with
  | nil => rfl
  | cons s l ih => simp [cells3, SP.cs, ih]; omega
theorem cells3_get (l : List SP) : ∀ (i j : Nat) (s : SP), j < 3 → l[i]? = some s → (cells3 l)[i * 3 + j]? = s.cs[j]? := by
  induction l with
  | nil => intro i j s _ h; simp at h
  | cons x l ih =>
    intro i j s hj h
    cases i with
    | zero =>
      simp at h
      subst h
      rw [cells3, List.getElem?_append_left (by simp [SP.cs]; omega)]
      simp
    | succ i =>
      simp at h
      have := ih i j s hj h
      rw [cells3, List.getElem?_append_right (by simp [SP.cs]; omega), ← this]
      congr 1
      simp [SP.cs]
      omega

/-- how many parts a row has, and each -/
def nB (a c : Nat) : Nat := if c = 0 then 0 else (a + c - 1) / 4 - a / 4 + 1
def partI (a c i : Nat) : SP := ⟨((a / 4 + i : Nat) : Int), max ((a : Int) - 4 * ((a / 4 + i : Nat) : Int)) 0, min ((a : Int) + (c : Int) - 4 * ((a / 4 + i : Nat) : Int)) 4⟩
def aheadI (a i : Nat) : Int := max (4 * ((a / 4 + i : Nat) : Int) - (a : Int)) 0
def partsL (a c : Nat) : List SP := (List.range (nB a c)).map (partI a c)
def overL (a c : Nat) : List (Int × SP) := (List.range (nB a c)).map fun i => (aheadI a i, partI a c i)
theorem partsL_length (a c : Nat) : (partsL a c).length = nB a c := by simp [partsL]
theorem overL_length (a c : Nat) : (overL a c).length = nB a c := by simp [overL]
theorem partsL_get (a c i : Nat) (h : i < nB a c) : (partsL a c)[i]? = some (partI a c i) := by simp [partsL, h]
theorem overL_get (a c i : Nat) (h : i < nB a c) : (overL a c)[i]? = some (aheadI a i, partI a c i) := by simp [overL, h]
theorem overL_snd (a c : Nat) : (overL a c).map (·.2) = partsL a c := by simp [overL, partsL, Function.comp_def]
theorem nB_le (a c : Nat) : nB a c ≤ c := by unfold nB; split <;> omega
theorem nB_pos (a c : Nat) (h : 0 < c) : 0 < nB a c := by unfold nB; split <;> omega
theorem part_b (a c i : Nat) : (partI a c i).b = ((a / 4 + i : Nat) : Int) := rfl
theorem part_bounds (a c i : Nat) (h : i < nB a c) : 0 ≤ (partI a c i).f ∧ (partI a c i).f < (partI a c i).t ∧ (partI a c i).t ≤ 4 := by
  unfold nB at h
  split at h
  · omega
  · simp only [partI]; omega
/-- how many sectors stand ahead of a part: what the parts ahead of it have -/
def doneI (a c i : Nat) : Int := min (aheadI a i) (c : Int)
theorem done_zero (a c : Nat) : doneI a c 0 = 0 := by simp only [doneI, aheadI]; omega
theorem done_ahead (a c i : Nat) (h : i < nB a c) : doneI a c i = aheadI a i := by
  unfold nB at h
  split at h
  · omega
  · simp only [doneI, aheadI]; omega
theorem done_next (a c i : Nat) (h : i < nB a c) : doneI a c (i + 1) = doneI a c i + (partI a c i).t - (partI a c i).f := by
  unfold nB at h
  split at h
  · omega
  · simp only [doneI, aheadI, partI]; omega
theorem done_all (a c : Nat) : doneI a c (nB a c) = c := by
  unfold nB
  split
  · subst_vars; simp only [doneI, aheadI]; omega
  · simp only [doneI, aheadI]; omega
theorem done_bounds (a c i : Nat) : 0 ≤ doneI a c i ∧ doneI a c i ≤ c := by simp only [doneI, aheadI]; omega
/-- whole: all but the first and the last one -/
theorem part_whole (a c i : Nat) (h0 : 0 < i) (h : i + 1 < nB a c) : (partI a c i).f = 0 ∧ (partI a c i).t = 4 := by
  unfold nB at h
  split at h
  · omega
  · simp only [partI]; omega

/-- a row of one sector more -/
theorem parts_zero (a : Nat) : partsL a 0 = [] := rfl
theorem SP.same {s u : SP} (hb : s.b = u.b) (hf : s.f = u.f) (ht : s.t = u.t) : s = u := by cases s; cases u; simp_all
theorem parts_first (a : Nat) : partsL a 1 = [⟨((a / 4 : Nat) : Int), ((a % 4 : Nat) : Int), ((a % 4 : Nat) : Int) + 1⟩] := by
  have e : nB a 1 = 1 := by simp [nB]
  rw [partsL, e]
  show [partI a 1 0] = _
  congr 1
  apply SP.same <;> simp only [partI] <;> omega
theorem parts_new (a k : Nat) (hk : 0 < k) (h : (a + k) % 4 = 0) : partsL a (k + 1) = partsL a k ++ [⟨(((a + k) / 4 : Nat) : Int), (((a + k) % 4 : Nat) : Int), (((a + k) % 4 : Nat) : Int) + 1⟩] := by
  have e : nB a (k + 1) = nB a k + 1 := by unfold nB; rw [if_neg (by omega), if_neg (by omega)]; omega
  have e2 : nB a k = (a + k) / 4 - a / 4 := by unfold nB; rw [if_neg (by omega)]; omega
  rw [partsL, partsL, e, List.range_succ, List.map_append]
  congr 1
  · refine List.map_congr_left fun i hi => ?_
    have hi := List.mem_range.1 hi
    apply SP.same <;> simp only [partI] <;> omega
  · simp only [List.map_cons, List.map_nil]
    congr 1
    apply SP.same <;> simp only [partI] <;> omega
theorem parts_last (a k : Nat) (hk : 0 < k) : ∃ init f t, init.length + 1 = nB a k ∧ partsL a k = init ++ [⟨(((a + k - 1) / 4 : Nat) : Int), f, t⟩] := by
  obtain ⟨m, hm⟩ : ∃ m, nB a k = m + 1 := ⟨nB a k - 1, by have := nB_pos a k hk; omega⟩
  refine ⟨(List.range m).map (partI a k), (partI a k m).f, (partI a k m).t, by simp [hm], ?_⟩
  rw [partsL, hm, List.range_succ, List.map_append]
  congr 1
  simp only [List.map_cons, List.map_nil]
  congr 1
  have e2 : m + 1 = (a + k - 1) / 4 - a / 4 + 1 := by rw [← hm]; unfold nB; rw [if_neg (by omega)]
  apply SP.same
  · simp only [partI]; omega
  · rfl
  · rfl
theorem parts_old (a k : Nat) (hk : 0 < k) (h : (a + k) % 4 ≠ 0) : ∃ init f t, init.length + 1 = nB a k ∧ partsL a k = init ++ [⟨(((a + k) / 4 : Nat) : Int), f, t⟩] ∧ partsL a (k + 1) = init ++ [⟨(((a + k) / 4 : Nat) : Int), f, (((a + k) % 4 : Nat) : Int) + 1⟩] := by
  obtain ⟨m, hm⟩ : ∃ m, nB a k = m + 1 := ⟨nB a k - 1, by have := nB_pos a k hk; omega⟩
  have e2 : m + 1 = (a + k - 1) / 4 - a / 4 + 1 := by rw [← hm]; unfold nB; rw [if_neg (by omega)]
  have e : nB a (k + 1) = m + 1 := by unfold nB; rw [if_neg (by omega)]; omega
  refine ⟨(List.range m).map (partI a k), (partI a k m).f, (partI a k m).t, by simp [hm], ?_, ?_⟩
  · rw [partsL, hm, List.range_succ, List.map_append]
    congr 1
    simp only [List.map_cons, List.map_nil]
    congr 1
    apply SP.same
    · simp only [partI]; omega
    · rfl
    · rfl
  · rw [partsL, e, List.range_succ, List.map_append]
    congr 1
    · refine List.map_congr_left fun i hi => ?_
      have hi := List.mem_range.1 hi
      apply SP.same <;> simp only [partI] <;> omega
    · simp only [List.map_cons, List.map_nil]
      congr 1
      apply SP.same <;> simp only [partI] <;> omega

/-- a row, of any numbers -/
def badRow (at_ count : Int) : Bool := decide (at_ < 0 ∨ count < 1 ∨ 1073741824 - at_ < count)
def rowN (at_ count : Int) : Nat := match badRow at_ count with
  | true => 0
  | false => nB at_.toNat count.toNat
def rowL (at_ count : Int) : List SP := match badRow at_ count with
  | true => []
  | false => partsL at_.toNat count.toNat
theorem rowL_length (x y : Int) : (rowL x y).length = rowN x y := by
  unfold rowL rowN
  split
  · rfl
  · exact partsL_length _ _
theorem row_good (a c : Nat) (hc : 0 < c) (h : a + c ≤ 1073741824) : badRow (a : Int) (c : Int) = false := by unfold badRow; simp; omega
theorem rowL_good (a c : Nat) (hc : 0 < c) (h : a + c ≤ 1073741824) : rowL (a : Int) (c : Int) = partsL a c := by
  unfold rowL; rw [row_good a c hc h]; rfl
theorem row_cases (x y : Int) : (badRow x y = true) ∨ ∃ a c : Nat, x = (a : Int) ∧ y = (c : Int) ∧ 0 < c ∧ a + c ≤ 1073741824 := by
  by_cases h : x < 0 ∨ y < 1 ∨ 1073741824 - x < y
  · exact .inl (by unfold badRow; simp; omega)
  · refine .inr ⟨x.toNat, y.toNat, ?_, ?_, ?_, ?_⟩ <;> omega
end Go.Proofs.Ytbencgjihoiieaa
