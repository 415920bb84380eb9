/- Same: the program's, the document's. -/
import Derived.Test.YtnddkpemoljhoaaGreatDoorBd
set_option linter.unusedVariables false
namespace Go.Proofs.YtnddkpemoljhoaaGreatDoor
open Go.RowKit

/-- the first so many are the same -/
def eqTo (a b : List Nat) : Nat → Bool
  | 0 => true
  | k + 1 => eqTo a b k && (a.getD k 0 == b.getD k 0)
theorem eqTo_iff (a b : List Nat) : ∀ k, eqTo a b k = true ↔ ∀ i, i < k → a.getD i 0 = b.getD i 0
  | 0 => by simp [eqTo]
  | k + 1 => by
    rw [eqTo, Bool.and_eq_true, eqTo_iff a b k, beq_iff_eq]
    constructor
    · intro ⟨h1, h2⟩ i hi
      rcases Nat.lt_or_ge i k with h | h
      · exact h1 i h
      · obtain rfl : i = k := by omega
        exact h2
    · intro h
      exact ⟨fun i hi => h i (by omega), h k (by omega)⟩
theorem eqTo_list {a b : List Nat} (hl : a.length = b.length) : eqTo a b a.length = decide (a = b) := by
  rw [Bool.eq_iff_iff, eqTo_iff, decide_eq_true_iff]
  constructor
  · intro h; exact list_of_getD hl h
  · intro h; subst h; intro i _; rfl
theorem eqTo_no (a b : List Nat) (k : Nat) (h : eqTo a b k = false) : ∀ m, k ≤ m → eqTo a b m = false
  | 0, hm => by
    obtain rfl : k = 0 := by omega
    exact h
  | m + 1, hm => by
    rcases Nat.lt_or_ge k (m + 1) with h1 | h1
    · rw [eqTo, eqTo_no a b k h m (by omega)]; rfl
    · obtain rfl : k = m + 1 := by omega
      exact h

def sameND (a b : ND) : Bool := decide (a.kind = b.kind) && (decide (a.birth = b.birth) && (decide (a.keys = b.keys) && decide (a.vals = b.vals)))
theorem sameND_iff (a b : ND) : sameND a b = true ↔ a = b := by
  obtain ⟨k1, b1, x1, y1⟩ := a
  obtain ⟨k2, b2, x2, y2⟩ := b
  simp [sameND]
theorem sameND_eq (a b : ND) : sameND a b = decide (a = b) := by
  rw [Bool.eq_iff_iff, sameND_iff, decide_eq_true_iff]

end Go.Proofs.YtnddkpemoljhoaaGreatDoor
