/- Layer 7: a page's block, an area's pages. No program is named here. -/
import Derived.Test.YtojbajbghldoeaaDoorBa
set_option linter.unusedVariables false
namespace Go.Proofs.YtojbajbghldoeaaDoor

/-- the counts' bytes, i of them -/
def cntB (l : List Nat) : Nat → List UInt8
  | 0 => []
  | i + 1 => cntB l i ++ leN 2 (l.getD i 0)
theorem cntB_length (l : List Nat) : ∀ i, (cntB l i).length = 2 * i
  | 0 => rfl
  | i + 1 => by rw [cntB, List.length_append, cntB_length l i, leN_length]; omega
def headP (no ix : Nat) : List UInt8 := 80 :: 71 :: UInt8.ofNat ix :: 0 :: (leN 4 no ++ [0, 0, 0, 0])
theorem headP_length (no ix : Nat) : (headP no ix).length = 12 := by simp [headP, leN_length]
/-- a page's block -/
def imgP (no ix : Nat) (l : List Nat) : List UInt8 := summed (padB (headP no ix ++ cntB l l.length))
theorem bodyP_length (no ix : Nat) (l : List Nat) (i : Nat) : (headP no ix ++ cntB l i).length = 12 + 2 * i := by rw [List.length_append, headP_length, cntB_length]
theorem imgP_length (no ix : Nat) (l : List Nat) (h : l.length ≤ 120) : (imgP no ix l).length = 256 := by
  rw [imgP, summed_length, padB_length _ (by rw [bodyP_length]; omega)]
/-- the i-th count of a block -/
def cntAt (l : List UInt8) (i : Nat) : Nat := numN ((l.drop (16 + 2 * i)).take 2)
theorem cntAt_lt (l : List UInt8) (i : Nat) : cntAt l i < 65536 := by
  have h := numN_lt ((l.drop (16 + 2 * i)).take 2)
  have h2 : ((l.drop (16 + 2 * i)).take 2).length ≤ 2 := by simp; omega
  have h3 : (256 : Nat) ^ ((l.drop (16 + 2 * i)).take 2).length ≤ 256 ^ 2 := Nat.pow_le_pow_right (by omega) h2
  unfold cntAt
  omega
def cntOf (l : List UInt8) : Nat → List Nat
  | 0 => []
  | i + 1 => cntOf l i ++ [cntAt l i]
theorem cntOf_length (l : List UInt8) : ∀ i, (cntOf l i).length = i
  | 0 => rfl
  | i + 1 => by simp [cntOf, cntOf_length l i]
theorem cntOf_lt (l : List UInt8) : ∀ i, ∀ k ∈ cntOf l i, k < 65536
  | 0, k, h => by simp [cntOf] at h
  | i + 1, k, h => by
    rw [cntOf, List.mem_append, List.mem_singleton] at h
    rcases h with h | rfl
    · exact cntOf_lt l i k h
    · exact cntAt_lt l i
/-- so many counts read, noughts behind -/
def cntTo (l : List UInt8) (i : Nat) : List Nat := cntOf l i ++ List.replicate (120 - i) 0
theorem cntTo_length (l : List UInt8) (i : Nat) (h : i ≤ 120) : (cntTo l i).length = 120 := by simp [cntTo, cntOf_length]; omega
theorem cntTo_set (l : List UInt8) (i : Nat) (h : i < 120) : (cntTo l i).set i (cntAt l i) = cntTo l (i + 1) := by
  have e : List.replicate (120 - i) 0 = 0 :: List.replicate (120 - (i + 1)) 0 := by
    rw [show 120 - i = (120 - (i + 1)) + 1 by omega, List.replicate_succ]
  rw [cntTo, e, List.set_append_right _ _ (by rw [cntOf_length]; omega), cntOf_length, Nat.sub_self, List.set_cons_zero, cntTo, cntOf, List.append_assoc]
  rfl
theorem cntTo_all (l : List UInt8) : cntTo l 120 = cntOf l 120 := by simp [cntTo]
end Go.Proofs.YtojbajbghldoeaaDoor
