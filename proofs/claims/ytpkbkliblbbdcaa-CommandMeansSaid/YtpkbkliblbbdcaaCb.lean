/- Which operations may be: the program's way and the document's are one. No program is named here. -/
import Derived.Test.YtpkbkliblbbdcaaCa
namespace Go.Proofs.Ytpkbkliblbbdcaa
open Go.RowKit
set_option maxRecDepth 20000

def hasL (k : Int) (c : UInt8) : Bool := match namesL k with
  | none => false
  | some l => l.contains c
def inB (named : Bool) (least n most : Int) : Bool := if named = false then decide (n = 0) else decide (least ≤ n) && decide (n ≤ most)

/-- the document's table -/
def rmayB (o : OP) : Bool :=
  (decide (1 ≤ o.k) && decide (o.k ≤ 9) && decide (o.v ≤ 4294967295) && decide (o.t ≤ 4294967295)) &&
  (inB (hasL o.k 86) 1 (o.v : Int) 4294967295 && inB (hasL o.k 84) 1 (o.t : Int) 4294967295 && !(hasL o.k 84 && decide (o.t = o.v))) &&
  (inB (hasL o.k 83) 0 o.s 256 && inB (hasL o.k 65) 0 o.a 1048576 && inB (hasL o.k 67) 1 o.c 1024) &&
  (decide (o.d.length % 64 = 0) && inB (hasL o.k 68) 1 ((o.d.length / 64 : Nat) : Int) 32)

theorem toI_toNat (z : Int) (h0 : 0 ≤ z) (h1 : z < 9223372036854775808) : toI z.toNat = z := by
  rw [toI_nat _ (by omega)]
  omega

theorem la_vs (o : OP) (k : Int) : laidAll o (zeroO k) [86, 83] = ⟨k, o.v, 0, toI o.s.toNat, 0, 0, []⟩ := by rfl
theorem la_v (o : OP) (k : Int) : laidAll o (zeroO k) [86] = ⟨k, o.v, 0, 0, 0, 0, []⟩ := by rfl
theorem la_vt (o : OP) (k : Int) : laidAll o (zeroO k) [86, 84] = ⟨k, o.v, o.t, 0, 0, 0, []⟩ := by rfl
theorem la_vad (o : OP) (k : Int) : laidAll o (zeroO k) [86, 65, 68] = ⟨k, o.v, 0, 0, toI o.a.toNat, 0, o.d⟩ := by rfl
theorem la_vac (o : OP) (k : Int) : laidAll o (zeroO k) [86, 65, 67] = ⟨k, o.v, 0, 0, toI o.a.toNat, toI o.c.toNat, []⟩ := by rfl
theorem la_ (o : OP) (k : Int) : laidAll o (zeroO k) [] = ⟨k, 0, 0, 0, 0, 0, []⟩ := by rfl

theorem n1 : namesL 1 = some [86, 83] := by rfl
theorem n2 : namesL 2 = some [86] := by rfl
theorem n3 : namesL 3 = some [86, 83] := by rfl
theorem n4 : namesL 4 = some [86, 84] := by rfl
theorem n5 : namesL 5 = some [86, 65, 68] := by rfl
theorem n6 : namesL 6 = some [86, 65, 67] := by rfl
theorem n7 : namesL 7 = some [86, 65, 67] := by rfl
theorem n8 : namesL 8 = some [] := by rfl
theorem n9 : namesL 9 = some [86, 65, 67] := by rfl

set_option maxHeartbeats 4000000 in
theorem may_same (o : OP) (_hf : o.fit) : mayO o = rmayB o := by
  obtain ⟨k, v, t, s, a, c, d⟩ := o
  rcases namesL_cases k with ⟨h, h2⟩ | h
  · have e1 : mayO ⟨k, v, t, s, a, c, d⟩ = false := by simp only [mayO, h]
    have e2 : rmayB ⟨k, v, t, s, a, c, d⟩ = false := by
      have e3 : (decide (1 ≤ k) && decide (k ≤ 9)) = false := by
        rw [Bool.and_eq_false_iff, decide_eq_false_iff_not, decide_eq_false_iff_not]
        omega
      unfold rmayB
      show ((decide (1 ≤ k) && decide (k ≤ 9)) && _ && _ && _ && _ && _) = false
      rw [e3]
      rfl
    rw [e1, e2]
  · have hdn : d = [] ↔ d.length = 0 := ⟨fun h => by rw [h]; rfl, List.eq_nil_of_length_eq_zero⟩
    have tt : ∀ z : Int, toI z.toNat = z ∨ ¬ (0 ≤ z ∧ z < 9223372036854775808) := fun z => by
      by_cases h : 0 ≤ z ∧ z < 9223372036854775808
      · exact .inl (toI_toNat z h.1 h.2)
      · exact .inr h
    have hs := tt s
    have ha := tt a
    have hc := tt c
    rw [Bool.eq_iff_iff]
    rcases h with rfl | rfl | rfl | rfl | rfl | rfl | rfl | rfl | rfl
    all_goals
      simp only [mayO, rmayB, hasL, n1, n2, n3, n4, n5, n6, n7, n8, n9, la_vs, la_v, la_vt, la_vad, la_vac, la_]
      simp only [bnd, inB, secB]
      simp
    all_goals generalize toI s.toNat = s' at *
    all_goals generalize toI a.toNat = a' at *
    all_goals generalize toI c.toNat = c' at *
    all_goals try simp only [hdn]
    all_goals constructor <;> (intro h; omega)

end Go.Proofs.Ytpkbkliblbbdcaa
