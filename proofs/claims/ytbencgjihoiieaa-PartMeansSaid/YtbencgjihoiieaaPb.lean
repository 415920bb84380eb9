/- Bytes of sectors, of parts, of blocks: no program is named here. -/
import Derived.Test.YtbencgjihoiieaaPa
set_option linter.unusedVariables false
namespace Go.Proofs.Ytbencgjihoiieaa
open Go.RowKit

/-- the bytes of some sectors -/
def cutD (d : List UInt8) (lo hi : Nat) : List UInt8 := (d.drop (64 * lo)).take (64 * (hi - lo))
theorem cutD_length (d : List UInt8) (lo hi : Nat) (h : 64 * hi ≤ d.length) : (cutD d lo hi).length = 64 * (hi - lo) := by
  unfold cutD; rw [List.length_take, List.length_drop]; omega
theorem cutD_none (d : List UInt8) (lo hi : Nat) (h : hi ≤ lo) : cutD d lo hi = [] := by
  unfold cutD; rw [show hi - lo = 0 by omega]; simp
theorem cutD_join (d : List UInt8) (lo m hi : Nat) (h1 : lo ≤ m) (h2 : m ≤ hi) : cutD d lo hi = cutD d lo m ++ cutD d m hi := by
  unfold cutD
  rw [show 64 * (hi - lo) = 64 * (m - lo) + 64 * (hi - m) by omega, List.take_add, List.drop_drop, show 64 * lo + 64 * (m - lo) = 64 * m by omega]
theorem cutD_all (d : List UInt8) (c : Nat) (h : d.length = 64 * c) : cutD d 0 c = d := by
  unfold cutD; rw [Nat.mul_zero, List.drop_zero, List.take_of_length_le (by omega)]

/-- is it a part of a block? -/
def okS (s : SP) : Bool := decide (0 ≤ s.f ∧ s.t ≤ 4 ∧ s.f < s.t)
/-- may it be asked for? -/
def okD (s : SP) (at_ : Int) : Bool := okS s && decide (0 ≤ s.b ∧ s.b ≤ 268435456 ∧ 0 ≤ at_ ∧ at_ ≤ 1073741824)
def loD (s : SP) (at_ : Int) : Nat := (max (4 * s.b + s.f - at_) 0).toNat
def hiD (s : SP) (at_ k : Int) (n : Nat) : Nat := (min (4 * s.b + k - at_) ((n / 64 : Nat) : Int)).toNat
def toD (s : SP) (at_ : Int) (d : List UInt8) (k : Int) : List UInt8 := cutD d (loD s at_) (hiD s at_ k d.length)
def dataL (s : SP) (at_ : Int) (d : List UInt8) : List UInt8 := match okD s at_ with
  | true => toD s at_ d s.t
  | false => []
theorem toD_start (s : SP) (at_ : Int) (d : List UInt8) : toD s at_ d s.f = [] := by
  unfold toD loD hiD
  exact cutD_none _ _ _ (by omega)
theorem toD_skip (s : SP) (at_ : Int) (d : List UInt8) (k : Int) (h : 4 * s.b + k - at_ < 0 ∨ ((d.length / 64 : Nat) : Int) ≤ 4 * s.b + k - at_) : toD s at_ d (k + 1) = toD s at_ d k := by
  unfold toD
  congr 1
  unfold hiD
  omega
theorem toD_more (s : SP) (at_ : Int) (d : List UInt8) (k : Int) (n : Nat) (hk : s.f ≤ k) (hn : 4 * s.b + k - at_ = (n : Int)) (h : n < d.length / 64) : toD s at_ d (k + 1) = toD s at_ d k ++ cutD d n (n + 1) := by
  unfold toD loD hiD
  have e1 : (min (4 * s.b + k - at_) ((d.length / 64 : Nat) : Int)).toNat = n := by omega
  have e2 : (min (4 * s.b + (k + 1) - at_) ((d.length / 64 : Nat) : Int)).toNat = n + 1 := by omega
  rw [e1, e2]
  exact cutD_join d _ n (n + 1) (by omega) (by omega)
theorem toD_length (s : SP) (at_ : Int) (d : List UInt8) (k : Int) : (toD s at_ d k).length ≤ d.length := by
  unfold toD cutD; rw [List.length_take, List.length_drop]; omega
theorem dataL_length (s : SP) (at_ : Int) (d : List UInt8) : (dataL s at_ d).length ≤ d.length := by
  unfold dataL
  split
  · exact toD_length _ _ _ _
  · simp

/-- the data of a row's part -/
theorem dataL_part (a c i : Nat) (d : List UInt8) (ha : a ≤ 1048576) (hd : d.length = 64 * c) (hc : c ≤ 40) (h : i < nB a c) : dataL (partI a c i) (a : Int) d = cutD d (doneI a c i).toNat (doneI a c (i + 1)).toNat := by
  have hb := part_bounds a c i h
  have hn := nB_le a c
  have e : okD (partI a c i) (a : Int) = true := by
    unfold okD okS
    have : (partI a c i).b = ((a / 4 + i : Nat) : Int) := rfl
    simp only [Bool.and_eq_true, decide_eq_true_eq]
    omega
  unfold dataL
  rw [e]
  show toD _ _ _ _ = _
  unfold toD
  have e1 : loD (partI a c i) (a : Int) = (doneI a c i).toNat := by
    rw [done_ahead a c i h]
    unfold nB at h
    split at h
    · omega
    · unfold loD; simp only [partI, aheadI]; omega
  have e2 : hiD (partI a c i) (a : Int) (partI a c i).t d.length = (doneI a c (i + 1)).toNat := by
    unfold nB at h
    split at h
    · omega
    · unfold hiD; simp only [partI, aheadI, doneI]; omega
  rw [e1, e2]
theorem part_size (a c i : Nat) (h : i < nB a c) : (doneI a c (i + 1)).toNat - (doneI a c i).toNat = ((partI a c i).t - (partI a c i).f).toNat ∧ (doneI a c i).toNat ≤ (doneI a c (i + 1)).toNat := by
  have h1 := done_next a c i h
  have h2 := done_bounds a c i
  have h3 := done_bounds a c (i + 1)
  have h4 := part_bounds a c i h
  omega

/-- a block with data from a sector of it on -/
def mergeL (b : List UInt8) (f : Nat) (d : List UInt8) : List UInt8 := b.take (64 * f) ++ d ++ b.drop (64 * f + d.length)
theorem mergeL_length (b : List UInt8) (f : Nat) (d : List UInt8) (hb : b.length = 256) (h : 64 * f + d.length ≤ 256) : (mergeL b f d).length = 256 := by
  unfold mergeL; simp; omega
theorem merge_cut (b : List UInt8) (f t : Nat) (d : List UInt8) (hb : b.length = 256) (hf : f ≤ t) (ht : t ≤ 4) (hd : d.length = 64 * (t - f)) : cutD (mergeL b f d) f t = d := by
  unfold cutD mergeL
  rw [List.append_assoc, List.drop_append, List.take_append]
  have e1 : (b.take (64 * f)).length = 64 * f := by rw [List.length_take]; omega
  rw [e1, List.drop_eq_nil_of_le (by omega)]
  simp [hd]
theorem merge_back (b : List UInt8) (f t : Nat) (d : List UInt8) (hb : b.length = 256) (hf : f ≤ t) (ht : t ≤ 4) (hd : d.length = 64 * (t - f)) : mergeL (mergeL b f d) f (cutD b f t) = b := by
  have hc : (cutD b f t).length = 64 * (t - f) := cutD_length b f t (by omega)
  have e1 : (b.take (64 * f)).length = 64 * f := by rw [List.length_take]; omega
  have e2 : (mergeL b f d).take (64 * f) = b.take (64 * f) := by
    unfold mergeL
    rw [List.append_assoc, List.take_append_of_le_length (by omega), List.take_of_length_le (by omega)]
  have e3 : (mergeL b f d).drop (64 * f + 64 * (t - f)) = b.drop (64 * f + 64 * (t - f)) := by
    unfold mergeL
    have : 64 * f + 64 * (t - f) = (b.take (64 * f) ++ d).length := by rw [List.length_append, e1, hd]
    rw [hd, this, List.drop_left]
  rw [mergeL, e2, hc, e3, cutD, List.append_assoc, show b.drop (64 * f + 64 * (t - f)) = (b.drop (64 * f)).drop (64 * (t - f)) by rw [List.drop_drop], List.take_append_drop, List.take_append_drop]
end Go.Proofs.Ytbencgjihoiieaa
