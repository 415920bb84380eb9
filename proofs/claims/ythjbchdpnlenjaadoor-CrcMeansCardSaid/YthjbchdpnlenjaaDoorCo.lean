/- Lists and memory for the law CrcMeans: four bytes turned within a row. -/
import Derived.Test.YthjbchdpnlenjaaDoorCl
namespace Go.Proofs.YthjbchdpnlenjaaDoor
open Go.RowKit

/-- a cell of a row of the call's own is stored -/
theorem own_set {w : World} {base n g cap : Nat} {e : TypeId} {xs : List Value} (h : w.ownsRow base e 1 (.slice (some ⟨g, 0, none⟩) n cap) n xs) (k : Nat) (u : Value) :
    (w.setCell ⟨g, k, none⟩ u).ownsRow base e 1 (.slice (some ⟨g, 0, none⟩) n cap) n (xs.set k u) := by
  refine ⟨by rw [List.length_set]; exact h.1, ?_⟩
  rcases h.2 with ⟨hv, _⟩ | ⟨g', cap', cur, hv, hg, hh, hnc, hcm, hcs, ht⟩
  · cases hv
  · injection hv with h1 h2 h3
    injection h1 with h1
    injection h1 with h1
    subst h1
    subst h3
    refine .inr ⟨g, cap, cur.setIfInBounds k u, rfl, hg, Joins.block_setCell hh u, hnc, hcm, by rw [Array.size_setIfInBounds]; exact hcs, ?_⟩
    rw [Array.toList_setIfInBounds, List.take_set, ht]
theorem own_cell {w : World} {base n g cap : Nat} {e : TypeId} {xs : List Value} (h : w.ownsRow base e 1 (.slice (some ⟨g, 0, none⟩) n cap) n xs) (k : Nat) (u : Value) (hu : xs[k]? = some u) :
    w.cell? ⟨g, k, none⟩ = some u ∧ w.frozen? ⟨g, k, none⟩ = false := by
  rcases h.2 with ⟨hv, _⟩ | ⟨g', cap', cur, hv, hg, hh, hnc, hcm, hcs, ht⟩
  · cases hv
  · injection hv with h1 h2 h3
    injection h1 with h1
    injection h1 with h1
    subst h1
    refine ⟨?_, Joins.unfrozen_of_block hh k⟩
    rw [cell_of_row w g k _ _ _ hh, ← Array.getElem?_toList]
    rw [← ht, List.getElem?_take] at hu
    split at hu
    · exact hu
    · cases hu
theorem own_some {w : World} {base n : Nat} {e : TypeId} {v : Value} {xs : List Value} (h : w.ownsRow base e 1 v n xs) (hn : 0 < n) : ∃ g cap, v = .slice (some ⟨g, 0, none⟩) n cap ∧ base ≤ g ∧ n ≤ cap ∧ cap ≤ maxLen := by
  rcases h.2 with ⟨_, h0⟩ | ⟨g, cap, cur, rfl, hg, _, hc, hm, _⟩
  · omega
  · exact ⟨g, cap, rfl, hg, hc, hm⟩
theorem cells8_set (l : List UInt8) (k : Nat) (b : UInt8) : (cells8 l).set k (.int .u8 (b.toNat : Int)) = cells8 (l.set k b) := by simp [cells8, List.map_set]

/-- byte i of 32 bits -/
def xb (u i : Nat) : UInt8 := UInt8.ofNat (u / 256 ^ i)
/-- four bytes, i of them turned -/
def quad (a b c d : UInt8) (u i : Nat) : List UInt8 := [if 0 < i then a ^^^ xb u 0 else a, if 1 < i then b ^^^ xb u 1 else b, if 2 < i then c ^^^ xb u 2 else c, if 3 < i then d ^^^ xb u 3 else d]
def turned (pre suf : List UInt8) (a b c d : UInt8) (u i : Nat) : List UInt8 := pre ++ (quad a b c d u i ++ suf)
def nth4 (a b c d : UInt8) : Nat → UInt8
  | 0 => a
  | 1 => b
  | 2 => c
  | _ => d
theorem turned_len (pre suf : List UInt8) (a b c d : UInt8) (u i : Nat) : (turned pre suf a b c d u i).length = pre.length + 4 + suf.length := by simp [turned, quad]; omega
theorem turned_get (pre suf : List UInt8) (a b c d : UInt8) (u i : Nat) (hi : i < 4) : (turned pre suf a b c d u i)[pre.length + i]? = some (nth4 a b c d i) := by
  unfold turned
  rw [List.getElem?_append_right (by omega), Nat.add_sub_cancel_left]
  match i, hi with
  | 0, _ => simp [quad, nth4]
  | 1, _ => simp [quad, nth4]
  | 2, _ => simp [quad, nth4]
  | 3, _ => simp [quad, nth4]
theorem turned_set (pre suf : List UInt8) (a b c d : UInt8) (u i : Nat) (hi : i < 4) : (turned pre suf a b c d u i).set (pre.length + i) (nth4 a b c d i ^^^ xb u i) = turned pre suf a b c d u (i + 1) := by
  unfold turned
  rw [List.set_append_right _ _ (by omega), Nat.add_sub_cancel_left]
  match i, hi with
  | 0, _ => simp [quad, nth4]
  | 1, _ => simp [quad, nth4]
  | 2, _ => simp [quad, nth4]
  | 3, _ => simp [quad, nth4]
theorem xor_byte (y : UInt8) (u i : Nat) : bits .xor .u8 (y.toNat : Int) (((u / 256 ^ i : Nat) : Int) % 256) = (((y ^^^ xb u i).toNat : Nat) : Int) := by
  have h := u8_xor_nat y.toNat (u / 256 ^ i % 256) y.toNat_lt (by omega)
  rw [UInt8.toNat_xor, xb, UInt8.toNat_ofNat']
  exact h

/-- the row is cut at a place -/
theorem cut4 (l : List UInt8) (k : Nat) (h : k + 4 ≤ l.length) : ∃ pre suf a b c d, pre.length = k ∧ l = pre ++ [a, b, c, d] ++ suf := by
  obtain ⟨a, b, c, d, hd⟩ := four_of ((l.drop k).take 4) (by simp; omega)
  refine ⟨l.take k, l.drop (k + 4), a, b, c, d, by simp; omega, ?_⟩
  rw [← hd]
  have h1 := List.take_append_drop 4 (l.drop k)
  rw [List.drop_drop] at h1
  rw [List.append_assoc, h1, List.take_append_drop]

theorem le4_inj (s t : Nat) (hs : s < 4294967296) (ht : t < 4294967296) (h : le4 s = le4 t) : s = t := by
  obtain ⟨a, b, c, d, e⟩ := four_of (le4 s) rfl
  have e1 := (le4_num a b c d s hs).2 e
  have e2 := (le4_num a b c d t ht).2 (h ▸ e)
  omega
theorem xor_zero (a x : UInt8) (h : a = a ^^^ x) : x = 0 := by
  have h1 := congrArg (a ^^^ ·) h
  simp only [← UInt8.xor_assoc, UInt8.xor_self, UInt8.zero_xor] at h1
  exact h1.symm
theorem xb_zero (u : Nat) (hu : u < 4294967296) (h0 : xb u 0 = 0) (h1 : xb u 1 = 0) (h2 : xb u 2 = 0) (h3 : xb u 3 = 0) : u = 0 := by
  have f0 := congrArg UInt8.toNat h0
  have f1 := congrArg UInt8.toNat h1
  have f2 := congrArg UInt8.toNat h2
  have f3 := congrArg UInt8.toNat h3
  simp [xb] at f0 f1 f2 f3
  omega
/-- a row with four bytes turned has another sum -/
theorem turned_sum (pre suf : List UInt8) (a b c d : UInt8) (u : Nat) (hu : u < 4294967296) (h0 : ¬ u = 0) : ¬ sumB (turned pre suf a b c d u 4) = sumB (pre ++ [a, b, c, d] ++ suf) := by
  intro h
  have e : turned pre suf a b c d u 4 = pre ++ [a ^^^ xb u 0, b ^^^ xb u 1, c ^^^ xb u 2, d ^^^ xb u 3] ++ suf := by simp [turned, quad]
  rw [e] at h
  obtain ⟨e1, e2, e3, e4⟩ := burst _ _ _ _ _ _ _ _ _ _ h.symm
  exact h0 (xb_zero u hu (xor_zero _ _ e1) (xor_zero _ _ e2) (xor_zero _ _ e3) (xor_zero _ _ e4))
theorem turned_app (pre suf t : List UInt8) (a b c d : UInt8) (u i : Nat) : turned pre (suf ++ t) a b c d u i = turned pre suf a b c d u i ++ t := by simp [turned]
/-- .. and is not opened -/
theorem turned_open (pre suf : List UInt8) (a b c d : UInt8) (u : Nat) (hu : u < 4294967296) (h0 : ¬ u = 0) : openB (turned pre (suf ++ le4 (sumB (pre ++ [a, b, c, d] ++ suf))) a b c d u 4) = none := by
  rw [turned_app]
  unfold openB
  rw [if_neg]
  rintro ⟨_, h⟩
  have hl : (le4 (sumB (pre ++ [a, b, c, d] ++ suf))).length = 4 := rfl
  rw [List.length_append, hl, Nat.add_sub_cancel, List.take_left] at h
  unfold sealB at h
  exact turned_sum pre suf a b c d u hu h0 (le4_inj _ _ (sumB_lt _) (sumB_lt _) (List.append_cancel_left h))
end Go.Proofs.YthjbchdpnlenjaaDoor
