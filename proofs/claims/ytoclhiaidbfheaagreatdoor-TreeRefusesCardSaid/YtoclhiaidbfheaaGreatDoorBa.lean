/- Layer 4: numbers as bytes, a node, its block, a block's node. No program is named here. -/
import Derived.Test.YtoclhiaidbfheaaGreatDoorCm
set_option linter.unusedVariables false
namespace Go.Proofs.YtoclhiaidbfheaaGreatDoor

/-- the lowest bytes of a number, the lowest first -/
def leN : Nat → Nat → List UInt8
  | 0, _ => []
  | k + 1, n => UInt8.ofNat n :: leN k (n / 256)
/-- the number of bytes, the lowest first -/
def numN : List UInt8 → Nat
  | [] => 0
  | b :: l => b.toNat + 256 * numN l
theorem leN_length : ∀ k n, (leN k n).length = k
  | 0, _ => rfl
  | k + 1, n => by simp [leN, leN_length k]
theorem leN_snoc : ∀ k n, leN (k + 1) n = leN k n ++ [UInt8.ofNat (n / 256 ^ k)]
  | 0, n => by simp [leN]
  | k + 1, n => by
    rw [leN, leN_snoc k (n / 256), leN, Nat.div_div_eq_div_mul, ← Nat.pow_succ']
    rfl
theorem numN_lt : ∀ l : List UInt8, numN l < 256 ^ l.length
  | [] => by simp [numN]
  | b :: l => by
    have := numN_lt l
    have hb := b.toNat_lt
    simp only [numN, List.length_cons, Nat.pow_succ]
    omega
theorem numN_le : ∀ k n, numN (leN k n) = n % 256 ^ k
  | 0, n => by simp [leN, numN, Nat.mod_one]
  | k + 1, n => by
    simp only [leN, numN, numN_le k]
    rw [Nat.pow_succ', Nat.mod_mul, UInt8.toNat_ofNat']
theorem numN_le8 (n : Nat) (h : n < 18446744073709551616) : numN (leN 8 n) = n := by
  rw [numN_le, Nat.mod_eq_of_lt h]
theorem numN_snoc (l : List UInt8) (b : UInt8) : numN (l ++ [b]) = numN l + 256 ^ l.length * b.toNat := by
  induction l with
  | nil => simp [numN]
  | cons c l ih =>
    simp only [List.cons_append, numN, ih, List.length_cons, Nat.pow_succ']
    rw [Nat.mul_add, Nat.mul_assoc, Nat.add_assoc]

/-- a node -/
structure ND where
  kind : Int
  birth : Nat
  keys : List Nat
  vals : List Nat
deriving DecidableEq
def ND.zero : ND := ⟨0, 0, [], []⟩
/-- is each key above the one ahead of it? of the first so many -/
def riseTo (l : List Nat) : Nat → Bool
  | 0 => true
  | k + 1 => riseTo l k && (k == 0 || decide (l.getD (k - 1) 0 < l.getD k 0))
def riseB (l : List Nat) : Bool := riseTo l l.length
theorem riseTo_succ (l : List Nat) (k : Nat) (h : 0 < k) : riseTo l (k + 1) = (riseTo l k && decide (l.getD (k - 1) 0 < l.getD k 0)) := by
  have : (k == 0) = false := by simp; omega
  rw [riseTo, this, Bool.false_or]
theorem riseTo_no (l : List Nat) (k : Nat) (h : riseTo l k = false) : ∀ m, k ≤ m → riseTo l m = false
  | 0, hm => by
    obtain rfl : k = 0 := by omega
    exact h
  | m + 1, hm => by
    rcases Nat.lt_or_ge k (m + 1) with h1 | h1
    · rw [riseTo, riseTo_no l k h m (by omega)]; rfl
    · obtain rfl : k = m + 1 := by omega
      exact h
def mayB (n : ND) : Bool := decide (1 ≤ n.kind ∧ n.kind ≤ 3) && (decide (n.keys.length ≤ 6) && (decide (n.vals.length = n.keys.length) && riseB n.keys))
theorem mayB_yes {n : ND} (h : mayB n = true) : (1 ≤ n.kind ∧ n.kind ≤ 3) ∧ n.keys.length ≤ 6 ∧ n.vals.length = n.keys.length ∧ riseB n.keys = true := by
  unfold mayB at h
  simp only [Bool.and_eq_true, decide_eq_true_eq] at h
  exact h

/-- the pairs' bytes, i of them -/
def pairsB (keys vals : List Nat) : Nat → List UInt8
  | 0 => []
  | i + 1 => pairsB keys vals i ++ leN 8 (keys.getD i 0) ++ leN 8 (vals.getD i 0)
theorem pairsB_length (keys vals : List Nat) : ∀ i, (pairsB keys vals i).length = 16 * i
  | 0 => rfl
  | i + 1 => by simp [pairsB, pairsB_length keys vals i, leN_length]; omega
def headB (no : Nat) (n : ND) : List UInt8 := UInt8.ofNat n.kind.toNat :: UInt8.ofNat n.keys.length :: 0 :: 0 :: (leN 4 no ++ leN 8 n.birth)
theorem headB_length (no : Nat) (n : ND) : (headB no n).length = 16 := by simp [headB, leN_length]
def bodyB (no : Nat) (n : ND) : List UInt8 := headB no n ++ pairsB n.keys n.vals n.keys.length
/-- with noughts behind, as many as fill a block -/
def padB (l : List UInt8) : List UInt8 := l ++ List.replicate (252 - l.length) 0
theorem padB_length (l : List UInt8) (h : l.length ≤ 252) : (padB l).length = 252 := by simp [padB]; omega
/-- a block: bytes behind their sum -/
def summed (l : List UInt8) : List UInt8 := leN 4 (sumB l) ++ l
theorem summed_length (l : List UInt8) : (summed l).length = l.length + 4 := by simp [summed, leN_length]; omega
def img (no : Nat) (n : ND) : List UInt8 := summed (padB (bodyB no n))
/-- the number of 8 bytes that stand at a place -/
def at8 (l : List UInt8) (i : Nat) : Nat := numN ((l.drop i).take 8)
def keysOf (l : List UInt8) : Nat → List Nat
  | 0 => []
  | i + 1 => keysOf l i ++ [at8 l (20 + 16 * i)]
def valsOf (l : List UInt8) : Nat → List Nat
  | 0 => []
  | i + 1 => valsOf l i ++ [at8 l (28 + 16 * i)]
theorem keysOf_length (l : List UInt8) : ∀ i, (keysOf l i).length = i
  | 0 => rfl
  | i + 1 => by simp [keysOf, keysOf_length l i]
theorem valsOf_length (l : List UInt8) : ∀ i, (valsOf l i).length = i
  | 0 => rfl
  | i + 1 => by simp [valsOf, valsOf_length l i]
/-- the node that a block speaks of, of so many keys -/
def readB (l : List UInt8) (m : Nat) : ND := ⟨((l.getD 4 0).toNat : Int), at8 l 12, keysOf l m, valsOf l m⟩
def manyB (l : List UInt8) : Nat := (l.getD 5 0).toNat
/-- a block's node -/
def ofB (no : Nat) (l : List UInt8) : Option ND :=
  if manyB l ≤ 6 ∧ mayB (readB l (manyB l)) = true ∧ img no (readB l (manyB l)) = l then some (readB l (manyB l)) else none

theorem leN4_four (n : Nat) : ∃ a b c d, leN 4 n = [a, b, c, d] := ⟨_, _, _, _, rfl⟩
theorem img_drop (no : Nat) (n : ND) (i : Nat) : (img no n).drop (4 + i) = (padB (bodyB no n)).drop i := by
  have e : 4 + i = (leN 4 (sumB (padB (bodyB no n)))).length + i := by rw [leN_length]
  rw [img, summed, e]
  exact List.drop_length_add_append i
theorem img_at8 (no : Nat) (n : ND) (i : Nat) : at8 (img no n) (4 + i) = at8 (padB (bodyB no n)) i := by
  unfold at8; rw [img_drop]
theorem at8_mid (a c : List UInt8) (n i : Nat) (h : a.length = i) (hn : n < 18446744073709551616) : at8 (a ++ (leN 8 n ++ c)) i = n := by
  subst h
  unfold at8
  rw [List.drop_left, List.take_append_of_le_length (by rw [leN_length]; omega), List.take_of_length_le (by rw [leN_length]; omega), numN_le8 n hn]
/-- the pairs from the i-th on -/
theorem pairsB_split (keys vals : List Nat) (i : Nat) : ∀ m, i < m → ∃ c, pairsB keys vals m = pairsB keys vals i ++ (leN 8 (keys.getD i 0) ++ (leN 8 (vals.getD i 0) ++ c))
  | 0, h => by omega
  | m + 1, h => by
    rcases Nat.lt_or_ge i m with h1 | h1
    · obtain ⟨c, e⟩ := pairsB_split keys vals i m h1
      exact ⟨c ++ leN 8 (keys.getD m 0) ++ leN 8 (vals.getD m 0), by rw [pairsB, e]; simp [List.append_assoc]⟩
    · obtain rfl : i = m := by omega
      exact ⟨[], by rw [pairsB]; simp [List.append_assoc]⟩
theorem body_key (no : Nat) (n : ND) (i : Nat) (hi : i < n.keys.length) (h : n.keys.getD i 0 < 18446744073709551616) : at8 (padB (bodyB no n)) (16 + 16 * i) = n.keys.getD i 0 := by
  obtain ⟨c, e⟩ := pairsB_split n.keys n.vals i n.keys.length hi
  unfold padB
  have e2 : bodyB no n ++ List.replicate (252 - (bodyB no n).length) 0 = (headB no n ++ pairsB n.keys n.vals i) ++ (leN 8 (n.keys.getD i 0) ++ (leN 8 (n.vals.getD i 0) ++ c ++ List.replicate (252 - (bodyB no n).length) 0)) := by
    rw [bodyB, e]; simp [List.append_assoc]
  rw [e2]
  exact at8_mid _ _ _ _ (by rw [List.length_append, headB_length, pairsB_length]) h
theorem body_val (no : Nat) (n : ND) (i : Nat) (hi : i < n.keys.length) (h : n.vals.getD i 0 < 18446744073709551616) : at8 (padB (bodyB no n)) (24 + 16 * i) = n.vals.getD i 0 := by
  obtain ⟨c, e⟩ := pairsB_split n.keys n.vals i n.keys.length hi
  unfold padB
  have e2 : bodyB no n ++ List.replicate (252 - (bodyB no n).length) 0 = (headB no n ++ pairsB n.keys n.vals i ++ leN 8 (n.keys.getD i 0)) ++ (leN 8 (n.vals.getD i 0) ++ (c ++ List.replicate (252 - (bodyB no n).length) 0)) := by
    rw [bodyB, e]; simp [List.append_assoc]
  rw [e2]
  exact at8_mid _ _ _ _ (by simp only [List.length_append, headB_length, pairsB_length, leN_length]; omega) h
theorem body_birth (no : Nat) (n : ND) (h : n.birth < 18446744073709551616) : at8 (padB (bodyB no n)) 8 = n.birth := by
  obtain ⟨a, b, c, d, e⟩ := leN4_four no
  have e2 : padB (bodyB no n) = [UInt8.ofNat n.kind.toNat, UInt8.ofNat n.keys.length, 0, 0, a, b, c, d] ++ (leN 8 n.birth ++ (pairsB n.keys n.vals n.keys.length ++ List.replicate (252 - (bodyB no n).length) 0)) := by
    unfold padB
    rw [bodyB, headB, e]; simp [List.append_assoc]
  rw [e2]
  exact at8_mid _ _ _ _ rfl h
theorem list_of_getD {a b : List Nat} (hl : a.length = b.length) (h : ∀ i, i < a.length → a.getD i 0 = b.getD i 0) : a = b := by
  apply List.ext_getElem hl
  intro i h1 h2
  have := h i h1
  simpa [List.getD, h1, h2] using this
theorem keysOf_getD (l : List UInt8) : ∀ m i, i < m → (keysOf l m).getD i 0 = at8 l (20 + 16 * i)
  | 0, i, h => by omega
  | m + 1, i, h => by
    have hl := keysOf_length l m
    rcases Nat.lt_or_ge i m with h1 | h1
    · rw [← keysOf_getD l m i h1]
      simp [keysOf, List.getD, List.getElem?_append_left (show i < (keysOf l m).length by omega)]
    · obtain rfl : i = m := by omega
      simp [keysOf, List.getD, hl]
theorem valsOf_getD (l : List UInt8) : ∀ m i, i < m → (valsOf l m).getD i 0 = at8 l (28 + 16 * i)
  | 0, i, h => by omega
  | m + 1, i, h => by
    have hl := valsOf_length l m
    rcases Nat.lt_or_ge i m with h1 | h1
    · rw [← valsOf_getD l m i h1]
      simp [valsOf, List.getD, List.getElem?_append_left (show i < (valsOf l m).length by omega)]
    · obtain rfl : i = m := by omega
      simp [valsOf, List.getD, hl]
theorem get_four (l : List UInt8) (n : Nat) (i : Nat) : (summed l).getD (4 + i) 0 = l.getD i 0 := by
  obtain ⟨a, b, c, d, e⟩ := leN4_four (sumB l)
  rw [summed, e, show 4 + i = i + 4 by omega]
  rfl
/-- numbers of 64 bits alone -/
def ND.fits (n : ND) : Prop := n.birth < 18446744073709551616 ∧ (∀ k ∈ n.keys, k < 18446744073709551616) ∧ (∀ k ∈ n.vals, k < 18446744073709551616)
theorem getD_fits {l : List Nat} (h : ∀ k ∈ l, k < 18446744073709551616) (i : Nat) : l.getD i 0 < 18446744073709551616 := by
  rcases Nat.lt_or_ge i l.length with h1 | h1
  · have := h _ (List.getElem_mem h1)
    simpa [List.getD, h1] using this
  · simp [List.getD, h1]
theorem many_img (no : Nat) (n : ND) (h : n.keys.length ≤ 6) : manyB (img no n) = n.keys.length := by
  unfold manyB
  have := get_four (padB (bodyB no n)) 0 1
  rw [show img no n = summed (padB (bodyB no n)) from rfl, show (5 : Nat) = 4 + 1 from rfl, this]
  show (UInt8.ofNat n.keys.length).toNat = _
  rw [UInt8.toNat_ofNat']; omega
theorem read_img (no : Nat) (n : ND) (hm : mayB n = true) (hf : n.fits) : readB (img no n) n.keys.length = n := by
  obtain ⟨hk, h6, hv, hr⟩ := mayB_yes hm
  obtain ⟨kind, birth, keys, vals⟩ := n
  simp only at hk h6 hv hr
  have e1 : ((img no ⟨kind, birth, keys, vals⟩).getD 4 0).toNat = kind.toNat := by
    have := get_four (padB (bodyB no ⟨kind, birth, keys, vals⟩)) 0 0
    rw [show img no ⟨kind, birth, keys, vals⟩ = summed (padB (bodyB no ⟨kind, birth, keys, vals⟩)) from rfl, show (4 : Nat) = 4 + 0 from rfl, this]
    show (UInt8.ofNat kind.toNat).toNat = _
    rw [UInt8.toNat_ofNat']; omega
  have e2 : at8 (img no ⟨kind, birth, keys, vals⟩) 12 = birth := by
    rw [show (12 : Nat) = 4 + 8 from rfl, img_at8]; exact body_birth no _ hf.1
  have e3 : keysOf (img no ⟨kind, birth, keys, vals⟩) keys.length = keys := by
    refine list_of_getD (keysOf_length _ _) fun i hi => ?_
    rw [keysOf_length] at hi
    rw [keysOf_getD _ _ _ hi, show 20 + 16 * i = 4 + (16 + 16 * i) by omega, img_at8]
    exact body_key no _ i hi (getD_fits hf.2.1 i)
  have e4 : valsOf (img no ⟨kind, birth, keys, vals⟩) keys.length = vals := by
    refine list_of_getD ((valsOf_length _ _).trans hv.symm) fun i hi => ?_
    rw [valsOf_length] at hi
    rw [valsOf_getD _ _ _ hi, show 28 + 16 * i = 4 + (24 + 16 * i) by omega, img_at8]
    exact body_val no _ i hi (getD_fits hf.2.2 i)
  unfold readB
  simp only at e1 e2 e3 e4 ⊢
  rw [e1, e2, e3, e4, Int.toNat_of_nonneg (by omega)]
theorem of_img (no : Nat) (n : ND) (hm : mayB n = true) (hf : n.fits) : ofB no (img no n) = some n := by
  have h6 := (mayB_yes hm).2.1
  unfold ofB
  rw [many_img no n h6, read_img no n hm hf, if_pos ⟨h6, hm, rfl⟩]
end Go.Proofs.YtoclhiaidbfheaaGreatDoor
