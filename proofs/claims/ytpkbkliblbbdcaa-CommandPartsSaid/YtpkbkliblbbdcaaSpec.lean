/- Plain mathematics for the wire layer: letters, widths, bytes of numbers. No program is named here. -/
import Derived.WalkKit
import Derived.Laws.BitsAllLaws
namespace Go.Proofs.Ytpkbkliblbbdcaa
open Go.RowKit
set_option maxRecDepth 20000

/-- how many bytes a letter's number has; 0: the letter is not a number's -/
def wid (c : Int) : Int := if c = 49 then 1 else if c = 50 then 2 else if c = 52 then 4 else if c = 56 then 8 else 0
/-- how many bytes a letter's value takes at least; 0: no letter of a shape -/
def lst (c : Int) : Int := if c = 63 then 1 else if c = 42 then 4 else if c = 35 then 256 else wid c

theorem wid_le (c : Int) : 0 ≤ wid c ∧ wid c ≤ 8 := by unfold wid; omega
theorem lst_le (c : Int) : 0 ≤ lst c ∧ lst c ≤ 256 := by have := wid_le c; unfold lst; omega

theorem ret_int {k : IntKind} {a b : Int} (h : a = b) : Ending.returned (.int k a) = .returned (.int k b) := by rw [h]
theorem val_int {k : IntKind} {a b : Int} (h : a = b) : Value.int k a = .int k b := by rw [h]

/-- the k lowest bytes of a number, the lowest first -/
def low (n : Nat) : Nat → List UInt8
  | 0 => []
  | k + 1 => low n k ++ [UInt8.ofNat (n / 256 ^ k % 256)]
theorem low_length (n k : Nat) : (low n k).length = k := by
  induction k with
  | zero => rfl
  | succ k ih => simp [low, ih]
theorem byte_toNat (n : Nat) : (UInt8.ofNat (n % 256)).toNat = n % 256 := by simp
/-- the number that bytes are, the lowest first -/
def num8 : List UInt8 → Nat
  | [] => 0
  | b :: l => b.toNat + 256 * num8 l

theorem num8_snoc (l : List UInt8) (b : UInt8) : num8 (l ++ [b]) = num8 l + b.toNat * 256 ^ l.length := by
  induction l with
  | nil => simp [num8]
  | cons a l ih => simp only [List.cons_append, num8, ih, List.length_cons, Nat.pow_succ]; rw [Nat.mul_add, ← Nat.mul_assoc, Nat.mul_comm 256 b.toNat, Nat.mul_assoc, Nat.mul_comm 256 (256 ^ l.length)]; omega
theorem num8_lt (l : List UInt8) : num8 l < 256 ^ l.length := by
  induction l with
  | nil => simp [num8]
  | cons a l ih =>
    have := a.toNat_lt
    simp only [num8, List.length_cons, Nat.pow_succ]
    omega
theorem num8_take (l : List UInt8) (i : Nat) (h : i < l.length) : num8 (l.take (i + 1)) = num8 (l.take i) + (l[i]'h).toNat * 256 ^ i := by
  rw [List.take_succ_eq_append_getElem h, num8_snoc, List.length_take, Nat.min_eq_left (by omega)]
theorem num8_low (n k : Nat) : num8 (low n k) = n % 256 ^ k := by
  induction k with
  | zero => simp [low, num8, Nat.mod_one]
  | succ k ih =>
    rw [low, num8_snoc, ih, low_length, byte_toNat, Nat.pow_succ, Nat.mod_mul, Nat.mul_comm]
theorem low_num8 (l : List UInt8) : low (num8 l) l.length = l := by
  suffices h : ∀ k, k ≤ l.length → low (num8 l) k = l.take k by simpa using h l.length (Nat.le_refl _)
  intro k hk
  induction k with
  | zero => simp [low]
  | succ k ih =>
    rw [low, ih (by omega), List.take_succ_eq_append_getElem (by omega)]
    have hsplit : num8 l = num8 (l.take k) + (num8 (l.drop k)) * 256 ^ k := by
      clear ih
      induction l generalizing k with
      | nil => simp at hk
      | cons a l ih =>
        cases k with
        | zero => simp [num8]
        | succ k =>
          simp only [List.take_succ_cons, List.drop_succ_cons, num8]
          rcases Nat.lt_or_ge k l.length with h | h
          · rw [ih k (by omega)]; simp only [Nat.pow_succ]; rw [Nat.mul_add, ← Nat.mul_assoc, Nat.mul_comm 256 (num8 (l.drop k)), Nat.mul_assoc, Nat.mul_comm 256 (256 ^ k)]; omega
          · simp at hk; omega
    have hlt := num8_lt (l.take k)
    rw [List.length_take, Nat.min_eq_left (by omega)] at hlt
    have hdrop : num8 (l.drop k) % 256 = (l[k]'(by omega)).toNat := by
      rw [List.drop_eq_getElem_cons (by omega), num8]
      have := (l[k]'(by omega)).toNat_lt
      omega
    have : num8 l / 256 ^ k % 256 = (l[k]'(by omega)).toNat := by
      rw [hsplit, Nat.add_mul_div_right _ _ (Nat.pow_pos (by omega)), Nat.div_eq_of_lt hlt, Nat.zero_add, hdrop]
    rw [this]
    simp
theorem pow256 (i : Nat) : (256 : Nat) ^ i = 2 ^ (8 * i) := by rw [Nat.pow_mul]
theorem or_step (x i : Nat) (b : UInt8) (hi : i < 8) (hx : x < 256 ^ i) :
    bits .or .u64 (x : Int) (IntKind.u64.wrap (IntKind.u64.wrap (b.toNat : Int) * 2 ^ (8 * i))) = ((x + b.toNat * 256 ^ i : Nat) : Int) := by
  have hb := b.toNat_lt
  have hp : (256 : Nat) ^ i ≤ 256 ^ 7 := Nat.pow_le_pow_right (by omega) (by omega)
  have hm : b.toNat * 256 ^ i ≤ 255 * 256 ^ 7 := Nat.mul_le_mul (by omega) hp
  have e1 : IntKind.u64.wrap (IntKind.u64.wrap (b.toNat : Int) * 2 ^ (8 * i)) = ((b.toNat * 256 ^ i : Nat) : Int) := by
    have e0 : ((b.toNat : Int)) * 2 ^ (8 * i) = ((b.toNat * 256 ^ i : Nat) : Int) := by rw [pow256]; simp
    rw [IntKind.wrap_u64 (b.toNat : Int), Int.emod_eq_of_lt (by omega) (by omega), e0, IntKind.wrap_u64, Int.emod_eq_of_lt (by omega) (by omega)]
  have e2 : x + b.toNat * 256 ^ i = x ||| b.toNat * 256 ^ i := by
    rw [pow256] at hx ⊢
    rw [Nat.add_comm, Nat.mul_comm, Nat.two_pow_add_eq_or_of_lt hx, Nat.or_comm]
  rw [e1, u64_or_nat _ _ (by omega) (by omega), ← e2]

end Go.Proofs.Ytpkbkliblbbdcaa
