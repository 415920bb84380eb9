/- The sum of bytes, as numbers: a register, shifted; linear under xor; what is other has another sum. No program is named here. -/
import Derived.Laws.Bits64
import Derived.Laws.Bits64b
namespace Go.Proofs.YtoclhiaidbfheaaGreatDoor

/-- a register behind one time -/
def sh (r : Nat) : Nat := if r % 2 = 1 then r / 2 ^^^ 2197175160 else r / 2
/-- a register behind n times -/
def shN : Nat → Nat → Nat
  | 0, r => r
  | n + 1, r => sh (shN n r)
def ei (r : Nat) : Nat := shN 8 r
/-- a register behind bytes -/
def runB (r : Nat) (l : List UInt8) : Nat := l.foldl (fun r x => ei (r ^^^ x.toNat)) r
def M32 : Nat := 4294967295
def addB (s : Nat) (l : List UInt8) : Nat := M32 - runB (M32 - s) l
def sumB (l : List UInt8) : Nat := M32 - runB M32 l

theorem xor_mod2 (a b : Nat) : (a ^^^ b) % 2 = (a % 2 + b % 2) % 2 := by
  have h := Nat.xor_mod_two_pow (a := a) (b := b) (n := 1)
  simp only [Nat.pow_one] at h
  rw [h]
  rcases Nat.mod_two_eq_zero_or_one a with h1 | h1 <;> rcases Nat.mod_two_eq_zero_or_one b with h2 | h2 <;> rw [h1, h2] <;> rfl
theorem xor_div2 (a b : Nat) : (a ^^^ b) / 2 = a / 2 ^^^ b / 2 := by
  have h := Nat.xor_div_two_pow (a := a) (b := b) (n := 1)
  simpa using h

theorem sh_xor (a b : Nat) : sh (a ^^^ b) = sh a ^^^ sh b := by
  unfold sh
  rw [xor_mod2, xor_div2]
  generalize a / 2 = x
  generalize b / 2 = y
  rcases Nat.mod_two_eq_zero_or_one a with h1 | h1 <;> rcases Nat.mod_two_eq_zero_or_one b with h2 | h2 <;> rw [h1, h2] <;> simp
  · exact Nat.xor_assoc _ _ _
  · rw [Nat.xor_assoc, Nat.xor_comm y, Nat.xor_assoc]
  · rw [Nat.xor_assoc, ← Nat.xor_assoc 2197175160, Nat.xor_comm 2197175160 y, Nat.xor_assoc y, Nat.xor_self, Nat.xor_zero]
theorem shN_xor (n a b : Nat) : shN n (a ^^^ b) = shN n a ^^^ shN n b := by
  induction n with
  | zero => rfl
  | succ n ih => simp only [shN, ih, sh_xor]
theorem ei_xor (a b : Nat) : ei (a ^^^ b) = ei a ^^^ ei b := shN_xor 8 a b

theorem sh_lt (r : Nat) (h : r < 4294967296) : sh r < 4294967296 := by
  unfold sh
  split
  · exact Nat.xor_lt_two_pow (n := 32) (by omega) (by omega)
  · omega
theorem shN_lt (n r : Nat) (h : r < 4294967296) : shN n r < 4294967296 := by
  induction n with
  | zero => exact h
  | succ n ih => exact sh_lt _ ih
theorem ei_lt (r : Nat) (h : r < 4294967296) : ei r < 4294967296 := shN_lt 8 r h
theorem xor_lt32 (a b : Nat) (ha : a < 4294967296) (hb : b < 4294967296) : a ^^^ b < 4294967296 := Nat.xor_lt_two_pow (n := 32) (by omega) (by omega)
theorem byte_lt32 (x : UInt8) : x.toNat < 4294967296 := by have := x.toNat_lt; omega
theorem runB_lt (l : List UInt8) : ∀ r, r < 4294967296 → runB r l < 4294967296 := by
  induction l with
  | nil => exact fun r h => h
  | cons x l ih => exact fun r h => ih _ (ei_lt _ (xor_lt32 _ _ h (byte_lt32 x)))

theorem sh_double (q : Nat) : sh (2 * q) = q := by unfold sh; rw [if_neg (by omega)]; omega
theorem shN_double (n : Nat) : ∀ q, shN n (2 ^ n * q) = q := by
  induction n with
  | zero => intro q; simp [shN]
  | succ n ih =>
    intro q
    rw [shN, show 2 ^ (n + 1) * q = 2 ^ n * (2 * q) by rw [Nat.pow_succ, Nat.mul_assoc], ih, sh_double]
theorem ei_256 (q : Nat) : ei (256 * q) = q := shN_double 8 q
/-- the low byte and the others -/
theorem split256 (r : Nat) : r = 256 * (r / 256) ^^^ r % 256 := by
  rw [Nat.xor_comm]
  apply Nat.eq_of_testBit_eq
  intro i
  rw [Nat.testBit_xor]
  rw [show (256 : Nat) = 2 ^ 8 by rfl, Nat.testBit_two_pow_mul, Nat.testBit_mod_two_pow, Nat.testBit_div_two_pow]
  by_cases hi : i < 8
  · have h2 : ¬ 8 ≤ i := by omega
    simp [hi, h2]
  · have h2 : 8 ≤ i := by omega
    have h3 : i - 8 + 8 = i := by omega
    simp [hi, h2, h3]
/-- by the table: eight times at once -/
theorem ei_step (r x : Nat) : ei (r ^^^ x) = r / 256 ^^^ ei (r % 256 ^^^ x) := by
  conv => lhs; rw [split256 r]
  rw [Nat.xor_assoc, ei_xor, ei_256]

theorem runB_snoc (r : Nat) (a : List UInt8) (x : UInt8) : runB r (a ++ [x]) = ei (runB r a ^^^ x.toNat) := by simp [runB, List.foldl_append]

/-- four bytes as one number -/
def four (a b c d : Nat) : Nat := a ^^^ 256 * (b ^^^ 256 * (c ^^^ 256 * d))
theorem sumB_lt (l : List UInt8) : sumB l < 4294967296 := by unfold sumB M32; omega
/-- trailing noughts, below 2^8 -/
def tz (n : Nat) : Nat := if n % 2 = 1 then 0 else if n % 4 = 2 then 1 else if n % 8 = 4 then 2 else if n % 16 = 8 then 3 else if n % 32 = 16 then 4 else if n % 64 = 32 then 5 else if n % 128 = 64 then 6 else 7
theorem table_step : ∀ i, i < 256 → 0 < i → ei (i &&& (i - 1)) ^^^ ei (2 ^ tz i) = ei i := by decide +kernel
theorem tz_lt (n : Nat) : tz n < 8 := by unfold tz; repeat' split
                                         all_goals omega
theorem and_lt' : ∀ i, i < 256 → 0 < i → i &&& (i - 1) < i := by decide +kernel

/-- '^x' on 32 bits -/
theorem not32 (a : Nat) (h : a < 4294967296) : 4294967295 ^^^ a = 4294967295 - a := by
  apply Nat.eq_of_testBit_eq
  intro i
  rw [Nat.testBit_xor, show (4294967295 : Nat) = 2 ^ 32 - 1 by rfl, Nat.testBit_two_pow_sub_one, show 2 ^ 32 - 1 - a = 2 ^ 32 - (a + 1) by omega, Nat.testBit_two_pow_sub_succ (by omega)]
  by_cases hi : i < 32
  · simp [hi]
  · have : a.testBit i = false := Nat.testBit_lt_two_pow (Nat.lt_of_lt_of_le h (show 4294967296 ≤ 2 ^ i from Nat.pow_le_pow_right (n := 2) (i := 32) (by decide) (by omega)))
    simp [hi, this]
end Go.Proofs.YtoclhiaidbfheaaGreatDoor
