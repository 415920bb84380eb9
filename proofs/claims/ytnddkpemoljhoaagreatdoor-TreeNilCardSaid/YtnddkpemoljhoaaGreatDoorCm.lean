/- The sum of bytes, as numbers: a register, shifted; linear under xor; what is other has another sum. No program is named here. -/
import Derived.Laws.Bits64
import Derived.Laws.Bits64b
namespace Go.Proofs.YtnddkpemoljhoaaGreatDoor

/-- a register behind one time -/
def sh (r : Nat) : Nat := if r % 2 = 1 then r / 2 ^^^ 2197175160 else r / 2
/-- a register behind n times -/
def shN : Nat → Nat → Nat
  | 0, r => r
  | n + 1, r => sh (shN n r)
def ei (r : Nat) : Nat := shN 8 r
/-- a register behind bytes -/
def runB (r : Nat) (l : List UInt8) : Nat := l.foldl (fun r x => ei (r ^^^ x.toNat)) r
def M32 : Nat := 4294967295
def addB (s : Nat) (l : List UInt8) : Nat := M32 - runB (M32 - s) l
def sumB (l : List UInt8) : Nat := M32 - runB M32 l

theorem xor_mod2 (a b : Nat) : (a ^^^ b) % 2 = (a % 2 + b % 2) % 2 := by
  have h := Nat.xor_mod_two_pow (a := a) (b := b) (n := 1)
  simp only [Nat.pow_one] at h
  rw [h]
  rcases Nat.mod_two_eq_zero_or_one a with h1 | h1 <;> rcases Nat.mod_two_eq_zero_or_one b with h2 | h2 <;> rw [h1, h2] <;> rfl
theorem xor_div2 (a b : Nat) : (a ^^^ b) / 2 = a / 2 ^^^ b / 2 := by
  have h := Nat.xor_div_two_pow (a := a) (b := b) (n := 1)
  simpa using h

theorem sh_xor (a b : Nat) : sh (a ^^^ b) = sh a ^^^ sh b := by
  unfold sh
  rw [xor_mod2, xor_div2]
  generalize a / 2 = x
  generalize b / 2 = y
  rcases Nat.mod_two_eq_zero_or_one a with h1 | h1 <;> rcases Nat.mod_two_eq_zero_or_one b with h2 | h2 <;> rw [h1, h2] <;> simp
  · exact Nat.xor_assoc _ _ _
  · rw [Nat.xor_assoc, Nat.xor_comm y, Nat.xor_assoc]
  · rw [Nat.xor_assoc, ← Nat.xor_assoc 2197175160, Nat.xor_comm 2197175160 y, Nat.xor_assoc y, Nat.xor_self, Nat.xor_zero]
theorem shN_xor (n a b : Nat) : shN n (a ^^^ b) = shN n a ^^^ shN n b := by
  induction n with
  | zero => rfl
  | succ n ih => simp only [shN, ih, sh_xor]
theorem ei_xor (a b : Nat) : ei (a ^^^ b) = ei a ^^^ ei b := shN_xor 8 a b

theorem sh_lt (r : Nat) (h : r < 4294967296) : sh r < 4294967296 := by
  unfold sh
  split
  · exact Nat.xor_lt_two_pow (n := 32) (by omega) (by omega)
  · omega
theorem shN_lt (n r : Nat) (h : r < 4294967296) : shN n r < 4294967296 := by
  induction n with
  | zero => exact h
  | succ n ih => exact sh_lt _ ih
theorem ei_lt (r : Nat) (h : r < 4294967296) : ei r < 4294967296 := shN_lt 8 r h
theorem xor_lt32 (a b : Nat) (ha : a < 4294967296) (hb : b < 4294967296) : a ^^^ b < 4294967296 := Nat.xor_lt_two_pow (n := 32) (by omega) (by omega)
theorem byte_lt32 (x : UInt8) : x.toNat < 4294967296 := by have := x.toNat_lt; omega
theorem runB_lt (l : List UInt8) : ∀ r, r < 4294967296 → runB r l < 4294967296 := by
  induction l with
  | nil => exact fun r h => h
  | cons x l ih => exact fun r h => ih _ (ei_lt _ (xor_lt32 _ _ h (byte_lt32 x)))

theorem sh_double (q : Nat) : sh (2 * q) = q := by unfold sh; rw [if_neg (by omega)]; omega
theorem shN_double (n : Nat) : ∀ q, shN n (2 ^ n * q) = q := by
  induction n with
  | zero => intro q; simp [shN]
  | succ n ih =>
    intro q
    rw [shN, show 2 ^ (n + 1) * q = 2 ^ n * (2 * q) by rw [Nat.pow_succ, Nat.mul_assoc], ih, sh_double]
theorem ei_256 (q : Nat) : ei (256 * q) = q := shN_double 8 q
/-- the low byte and the others -/
theorem split256 (r : Nat) : r = 256 * (r / 256) ^^^ r % 256 := by
  rw [Nat.xor_comm]
  apply Nat.eq_of_testBit_eq
  intro i
  rw [Nat.testBit_xor]
  rw [show (256 : Nat) = 2 ^ 8 by rfl, Nat.testBit_two_pow_mul, Nat.testBit_mod_two_pow, Nat.testBit_div_two_pow]
  by_cases hi : i < 8
  · have h2 : ¬ 8 ≤ i := by omega
    simp [hi, h2]
  · have h2 : 8 ≤ i := by omega
    have h3 : i - 8 + 8 = i := by omega
    simp [hi, h2, h3]
/-- by the table: eight times at once -/
theorem ei_step (r x : Nat) : ei (r ^^^ x) = r / 256 ^^^ ei (r % 256 ^^^ x) := by
  conv => lhs; rw [split256 r]
  rw [Nat.xor_assoc, ei_xor, ei_256]

theorem sh_inj (a b : Nat) (ha : a < 4294967296) (hb : b < 4294967296) (h : sh a = sh b) : a = b := by
  have hbit : ∀ r, r < 4294967296 → (sh r).testBit 31 = decide (r % 2 = 1) := by
    intro r hr
    unfold sh
    have hr2 : (r / 2).testBit 31 = false := Nat.testBit_lt_two_pow (by omega)
    split
    · rename_i h1
      rw [Nat.testBit_xor, hr2]
      simp [h1]
      decide
    · rename_i h1
      rw [hr2]
      simp [h1]
  have h1 := hbit a ha
  have h2 := hbit b hb
  rw [h, h2] at h1
  have hm : a % 2 = b % 2 := by
    have : (b % 2 = 1) ↔ (a % 2 = 1) := by simpa using h1
    omega
  have hd : a / 2 = b / 2 := by
    unfold sh at h
    rw [hm] at h
    split at h
    · have h3 := congrArg (· ^^^ 2197175160) h
      simpa [Nat.xor_assoc] using h3
    · exact h
  omega
theorem shN_inj (n : Nat) : ∀ a b, a < 4294967296 → b < 4294967296 → shN n a = shN n b → a = b := by
  induction n with
  | zero => exact fun a b _ _ h => h
  | succ n ih => exact fun a b ha hb h => ih a b ha hb (sh_inj _ _ (shN_lt n a ha) (shN_lt n b hb) h)
theorem ei_inj (a b : Nat) (ha : a < 4294967296) (hb : b < 4294967296) (h : ei a = ei b) : a = b := shN_inj 8 a b ha hb h
theorem xor_cancel (a b x : Nat) (h : a ^^^ x = b ^^^ x) : a = b := by
  have h3 := congrArg (· ^^^ x) h
  simpa [Nat.xor_assoc] using h3
theorem runB_inj (l : List UInt8) : ∀ a b, a < 4294967296 → b < 4294967296 → runB a l = runB b l → a = b := by
  induction l with
  | nil => exact fun a b _ _ h => h
  | cons x l ih =>
    intro a b ha hb h
    have hx := byte_lt32 x
    exact xor_cancel _ _ x.toNat (ei_inj _ _ (xor_lt32 _ _ ha hx) (xor_lt32 _ _ hb hx) (ih _ _ (ei_lt _ (xor_lt32 _ _ ha hx)) (ei_lt _ (xor_lt32 _ _ hb hx)) h))
theorem runB_append (r : Nat) (a b : List UInt8) : runB r (a ++ b) = runB (runB r a) b := by simp [runB, List.foldl_append]
theorem runB_snoc (r : Nat) (a : List UInt8) (x : UInt8) : runB r (a ++ [x]) = ei (runB r a ^^^ x.toNat) := by simp [runB, List.foldl_append]

/-- four bytes as one number -/
def four (a b c d : Nat) : Nat := a ^^^ 256 * (b ^^^ 256 * (c ^^^ 256 * d))
theorem mul_xor256 (a b : Nat) : 256 * (a ^^^ b) = 256 * a ^^^ 256 * b := by
  have h := Nat.shiftLeft_xor_distrib (a := a) (b := b) (i := 8)
  simpa [Nat.shiftLeft_eq, Nat.mul_comm] using h
theorem ei_push (r q : Nat) : ei r ^^^ q = ei (r ^^^ 256 * q) := by rw [ei_xor, ei_256]
theorem run_four (r a b c d : Nat) : ei (ei (ei (ei (r ^^^ a) ^^^ b) ^^^ c) ^^^ d) = ei (ei (ei (ei (r ^^^ four a b c d)))) := by
  rw [ei_push (ei (ei (r ^^^ a) ^^^ b) ^^^ c) d, Nat.xor_assoc (ei (ei (r ^^^ a) ^^^ b)), ei_push (ei (r ^^^ a) ^^^ b), Nat.xor_assoc (ei (r ^^^ a)), ei_push (r ^^^ a), Nat.xor_assoc r]
  rfl
theorem four_lt (a b c d : Nat) (ha : a < 256) (hb : b < 256) (hc : c < 256) (hd : d < 256) : four a b c d < 4294967296 := by
  unfold four
  have h1 : c ^^^ 256 * d < 2 ^ 16 := Nat.xor_lt_two_pow (by omega) (by omega)
  have h2 : b ^^^ 256 * (c ^^^ 256 * d) < 2 ^ 24 := Nat.xor_lt_two_pow (by omega) (by omega)
  exact Nat.xor_lt_two_pow (n := 32) (by omega) (by omega)
theorem low_xor256 (a q : Nat) (ha : a < 256) : (a ^^^ 256 * q) % 256 = a ∧ (a ^^^ 256 * q) / 256 = q := by
  have h : a ^^^ 256 * q = 256 * q + a := by
    have h1 := split256 (256 * q + a)
    rw [show (256 * q + a) / 256 = q by omega, show (256 * q + a) % 256 = a by omega, Nat.xor_comm] at h1
    exact h1.symm
  rw [h]
  omega
theorem four_inj {a b c d a' b' c' d' : Nat} (ha : a < 256) (hb : b < 256) (hc : c < 256) (ha' : a' < 256) (hb' : b' < 256) (hc' : c' < 256)
    (h : four a b c d = four a' b' c' d') : a = a' ∧ b = b' ∧ c = c' ∧ d = d' := by
  unfold four at h
  have e1 := low_xor256 a (b ^^^ 256 * (c ^^^ 256 * d)) ha
  have e1' := low_xor256 a' (b' ^^^ 256 * (c' ^^^ 256 * d')) ha'
  rw [h] at e1
  have e2 := low_xor256 b (c ^^^ 256 * d) hb
  have e2' := low_xor256 b' (c' ^^^ 256 * d') hb'
  have h2 : b ^^^ 256 * (c ^^^ 256 * d) = b' ^^^ 256 * (c' ^^^ 256 * d') := e1.2.symm.trans e1'.2
  rw [h2] at e2
  have h3 : c ^^^ 256 * d = c' ^^^ 256 * d' := e2.2.symm.trans e2'.2
  have e3 := low_xor256 c d hc
  have e3' := low_xor256 c' d' hc'
  rw [h3] at e3
  exact ⟨e1.1.symm.trans e1'.1, e2.1.symm.trans e2'.1, e3.1.symm.trans e3'.1, e3.2.symm.trans e3'.2⟩

/-- THE LAW OF BURSTS: rows alike but for four bytes behind one another have sums alike only if these are alike -/
theorem burst (pre suf : List UInt8) (a b c d a' b' c' d' : UInt8) (h : sumB (pre ++ [a, b, c, d] ++ suf) = sumB (pre ++ [a', b', c', d'] ++ suf)) : a = a' ∧ b = b' ∧ c = c' ∧ d = d' := by
  have hM : M32 < 4294967296 := by decide
  have l1 := runB_lt (pre ++ [a, b, c, d] ++ suf) M32 hM
  have l2 := runB_lt (pre ++ [a', b', c', d'] ++ suf) M32 hM
  have h1 : runB M32 (pre ++ [a, b, c, d] ++ suf) = runB M32 (pre ++ [a', b', c', d'] ++ suf) := by
    unfold sumB M32 at h
    unfold M32 at l1 l2 ⊢
    omega
  rw [runB_append, runB_append, runB_append, runB_append M32 pre] at h1
  have hp := runB_lt pre M32 hM
  have h2 := runB_inj suf _ _ (runB_lt _ _ hp) (runB_lt _ _ hp) h1
  generalize runB M32 pre = r at h2 hp
  simp only [runB, List.foldl_cons, List.foldl_nil] at h2
  rw [run_four, run_four] at h2
  have ba := a.toNat_lt
  have bb := b.toNat_lt
  have bc := c.toNat_lt
  have bd := d.toNat_lt
  have ba' := a'.toNat_lt
  have bb' := b'.toNat_lt
  have bc' := c'.toNat_lt
  have bd' := d'.toNat_lt
  have x1 := xor_lt32 _ _ hp (four_lt _ _ _ _ ba bb bc bd)
  have x2 := xor_lt32 _ _ hp (four_lt _ _ _ _ ba' bb' bc' bd')
  have h3 := ei_inj _ _ x1 x2 (ei_inj _ _ (ei_lt _ x1) (ei_lt _ x2) (ei_inj _ _ (ei_lt _ (ei_lt _ x1)) (ei_lt _ (ei_lt _ x2)) (ei_inj _ _ (ei_lt _ (ei_lt _ (ei_lt _ x1))) (ei_lt _ (ei_lt _ (ei_lt _ x2))) h2)))
  rw [Nat.xor_comm r, Nat.xor_comm r] at h3
  obtain ⟨e1, e2, e3, e4⟩ := four_inj ba bb bc ba' bb' bc' (xor_cancel _ _ _ h3)
  exact ⟨UInt8.toNat_inj.1 e1, UInt8.toNat_inj.1 e2, UInt8.toNat_inj.1 e3, UInt8.toNat_inj.1 e4⟩

theorem sumB_lt (l : List UInt8) : sumB l < 4294967296 := by unfold sumB M32; omega
theorem addB_lt (s : Nat) (l : List UInt8) : addB s l < 4294967296 := by unfold addB M32; omega
theorem addB_zero (l : List UInt8) : addB 0 l = sumB l := rfl
theorem addB_append (s : Nat) (a b : List UInt8) : addB s (a ++ b) = addB (addB s a) b := by
  have h := runB_lt a (M32 - s) (by unfold M32; omega)
  unfold addB
  rw [runB_append]
  have : M32 - (M32 - runB (M32 - s) a) = runB (M32 - s) a := by unfold M32 at *; omega
  rw [this]
theorem sumB_append (a b : List UInt8) : sumB (a ++ b) = addB (sumB a) b := addB_append 0 a b

/-- trailing noughts, below 2^8 -/
def tz (n : Nat) : Nat := if n % 2 = 1 then 0 else if n % 4 = 2 then 1 else if n % 8 = 4 then 2 else if n % 16 = 8 then 3 else if n % 32 = 16 then 4 else if n % 64 = 32 then 5 else if n % 128 = 64 then 6 else 7
theorem table_step : ∀ i, i < 256 → 0 < i → ei (i &&& (i - 1)) ^^^ ei (2 ^ tz i) = ei i := by decide +kernel
theorem tz_lt (n : Nat) : tz n < 8 := by unfold tz; repeat' split
                                         all_goals omega
theorem and_lt' : ∀ i, i < 256 → 0 < i → i &&& (i - 1) < i := by decide +kernel

/-- '^x' on 32 bits -/
theorem not32 (a : Nat) (h : a < 4294967296) : 4294967295 ^^^ a = 4294967295 - a := by
  apply Nat.eq_of_testBit_eq
  intro i
  rw [Nat.testBit_xor, show (4294967295 : Nat) = 2 ^ 32 - 1 by rfl, Nat.testBit_two_pow_sub_one, show 2 ^ 32 - 1 - a = 2 ^ 32 - (a + 1) by omega, Nat.testBit_two_pow_sub_succ (by omega)]
  by_cases hi : i < 32
  · simp [hi]
  · have : a.testBit i = false := Nat.testBit_lt_two_pow (Nat.lt_of_lt_of_le h (show 4294967296 ≤ 2 ^ i from Nat.pow_le_pow_right (n := 2) (i := 32) (by decide) (by omega)))
    simp [hi, this]
end Go.Proofs.YtnddkpemoljhoaaGreatDoor
