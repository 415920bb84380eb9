/- The program's read, and its next. -/
import Derived.Test.YtmfcbndgambfmaaDoorBd
import Derived.Deep.RegionHeld3
import Derived.Deep.RegionHeldLaw
set_option linter.unusedVariables false
namespace Go.Proofs.YtmfcbndgambfmaaDoor
open Go.RowKit

theorem or_shl (x : Nat) (b : UInt8) (i : Nat) (hx : x < 256 ^ i) (hi : i < 8) : bits .or .u64 (x : Int) (IntKind.u64.wrap (IntKind.u64.wrap (b.toNat : Int) * 2 ^ (8 * i))) = ((x + 256 ^ i * b.toNat : Nat) : Int) := by
  have hb := b.toNat_lt
  have hp : (256 : Nat) ^ i ≤ 256 ^ 7 := Nat.pow_le_pow_right (by omega) (by omega)
  have hm : 256 ^ i * b.toNat ≤ 256 ^ 7 * 255 := Nat.mul_le_mul hp (by omega)
  have e0 : IntKind.u64.wrap (b.toNat : Int) = (b.toNat : Int) := by rw [IntKind.wrap_u64]; omega
  have e1 : ((b.toNat : Int) * 2 ^ (8 * i)) = ((256 ^ i * b.toNat : Nat) : Int) := by
    rw [Int.natCast_mul, Int.natCast_pow, Int.mul_comm, Int.pow_mul]
    rfl
  have e2 : IntKind.u64.wrap ((256 ^ i * b.toNat : Nat) : Int) = ((256 ^ i * b.toNat : Nat) : Int) := by rw [IntKind.wrap_u64]; omega
  have hl : 256 ^ i * b.toNat < 18446744073709551616 := by omega
  rw [e0, e1, e2, u64_or_nat _ _ (by omega) hl]
  have := Nat.two_pow_add_eq_or_of_lt (i := 8 * i) (b := x) (by rw [Nat.pow_mul]; exact hx) b.toNat
  rw [Nat.pow_mul] at this
  rw [Nat.or_comm, ← this]
  simp only [Nat.reducePow]
  congr 1
  omega
theorem numN_take (l : List UInt8) (i : Nat) (h : i < l.length) : numN (l.take (i + 1)) = numN (l.take i) + 256 ^ i * (l[i]'h).toNat := by
  rw [List.take_succ_eq_append_getElem h, numN_snoc, List.length_take, Nat.min_eq_left (by omega)]
theorem numN_take_lt (l : List UInt8) (i : Nat) (h : i ≤ l.length) : numN (l.take i) < 256 ^ i := by
  have := numN_lt (l.take i)
  rwa [List.length_take, Nat.min_eq_left h] at this

end Go.Proofs.YtmfcbndgambfmaaDoor
