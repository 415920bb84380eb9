/- The document's Low, Number, Summed. -/
import Derived.Test.YtnddkpemoljhoaaGreatDoorBh
import Derived.LoopTactic
set_option linter.unusedVariables false
namespace Go.Proofs.YtnddkpemoljhoaaGreatDoor
open Go.RowKit

theorem u8_info : (Tryz.prog.info? 5).map (fun i => (i.zero, i.size, i.bytes)) = some (some (.int .u8 0), 1, 1) := by kernel_rfl
theorem low_cell (n i : Nat) : cells8 (leN i n) ++ [.int .u8 (((n / 256 ^ i : Nat) : Int) % 256)] = cells8 (leN (i + 1) n) := by
  have h := shr_val n i
  have e : ((n : Int) / 2 ^ (8 * i) % 256) = (((n / 256 ^ i : Nat) : Int) % 256) := by
    have e1 : ((2 : Int) ^ (8 * i)) = ((256 ^ i : Nat) : Int) := by rw [Int.natCast_pow, Int.pow_mul]; rfl
    rw [e1, Int.natCast_ediv]
  rw [e] at h
  rw [h, leN_snoc, cells8_append]
  rfl
theorem low_next (n i : Nat) : n / 256 ^ i / 256 = n / 256 ^ (i + 1) := by rw [Nat.div_div_eq_div_mul, Nat.pow_succ]

theorem numN_drop (l : List UInt8) (m : Nat) (h : m < l.length) : numN (l.drop m) = (l[m]'h).toNat + 256 * numN (l.drop (m + 1)) := by
  rw [List.drop_eq_getElem_cons h, numN]
theorem numN_drop_lt (l : List UInt8) (m : Nat) (h8 : l.length ≤ 8) : numN (l.drop m) < 18446744073709551616 := by
  have h := numN_lt (l.drop m)
  have : 256 ^ (l.drop m).length ≤ 256 ^ 8 := Nat.pow_le_pow_right (by omega) (by simp; omega)
  have e : (256 : Nat) ^ 8 = 18446744073709551616 := by decide
  omega

end Go.Proofs.YtnddkpemoljhoaaGreatDoor
