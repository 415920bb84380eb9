/- The program's read, and its next. -/
import Derived.Test.YtoclhiaidbfheaaGreatDoorBd
import Derived.Deep.RegionHeld3
import Derived.Deep.RegionHeldLaw
set_option linter.unusedVariables false
namespace Go.Proofs.YtoclhiaidbfheaaGreatDoor
open Go.RowKit

theorem or_shl (x : Nat) (b : UInt8) (i : Nat) (hx : x < 256 ^ i) (hi : i < 8) : bits .or .u64 (x : Int) (IntKind.u64.wrap (IntKind.u64.wrap (b.toNat : Int) * 2 ^ (8 * i))) = ((x + 256 ^ i * b.toNat : Nat) : Int) := by
  have hb := b.toNat_lt
  have hp : (256 : Nat) ^ i ≤ 256 ^ 7 := Nat.pow_le_pow_right (by omega) (by omega)
  have hm : 256 ^ i * b.toNat ≤ 256 ^ 7 * 255 := Nat.mul_le_mul hp (by omega)
  have e0 : IntKind.u64.wrap (b.toNat : Int) = (b.toNat : Int) := by rw [IntKind.wrap_u64]; omega
  have e1 : ((b.toNat : Int) * 2 ^ (8 * i)) = ((256 ^ i * b.toNat : Nat) : Int) := by
    rw [Int.natCast_mul, Int.natCast_pow, Int.mul_comm, Int.pow_mul]
    rfl
  have e2 : IntKind.u64.wrap ((256 ^ i * b.toNat : Nat) : Int) = ((256 ^ i * b.toNat : Nat) : Int) := by rw [IntKind.wrap_u64]; omega
  have hl : 256 ^ i * b.toNat < 18446744073709551616 := by omega
  rw [e0, e1, e2, u64_or_nat _ _ (by omega) hl]
  have := Nat.two_pow_add_eq_or_of_lt (i := 8 * i) (b := x) (by rw [Nat.pow_mul]; exact hx) b.toNat
  rw [Nat.pow_mul] at this
  rw [Nat.or_comm, ← this]
  simp only [Nat.reducePow]
  congr 1
  omega
theorem numN_take (l : List UInt8) (i : Nat) (h : i < l.length) : numN (l.take (i + 1)) = numN (l.take i) + 256 ^ i * (l[i]'h).toNat := by
  rw [List.take_succ_eq_append_getElem h, numN_snoc, List.length_take, Nat.min_eq_left (by omega)]
theorem numN_take_lt (l : List UInt8) (i : Nat) (h : i ≤ l.length) : numN (l.take i) < 256 ^ i := by
  have := numN_lt (l.take i)
  rwa [List.length_take, Nat.min_eq_left h] at this

set_option maxHeartbeats 1000000 in
theorem next_any (w : World) (bb ba at_ : Nat) (l : List UInt8) (hl : l.length = 256) (hat : at_ + 8 ≤ 256) (hb : Holds8 w bb 151 l) (ha : w.heap[ba]? = some (.cells #[.int .i64 (at_ : Int)] 3 (0, 0))) :
    Calls Tryz.prog 252 #[.pointer (some ⟨bb, 0, none⟩), .pointer (some ⟨ba, 0, none⟩)] w fun e w' => e = .returned (.int .u64 ((at8 l at_ : Nat) : Int)) ∧ w' = w.setCell ⟨ba, 0, none⟩ (.int .i64 ((at_ + 8 : Nat) : Int)) := by
  have hc1 := cell_of_one ha
  have hf1 := free_of_one ha
  have HL := Lib.hid hl
  clear hl
  go_enter Tryz.func252, Tryz.ntmps252
  go_wp2
  go_loop [3, 5] (fun x j => ∃ i : Nat, i ≤ 8 ∧ j = .int .i64 (i : Int) ∧ x = .int .u64 ((numN ((l.drop at_).take i) : Nat) : Int)) (fun _ j => 8 - (intOf j).toNat)
  case atStart => exact ⟨0, Nat.zero_le _, rfl, rfl⟩
  case round =>
    obtain ⟨i, hi, rfl, rfl⟩ := hrel
    by_cases hlt : i < 8
    · have hlen : at_ + i < l.length := by rw [HL.out]; omega
      have hc0 := hb.cell (at_ + i) hlen
      have hd : i < (l.drop at_).length := by rw [List.length_drop, HL.out]; omega
      have hx := numN_take_lt (l.drop at_) i (by omega)
      have hn := numN_take (l.drop at_) i hd
      rw [List.getElem_drop] at hn
      have HN := Lib.hid hn
      clear hn hb ha
      generalize l[at_ + i]'hlen = b at *
      generalize numN ((l.drop at_).take i) = x at *
      have HO := Lib.hid (or_shl x b i hx hlt)
      clear hx hlen hd
      go_wp2
      rw [HO.out]
      go_round
      case rel => exact ⟨i + 1, by omega, by go_num, by rw [HN.out]⟩
      case measure => simp [intOf]; omega
    · obtain rfl : i = 8 := by omega
      clear hb ha
      have he : at8 l at_ = numN ((l.drop at_).take 8) := rfl
      have HE := Lib.hid he
      clear he
      generalize numN ((l.drop at_).take 8) = x at *
      go_wp2
      go_ret
      exact ⟨by rw [HE.out]; rfl, by simp⟩
end Go.Proofs.YtoclhiaidbfheaaGreatDoor
