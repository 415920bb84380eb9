/- The walk of the document's Hex. -/
import Derived.Test.YtfkjgebbaahnmaaHexd
namespace Go.Proofs.Ytfkjgebbaahnmaa
open Go.RowKit

theorem hexc0 (w : World) : (Instr.slice 9 (.string ⟨#[48, 49, 50, 51, 52, 53, 54, 55, 56, 57, 97, 98, 99, 100, 101, 102]⟩) (some (.int .u8 0)) (some (.int .u8 1)) none).run Try.prog w = .ok (.string ⟨#[hexD 0]⟩) w := by kernel_rfl
theorem hexc1 (w : World) : (Instr.slice 9 (.string ⟨#[48, 49, 50, 51, 52, 53, 54, 55, 56, 57, 97, 98, 99, 100, 101, 102]⟩) (some (.int .u8 1)) (some (.int .u8 2)) none).run Try.prog w = .ok (.string ⟨#[hexD 1]⟩) w := by kernel_rfl
theorem hexc2 (w : World) : (Instr.slice 9 (.string ⟨#[48, 49, 50, 51, 52, 53, 54, 55, 56, 57, 97, 98, 99, 100, 101, 102]⟩) (some (.int .u8 2)) (some (.int .u8 3)) none).run Try.prog w = .ok (.string ⟨#[hexD 2]⟩) w := by kernel_rfl
theorem hexc3 (w : World) : (Instr.slice 9 (.string ⟨#[48, 49, 50, 51, 52, 53, 54, 55, 56, 57, 97, 98, 99, 100, 101, 102]⟩) (some (.int .u8 3)) (some (.int .u8 4)) none).run Try.prog w = .ok (.string ⟨#[hexD 3]⟩) w := by kernel_rfl
theorem hexc4 (w : World) : (Instr.slice 9 (.string ⟨#[48, 49, 50, 51, 52, 53, 54, 55, 56, 57, 97, 98, 99, 100, 101, 102]⟩) (some (.int .u8 4)) (some (.int .u8 5)) none).run Try.prog w = .ok (.string ⟨#[hexD 4]⟩) w := by kernel_rfl
theorem hexc5 (w : World) : (Instr.slice 9 (.string ⟨#[48, 49, 50, 51, 52, 53, 54, 55, 56, 57, 97, 98, 99, 100, 101, 102]⟩) (some (.int .u8 5)) (some (.int .u8 6)) none).run Try.prog w = .ok (.string ⟨#[hexD 5]⟩) w := by kernel_rfl
theorem hexc6 (w : World) : (Instr.slice 9 (.string ⟨#[48, 49, 50, 51, 52, 53, 54, 55, 56, 57, 97, 98, 99, 100, 101, 102]⟩) (some (.int .u8 6)) (some (.int .u8 7)) none).run Try.prog w = .ok (.string ⟨#[hexD 6]⟩) w := by kernel_rfl
theorem hexc7 (w : World) : (Instr.slice 9 (.string ⟨#[48, 49, 50, 51, 52, 53, 54, 55, 56, 57, 97, 98, 99, 100, 101, 102]⟩) (some (.int .u8 7)) (some (.int .u8 8)) none).run Try.prog w = .ok (.string ⟨#[hexD 7]⟩) w := by kernel_rfl
theorem hexc8 (w : World) : (Instr.slice 9 (.string ⟨#[48, 49, 50, 51, 52, 53, 54, 55, 56, 57, 97, 98, 99, 100, 101, 102]⟩) (some (.int .u8 8)) (some (.int .u8 9)) none).run Try.prog w = .ok (.string ⟨#[hexD 8]⟩) w := by kernel_rfl
theorem hexc9 (w : World) : (Instr.slice 9 (.string ⟨#[48, 49, 50, 51, 52, 53, 54, 55, 56, 57, 97, 98, 99, 100, 101, 102]⟩) (some (.int .u8 9)) (some (.int .u8 10)) none).run Try.prog w = .ok (.string ⟨#[hexD 9]⟩) w := by kernel_rfl
theorem hexc10 (w : World) : (Instr.slice 9 (.string ⟨#[48, 49, 50, 51, 52, 53, 54, 55, 56, 57, 97, 98, 99, 100, 101, 102]⟩) (some (.int .u8 10)) (some (.int .u8 11)) none).run Try.prog w = .ok (.string ⟨#[hexD 10]⟩) w := by kernel_rfl
theorem hexc11 (w : World) : (Instr.slice 9 (.string ⟨#[48, 49, 50, 51, 52, 53, 54, 55, 56, 57, 97, 98, 99, 100, 101, 102]⟩) (some (.int .u8 11)) (some (.int .u8 12)) none).run Try.prog w = .ok (.string ⟨#[hexD 11]⟩) w := by kernel_rfl
theorem hexc12 (w : World) : (Instr.slice 9 (.string ⟨#[48, 49, 50, 51, 52, 53, 54, 55, 56, 57, 97, 98, 99, 100, 101, 102]⟩) (some (.int .u8 12)) (some (.int .u8 13)) none).run Try.prog w = .ok (.string ⟨#[hexD 12]⟩) w := by kernel_rfl
theorem hexc13 (w : World) : (Instr.slice 9 (.string ⟨#[48, 49, 50, 51, 52, 53, 54, 55, 56, 57, 97, 98, 99, 100, 101, 102]⟩) (some (.int .u8 13)) (some (.int .u8 14)) none).run Try.prog w = .ok (.string ⟨#[hexD 13]⟩) w := by kernel_rfl
theorem hexc14 (w : World) : (Instr.slice 9 (.string ⟨#[48, 49, 50, 51, 52, 53, 54, 55, 56, 57, 97, 98, 99, 100, 101, 102]⟩) (some (.int .u8 14)) (some (.int .u8 15)) none).run Try.prog w = .ok (.string ⟨#[hexD 14]⟩) w := by kernel_rfl
theorem hexc15 (w : World) : (Instr.slice 9 (.string ⟨#[48, 49, 50, 51, 52, 53, 54, 55, 56, 57, 97, 98, 99, 100, 101, 102]⟩) (some (.int .u8 15)) (some (.int .u8 16)) none).run Try.prog w = .ok (.string ⟨#[hexD 15]⟩) w := by kernel_rfl
theorem hex_cut (n : Nat) (hn : n < 16) (w : World) : (Instr.slice 9 (.string ⟨#[48, 49, 50, 51, 52, 53, 54, 55, 56, 57, 97, 98, 99, 100, 101, 102]⟩) (some (.int .u8 (n : Int))) (some (.int .u8 ((n : Int) + 1))) none).run Try.prog w = .ok (.string ⟨#[hexD n]⟩) w := by
  match n, hn with
  | 0, _ => exact hexc0 w
  | 1, _ => exact hexc1 w
  | 2, _ => exact hexc2 w
  | 3, _ => exact hexc3 w
  | 4, _ => exact hexc4 w
  | 5, _ => exact hexc5 w
  | 6, _ => exact hexc6 w
  | 7, _ => exact hexc7 w
  | 8, _ => exact hexc8 w
  | 9, _ => exact hexc9 w
  | 10, _ => exact hexc10 w
  | 11, _ => exact hexc11 w
  | 12, _ => exact hexc12 w
  | 13, _ => exact hexc13 w
  | 14, _ => exact hexc14 w
  | 15, _ => exact hexc15 w
  | n + 16, h => exact absurd h (by omega)

theorem hex_join (l : List UInt8) (x y : UInt8) : (⟨l.toArray⟩ : ByteArray) ++ ⟨#[x]⟩ ++ ⟨#[y]⟩ = ⟨(l ++ [x, y]).toArray⟩ := by
  apply ByteArray.ext
  simp only [ByteArray.data_append]
  apply Array.ext'
  simp

set_option maxHeartbeats 2000000 in
theorem rhex_any (B : Nat) (A : Option Addr) (cap : Nat) (l : List UInt8) (w : World) (hl : Shows w B A l.length (cells8 l)) (hn : l.length ≤ 1000000) :
    Calls Try.prog 28 #[.slice A l.length cap] w fun e w' => e = .returned (.string ⟨(hexS l).toArray⟩) ∧ Below w.heap.size w w' := by
  go_enter Try.func28, Try.ntmps28
  go_wp2
  go_loopw [4, 5] (fun v j wr => ∃ (i : Nat) (S : ByteArray), i ≤ l.length ∧ j = .int .i64 (i : Int) ∧ v = .string S ∧ Hid (S = ⟨(hexS (l.take i)).toArray⟩) ∧ S.size ≤ 2 * i ∧ ∃ n, wr = w.drewN n) (fun _ j _ => l.length - (intOf j).toNat)
  case atStart => exact ⟨0, ⟨#[]⟩, Nat.zero_le _, rfl, rfl, rfl, by decide, 0, rfl⟩
  case round =>
    obtain ⟨i, S, hp, rfl, rfl, HS, hSz, n, rfl⟩ := hrel
    by_cases hlt : i < l.length
    · obtain ⟨p, u, rfl, hpb, hu, hcell⟩ := hl.cell hlt
      rw [cells8_get l i hlt] at hu
      injection hu with hu
      subst hu
      have hb := (l[i]'hlt).toNat_lt
      generalize hbv : (l[i]'hlt).toNat = b at *
      have HBV := Lib.hid hbv
      clear hbv
      have hil : (i : Int) < (l.length : Int) := by omega
      have ix0 := fun W => hex_cut (b / 16) (by omega) W
      have ix1 := fun W => hex_cut (b % 16) (by omega) W
      have e1 : IntKind.u8.wrap ((b : Int) / 16 + 1) = (b : Int) / 16 + 1 := by rw [IntKind.wrap_u8]; omega
      have e2 : IntKind.u8.wrap ((b : Int) % 16 + 1) = (b : Int) % 16 + 1 := by rw [IntKind.wrap_u8]; omega
      have e3 : ((b / 16 : Nat) : Int) = (b : Int) / 16 := by omega
      have e4 : ((b % 16 : Nat) : Int) = (b : Int) % 16 := by omega
      rw [e3] at ix0
      rw [e4] at ix1
      clear e3 e4
      go_wp2_with fail
      go_quiet (fail)
      clear ix0 ix1 e1 e2 hcell
      go_wp2
      go_roundw
      case rel =>
        refine ⟨i + 1, _, hlt, by go_num, rfl, ?_, ?_, n + nq, ?_⟩
        · show _ = _
          rw [List.take_succ_eq_append_getElem hlt, hexS_snoc, HBV.out, HS.out]
          exact hex_join _ _ _
        · rw [ByteArray.size_append, ByteArray.size_append]
          show S.size + 1 + 1 ≤ _
          omega
        · first | rfl | exact (World.drewN_drewN w n nq)
      case measure => simp [intOf]; omega
    · obtain rfl : i = l.length := by omega
      go_wp2
      go_ret
      exact ⟨by rw [HS.out, List.take_length]; rfl, below_drewN (Below.refl _ _) n⟩

end Go.Proofs.Ytfkjgebbaahnmaa
