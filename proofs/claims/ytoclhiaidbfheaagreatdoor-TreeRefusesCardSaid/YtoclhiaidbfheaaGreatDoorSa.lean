/- super's lay, number and bit. -/
import Derived.Test.YtoclhiaidbfheaaGreatDoorBg
import Derived.Test.YtoclhiaidbfheaaGreatDoorBk
set_option linter.unusedVariables false
namespace Go.Proofs.YtoclhiaidbfheaaGreatDoor
open Go.RowKit

set_option maxHeartbeats 1000000 in
theorem slay_any (w : World) (bb c : Nat) (T : TypeId) (pre post mid : List UInt8) (n : Nat) (h8 : mid.length ≤ 8) (hb : Holds8 w bb T (pre ++ (mid ++ post))) :
    Calls Tryz.prog 202 #[.slice (some ⟨bb, pre.length, none⟩) mid.length c, .int .u64 n] w fun e w' => e = .returned (.tuple #[]) ∧ Holds8 w' bb T (pre ++ (leN mid.length n ++ post)) ∧ Apart2 w w' bb bb := by
  go_enter Tryz.func202, Tryz.ntmps202
  go_wp2
  go_loopw [7, 4] (fun j x wr => ∃ i : Nat, i ≤ mid.length ∧ j = .int .i64 (i : Int) ∧ Holds8 wr bb T (pre ++ (leN i n ++ (mid.drop i ++ post))) ∧ Apart2 w wr bb bb) (fun j _ _ => mid.length - (intOf j).toNat)
  case atStart => exact ⟨0, Nat.zero_le _, rfl, by simpa [leN] using hb, Apart2.refl _ _ _⟩
  case round =>
    obtain ⟨i, hi, rfl, H0, H2⟩ := hrel
    by_cases hlt : i < mid.length
    · have hltI : (i : Int) < (mid.length : Int) := by omega
      have hlen : pre.length + i < (pre ++ (leN i n ++ (mid.drop i ++ post))).length := by simp [leN_length]; omega
      have hfz := H0.frozen (pre.length + i)
      obtain ⟨u0, hc0⟩ : ∃ u, wr.cell? ⟨bb, pre.length + i, none⟩ = some u := ⟨_, H0.cell (pre.length + i) hlen⟩
      have HS := Lib.hid (H0.set (pre.length + i) (UInt8.ofNat (n / 256 ^ i)))
      rw [set_mid _ _ _ _ _ _ (leN_length i n) hlt, ← leN_snoc] at HS
      clear H0 hb hlen
      go_wp2
      rw [shr_val]
      go_roundw
      case rel => exact ⟨i + 1, hlt, by go_num, HS.out, H2.setCell _ _ (.inl rfl)⟩
      case measure => simp [intOf]; omega
    · obtain rfl : i = mid.length := by omega
      have hltI : ¬ (mid.length : Int) < (mid.length : Int) := by omega
      have HS := Lib.hid H0
      clear H0 hb
      go_wp2
      go_end0
      rw [List.drop_length] at HS
      exact ⟨rfl, by simpa using HS.out, H2⟩

set_option maxHeartbeats 1000000 in
theorem snumber_any (w : World) (B : Nat) (A : Option Addr) (c : Nat) (l : List UInt8) (hs : Shows w B A l.length (cells8 l)) (h8 : l.length ≤ 8) :
    Calls Tryz.prog 230 #[.slice A l.length c] w fun e w' => e = .returned (.int .u64 ((numN l : Nat) : Int)) ∧ w' = w := by
  go_enter Tryz.func230, Tryz.ntmps230
  go_wp2
  go_loop [3, 4, 5, 8] (fun x y z j => ∃ i : Nat, i ≤ l.length ∧ j = .int .i64 (i : Int) ∧ x = .int .u64 ((numN (l.take i) : Nat) : Int)) (fun _ _ _ j => l.length - (intOf j).toNat)
  case atStart => exact ⟨0, Nat.zero_le _, rfl, rfl⟩
  case round =>
    obtain ⟨i, hi, rfl, rfl⟩ := hrel
    by_cases hlt : i < l.length
    · obtain ⟨p, u, rfl, hp, hu, hcl⟩ := hs.cell hlt
      rw [cells8_get l i hlt] at hu
      injection hu with hu
      subst hu
      have hltI : (i : Int) < (l.length : Int) := by omega
      have hx := numN_take_lt l i hi
      have HN := Lib.hid (numN_take l i hlt)
      generalize l[i]'hlt = b at *
      generalize numN (l.take i) = x at *
      have HO := Lib.hid (or_shl x b i hx (by omega))
      clear hx hs
      go_wp2
      rw [HO.out]
      go_round
      case rel => exact ⟨i + 1, hlt, by go_num, by rw [HN.out]⟩
      case measure => simp [intOf]; omega
    · obtain rfl : i = l.length := by omega
      have hltI : ¬ (l.length : Int) < (l.length : Int) := by omega
      have HE := Lib.hid (show l.take l.length = l from List.take_length)
      clear hs
      go_wp2
      go_ret
      exact ⟨by first | rfl | rw [HE.out], rfl⟩
def bitN (b : Bool) : Nat := match b with | true => 1 | false => 0
theorem bit_any (w : World) (b : Bool) : Calls Tryz.prog 233 #[.bool b] w fun e w' => e = .returned (.int .u64 ((bitN b : Nat) : Int)) ∧ w' = w := by
  cases b with
  | true =>
    go_enter Tryz.func233, Tryz.ntmps233
    go_wp2
    go_ret
    exact ⟨rfl, rfl⟩
  | false =>
    go_enter Tryz.func233, Tryz.ntmps233
    go_wp2
    go_ret
    exact ⟨rfl, rfl⟩
end Go.Proofs.YtoclhiaidbfheaaGreatDoor
