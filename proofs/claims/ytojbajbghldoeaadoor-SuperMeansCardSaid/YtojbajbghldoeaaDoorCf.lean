/- Walks: the document's own answers: run, Sum, Add, Table; the chapter's row. -/
import Derived.Test.YtojbajbghldoeaaDoorCe
import Derived.Laws.BytesString
import Derived.Laws.IdiomStrings
namespace Go.Proofs.YtojbajbghldoeaaDoor
open Go.RowKit

theorem in32 (r : Nat) (b : UInt8) (h : r < 4294967296) : bits .xor .u32 (r : Int) (b.toNat : Int) = ((r ^^^ b.toNat : Nat) : Int) := u32_xor_nat _ _ h (byte_lt32 b)

set_option maxHeartbeats 1000000 in
theorem rrun_any (B : Nat) (A : Option Addr) (c : Nat) (l : List UInt8) (r : Nat) (w : World) (hs : Shows w B A l.length (cells8 l)) (h : r < 4294967296) (hl : l.length ≤ 9223372036854775807) :
    Calls Tryd.prog 83 #[.int .u32 r, .slice A l.length c] w fun e w' => e = .returned (.int .u32 ((runB r l : Nat) : Int)) ∧ w' = w := by
  go_enter Tryd.func83, Tryd.ntmps83
  go_wp2
  go_loop [0, 5] (fun x j => ∃ i : Nat, i ≤ l.length ∧ j = .int .i64 (i : Int) ∧ x = .int .u32 ((runB r (l.take i) : Nat) : Int)) (fun _ j => l.length - (intOf j).toNat)
  case atStart => exact ⟨0, Nat.zero_le _, rfl, rfl⟩
  case round =>
    obtain ⟨i, hi, rfl, rfl⟩ := hrel
    by_cases hlt : i < l.length
    · obtain ⟨p, u, rfl, hp, hu, hcl⟩ := hs.cell hlt
      rw [cells8_get l i hlt] at hu
      injection hu with hu
      subst hu
      have hnx := Lib.hid (run_take r l i hlt)
      have hrl := runB_lt (l.take i) r h
      generalize hx : runB r (l.take i) = x at *
      generalize hb : l[i] = b at *
      clear hx hb
      have h1 := in32 x b hrl
      have hwb : IntKind.u32.wrap (b.toNat : Int) = (b.toNat : Int) := by rw [IntKind.wrap_u32']; have := b.toNat_lt; omega
      have h2 := xor_lt32 _ _ hrl (byte_lt32 b)
      have he : ∀ w, Calls Tryd.prog 90 #[.int .u32 ((x ^^^ b.toNat : Nat) : Int)] w fun e w' => e = .returned (.int .u32 ((ei (x ^^^ b.toNat) : Nat) : Int)) ∧ w' = w := fun w => eight_any _ w h2
      generalize x ^^^ b.toNat = y at *
      clear hs h
      generalize ei y = z at *
      have HE := Lib.hid he
      clear he
      go_wp2_with fail
      refine (HE.out _).mono ?_
      rintro e w' ⟨rfl, rfl⟩
      go_wp2
      go_round
      case rel => exact ⟨i + 1, hlt, val_int (by omega), by rw [hnx.out]⟩
      case measure => simp [intOf]; omega
    · have : i = l.length := by omega
      subst this
      rw [List.take_length]
      clear hs
      go_wp2
      go_ret
      exact ⟨rfl, rfl⟩

theorem sub32 (x : Nat) (h : x < 4294967296) : IntKind.u32.wrap (4294967295 - (x : Int)) = ((M32 - x : Nat) : Int) := by rw [IntKind.wrap_u32']; unfold M32; omega

set_option maxHeartbeats 1000000 in
theorem rsum_any (B : Nat) (A : Option Addr) (c : Nat) (l : List UInt8) (w : World) (hs : Shows w B A l.length (cells8 l)) (hl : l.length ≤ 9223372036854775807) :
    Calls Tryd.prog 74 #[.slice A l.length c] w fun e w' => e = .returned (.int .u32 ((sumB l : Nat) : Int)) ∧ w' = w := by
  have hM : M32 < 4294967296 := by decide
  have hr := Lib.hid (rrun_any B A c l M32 w hs hM hl)
  have hsb := sub32 _ (runB_lt l M32 hM)
  have hfin : M32 - runB M32 l = sumB l := rfl
  rw [hfin] at hsb
  generalize runB M32 l = x at *
  clear hs hM hfin
  go_enter Tryd.func74, Tryd.ntmps74
  go_wp2_with (go_at_call 83; refine hr.out.mono ?_; rintro e w1 ⟨rfl, rfl⟩)
  go_ret
  exact ⟨rfl, rfl⟩

end Go.Proofs.YtojbajbghldoeaaDoor
