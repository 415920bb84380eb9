/- Walks of appendNumber and number of package wire. -/
import Derived.Test.YtpkbkliblbbdcaaProg
import Derived.Test.YtpkbkliblbbdcaaSpec
import Derived.Test.YtpkbkliblbbdcaaMem
import Derived.WalkKit
import Derived.WalkSpells
import Derived.WalkLawsBesides
import Derived.Lib.Hide
namespace Go.Proofs.Ytpkbkliblbbdcaa
open Go.RowKit
set_option maxRecDepth 20000

theorem u8_info : (Try.prog.info? 5).map (fun i => (i.zero, i.size, i.bytes)) = some (some (.int .u8 0), 1, 1) := by kernel_rfl

theorem low_cells {n i x : Nat} (h : n / 256 ^ i = x) : cells8 (low n (i + 1)) = cells8 (low n i) ++ [.int .u8 ((x : Int) % 256)] := by
  rw [low, cells8_append, h]
  simp [cells8]
theorem low_next {n i x : Nat} (h : n / 256 ^ i = x) : ((x : Int) / 256) = ((n / 256 ^ (i + 1) : Nat) : Int) := by
  rw [Nat.pow_succ, ← Nat.div_div_eq_div_mul, h]
  simp

set_option maxHeartbeats 1000000 in
theorem appendNumber_any (base : Nat) (v : Value) (k : Nat) (xs : List Value) (n width : Nat) (w : World) (hown : w.ownsRow base 5 1 v k xs) (hbase : base ≤ w.heap.size)
    (_hn : n < 18446744073709551616) (hw : width ≤ 8) (hk : k ≤ 70368744177664) :
    Calls Try.prog 65 #[v, .int .u64 n, .int .i64 width] w fun e w' => ∃ v', e = .returned v' ∧ w'.ownsRow base 5 1 v' (k + width) (xs ++ cells8 (low n width)) ∧ Grew w w' v v' := by
  obtain ⟨i0, hi, hz0, hz1, hz2⟩ := info_parts u8_info
  go_enter Try.func65, Try.ntmps65
  go_wp2
  go_loopw [0, 1, 8] (fun u x j wr => ∃ i : Nat, i ≤ width ∧ j = .int .i64 i ∧ x = .int .u64 ((n / 256 ^ i : Nat) : Int) ∧ wr.ownsRow base 5 1 u (k + i) (xs ++ cells8 (low n i)) ∧ Grew w wr v u)
    (fun _ _ j _ => width - (intOf j).toNat)
  case atStart => exact ⟨0, Nat.zero_le _, rfl, by simp, by simpa [low, cells8] using hown, Grew.refl _ _⟩
  case round =>
    obtain ⟨i, hiw, rfl, rfl, how, hg⟩ := hrel
    have hdiv : n / 256 ^ i ≤ n := Nat.div_le_self _ _
    generalize hx : n / 256 ^ i = x at *
    have HX := Lib.hid hx
    clear hx
    by_cases hlt : i < width
    · go_wp2_with (at_builtin; refine wpList_append_shows _ rfl (.tmp 10) (.tmp 13) 24 rfl base 5 i0 (.int .u8 0) 1 Try.underlying24 hi hz0 hz1 hz2 rfl _ _ _ rfl (how.alloc _) (wr.heap.size + 1) _ 1 1 [.int .u8 ((x : Int) % 256)] rfl (shows_new wr _ _) (by simp [Value.oneCell']) (by unfold maxLen; omega) (by omega) (by have := hg.by_.size; simp; omega) ?_; intro v' w1 hown' hgrow)
      go_roundw
      case rel => exact ⟨i + 1, hlt, by go_num, val_int (low_next HX.out), by rw [low_cells HX.out, ← List.append_assoc]; exact hown', (hg.alloc _).trans hgrow⟩
      case measure => simp [intOf]; omega
    · go_wp2
      go_ret
      obtain rfl : i = width := by omega
      exact ⟨_, rfl, how, hg⟩

set_option maxHeartbeats 1000000 in
theorem number_any (B : Nat) (A : Option Addr) (c : Nat) (l : List UInt8) (w : World) (hs : Shows w B A l.length (cells8 l)) (hl : l.length ≤ 8) :
    Calls Try.prog 68 #[.slice A l.length c] w fun e w' => e = .returned (.int .u64 (num8 l : Int)) ∧ w = w' := by
  go_enter Try.func68, Try.ntmps68
  go_wp2
  go_loop [3, 8] (fun x j => ∃ i : Nat, i ≤ l.length ∧ j = .int .i64 i ∧ x = .int .u64 ((num8 (l.take i) : Nat) : Int))
    (fun _ j => l.length - (intOf j).toNat)
  case atStart => exact ⟨0, Nat.zero_le _, rfl, by simp [num8]⟩
  case round =>
    obtain ⟨i, hiw, rfl, rfl⟩ := hrel
    by_cases hlt : i < l.length
    · obtain ⟨p, u, rfl, hp, hu, hcell⟩ := hs.cell hlt
      rw [cells8_get l i hlt] at hu
      injection hu with hu
      subst hu
      generalize hx : num8 (l.take i) = x at *
      have HX := Lib.hid hx
      clear hx
      have hxl : x < 256 ^ i := by
        have := num8_lt (l.take i)
        rw [List.length_take, Nat.min_eq_left (by omega), HX.out] at this
        exact this
      have HL := Lib.hid hxl
      clear hxl
      go_wp2
      go_round
      case rel => exact ⟨i + 1, hlt, by go_num, val_int (by rw [or_step x i _ (by omega) HL.out, num8_take l i hlt, HX.out])⟩
      case measure => simp [intOf]; omega
    · go_wp2
      go_ret
      obtain rfl : i = l.length := by omega
      exact ⟨by simp, rfl⟩

theorem number_at (B : Nat) (A : Option Addr) (n c : Nat) (l : List UInt8) (w : World) (hs : Shows w B A n (cells8 l)) (hl : n ≤ 8) :
    Calls Try.prog 68 #[.slice A n c] w fun e w' => e = .returned (.int .u64 (num8 l : Int)) ∧ w = w' := by
  have e : n = l.length := by rw [← hs.len, cells8_length]
  subst e
  exact number_any B A c l w hs hl

end Go.Proofs.Ytpkbkliblbbdcaa
