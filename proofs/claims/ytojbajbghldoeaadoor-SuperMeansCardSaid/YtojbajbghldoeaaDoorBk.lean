/- The document's Low, Number, Summed. -/
import Derived.Test.YtojbajbghldoeaaDoorBh
import Derived.LoopTactic
set_option linter.unusedVariables false
namespace Go.Proofs.YtojbajbghldoeaaDoor
open Go.RowKit

theorem u8_info : (Tryd.prog.info? 5).map (fun i => (i.zero, i.size, i.bytes)) = some (some (.int .u8 0), 1, 1) := by kernel_rfl
theorem low_cell (n i : Nat) : cells8 (leN i n) ++ [.int .u8 (((n / 256 ^ i : Nat) : Int) % 256)] = cells8 (leN (i + 1) n) := by
  have h := shr_val n i
  have e : ((n : Int) / 2 ^ (8 * i) % 256) = (((n / 256 ^ i : Nat) : Int) % 256) := by
    have e1 : ((2 : Int) ^ (8 * i)) = ((256 ^ i : Nat) : Int) := by rw [Int.natCast_pow, Int.pow_mul]; rfl
    rw [e1, Int.natCast_ediv]
  rw [e] at h
  rw [h, leN_snoc, cells8_append]
  rfl
theorem low_next (n i : Nat) : n / 256 ^ i / 256 = n / 256 ^ (i + 1) := by rw [Nat.div_div_eq_div_mul, Nat.pow_succ]

set_option maxHeartbeats 1000000 in
theorem rlow_any (n k : Nat) (w : World) (hn : n < 18446744073709551616) (hk : k ≤ 8) :
    Calls Tryd.prog 47 #[.int .u64 (n : Int), .int .i64 (k : Int)] w fun e w' => ∃ v, e = .returned v ∧ w'.ownsRow w.heap.size 5 1 v k (cells8 (leN k n)) ∧ Below w.heap.size w w' := by
  obtain ⟨i0, hi0, hz0, hz1, hz2⟩ := info_parts u8_info
  go_enter Tryd.func47, Tryd.ntmps47
  go_wp2
  go_loopw [0, 5, 6] (fun x v j wr => ∃ i : Nat, i ≤ k ∧ j = .int .i64 (i : Int) ∧ x = .int .u64 ((n / 256 ^ i : Nat) : Int) ∧ wr.ownsRow w.heap.size 5 1 v i (cells8 (leN i n)) ∧ Below w.heap.size w wr) (fun _ _ j _ => k - (intOf j).toNat)
  case atStart => exact ⟨0, Nat.zero_le _, rfl, by simp, ⟨rfl, .inl ⟨rfl, rfl⟩⟩, Below.refl _ _⟩
  case round =>
    obtain ⟨i, hi, rfl, rfl, hown, hbr⟩ := hrel
    have hdiv : n / 256 ^ i ≤ n := Nat.div_le_self _ _
    have HC := Lib.hid (low_cell n i)
    have HN := Lib.hid (low_next n i)
    generalize n / 256 ^ i = x at *
    by_cases hlt : i < k
    · have hbs := hbr.size
      go_wp2_with (first
        | (at_builtin; refine wpList_append_shows _ rfl (.tmp 12) (.tmp 16) 61 rfl w.heap.size 5 i0 (.int .u8 0) 1 Tryd.underlying61 hi0 hz0 hz1 hz2 rfl _ i (cells8 (leN i n)) rfl (hown.alloc _) (wr.heap.size + 1) (some ⟨wr.heap.size, 0, none⟩) 1 1 [.int .u8 ((x : Int) % 256)] rfl (shows_new wr #[.int .u8 ((x : Int) % 256)] 5) (by simp [Value.oneCell']) (by unfold maxLen; omega) (by omega) (by simp; omega) ?_; intro v1 w1 hown1 hg1)
        | fail)
      have hb1 : Below w.heap.size w w1 := (hbr.alloc hbs _).trans (hg1.below (hown.alloc _) (Nat.le_refl _) (by simp; omega))
      rw [HC.out] at hown1
      clear hg1 hown
      go_wp2
      go_roundw
      case rel => exact ⟨i + 1, hlt, by go_num, by rw [← HN.out]; go_num, hown1, hb1⟩
      case measure => simp [intOf]; omega
    · obtain rfl : i = k := by omega
      go_wp2
      go_ret
      exact ⟨_, rfl, hown, hbr⟩

theorem numN_drop (l : List UInt8) (m : Nat) (h : m < l.length) : numN (l.drop m) = (l[m]'h).toNat + 256 * numN (l.drop (m + 1)) := by
  rw [List.drop_eq_getElem_cons h, numN]
theorem numN_drop_lt (l : List UInt8) (m : Nat) (h8 : l.length ≤ 8) : numN (l.drop m) < 18446744073709551616 := by
  have h := numN_lt (l.drop m)
  have : 256 ^ (l.drop m).length ≤ 256 ^ 8 := Nat.pow_le_pow_right (by omega) (by simp; omega)
  have e : (256 : Nat) ^ 8 = 18446744073709551616 := by decide
  omega

set_option maxHeartbeats 1000000 in
theorem rnumber_any (w : World) (B : Nat) (A : Option Addr) (c : Nat) (l : List UInt8) (hs : Shows w B A l.length (cells8 l)) (h8 : l.length ≤ 8) :
    Calls Tryd.prog 50 #[.slice A l.length c] w fun e w' => e = .returned (.int .u64 ((numN l : Nat) : Int)) ∧ w' = w := by
  go_enter Tryd.func50, Tryd.ntmps50
  go_wp2
  go_loop [3, 4] (fun x j => ∃ (k : Nat) (z : Int), k ≤ l.length ∧ z = (k : Int) - 1 ∧ j = .int .i64 z ∧ x = .int .u64 ((numN (l.drop k) : Nat) : Int)) (fun _ j => (intOf j + 1).toNat)
  case atStart => exact ⟨l.length, _, Nat.le_refl _, rfl, rfl, by simp [numN]⟩
  case round =>
    obtain ⟨k, z, hk, hz, rfl, rfl⟩ := hrel
    rcases Nat.eq_zero_or_pos k with rfl | hk0
    · obtain rfl : z = -1 := by omega
      rw [List.drop_zero]
      clear hz
      go_wp2
      go_ret
      exact ⟨rfl, rfl⟩
    · obtain ⟨m, rfl⟩ : ∃ m, k = m + 1 := ⟨k - 1, by omega⟩
      obtain rfl : z = (m : Int) := by omega
      have hm : m < l.length := by omega
      obtain ⟨p, u, rfl, hp, hu, hcl⟩ := hs.cell hm
      rw [cells8_get l m hm] at hu
      injection hu with hu
      subst hu
      have hd := Lib.hid (numN_drop l m hm)
      have hb := numN_drop_lt l m h8
      rw [hd.out] at hb
      generalize numN (l.drop (m + 1)) = x at *
      generalize l[m]'hm = b at *
      have hmI : (m : Int) < (l.length : Int) := by omega
      have hbt := b.toNat_lt
      have hx1 : (x : Int) * 256 + (b.toNat : Int) < 18446744073709551616 := by omega
      clear hz hs
      go_wp2
      go_round
      case rel => exact ⟨m, _, by omega, rfl, rfl, by rw [hd.out]; go_num⟩
      case measure => simp [intOf]
end Go.Proofs.YtojbajbghldoeaaDoor
