/- Walks: one time, eight times, trailing noughts. -/
import Derived.Test.YtoclhiaidbfheaaGreatDoorProg
import Derived.Test.YtoclhiaidbfheaaGreatDoorCm
import Derived.Test.YtoclhiaidbfheaaGreatDoorMem
import Derived.WalkKit
import Derived.WalkSpells
import Derived.WalkLawsBesides
import Derived.Laws.BitsAllLaws
import Derived.Lib.Hide
namespace Go.Proofs.YtoclhiaidbfheaaGreatDoor
open Go.RowKit

theorem ret_int {k : IntKind} {a b : Int} (h : a = b) : Ending.returned (.int k a) = .returned (.int k b) := by rw [h]
theorem val_int {k : IntKind} {a b : Int} (h : a = b) : Value.int k a = .int k b := by rw [h]
theorem odd32 (r : Nat) (h : r < 4294967296) : bits .and .u32 (r : Int) 1 = (r : Int) % 2 := by
  have e := u32_and_nat r 1 h (by omega)
  rw [Nat.and_one_is_mod] at e
  exact e
theorem poly32 (r : Nat) (h : r < 4294967296) : bits .xor .u32 ((r : Int) / 2) 2197175160 = ((r / 2 ^^^ 2197175160 : Nat) : Int) := u32_xor_nat (r / 2) 2197175160 (by omega) (by omega)
theorem sh_even (r : Nat) (h : (r : Int) % 2 = 0) : (r : Int) / 2 = ((sh r : Nat) : Int) := by unfold sh; rw [if_neg (by omega)]; omega
theorem sh_odd (r : Nat) (h : (r : Int) % 2 = 1) (hr : r < 4294967296) : bits .xor .u32 ((r : Int) / 2) 2197175160 = ((sh r : Nat) : Int) := by rw [poly32 r hr]; unfold sh; rw [if_pos (by omega)]

set_option maxHeartbeats 400000 in
theorem shifted_any (r : Nat) (w : World) (h : r < 4294967296) :
    Calls Tryz.prog 257 #[.int .u32 r] w fun e w' => e = .returned (.int .u32 (sh r)) ∧ w' = w := by
  have h1 := odd32 r h
  rcases (show (r : Int) % 2 = 0 ∨ (r : Int) % 2 = 1 by omega) with hr | hr
  · have hs := Lib.hid (sh_even r hr)
    rw [hr] at h1
    clear hr
    go_enter Tryz.func257, Tryz.ntmps257
    go_wp2
    go_ret
    exact ⟨ret_int hs.out, rfl⟩
  · have hs := Lib.hid (sh_odd r hr h)
    rw [hr] at h1
    clear hr
    go_enter Tryz.func257, Tryz.ntmps257
    go_wp2
    go_ret
    exact ⟨ret_int hs.out, rfl⟩

/-- the library's table -/
def db64 : List Int := [0, 1, 56, 2, 57, 49, 28, 3, 61, 58, 42, 50, 38, 29, 17, 4, 62, 47, 59, 36, 45, 43, 51, 22, 53, 39, 33, 30, 24, 18, 12, 5, 63, 55, 48, 27, 60, 41, 37, 16, 46, 35, 44, 21, 52, 32, 23, 11, 54, 26, 40, 15, 34, 20, 31, 10, 25, 14, 19, 9, 13, 8, 7, 6]
/-- the library's table lies where its variable is -/
def Tabs (w : World) : Prop := ∀ i, i < 64 → w.cell? ⟨2, i, none⟩ = some (.int .u8 (db64.getD i 0))
theorem Tabs.below {w w' : World} {B : Nat} (h : Tabs w) (hb : Below B w w') (hB : 2 < B) : Tabs w' := fun i hi => (hb.cell (p := ⟨2, i, none⟩) hB).trans (h i hi)
theorem Tabs.size {w : World} (h : Tabs w) : 2 < w.heap.size := block_lt_of_cell (h 0 (by omega))
theorem tz_and : ∀ n, n < 256 → 0 < n → bits .and .u64 ((n : Nat) : Int) (IntKind.u64.wrap (-((n : Nat) : Int))) = ((2 ^ tz n : Nat) : Int) := by decide +kernel
theorem db_at : ∀ k : Nat, k < 8 → IntKind.u64.wrap (((2 ^ k : Nat) : Int) * 285870213051353865) / 288230376151711744 < 64 ∧ 0 ≤ IntKind.u64.wrap (((2 ^ k : Nat) : Int) * 285870213051353865) / 288230376151711744 ∧ db64.getD (IntKind.u64.wrap (((2 ^ k : Nat) : Int) * 285870213051353865) / 288230376151711744).toNat 0 = (k : Int) := by decide +kernel
theorem tz_facts (n : Nat) (h : n < 256) (h0 : 0 < n) : ∃ (p q : Int) (d : Nat), bits .and .u64 (n : Int) (IntKind.u64.wrap (-(n : Int))) = p ∧ IntKind.u64.wrap (p * 285870213051353865) = q ∧ q / 288230376151711744 = (d : Int) ∧ d < 64 ∧ db64.getD d 0 = ((tz n : Nat) : Int) := by
  obtain ⟨h1, h2, h3⟩ := db_at (tz n) (tz_lt n)
  exact ⟨_, _, _, tz_and n h h0, rfl, (Int.toNat_of_nonneg h2).symm, by omega, h3⟩

set_option maxHeartbeats 400000 in
theorem tz64_any (n : Nat) (w : World) (h : n < 256) (h0 : 0 < n) (hT : Tabs w) :
    Calls Tryz.prog 259 #[.int .u64 n] w fun e w' => e = .returned (.int .i64 (tz n)) ∧ w' = w := by
  obtain ⟨p, q, d, h1, h2, h3, hlt, h4⟩ := tz_facts n h h0
  have hc := hT d hlt
  rw [h4] at hc
  have hz : ((n : Int) == 0) = false := by simp; omega
  have ht := tz_lt n
  clear h4 h h0
  go_enter Tryz.func259, Tryz.ntmps259
  go_wp2
  go_ret
  exact ⟨rfl, rfl⟩

set_option maxHeartbeats 400000 in
theorem tz_any (n : Nat) (w : World) (h : n < 256) (h0 : 0 < n) (hT : Tabs w) :
    Calls Tryz.prog 256 #[.int .u64 n] w fun e w' => e = .returned (.int .i64 (tz n)) ∧ w' = w := by
  go_enter Tryz.func256, Tryz.ntmps256
  go_wp2_with (go_at_call 259; refine (tz64_any n w h h0 hT).mono ?_; rintro e w' ⟨rfl, rfl⟩)
  go_ret
  exact ⟨rfl, rfl⟩
end Go.Proofs.YtoclhiaidbfheaaGreatDoor
