/- has, Whole, span. -/
import Derived.Test.YtbencgjihoiieaaPc
set_option linter.unusedVariables false
namespace Go.Proofs.Ytbencgjihoiieaa
open Go.RowKit

/-- is a block's sector among those from f up to ahead of k? -/
def hb (f k j : Nat) : Bool := decide (f ≤ j ∧ j < k)
def FOUR (p q r s : Bool) : Value := .agg #[.bool p, .bool q, .bool r, .bool s]
theorem hb_start (f j : Nat) : hb f f j = false := by unfold hb; simp
theorem hb_set (f k : Nat) (h : f ≤ k) : hb f (k + 1) k = true := by unfold hb; simp; omega
theorem hb_other (f k j : Nat) (h : j ≠ k) : hb f (k + 1) j = hb f k j := by unfold hb; congr 1; simp; omega

theorem below3 (w : World) (o p q : Obj) : Below w.heap.size w (((w.alloc o).alloc p).alloc q) := (((Below.refl _ w).alloc (Nat.le_refl _) o).alloc (by simp) p).alloc (by simp; omega) q
/-- no part of a block -/
theorem has_no (w : World) (s : SP) (h : okS s = false) :
    Calls Try.prog 20 #[s.v] w fun e w' => e = .returned (FOUR false false false false) ∧ Below w.heap.size w w' := by
  obtain ⟨b, f, t⟩ := s
  have hor : f < 0 ∨ 4 < t ∨ t ≤ f := by unfold okS at h; simp at h; omega
  clear h
  unfold SP.v
  dsimp only
  by_cases h1 : f < 0
  · clear hor
    go_enter Try.func20, Try.ntmps20
    go_wp2
    exact bodyPost_ret (v := FOUR false false false false) (by simp [results, Try.results20, go_sem, FOUR]) rfl ⟨rfl, below3 _ _ _ _⟩
  by_cases h2 : 4 < t
  · clear hor
    go_enter Try.func20, Try.ntmps20
    go_wp2
    exact bodyPost_ret (v := FOUR false false false false) (by simp [results, Try.results20, go_sem, FOUR]) rfl ⟨rfl, below3 _ _ _ _⟩
  have h3 : ¬ f < t := by omega
  clear hor
  go_enter Try.func20, Try.ntmps20
  go_wp2
  go_loopw [4] (fun i wr => i = .int .i64 f ∧ wr = ((w.alloc (.cells #[.int .i64 b, .int .i64 f, .int .i64 t] 23)).alloc (.cells #[.bool false, .bool false, .bool false, .bool false] 48)).alloc (.cells #[.bool false, .bool false, .bool false, .bool false] 48)) (fun _ _ => 0)
  case atStart => exact ⟨rfl, rfl⟩
  case round =>
    obtain ⟨rfl, rfl⟩ := hrel
    go_wp2
    exact bodyPost_ret (v := FOUR false false false false) (by simp [results, Try.results20, go_sem, FOUR]) rfl ⟨rfl, below3 _ _ _ _⟩
/-- a part of a block -/
theorem has_yes (w : World) (b : Int) (f t : Nat) (h : f < t) (h4 : t ≤ 4) :
    Calls Try.prog 20 #[.agg #[.int .i64 b, .int .i64 (f : Int), .int .i64 (t : Int)]] w fun e w' => e = .returned (FOUR (hb f t 0) (hb f t 1) (hb f t 2) (hb f t 3)) ∧ Below w.heap.size w w' := by
  have h1 : ¬ (f : Int) < 0 := by omega
  have h2 : ¬ (4 : Int) < (t : Int) := by omega
  go_enter Try.func20, Try.ntmps20
  go_wp2
  go_loopw [4] (fun i wr => ∃ k : Nat, f ≤ k ∧ k ≤ t ∧ i = .int .i64 (k : Int) ∧ wr = ((w.alloc (.cells #[.int .i64 b, .int .i64 (f : Int), .int .i64 (t : Int)] 23)).alloc (.cells #[.bool false, .bool false, .bool false, .bool false] 48)).alloc (.cells #[.bool (hb f k 0), .bool (hb f k 1), .bool (hb f k 2), .bool (hb f k 3)] 48)) (fun i _ => t - (intOf i).toNat)
  case atStart => exact ⟨f, Nat.le_refl _, by omega, rfl, by simp only [hb_start]⟩
  case round =>
    obtain ⟨k, hk1, hk2, rfl, rfl⟩ := hrel
    by_cases hlt : k < t
    · have hltI : (k : Int) < (t : Int) := by omega
      have hk : k = 0 ∨ k = 1 ∨ k = 2 ∨ k = 3 := by omega
      have HS := Lib.hid (hb_set f k hk1)
      have HO := Lib.hid (fun j hj => hb_other f k j hj)
      rcases hk with rfl | rfl | rfl | rfl
      · go_wp2
        go_roundw
        case rel => exact ⟨1, by omega, by omega, by go_num, by rw [HS.out, HO.out 1 (by omega), HO.out 2 (by omega), HO.out 3 (by omega)]⟩
        case measure => simp [intOf]; omega
      · go_wp2
        go_roundw
        case rel => exact ⟨2, by omega, by omega, by go_num, by rw [HS.out, HO.out 0 (by omega), HO.out 2 (by omega), HO.out 3 (by omega)]⟩
        case measure => simp [intOf]; omega
      · go_wp2
        go_roundw
        case rel => exact ⟨3, by omega, by omega, by go_num, by rw [HS.out, HO.out 0 (by omega), HO.out 1 (by omega), HO.out 3 (by omega)]⟩
        case measure => simp [intOf]; omega
      · go_wp2
        go_roundw
        case rel => exact ⟨4, by omega, by omega, by go_num, by rw [HS.out, HO.out 0 (by omega), HO.out 1 (by omega), HO.out 2 (by omega)]⟩
        case measure => simp [intOf]; omega
    · obtain rfl : k = t := by omega
      have hltI : ¬ (k : Int) < (k : Int) := by omega
      go_wp2
      exact bodyPost_ret (v := FOUR (hb f k 0) (hb f k 1) (hb f k 2) (hb f k 3)) (by simp [results, Try.results20, go_sem, FOUR]) rfl ⟨rfl, below3 _ _ _ _⟩
end Go.Proofs.Ytbencgjihoiieaa
