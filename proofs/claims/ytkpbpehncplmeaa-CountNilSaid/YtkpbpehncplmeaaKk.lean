/- CountNil, walked. -/
import Derived.Test.YtkpbpehncplmeaaKj
namespace Go.Proofs.Ytkpbpehncplmeaa
open Go.RowKit

theorem area_zero (w : World) : (zeroValue 46).run Try.prog w = .ok (.agg #[.slice none 0 0, .slice none 0 0, .int .i64 0, .int .i64 0]) w := by kernel_rfl
set_option maxRecDepth 20000 in
set_option maxHeartbeats 2000000 in
theorem nil_law (w : World) : Calls Try.prog 5 #[] w fun e w' => e = .returned (.bool true) ∧ Below w.heap.size w w' := by
  have hz := area_zero
  obtain ⟨W2, hW2⟩ : ∃ W2, W2 = (w.alloc (.cells #[.slice none 0 0, .slice none 0 0, .int .i64 0, .int .i64 0] 46)).alloc (.cells #[.pointer none, .pointer (some ⟨w.heap.size, 0, none⟩)] 25) := ⟨_, rfl⟩
  have hb2 : Below w.heap.size w W2 := by rw [hW2]; exact ((Below.refl _ w).alloc (Nat.le_refl _) _).alloc (by simp) _
  have hcell : W2.cell? ⟨w.heap.size, 0, none⟩ = some (.slice none 0 0) := by
    rw [hW2, World.cell?_alloc_lt _ _ _ (by simp), cell_of_row _ _ 0 _ _ _ (heap_alloc_new w _)]; rfl
  have hp0 : W2.cell? ⟨w.heap.size + 1, 0, none⟩ = some (.pointer none) := by
    have e := heap_alloc_new (w.alloc (.cells #[.slice none 0 0, .slice none 0 0, .int .i64 0, .int .i64 0] 46)) (.cells #[.pointer none, .pointer (some ⟨w.heap.size, 0, none⟩)] 25)
    rw [show (w.alloc (.cells #[.slice none 0 0, .slice none 0 0, .int .i64 0, .int .i64 0] 46)).heap.size = w.heap.size + 1 by simp] at e
    rw [hW2, cell_of_row _ _ 0 _ _ _ e]; rfl
  have hp1 : W2.cell? ⟨w.heap.size + 1, 1, none⟩ = some (.pointer (some ⟨w.heap.size, 0, none⟩)) := by
    have e := heap_alloc_new (w.alloc (.cells #[.slice none 0 0, .slice none 0 0, .int .i64 0, .int .i64 0] 46)) (.cells #[.pointer none, .pointer (some ⟨w.heap.size, 0, none⟩)] 25)
    rw [show (w.alloc (.cells #[.slice none 0 0, .slice none 0 0, .int .i64 0, .int .i64 0] 46)).heap.size = w.heap.size + 1 by simp] at e
    rw [hW2, cell_of_row _ _ 1 _ _ _ e]; rfl
  have HK := Lib.hid (known_any w W2 hb2)
  have HZ := Lib.hid (len_zero W2 w.heap.size hcell)
  have HNI := Lib.hid (len_nil W2)
  have HW2 := Lib.hid hW2
  clear hcell hb2 hW2
  go_enter Try.func5, Try.ntmps5
  go_wp2
  go_loopw [3] (fun j wr => ∃ i : Nat, i ≤ 2 ∧ j = .int .i64 (i : Int) ∧ wr = W2) (fun j _ => 2 - (intOf j).toNat)
  case atStart => exact ⟨0, Nat.zero_le _, rfl, HW2.out.symm⟩
  case round =>
    obtain ⟨i, hi, rfl, rfl⟩ := hrel
    rcases (show i = 0 ∨ i = 1 ∨ i = 2 by omega) with rfl | rfl | rfl
    · go_wp2_with (first
        | (go_at_call 14; (with_reducible refine (commit_no _ _ HNI.out).mono ?_); rintro e wa ⟨rfl, rfl⟩)
        | (go_at_call 15; (with_reducible refine (abort_no _ _ HNI.out).mono ?_); rintro e wa ⟨rfl, rfl⟩)
        | (go_at_call 16; (with_reducible refine (alloc_no _ _ HNI.out).mono ?_); rintro e wa ⟨rfl, rfl⟩)
        | (go_at_call 17; (with_reducible refine (dec_no _ _ _ HNI.out).mono ?_); rintro e wa ⟨rfl, rfl⟩)
        | (go_at_call 18; (with_reducible refine (inc_no _ _ _ HNI.out).mono ?_); rintro e wa ⟨rfl, rfl⟩)
        | (go_at_call 19; (with_reducible refine (count_no _ _ _ HNI.out).mono ?_); rintro e wa ⟨rfl, rfl⟩)
        | (go_at_call 20; (with_reducible refine (was_no _ _ _ HNI.out).mono ?_); rintro e wa ⟨rfl, rfl⟩)
        | (go_at_call 21; (with_reducible refine (room_no _ _ HNI.out).mono ?_); rintro e wa ⟨rfl, rfl⟩)
        | (go_at_call 22; (with_reducible refine HNI.out.mono ?_); rintro e wa ⟨rfl, rfl⟩)
        | (go_at_call 23; (with_reducible refine (cursor_no _ _ HNI.out).mono ?_); rintro e wa ⟨rfl, rfl⟩)
        | (go_at_call 24; (with_reducible refine (set_no _ _ _ HNI.out).mono ?_); rintro e wa ⟨rfl, rfl⟩)
        | (go_at_call 25; (with_reducible refine (grow_no _ _ _ HNI.out).mono ?_); rintro e wa ⟨rfl, rfl⟩)
        | (go_at_call 13; (with_reducible refine (counts_no _ _ HNI.out).mono ?_); rintro e wa ⟨rfl, rfl⟩)
        | (go_at_call 11; (with_reducible refine (copy_no _ _ HNI.out).mono ?_); rintro e wa ⟨rfl, rfl⟩)
        | fail)
      go_roundw
      case rel => exact ⟨1, by omega, by go_num, trivial⟩
      case measure => simp [intOf]
    · go_wp2_with (first
        | (go_at_call 14; (with_reducible refine (commit_no _ _ HZ.out).mono ?_); rintro e wa ⟨rfl, rfl⟩)
        | (go_at_call 15; (with_reducible refine (abort_no _ _ HZ.out).mono ?_); rintro e wa ⟨rfl, rfl⟩)
        | (go_at_call 16; (with_reducible refine (alloc_no _ _ HZ.out).mono ?_); rintro e wa ⟨rfl, rfl⟩)
        | (go_at_call 17; (with_reducible refine (dec_no _ _ _ HZ.out).mono ?_); rintro e wa ⟨rfl, rfl⟩)
        | (go_at_call 18; (with_reducible refine (inc_no _ _ _ HZ.out).mono ?_); rintro e wa ⟨rfl, rfl⟩)
        | (go_at_call 19; (with_reducible refine (count_no _ _ _ HZ.out).mono ?_); rintro e wa ⟨rfl, rfl⟩)
        | (go_at_call 20; (with_reducible refine (was_no _ _ _ HZ.out).mono ?_); rintro e wa ⟨rfl, rfl⟩)
        | (go_at_call 21; (with_reducible refine (room_no _ _ HZ.out).mono ?_); rintro e wa ⟨rfl, rfl⟩)
        | (go_at_call 22; (with_reducible refine HZ.out.mono ?_); rintro e wa ⟨rfl, rfl⟩)
        | (go_at_call 23; (with_reducible refine (cursor_no _ _ HZ.out).mono ?_); rintro e wa ⟨rfl, rfl⟩)
        | (go_at_call 24; (with_reducible refine (set_no _ _ _ HZ.out).mono ?_); rintro e wa ⟨rfl, rfl⟩)
        | (go_at_call 25; (with_reducible refine (grow_no _ _ _ HZ.out).mono ?_); rintro e wa ⟨rfl, rfl⟩)
        | (go_at_call 13; (with_reducible refine (counts_no _ _ HZ.out).mono ?_); rintro e wa ⟨rfl, rfl⟩)
        | (go_at_call 11; (with_reducible refine (copy_no _ _ HZ.out).mono ?_); rintro e wa ⟨rfl, rfl⟩)
        | fail)
      go_roundw
      case rel => exact ⟨2, by omega, by go_num, trivial⟩
      case measure => simp [intOf]
    · go_wp2_with (first
        | (go_at_call 6; (with_reducible refine HK.out.mono ?_); rintro e wa ⟨rfl, hk⟩)
        | fail)
      go_ret
      exact ⟨rfl, hk⟩
end Go.Proofs.Ytkpbpehncplmeaa
