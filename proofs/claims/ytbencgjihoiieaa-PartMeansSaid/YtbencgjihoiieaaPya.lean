/- PartMeans: where the law asks nothing. -/
import Derived.Test.YtbencgjihoiieaaPx
set_option linter.unusedVariables false
namespace Go.Proofs.Ytbencgjihoiieaa
open Go.RowKit

theorem eqi_blk (B : List UInt8) (hB : B.length = 256) (w : World) : (Op.equalIn 10000 36 (.agg (cells8 B).toArray) (.agg (cells8 B).toArray)).run Try.prog w = .ok true w := by
  have h := run_equalIn_bytes (P := Try.prog) w 9998 36 5 256 Try.underlying36 Try.underlying5 (fun w => by kernel_rfl) B B hB hB
  have h2 : (Op.equalIn 10000 36 (.agg (cells8 B).toArray) (.agg (cells8 B).toArray)).run Try.prog w = .ok (B == B) w := h
  rw [h2, beq_self_eq_true]
theorem w_i64 (x : Int) (h0 : -9223372036854775808 ≤ x) (h1 : x ≤ 9223372036854775807) : IntKind.i64.wrap x = x := by
  rw [IntKind.wrap_i64]
  omega
set_option maxRecDepth 100000 in
set_option maxHeartbeats 40000000 in
theorem means_else (w : World) (x : Int) (A : Option Addr) (cap : Nat) (d : List UInt8) (hcap : d.length ≤ cap) (hs : Shows w w.heap.size A d.length (cells8 d)) (B : List UInt8) (hB : B.length = 256) (hg : ¬ (d.length ≤ 2560 ∧ d.length % 64 = 0 ∧ 0 ≤ x ∧ x ≤ 1048576)) :
    Calls Try.prog 5 #[.int .i64 x, .slice A d.length cap, .agg (cells8 B).toArray] w fun e w' => e = .returned (.bool true) ∧ Below w.heap.size w w' := by
  have HKN := Lib.hid (fun W => known_any W)
  obtain ⟨W0, hW0⟩ : ∃ W0, w.alloc (.cells (cells8 B).toArray 36) = W0 := ⟨_, rfl⟩
  have hsz : w.heap.size + 1 = W0.heap.size := by rw [← hW0]; simp
  have HB0 : Hid (Below w.heap.size w W0) := by rw [← hW0]; exact (Below.refl _ w).alloc (Nat.le_refl _) _
  have HEND : Hid (∀ wk, Below W0.heap.size W0 wk → Below w.heap.size w wk) := fun wk h => HB0.out.trans (h.mono (by omega))
  clear hsz hs hcap hB HB0
  by_cases h1 : d.length ≤ 2560
  · have h1I : ¬ (2560 : Int) < (d.length : Int) := by omega
    by_cases h2 : d.length % 64 = 0
    · have h2I : (d.length : Int) % 64 = 0 := by omega
      by_cases h3 : 0 ≤ x
      · have h3I : ¬ x < 0 := by omega
        have h4I : (1048576 : Int) < x := by omega
        clear hg
        go_enter Try.func5, Try.ntmps5
        go_wp2_with (first
          | (go_at_call 6; (with_reducible refine (HKN.out _).mono ?_); rintro e wk ⟨rfl, hbk⟩; have HBK := Lib.hid hbk; clear hbk)
          | fail)
        go_ret
        exact ⟨rfl, HEND.out _ HBK.out⟩
      · have h3I : x < 0 := by omega
        clear hg
        go_enter Try.func5, Try.ntmps5
        go_wp2_with (first
          | (go_at_call 6; (with_reducible refine (HKN.out _).mono ?_); rintro e wk ⟨rfl, hbk⟩; have HBK := Lib.hid hbk; clear hbk)
          | fail)
        go_ret
        exact ⟨rfl, HEND.out _ HBK.out⟩
    · have h2I : ¬ (d.length : Int) % 64 = 0 := by omega
      clear hg
      go_enter Try.func5, Try.ntmps5
      go_wp2_with (first
        | (go_at_call 6; (with_reducible refine (HKN.out _).mono ?_); rintro e wk ⟨rfl, hbk⟩; have HBK := Lib.hid hbk; clear hbk)
        | fail)
      go_ret
      exact ⟨rfl, HEND.out _ HBK.out⟩
  · have h1I : (2560 : Int) < (d.length : Int) := by omega
    clear hg
    go_enter Try.func5, Try.ntmps5
    go_wp2_with (first
      | (go_at_call 6; (with_reducible refine (HKN.out _).mono ?_); rintro e wk ⟨rfl, hbk⟩; have HBK := Lib.hid hbk; clear hbk)
      | fail)
    go_ret
    exact ⟨rfl, HEND.out _ HBK.out⟩
end Go.Proofs.Ytbencgjihoiieaa
