/- The walk of the document's May. -/
import Derived.Test.YtpkbkliblbbdcaaCh
import Derived.Deep.QuietTactic
import Derived.BigQuiet
set_option linter.unusedVariables false
namespace Go.Proofs.Ytpkbkliblbbdcaa
open Go.RowKit
set_option maxRecDepth 20000

theorem q_left {P : Program} {f : FuncId} {args : Array Value} {w : World} {v : Value} (h : Calls P f args w fun e w' => e = .returned v ∧ w = w') :
    Calls P f args w fun e w' => e = .returned v ∧ w' = w := h.mono fun _ _ ⟨h1, h2⟩ => ⟨h1, h2.symm⟩
theorem quiet_add_left {P : Program} {f : FuncId} {args : Array Value} {w : World} {a n : Nat} {v : Value}
    (h : Calls P f args (w.drewN (a + n)) fun e w' => e = .returned v ∧ w' = w.drewN (a + n)) :
    Calls P f args (w.drewN (a + n)) fun e w'' => e = .returned v ∧ ∃ m, w'' = w.drewN (a + m) :=
  h.mono fun _ _ ⟨he, hm⟩ => ⟨he, n, hm⟩

section
variable (k : Int) (v t : Nat) (s a c : Int) (d : List UInt8) (A : Option Addr) (cap : Nat) (w : World)

/-- the document's table, over what it asks -/
theorem rmayB_at : rmayB ⟨k, v, t, s, a, c, d⟩ = ((decide (1 ≤ k) && decide (k ≤ 9) && decide (v ≤ 4294967295) && decide (t ≤ 4294967295)) &&
  (inB (hasR k 118) 1 (v : Int) 4294967295 && inB (hasR k 116) 1 (t : Int) 4294967295 && !(hasR k 116 && decide (t = v))) &&
  (inB (hasR k 115) 0 s 256 && inB (hasR k 97) 0 a 1048576 && inB (hasR k 99) 1 c 1024) &&
  (decide (d.length % 64 = 0) && inB (hasR k 100) 1 ((d.length / 64 : Nat) : Int) 32)) := by
  obtain ⟨h1, h2, h3, h4, h5, h6⟩ := has_eq k
  rw [h1, h2, h3, h4, h5, h6]
  rfl

set_option maxHeartbeats 8000000 in
theorem rmayO_any (hd : d.length ≤ 9223372036854775807) : Calls Try.prog 11 #[.agg #[.int .i64 k, .int .u64 (v : Int), .int .u64 (t : Int), .int .i64 s, .int .i64 a, .int .i64 c, .slice A d.length cap]] w fun e w' => e = .returned (.bool (rmayB ⟨k, v, t, s, a, c, d⟩)) ∧ Below w.heap.size w w' := by
  rw [rmayB_at]
  have H118 := Lib.hid (fun W : World => show Calls Try.prog 36 #[.int .i64 k, .int .u8 118] W _ from has_any k 118 W)
  have H116 := Lib.hid (fun W : World => show Calls Try.prog 36 #[.int .i64 k, .int .u8 116] W _ from has_any k 116 W)
  have H115 := Lib.hid (fun W : World => show Calls Try.prog 36 #[.int .i64 k, .int .u8 115] W _ from has_any k 115 W)
  have H97 := Lib.hid (fun W : World => show Calls Try.prog 36 #[.int .i64 k, .int .u8 97] W _ from has_any k 97 W)
  have H99 := Lib.hid (fun W : World => show Calls Try.prog 36 #[.int .i64 k, .int .u8 99] W _ from has_any k 99 W)
  have H100 := Lib.hid (fun W : World => show Calls Try.prog 36 #[.int .i64 k, .int .u8 100] W _ from has_any k 100 W)
  generalize hasR k 118 = b1 at *
  generalize hasR k 116 = b2 at *
  generalize hasR k 115 = b3 at *
  generalize hasR k 97 = b4 at *
  generalize hasR k 99 = b5 at *
  generalize hasR k 100 = b6 at *
  have hdq : (d.length : Int).tdiv 64 = ((d.length / 64 : Nat) : Int) := by rw [Int.tdiv_eq_ediv_of_nonneg (by omega)]; omega
  generalize hq : d.length / 64 = q at *
  have hq9 : q ≤ 9223372036854775807 := by omega
  have hdm : (d.length : Int).tmod 64 = ((d.length % 64 : Nat) : Int) := by rw [Int.tmod_eq_emod_of_nonneg (by omega)]; omega
  generalize hr : d.length % 64 = r at *
  clear hq hr
  by_cases a1 : k < 1
  · have e : decide (1 ≤ k) = false := dec_f (by omega)
    have d1 := dec_t a1
    simp only [e, Bool.false_and]
    clear hdq hdm hq9 a1 e
    go_enter Try.func11, Try.ntmps11
    go_wp2_with fail
    go_ret
    exact ⟨rfl, (Below.refl _ _).alloc (Nat.le_refl _) _⟩
  have d1 := dec_f a1
  rw [dec_t (show 1 ≤ k by omega), Bool.true_and]
  clear a1
  by_cases a2 : 9 < k
  · have e : decide (k ≤ 9) = false := dec_f (by omega)
    have d2 := dec_t a2
    simp only [e, Bool.false_and]
    clear hdq hdm hq9 a2 e
    go_enter Try.func11, Try.ntmps11
    go_wp2_with fail
    go_ret
    exact ⟨rfl, (Below.refl _ _).alloc (Nat.le_refl _) _⟩
  have d2 := dec_f a2
  rw [dec_t (show k ≤ 9 by omega), Bool.true_and]
  clear a2
  by_cases a3 : 4294967295 < v
  · have e : decide (v ≤ 4294967295) = false := dec_f (by omega)
    have d3 := dec_t (show (4294967295 : Int) < (v : Int) by omega)
    simp only [e, Bool.false_and]
    clear hdq hdm hq9 a3 e
    go_enter Try.func11, Try.ntmps11
    go_wp2_with fail
    go_ret
    exact ⟨rfl, (Below.refl _ _).alloc (Nat.le_refl _) _⟩
  have d3 := dec_f (show ¬ (4294967295 : Int) < (v : Int) by omega)
  rw [dec_t (show v ≤ 4294967295 by omega), Bool.true_and]
  have hwv : IntKind.i64.wrap (v : Int) = (v : Int) := toI_nat v (by omega)
  clear a3
  by_cases a4 : 4294967295 < t
  · have e : decide (t ≤ 4294967295) = false := dec_f (by omega)
    have d4 := dec_t (show (4294967295 : Int) < (t : Int) by omega)
    simp only [e, Bool.false_and]
    clear hdq hdm hq9 a4 e hwv
    go_enter Try.func11, Try.ntmps11
    go_wp2_with fail
    go_ret
    exact ⟨rfl, (Below.refl _ _).alloc (Nat.le_refl _) _⟩
  have d4 := dec_f (show ¬ (4294967295 : Int) < (t : Int) by omega)
  rw [dec_t (show t ≤ 4294967295 by omega), Bool.true_and]
  have hwt : IntKind.i64.wrap (t : Int) = (t : Int) := toI_nat t (by omega)
  clear a4
  have I1 := Lib.hid (fun W : World => in_any b1 1 (v : Int) 4294967295 W)
  generalize inB b1 1 (v : Int) 4294967295 = x1 at *
  have I2 := Lib.hid (fun W : World => in_any b2 1 (t : Int) 4294967295 W)
  generalize inB b2 1 (t : Int) 4294967295 = x2 at *
  have I3 := Lib.hid (fun W : World => in_any b3 0 s 256 W)
  generalize inB b3 0 s 256 = x3 at *
  have I4 := Lib.hid (fun W : World => in_any b4 0 a 1048576 W)
  generalize inB b4 0 a 1048576 = x4 at *
  have I5 := Lib.hid (fun W : World => in_any b5 1 c 1024 W)
  generalize inB b5 1 c 1024 = x5 at *
  have I6 := Lib.hid (fun W : World => in_any b6 1 (q : Int) 32 W)
  generalize inB b6 1 (q : Int) 32 = x6 at *
  cases x1 with
  | false =>
    simp only [Bool.false_and]
    try clear hdm
    go_enter Try.func11, Try.ntmps11
    go_wp2_with fail
    go_quiet ((first | (go_at_call 36; first | with_reducible exact Calls.quiet_of_same (q_left (H118.out _)) | with_reducible exact Calls.quiet_of_same (q_left (H116.out _)) | with_reducible exact Calls.quiet_of_same (q_left (H115.out _)) | with_reducible exact Calls.quiet_of_same (q_left (H97.out _)) | with_reducible exact Calls.quiet_of_same (q_left (H99.out _)) | with_reducible exact Calls.quiet_of_same (q_left (H100.out _))) | (go_at_call 35; first | with_reducible exact Calls.quiet_of_same (q_left (I1.out _)) | with_reducible exact Calls.quiet_of_same (q_left (I2.out _)) | with_reducible exact Calls.quiet_of_same (q_left (I3.out _)) | with_reducible exact Calls.quiet_of_same (q_left (I4.out _)) | with_reducible exact Calls.quiet_of_same (q_left (I5.out _)) | with_reducible exact Calls.quiet_of_same (q_left (I6.out _)))))
    go_wp2_with fail
    go_ret
    exact ⟨rfl, below_drewN ((Below.refl _ _).alloc (Nat.le_refl _) _) _⟩
  | true =>
    cases x2 with
    | false =>
      simp only [Bool.false_and, Bool.and_false]
      try clear hdm
      go_enter Try.func11, Try.ntmps11
      go_wp2_with fail
      go_quiet ((first | (go_at_call 36; first | with_reducible exact Calls.quiet_of_same (q_left (H118.out _)) | with_reducible exact Calls.quiet_of_same (q_left (H116.out _)) | with_reducible exact Calls.quiet_of_same (q_left (H115.out _)) | with_reducible exact Calls.quiet_of_same (q_left (H97.out _)) | with_reducible exact Calls.quiet_of_same (q_left (H99.out _)) | with_reducible exact Calls.quiet_of_same (q_left (H100.out _))) | (go_at_call 35; first | with_reducible exact Calls.quiet_of_same (q_left (I1.out _)) | with_reducible exact Calls.quiet_of_same (q_left (I2.out _)) | with_reducible exact Calls.quiet_of_same (q_left (I3.out _)) | with_reducible exact Calls.quiet_of_same (q_left (I4.out _)) | with_reducible exact Calls.quiet_of_same (q_left (I5.out _)) | with_reducible exact Calls.quiet_of_same (q_left (I6.out _)))))
      go_wp2_with fail
      go_ret
      exact ⟨rfl, below_drewN ((Below.refl _ _).alloc (Nat.le_refl _) _) _⟩
    | true =>
      cases b2 with
      | false =>
        simp only [Bool.false_and, Bool.not_false, Bool.true_and]
        cases x3 with
        | false =>
          simp only [Bool.false_and]
          try clear hdm
          go_enter Try.func11, Try.ntmps11
          go_wp2_with fail
          go_quiet ((first | (go_at_call 36; first | with_reducible exact Calls.quiet_of_same (q_left (H118.out _)) | with_reducible exact Calls.quiet_of_same (q_left (H116.out _)) | with_reducible exact Calls.quiet_of_same (q_left (H115.out _)) | with_reducible exact Calls.quiet_of_same (q_left (H97.out _)) | with_reducible exact Calls.quiet_of_same (q_left (H99.out _)) | with_reducible exact Calls.quiet_of_same (q_left (H100.out _))) | (go_at_call 35; first | with_reducible exact Calls.quiet_of_same (q_left (I1.out _)) | with_reducible exact Calls.quiet_of_same (q_left (I2.out _)) | with_reducible exact Calls.quiet_of_same (q_left (I3.out _)) | with_reducible exact Calls.quiet_of_same (q_left (I4.out _)) | with_reducible exact Calls.quiet_of_same (q_left (I5.out _)) | with_reducible exact Calls.quiet_of_same (q_left (I6.out _)))))
          go_wp2_with fail
          go_quiet ((first | (go_at_call 36; first | with_reducible exact quiet_add_left (q_left (H118.out _)) | with_reducible exact quiet_add_left (q_left (H116.out _)) | with_reducible exact quiet_add_left (q_left (H115.out _)) | with_reducible exact quiet_add_left (q_left (H97.out _)) | with_reducible exact quiet_add_left (q_left (H99.out _)) | with_reducible exact quiet_add_left (q_left (H100.out _))) | (go_at_call 35; first | with_reducible exact quiet_add_left (q_left (I1.out _)) | with_reducible exact quiet_add_left (q_left (I2.out _)) | with_reducible exact quiet_add_left (q_left (I3.out _)) | with_reducible exact quiet_add_left (q_left (I4.out _)) | with_reducible exact quiet_add_left (q_left (I5.out _)) | with_reducible exact quiet_add_left (q_left (I6.out _)))))
          go_wp2_with fail
          go_ret
          exact ⟨rfl, below_drewN (below_drewN ((Below.refl _ _).alloc (Nat.le_refl _) _) _) _⟩
        | true =>
          cases x4 with
          | false =>
            simp only [Bool.false_and, Bool.and_false]
            try clear hdm
            go_enter Try.func11, Try.ntmps11
            go_wp2_with fail
            go_quiet ((first | (go_at_call 36; first | with_reducible exact Calls.quiet_of_same (q_left (H118.out _)) | with_reducible exact Calls.quiet_of_same (q_left (H116.out _)) | with_reducible exact Calls.quiet_of_same (q_left (H115.out _)) | with_reducible exact Calls.quiet_of_same (q_left (H97.out _)) | with_reducible exact Calls.quiet_of_same (q_left (H99.out _)) | with_reducible exact Calls.quiet_of_same (q_left (H100.out _))) | (go_at_call 35; first | with_reducible exact Calls.quiet_of_same (q_left (I1.out _)) | with_reducible exact Calls.quiet_of_same (q_left (I2.out _)) | with_reducible exact Calls.quiet_of_same (q_left (I3.out _)) | with_reducible exact Calls.quiet_of_same (q_left (I4.out _)) | with_reducible exact Calls.quiet_of_same (q_left (I5.out _)) | with_reducible exact Calls.quiet_of_same (q_left (I6.out _)))))
            go_wp2_with fail
            go_quiet ((first | (go_at_call 36; first | with_reducible exact quiet_add_left (q_left (H118.out _)) | with_reducible exact quiet_add_left (q_left (H116.out _)) | with_reducible exact quiet_add_left (q_left (H115.out _)) | with_reducible exact quiet_add_left (q_left (H97.out _)) | with_reducible exact quiet_add_left (q_left (H99.out _)) | with_reducible exact quiet_add_left (q_left (H100.out _))) | (go_at_call 35; first | with_reducible exact quiet_add_left (q_left (I1.out _)) | with_reducible exact quiet_add_left (q_left (I2.out _)) | with_reducible exact quiet_add_left (q_left (I3.out _)) | with_reducible exact quiet_add_left (q_left (I4.out _)) | with_reducible exact quiet_add_left (q_left (I5.out _)) | with_reducible exact quiet_add_left (q_left (I6.out _)))))
            go_wp2_with fail
            go_ret
            exact ⟨rfl, below_drewN (below_drewN ((Below.refl _ _).alloc (Nat.le_refl _) _) _) _⟩
          | true =>
            cases x5 with
            | false =>
              simp only [Bool.false_and, Bool.and_false, Bool.true_and]
              try clear hdm
              go_enter Try.func11, Try.ntmps11
              go_wp2_with fail
              go_quiet ((first | (go_at_call 36; first | with_reducible exact Calls.quiet_of_same (q_left (H118.out _)) | with_reducible exact Calls.quiet_of_same (q_left (H116.out _)) | with_reducible exact Calls.quiet_of_same (q_left (H115.out _)) | with_reducible exact Calls.quiet_of_same (q_left (H97.out _)) | with_reducible exact Calls.quiet_of_same (q_left (H99.out _)) | with_reducible exact Calls.quiet_of_same (q_left (H100.out _))) | (go_at_call 35; first | with_reducible exact Calls.quiet_of_same (q_left (I1.out _)) | with_reducible exact Calls.quiet_of_same (q_left (I2.out _)) | with_reducible exact Calls.quiet_of_same (q_left (I3.out _)) | with_reducible exact Calls.quiet_of_same (q_left (I4.out _)) | with_reducible exact Calls.quiet_of_same (q_left (I5.out _)) | with_reducible exact Calls.quiet_of_same (q_left (I6.out _)))))
              go_wp2_with fail
              go_quiet ((first | (go_at_call 36; first | with_reducible exact quiet_add_left (q_left (H118.out _)) | with_reducible exact quiet_add_left (q_left (H116.out _)) | with_reducible exact quiet_add_left (q_left (H115.out _)) | with_reducible exact quiet_add_left (q_left (H97.out _)) | with_reducible exact quiet_add_left (q_left (H99.out _)) | with_reducible exact quiet_add_left (q_left (H100.out _))) | (go_at_call 35; first | with_reducible exact quiet_add_left (q_left (I1.out _)) | with_reducible exact quiet_add_left (q_left (I2.out _)) | with_reducible exact quiet_add_left (q_left (I3.out _)) | with_reducible exact quiet_add_left (q_left (I4.out _)) | with_reducible exact quiet_add_left (q_left (I5.out _)) | with_reducible exact quiet_add_left (q_left (I6.out _)))))
              go_wp2_with fail
              go_ret
              exact ⟨rfl, below_drewN (below_drewN ((Below.refl _ _).alloc (Nat.le_refl _) _) _) _⟩
            | true =>
              by_cases hr : r = 0
              · subst hr
                have hdm0 : (d.length : Int).tmod 64 = 0 := hdm
                clear hdm
                simp only [Bool.true_and, Bool.and_true, decide_true]
                go_enter Try.func11, Try.ntmps11
                go_wp2_with fail
                go_quiet ((first | (go_at_call 36; first | with_reducible exact Calls.quiet_of_same (q_left (H118.out _)) | with_reducible exact Calls.quiet_of_same (q_left (H116.out _)) | with_reducible exact Calls.quiet_of_same (q_left (H115.out _)) | with_reducible exact Calls.quiet_of_same (q_left (H97.out _)) | with_reducible exact Calls.quiet_of_same (q_left (H99.out _)) | with_reducible exact Calls.quiet_of_same (q_left (H100.out _))) | (go_at_call 35; first | with_reducible exact Calls.quiet_of_same (q_left (I1.out _)) | with_reducible exact Calls.quiet_of_same (q_left (I2.out _)) | with_reducible exact Calls.quiet_of_same (q_left (I3.out _)) | with_reducible exact Calls.quiet_of_same (q_left (I4.out _)) | with_reducible exact Calls.quiet_of_same (q_left (I5.out _)) | with_reducible exact Calls.quiet_of_same (q_left (I6.out _)))))
                go_wp2_with fail
                go_quiet ((first | (go_at_call 36; first | with_reducible exact quiet_add_left (q_left (H118.out _)) | with_reducible exact quiet_add_left (q_left (H116.out _)) | with_reducible exact quiet_add_left (q_left (H115.out _)) | with_reducible exact quiet_add_left (q_left (H97.out _)) | with_reducible exact quiet_add_left (q_left (H99.out _)) | with_reducible exact quiet_add_left (q_left (H100.out _))) | (go_at_call 35; first | with_reducible exact quiet_add_left (q_left (I1.out _)) | with_reducible exact quiet_add_left (q_left (I2.out _)) | with_reducible exact quiet_add_left (q_left (I3.out _)) | with_reducible exact quiet_add_left (q_left (I4.out _)) | with_reducible exact quiet_add_left (q_left (I5.out _)) | with_reducible exact quiet_add_left (q_left (I6.out _)))))
                go_wp2_with fail
                go_quiet ((first | (go_at_call 36; first | with_reducible exact quiet_add_left (q_left (H118.out _)) | with_reducible exact quiet_add_left (q_left (H116.out _)) | with_reducible exact quiet_add_left (q_left (H115.out _)) | with_reducible exact quiet_add_left (q_left (H97.out _)) | with_reducible exact quiet_add_left (q_left (H99.out _)) | with_reducible exact quiet_add_left (q_left (H100.out _))) | (go_at_call 35; first | with_reducible exact quiet_add_left (q_left (I1.out _)) | with_reducible exact quiet_add_left (q_left (I2.out _)) | with_reducible exact quiet_add_left (q_left (I3.out _)) | with_reducible exact quiet_add_left (q_left (I4.out _)) | with_reducible exact quiet_add_left (q_left (I5.out _)) | with_reducible exact quiet_add_left (q_left (I6.out _)))))
                go_wp2_with fail
                go_ret
                exact ⟨rfl, below_drewN (below_drewN (below_drewN ((Below.refl _ _).alloc (Nat.le_refl _) _) _) _) _⟩
              · have hr2 : ((r : Int) == 0) = false := by rw [beq_eq_false_iff_ne]; omega
                rw [dec_f hr]
                simp only [Bool.false_and, Bool.and_false, Bool.true_and]
                clear hr
                go_enter Try.func11, Try.ntmps11
                go_wp2_with fail
                go_quiet ((first | (go_at_call 36; first | with_reducible exact Calls.quiet_of_same (q_left (H118.out _)) | with_reducible exact Calls.quiet_of_same (q_left (H116.out _)) | with_reducible exact Calls.quiet_of_same (q_left (H115.out _)) | with_reducible exact Calls.quiet_of_same (q_left (H97.out _)) | with_reducible exact Calls.quiet_of_same (q_left (H99.out _)) | with_reducible exact Calls.quiet_of_same (q_left (H100.out _))) | (go_at_call 35; first | with_reducible exact Calls.quiet_of_same (q_left (I1.out _)) | with_reducible exact Calls.quiet_of_same (q_left (I2.out _)) | with_reducible exact Calls.quiet_of_same (q_left (I3.out _)) | with_reducible exact Calls.quiet_of_same (q_left (I4.out _)) | with_reducible exact Calls.quiet_of_same (q_left (I5.out _)) | with_reducible exact Calls.quiet_of_same (q_left (I6.out _)))))
                go_wp2_with fail
                go_quiet ((first | (go_at_call 36; first | with_reducible exact quiet_add_left (q_left (H118.out _)) | with_reducible exact quiet_add_left (q_left (H116.out _)) | with_reducible exact quiet_add_left (q_left (H115.out _)) | with_reducible exact quiet_add_left (q_left (H97.out _)) | with_reducible exact quiet_add_left (q_left (H99.out _)) | with_reducible exact quiet_add_left (q_left (H100.out _))) | (go_at_call 35; first | with_reducible exact quiet_add_left (q_left (I1.out _)) | with_reducible exact quiet_add_left (q_left (I2.out _)) | with_reducible exact quiet_add_left (q_left (I3.out _)) | with_reducible exact quiet_add_left (q_left (I4.out _)) | with_reducible exact quiet_add_left (q_left (I5.out _)) | with_reducible exact quiet_add_left (q_left (I6.out _)))))
                go_wp2_with fail
                go_quiet ((first | (go_at_call 36; first | with_reducible exact quiet_add_left (q_left (H118.out _)) | with_reducible exact quiet_add_left (q_left (H116.out _)) | with_reducible exact quiet_add_left (q_left (H115.out _)) | with_reducible exact quiet_add_left (q_left (H97.out _)) | with_reducible exact quiet_add_left (q_left (H99.out _)) | with_reducible exact quiet_add_left (q_left (H100.out _))) | (go_at_call 35; first | with_reducible exact quiet_add_left (q_left (I1.out _)) | with_reducible exact quiet_add_left (q_left (I2.out _)) | with_reducible exact quiet_add_left (q_left (I3.out _)) | with_reducible exact quiet_add_left (q_left (I4.out _)) | with_reducible exact quiet_add_left (q_left (I5.out _)) | with_reducible exact quiet_add_left (q_left (I6.out _)))))
                go_wp2_with fail
                go_ret
                exact ⟨rfl, below_drewN (below_drewN (below_drewN ((Below.refl _ _).alloc (Nat.le_refl _) _) _) _) _⟩
      | true =>
        by_cases hv : t = v
        · subst hv
          simp only [Bool.true_and, decide_true, Bool.not_true, Bool.false_and, Bool.and_false]
          try clear hdm
          go_enter Try.func11, Try.ntmps11
          go_wp2_with fail
          go_quiet ((first | (go_at_call 36; first | with_reducible exact Calls.quiet_of_same (q_left (H118.out _)) | with_reducible exact Calls.quiet_of_same (q_left (H116.out _)) | with_reducible exact Calls.quiet_of_same (q_left (H115.out _)) | with_reducible exact Calls.quiet_of_same (q_left (H97.out _)) | with_reducible exact Calls.quiet_of_same (q_left (H99.out _)) | with_reducible exact Calls.quiet_of_same (q_left (H100.out _))) | (go_at_call 35; first | with_reducible exact Calls.quiet_of_same (q_left (I1.out _)) | with_reducible exact Calls.quiet_of_same (q_left (I2.out _)) | with_reducible exact Calls.quiet_of_same (q_left (I3.out _)) | with_reducible exact Calls.quiet_of_same (q_left (I4.out _)) | with_reducible exact Calls.quiet_of_same (q_left (I5.out _)) | with_reducible exact Calls.quiet_of_same (q_left (I6.out _)))))
          go_wp2_with fail
          go_ret
          exact ⟨rfl, below_drewN ((Below.refl _ _).alloc (Nat.le_refl _) _) _⟩
        · have hv2 : ((t : Int) == (v : Int)) = false := by rw [beq_eq_false_iff_ne]; omega
          simp only [dec_f hv, Bool.and_false, Bool.not_false, Bool.true_and]
          clear hv
          cases x3 with
          | false =>
            simp only [Bool.false_and]
            try clear hdm
            go_enter Try.func11, Try.ntmps11
            go_wp2_with fail
            go_quiet ((first | (go_at_call 36; first | with_reducible exact Calls.quiet_of_same (q_left (H118.out _)) | with_reducible exact Calls.quiet_of_same (q_left (H116.out _)) | with_reducible exact Calls.quiet_of_same (q_left (H115.out _)) | with_reducible exact Calls.quiet_of_same (q_left (H97.out _)) | with_reducible exact Calls.quiet_of_same (q_left (H99.out _)) | with_reducible exact Calls.quiet_of_same (q_left (H100.out _))) | (go_at_call 35; first | with_reducible exact Calls.quiet_of_same (q_left (I1.out _)) | with_reducible exact Calls.quiet_of_same (q_left (I2.out _)) | with_reducible exact Calls.quiet_of_same (q_left (I3.out _)) | with_reducible exact Calls.quiet_of_same (q_left (I4.out _)) | with_reducible exact Calls.quiet_of_same (q_left (I5.out _)) | with_reducible exact Calls.quiet_of_same (q_left (I6.out _)))))
            go_wp2_with fail
            go_quiet ((first | (go_at_call 36; first | with_reducible exact quiet_add_left (q_left (H118.out _)) | with_reducible exact quiet_add_left (q_left (H116.out _)) | with_reducible exact quiet_add_left (q_left (H115.out _)) | with_reducible exact quiet_add_left (q_left (H97.out _)) | with_reducible exact quiet_add_left (q_left (H99.out _)) | with_reducible exact quiet_add_left (q_left (H100.out _))) | (go_at_call 35; first | with_reducible exact quiet_add_left (q_left (I1.out _)) | with_reducible exact quiet_add_left (q_left (I2.out _)) | with_reducible exact quiet_add_left (q_left (I3.out _)) | with_reducible exact quiet_add_left (q_left (I4.out _)) | with_reducible exact quiet_add_left (q_left (I5.out _)) | with_reducible exact quiet_add_left (q_left (I6.out _)))))
            go_wp2_with fail
            go_ret
            exact ⟨rfl, below_drewN (below_drewN ((Below.refl _ _).alloc (Nat.le_refl _) _) _) _⟩
          | true =>
            cases x4 with
            | false =>
              simp only [Bool.false_and, Bool.and_false]
              try clear hdm
              go_enter Try.func11, Try.ntmps11
              go_wp2_with fail
              go_quiet ((first | (go_at_call 36; first | with_reducible exact Calls.quiet_of_same (q_left (H118.out _)) | with_reducible exact Calls.quiet_of_same (q_left (H116.out _)) | with_reducible exact Calls.quiet_of_same (q_left (H115.out _)) | with_reducible exact Calls.quiet_of_same (q_left (H97.out _)) | with_reducible exact Calls.quiet_of_same (q_left (H99.out _)) | with_reducible exact Calls.quiet_of_same (q_left (H100.out _))) | (go_at_call 35; first | with_reducible exact Calls.quiet_of_same (q_left (I1.out _)) | with_reducible exact Calls.quiet_of_same (q_left (I2.out _)) | with_reducible exact Calls.quiet_of_same (q_left (I3.out _)) | with_reducible exact Calls.quiet_of_same (q_left (I4.out _)) | with_reducible exact Calls.quiet_of_same (q_left (I5.out _)) | with_reducible exact Calls.quiet_of_same (q_left (I6.out _)))))
              go_wp2_with fail
              go_quiet ((first | (go_at_call 36; first | with_reducible exact quiet_add_left (q_left (H118.out _)) | with_reducible exact quiet_add_left (q_left (H116.out _)) | with_reducible exact quiet_add_left (q_left (H115.out _)) | with_reducible exact quiet_add_left (q_left (H97.out _)) | with_reducible exact quiet_add_left (q_left (H99.out _)) | with_reducible exact quiet_add_left (q_left (H100.out _))) | (go_at_call 35; first | with_reducible exact quiet_add_left (q_left (I1.out _)) | with_reducible exact quiet_add_left (q_left (I2.out _)) | with_reducible exact quiet_add_left (q_left (I3.out _)) | with_reducible exact quiet_add_left (q_left (I4.out _)) | with_reducible exact quiet_add_left (q_left (I5.out _)) | with_reducible exact quiet_add_left (q_left (I6.out _)))))
              go_wp2_with fail
              go_ret
              exact ⟨rfl, below_drewN (below_drewN ((Below.refl _ _).alloc (Nat.le_refl _) _) _) _⟩
            | true =>
              cases x5 with
              | false =>
                simp only [Bool.false_and, Bool.and_false, Bool.true_and]
                try clear hdm
                go_enter Try.func11, Try.ntmps11
                go_wp2_with fail
                go_quiet ((first | (go_at_call 36; first | with_reducible exact Calls.quiet_of_same (q_left (H118.out _)) | with_reducible exact Calls.quiet_of_same (q_left (H116.out _)) | with_reducible exact Calls.quiet_of_same (q_left (H115.out _)) | with_reducible exact Calls.quiet_of_same (q_left (H97.out _)) | with_reducible exact Calls.quiet_of_same (q_left (H99.out _)) | with_reducible exact Calls.quiet_of_same (q_left (H100.out _))) | (go_at_call 35; first | with_reducible exact Calls.quiet_of_same (q_left (I1.out _)) | with_reducible exact Calls.quiet_of_same (q_left (I2.out _)) | with_reducible exact Calls.quiet_of_same (q_left (I3.out _)) | with_reducible exact Calls.quiet_of_same (q_left (I4.out _)) | with_reducible exact Calls.quiet_of_same (q_left (I5.out _)) | with_reducible exact Calls.quiet_of_same (q_left (I6.out _)))))
                go_wp2_with fail
                go_quiet ((first | (go_at_call 36; first | with_reducible exact quiet_add_left (q_left (H118.out _)) | with_reducible exact quiet_add_left (q_left (H116.out _)) | with_reducible exact quiet_add_left (q_left (H115.out _)) | with_reducible exact quiet_add_left (q_left (H97.out _)) | with_reducible exact quiet_add_left (q_left (H99.out _)) | with_reducible exact quiet_add_left (q_left (H100.out _))) | (go_at_call 35; first | with_reducible exact quiet_add_left (q_left (I1.out _)) | with_reducible exact quiet_add_left (q_left (I2.out _)) | with_reducible exact quiet_add_left (q_left (I3.out _)) | with_reducible exact quiet_add_left (q_left (I4.out _)) | with_reducible exact quiet_add_left (q_left (I5.out _)) | with_reducible exact quiet_add_left (q_left (I6.out _)))))
                go_wp2_with fail
                go_ret
                exact ⟨rfl, below_drewN (below_drewN ((Below.refl _ _).alloc (Nat.le_refl _) _) _) _⟩
              | true =>
                by_cases hr : r = 0
                · subst hr
                  have hdm0 : (d.length : Int).tmod 64 = 0 := hdm
                  clear hdm
                  simp only [Bool.true_and, Bool.and_true, decide_true]
                  go_enter Try.func11, Try.ntmps11
                  go_wp2_with fail
                  go_quiet ((first | (go_at_call 36; first | with_reducible exact Calls.quiet_of_same (q_left (H118.out _)) | with_reducible exact Calls.quiet_of_same (q_left (H116.out _)) | with_reducible exact Calls.quiet_of_same (q_left (H115.out _)) | with_reducible exact Calls.quiet_of_same (q_left (H97.out _)) | with_reducible exact Calls.quiet_of_same (q_left (H99.out _)) | with_reducible exact Calls.quiet_of_same (q_left (H100.out _))) | (go_at_call 35; first | with_reducible exact Calls.quiet_of_same (q_left (I1.out _)) | with_reducible exact Calls.quiet_of_same (q_left (I2.out _)) | with_reducible exact Calls.quiet_of_same (q_left (I3.out _)) | with_reducible exact Calls.quiet_of_same (q_left (I4.out _)) | with_reducible exact Calls.quiet_of_same (q_left (I5.out _)) | with_reducible exact Calls.quiet_of_same (q_left (I6.out _)))))
                  go_wp2_with fail
                  go_quiet ((first | (go_at_call 36; first | with_reducible exact quiet_add_left (q_left (H118.out _)) | with_reducible exact quiet_add_left (q_left (H116.out _)) | with_reducible exact quiet_add_left (q_left (H115.out _)) | with_reducible exact quiet_add_left (q_left (H97.out _)) | with_reducible exact quiet_add_left (q_left (H99.out _)) | with_reducible exact quiet_add_left (q_left (H100.out _))) | (go_at_call 35; first | with_reducible exact quiet_add_left (q_left (I1.out _)) | with_reducible exact quiet_add_left (q_left (I2.out _)) | with_reducible exact quiet_add_left (q_left (I3.out _)) | with_reducible exact quiet_add_left (q_left (I4.out _)) | with_reducible exact quiet_add_left (q_left (I5.out _)) | with_reducible exact quiet_add_left (q_left (I6.out _)))))
                  go_wp2_with fail
                  go_quiet ((first | (go_at_call 36; first | with_reducible exact quiet_add_left (q_left (H118.out _)) | with_reducible exact quiet_add_left (q_left (H116.out _)) | with_reducible exact quiet_add_left (q_left (H115.out _)) | with_reducible exact quiet_add_left (q_left (H97.out _)) | with_reducible exact quiet_add_left (q_left (H99.out _)) | with_reducible exact quiet_add_left (q_left (H100.out _))) | (go_at_call 35; first | with_reducible exact quiet_add_left (q_left (I1.out _)) | with_reducible exact quiet_add_left (q_left (I2.out _)) | with_reducible exact quiet_add_left (q_left (I3.out _)) | with_reducible exact quiet_add_left (q_left (I4.out _)) | with_reducible exact quiet_add_left (q_left (I5.out _)) | with_reducible exact quiet_add_left (q_left (I6.out _)))))
                  go_wp2_with fail
                  go_ret
                  exact ⟨rfl, below_drewN (below_drewN (below_drewN ((Below.refl _ _).alloc (Nat.le_refl _) _) _) _) _⟩
                · have hr2 : ((r : Int) == 0) = false := by rw [beq_eq_false_iff_ne]; omega
                  rw [dec_f hr]
                  simp only [Bool.false_and, Bool.and_false, Bool.true_and]
                  clear hr
                  go_enter Try.func11, Try.ntmps11
                  go_wp2_with fail
                  go_quiet ((first | (go_at_call 36; first | with_reducible exact Calls.quiet_of_same (q_left (H118.out _)) | with_reducible exact Calls.quiet_of_same (q_left (H116.out _)) | with_reducible exact Calls.quiet_of_same (q_left (H115.out _)) | with_reducible exact Calls.quiet_of_same (q_left (H97.out _)) | with_reducible exact Calls.quiet_of_same (q_left (H99.out _)) | with_reducible exact Calls.quiet_of_same (q_left (H100.out _))) | (go_at_call 35; first | with_reducible exact Calls.quiet_of_same (q_left (I1.out _)) | with_reducible exact Calls.quiet_of_same (q_left (I2.out _)) | with_reducible exact Calls.quiet_of_same (q_left (I3.out _)) | with_reducible exact Calls.quiet_of_same (q_left (I4.out _)) | with_reducible exact Calls.quiet_of_same (q_left (I5.out _)) | with_reducible exact Calls.quiet_of_same (q_left (I6.out _)))))
                  go_wp2_with fail
                  go_quiet ((first | (go_at_call 36; first | with_reducible exact quiet_add_left (q_left (H118.out _)) | with_reducible exact quiet_add_left (q_left (H116.out _)) | with_reducible exact quiet_add_left (q_left (H115.out _)) | with_reducible exact quiet_add_left (q_left (H97.out _)) | with_reducible exact quiet_add_left (q_left (H99.out _)) | with_reducible exact quiet_add_left (q_left (H100.out _))) | (go_at_call 35; first | with_reducible exact quiet_add_left (q_left (I1.out _)) | with_reducible exact quiet_add_left (q_left (I2.out _)) | with_reducible exact quiet_add_left (q_left (I3.out _)) | with_reducible exact quiet_add_left (q_left (I4.out _)) | with_reducible exact quiet_add_left (q_left (I5.out _)) | with_reducible exact quiet_add_left (q_left (I6.out _)))))
                  go_wp2_with fail
                  go_quiet ((first | (go_at_call 36; first | with_reducible exact quiet_add_left (q_left (H118.out _)) | with_reducible exact quiet_add_left (q_left (H116.out _)) | with_reducible exact quiet_add_left (q_left (H115.out _)) | with_reducible exact quiet_add_left (q_left (H97.out _)) | with_reducible exact quiet_add_left (q_left (H99.out _)) | with_reducible exact quiet_add_left (q_left (H100.out _))) | (go_at_call 35; first | with_reducible exact quiet_add_left (q_left (I1.out _)) | with_reducible exact quiet_add_left (q_left (I2.out _)) | with_reducible exact quiet_add_left (q_left (I3.out _)) | with_reducible exact quiet_add_left (q_left (I4.out _)) | with_reducible exact quiet_add_left (q_left (I5.out _)) | with_reducible exact quiet_add_left (q_left (I6.out _)))))
                  go_wp2_with fail
                  go_ret
                  exact ⟨rfl, below_drewN (below_drewN (below_drewN ((Below.refl _ _).alloc (Nat.le_refl _) _) _) _) _⟩
end

end Go.Proofs.Ytpkbkliblbbdcaa
