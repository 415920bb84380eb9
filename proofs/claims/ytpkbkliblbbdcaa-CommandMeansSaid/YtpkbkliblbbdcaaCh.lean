/- Walks of the document's own: what a kind names, whether it names a letter, bounds. -/
import Derived.Test.YtpkbkliblbbdcaaCg
set_option linter.unusedVariables false
namespace Go.Proofs.Ytpkbkliblbbdcaa
open Go.RowKit
set_option maxRecDepth 20000

/-- the document's letters -/
def rtxtK (k : Int) : ByteArray := ⟨(((namesL k).getD []).map (· + 32)).toArray⟩

set_option maxHeartbeats 1000000 in
theorem rnames_any (k : Int) (w : World) : Calls Try.prog 42 #[.int .i64 k] w fun e w' => e = .returned (.string (rtxtK k)) ∧ w = w' := by
  rcases namesL_cases k with ⟨h, h2⟩ | h
  · have e : ∀ j : Int, 1 ≤ j → j ≤ 9 → (k == j) = false := fun j h3 h4 => by rw [beq_eq_false_iff_ne]; omega
    have b1 := e 1 (by omega) (by omega)
    have b2 := e 2 (by omega) (by omega)
    have b3 := e 3 (by omega) (by omega)
    have b4 := e 4 (by omega) (by omega)
    have b5 := e 5 (by omega) (by omega)
    have b6 := e 6 (by omega) (by omega)
    have b7 := e 7 (by omega) (by omega)
    have b9 := e 9 (by omega) (by omega)
    have H := Lib.hid h
    clear h h2 e
    go_enter Try.func42, Try.ntmps42
    go_wp2
    go_ret
    refine ⟨?_, rfl⟩
    rw [rtxtK, H.out]
    rfl
  · rcases h with rfl | rfl | rfl | rfl | rfl | rfl | rfl | rfl | rfl
    all_goals
      go_enter Try.func42, Try.ntmps42
      go_wp2
      go_ret
      exact ⟨rfl, rfl⟩

theorem in_any (b : Bool) (l n m : Int) (w : World) : Calls Try.prog 35 #[.bool b, .int .i64 l, .int .i64 n, .int .i64 m] w fun e w' => e = .returned (.bool (inB b l n m)) ∧ w = w' := by
  cases b
  · by_cases h : n = 0
    · subst h
      go_enter Try.func35, Try.ntmps35
      go_wp2
      go_ret
      exact ⟨rfl, rfl⟩
    · have e : (n == 0) = false := by rw [beq_eq_false_iff_ne]; exact h
      have e2 : inB false l n m = false := by simp [inB, h]
      rw [e2]
      clear h e2
      go_enter Try.func35, Try.ntmps35
      go_wp2
      go_ret
      exact ⟨rfl, rfl⟩
  · have e2 : inB true l n m = (decide (l ≤ n) && decide (n ≤ m)) := by rfl
    rw [e2]
    clear e2
    cases hb : decide (l ≤ n)
    all_goals
      go_enter Try.func35, Try.ntmps35
      go_wp2
      go_ret
      exact ⟨rfl, rfl⟩

theorem rtxt_none {k : Int} (h : namesL k = none) : rtxtK k = ⟨#[]⟩ := by rw [rtxtK, h]; rfl
/-- does a kind name the letter, by the document's text? -/
def hasR (k : Int) (c : UInt8) : Bool := (bs (rtxtK k)).contains c

theorem rtxt_size (k : Int) : (rtxtK k).size ≤ 3 := by
  rcases namesL_cases k with ⟨h, h2⟩ | h
  · rw [rtxtK, h]; decide
  · rcases h with rfl | rfl | rfl | rfl | rfl | rfl | rfl | rfl | rfl <;> decide

set_option maxHeartbeats 1000000 in
theorem has_any (k : Int) (c : UInt8) (w : World) : Calls Try.prog 36 #[.int .i64 k, .int .u8 (c.toNat : Int)] w fun e w' => e = .returned (.bool (hasR k c)) ∧ w = w' := by
  have h3 := rtxt_size k
  have HN := Lib.hid (rnames_any k)
  generalize hx : hasR k c = x
  have HX := Lib.hid (show (bs (rtxtK k)).contains c = x from hx)
  clear hx
  generalize rtxtK k = R at *
  go_enter Try.func36, Try.ntmps36
  go_wp2_with (go_at_call 42; refine (HN.out _).mono ?_; rintro e w' ⟨rfl, rfl⟩)
  go_loop [6] (fun j => ∃ i : Nat, i ≤ R.size ∧ j = .int .i64 (i : Int) ∧ Hid (((bs R).take i).contains c = false)) (fun j => R.size - (intOf j).toNat)
  case atStart => exact ⟨0, Nat.zero_le _, rfl, rfl⟩
  case round =>
    obtain ⟨i, hp, rfl, HM⟩ := hrel
    by_cases hlt : i < R.size
    · by_cases hc : R[i]'hlt = c
      · have HF := Lib.hid (show (bs R).contains c = true by
          rw [List.contains_iff_mem, ← hc, ← bs_get R i hlt]
          exact List.getElem_mem _)
        have e : (((R[i]'hlt).toNat : Int) == (c.toNat : Int)) = true := by rw [hc]; simp
        clear hc HM
        go_wp2
        go_ret
        exact ⟨by rw [← HX.out, HF.out]; rfl, rfl⟩
      · have HF := Lib.hid (show ((bs R).take (i + 1)).contains c = false by
          have h := HM.out
          rw [bs_take R i hlt]
          rw [← Bool.not_eq_true, List.contains_iff_mem] at h ⊢
          rw [List.mem_append, List.mem_singleton]
          rintro (h2 | h2)
          · exact h h2
          · exact hc h2.symm)
        have e : (((R[i]'hlt).toNat : Int) == (c.toNat : Int)) = false := by rw [beq_eq_false_iff_ne]; intro e; exact hc (UInt8.toNat.inj (by omega))
        clear hc HM
        go_wp2
        go_round
        case rel => exact ⟨i + 1, hlt, by go_num, HF⟩
        case measure => simp [intOf]; omega
    · obtain rfl : i = R.size := by omega
      have HF := Lib.hid (show (bs R).contains c = false by rw [← bs_all]; exact HM.out)
      clear HM
      go_wp2
      go_ret
      exact ⟨by rw [← HX.out, HF.out]; rfl, rfl⟩

theorem has_eq (k : Int) : hasR k 118 = hasL k 86 ∧ hasR k 116 = hasL k 84 ∧ hasR k 115 = hasL k 83 ∧ hasR k 97 = hasL k 65 ∧ hasR k 99 = hasL k 67 ∧ hasR k 100 = hasL k 68 := by
  rcases namesL_cases k with ⟨h, h2⟩ | h
  · simp only [hasR, hasL, rtxtK, h]
    decide
  · rcases h with rfl | rfl | rfl | rfl | rfl | rfl | rfl | rfl | rfl <;> decide

end Go.Proofs.Ytpkbkliblbbdcaa
