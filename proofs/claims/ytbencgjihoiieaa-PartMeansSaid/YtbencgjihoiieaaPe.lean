/- Whole, span. -/
import Derived.Test.YtbencgjihoiieaaPd
set_option linter.unusedVariables false
namespace Go.Proofs.Ytbencgjihoiieaa
open Go.RowKit

theorem bool_info : (Try.prog.info? 4).map (fun i => (i.zero, i.size, i.bytes)) = some (some (.bool false), 1, 1) := by kernel_rfl
theorem bool_cells : Try.prog.cellsOf 4 = 1 := by kernel_rfl
theorem eql_four (p q r u p' q' r' u' : Bool) (w : World) : (Op.equalIn 10000 48 (FOUR p q r u) (FOUR p' q' r' u')).run Try.prog w = .ok (p == p' && (q == q' && (r == r' && u == u'))) w := by
  obtain ⟨i, hi, _⟩ := info_parts bool_info
  unfold FOUR
  rw [run_equalIn_array w 9999 _ _ Try.underlying48 hi, bool_cells]
  have e : List.range 4 = [0, 1, 2, 3] := by decide
  rw [e]
  simp only [Op.eqItems]
  go_simp
  repeat' split
  all_goals simp_all
theorem eql_all (p q r u : Bool) (w : World) : (Op.equalIn 10000 48 (.agg #[.bool p, .bool q, .bool r, .bool u]) (.agg #[.bool true, .bool true, .bool true, .bool true])).run Try.prog w = .ok (p && q && r && u) w := by
  have h := eql_four p q r u true true true true w
  unfold FOUR at h
  rw [h]
  cases p <;> cases q <;> cases r <;> cases u <;> rfl
theorem eql_none (p q r u : Bool) (w : World) : (Op.equalIn 10000 48 (.agg #[.bool p, .bool q, .bool r, .bool u]) (.agg #[.bool false, .bool false, .bool false, .bool false])).run Try.prog w = .ok (!(p || q || r || u)) w := by
  have h := eql_four p q r u false false false false w
  unfold FOUR at h
  rw [h]
  cases p <;> cases q <;> cases r <;> cases u <;> rfl
/-- what has tells, in two words -/
theorem has_any (w : World) (s : SP) : Calls Try.prog 20 #[.agg #[.int .i64 s.b, .int .i64 s.f, .int .i64 s.t]] w fun e w' => (∃ p q r u : Bool, e = .returned (.agg #[.bool p, .bool q, .bool r, .bool u]) ∧ Hid ((p || q || r || u) = okS s ∧ (p && q && r && u) = decide (s.f = 0 ∧ s.t = 4))) ∧ Below w.heap.size w w' := by
  cases hk : okS s with
  | false =>
    refine (has_no w s hk).mono ?_
    rintro e w' ⟨rfl, hb⟩
    refine ⟨⟨false, false, false, false, rfl, rfl, ?_⟩, hb⟩
    unfold okS at hk
    simp at hk ⊢
    omega
  | true =>
    obtain ⟨b, f, t⟩ := s
    unfold okS at hk
    simp at hk
    obtain ⟨f, rfl⟩ := Int.eq_ofNat_of_zero_le hk.1
    obtain ⟨t, rfl⟩ := Int.eq_ofNat_of_zero_le (show 0 ≤ t by omega)
    refine (has_yes w b f t (by omega) (by omega)).mono ?_
    rintro e w' ⟨rfl, hbel⟩
    refine ⟨⟨_, _, _, _, rfl, ?_⟩, hbel⟩
    have hf : f = 0 ∨ f = 1 ∨ f = 2 ∨ f = 3 := by omega
    have ht : t = 1 ∨ t = 2 ∨ t = 3 ∨ t = 4 := by omega
    rcases hf with rfl | rfl | rfl | rfl <;> rcases ht with rfl | rfl | rfl | rfl <;> first | omega | exact ⟨by simp [hb], by simp [hb]⟩
theorem whole_any (w : World) (s : SP) :
    Calls Try.prog 12 #[s.v] w fun e w' => e = .returned (.bool (decide (s.f = 0 ∧ s.t = 4))) ∧ Below w.heap.size w w' := by
  have HX := Lib.hid (has_any (w.alloc (.cells #[.int .i64 s.b, .int .i64 s.f, .int .i64 s.t] 23)) s)
  have HE := fun p q r u w => eql_all p q r u w
  unfold SP.v
  go_enter Try.func12, Try.ntmps12
  go_wp2_with (first
    | (go_at_call 20; (with_reducible refine HX.out.mono ?_); rintro e w1 ⟨⟨p, q, r, u, rfl, hh⟩, hbel⟩)
    | fail)
  go_ret
  exact ⟨by rw [hh.out.2]; rfl, (((Below.refl _ w).alloc (Nat.le_refl _) _).trans (hbel.mono (by simp)))⟩
end Go.Proofs.Ytbencgjihoiieaa
