/- The program's area: is there one, looks, Set, Inc, Dec. -/
import Derived.Test.YtiodhihddpbadaaKa
namespace Go.Proofs.Ytiodhihddpbadaa
open Go.RowKit

section
variable (w : World) (b g0 p0 g1 p1 : Nat) (c : CS)
theorem len_any (h : AX w b g0 p0 g1 p1 c) : Calls Try.prog 22 #[.pointer (some ⟨b, 0, none⟩)] w fun e w' => e = .returned (.int .i64 (c.now.length : Int)) ∧ w = w' := by
  have c0 := h.c0
  clear h
  go_enter Try.func22, Try.ntmps22
  go_wp2
  go_ret
  exact ⟨rfl, rfl⟩
theorem len_nil : Calls Try.prog 22 #[.pointer none] w fun e w' => e = .returned (.int .i64 0) ∧ w = w' := by
  go_enter Try.func22, Try.ntmps22
  go_wp2
  go_ret
  exact ⟨rfl, rfl⟩
theorem len_zero (h : w.cell? ⟨b, 0, none⟩ = some (.slice none 0 0)) : Calls Try.prog 22 #[.pointer (some ⟨b, 0, none⟩)] w fun e w' => e = .returned (.int .i64 0) ∧ w = w' := by
  go_enter Try.func22, Try.ntmps22
  go_wp2
  go_ret
  exact ⟨rfl, rfl⟩
theorem none_any (h : AX w b g0 p0 g1 p1 c) : Calls Try.prog 30 #[.pointer (some ⟨b, 0, none⟩)] w fun e w' => e = .returned (.bool false) ∧ w = w' := by
  have HL := Lib.hid (len_any w b g0 p0 g1 p1 c h)
  have h0 : ((c.now.length : Int) == 0) = false := by have := h.ok.n0; rw [beq_eq_false_iff_ne]; omega
  clear h
  go_enter Try.func30, Try.ntmps30
  go_wp2_with (go_at_call 22; refine HL.out.mono ?_; rintro e w' ⟨rfl, rfl⟩)
  go_ret
  exact ⟨rfl, rfl⟩
theorem none_no (p : Value) (h : Calls Try.prog 22 #[p] w fun e w' => e = .returned (.int .i64 0) ∧ w = w') : Calls Try.prog 30 #[p] w fun e w' => e = .returned (.bool true) ∧ w = w' := by
  have HL := Lib.hid h
  clear h
  go_enter Try.func30, Try.ntmps30
  go_wp2_with (go_at_call 22; refine HL.out.mono ?_; rintro e w' ⟨rfl, rfl⟩)
  go_ret
  exact ⟨rfl, rfl⟩
def placeE (n : Nat) (i : Int) : Int := if 0 ≤ i ∧ i < (n : Int) then 0 else 2
theorem place_any (h : AX w b g0 p0 g1 p1 c) (i : Int) : Calls Try.prog 32 #[.pointer (some ⟨b, 0, none⟩), .int .i64 i] w fun e w' => e = .returned (.int .i64 (placeE c.now.length i)) ∧ w = w' := by
  have HL := Lib.hid (len_any w b g0 p0 g1 p1 c h)
  have HN := Lib.hid (none_any w b g0 p0 g1 p1 c h)
  clear h
  by_cases h1 : i < 0
  · have e1 : placeE c.now.length i = 2 := by unfold placeE; rw [if_neg (by omega)]
    rw [e1]
    clear e1
    go_enter Try.func32, Try.ntmps32
    go_wp2_with (first
      | (go_at_call 30; refine HN.out.mono ?_; rintro e w' ⟨rfl, rfl⟩)
      | (go_at_call 22; refine HL.out.mono ?_; rintro e w' ⟨rfl, rfl⟩)
      | fail)
    go_ret
    exact ⟨rfl, rfl⟩
  · have t1 : decide (i < 0) = false := by simpa using h1
    by_cases h2 : i < (c.now.length : Int)
    · have e1 : placeE c.now.length i = 0 := by unfold placeE; rw [if_pos (by omega)]
      rw [e1]
      have t2 : decide ((c.now.length : Int) ≤ i) = false := by simpa using h2
      clear e1
      go_enter Try.func32, Try.ntmps32
      go_wp2_with (first
        | (go_at_call 30; refine HN.out.mono ?_; rintro e w' ⟨rfl, rfl⟩)
        | (go_at_call 22; refine HL.out.mono ?_; rintro e w' ⟨rfl, rfl⟩)
        | fail)
      go_ret
      exact ⟨rfl, rfl⟩
    · have e1 : placeE c.now.length i = 2 := by unfold placeE; rw [if_neg (by omega)]
      rw [e1]
      have t2 : decide ((c.now.length : Int) ≤ i) = true := by simp; omega
      clear e1
      go_enter Try.func32, Try.ntmps32
      go_wp2_with (first
        | (go_at_call 30; refine HN.out.mono ?_; rintro e w' ⟨rfl, rfl⟩)
        | (go_at_call 22; refine HL.out.mono ?_; rintro e w' ⟨rfl, rfl⟩)
        | fail)
      go_ret
      exact ⟨rfl, rfl⟩
theorem place_no (p : Value) (i : Int) (h : Calls Try.prog 22 #[p] w fun e w' => e = .returned (.int .i64 0) ∧ w = w') : Calls Try.prog 32 #[p, .int .i64 i] w fun e w' => e = .returned (.int .i64 1) ∧ w = w' := by
  have HN := Lib.hid (none_no w p h)
  clear h
  go_enter Try.func32, Try.ntmps32
  go_wp2_with (first
    | (go_at_call 30; refine HN.out.mono ?_; rintro e w' ⟨rfl, rfl⟩)
    | fail)
  go_ret
  exact ⟨rfl, rfl⟩
theorem cursor_any (h : AX w b g0 p0 g1 p1 c) : Calls Try.prog 23 #[.pointer (some ⟨b, 0, none⟩)] w fun e w' => e = .returned (.int .i64 (c.at_ : Int)) ∧ w = w' := by
  have HN := Lib.hid (none_any w b g0 p0 g1 p1 c h)
  have c2 := h.c2
  clear h
  go_enter Try.func23, Try.ntmps23
  go_wp2_with (go_at_call 30; refine HN.out.mono ?_; rintro e w' ⟨rfl, rfl⟩)
  go_ret
  exact ⟨rfl, rfl⟩
theorem cursor_no (p : Value) (h : Calls Try.prog 22 #[p] w fun e w' => e = .returned (.int .i64 0) ∧ w = w') : Calls Try.prog 23 #[p] w fun e w' => e = .returned (.int .i64 0) ∧ w = w' := by
  have HN := Lib.hid (none_no w p h)
  clear h
  go_enter Try.func23, Try.ntmps23
  go_wp2_with (go_at_call 30; refine HN.out.mono ?_; rintro e w' ⟨rfl, rfl⟩)
  go_ret
  exact ⟨rfl, rfl⟩
/-- how often a block is named; of one that there is not: by none -/
def lookN (l : List Nat) (i : Int) : Nat := if 0 ≤ i ∧ i < (l.length : Int) then l.getD i.toNat 0 else 0
theorem count_any (h : AX w b g0 p0 g1 p1 c) (i : Int) : Calls Try.prog 19 #[.pointer (some ⟨b, 0, none⟩), .int .i64 i] w fun e w' => e = .returned (.int .u16 (lookN c.now i : Int)) ∧ w = w' := by
  have HP := Lib.hid (place_any w b g0 p0 g1 p1 c h i)
  by_cases hi : 0 ≤ i ∧ i < (c.now.length : Int)
  · have e1 : placeE c.now.length i = 0 := by unfold placeE; rw [if_pos hi]
    have e2 : lookN c.now i = nowAt c i.toNat := by unfold lookN; rw [if_pos hi]; rfl
    rw [e2]
    rw [e1] at HP
    obtain ⟨n, rfl⟩ := Int.eq_ofNat_of_zero_le hi.1
    have hn : n < c.now.length := by omega
    have c0 := h.c0
    have cn := h.n_at n hn
    have e3 : ((n : Nat) : Int).toNat = n := by omega
    rw [e3]
    have hnI : (n : Int) < (c.now.length : Int) := by omega
    clear h e1 e2 e3 hi
    go_enter Try.func19, Try.ntmps19
    go_wp2_with (go_at_call 32; refine HP.out.mono ?_; rintro e w' ⟨rfl, rfl⟩)
    go_ret
    exact ⟨rfl, rfl⟩
  · have e1 : placeE c.now.length i = 2 := by unfold placeE; rw [if_neg hi]
    have e2 : lookN c.now i = 0 := by unfold lookN; rw [if_neg hi]
    rw [e2]
    rw [e1] at HP
    clear h e1 e2 hi
    go_enter Try.func19, Try.ntmps19
    go_wp2_with (go_at_call 32; refine HP.out.mono ?_; rintro e w' ⟨rfl, rfl⟩)
    go_ret
    exact ⟨rfl, rfl⟩
theorem was_any (h : AX w b g0 p0 g1 p1 c) (i : Int) : Calls Try.prog 20 #[.pointer (some ⟨b, 0, none⟩), .int .i64 i] w fun e w' => e = .returned (.int .u16 (lookN c.was i : Int)) ∧ w = w' := by
  have HP := Lib.hid (place_any w b g0 p0 g1 p1 c h i)
  have hl := h.ok.len
  by_cases hi : 0 ≤ i ∧ i < (c.now.length : Int)
  · have e1 : placeE c.now.length i = 0 := by unfold placeE; rw [if_pos hi]
    have e2 : lookN c.was i = wasAt c i.toNat := by unfold lookN; rw [hl, if_pos hi]; rfl
    rw [e2]
    rw [e1] at HP
    obtain ⟨n, rfl⟩ := Int.eq_ofNat_of_zero_le hi.1
    have hn : n < c.now.length := by omega
    have c0 := h.c1
    have cn := h.w_at n hn
    have e3 : ((n : Nat) : Int).toNat = n := by omega
    rw [e3]
    have hnI : (n : Int) < (c.now.length : Int) := by omega
    clear h e1 e2 e3 hi hl
    go_enter Try.func20, Try.ntmps20
    go_wp2_with (go_at_call 32; refine HP.out.mono ?_; rintro e w' ⟨rfl, rfl⟩)
    go_ret
    exact ⟨rfl, rfl⟩
  · have e1 : placeE c.now.length i = 2 := by unfold placeE; rw [if_neg hi]
    have e2 : lookN c.was i = 0 := by unfold lookN; rw [hl, if_neg hi]
    rw [e2]
    rw [e1] at HP
    clear h e1 e2 hi hl
    go_enter Try.func20, Try.ntmps20
    go_wp2_with (go_at_call 32; refine HP.out.mono ?_; rintro e w' ⟨rfl, rfl⟩)
    go_ret
    exact ⟨rfl, rfl⟩
theorem count_no (p : Value) (i : Int) (h : Calls Try.prog 22 #[p] w fun e w' => e = .returned (.int .i64 0) ∧ w = w') : Calls Try.prog 19 #[p, .int .i64 i] w fun e w' => e = .returned (.int .u16 0) ∧ w = w' := by
  have HP := Lib.hid (place_no w p i h)
  clear h
  go_enter Try.func19, Try.ntmps19
  go_wp2_with (go_at_call 32; refine HP.out.mono ?_; rintro e w' ⟨rfl, rfl⟩)
  go_ret
  exact ⟨rfl, rfl⟩
theorem was_no (p : Value) (i : Int) (h : Calls Try.prog 22 #[p] w fun e w' => e = .returned (.int .i64 0) ∧ w = w') : Calls Try.prog 20 #[p, .int .i64 i] w fun e w' => e = .returned (.int .u16 0) ∧ w = w' := by
  have HP := Lib.hid (place_no w p i h)
  clear h
  go_enter Try.func20, Try.ntmps20
  go_wp2_with (go_at_call 32; refine HP.out.mono ?_; rintro e w' ⟨rfl, rfl⟩)
  go_ret
  exact ⟨rfl, rfl⟩
theorem set_no (p : Value) (i : Int) (h : Calls Try.prog 22 #[p] w fun e w' => e = .returned (.int .i64 0) ∧ w = w') : Calls Try.prog 24 #[p, .int .i64 i] w fun e w' => e = .returned (.int .i64 1) ∧ w = w' := by
  have HP := Lib.hid (place_no w p i h)
  clear h
  go_enter Try.func24, Try.ntmps24
  go_wp2_with (go_at_call 32; refine HP.out.mono ?_; rintro e w' ⟨rfl, rfl⟩)
  go_ret
  exact ⟨rfl, rfl⟩
theorem inc_no (p : Value) (i : Int) (h : Calls Try.prog 22 #[p] w fun e w' => e = .returned (.int .i64 0) ∧ w = w') : Calls Try.prog 18 #[p, .int .i64 i] w fun e w' => e = .returned (.int .i64 1) ∧ w = w' := by
  have HP := Lib.hid (place_no w p i h)
  clear h
  go_enter Try.func18, Try.ntmps18
  go_wp2_with (go_at_call 32; refine HP.out.mono ?_; rintro e w' ⟨rfl, rfl⟩)
  go_ret
  exact ⟨rfl, rfl⟩
theorem dec_no (p : Value) (i : Int) (h : Calls Try.prog 22 #[p] w fun e w' => e = .returned (.int .i64 0) ∧ w = w') : Calls Try.prog 17 #[p, .int .i64 i] w fun e w' => e = .returned (.tuple #[.int .u16 0, .int .i64 1]) ∧ w = w' := by
  have HP := Lib.hid (place_no w p i h)
  clear h
  go_enter Try.func17, Try.ntmps17
  go_wp2_with (go_at_call 32; refine HP.out.mono ?_; rintro e w' ⟨rfl, rfl⟩)
  go_ret2
  exact ⟨rfl, rfl⟩
end
end Go.Proofs.Ytiodhihddpbadaa
