/- Walks: which answers may be; small functions. -/
import Derived.Test.YtpkbkliblbbdcaaCm
set_option linter.unusedVariables false
namespace Go.Proofs.Ytpkbkliblbbdcaa
open Go.RowKit
set_option maxRecDepth 20000

def mayA (a : AN) : Bool := (decide (0 ≤ a.k) && decide (a.k ≤ 14)) && (decide (0 ≤ a.s) && decide (a.s ≤ 1024)) && (decide (a.s = 0) || decide (a.k = 8)) && secB a.d.length 1024 && (decide (a.d.length = 0) || decide (a.k = 0))

theorem mayA_iff {k s : Int} {d : List UInt8} : mayA ⟨k, s, d⟩ = true ↔ (0 ≤ k ∧ k ≤ 14) ∧ (0 ≤ s ∧ s ≤ 1024) ∧ (s = 0 ∨ k = 8) ∧ secB d.length 1024 = true ∧ (d.length = 0 ∨ k = 0) := by
  simp only [mayA, Bool.and_eq_true, Bool.or_eq_true, decide_eq_true_eq]
  constructor
  · rintro ⟨⟨⟨⟨h1, h2⟩, h3⟩, h4⟩, h5⟩; exact ⟨h1, h2, h3, h4, h5⟩
  · rintro ⟨h1, h2, h3, h4, h5⟩; exact ⟨⟨⟨⟨h1, h2⟩, h3⟩, h4⟩, h5⟩

theorem num_any (n : Int) (w : World) : Calls Try.prog 17 #[.int .i64 n] w fun e w' => e = .returned (.int .i64 n) ∧ w = w' := by
  go_enter Try.func17, Try.ntmps17
  go_wp2
  go_ret
  exact ⟨rfl, rfl⟩

section
variable (k : Int) (v t : Nat) (s a c : Int) (d : List UInt8) (A : Option Addr) (cap : Nat) (w : World)

theorem much_any : Calls Try.prog 8 #[.agg #[.int .i64 k, .int .u64 (v : Int), .int .u64 (t : Int), .int .i64 s, .int .i64 a, .int .i64 c, .slice A d.length cap]] w fun e w' => e = .returned (.bool (decide (9000 < d.length))) ∧ Below w.heap.size w w' := by
  go_enter Try.func8, Try.ntmps8
  by_cases h : 9000 < d.length
  · have e : decide ((9000 : Int) < (d.length : Int)) = true := dec_t (by omega)
    rw [dec_t h]
    clear h
    go_wp2
    go_ret
    exact ⟨rfl, (Below.refl _ _).alloc (Nat.le_refl _) _⟩
  · have e : decide ((9000 : Int) < (d.length : Int)) = false := dec_f (by omega)
    rw [dec_f h]
    clear h
    go_wp2
    go_ret
    exact ⟨rfl, (Below.refl _ _).alloc (Nat.le_refl _) _⟩

theorem changes_any : Calls Try.prog 16 #[.agg #[.int .i64 k, .int .u64 (v : Int), .int .u64 (t : Int), .int .i64 s, .int .i64 a, .int .i64 c, .slice A d.length cap]] w fun e w' => e = .returned (.bool (!decide (k = 8) && !decide (k = 9))) ∧ Below w.heap.size w w' := by
  by_cases h8 : k = 8
  · subst h8
    go_enter Try.func16, Try.ntmps16
    go_wp2
    go_ret
    exact ⟨rfl, (Below.refl _ _).alloc (Nat.le_refl _) _⟩
  · have e8 : (k != 8) = true := by rw [bne_iff_ne]; exact h8
    rw [dec_f h8]
    clear h8
    by_cases h9 : k = 9
    · subst h9
      go_enter Try.func16, Try.ntmps16
      go_wp2
      go_ret
      exact ⟨rfl, (Below.refl _ _).alloc (Nat.le_refl _) _⟩
    · have e9 : (k != 9) = true := by rw [bne_iff_ne]; exact h9
      rw [dec_f h9]
      clear h9
      go_enter Try.func16, Try.ntmps16
      go_wp2
      go_ret
      exact ⟨rfl, (Below.refl _ _).alloc (Nat.le_refl _) _⟩

set_option maxHeartbeats 4000000 in
theorem mayA_any (hd : d.length ≤ 9223372036854775807) : Calls Try.prog 27 #[.agg #[.int .i64 k, .int .i64 s, .slice A d.length cap]] w fun e w' => e = .returned (.bool (mayA ⟨k, s, d⟩)) ∧ Below w.heap.size w w' := by
  have hdq : (d.length : Int).tdiv 64 = ((d.length / 64 : Nat) : Int) := by rw [Int.tdiv_eq_ediv_of_nonneg (by omega)]; omega
  have hdm : (d.length : Int).tmod 64 = ((d.length % 64 : Nat) : Int) := by rw [Int.tmod_eq_emod_of_nonneg (by omega)]; omega
  have HDQ := Lib.hid hdq
  have HDM := Lib.hid hdm
  clear hdq hdm
  have HS : Hid (secB d.length 1024 = secB d.length 1024) := rfl
  by_cases h1 : k < 0
  · have d1 := dec_t h1
    have e : mayA ⟨k, s, d⟩ = false := by simp [mayA, secB]; omega
    rw [e]
    clear e h1
    go_enter Try.func27, Try.ntmps27
    go_wp2_with (go_at_call 48; refine (maySectors_any _ _ _ 1024 _ hd (by omega)).mono ?_; rintro e w' ⟨rfl, rfl⟩; rw [HS.out])
    go_ret
    exact ⟨rfl, (Below.refl _ _).alloc (Nat.le_refl _) _⟩
  have d1 := dec_f h1
  by_cases h2 : 14 < k
  · have d2 := dec_t h2
    have e : mayA ⟨k, s, d⟩ = false := by simp [mayA, secB]; omega
    rw [e]
    clear e h1 h2
    go_enter Try.func27, Try.ntmps27
    go_wp2_with (go_at_call 48; refine (maySectors_any _ _ _ 1024 _ hd (by omega)).mono ?_; rintro e w' ⟨rfl, rfl⟩; rw [HS.out])
    go_ret
    exact ⟨rfl, (Below.refl _ _).alloc (Nat.le_refl _) _⟩
  have d2 := dec_f h2
  by_cases h3 : s < 0
  · have d3 := dec_t h3
    have e : mayA ⟨k, s, d⟩ = false := by simp [mayA, secB]; omega
    rw [e]
    clear e h1 h2 h3
    go_enter Try.func27, Try.ntmps27
    go_wp2_with (go_at_call 48; refine (maySectors_any _ _ _ 1024 _ hd (by omega)).mono ?_; rintro e w' ⟨rfl, rfl⟩; rw [HS.out])
    go_ret
    exact ⟨rfl, (Below.refl _ _).alloc (Nat.le_refl _) _⟩
  have d3 := dec_f h3
  by_cases h4 : 1024 < s
  · have d4 := dec_t h4
    have e : mayA ⟨k, s, d⟩ = false := by simp [mayA, secB]; omega
    rw [e]
    clear e h1 h2 h3 h4
    go_enter Try.func27, Try.ntmps27
    go_wp2_with (go_at_call 48; refine (maySectors_any _ _ _ 1024 _ hd (by omega)).mono ?_; rintro e w' ⟨rfl, rfl⟩; rw [HS.out])
    go_ret
    exact ⟨rfl, (Below.refl _ _).alloc (Nat.le_refl _) _⟩
  have d4 := dec_f h4
  by_cases h5 : s = 0
  · have n5 : (s != 0) = false := by rw [bne_eq_false_iff_eq]; exact h5
    have p5 : decide (0 < s) = false := dec_f (by omega)
    by_cases h7 : secB d.length 1024 = true
    · clear HS
      have HS := Lib.hid h7
      have g1 : d.length % 64 = 0 := by simp only [secB, Bool.and_eq_true, decide_eq_true_eq] at h7; exact h7.1
      have g2 : d.length / 64 ≤ 1024 := by simp only [secB, Bool.and_eq_true, decide_eq_true_eq] at h7; exact h7.2
      by_cases h8 : d.length = 0
      · have n8 : ((d.length : Int) == 0) = true := by rw [beq_iff_eq]; omega
        have e : mayA ⟨k, s, d⟩ = true := mayA_iff.2 ⟨⟨by omega, by omega⟩, ⟨by omega, by omega⟩, by omega, h7, .inl h8⟩
        rw [e]
        have h80 := h8
        clear e h8 h80 h1 h2 h3 h4 h5 h7 g1 g2
        go_enter Try.func27, Try.ntmps27
        go_wp2_with (go_at_call 48; refine (maySectors_any _ _ _ 1024 _ hd (by omega)).mono ?_; rintro e w' ⟨rfl, rfl⟩; rw [HS.out])
        go_ret
        exact ⟨rfl, (Below.refl _ _).alloc (Nat.le_refl _) _⟩
      · have n8 : ((d.length : Int) == 0) = false := by rw [beq_eq_false_iff_ne]; omega
        by_cases hk0 : k = 0
        · have e : mayA ⟨k, s, d⟩ = true := mayA_iff.2 ⟨⟨by omega, by omega⟩, ⟨by omega, by omega⟩, by omega, h7, .inr hk0⟩
          rw [e]
          have nk : (k == 0) = true := by rw [beq_iff_eq]; exact hk0
          clear e h8 hk0 h1 h2 h3 h4 h5 h7 g1 g2
          go_enter Try.func27, Try.ntmps27
          go_wp2_with (go_at_call 48; refine (maySectors_any _ _ _ 1024 _ hd (by omega)).mono ?_; rintro e w' ⟨rfl, rfl⟩; rw [HS.out])
          go_ret
          exact ⟨rfl, (Below.refl _ _).alloc (Nat.le_refl _) _⟩
        · have e : mayA ⟨k, s, d⟩ = false := by rw [← Bool.not_eq_true, mayA_iff]; rintro ⟨_, _, _, _, h⟩; omega
          rw [e]
          have nk : (k == 0) = false := by rw [beq_eq_false_iff_ne]; exact hk0
          clear e h8 hk0 h1 h2 h3 h4 h5 h7 g1 g2
          go_enter Try.func27, Try.ntmps27
          go_wp2_with (go_at_call 48; refine (maySectors_any _ _ _ 1024 _ hd (by omega)).mono ?_; rintro e w' ⟨rfl, rfl⟩; rw [HS.out])
          go_ret
          exact ⟨rfl, (Below.refl _ _).alloc (Nat.le_refl _) _⟩
    · rw [Bool.not_eq_true] at h7
      clear HS
      have HS := Lib.hid h7
      have e : mayA ⟨k, s, d⟩ = false := by simp only [mayA, h7, Bool.and_false, Bool.false_and]
      rw [e]
      clear e h1 h2 h3 h4 h5 h7
      go_enter Try.func27, Try.ntmps27
      go_wp2_with (go_at_call 48; refine (maySectors_any _ _ _ 1024 _ hd (by omega)).mono ?_; rintro e w' ⟨rfl, rfl⟩; rw [HS.out])
      go_ret
      exact ⟨rfl, (Below.refl _ _).alloc (Nat.le_refl _) _⟩
  · have n5 : (s != 0) = true := by rw [bne_iff_ne]; exact h5
    have p5 : decide (0 < s) = true := dec_t (by omega)
    by_cases h6 : k = 8
    · have n6 : (k != 8) = false := by rw [bne_eq_false_iff_eq]; exact h6
      by_cases h7 : secB d.length 1024 = true
      · clear HS
        have HS := Lib.hid h7
        have g1 : d.length % 64 = 0 := by simp only [secB, Bool.and_eq_true, decide_eq_true_eq] at h7; exact h7.1
        have g2 : d.length / 64 ≤ 1024 := by simp only [secB, Bool.and_eq_true, decide_eq_true_eq] at h7; exact h7.2
        by_cases h8 : d.length = 0
        · have n8 : ((d.length : Int) == 0) = true := by rw [beq_iff_eq]; omega
          have e : mayA ⟨k, s, d⟩ = true := mayA_iff.2 ⟨⟨by omega, by omega⟩, ⟨by omega, by omega⟩, by omega, h7, .inl h8⟩
          rw [e]
          have h80 := h8
          clear e h8 h80 h1 h2 h3 h4 h5 h6 h7 g1 g2
          go_enter Try.func27, Try.ntmps27
          go_wp2_with (go_at_call 48; refine (maySectors_any _ _ _ 1024 _ hd (by omega)).mono ?_; rintro e w' ⟨rfl, rfl⟩; rw [HS.out])
          go_ret
          exact ⟨rfl, (Below.refl _ _).alloc (Nat.le_refl _) _⟩
        · have n8 : ((d.length : Int) == 0) = false := by rw [beq_eq_false_iff_ne]; omega
          by_cases hk0 : k = 0
          · have e : mayA ⟨k, s, d⟩ = true := mayA_iff.2 ⟨⟨by omega, by omega⟩, ⟨by omega, by omega⟩, by omega, h7, .inr hk0⟩
            rw [e]
            have nk : (k == 0) = true := by rw [beq_iff_eq]; exact hk0
            clear e h8 hk0 h1 h2 h3 h4 h5 h6 h7 g1 g2
            go_enter Try.func27, Try.ntmps27
            go_wp2_with (go_at_call 48; refine (maySectors_any _ _ _ 1024 _ hd (by omega)).mono ?_; rintro e w' ⟨rfl, rfl⟩; rw [HS.out])
            go_ret
            exact ⟨rfl, (Below.refl _ _).alloc (Nat.le_refl _) _⟩
          · have e : mayA ⟨k, s, d⟩ = false := by rw [← Bool.not_eq_true, mayA_iff]; rintro ⟨_, _, _, _, h⟩; omega
            rw [e]
            have nk : (k == 0) = false := by rw [beq_eq_false_iff_ne]; exact hk0
            clear e h8 hk0 h1 h2 h3 h4 h5 h6 h7 g1 g2
            go_enter Try.func27, Try.ntmps27
            go_wp2_with (go_at_call 48; refine (maySectors_any _ _ _ 1024 _ hd (by omega)).mono ?_; rintro e w' ⟨rfl, rfl⟩; rw [HS.out])
            go_ret
            exact ⟨rfl, (Below.refl _ _).alloc (Nat.le_refl _) _⟩
      · rw [Bool.not_eq_true] at h7
        clear HS
        have HS := Lib.hid h7
        have e : mayA ⟨k, s, d⟩ = false := by simp only [mayA, h7, Bool.and_false, Bool.false_and]
        rw [e]
        clear e h1 h2 h3 h4 h5 h6 h7
        go_enter Try.func27, Try.ntmps27
        go_wp2_with (go_at_call 48; refine (maySectors_any _ _ _ 1024 _ hd (by omega)).mono ?_; rintro e w' ⟨rfl, rfl⟩; rw [HS.out])
        go_ret
        exact ⟨rfl, (Below.refl _ _).alloc (Nat.le_refl _) _⟩
    · have n6 : (k != 8) = true := by rw [bne_iff_ne]; exact h6
      have e : mayA ⟨k, s, d⟩ = false := by simp [mayA, h5, h6]
      rw [e]
      clear e h1 h2 h3 h4 h5 h6
      go_enter Try.func27, Try.ntmps27
      go_wp2_with (go_at_call 48; refine (maySectors_any _ _ _ 1024 _ hd (by omega)).mono ?_; rintro e w' ⟨rfl, rfl⟩; rw [HS.out])
      go_ret
      exact ⟨rfl, (Below.refl _ _).alloc (Nat.le_refl _) _⟩

set_option maxHeartbeats 4000000 in
theorem rmayA_any (hd : d.length ≤ 9223372036854775807) : Calls Try.prog 25 #[.agg #[.int .i64 k, .int .i64 s, .slice A d.length cap]] w fun e w' => e = .returned (.bool (mayA ⟨k, s, d⟩)) ∧ Below w.heap.size w w' := by
  have hdq : (d.length : Int).tdiv 64 = ((d.length / 64 : Nat) : Int) := by rw [Int.tdiv_eq_ediv_of_nonneg (by omega)]; omega
  have hdm : (d.length : Int).tmod 64 = ((d.length % 64 : Nat) : Int) := by rw [Int.tmod_eq_emod_of_nonneg (by omega)]; omega
  have HDQ := Lib.hid hdq
  have HDM := Lib.hid hdm
  clear hdq hdm
  have HS : Hid (secB d.length 1024 = secB d.length 1024) := rfl
  by_cases h1 : k < 0
  · have d1 := dec_t h1
    have e : mayA ⟨k, s, d⟩ = false := by simp [mayA, secB]; omega
    rw [e]
    clear e h1
    go_enter Try.func25, Try.ntmps25
    go_wp2_with fail
    go_ret
    exact ⟨rfl, (Below.refl _ _).alloc (Nat.le_refl _) _⟩
  have d1 := dec_f h1
  by_cases h2 : 14 < k
  · have d2 := dec_t h2
    have e : mayA ⟨k, s, d⟩ = false := by simp [mayA, secB]; omega
    rw [e]
    clear e h1 h2
    go_enter Try.func25, Try.ntmps25
    go_wp2_with fail
    go_ret
    exact ⟨rfl, (Below.refl _ _).alloc (Nat.le_refl _) _⟩
  have d2 := dec_f h2
  by_cases h3 : s < 0
  · have d3 := dec_t h3
    have e : mayA ⟨k, s, d⟩ = false := by simp [mayA, secB]; omega
    rw [e]
    clear e h1 h2 h3
    go_enter Try.func25, Try.ntmps25
    go_wp2_with fail
    go_ret
    exact ⟨rfl, (Below.refl _ _).alloc (Nat.le_refl _) _⟩
  have d3 := dec_f h3
  by_cases h4 : 1024 < s
  · have d4 := dec_t h4
    have e : mayA ⟨k, s, d⟩ = false := by simp [mayA, secB]; omega
    rw [e]
    clear e h1 h2 h3 h4
    go_enter Try.func25, Try.ntmps25
    go_wp2_with fail
    go_ret
    exact ⟨rfl, (Below.refl _ _).alloc (Nat.le_refl _) _⟩
  have d4 := dec_f h4
  by_cases h5 : s = 0
  · have n5 : (s != 0) = false := by rw [bne_eq_false_iff_eq]; exact h5
    have p5 : decide (0 < s) = false := dec_f (by omega)
    by_cases h7 : secB d.length 1024 = true
    · clear HS
      have HS := Lib.hid h7
      have g1 : d.length % 64 = 0 := by simp only [secB, Bool.and_eq_true, decide_eq_true_eq] at h7; exact h7.1
      have g2 : d.length / 64 ≤ 1024 := by simp only [secB, Bool.and_eq_true, decide_eq_true_eq] at h7; exact h7.2
      have m1 : (d.length : Int).tmod 64 = 0 := by rw [HDM.out, g1]; rfl
      have m2 := HDQ.out
      have hq9 : d.length / 64 ≤ 9223372036854775807 := by omega
      generalize hq : d.length / 64 = q at *
      have m3 : decide ((q : Int) ≤ 1024) = true := dec_t (by omega)
      by_cases h8 : d.length = 0
      · have n8 : ((d.length : Int) == 0) = true := by rw [beq_iff_eq]; omega
        have e : mayA ⟨k, s, d⟩ = true := mayA_iff.2 ⟨⟨by omega, by omega⟩, ⟨by omega, by omega⟩, by omega, h7, .inl h8⟩
        rw [e]
        have h80 := h8
        clear e h8 h80 h1 h2 h3 h4 h5 h7 g1 g2 hq
        by_cases hk0 : k = 0
        · subst hk0
          go_enter Try.func25, Try.ntmps25
          go_wp2_with fail
          go_ret
          exact ⟨rfl, (Below.refl _ _).alloc (Nat.le_refl _) _⟩
        · have nk : (k == 0) = false := by rw [beq_eq_false_iff_ne]; exact hk0
          clear hk0
          go_enter Try.func25, Try.ntmps25
          go_wp2_with fail
          go_ret
          exact ⟨rfl, (Below.refl _ _).alloc (Nat.le_refl _) _⟩
      · have n8 : ((d.length : Int) == 0) = false := by rw [beq_eq_false_iff_ne]; omega
        by_cases hk0 : k = 0
        · have e : mayA ⟨k, s, d⟩ = true := mayA_iff.2 ⟨⟨by omega, by omega⟩, ⟨by omega, by omega⟩, by omega, h7, .inr hk0⟩
          rw [e]
          have nk : (k == 0) = true := by rw [beq_iff_eq]; exact hk0
          clear e h8 hk0 h1 h2 h3 h4 h5 h7 g1 g2 hq
          go_enter Try.func25, Try.ntmps25
          go_wp2_with fail
          go_ret
          exact ⟨rfl, (Below.refl _ _).alloc (Nat.le_refl _) _⟩
        · have e : mayA ⟨k, s, d⟩ = false := by rw [← Bool.not_eq_true, mayA_iff]; rintro ⟨_, _, _, _, h⟩; omega
          rw [e]
          have nk : (k == 0) = false := by rw [beq_eq_false_iff_ne]; exact hk0
          clear e h8 hk0 h1 h2 h3 h4 h5 h7 g1 g2 hq
          go_enter Try.func25, Try.ntmps25
          go_wp2_with fail
          go_ret
          exact ⟨rfl, (Below.refl _ _).alloc (Nat.le_refl _) _⟩
    · rw [Bool.not_eq_true] at h7
      clear HS
      have HS := Lib.hid h7
      have e : mayA ⟨k, s, d⟩ = false := by simp only [mayA, h7, Bool.and_false, Bool.false_and]
      rw [e]
      by_cases g1 : d.length % 64 = 0
      · have g2 : ¬ d.length / 64 ≤ 1024 := by intro h; simp [secB, g1, h] at h7
        have m1 : (d.length : Int).tmod 64 = 0 := by rw [HDM.out, g1]; rfl
        have m2 := HDQ.out
        have hq9 : d.length / 64 ≤ 9223372036854775807 := by omega
        generalize hq : d.length / 64 = q at *
        have m3 : decide ((q : Int) ≤ 1024) = false := dec_f (by omega)
        clear e h7 g1 g2 hq h1 h2 h3 h4 h5
        go_enter Try.func25, Try.ntmps25
        go_wp2_with fail
        go_ret
        exact ⟨rfl, (Below.refl _ _).alloc (Nat.le_refl _) _⟩
      · have m1 := HDM.out
        generalize hr : d.length % 64 = r at *
        have m3 : ((r : Int) == 0) = false := by rw [beq_eq_false_iff_ne]; omega
        clear e h7 g1 hr h1 h2 h3 h4 h5
        go_enter Try.func25, Try.ntmps25
        go_wp2_with fail
        go_ret
        exact ⟨rfl, (Below.refl _ _).alloc (Nat.le_refl _) _⟩
  · have n5 : (s != 0) = true := by rw [bne_iff_ne]; exact h5
    have p5 : decide (0 < s) = true := dec_t (by omega)
    by_cases h6 : k = 8
    · have n6 : (k != 8) = false := by rw [bne_eq_false_iff_eq]; exact h6
      by_cases h7 : secB d.length 1024 = true
      · clear HS
        have HS := Lib.hid h7
        have g1 : d.length % 64 = 0 := by simp only [secB, Bool.and_eq_true, decide_eq_true_eq] at h7; exact h7.1
        have g2 : d.length / 64 ≤ 1024 := by simp only [secB, Bool.and_eq_true, decide_eq_true_eq] at h7; exact h7.2
        have m1 : (d.length : Int).tmod 64 = 0 := by rw [HDM.out, g1]; rfl
        have m2 := HDQ.out
        have hq9 : d.length / 64 ≤ 9223372036854775807 := by omega
        generalize hq : d.length / 64 = q at *
        have m3 : decide ((q : Int) ≤ 1024) = true := dec_t (by omega)
        by_cases h8 : d.length = 0
        · have n8 : ((d.length : Int) == 0) = true := by rw [beq_iff_eq]; omega
          have e : mayA ⟨k, s, d⟩ = true := mayA_iff.2 ⟨⟨by omega, by omega⟩, ⟨by omega, by omega⟩, by omega, h7, .inl h8⟩
          rw [e]
          have h80 := h8
          clear e h8 h80 h1 h2 h3 h4 h5 h6 h7 g1 g2 hq
          by_cases hk0 : k = 0
          · subst hk0
            go_enter Try.func25, Try.ntmps25
            go_wp2_with fail
            go_ret
            exact ⟨rfl, (Below.refl _ _).alloc (Nat.le_refl _) _⟩
          · have nk : (k == 0) = false := by rw [beq_eq_false_iff_ne]; exact hk0
            clear hk0
            go_enter Try.func25, Try.ntmps25
            go_wp2_with fail
            go_ret
            exact ⟨rfl, (Below.refl _ _).alloc (Nat.le_refl _) _⟩
        · have n8 : ((d.length : Int) == 0) = false := by rw [beq_eq_false_iff_ne]; omega
          by_cases hk0 : k = 0
          · have e : mayA ⟨k, s, d⟩ = true := mayA_iff.2 ⟨⟨by omega, by omega⟩, ⟨by omega, by omega⟩, by omega, h7, .inr hk0⟩
            rw [e]
            have nk : (k == 0) = true := by rw [beq_iff_eq]; exact hk0
            clear e h8 hk0 h1 h2 h3 h4 h5 h6 h7 g1 g2 hq
            go_enter Try.func25, Try.ntmps25
            go_wp2_with fail
            go_ret
            exact ⟨rfl, (Below.refl _ _).alloc (Nat.le_refl _) _⟩
          · have e : mayA ⟨k, s, d⟩ = false := by rw [← Bool.not_eq_true, mayA_iff]; rintro ⟨_, _, _, _, h⟩; omega
            rw [e]
            have nk : (k == 0) = false := by rw [beq_eq_false_iff_ne]; exact hk0
            clear e h8 hk0 h1 h2 h3 h4 h5 h6 h7 g1 g2 hq
            go_enter Try.func25, Try.ntmps25
            go_wp2_with fail
            go_ret
            exact ⟨rfl, (Below.refl _ _).alloc (Nat.le_refl _) _⟩
      · rw [Bool.not_eq_true] at h7
        clear HS
        have HS := Lib.hid h7
        have e : mayA ⟨k, s, d⟩ = false := by simp only [mayA, h7, Bool.and_false, Bool.false_and]
        rw [e]
        by_cases g1 : d.length % 64 = 0
        · have g2 : ¬ d.length / 64 ≤ 1024 := by intro h; simp [secB, g1, h] at h7
          have m1 : (d.length : Int).tmod 64 = 0 := by rw [HDM.out, g1]; rfl
          have m2 := HDQ.out
          have hq9 : d.length / 64 ≤ 9223372036854775807 := by omega
          generalize hq : d.length / 64 = q at *
          have m3 : decide ((q : Int) ≤ 1024) = false := dec_f (by omega)
          clear e h7 g1 g2 hq h1 h2 h3 h4 h5 h6
          go_enter Try.func25, Try.ntmps25
          go_wp2_with fail
          go_ret
          exact ⟨rfl, (Below.refl _ _).alloc (Nat.le_refl _) _⟩
        · have m1 := HDM.out
          generalize hr : d.length % 64 = r at *
          have m3 : ((r : Int) == 0) = false := by rw [beq_eq_false_iff_ne]; omega
          clear e h7 g1 hr h1 h2 h3 h4 h5 h6
          go_enter Try.func25, Try.ntmps25
          go_wp2_with fail
          go_ret
          exact ⟨rfl, (Below.refl _ _).alloc (Nat.le_refl _) _⟩
    · have n6 : (k != 8) = true := by rw [bne_iff_ne]; exact h6
      have e : mayA ⟨k, s, d⟩ = false := by simp [mayA, h5, h6]
      rw [e]
      clear e h1 h2 h3 h4 h5 h6
      go_enter Try.func25, Try.ntmps25
      go_wp2_with fail
      go_ret
      exact ⟨rfl, (Below.refl _ _).alloc (Nat.le_refl _) _⟩

end

end Go.Proofs.Ytpkbkliblbbdcaa
