/- Walks: are two operations, two answers, the same? -/
import Derived.Test.YtpkbkliblbbdcaaCf
import Derived.Stop.BytesEq
set_option linter.unusedVariables false
namespace Go.Proofs.Ytpkbkliblbbdcaa
open Go.RowKit
set_option maxRecDepth 20000

/-- an answer, as numbers -/
structure AN where
  k : Int
  s : Int
  d : List UInt8
deriving DecidableEq

theorem below2 (w : World) (a b : Obj) : Below w.heap.size w ((w.alloc a).alloc b) := ((Below.refl _ _).alloc (Nat.le_refl _) _).alloc (by simp) _
theorem ld (d d2 : List UInt8) : decide (d = d2) = (d == d2) := by by_cases h : d = d2 <;> simp [h]

set_option maxHeartbeats 1000000 in
theorem equal_any {w : World} {B1 B2 : Nat} {A A2 : Option Addr} {n n2 cap cap2 : Nat} {d d2 : List UInt8} (h1 : Shows w B1 A n (cells8 d)) (h2 : Shows w B2 A2 n2 (cells8 d2)) :
    Calls Try.prog 40 #[.slice A n cap, .slice A2 n2 cap2] w fun e w' => e = .returned (.bool (decide (d = d2))) ∧ w = w' := by
  have HC1 := str_shows 24 9 5 Try.underlying24 Try.underlying5 Try.underlying9 (c := cap) h1
  have HC2 := str_shows 24 9 5 Try.underlying24 Try.underlying5 Try.underlying9 (c := cap2) h2
  go_enter Try.func40, Try.ntmps40
  go_wp2
  go_ret
  exact ⟨by rw [ld]; rfl, rfl⟩

theorem o_eq {k : Int} {v t : Nat} {s a c : Int} {d d2 : List UInt8} : decide ((⟨k, v, t, s, a, c, d⟩ : OP) = ⟨k, v, t, s, a, c, d2⟩) = decide (d = d2) := by simp
theorem a_eq {k s : Int} {d d2 : List UInt8} : decide ((⟨k, s, d⟩ : AN) = ⟨k, s, d2⟩) = decide (d = d2) := by simp

section
variable {k k2 : Int} {v t v2 t2 : Nat} {s a c s2 a2 c2 : Int} {d d2 : List UInt8} {A A2 : Option Addr} {cap cap2 : Nat}

set_option maxHeartbeats 4000000 in
theorem same_any {w : World} (hw1 : Shows w w.heap.size A d.length (cells8 d)) (hw2 : Shows w w.heap.size A2 d2.length (cells8 d2)) :
    Calls Try.prog 14 #[.agg #[.int .i64 k, .int .u64 (v : Int), .int .u64 (t : Int), .int .i64 s, .int .i64 a, .int .i64 c, .slice A d.length cap], .agg #[.int .i64 k2, .int .u64 (v2 : Int), .int .u64 (t2 : Int), .int .i64 s2, .int .i64 a2, .int .i64 c2, .slice A2 d2.length cap2]] w fun e w' => e = .returned (.bool (decide ((⟨k, v, t, s, a, c, d⟩ : OP) = (⟨k2, v2, t2, s2, a2, c2, d2⟩ : OP)))) ∧ Below w.heap.size w w' := by
  by_cases hk : k = k2
  · subst hk
    by_cases hv : v = v2
    · subst hv
      by_cases ht : t = t2
      · subst ht
        by_cases hs : s = s2
        · subst hs
          by_cases ha : a = a2
          · subst ha
            by_cases hc : c = c2
            · subst hc
              have HE := Lib.hid (rfl : true = true)
              go_enter Try.func14, Try.ntmps14
              go_wp2_with fail
              refine (equal_any ((hw1.alloc (Nat.le_refl _) _).alloc (by simp) _) ((hw2.alloc (Nat.le_refl _) _).alloc (by simp) _)).mono ?_
              rintro e w' ⟨rfl, rfl⟩
              go_wp2
              go_ret
              exact ⟨by rw [o_eq]; rfl, below2 _ _ _⟩
            · have e : ((c : Int) == (c2 : Int)) = false := by rw [beq_eq_false_iff_ne]; omega
              have hF : decide ((⟨k, v, t, s, a, c, d⟩ : OP) = (⟨k, v, t, s, a, c2, d2⟩ : OP)) = false := by rw [decide_eq_false_iff_not]; intro h; injection h; contradiction
              have HF := Lib.hid hF
              clear hF hc
              go_enter Try.func14, Try.ntmps14
              go_wp2
              go_ret
              exact ⟨by rw [HF.out]; rfl, below2 _ _ _⟩
          · have e : ((a : Int) == (a2 : Int)) = false := by rw [beq_eq_false_iff_ne]; omega
            have hF : decide ((⟨k, v, t, s, a, c, d⟩ : OP) = (⟨k, v, t, s, a2, c2, d2⟩ : OP)) = false := by rw [decide_eq_false_iff_not]; intro h; injection h; contradiction
            have HF := Lib.hid hF
            clear hF ha
            go_enter Try.func14, Try.ntmps14
            go_wp2
            go_ret
            exact ⟨by rw [HF.out]; rfl, below2 _ _ _⟩
        · have e : ((s : Int) == (s2 : Int)) = false := by rw [beq_eq_false_iff_ne]; omega
          have hF : decide ((⟨k, v, t, s, a, c, d⟩ : OP) = (⟨k, v, t, s2, a2, c2, d2⟩ : OP)) = false := by rw [decide_eq_false_iff_not]; intro h; injection h; contradiction
          have HF := Lib.hid hF
          clear hF hs
          go_enter Try.func14, Try.ntmps14
          go_wp2
          go_ret
          exact ⟨by rw [HF.out]; rfl, below2 _ _ _⟩
      · have e : ((t : Int) == (t2 : Int)) = false := by rw [beq_eq_false_iff_ne]; omega
        have hF : decide ((⟨k, v, t, s, a, c, d⟩ : OP) = (⟨k, v, t2, s2, a2, c2, d2⟩ : OP)) = false := by rw [decide_eq_false_iff_not]; intro h; injection h; contradiction
        have HF := Lib.hid hF
        clear hF ht
        go_enter Try.func14, Try.ntmps14
        go_wp2
        go_ret
        exact ⟨by rw [HF.out]; rfl, below2 _ _ _⟩
    · have e : ((v : Int) == (v2 : Int)) = false := by rw [beq_eq_false_iff_ne]; omega
      have hF : decide ((⟨k, v, t, s, a, c, d⟩ : OP) = (⟨k, v2, t2, s2, a2, c2, d2⟩ : OP)) = false := by rw [decide_eq_false_iff_not]; intro h; injection h; contradiction
      have HF := Lib.hid hF
      clear hF hv
      go_enter Try.func14, Try.ntmps14
      go_wp2
      go_ret
      exact ⟨by rw [HF.out]; rfl, below2 _ _ _⟩
  · have e : ((k : Int) == (k2 : Int)) = false := by rw [beq_eq_false_iff_ne]; omega
    have hF : decide ((⟨k, v, t, s, a, c, d⟩ : OP) = (⟨k2, v2, t2, s2, a2, c2, d2⟩ : OP)) = false := by rw [decide_eq_false_iff_not]; intro h; injection h; contradiction
    have HF := Lib.hid hF
    clear hF hk
    go_enter Try.func14, Try.ntmps14
    go_wp2
    go_ret
    exact ⟨by rw [HF.out]; rfl, below2 _ _ _⟩

set_option maxHeartbeats 4000000 in
theorem rsame_any {w : World} (hw1 : Shows w w.heap.size A d.length (cells8 d)) (hw2 : Shows w w.heap.size A2 d2.length (cells8 d2)) :
    Calls Try.prog 15 #[.agg #[.int .i64 k, .int .u64 (v : Int), .int .u64 (t : Int), .int .i64 s, .int .i64 a, .int .i64 c, .slice A d.length cap], .agg #[.int .i64 k2, .int .u64 (v2 : Int), .int .u64 (t2 : Int), .int .i64 s2, .int .i64 a2, .int .i64 c2, .slice A2 d2.length cap2]] w fun e w' => e = .returned (.bool (decide ((⟨k, v, t, s, a, c, d⟩ : OP) = (⟨k2, v2, t2, s2, a2, c2, d2⟩ : OP)))) ∧ Below w.heap.size w w' := by
  by_cases hk : k = k2
  · subst hk
    by_cases hv : v = v2
    · subst hv
      by_cases ht : t = t2
      · subst ht
        by_cases hs : s = s2
        · subst hs
          by_cases ha : a = a2
          · subst ha
            by_cases hc : c = c2
            · subst hc
              have HE := Lib.hid (rfl : true = true)
              have HC1 := str_shows 24 9 5 Try.underlying24 Try.underlying5 Try.underlying9 (c := cap) ((hw1.alloc (Nat.le_refl _) (.cells #[.int .i64 k, .int .u64 (v : Int), .int .u64 (t : Int), .int .i64 s, .int .i64 a, .int .i64 c, .slice A d.length cap] 26)).alloc (by simp) (.cells #[.int .i64 k, .int .u64 (v : Int), .int .u64 (t : Int), .int .i64 s, .int .i64 a, .int .i64 c, .slice A2 d2.length cap2] 26))
              have HC2 := str_shows 24 9 5 Try.underlying24 Try.underlying5 Try.underlying9 (c := cap2) ((hw2.alloc (Nat.le_refl _) (.cells #[.int .i64 k, .int .u64 (v : Int), .int .u64 (t : Int), .int .i64 s, .int .i64 a, .int .i64 c, .slice A d.length cap] 26)).alloc (by simp) (.cells #[.int .i64 k, .int .u64 (v : Int), .int .u64 (t : Int), .int .i64 s, .int .i64 a, .int .i64 c, .slice A2 d2.length cap2] 26))
              go_enter Try.func15, Try.ntmps15
              go_wp2
              go_ret
              exact ⟨by rw [ld]; rfl, below2 _ _ _⟩
            · have e : ((c : Int) == (c2 : Int)) = false := by rw [beq_eq_false_iff_ne]; omega
              have hF : decide ((⟨k, v, t, s, a, c, d⟩ : OP) = (⟨k, v, t, s, a, c2, d2⟩ : OP)) = false := by rw [decide_eq_false_iff_not]; intro h; injection h; contradiction
              have HF := Lib.hid hF
              clear hF hc
              go_enter Try.func15, Try.ntmps15
              go_wp2
              go_ret
              exact ⟨by rw [HF.out]; rfl, below2 _ _ _⟩
          · have e : ((a : Int) == (a2 : Int)) = false := by rw [beq_eq_false_iff_ne]; omega
            have hF : decide ((⟨k, v, t, s, a, c, d⟩ : OP) = (⟨k, v, t, s, a2, c2, d2⟩ : OP)) = false := by rw [decide_eq_false_iff_not]; intro h; injection h; contradiction
            have HF := Lib.hid hF
            clear hF ha
            go_enter Try.func15, Try.ntmps15
            go_wp2
            go_ret
            exact ⟨by rw [HF.out]; rfl, below2 _ _ _⟩
        · have e : ((s : Int) == (s2 : Int)) = false := by rw [beq_eq_false_iff_ne]; omega
          have hF : decide ((⟨k, v, t, s, a, c, d⟩ : OP) = (⟨k, v, t, s2, a2, c2, d2⟩ : OP)) = false := by rw [decide_eq_false_iff_not]; intro h; injection h; contradiction
          have HF := Lib.hid hF
          clear hF hs
          go_enter Try.func15, Try.ntmps15
          go_wp2
          go_ret
          exact ⟨by rw [HF.out]; rfl, below2 _ _ _⟩
      · have e : ((t : Int) == (t2 : Int)) = false := by rw [beq_eq_false_iff_ne]; omega
        have hF : decide ((⟨k, v, t, s, a, c, d⟩ : OP) = (⟨k, v, t2, s2, a2, c2, d2⟩ : OP)) = false := by rw [decide_eq_false_iff_not]; intro h; injection h; contradiction
        have HF := Lib.hid hF
        clear hF ht
        go_enter Try.func15, Try.ntmps15
        go_wp2
        go_ret
        exact ⟨by rw [HF.out]; rfl, below2 _ _ _⟩
    · have e : ((v : Int) == (v2 : Int)) = false := by rw [beq_eq_false_iff_ne]; omega
      have hF : decide ((⟨k, v, t, s, a, c, d⟩ : OP) = (⟨k, v2, t2, s2, a2, c2, d2⟩ : OP)) = false := by rw [decide_eq_false_iff_not]; intro h; injection h; contradiction
      have HF := Lib.hid hF
      clear hF hv
      go_enter Try.func15, Try.ntmps15
      go_wp2
      go_ret
      exact ⟨by rw [HF.out]; rfl, below2 _ _ _⟩
  · have e : ((k : Int) == (k2 : Int)) = false := by rw [beq_eq_false_iff_ne]; omega
    have hF : decide ((⟨k, v, t, s, a, c, d⟩ : OP) = (⟨k2, v2, t2, s2, a2, c2, d2⟩ : OP)) = false := by rw [decide_eq_false_iff_not]; intro h; injection h; contradiction
    have HF := Lib.hid hF
    clear hF hk
    go_enter Try.func15, Try.ntmps15
    go_wp2
    go_ret
    exact ⟨by rw [HF.out]; rfl, below2 _ _ _⟩

set_option maxHeartbeats 4000000 in
theorem sameA_any {w : World} (hw1 : Shows w w.heap.size A d.length (cells8 d)) (hw2 : Shows w w.heap.size A2 d2.length (cells8 d2)) :
    Calls Try.prog 28 #[.agg #[.int .i64 k, .int .i64 s, .slice A d.length cap], .agg #[.int .i64 k2, .int .i64 s2, .slice A2 d2.length cap2]] w fun e w' => e = .returned (.bool (decide ((⟨k, s, d⟩ : AN) = (⟨k2, s2, d2⟩ : AN)))) ∧ Below w.heap.size w w' := by
  by_cases hk : k = k2
  · subst hk
    by_cases hs : s = s2
    · subst hs
      have HE := Lib.hid (rfl : true = true)
      go_enter Try.func28, Try.ntmps28
      go_wp2_with fail
      refine (equal_any ((hw1.alloc (Nat.le_refl _) _).alloc (by simp) _) ((hw2.alloc (Nat.le_refl _) _).alloc (by simp) _)).mono ?_
      rintro e w' ⟨rfl, rfl⟩
      go_wp2
      go_ret
      exact ⟨by rw [a_eq]; rfl, below2 _ _ _⟩
    · have e : ((s : Int) == (s2 : Int)) = false := by rw [beq_eq_false_iff_ne]; omega
      have hF : decide ((⟨k, s, d⟩ : AN) = (⟨k, s2, d2⟩ : AN)) = false := by rw [decide_eq_false_iff_not]; intro h; injection h; contradiction
      have HF := Lib.hid hF
      clear hF hs
      go_enter Try.func28, Try.ntmps28
      go_wp2
      go_ret
      exact ⟨by rw [HF.out]; rfl, below2 _ _ _⟩
  · have e : ((k : Int) == (k2 : Int)) = false := by rw [beq_eq_false_iff_ne]; omega
    have hF : decide ((⟨k, s, d⟩ : AN) = (⟨k2, s2, d2⟩ : AN)) = false := by rw [decide_eq_false_iff_not]; intro h; injection h; contradiction
    have HF := Lib.hid hF
    clear hF hk
    go_enter Try.func28, Try.ntmps28
    go_wp2
    go_ret
    exact ⟨by rw [HF.out]; rfl, below2 _ _ _⟩

set_option maxHeartbeats 4000000 in
theorem rsameA_any {w : World} (hw1 : Shows w w.heap.size A d.length (cells8 d)) (hw2 : Shows w w.heap.size A2 d2.length (cells8 d2)) :
    Calls Try.prog 23 #[.agg #[.int .i64 k, .int .i64 s, .slice A d.length cap], .agg #[.int .i64 k2, .int .i64 s2, .slice A2 d2.length cap2]] w fun e w' => e = .returned (.bool (decide ((⟨k, s, d⟩ : AN) = (⟨k2, s2, d2⟩ : AN)))) ∧ Below w.heap.size w w' := by
  by_cases hk : k = k2
  · subst hk
    by_cases hs : s = s2
    · subst hs
      have HE := Lib.hid (rfl : true = true)
      have HC1 := str_shows 24 9 5 Try.underlying24 Try.underlying5 Try.underlying9 (c := cap) ((hw1.alloc (Nat.le_refl _) (.cells #[.int .i64 k, .int .i64 s, .slice A d.length cap] 41)).alloc (by simp) (.cells #[.int .i64 k, .int .i64 s, .slice A2 d2.length cap2] 41))
      have HC2 := str_shows 24 9 5 Try.underlying24 Try.underlying5 Try.underlying9 (c := cap2) ((hw2.alloc (Nat.le_refl _) (.cells #[.int .i64 k, .int .i64 s, .slice A d.length cap] 41)).alloc (by simp) (.cells #[.int .i64 k, .int .i64 s, .slice A2 d2.length cap2] 41))
      go_enter Try.func23, Try.ntmps23
      go_wp2
      go_ret
      exact ⟨by rw [ld]; rfl, below2 _ _ _⟩
    · have e : ((s : Int) == (s2 : Int)) = false := by rw [beq_eq_false_iff_ne]; omega
      have hF : decide ((⟨k, s, d⟩ : AN) = (⟨k, s2, d2⟩ : AN)) = false := by rw [decide_eq_false_iff_not]; intro h; injection h; contradiction
      have HF := Lib.hid hF
      clear hF hs
      go_enter Try.func23, Try.ntmps23
      go_wp2
      go_ret
      exact ⟨by rw [HF.out]; rfl, below2 _ _ _⟩
  · have e : ((k : Int) == (k2 : Int)) = false := by rw [beq_eq_false_iff_ne]; omega
    have hF : decide ((⟨k, s, d⟩ : AN) = (⟨k2, s2, d2⟩ : AN)) = false := by rw [decide_eq_false_iff_not]; intro h; injection h; contradiction
    have HF := Lib.hid hF
    clear hF hk
    go_enter Try.func23, Try.ntmps23
    go_wp2
    go_ret
    exact ⟨by rw [HF.out]; rfl, below2 _ _ _⟩

end

end Go.Proofs.Ytpkbkliblbbdcaa
