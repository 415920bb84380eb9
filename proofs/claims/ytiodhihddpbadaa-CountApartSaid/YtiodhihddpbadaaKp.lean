/- The law's do: Grow of less than it has, of more than 1000. -/
import Derived.Test.YtiodhihddpbadaaKo
set_option linter.unusedVariables false
namespace Go.Proofs.Ytiodhihddpbadaa
open Go.RowKit
set_option maxRecDepth 20000 in
set_option maxHeartbeats 2000000 in
theorem do7_less (W : World) (b g0 p0 g1 p1 br h0 q0 h1 q1 : Nat) (c : CS) (hA : AX W b g0 p0 g1 p1 c) (hR : RX W br h0 q0 h1 q1 c) (n : Int) (hi : n < (c.now.length : Int)) :
    Calls Try.prog 10 #[.pointer (some ⟨b, 0, none⟩), .pointer (some ⟨br, 0, none⟩), .agg #[.int .i64 7, .int .i64 n]] W fun e w' => e = .returned (.bool true) ∧ DoneP W b g0 g1 br h0 h1 c w' := by
  have hd : Below W.heap.size W (W.alloc (.cells #[.int .i64 7, .int .i64 n] 35)).drew := ((Below.refl _ W).alloc (Nat.le_refl _) _).drew
  have hA1 := hA.below hd
  have hR1 := hR.below hd
  have hx1 : (W.alloc (.cells #[.int .i64 7, .int .i64 n] 35)).drew.heap[W.heap.size]? = some (.cells #[.int .i64 7, .int .i64 n] 35 (0, 0)) := heap_alloc_new W _
  have HA := Lib.hid hA
  have HR := Lib.hid hR
  have HD := Lib.hid hd
  have HA1 := Lib.hid hA1
  have HR1 := Lib.hid hR1
  have HX1 := Lib.hid hx1
  have n0 := hA.ok.n0
  have n1 := hA.ok.n1
  have a1 := hA.ok.a1
  have r0 : (W.alloc (.cells #[.int .i64 7, .int .i64 n] 35)).cell? ⟨br, 0, none⟩ = some (.slice (some ⟨h0, 0, none⟩) c.now.length q0) := hR1.c0
  clear hd hA1 hR1 hx1 hA hR
  have HI := Lib.hid hi
  clear hi
  go_enter Try.func10, Try.ntmps10
  go_upto_region 1 with fail
  go_cut [7] from 16 to 28 (fun j wx => j = .bool (inB c n) ∧ wx = (W.alloc (.cells #[.int .i64 7, .int .i64 n] 35)).drew)
  case first =>
    by_cases h0n : (0 : Int) ≤ n
    · by_cases hln : n < (c.now.length : Int)
      · have e1 : inB c n = true := by simp [inB, h0n, hln]
        go_region
        go_wp2
        go_meet
        exact ⟨by rw [e1], rfl⟩
      · have e1 : inB c n = false := by simp [inB, h0n, hln]
        go_region
        go_wp2
        go_meet
        exact ⟨by rw [e1], rfl⟩
    · have e1 : inB c n = false := by simp [inB, h0n]
      go_region
      go_wp2
      go_meet
      exact ⟨by rw [e1], rfl⟩
  case rest =>
    obtain ⟨rfl, rfl⟩ := hcut
    have hi := HI.out
    go_wp2_with (first
      | (go_at_call 25; (with_reducible refine (grow_less _ _ _ _ _ _ _ HA1.out n HI.out).mono ?_); rintro e wa ⟨rfl, rfl⟩)
      | fail)
    first
      | go_region
      | fail
    all_goals go_wp2
    all_goals go_ret
    all_goals exact ⟨rfl, both_done HA.out HR.out HD.out HA1.out (Stays.refl _ _) foot_id HR1.out.drew (Stays.refl _ _).drew foot_id⟩
set_option maxRecDepth 20000 in
set_option maxHeartbeats 2000000 in
theorem do7_more (W : World) (b g0 p0 g1 p1 br h0 q0 h1 q1 : Nat) (c : CS) (hA : AX W b g0 p0 g1 p1 c) (hR : RX W br h0 q0 h1 q1 c) (n : Int) (hi : 1000 < n) :
    Calls Try.prog 10 #[.pointer (some ⟨b, 0, none⟩), .pointer (some ⟨br, 0, none⟩), .agg #[.int .i64 7, .int .i64 n]] W fun e w' => e = .returned (.bool true) ∧ DoneP W b g0 g1 br h0 h1 c w' := by
  have hd : Below W.heap.size W (W.alloc (.cells #[.int .i64 7, .int .i64 n] 35)).drew := ((Below.refl _ W).alloc (Nat.le_refl _) _).drew
  have hA1 := hA.below hd
  have hR1 := hR.below hd
  have hx1 : (W.alloc (.cells #[.int .i64 7, .int .i64 n] 35)).drew.heap[W.heap.size]? = some (.cells #[.int .i64 7, .int .i64 n] 35 (0, 0)) := heap_alloc_new W _
  have HA := Lib.hid hA
  have HR := Lib.hid hR
  have HD := Lib.hid hd
  have HA1 := Lib.hid hA1
  have HR1 := Lib.hid hR1
  have HX1 := Lib.hid hx1
  have n0 := hA.ok.n0
  have n1 := hA.ok.n1
  have a1 := hA.ok.a1
  have r0 : (W.alloc (.cells #[.int .i64 7, .int .i64 n] 35)).cell? ⟨br, 0, none⟩ = some (.slice (some ⟨h0, 0, none⟩) c.now.length q0) := hR1.c0
  clear hd hA1 hR1 hx1 hA hR
  have HI := Lib.hid hi
  clear hi
  go_enter Try.func10, Try.ntmps10
  go_upto_region 1 with fail
  go_cut [7] from 16 to 28 (fun j wx => j = .bool (inB c n) ∧ wx = (W.alloc (.cells #[.int .i64 7, .int .i64 n] 35)).drew)
  case first =>
    by_cases h0n : (0 : Int) ≤ n
    · by_cases hln : n < (c.now.length : Int)
      · have e1 : inB c n = true := by simp [inB, h0n, hln]
        go_region
        go_wp2
        go_meet
        exact ⟨by rw [e1], rfl⟩
      · have e1 : inB c n = false := by simp [inB, h0n, hln]
        go_region
        go_wp2
        go_meet
        exact ⟨by rw [e1], rfl⟩
    · have e1 : inB c n = false := by simp [inB, h0n]
      go_region
      go_wp2
      go_meet
      exact ⟨by rw [e1], rfl⟩
  case rest =>
    obtain ⟨rfl, rfl⟩ := hcut
    have hi := HI.out
    have hi2 : ¬ n < (c.now.length : Int) := by omega
    go_wp2_with (first
      | (go_at_call 25; (with_reducible refine (grow_more _ _ _ _ _ _ _ HA1.out n HI.out).mono ?_); rintro e wa ⟨rfl, rfl⟩)
      | fail)
    first
      | go_region
      | fail
    all_goals go_wp2
    all_goals go_ret
    all_goals exact ⟨rfl, both_done HA.out HR.out HD.out HA1.out (Stays.refl _ _) foot_id HR1.out.drew (Stays.refl _ _).drew foot_id⟩
end Go.Proofs.Ytiodhihddpbadaa
