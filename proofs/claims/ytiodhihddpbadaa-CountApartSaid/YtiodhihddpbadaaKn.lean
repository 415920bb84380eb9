/- The law's do: what it leaves; Alloc, Inc, Dec, Set. -/
import Derived.Test.YtiodhihddpbadaaKm
import Derived.IntWalk
import Derived.Deep.RegionHeld
import Derived.Deep.DeepCutAuto
import Derived.Deep.CutRange
set_option linter.unusedVariables false
namespace Go.Proofs.Ytiodhihddpbadaa
open Go.RowKit

def FP (b g0 g1 br h0 h1 j : Nat) : Prop := foot b g0 g1 j ∨ foot br h0 h1 j
/-- what do leaves: both are c' -/
def DoneP (W : World) (b g0 g1 br h0 h1 : Nat) (c' : CS) (w' : World) : Prop := ∃ g0' p0' g1' p1' h0' q0' h1' q1', AX w' b g0' p0' g1' p1' c' ∧ RX w' br h0' q0' h1' q1' c' ∧ (∀ j, FP b g0' g1' br h0' h1' j → FP b g0 g1 br h0 h1 j ∨ W.heap.size ≤ j) ∧ Stays W w' (FP b g0 g1 br h0 h1)
theorem tAR : 46 ≠ 41 ∧ 46 ≠ 3 ∧ 43 ≠ 41 ∧ 43 ≠ 3 ∧ 35 ≠ 46 ∧ 35 ≠ 43 ∧ 35 ≠ 41 ∧ 35 ≠ 3 := by decide
theorem AR.not {T e : TypeId} {k : IntKind} {w : World} {b g0 p0 g1 p1 : Nat} {c : CS} (h : AR T e k w b g0 p0 g1 p1 c) {j : Nat} {cs : Array Value} {t : TypeId} {fr : Nat × Nat} (hj : w.heap[j]? = some (.cells cs t fr)) (h1 : t ≠ T) (h2 : t ≠ e) : ¬ foot b g0 g1 j := by
  intro hF
  obtain ⟨cs', t', h3, h4⟩ := h.kind hF
  rw [hj] at h3
  injection h3 with h3
  injection h3 with _ h3
  subst h3
  exact h4.elim h1 h2
theorem AR.flt {T e : TypeId} {k : IntKind} {w : World} {b g0 p0 g1 p1 : Nat} {c : CS} (h : AR T e k w b g0 p0 g1 p1 c) {j : Nat} (hj : foot b g0 g1 j) : j < w.heap.size := by
  obtain ⟨cs, t, h1, _⟩ := h.kind hj
  exact (Array.getElem?_eq_some_iff.1 h1).1
/-- the document's is none of the program's blocks, and the other way round -/
theorem feet {w : World} {b g0 p0 g1 p1 br h0 q0 h1 q1 : Nat} {c c2 : CS} (hA : AX w b g0 p0 g1 p1 c) (hR : RX w br h0 q0 h1 q1 c2) {j : Nat} (f1 : foot b g0 g1 j) (f2 : foot br h0 h1 j) : False := by
  obtain ⟨cs, t, h3, h4⟩ := hA.kind f1
  rcases h4 with rfl | rfl
  · exact hR.not h3 tAR.1 tAR.2.1 f2
  · exact hR.not h3 tAR.2.2.1 tAR.2.2.2.1 f2
/-- behind an act of the program's -/
theorem after_a {Wd w2 : World} {b g0 p0 g1 p1 br h0 q0 h1 q1 a : Nat} {c : CS} {x y : Value} (hA : AX Wd b g0 p0 g1 p1 c) (hR : RX Wd br h0 q0 h1 q1 c) (hx : Wd.heap[a]? = some (.cells #[x, y] 35 (0, 0))) (hs : Stays Wd w2 (foot b g0 g1)) :
    RX w2 br h0 q0 h1 q1 c ∧ w2.heap[a]? = some (.cells #[x, y] 35 (0, 0)) ∧ w2.cell? ⟨a, 0, none⟩ = some x ∧ w2.cell? ⟨a, 1, none⟩ = some y := by
  have h2 : w2.heap[a]? = some (.cells #[x, y] 35 (0, 0)) := (hs.block a (Array.getElem?_eq_some_iff.1 hx).1 (hA.not hx tAR.2.2.2.2.1 tAR.2.2.2.2.2.1)).trans hx
  exact ⟨hR.on (fun j hj => hs.block j (hR.flt hj) (fun h => feet hA hR h hj)), h2, by rw [Joins.cell_of_block h2 0]; rfl, by rw [Joins.cell_of_block h2 1]; rfl⟩
/-- both acts done -/
theorem both_done {W Wd w2 w3 : World} {b g0 p0 g1 p1 br h0 q0 h1 q1 g0' p0' g1' p1' h0' q0' h1' q1' : Nat} {c c' : CS} (hA : AX W b g0 p0 g1 p1 c) (hR : RX W br h0 q0 h1 q1 c) (hd : Below W.heap.size W Wd)
    (hA2 : AX w2 b g0' p0' g1' p1' c') (hs2 : Stays Wd w2 (foot b g0 g1)) (hf2 : ∀ j, foot b g0' g1' j → foot b g0 g1 j ∨ W.heap.size ≤ j)
    (hR3 : RX w3 br h0' q0' h1' q1' c') (hs3 : Stays w2 w3 (foot br h0 h1)) (hf3 : ∀ j, foot br h0' h1' j → foot br h0 h1 j ∨ W.heap.size ≤ j) : DoneP W b g0 g1 br h0 h1 c' w3 := by
  have hRd := hR.below hd
  have hAd := hA.below hd
  have hR2 : RX w2 br h0 q0 h1 q1 c := hRd.on (fun j hj => hs2.block j (hRd.flt hj) (fun h => feet hAd hRd h hj))
  refine ⟨_, _, _, _, _, _, _, _, hA2.on (fun j hj => hs3.block j (hA2.flt hj) (fun h => feet hA2 hR2 hj h)), hR3, ?_, ?_⟩
  · rintro j (h | h)
    · exact (hf2 j h).imp .inl id
    · exact (hf3 j h).imp .inr id
  · refine ((Stays.of_below hd _).trans (hs2.wide (G := FP b g0 g1 br h0 h1) (fun _ h => .inl h)) (fun _ h => .inl h)).trans (hs3.wide (G := FP b g0 g1 br h0 h1) (fun _ h => .inr h)) (fun _ h => .inl h)
theorem foot_id {W : World} {b g0 g1 : Nat} : ∀ j, foot b g0 g1 j → foot b g0 g1 j ∨ W.heap.size ≤ j := fun _ h => .inl h
def inB (c : CS) (n : Int) : Bool := decide (0 ≤ n) && decide (n < (c.now.length : Int))
theorem inB_yes {c : CS} {n : Nat} (h : n < c.now.length) : inB c (n : Int) = true := by simp [inB]; omega
theorem inB_no {c : CS} {n : Int} (h : ¬ (0 ≤ n ∧ n < (c.now.length : Int))) : inB c n = false := by simp [inB]; omega
set_option maxRecDepth 20000 in
set_option maxHeartbeats 2000000 in
theorem do1_full (W : World) (b g0 p0 g1 p1 br h0 q0 h1 q1 : Nat) (c : CS) (hA : AX W b g0 p0 g1 p1 c) (hR : RX W br h0 q0 h1 q1 c) (n : Int)(hk : allocK c = none) :
    Calls Try.prog 10 #[.pointer (some ⟨b, 0, none⟩), .pointer (some ⟨br, 0, none⟩), .agg #[.int .i64 1, .int .i64 n]] W fun e w' => e = .returned (.bool true) ∧ DoneP W b g0 g1 br h0 h1 c w' := by
  have hd : Below W.heap.size W (W.alloc (.cells #[.int .i64 1, .int .i64 n] 35)).drew := ((Below.refl _ W).alloc (Nat.le_refl _) _).drew
  have hA1 := hA.below hd
  have hR1 := hR.below hd
  have hx1 : (W.alloc (.cells #[.int .i64 1, .int .i64 n] 35)).drew.heap[W.heap.size]? = some (.cells #[.int .i64 1, .int .i64 n] 35 (0, 0)) := heap_alloc_new W _
  have HA := Lib.hid hA
  have HR := Lib.hid hR
  have HD := Lib.hid hd
  have HA1 := Lib.hid hA1
  have HR1 := Lib.hid hR1
  have HX1 := Lib.hid hx1
  have n0 := hA.ok.n0
  have n1 := hA.ok.n1
  have a1 := hA.ok.a1
  have r0 : (W.alloc (.cells #[.int .i64 1, .int .i64 n] 35)).cell? ⟨br, 0, none⟩ = some (.slice (some ⟨h0, 0, none⟩) c.now.length q0) := hR1.c0
  clear hd hA1 hR1 hx1 hA hR
  go_enter Try.func10, Try.ntmps10
  go_upto_region 1 with fail
  go_cut [7] from 16 to 28 (fun j wx => j = .bool (inB c n) ∧ wx = (W.alloc (.cells #[.int .i64 1, .int .i64 n] 35)).drew)
  case first =>
    by_cases h0n : (0 : Int) ≤ n
    · by_cases hln : n < (c.now.length : Int)
      · have e1 : inB c n = true := by simp [inB, h0n, hln]
        go_region
        go_wp2
        go_meet
        exact ⟨by rw [e1], rfl⟩
      · have e1 : inB c n = false := by simp [inB, h0n, hln]
        go_region
        go_wp2
        go_meet
        exact ⟨by rw [e1], rfl⟩
    · have e1 : inB c n = false := by simp [inB, h0n]
      go_region
      go_wp2
      go_meet
      exact ⟨by rw [e1], rfl⟩
  case rest =>
    obtain ⟨rfl, rfl⟩ := hcut
    go_wp2_with (first
      | (go_at_call 16; (with_reducible refine (alloc_full _ _ _ _ _ _ _ HA1.out hk).mono ?_); rintro e wa ⟨rfl, rfl⟩)
      | (go_at_call 29; (with_reducible refine (rarea_none _ _ _ _ _ _ _ HR1.out hk).mono ?_); rintro e wa ⟨rfl, rfl⟩)
      | fail)
    go_ret
    exact ⟨rfl, both_done HA.out HR.out HD.out HA1.out (Stays.refl _ _) foot_id HR1.out (Stays.refl _ _) foot_id⟩
set_option maxRecDepth 20000 in
set_option maxHeartbeats 2000000 in
theorem do1_any (W : World) (b g0 p0 g1 p1 br h0 q0 h1 q1 : Nat) (c : CS) (hA : AX W b g0 p0 g1 p1 c) (hR : RX W br h0 q0 h1 q1 c) (n : Int) (k : Nat) (hk : allocK c = some k) :
    Calls Try.prog 10 #[.pointer (some ⟨b, 0, none⟩), .pointer (some ⟨br, 0, none⟩), .agg #[.int .i64 1, .int .i64 n]] W fun e w' => e = .returned (.bool true) ∧ DoneP W b g0 g1 br h0 h1 (allocS c k) w' := by
  have hd : Below W.heap.size W (W.alloc (.cells #[.int .i64 1, .int .i64 n] 35)).drew := ((Below.refl _ W).alloc (Nat.le_refl _) _).drew
  have hA1 := hA.below hd
  have hR1 := hR.below hd
  have hx1 : (W.alloc (.cells #[.int .i64 1, .int .i64 n] 35)).drew.heap[W.heap.size]? = some (.cells #[.int .i64 1, .int .i64 n] 35 (0, 0)) := heap_alloc_new W _
  have HA := Lib.hid hA
  have HR := Lib.hid hR
  have HD := Lib.hid hd
  have HA1 := Lib.hid hA1
  have HR1 := Lib.hid hR1
  have HX1 := Lib.hid hx1
  have n0 := hA.ok.n0
  have n1 := hA.ok.n1
  have a1 := hA.ok.a1
  have r0 : (W.alloc (.cells #[.int .i64 1, .int .i64 n] 35)).cell? ⟨br, 0, none⟩ = some (.slice (some ⟨h0, 0, none⟩) c.now.length q0) := hR1.c0
  clear hd hA1 hR1 hx1 hA hR
  have t1 : decide ((turn c k : Int) < 0) = false := by simp
  have t2 : ((turn c k : Int) == (turn c k : Int)) = true := by simp
  go_enter Try.func10, Try.ntmps10
  go_upto_region 1 with fail
  go_cut [7] from 16 to 28 (fun j wx => j = .bool (inB c n) ∧ wx = (W.alloc (.cells #[.int .i64 1, .int .i64 n] 35)).drew)
  case first =>
    by_cases h0n : (0 : Int) ≤ n
    · by_cases hln : n < (c.now.length : Int)
      · have e1 : inB c n = true := by simp [inB, h0n, hln]
        go_region
        go_wp2
        go_meet
        exact ⟨by rw [e1], rfl⟩
      · have e1 : inB c n = false := by simp [inB, h0n, hln]
        go_region
        go_wp2
        go_meet
        exact ⟨by rw [e1], rfl⟩
    · have e1 : inB c n = false := by simp [inB, h0n]
      go_region
      go_wp2
      go_meet
      exact ⟨by rw [e1], rfl⟩
  case rest =>
    obtain ⟨rfl, rfl⟩ := hcut
    go_wp2_with (first
      | (go_at_call 16; (with_reducible refine (alloc_any _ _ _ _ _ _ _ HA1.out k hk).mono ?_); rintro e w2 ⟨rfl, ha2, hs2⟩; obtain ⟨hr2, hx2, x0, x1⟩ := after_a HA1.out HR1.out HX1.out hs2; have HA2 := Lib.hid ha2; have HS2 := Lib.hid hs2; have HR2 := Lib.hid hr2; have z0 := hr2.c0; have z1 := hr2.c1; have z2 := hr2.c2; have z3 := hr2.c3; have y0 := hr2.fr 0; have y1 := hr2.fr 1; have y2 := hr2.fr 2; have y3 := hr2.fr 3; clear ha2 hs2 hr2 hx2)
      | (go_at_call 29; (with_reducible refine (ralloc_any _ _ _ _ _ _ _ HR2.out k hk).mono ?_); rintro e w3 ⟨rfl, hr3, hs3⟩; have HR3 := Lib.hid hr3; have HS3 := Lib.hid hs3; clear hr3 hs3)
      | fail)
    go_ret
    exact ⟨rfl, both_done HA.out HR.out HD.out HA2.out HS2.out foot_id HR3.out HS3.out foot_id⟩
set_option maxRecDepth 20000 in
set_option maxHeartbeats 2000000 in
theorem do2_out (W : World) (b g0 p0 g1 p1 br h0 q0 h1 q1 : Nat) (c : CS) (hA : AX W b g0 p0 g1 p1 c) (hR : RX W br h0 q0 h1 q1 c) (n : Int) (hi : ¬ (0 ≤ n ∧ n < (c.now.length : Int))) :
    Calls Try.prog 10 #[.pointer (some ⟨b, 0, none⟩), .pointer (some ⟨br, 0, none⟩), .agg #[.int .i64 2, .int .i64 n]] W fun e w' => e = .returned (.bool true) ∧ DoneP W b g0 g1 br h0 h1 c w' := by
  have hd : Below W.heap.size W (W.alloc (.cells #[.int .i64 2, .int .i64 n] 35)).drew := ((Below.refl _ W).alloc (Nat.le_refl _) _).drew
  have hA1 := hA.below hd
  have hR1 := hR.below hd
  have hx1 : (W.alloc (.cells #[.int .i64 2, .int .i64 n] 35)).drew.heap[W.heap.size]? = some (.cells #[.int .i64 2, .int .i64 n] 35 (0, 0)) := heap_alloc_new W _
  have HA := Lib.hid hA
  have HR := Lib.hid hR
  have HD := Lib.hid hd
  have HA1 := Lib.hid hA1
  have HR1 := Lib.hid hR1
  have HX1 := Lib.hid hx1
  have n0 := hA.ok.n0
  have n1 := hA.ok.n1
  have a1 := hA.ok.a1
  have r0 : (W.alloc (.cells #[.int .i64 2, .int .i64 n] 35)).cell? ⟨br, 0, none⟩ = some (.slice (some ⟨h0, 0, none⟩) c.now.length q0) := hR1.c0
  clear hd hA1 hR1 hx1 hA hR
  have HI := Lib.hid hi
  clear hi
  go_enter Try.func10, Try.ntmps10
  go_upto_region 1 with fail
  go_cut [7] from 16 to 28 (fun j wx => j = .bool (inB c n) ∧ wx = (W.alloc (.cells #[.int .i64 2, .int .i64 n] 35)).drew)
  case first =>
    by_cases h0n : (0 : Int) ≤ n
    · by_cases hln : n < (c.now.length : Int)
      · have e1 : inB c n = true := by simp [inB, h0n, hln]
        go_region
        go_wp2
        go_meet
        exact ⟨by rw [e1], rfl⟩
      · have e1 : inB c n = false := by simp [inB, h0n, hln]
        go_region
        go_wp2
        go_meet
        exact ⟨by rw [e1], rfl⟩
    · have e1 : inB c n = false := by simp [inB, h0n]
      go_region
      go_wp2
      go_meet
      exact ⟨by rw [e1], rfl⟩
  case rest =>
    obtain ⟨rfl, rfl⟩ := hcut
    rw [inB_no HI.out]
    go_wp2_with (first
      | (go_at_call 18; (with_reducible refine (inc_out _ _ _ _ _ _ _ HA1.out n HI.out).mono ?_); rintro e wa ⟨rfl, rfl⟩)
      | fail)
    go_ret
    exact ⟨rfl, both_done HA.out HR.out HD.out HA1.out (Stays.refl _ _) foot_id HR1.out (Stays.refl _ _) foot_id⟩
set_option maxRecDepth 20000 in
set_option maxHeartbeats 2000000 in
theorem do3_out (W : World) (b g0 p0 g1 p1 br h0 q0 h1 q1 : Nat) (c : CS) (hA : AX W b g0 p0 g1 p1 c) (hR : RX W br h0 q0 h1 q1 c) (n : Int) (hi : ¬ (0 ≤ n ∧ n < (c.now.length : Int))) :
    Calls Try.prog 10 #[.pointer (some ⟨b, 0, none⟩), .pointer (some ⟨br, 0, none⟩), .agg #[.int .i64 3, .int .i64 n]] W fun e w' => e = .returned (.bool true) ∧ DoneP W b g0 g1 br h0 h1 c w' := by
  have hd : Below W.heap.size W (W.alloc (.cells #[.int .i64 3, .int .i64 n] 35)).drew := ((Below.refl _ W).alloc (Nat.le_refl _) _).drew
  have hA1 := hA.below hd
  have hR1 := hR.below hd
  have hx1 : (W.alloc (.cells #[.int .i64 3, .int .i64 n] 35)).drew.heap[W.heap.size]? = some (.cells #[.int .i64 3, .int .i64 n] 35 (0, 0)) := heap_alloc_new W _
  have HA := Lib.hid hA
  have HR := Lib.hid hR
  have HD := Lib.hid hd
  have HA1 := Lib.hid hA1
  have HR1 := Lib.hid hR1
  have HX1 := Lib.hid hx1
  have n0 := hA.ok.n0
  have n1 := hA.ok.n1
  have a1 := hA.ok.a1
  have r0 : (W.alloc (.cells #[.int .i64 3, .int .i64 n] 35)).cell? ⟨br, 0, none⟩ = some (.slice (some ⟨h0, 0, none⟩) c.now.length q0) := hR1.c0
  clear hd hA1 hR1 hx1 hA hR
  have HI := Lib.hid hi
  clear hi
  go_enter Try.func10, Try.ntmps10
  go_upto_region 1 with fail
  go_cut [7] from 16 to 28 (fun j wx => j = .bool (inB c n) ∧ wx = (W.alloc (.cells #[.int .i64 3, .int .i64 n] 35)).drew)
  case first =>
    by_cases h0n : (0 : Int) ≤ n
    · by_cases hln : n < (c.now.length : Int)
      · have e1 : inB c n = true := by simp [inB, h0n, hln]
        go_region
        go_wp2
        go_meet
        exact ⟨by rw [e1], rfl⟩
      · have e1 : inB c n = false := by simp [inB, h0n, hln]
        go_region
        go_wp2
        go_meet
        exact ⟨by rw [e1], rfl⟩
    · have e1 : inB c n = false := by simp [inB, h0n]
      go_region
      go_wp2
      go_meet
      exact ⟨by rw [e1], rfl⟩
  case rest =>
    obtain ⟨rfl, rfl⟩ := hcut
    rw [inB_no HI.out]
    go_wp2_with (first
      | (go_at_call 17; (with_reducible refine (dec_out _ _ _ _ _ _ _ HA1.out n HI.out).mono ?_); rintro e wa ⟨rfl, rfl⟩)
      | fail)
    go_ret
    exact ⟨rfl, both_done HA.out HR.out HD.out HA1.out (Stays.refl _ _) foot_id HR1.out (Stays.refl _ _) foot_id⟩
set_option maxRecDepth 20000 in
set_option maxHeartbeats 2000000 in
theorem do4_out (W : World) (b g0 p0 g1 p1 br h0 q0 h1 q1 : Nat) (c : CS) (hA : AX W b g0 p0 g1 p1 c) (hR : RX W br h0 q0 h1 q1 c) (n : Int) (hi : ¬ (0 ≤ n ∧ n < (c.now.length : Int))) :
    Calls Try.prog 10 #[.pointer (some ⟨b, 0, none⟩), .pointer (some ⟨br, 0, none⟩), .agg #[.int .i64 4, .int .i64 n]] W fun e w' => e = .returned (.bool true) ∧ DoneP W b g0 g1 br h0 h1 c w' := by
  have hd : Below W.heap.size W (W.alloc (.cells #[.int .i64 4, .int .i64 n] 35)).drew := ((Below.refl _ W).alloc (Nat.le_refl _) _).drew
  have hA1 := hA.below hd
  have hR1 := hR.below hd
  have hx1 : (W.alloc (.cells #[.int .i64 4, .int .i64 n] 35)).drew.heap[W.heap.size]? = some (.cells #[.int .i64 4, .int .i64 n] 35 (0, 0)) := heap_alloc_new W _
  have HA := Lib.hid hA
  have HR := Lib.hid hR
  have HD := Lib.hid hd
  have HA1 := Lib.hid hA1
  have HR1 := Lib.hid hR1
  have HX1 := Lib.hid hx1
  have n0 := hA.ok.n0
  have n1 := hA.ok.n1
  have a1 := hA.ok.a1
  have r0 : (W.alloc (.cells #[.int .i64 4, .int .i64 n] 35)).cell? ⟨br, 0, none⟩ = some (.slice (some ⟨h0, 0, none⟩) c.now.length q0) := hR1.c0
  clear hd hA1 hR1 hx1 hA hR
  have HI := Lib.hid hi
  clear hi
  go_enter Try.func10, Try.ntmps10
  go_upto_region 1 with fail
  go_cut [7] from 16 to 28 (fun j wx => j = .bool (inB c n) ∧ wx = (W.alloc (.cells #[.int .i64 4, .int .i64 n] 35)).drew)
  case first =>
    by_cases h0n : (0 : Int) ≤ n
    · by_cases hln : n < (c.now.length : Int)
      · have e1 : inB c n = true := by simp [inB, h0n, hln]
        go_region
        go_wp2
        go_meet
        exact ⟨by rw [e1], rfl⟩
      · have e1 : inB c n = false := by simp [inB, h0n, hln]
        go_region
        go_wp2
        go_meet
        exact ⟨by rw [e1], rfl⟩
    · have e1 : inB c n = false := by simp [inB, h0n]
      go_region
      go_wp2
      go_meet
      exact ⟨by rw [e1], rfl⟩
  case rest =>
    obtain ⟨rfl, rfl⟩ := hcut
    rw [inB_no HI.out]
    go_wp2_with (first
      | (go_at_call 24; (with_reducible refine (set_out _ _ _ _ _ _ _ HA1.out n HI.out).mono ?_); rintro e wa ⟨rfl, rfl⟩)
      | fail)
    go_ret
    exact ⟨rfl, both_done HA.out HR.out HD.out HA1.out (Stays.refl _ _) foot_id HR1.out (Stays.refl _ _) foot_id⟩
set_option maxRecDepth 20000 in
set_option maxHeartbeats 2000000 in
theorem do2_full (W : World) (b g0 p0 g1 p1 br h0 q0 h1 q1 : Nat) (c : CS) (hA : AX W b g0 p0 g1 p1 c) (hR : RX W br h0 q0 h1 q1 c) (n : Nat) (hn : n < c.now.length) (hv : nowAt c n = 65535) :
    Calls Try.prog 10 #[.pointer (some ⟨b, 0, none⟩), .pointer (some ⟨br, 0, none⟩), .agg #[.int .i64 2, .int .i64 (n : Int)]] W fun e w' => e = .returned (.bool true) ∧ DoneP W b g0 g1 br h0 h1 c w' := by
  have hd : Below W.heap.size W (W.alloc (.cells #[.int .i64 2, .int .i64 (n : Int)] 35)).drew := ((Below.refl _ W).alloc (Nat.le_refl _) _).drew
  have hA1 := hA.below hd
  have hR1 := hR.below hd
  have hx1 : (W.alloc (.cells #[.int .i64 2, .int .i64 (n : Int)] 35)).drew.heap[W.heap.size]? = some (.cells #[.int .i64 2, .int .i64 (n : Int)] 35 (0, 0)) := heap_alloc_new W _
  have HA := Lib.hid hA
  have HR := Lib.hid hR
  have HD := Lib.hid hd
  have HA1 := Lib.hid hA1
  have HR1 := Lib.hid hR1
  have HX1 := Lib.hid hx1
  have n0 := hA.ok.n0
  have n1 := hA.ok.n1
  have a1 := hA.ok.a1
  have r0 : (W.alloc (.cells #[.int .i64 2, .int .i64 (n : Int)] 35)).cell? ⟨br, 0, none⟩ = some (.slice (some ⟨h0, 0, none⟩) c.now.length q0) := hR1.c0
  clear hd hA1 hR1 hx1 hA hR
  have hnI : (n : Int) < (c.now.length : Int) := by omega
  have v0 := HR1.out.n_at n hn
  rw [hv] at v0
  have v1 : (W.alloc (.cells #[.int .i64 2, .int .i64 (n : Int)] 35)).cell? ⟨h0, n, none⟩ = some (.int .i64 65535) := v0
  clear v0
  go_enter Try.func10, Try.ntmps10
  go_upto_region 1 with fail
  go_cut [7] from 16 to 28 (fun j wx => j = .bool (inB c (n : Int)) ∧ wx = (W.alloc (.cells #[.int .i64 2, .int .i64 (n : Int)] 35)).drew)
  case first =>
    have e1 : inB c (n : Int) = true := inB_yes (by omega)
    go_region
    go_wp2
    go_meet
    exact ⟨by rw [e1], rfl⟩
  case rest =>
    obtain ⟨rfl, rfl⟩ := hcut
    rw [inB_yes hn]
    go_wp2_with (first
      | (go_at_call 18; (with_reducible refine (inc_full _ _ _ _ _ _ _ HA1.out n hn hv).mono ?_); rintro e wa ⟨rfl, rfl⟩)
      | fail)
    go_region
    go_wp2
    go_ret
    exact ⟨rfl, both_done HA.out HR.out HD.out HA1.out (Stays.refl _ _) foot_id HR1.out.drew (Stays.refl _ _).drew foot_id⟩
set_option maxRecDepth 20000 in
set_option maxHeartbeats 2000000 in
theorem do2_free (W : World) (b g0 p0 g1 p1 br h0 q0 h1 q1 : Nat) (c : CS) (hA : AX W b g0 p0 g1 p1 c) (hR : RX W br h0 q0 h1 q1 c) (n : Nat) (hn : n < c.now.length) (hv : nowAt c n = 0) :
    Calls Try.prog 10 #[.pointer (some ⟨b, 0, none⟩), .pointer (some ⟨br, 0, none⟩), .agg #[.int .i64 2, .int .i64 (n : Int)]] W fun e w' => e = .returned (.bool true) ∧ DoneP W b g0 g1 br h0 h1 c w' := by
  have hd : Below W.heap.size W (W.alloc (.cells #[.int .i64 2, .int .i64 (n : Int)] 35)).drew := ((Below.refl _ W).alloc (Nat.le_refl _) _).drew
  have hA1 := hA.below hd
  have hR1 := hR.below hd
  have hx1 : (W.alloc (.cells #[.int .i64 2, .int .i64 (n : Int)] 35)).drew.heap[W.heap.size]? = some (.cells #[.int .i64 2, .int .i64 (n : Int)] 35 (0, 0)) := heap_alloc_new W _
  have HA := Lib.hid hA
  have HR := Lib.hid hR
  have HD := Lib.hid hd
  have HA1 := Lib.hid hA1
  have HR1 := Lib.hid hR1
  have HX1 := Lib.hid hx1
  have n0 := hA.ok.n0
  have n1 := hA.ok.n1
  have a1 := hA.ok.a1
  have r0 : (W.alloc (.cells #[.int .i64 2, .int .i64 (n : Int)] 35)).cell? ⟨br, 0, none⟩ = some (.slice (some ⟨h0, 0, none⟩) c.now.length q0) := hR1.c0
  clear hd hA1 hR1 hx1 hA hR
  have hnI : (n : Int) < (c.now.length : Int) := by omega
  have v0 := HR1.out.n_at n hn
  rw [hv] at v0
  have v1 : (W.alloc (.cells #[.int .i64 2, .int .i64 (n : Int)] 35)).cell? ⟨h0, n, none⟩ = some (.int .i64 0) := v0
  clear v0
  go_enter Try.func10, Try.ntmps10
  go_upto_region 1 with fail
  go_cut [7] from 16 to 28 (fun j wx => j = .bool (inB c (n : Int)) ∧ wx = (W.alloc (.cells #[.int .i64 2, .int .i64 (n : Int)] 35)).drew)
  case first =>
    have e1 : inB c (n : Int) = true := inB_yes (by omega)
    go_region
    go_wp2
    go_meet
    exact ⟨by rw [e1], rfl⟩
  case rest =>
    obtain ⟨rfl, rfl⟩ := hcut
    rw [inB_yes hn]
    go_wp2_with (first
      | (go_at_call 18; (with_reducible refine (inc_free _ _ _ _ _ _ _ HA1.out n hn hv).mono ?_); rintro e wa ⟨rfl, rfl⟩)
      | fail)
    go_region
    go_wp2
    go_region
    go_wp2
    go_ret
    exact ⟨rfl, both_done HA.out HR.out HD.out HA1.out (Stays.refl _ _) foot_id HR1.out.drew.drew (Stays.refl _ _).drew.drew foot_id⟩
set_option maxRecDepth 20000 in
set_option maxHeartbeats 2000000 in
theorem do2_any (W : World) (b g0 p0 g1 p1 br h0 q0 h1 q1 : Nat) (c : CS) (hA : AX W b g0 p0 g1 p1 c) (hR : RX W br h0 q0 h1 q1 c) (n : Nat) (hn : n < c.now.length) (hv0 : nowAt c n ≠ 0) (hv1 : nowAt c n ≠ 65535) :
    Calls Try.prog 10 #[.pointer (some ⟨b, 0, none⟩), .pointer (some ⟨br, 0, none⟩), .agg #[.int .i64 2, .int .i64 (n : Int)]] W fun e w' => e = .returned (.bool true) ∧ DoneP W b g0 g1 br h0 h1 (incS c n) w' := by
  have hd : Below W.heap.size W (W.alloc (.cells #[.int .i64 2, .int .i64 (n : Int)] 35)).drew := ((Below.refl _ W).alloc (Nat.le_refl _) _).drew
  have hA1 := hA.below hd
  have hR1 := hR.below hd
  have hx1 : (W.alloc (.cells #[.int .i64 2, .int .i64 (n : Int)] 35)).drew.heap[W.heap.size]? = some (.cells #[.int .i64 2, .int .i64 (n : Int)] 35 (0, 0)) := heap_alloc_new W _
  have HA := Lib.hid hA
  have HR := Lib.hid hR
  have HD := Lib.hid hd
  have HA1 := Lib.hid hA1
  have HR1 := Lib.hid hR1
  have HX1 := Lib.hid hx1
  have n0 := hA.ok.n0
  have n1 := hA.ok.n1
  have a1 := hA.ok.a1
  have r0 : (W.alloc (.cells #[.int .i64 2, .int .i64 (n : Int)] 35)).cell? ⟨br, 0, none⟩ = some (.slice (some ⟨h0, 0, none⟩) c.now.length q0) := hR1.c0
  clear hd hA1 hR1 hx1 hA hR
  have hnI : (n : Int) < (c.now.length : Int) := by omega
  have hm := HA.out.ok.now_le n
  have HSET : Hid (∀ w2, RX w2 br h0 q0 h1 q1 c → RX (w2.setCell ⟨h0, n, none⟩ (.int .i64 ((nowAt c n : Int) + 1))) br h0 q0 h1 q1 (incS c n) ∧ Stays w2 (w2.setCell ⟨h0, n, none⟩ (.int .i64 ((nowAt c n : Int) + 1))) (foot br h0 h1)) := fun w2 h => ⟨h.setNow tR n (nowAt c n + 1) (by omega), (Stays.refl _ _).set ⟨h0, n, none⟩ (.inl (.inr (.inl rfl))) _⟩
  go_enter Try.func10, Try.ntmps10
  go_upto_region 1 with fail
  go_cut [7] from 16 to 28 (fun j wx => j = .bool (inB c (n : Int)) ∧ wx = (W.alloc (.cells #[.int .i64 2, .int .i64 (n : Int)] 35)).drew)
  case first =>
    have e1 : inB c (n : Int) = true := inB_yes (by omega)
    go_region
    go_wp2
    go_meet
    exact ⟨by rw [e1], rfl⟩
  case rest =>
    obtain ⟨rfl, rfl⟩ := hcut
    rw [inB_yes hn]
    go_wp2_with (first
      | (go_at_call 18; (with_reducible refine (inc_any _ _ _ _ _ _ _ HA1.out n hn hv0 hv1).mono ?_); rintro e w2 ⟨rfl, ha2, hs2⟩; obtain ⟨hr2, hx2, x0, x1⟩ := after_a HA1.out HR1.out HX1.out hs2; have HA2 := Lib.hid ha2; have HS2 := Lib.hid hs2; have HR2 := Lib.hid hr2; have z0 := hr2.c0; have z1 := hr2.c1; have z2 := hr2.c2; have z3 := hr2.c3; have y0 := hr2.fr 0; have y1 := hr2.fr 1; have y2 := hr2.fr 2; have y3 := hr2.fr 3; clear ha2 hs2 hr2 hx2; have v0 := HR2.out.n_at n hn; have v1 := HR2.out.fr0 n; have HSS := Lib.hid (HSET.out _ HR2.out))
      | fail)
    clear HSET
    generalize nowAt c n = x at *
    have b0 : ((x : Int) == 0) = false := by rw [beq_eq_false_iff_ne]; omega
    have b1 : ((x : Int) == 65535) = false := by rw [beq_eq_false_iff_ne]; omega
    have hw : IntKind.i64.wrap ((x : Int) + 1) = (x : Int) + 1 := by rw [IntKind.wrap_i64]; omega
    go_region
    go_wp2
    go_region
    go_wp2
    go_region
    go_wp2
    go_ret
    exact ⟨rfl, both_done HA.out HR.out HD.out HA2.out HS2.out foot_id HSS.out.1.drew.drew.drew HSS.out.2.drew.drew.drew foot_id⟩
set_option maxRecDepth 20000 in
set_option maxHeartbeats 2000000 in
theorem do3_free (W : World) (b g0 p0 g1 p1 br h0 q0 h1 q1 : Nat) (c : CS) (hA : AX W b g0 p0 g1 p1 c) (hR : RX W br h0 q0 h1 q1 c) (n : Nat) (hn : n < c.now.length) (hv : nowAt c n = 0) :
    Calls Try.prog 10 #[.pointer (some ⟨b, 0, none⟩), .pointer (some ⟨br, 0, none⟩), .agg #[.int .i64 3, .int .i64 (n : Int)]] W fun e w' => e = .returned (.bool true) ∧ DoneP W b g0 g1 br h0 h1 c w' := by
  have hd : Below W.heap.size W (W.alloc (.cells #[.int .i64 3, .int .i64 (n : Int)] 35)).drew := ((Below.refl _ W).alloc (Nat.le_refl _) _).drew
  have hA1 := hA.below hd
  have hR1 := hR.below hd
  have hx1 : (W.alloc (.cells #[.int .i64 3, .int .i64 (n : Int)] 35)).drew.heap[W.heap.size]? = some (.cells #[.int .i64 3, .int .i64 (n : Int)] 35 (0, 0)) := heap_alloc_new W _
  have HA := Lib.hid hA
  have HR := Lib.hid hR
  have HD := Lib.hid hd
  have HA1 := Lib.hid hA1
  have HR1 := Lib.hid hR1
  have HX1 := Lib.hid hx1
  have n0 := hA.ok.n0
  have n1 := hA.ok.n1
  have a1 := hA.ok.a1
  have r0 : (W.alloc (.cells #[.int .i64 3, .int .i64 (n : Int)] 35)).cell? ⟨br, 0, none⟩ = some (.slice (some ⟨h0, 0, none⟩) c.now.length q0) := hR1.c0
  clear hd hA1 hR1 hx1 hA hR
  have hnI : (n : Int) < (c.now.length : Int) := by omega
  have v0 := HR1.out.n_at n hn
  rw [hv] at v0
  have v1 : (W.alloc (.cells #[.int .i64 3, .int .i64 (n : Int)] 35)).cell? ⟨h0, n, none⟩ = some (.int .i64 0) := v0
  clear v0
  go_enter Try.func10, Try.ntmps10
  go_upto_region 1 with fail
  go_cut [7] from 16 to 28 (fun j wx => j = .bool (inB c (n : Int)) ∧ wx = (W.alloc (.cells #[.int .i64 3, .int .i64 (n : Int)] 35)).drew)
  case first =>
    have e1 : inB c (n : Int) = true := inB_yes (by omega)
    go_region
    go_wp2
    go_meet
    exact ⟨by rw [e1], rfl⟩
  case rest =>
    obtain ⟨rfl, rfl⟩ := hcut
    rw [inB_yes hn]
    go_wp2_with (first
      | (go_at_call 17; (with_reducible refine (dec_free _ _ _ _ _ _ _ HA1.out n hn hv).mono ?_); rintro e wa ⟨rfl, rfl⟩)
      | fail)
    go_region
    go_wp2
    go_ret
    exact ⟨rfl, both_done HA.out HR.out HD.out HA1.out (Stays.refl _ _) foot_id HR1.out.drew (Stays.refl _ _).drew foot_id⟩
set_option maxRecDepth 20000 in
set_option maxHeartbeats 2000000 in
theorem do3_any (W : World) (b g0 p0 g1 p1 br h0 q0 h1 q1 : Nat) (c : CS) (hA : AX W b g0 p0 g1 p1 c) (hR : RX W br h0 q0 h1 q1 c) (n : Nat) (hn : n < c.now.length) (hv0 : nowAt c n ≠ 0) :
    Calls Try.prog 10 #[.pointer (some ⟨b, 0, none⟩), .pointer (some ⟨br, 0, none⟩), .agg #[.int .i64 3, .int .i64 (n : Int)]] W fun e w' => e = .returned (.bool true) ∧ DoneP W b g0 g1 br h0 h1 (decS c n) w' := by
  have hd : Below W.heap.size W (W.alloc (.cells #[.int .i64 3, .int .i64 (n : Int)] 35)).drew := ((Below.refl _ W).alloc (Nat.le_refl _) _).drew
  have hA1 := hA.below hd
  have hR1 := hR.below hd
  have hx1 : (W.alloc (.cells #[.int .i64 3, .int .i64 (n : Int)] 35)).drew.heap[W.heap.size]? = some (.cells #[.int .i64 3, .int .i64 (n : Int)] 35 (0, 0)) := heap_alloc_new W _
  have HA := Lib.hid hA
  have HR := Lib.hid hR
  have HD := Lib.hid hd
  have HA1 := Lib.hid hA1
  have HR1 := Lib.hid hR1
  have HX1 := Lib.hid hx1
  have n0 := hA.ok.n0
  have n1 := hA.ok.n1
  have a1 := hA.ok.a1
  have r0 : (W.alloc (.cells #[.int .i64 3, .int .i64 (n : Int)] 35)).cell? ⟨br, 0, none⟩ = some (.slice (some ⟨h0, 0, none⟩) c.now.length q0) := hR1.c0
  clear hd hA1 hR1 hx1 hA hR
  have hnI : (n : Int) < (c.now.length : Int) := by omega
  have hm := HA.out.ok.now_le n
  have ex : ((nowAt c n - 1 : Nat) : Int) = (nowAt c n : Int) - 1 := by omega
  have HSET : Hid (∀ w2, RX w2 br h0 q0 h1 q1 c → RX (w2.setCell ⟨h0, n, none⟩ (.int .i64 ((nowAt c n : Int) - 1))) br h0 q0 h1 q1 (decS c n) ∧ Stays w2 (w2.setCell ⟨h0, n, none⟩ (.int .i64 ((nowAt c n : Int) - 1))) (foot br h0 h1) ∧ (w2.setCell ⟨h0, n, none⟩ (.int .i64 ((nowAt c n : Int) - 1))).cell? ⟨h0, n, none⟩ = some (.int .i64 ((nowAt c n : Int) - 1))) := fun w2 h => by
    rw [← ex]
    have h2 : RX _ br h0 q0 h1 q1 (decS c n) := h.setNow tR n (nowAt c n - 1) (by omega)
    refine ⟨h2, (Stays.refl _ _).set ⟨h0, n, none⟩ (.inl (.inr (.inl rfl))) _, ?_⟩
    have h3 := h2.n_at n (by simpa [decS] using hn)
    rw [h3]
    simp [nowAt, decS, hn]
  have HDEC : Hid (Calls Try.prog 17 #[.pointer (some ⟨b, 0, none⟩), .int .i64 (n : Int)] (W.alloc (.cells #[.int .i64 3, .int .i64 (n : Int)] 35)).drew fun e w' => e = .returned (.tuple #[.int .u16 ((nowAt c n : Int) - 1), .int .i64 0]) ∧ AX w' b g0 p0 g1 p1 (decS c n) ∧ Stays (W.alloc (.cells #[.int .i64 3, .int .i64 (n : Int)] 35)).drew w' (foot b g0 g1)) := Lib.hid (by rw [← ex]; exact dec_any _ _ _ _ _ _ _ HA1.out n hn hv0)
  clear ex
  go_enter Try.func10, Try.ntmps10
  go_upto_region 1 with fail
  go_cut [7] from 16 to 28 (fun j wx => j = .bool (inB c (n : Int)) ∧ wx = (W.alloc (.cells #[.int .i64 3, .int .i64 (n : Int)] 35)).drew)
  case first =>
    have e1 : inB c (n : Int) = true := inB_yes (by omega)
    go_region
    go_wp2
    go_meet
    exact ⟨by rw [e1], rfl⟩
  case rest =>
    obtain ⟨rfl, rfl⟩ := hcut
    rw [inB_yes hn]
    go_wp2_with (first
      | (go_at_call 17; go_loud ((with_reducible refine (HDEC.out).mono ?_); rintro e w2 ⟨rfl, ha2, hs2⟩; obtain ⟨hr2, hx2, x0, x1⟩ := after_a HA1.out HR1.out HX1.out hs2; have HA2 := Lib.hid ha2; have HS2 := Lib.hid hs2; have HR2 := Lib.hid hr2; have z0 := hr2.c0; have z1 := hr2.c1; have z2 := hr2.c2; have z3 := hr2.c3; have y0 := hr2.fr 0; have y1 := hr2.fr 1; have y2 := hr2.fr 2; have y3 := hr2.fr 3; clear ha2 hs2 hr2 hx2; have v0 := HR2.out.n_at n hn; have v1 := HR2.out.fr0 n; obtain ⟨t1, t2, t3⟩ := HSET.out _ HR2.out; have HSS := Lib.hid (And.intro t1 t2); have u0 := t1.c0; have HX2 := Lib.hid x1; have u1 : (w2.setCell ⟨h0, n, none⟩ (.int .i64 ((nowAt c n : Int) - 1))).cell? ⟨W.heap.size, 1, none⟩ = some (.int .i64 (n : Int)) := (World.cell?_setCell_far _ _ _ _ (by have := HR.out.lt0; show h0 ≠ W.heap.size; omega)).trans HX2.out; clear t1 t2))
      | fail)
    clear HSET HDEC
    generalize nowAt c n = x at *
    have b0 : ((x : Int) == 0) = false := by rw [beq_eq_false_iff_ne]; omega
    have hw : IntKind.i64.wrap ((x : Int) - 1) = (x : Int) - 1 := by rw [IntKind.wrap_i64]; omega
    have b2 : ((x : Int) - 1 == (x : Int) - 1) = true := by simp
    go_region
    go_wp2
    go_region
    have HS26 : Hid ((w2.setCell ⟨h0, n, none⟩ (.int .i64 ((x : Int) - 1))).cell? ⟨br, 0, none⟩ = some (.slice (some ⟨h0, 0, none⟩) c.now.length q0) ∧ (w2.setCell ⟨h0, n, none⟩ (.int .i64 ((x : Int) - 1))).cell? ⟨W.heap.size, 1, none⟩ = some (.int .i64 (n : Int)) ∧ (w2.setCell ⟨h0, n, none⟩ (.int .i64 ((x : Int) - 1))).cell? ⟨h0, n, none⟩ = some (.int .i64 ((x : Int) - 1))) := Lib.hid ⟨by have := u0; simpa [decS] using this, u1, t3⟩
    go_wp2
    go_region_held_law (fun W' => W'.cell? ⟨br, 0, none⟩ = some (.slice (some ⟨h0, 0, none⟩) c.now.length q0) ∧ W'.cell? ⟨W.heap.size, 1, none⟩ = some (.int .i64 (n : Int)) ∧ W'.cell? ⟨h0, n, none⟩ = some (.int .i64 ((x : Int) - 1)))
      (first | exact HS26.out)
      (first | fail)
    go_wp2
    go_ret
    exact ⟨rfl, both_done HA.out HR.out HD.out HA2.out HS2.out foot_id HSS.out.1.drew.drew.drew HSS.out.2.drew.drew.drew foot_id⟩
set_option maxRecDepth 20000 in
set_option maxHeartbeats 2000000 in
theorem do4_any (W : World) (b g0 p0 g1 p1 br h0 q0 h1 q1 : Nat) (c : CS) (hA : AX W b g0 p0 g1 p1 c) (hR : RX W br h0 q0 h1 q1 c) (n : Nat) (hn : n < c.now.length) :
    Calls Try.prog 10 #[.pointer (some ⟨b, 0, none⟩), .pointer (some ⟨br, 0, none⟩), .agg #[.int .i64 4, .int .i64 (n : Int)]] W fun e w' => e = .returned (.bool true) ∧ DoneP W b g0 g1 br h0 h1 (setS c n) w' := by
  have hd : Below W.heap.size W (W.alloc (.cells #[.int .i64 4, .int .i64 (n : Int)] 35)).drew := ((Below.refl _ W).alloc (Nat.le_refl _) _).drew
  have hA1 := hA.below hd
  have hR1 := hR.below hd
  have hx1 : (W.alloc (.cells #[.int .i64 4, .int .i64 (n : Int)] 35)).drew.heap[W.heap.size]? = some (.cells #[.int .i64 4, .int .i64 (n : Int)] 35 (0, 0)) := heap_alloc_new W _
  have HA := Lib.hid hA
  have HR := Lib.hid hR
  have HD := Lib.hid hd
  have HA1 := Lib.hid hA1
  have HR1 := Lib.hid hR1
  have HX1 := Lib.hid hx1
  have n0 := hA.ok.n0
  have n1 := hA.ok.n1
  have a1 := hA.ok.a1
  have r0 : (W.alloc (.cells #[.int .i64 4, .int .i64 (n : Int)] 35)).cell? ⟨br, 0, none⟩ = some (.slice (some ⟨h0, 0, none⟩) c.now.length q0) := hR1.c0
  clear hd hA1 hR1 hx1 hA hR
  have hnI : (n : Int) < (c.now.length : Int) := by omega
  go_enter Try.func10, Try.ntmps10
  go_upto_region 1 with fail
  go_cut [7] from 16 to 28 (fun j wx => j = .bool (inB c (n : Int)) ∧ wx = (W.alloc (.cells #[.int .i64 4, .int .i64 (n : Int)] 35)).drew)
  case first =>
    have e1 : inB c (n : Int) = true := inB_yes (by omega)
    go_region
    go_wp2
    go_meet
    exact ⟨by rw [e1], rfl⟩
  case rest =>
    obtain ⟨rfl, rfl⟩ := hcut
    rw [inB_yes hn]
    go_wp2_with (first
      | (go_at_call 24; (with_reducible refine (set_any _ _ _ _ _ _ _ HA1.out n hn).mono ?_); rintro e w2 ⟨rfl, ha2, hs2⟩; obtain ⟨hr2, hx2, x0, x1⟩ := after_a HA1.out HR1.out HX1.out hs2; have HA2 := Lib.hid ha2; have HS2 := Lib.hid hs2; have HR2 := Lib.hid hr2; have z0 := hr2.c0; have z1 := hr2.c1; have z2 := hr2.c2; have z3 := hr2.c3; have y0 := hr2.fr 0; have y1 := hr2.fr 1; have y2 := hr2.fr 2; have y3 := hr2.fr 3; clear ha2 hs2 hr2 hx2; have t1 := HR2.out.setAt tR n hn; have t2 := t1.setKept tR n hn; have u3 := t1.c3; have u4 := t1.fr 3; have HSS : Hid (RX _ br h0 q0 h1 q1 (setS c n) ∧ Stays w2 _ (foot br h0 h1)) := Lib.hid (And.intro t2 (((Stays.refl w2 (foot br h0 h1)).set ⟨br, 2, none⟩ (.inl (.inl rfl)) (.int .i64 (n : Int))).set ⟨br, 3, none⟩ (.inl (.inl rfl)) (.int .i64 (n : Int)))); clear t1 t2)
      | fail)
    go_region
    go_wp2
    go_ret
    exact ⟨rfl, both_done HA.out HR.out HD.out HA2.out HS2.out foot_id HSS.out.1.drew HSS.out.2.drew foot_id⟩
end Go.Proofs.Ytiodhihddpbadaa
