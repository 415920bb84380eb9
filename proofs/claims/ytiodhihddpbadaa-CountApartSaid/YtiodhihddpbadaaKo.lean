/- The law's do: Commit, Abort; no kind. -/
import Derived.Test.YtiodhihddpbadaaKn
set_option linter.unusedVariables false
namespace Go.Proofs.Ytiodhihddpbadaa
open Go.RowKit

/-- the document's Commit: a clone is laid, the cursor kept -/
theorem RX.commit {w2 w4 : World} {br h0 q0 h1 q1 g q : Nat} {c : CS} (h : RX w2 br h0 q0 h1 q1 c) (ho : w4.ownsRow 0 3 1 (.slice (some ⟨g, 0, none⟩) c.now.length q) c.now.length (nz .i64 c.now)) (hg : w2.heap.size ≤ g) (hb : Below w2.heap.size w2 w4) :
    RX ((w4.setCell ⟨br, 1, none⟩ (.slice (some ⟨g, 0, none⟩) c.now.length q)).setCell ⟨br, 3, none⟩ (.int .i64 (c.at_ : Int))) br h0 q0 g q (commitS c) ∧
    Stays w2 ((w4.setCell ⟨br, 1, none⟩ (.slice (some ⟨g, 0, none⟩) c.now.length q)).setCell ⟨br, 3, none⟩ (.int .i64 (c.at_ : Int))) (foot br h0 h1) ∧ (∀ j, foot br h0 g j → foot br h0 h1 j ∨ w2.heap.size ≤ j) ∧
    (w4.setCell ⟨br, 1, none⟩ (.slice (some ⟨g, 0, none⟩) c.now.length q)).cell? ⟨br, 3, none⟩ = some (.int .i64 (c.kept : Int)) ∧ (w4.setCell ⟨br, 1, none⟩ (.slice (some ⟨g, 0, none⟩) c.now.length q)).frozen? ⟨br, 3, none⟩ = false := by
  have h4 := h.below hb
  have b4 := h4.blk
  have b5 := Joins.block_setCell b4 (i := 1) (.slice (some ⟨g, 0, none⟩) c.now.length q)
  have hlb := h.lt
  have hl0 := h.lt0
  have k0 := (h.kb tR).1
  have ho5 : ∀ j, j ≠ br → ((w4.setCell ⟨br, 1, none⟩ (.slice (some ⟨g, 0, none⟩) c.now.length q)).setCell ⟨br, 3, none⟩ (.int .i64 (c.at_ : Int))).heap[j]? = w4.heap[j]? := fun j hj => by
    rw [Below.heap_setCell _ _ _ _ hj, Below.heap_setCell _ _ _ _ hj]
  have ok := h.ok
  refine ⟨⟨?_, ?_, ?_, by omega, ⟨ok.n0, ok.n1, rfl, ok.bn, ok.bn, ok.a1, ok.a1⟩⟩, ?_, ?_, by rw [Joins.cell_of_block b5 3]; rfl, Joins.unfrozen_of_block b5 3⟩
  · rw [Joins.block_setCell b5]; rfl
  · refine rowS_on h4.now (fun k hk => ho5 k ?_)
    injection hk with hk
    have hk' : h0 = k := hk
    subst hk'
    exact k0
  · refine rowS_on ho (fun k hk => ho5 k ?_)
    injection hk with hk
    have hk' : g = k := hk
    omega
  · exact ((Stays.of_below hb _).set ⟨br, 1, none⟩ (.inl (.inl rfl)) _).set ⟨br, 3, none⟩ (.inl (.inl rfl)) _
  · rintro j (rfl | rfl | rfl)
    · exact .inl (.inl rfl)
    · exact .inl (.inr (.inl rfl))
    · exact .inr hg
/-- the document's Abort -/
theorem RX.abort {w2 w4 : World} {br h0 q0 h1 q1 g q : Nat} {c : CS} (h : RX w2 br h0 q0 h1 q1 c) (ho : w4.ownsRow 0 3 1 (.slice (some ⟨g, 0, none⟩) c.now.length q) c.now.length (nz .i64 c.was)) (hg : w2.heap.size ≤ g) (hb : Below w2.heap.size w2 w4) :
    RX ((w4.setCell ⟨br, 0, none⟩ (.slice (some ⟨g, 0, none⟩) c.now.length q)).setCell ⟨br, 2, none⟩ (.int .i64 (c.kept : Int))) br g q h1 q1 (abortS c) ∧
    Stays w2 ((w4.setCell ⟨br, 0, none⟩ (.slice (some ⟨g, 0, none⟩) c.now.length q)).setCell ⟨br, 2, none⟩ (.int .i64 (c.kept : Int))) (foot br h0 h1) ∧ (∀ j, foot br g h1 j → foot br h0 h1 j ∨ w2.heap.size ≤ j) ∧
    (w4.setCell ⟨br, 0, none⟩ (.slice (some ⟨g, 0, none⟩) c.now.length q)).cell? ⟨br, 2, none⟩ = some (.int .i64 (c.at_ : Int)) ∧ (w4.setCell ⟨br, 0, none⟩ (.slice (some ⟨g, 0, none⟩) c.now.length q)).frozen? ⟨br, 2, none⟩ = false := by
  have h4 := h.below hb
  have b4 := h4.blk
  have b5 := Joins.block_setCell b4 (i := 0) (.slice (some ⟨g, 0, none⟩) c.now.length q)
  have hlb := h.lt
  have hl1 := h.lt1
  have k1 := (h.kb tR).2
  have ho5 : ∀ j, j ≠ br → ((w4.setCell ⟨br, 0, none⟩ (.slice (some ⟨g, 0, none⟩) c.now.length q)).setCell ⟨br, 2, none⟩ (.int .i64 (c.kept : Int))).heap[j]? = w4.heap[j]? := fun j hj => by
    rw [Below.heap_setCell _ _ _ _ hj, Below.heap_setCell _ _ _ _ hj]
  have ok := h.ok
  have hl := ok.len
  have hwl : (abortS c).now.length = c.now.length := hl
  refine ⟨⟨?_, ?_, ?_, by omega, ⟨by rw [hwl]; exact ok.n0, by rw [hwl]; exact ok.n1, rfl, ok.bw, ok.bw, by rw [hwl]; exact ok.k1, by rw [hwl]; exact ok.k1⟩⟩, ?_, ?_, by rw [Joins.cell_of_block b5 2]; rfl, Joins.unfrozen_of_block b5 2⟩
  · rw [Joins.block_setCell b5, hwl]; rfl
  · rw [hwl]
    refine rowS_on ho (fun k hk => ho5 k ?_)
    injection hk with hk
    have hk' : g = k := hk
    omega
  · rw [hwl]
    refine rowS_on h4.was (fun k hk => ho5 k ?_)
    injection hk with hk
    have hk' : h1 = k := hk
    subst hk'
    exact k1
  · exact ((Stays.of_below hb _).set ⟨br, 0, none⟩ (.inl (.inl rfl)) _).set ⟨br, 2, none⟩ (.inl (.inl rfl)) _
  · rintro j (rfl | rfl | rfl)
    · exact .inl (.inl rfl)
    · exact .inr hg
    · exact .inl (.inr (.inr rfl))
set_option maxRecDepth 20000 in
set_option maxHeartbeats 2000000 in
theorem do5_any (W : World) (b g0 p0 g1 p1 br h0 q0 h1 q1 : Nat) (c : CS) (hA : AX W b g0 p0 g1 p1 c) (hR : RX W br h0 q0 h1 q1 c) (n : Int) :
    Calls Try.prog 10 #[.pointer (some ⟨b, 0, none⟩), .pointer (some ⟨br, 0, none⟩), .agg #[.int .i64 5, .int .i64 n]] W fun e w' => e = .returned (.bool true) ∧ DoneP W b g0 g1 br h0 h1 (commitS c) w' := by
  have hd : Below W.heap.size W (W.alloc (.cells #[.int .i64 5, .int .i64 n] 35)).drew := ((Below.refl _ W).alloc (Nat.le_refl _) _).drew
  have hA1 := hA.below hd
  have hR1 := hR.below hd
  have hx1 : (W.alloc (.cells #[.int .i64 5, .int .i64 n] 35)).drew.heap[W.heap.size]? = some (.cells #[.int .i64 5, .int .i64 n] 35 (0, 0)) := heap_alloc_new W _
  have HA := Lib.hid hA
  have HR := Lib.hid hR
  have HD := Lib.hid hd
  have HA1 := Lib.hid hA1
  have HR1 := Lib.hid hR1
  have HX1 := Lib.hid hx1
  have n0 := hA.ok.n0
  have n1 := hA.ok.n1
  have a1 := hA.ok.a1
  have r0 : (W.alloc (.cells #[.int .i64 5, .int .i64 n] 35)).cell? ⟨br, 0, none⟩ = some (.slice (some ⟨h0, 0, none⟩) c.now.length q0) := hR1.c0
  clear hd hA1 hR1 hx1 hA hR
  go_enter Try.func10, Try.ntmps10
  go_upto_region 1 with fail
  go_cut [7] from 16 to 28 (fun j wx => j = .bool (inB c n) ∧ wx = (W.alloc (.cells #[.int .i64 5, .int .i64 n] 35)).drew)
  case first =>
    by_cases h0n : (0 : Int) ≤ n
    · by_cases hln : n < (c.now.length : Int)
      · have e1 : inB c n = true := by simp [inB, h0n, hln]
        go_region
        go_wp2
        go_meet
        exact ⟨by rw [e1], rfl⟩
      · have e1 : inB c n = false := by simp [inB, h0n, hln]
        go_region
        go_wp2
        go_meet
        exact ⟨by rw [e1], rfl⟩
    · have e1 : inB c n = false := by simp [inB, h0n]
      go_region
      go_wp2
      go_meet
      exact ⟨by rw [e1], rfl⟩
  case rest =>
    obtain ⟨rfl, rfl⟩ := hcut
    go_wp2_with (first
      | (go_at_call 14; (with_reducible refine (commit_any _ _ _ _ _ _ _ HA1.out).mono ?_); rintro e w2 ⟨rfl, ha2, hs2⟩; obtain ⟨hr2, hx2, x0, x1⟩ := after_a HA1.out HR1.out HX1.out hs2; have HA2 := Lib.hid ha2; have HS2 := Lib.hid hs2; have HR2 := Lib.hid hr2; have z0 := hr2.c0; have z1 := hr2.c1; have z2 := hr2.c2; have z3 := hr2.c3; have y0 := hr2.fr 0; have y1 := hr2.fr 1; have y2 := hr2.fr 2; have y3 := hr2.fr 3; clear ha2 hs2 hr2 hx2)
      | fail)
    have HL2 := Lib.hid HR2.out.ok.len
    have hcl : Calls Try.prog 12 #[.slice (some ⟨h0, 0, none⟩) c.now.length q0] w2.drew fun e w' => ∃ g q, e = .returned (.slice (some ⟨g, 0, none⟩) c.now.length q) ∧ w'.ownsRow 0 3 1 (.slice (some ⟨g, 0, none⟩) c.now.length q) c.now.length (nz .i64 c.now) ∧ w2.heap.size ≤ g ∧ Below w2.heap.size w2 w' := by
      have hq := rclone_any w2.drew w2.drew.heap.size ⟨h0, 0, none⟩ c.now q0 (by omega) (by omega) (row_shows HR2.out.drew.now)
      
      refine hq.mono ?_
      rintro e w' ⟨g, q, he, h1, h2, _, h4⟩
      exact ⟨g, q, he, h1, h2, ((Below.refl _ w2).drew).trans h4⟩
    have HCL := Lib.hid hcl
    clear hcl
    go_region_law (first
      | (go_simp; go_at_call 12; (with_reducible refine HCL.out.mono ?_); rintro e w4 ⟨g, q, rfl, ho, hg, hb4⟩; obtain ⟨e1, e2, e3, e4, e5⟩ := RX.commit HR2.out ho hg hb4; have c4 := (HR2.out.below hb4).c0; have c5 := (HR2.out.below hb4).c2; have c6 := (HR2.out.below hb4).fr 0; have c7 := (HR2.out.below hb4).c1; have c8 := (HR2.out.below hb4).fr 1; have HE := Lib.hid (And.intro e1 (And.intro e2 e3)); clear e1 e2 e3 ho hg hb4)
      | fail)
    all_goals go_wp2
    all_goals go_ret
    all_goals exact ⟨rfl, both_done HA.out HR.out HD.out HA2.out HS2.out foot_id HE.out.1 HE.out.2.1 (fun j hj => (HE.out.2.2 j hj).imp id (fun h => Nat.le_trans (Nat.le_trans HD.out.size HS2.out.size) h))⟩
set_option maxRecDepth 20000 in
set_option maxHeartbeats 2000000 in
theorem do6_any (W : World) (b g0 p0 g1 p1 br h0 q0 h1 q1 : Nat) (c : CS) (hA : AX W b g0 p0 g1 p1 c) (hR : RX W br h0 q0 h1 q1 c) (n : Int) :
    Calls Try.prog 10 #[.pointer (some ⟨b, 0, none⟩), .pointer (some ⟨br, 0, none⟩), .agg #[.int .i64 6, .int .i64 n]] W fun e w' => e = .returned (.bool true) ∧ DoneP W b g0 g1 br h0 h1 (abortS c) w' := by
  have hd : Below W.heap.size W (W.alloc (.cells #[.int .i64 6, .int .i64 n] 35)).drew := ((Below.refl _ W).alloc (Nat.le_refl _) _).drew
  have hA1 := hA.below hd
  have hR1 := hR.below hd
  have hx1 : (W.alloc (.cells #[.int .i64 6, .int .i64 n] 35)).drew.heap[W.heap.size]? = some (.cells #[.int .i64 6, .int .i64 n] 35 (0, 0)) := heap_alloc_new W _
  have HA := Lib.hid hA
  have HR := Lib.hid hR
  have HD := Lib.hid hd
  have HA1 := Lib.hid hA1
  have HR1 := Lib.hid hR1
  have HX1 := Lib.hid hx1
  have n0 := hA.ok.n0
  have n1 := hA.ok.n1
  have a1 := hA.ok.a1
  have r0 : (W.alloc (.cells #[.int .i64 6, .int .i64 n] 35)).cell? ⟨br, 0, none⟩ = some (.slice (some ⟨h0, 0, none⟩) c.now.length q0) := hR1.c0
  clear hd hA1 hR1 hx1 hA hR
  go_enter Try.func10, Try.ntmps10
  go_upto_region 1 with fail
  go_cut [7] from 16 to 28 (fun j wx => j = .bool (inB c n) ∧ wx = (W.alloc (.cells #[.int .i64 6, .int .i64 n] 35)).drew)
  case first =>
    by_cases h0n : (0 : Int) ≤ n
    · by_cases hln : n < (c.now.length : Int)
      · have e1 : inB c n = true := by simp [inB, h0n, hln]
        go_region
        go_wp2
        go_meet
        exact ⟨by rw [e1], rfl⟩
      · have e1 : inB c n = false := by simp [inB, h0n, hln]
        go_region
        go_wp2
        go_meet
        exact ⟨by rw [e1], rfl⟩
    · have e1 : inB c n = false := by simp [inB, h0n]
      go_region
      go_wp2
      go_meet
      exact ⟨by rw [e1], rfl⟩
  case rest =>
    obtain ⟨rfl, rfl⟩ := hcut
    go_wp2_with (first
      | (go_at_call 15; (with_reducible refine (abort_any _ _ _ _ _ _ _ HA1.out).mono ?_); rintro e w2 ⟨rfl, ha2, hs2⟩; obtain ⟨hr2, hx2, x0, x1⟩ := after_a HA1.out HR1.out HX1.out hs2; have HA2 := Lib.hid ha2; have HS2 := Lib.hid hs2; have HR2 := Lib.hid hr2; have z0 := hr2.c0; have z1 := hr2.c1; have z2 := hr2.c2; have z3 := hr2.c3; have y0 := hr2.fr 0; have y1 := hr2.fr 1; have y2 := hr2.fr 2; have y3 := hr2.fr 3; clear ha2 hs2 hr2 hx2)
      | fail)
    have HL2 := Lib.hid HR2.out.ok.len
    have hcl : Calls Try.prog 12 #[.slice (some ⟨h1, 0, none⟩) c.now.length q1] w2.drew fun e w' => ∃ g q, e = .returned (.slice (some ⟨g, 0, none⟩) c.now.length q) ∧ w'.ownsRow 0 3 1 (.slice (some ⟨g, 0, none⟩) c.now.length q) c.now.length (nz .i64 c.was) ∧ w2.heap.size ≤ g ∧ Below w2.heap.size w2 w' := by
      have hq := rclone_any w2.drew w2.drew.heap.size ⟨h1, 0, none⟩ c.was q1 (by rw [HL2.out]; exact n0) (by rw [HL2.out]; omega) (by rw [HR2.out.ok.len]; exact row_shows HR2.out.drew.was)
      rw [HL2.out] at hq
      refine hq.mono ?_
      rintro e w' ⟨g, q, he, h1, h2, _, h4⟩
      exact ⟨g, q, he, h1, h2, ((Below.refl _ w2).drew).trans h4⟩
    have HCL := Lib.hid hcl
    clear hcl
    go_region_law (first
      | (go_simp; go_at_call 12; (with_reducible refine HCL.out.mono ?_); rintro e w4 ⟨g, q, rfl, ho, hg, hb4⟩; obtain ⟨e1, e2, e3, e4, e5⟩ := RX.abort HR2.out ho hg hb4; have c4 := (HR2.out.below hb4).c1; have c5 := (HR2.out.below hb4).c3; have c6 := (HR2.out.below hb4).fr 1; have c7 := (HR2.out.below hb4).c0; have c8 := (HR2.out.below hb4).fr 0; have HE := Lib.hid (And.intro e1 (And.intro e2 e3)); clear e1 e2 e3 ho hg hb4)
      | fail)
    all_goals go_wp2
    all_goals go_ret
    all_goals exact ⟨rfl, both_done HA.out HR.out HD.out HA2.out HS2.out foot_id HE.out.1 HE.out.2.1 (fun j hj => (HE.out.2.2 j hj).imp id (fun h => Nat.le_trans (Nat.le_trans HD.out.size HS2.out.size) h))⟩
set_option maxRecDepth 20000 in
set_option maxHeartbeats 2000000 in
theorem do0_any (W : World) (b g0 p0 g1 p1 br h0 q0 h1 q1 : Nat) (c : CS) (hA : AX W b g0 p0 g1 p1 c) (hR : RX W br h0 q0 h1 q1 c) (kd n : Int) (g1' : kd ≠ 1) (g2 : kd ≠ 2) (g3 : kd ≠ 3) (g4 : kd ≠ 4) (g5 : kd ≠ 5) (g6 : kd ≠ 6) (g7 : kd ≠ 7) :
    Calls Try.prog 10 #[.pointer (some ⟨b, 0, none⟩), .pointer (some ⟨br, 0, none⟩), .agg #[.int .i64 kd, .int .i64 n]] W fun e w' => e = .returned (.bool true) ∧ DoneP W b g0 g1 br h0 h1 c w' := by
  have hd : Below W.heap.size W (W.alloc (.cells #[.int .i64 kd, .int .i64 n] 35)).drew := ((Below.refl _ W).alloc (Nat.le_refl _) _).drew
  have hA1 := hA.below hd
  have hR1 := hR.below hd
  have hx1 : (W.alloc (.cells #[.int .i64 kd, .int .i64 n] 35)).drew.heap[W.heap.size]? = some (.cells #[.int .i64 kd, .int .i64 n] 35 (0, 0)) := heap_alloc_new W _
  have HA := Lib.hid hA
  have HR := Lib.hid hR
  have HD := Lib.hid hd
  have HA1 := Lib.hid hA1
  have HR1 := Lib.hid hR1
  have HX1 := Lib.hid hx1
  have n0 := hA.ok.n0
  have n1 := hA.ok.n1
  have a1 := hA.ok.a1
  have r0 : (W.alloc (.cells #[.int .i64 kd, .int .i64 n] 35)).cell? ⟨br, 0, none⟩ = some (.slice (some ⟨h0, 0, none⟩) c.now.length q0) := hR1.c0
  clear hd hA1 hR1 hx1 hA hR
  have bb1 : (kd == 1) = false := by rw [beq_eq_false_iff_ne]; assumption
  have bb2 : (kd == 2) = false := by rw [beq_eq_false_iff_ne]; assumption
  have bb3 : (kd == 3) = false := by rw [beq_eq_false_iff_ne]; assumption
  have bb4 : (kd == 4) = false := by rw [beq_eq_false_iff_ne]; assumption
  have bb5 : (kd == 5) = false := by rw [beq_eq_false_iff_ne]; assumption
  have bb6 : (kd == 6) = false := by rw [beq_eq_false_iff_ne]; assumption
  have bb7 : (kd == 7) = false := by rw [beq_eq_false_iff_ne]; assumption
  clear g1' g2 g3 g4 g5 g6 g7
  go_enter Try.func10, Try.ntmps10
  go_upto_region 1 with fail
  go_cut [7] from 16 to 28 (fun j wx => j = .bool (inB c n) ∧ wx = (W.alloc (.cells #[.int .i64 kd, .int .i64 n] 35)).drew)
  case first =>
    by_cases h0n : (0 : Int) ≤ n
    · by_cases hln : n < (c.now.length : Int)
      · have e1 : inB c n = true := by simp [inB, h0n, hln]
        go_region
        go_wp2
        go_meet
        exact ⟨by rw [e1], rfl⟩
      · have e1 : inB c n = false := by simp [inB, h0n, hln]
        go_region
        go_wp2
        go_meet
        exact ⟨by rw [e1], rfl⟩
    · have e1 : inB c n = false := by simp [inB, h0n]
      go_region
      go_wp2
      go_meet
      exact ⟨by rw [e1], rfl⟩
  case rest =>
    obtain ⟨rfl, rfl⟩ := hcut
    go_wp2
    go_ret
    exact ⟨rfl, both_done HA.out HR.out HD.out HA1.out (Stays.refl _ _) foot_id HR1.out (Stays.refl _ _) foot_id⟩
end Go.Proofs.Ytiodhihddpbadaa
