/- The law's do, any act; both areas, with their blocks; two such pairs. -/
import Derived.Test.YtiodhihddpbadaaKp
import Derived.Test.YtiodhihddpbadaaKq
set_option linter.unusedVariables false
namespace Go.Proofs.Ytiodhihddpbadaa
open Go.RowKit

/-- what an act makes of an area -/
def actD (c : CS) (kd n : Int) : CS :=
  if kd = 1 then (match allocK c with | none => c | some k => allocS c k)
  else if kd = 2 then (if inB c n = true ∧ nowAt c n.toNat ≠ 0 ∧ nowAt c n.toNat ≠ 65535 then incS c n.toNat else c)
  else if kd = 3 then (if inB c n = true ∧ nowAt c n.toNat ≠ 0 then decS c n.toNat else c)
  else if kd = 4 then (if inB c n = true then setS c n.toNat else c)
  else if kd = 5 then commitS c
  else if kd = 6 then abortS c
  else if kd = 7 then (if n < (c.now.length : Int) ∨ 1000 < n then c else growS c (n.toNat - c.now.length))
  else c
theorem inB_iff (c : CS) (n : Int) : inB c n = true ↔ 0 ≤ n ∧ n < (c.now.length : Int) := by simp [inB]
theorem do_any (W : World) (b g0 p0 g1 p1 br h0 q0 h1 q1 : Nat) (c : CS) (hA : AX W b g0 p0 g1 p1 c) (hR : RX W br h0 q0 h1 q1 c) (kd n : Int) :
    Calls Try.prog 10 #[.pointer (some ⟨b, 0, none⟩), .pointer (some ⟨br, 0, none⟩), .agg #[.int .i64 kd, .int .i64 n]] W fun e w' => e = .returned (.bool true) ∧ DoneP W b g0 g1 br h0 h1 (actD c kd n) w' := by
  by_cases k1 : kd = 1
  · subst k1
    rw [actD, if_pos rfl]
    cases hk : allocK c with
    | none => exact do1_full W b g0 p0 g1 p1 br h0 q0 h1 q1 c hA hR n hk
    | some k => exact do1_any W b g0 p0 g1 p1 br h0 q0 h1 q1 c hA hR n k hk
  by_cases k2 : kd = 2
  · subst k2
    rw [actD, if_neg k1, if_pos rfl]
    by_cases hi : 0 ≤ n ∧ n < (c.now.length : Int)
    · obtain ⟨m, rfl⟩ := Int.eq_ofNat_of_zero_le hi.1
      have hm : m < c.now.length := by omega
      rw [Int.toNat_natCast]
      by_cases e0 : nowAt c m = 0
      · rw [if_neg (fun h => h.2.1 e0)]
        exact do2_free W b g0 p0 g1 p1 br h0 q0 h1 q1 c hA hR m hm e0
      · by_cases e65 : nowAt c m = 65535
        · rw [if_neg (fun h => h.2.2 e65)]
          exact do2_full W b g0 p0 g1 p1 br h0 q0 h1 q1 c hA hR m hm e65
        · rw [if_pos ⟨(inB_iff _ _).2 hi, e0, e65⟩]
          exact do2_any W b g0 p0 g1 p1 br h0 q0 h1 q1 c hA hR m hm e0 e65
    · rw [if_neg (fun h => hi ((inB_iff _ _).1 h.1))]
      exact do2_out W b g0 p0 g1 p1 br h0 q0 h1 q1 c hA hR n hi
  by_cases k3 : kd = 3
  · subst k3
    rw [actD, if_neg k1, if_neg k2, if_pos rfl]
    by_cases hi : 0 ≤ n ∧ n < (c.now.length : Int)
    · obtain ⟨m, rfl⟩ := Int.eq_ofNat_of_zero_le hi.1
      have hm : m < c.now.length := by omega
      rw [Int.toNat_natCast]
      by_cases e0 : nowAt c m = 0
      · rw [if_neg (fun h => h.2 e0)]
        exact do3_free W b g0 p0 g1 p1 br h0 q0 h1 q1 c hA hR m hm e0
      · rw [if_pos ⟨(inB_iff _ _).2 hi, e0⟩]
        exact do3_any W b g0 p0 g1 p1 br h0 q0 h1 q1 c hA hR m hm e0
    · rw [if_neg (fun h => hi ((inB_iff _ _).1 h.1))]
      exact do3_out W b g0 p0 g1 p1 br h0 q0 h1 q1 c hA hR n hi
  by_cases k4 : kd = 4
  · subst k4
    rw [actD, if_neg k1, if_neg k2, if_neg k3, if_pos rfl]
    by_cases hi : 0 ≤ n ∧ n < (c.now.length : Int)
    · obtain ⟨m, rfl⟩ := Int.eq_ofNat_of_zero_le hi.1
      have hm : m < c.now.length := by omega
      rw [Int.toNat_natCast, if_pos ((inB_iff _ _).2 hi)]
      exact do4_any W b g0 p0 g1 p1 br h0 q0 h1 q1 c hA hR m hm
    · rw [if_neg (fun h => hi ((inB_iff _ _).1 h))]
      exact do4_out W b g0 p0 g1 p1 br h0 q0 h1 q1 c hA hR n hi
  by_cases k5 : kd = 5
  · subst k5
    rw [actD, if_neg k1, if_neg k2, if_neg k3, if_neg k4, if_pos rfl]
    exact do5_any W b g0 p0 g1 p1 br h0 q0 h1 q1 c hA hR n
  by_cases k6 : kd = 6
  · subst k6
    rw [actD, if_neg k1, if_neg k2, if_neg k3, if_neg k4, if_neg k5, if_pos rfl]
    exact do6_any W b g0 p0 g1 p1 br h0 q0 h1 q1 c hA hR n
  by_cases k7 : kd = 7
  · subst k7
    rw [actD, if_neg k1, if_neg k2, if_neg k3, if_neg k4, if_neg k5, if_neg k6, if_pos rfl]
    by_cases hl : n < (c.now.length : Int)
    · rw [if_pos (.inl hl)]
      exact do7_less W b g0 p0 g1 p1 br h0 q0 h1 q1 c hA hR n hl
    · by_cases hm : 1000 < n
      · rw [if_pos (.inr hm)]
        exact do7_more W b g0 p0 g1 p1 br h0 q0 h1 q1 c hA hR n hm
      · rw [if_neg (fun h => h.elim hl hm)]
        obtain ⟨m, rfl⟩ := Int.eq_ofNat_of_zero_le (show 0 ≤ n by omega)
        rw [Int.toNat_natCast]
        exact do7_any W b g0 p0 g1 p1 br h0 q0 h1 q1 c hA hR m (m - c.now.length) (by omega) (by omega)
  · rw [actD, if_neg k1, if_neg k2, if_neg k3, if_neg k4, if_neg k5, if_neg k6, if_neg k7]
    exact do0_any W b g0 p0 g1 p1 br h0 q0 h1 q1 c hA hR kd n k1 k2 k3 k4 k5 k6 k7

/-- both are c; F are their blocks -/
def PX (w : World) (b br : Nat) (c : CS) (F : Nat → Prop) : Prop := ∃ g0 p0 g1 p1 h0 q0 h1 q1, AX w b g0 p0 g1 p1 c ∧ RX w br h0 q0 h1 q1 c ∧ ∀ j, F j ↔ FP b g0 g1 br h0 h1 j
theorem PX.lt {w : World} {b br : Nat} {c : CS} {F : Nat → Prop} (h : PX w b br c F) {j : Nat} (hj : F j) : j < w.heap.size := by
  obtain ⟨g0, p0, g1, p1, h0, q0, h1, q1, hA, hR, hF⟩ := h
  rcases (hF j).1 hj with h | h
  · exact hA.flt h
  · exact hR.flt h
theorem PX.on {w w' : World} {b br : Nat} {c : CS} {F : Nat → Prop} (h : PX w b br c F) (hk : ∀ j, F j → w'.heap[j]? = w.heap[j]?) : PX w' b br c F := by
  obtain ⟨g0, p0, g1, p1, h0, q0, h1, q1, hA, hR, hF⟩ := h
  exact ⟨g0, p0, g1, p1, h0, q0, h1, q1, hA.on (fun j hj => hk j ((hF j).2 (.inl hj))), hR.on (fun j hj => hk j ((hF j).2 (.inr hj))), hF⟩
theorem PX.below {w w' : World} {b br : Nat} {c : CS} {F : Nat → Prop} (h : PX w b br c F) (hb : Below w.heap.size w w') : PX w' b br c F := h.on fun j hj => hb.block j (h.lt hj)
theorem PX.act {w : World} {b br : Nat} {c : CS} {F : Nat → Prop} (h : PX w b br c F) (kd n : Int) :
    Calls Try.prog 10 #[.pointer (some ⟨b, 0, none⟩), .pointer (some ⟨br, 0, none⟩), .agg #[.int .i64 kd, .int .i64 n]] w fun e w' => e = .returned (.bool true) ∧ ∃ F', PX w' b br (actD c kd n) F' ∧ (∀ j, F' j → F j ∨ w.heap.size ≤ j) ∧ Stays w w' F := by
  obtain ⟨g0, p0, g1, p1, h0, q0, h1, q1, hA, hR, hF⟩ := h
  refine (do_any w b g0 p0 g1 p1 br h0 q0 h1 q1 c hA hR kd n).mono ?_
  rintro e w' ⟨rfl, g0', p0', g1', p1', h0', q0', h1', q1', hA', hR', hf, hs⟩
  exact ⟨rfl, _, ⟨g0', p0', g1', p1', h0', q0', h1', q1', hA', hR', fun j => Iff.rfl⟩, fun j hj => (hf j hj).imp (hF j).2 id, hs.wide fun j hj => (hF j).2 hj⟩
theorem PX.same {w : World} {b br : Nat} {c : CS} {F : Nat → Prop} (h : PX w b br c F) :
    Calls Try.prog 9 #[.pointer (some ⟨b, 0, none⟩), .pointer (some ⟨br, 0, none⟩)] w fun e w' => e = .returned (.bool true) ∧ Below w.heap.size w w' := by
  obtain ⟨g0, p0, g1, p1, h0, q0, h1, q1, hA, hR, hF⟩ := h
  exact same_any w b g0 p0 g1 p1 br h0 q0 h1 q1 c hA hR

/-- one pair of the call's own -/
def BC (w wr : World) (b br : Nat) (c : CS) : Prop := ∃ F, PX wr b br c F ∧ (∀ j, F j → w.heap.size ≤ j) ∧ Below w.heap.size w wr
theorem BC.b {w wr : World} {b br : Nat} {c : CS} (h : BC w wr b br c) : Below w.heap.size w wr := h.elim fun _ h => h.2.2
theorem BC.below {w wr w' : World} {b br : Nat} {c : CS} (h : BC w wr b br c) (hb : Below wr.heap.size wr w') : BC w w' b br c := by
  obtain ⟨F, h1, h2, h3⟩ := h
  exact ⟨F, h1.below hb, h2, h3.trans (hb.mono h3.size)⟩
theorem BC.act {w wr : World} {b br : Nat} {c : CS} (h : BC w wr b br c) (kd n : Int) :
    Calls Try.prog 10 #[.pointer (some ⟨b, 0, none⟩), .pointer (some ⟨br, 0, none⟩), .agg #[.int .i64 kd, .int .i64 n]] wr fun e w' => e = .returned (.bool true) ∧ Hid (BC w w' b br (actD c kd n)) := by
  obtain ⟨F, h1, h2, h3⟩ := h
  refine (h1.act kd n).mono ?_
  rintro e w' ⟨rfl, F', h4, h5, h6⟩
  have hs := h3.size
  exact ⟨rfl, F', h4, fun j hj => (h5 j hj).elim (h2 j) (fun h => Nat.le_trans hs h), h3.trans (h6.below hs h2)⟩
theorem BC.same {w wr : World} {b br : Nat} {c : CS} (h : BC w wr b br c) :
    Calls Try.prog 9 #[.pointer (some ⟨b, 0, none⟩), .pointer (some ⟨br, 0, none⟩)] wr fun e w' => e = .returned (.bool true) ∧ Hid (BC w w' b br c) := by
  have h0 := h
  obtain ⟨F, h1, h2, h3⟩ := h
  refine h1.same.mono ?_
  rintro e w' ⟨rfl, h4⟩
  exact ⟨rfl, h0.below h4⟩
/-- two pairs, apart -/
def B2 (w wr : World) (b br : Nat) (c : CS) (b' br' : Nat) (c' : CS) : Prop := ∃ F G, PX wr b br c F ∧ PX wr b' br' c' G ∧ (∀ j, F j → G j → False) ∧ (∀ j, F j ∨ G j → w.heap.size ≤ j) ∧ Below w.heap.size w wr
theorem B2.b {w wr : World} {b br b' br' : Nat} {c c' : CS} (h : B2 w wr b br c b' br' c') : Below w.heap.size w wr := by
  obtain ⟨F, G, _, _, _, _, h⟩ := h
  exact h
theorem B2.below {w wr w' : World} {b br b' br' : Nat} {c c' : CS} (h : B2 w wr b br c b' br' c') (hb : Below wr.heap.size wr w') : B2 w w' b br c b' br' c' := by
  obtain ⟨F, G, h1, h2, h3, h4, h5⟩ := h
  exact ⟨F, G, h1.below hb, h2.below hb, h3, h4, h5.trans (hb.mono h5.size)⟩
theorem B2.swap {w wr : World} {b br b' br' : Nat} {c c' : CS} (h : B2 w wr b br c b' br' c') : B2 w wr b' br' c' b br c := by
  obtain ⟨F, G, h1, h2, h3, h4, h5⟩ := h
  exact ⟨G, F, h2, h1, fun j a b => h3 j b a, fun j h => h4 j h.symm, h5⟩
theorem B2.act {w wr : World} {b br b' br' : Nat} {c c' : CS} (h : B2 w wr b br c b' br' c') (kd n : Int) :
    Calls Try.prog 10 #[.pointer (some ⟨b, 0, none⟩), .pointer (some ⟨br, 0, none⟩), .agg #[.int .i64 kd, .int .i64 n]] wr fun e w' => e = .returned (.bool true) ∧ Hid (B2 w w' b br (actD c kd n) b' br' c') := by
  obtain ⟨F, G, h1, h2, h3, h4, h5⟩ := h
  refine (h1.act kd n).mono ?_
  rintro e w' ⟨rfl, F', h6, h7, h8⟩
  have hs := h5.size
  exact ⟨rfl, F', G, h6, h2.on (fun j hj => h8.block j (h2.lt hj) (fun e => h3 j e hj)), fun j a b => (h7 j a).elim (fun e => h3 j e b) (fun e => by have := h2.lt b; omega), fun j hj => hj.elim (fun e => (h7 j e).elim (fun e => h4 j (.inl e)) (fun e => Nat.le_trans hs e)) (fun e => h4 j (.inr e)), h5.trans (h8.below hs (fun j hj => h4 j (.inl hj)))⟩
theorem B2.act2 {w wr : World} {b br b' br' : Nat} {c c' : CS} (h : B2 w wr b br c b' br' c') (kd n : Int) :
    Calls Try.prog 10 #[.pointer (some ⟨b', 0, none⟩), .pointer (some ⟨br', 0, none⟩), .agg #[.int .i64 kd, .int .i64 n]] wr fun e w' => e = .returned (.bool true) ∧ Hid (B2 w w' b br c b' br' (actD c' kd n)) :=
  (h.swap.act kd n).mono fun e w' hp => ⟨hp.1, hp.2.out.swap⟩
theorem B2.same {w wr : World} {b br b' br' : Nat} {c c' : CS} (h : B2 w wr b br c b' br' c') :
    Calls Try.prog 9 #[.pointer (some ⟨b, 0, none⟩), .pointer (some ⟨br, 0, none⟩)] wr fun e w' => e = .returned (.bool true) ∧ Hid (B2 w w' b br c b' br' c') := by
  have h0 := h
  obtain ⟨F, G, h1, h2, h3, h4, h5⟩ := h
  refine h1.same.mono ?_
  rintro e w' ⟨rfl, h4⟩
  exact ⟨rfl, h0.below h4⟩
theorem B2.same2 {w wr : World} {b br b' br' : Nat} {c c' : CS} (h : B2 w wr b br c b' br' c') :
    Calls Try.prog 9 #[.pointer (some ⟨b', 0, none⟩), .pointer (some ⟨br', 0, none⟩)] wr fun e w' => e = .returned (.bool true) ∧ Hid (B2 w w' b br c b' br' c') :=
  h.swap.same.mono fun e w' hp => ⟨hp.1, hp.2.out.swap⟩
end Go.Proofs.Ytiodhihddpbadaa
