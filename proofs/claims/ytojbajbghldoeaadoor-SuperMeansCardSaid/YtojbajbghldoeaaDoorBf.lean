/- Same: the program's, the document's. -/
import Derived.Test.YtojbajbghldoeaaDoorBd
set_option linter.unusedVariables false
namespace Go.Proofs.YtojbajbghldoeaaDoor
open Go.RowKit

/-- the first so many are the same -/
def eqTo (a b : List Nat) : Nat → Bool
  | 0 => true
  | k + 1 => eqTo a b k && (a.getD k 0 == b.getD k 0)
theorem eqTo_iff (a b : List Nat) : ∀ k, eqTo a b k = true ↔ ∀ i, i < k → a.getD i 0 = b.getD i 0
  | 0 => by simp [eqTo]
  | k + 1 => by
    rw [eqTo, Bool.and_eq_true, eqTo_iff a b k, beq_iff_eq]
    constructor
    · intro ⟨h1, h2⟩ i hi
      rcases Nat.lt_or_ge i k with h | h
      · exact h1 i h
      · obtain rfl : i = k := by omega
        exact h2
    · intro h
      exact ⟨fun i hi => h i (by omega), h k (by omega)⟩
theorem eqTo_list {a b : List Nat} (hl : a.length = b.length) : eqTo a b a.length = decide (a = b) := by
  rw [Bool.eq_iff_iff, eqTo_iff, decide_eq_true_iff]
  constructor
  · intro h; exact list_of_getD hl h
  · intro h; subst h; intro i _; rfl
theorem eqTo_no (a b : List Nat) (k : Nat) (h : eqTo a b k = false) : ∀ m, k ≤ m → eqTo a b m = false
  | 0, hm => by
    obtain rfl : k = 0 := by omega
    exact h
  | m + 1, hm => by
    rcases Nat.lt_or_ge k (m + 1) with h1 | h1
    · rw [eqTo, eqTo_no a b k h m (by omega)]; rfl
    · obtain rfl : k = m + 1 := by omega
      exact h

set_option maxHeartbeats 1000000 in
theorem equal_any (w : World) (B : Nat) (A1 A2 : Option Addr) (c1 c2 : Nat) (a b : List Nat) (h1 : Shows w B A1 a.length (nums64 a)) (h2 : Shows w B A2 b.length (nums64 b)) (hl : a.length ≤ 1000000) :
    Calls Tryd.prog 51 #[.slice A1 a.length c1, .slice A2 b.length c2] w fun e w' => e = .returned (.bool (decide (a = b))) ∧ ∃ k, w' = w.drewN k := by
  by_cases hl2 : a.length = b.length
  · have heq := Lib.hid (eqTo_list hl2)
    have hne : ((a.length : Int) != (b.length : Int)) = false := by simp [hl2]
    have hl3 : a.length ≤ b.length := by omega
    have HL := Lib.hid hl2
    clear hl2
    go_enter Tryd.func51, Tryd.ntmps51
    go_wp2
    go_loopw [13] (fun j wr => ∃ i : Nat, i ≤ a.length ∧ j = .int .i64 (i : Int) ∧ eqTo a b i = true ∧ ∃ k, wr = w.drewN k) (fun j _ => a.length - (intOf j).toNat)
    case atStart => exact ⟨0, Nat.zero_le _, rfl, rfl, 0, rfl⟩
    case round =>
      obtain ⟨i, hi, rfl, HR, k, rfl⟩ := hrel
      by_cases hlt : i < a.length
      · obtain ⟨p, rfl, hp, hc0⟩ := h1.num i hlt
        obtain ⟨p2, rfl, hp2, hc1⟩ := h2.num i (by omega)
        have hr1 : eqTo a b (i + 1) = (a.getD i 0 == b.getD i 0) := by rw [eqTo, HR, Bool.true_and]
        generalize a.getD i 0 = x at *
        generalize b.getD i 0 = y at *
        have hltI : (i : Int) < (a.length : Int) := by omega
        have hltJ : (i : Int) < (b.length : Int) := by omega
        clear h1 h2
        by_cases hxy : x = y
        · have hd : ((x : Int) != (y : Int)) = false := by simp [hxy]
          have HN : Hid (eqTo a b (i + 1) = true) := (show eqTo a b (i + 1) = true by rw [hr1]; simpa using hxy)
          clear hr1 HR hxy
          go_wp2_with fail
          go_quiet (fail)
          go_wp2
          go_roundw
          case rel => exact ⟨i + 1, by omega, by go_num, HN.out, k + nq, rfl⟩
          case measure => simp [intOf]; omega
        · have hd : ((x : Int) != (y : Int)) = true := by simp; omega
          have HN : Hid (decide (a = b) = false) := by
            rw [← heq.out]
            exact eqTo_no a b (i + 1) (by rw [hr1]; simpa using hxy) _ hlt
          clear hr1 HR hxy
          go_wp2_with fail
          go_quiet (fail)
          go_wp2
          go_ret
          exact ⟨by rw [HN.out]; rfl, k + nq, by first | rfl | simp⟩
      · obtain rfl : i = a.length := by omega
        have hltI : ¬ (a.length : Int) < (a.length : Int) := by omega
        rw [heq.out] at HR
        have HR' := Lib.hid HR
        clear HR h1 h2
        go_wp2
        go_ret
        exact ⟨by rw [HR'.out]; rfl, k, rfl⟩
  · have hne : ((a.length : Int) != (b.length : Int)) = true := by simp; omega
    have HN : Hid (decide (a = b) = false) := decide_eq_false (fun h => hl2 (by rw [h]))
    clear h1 h2 hl2
    go_enter Tryd.func51, Tryd.ntmps51
    go_wp2
    go_ret
    exact ⟨by rw [HN.out]; rfl, 0, rfl⟩

def sameND (a b : ND) : Bool := decide (a.kind = b.kind) && (decide (a.birth = b.birth) && (decide (a.keys = b.keys) && decide (a.vals = b.vals)))
theorem sameND_iff (a b : ND) : sameND a b = true ↔ a = b := by
  obtain ⟨k1, b1, x1, y1⟩ := a
  obtain ⟨k2, b2, x2, y2⟩ := b
  simp [sameND]
theorem sameND_eq (a b : ND) : sameND a b = decide (a = b) := by
  rw [Bool.eq_iff_iff, sameND_iff, decide_eq_true_iff]

set_option maxHeartbeats 1000000 in
theorem same_any (w : World) (k1 k2 : Int) (b1 b2 : Nat) (x1 y1 x2 y2 : List Nat) (X1 Y1 X2 Y2 : Option Addr) (cx1 cy1 cx2 cy2 : Nat) (hx1 : Shows w w.heap.size X1 x1.length (nums64 x1)) (hy1 : Shows w w.heap.size Y1 y1.length (nums64 y1)) (hx2 : Shows w w.heap.size X2 x2.length (nums64 x2)) (hy2 : Shows w w.heap.size Y2 y2.length (nums64 y2)) (hl : x1.length ≤ 1000000) (hl2 : y1.length ≤ 1000000) :
    Calls Tryd.prog 18 #[.agg #[.int .i64 k1, .int .u64 (b1 : Int), .slice X1 x1.length cx1, .slice Y1 y1.length cy1], .agg #[.int .i64 k2, .int .u64 (b2 : Int), .slice X2 x2.length cx2, .slice Y2 y2.length cy2]] w fun e w' => e = .returned (.bool (sameND ⟨k1, b1, x1, y1⟩ ⟨k2, b2, x2, y2⟩)) ∧ Below w.heap.size w w' := by
  have hb0 : Below w.heap.size w ((w.alloc (.cells #[.int .i64 k1, .int .u64 (b1 : Int), .slice X1 x1.length cx1, .slice Y1 y1.length cy1] 27)).alloc (.cells #[.int .i64 k2, .int .u64 (b2 : Int), .slice X2 x2.length cx2, .slice Y2 y2.length cy2] 27)) := ((Below.refl _ _).alloc (Nat.le_refl _) _).alloc (by simp) _
  have HE1 := Lib.hid (fun (k : Nat) => equal_any (((w.alloc (.cells #[.int .i64 k1, .int .u64 (b1 : Int), .slice X1 x1.length cx1, .slice Y1 y1.length cy1] 27)).alloc (.cells #[.int .i64 k2, .int .u64 (b2 : Int), .slice X2 x2.length cx2, .slice Y2 y2.length cy2] 27)).drewN k) w.heap.size X1 X2 cx1 cx2 x1 x2 ((hx1.below hb0).drewN k) ((hx2.below hb0).drewN k) hl)
  have HE2 := Lib.hid (fun (k : Nat) => equal_any (((w.alloc (.cells #[.int .i64 k1, .int .u64 (b1 : Int), .slice X1 x1.length cx1, .slice Y1 y1.length cy1] 27)).alloc (.cells #[.int .i64 k2, .int .u64 (b2 : Int), .slice X2 x2.length cx2, .slice Y2 y2.length cy2] 27)).drewN k) w.heap.size Y1 Y2 cy1 cy2 y1 y2 ((hy1.below hb0).drewN k) ((hy2.below hb0).drewN k) hl2)
  have HE0 := Lib.hid (equal_any ((w.alloc (.cells #[.int .i64 k1, .int .u64 (b1 : Int), .slice X1 x1.length cx1, .slice Y1 y1.length cy1] 27)).alloc (.cells #[.int .i64 k2, .int .u64 (b2 : Int), .slice X2 x2.length cx2, .slice Y2 y2.length cy2] 27)) w.heap.size X1 X2 cx1 cx2 x1 x2 (hx1.below hb0) (hx2.below hb0) hl)
  have HB := Lib.hid hb0
  have hs : sameND ⟨k1, b1, x1, y1⟩ ⟨k2, b2, x2, y2⟩ = (decide (k1 = k2) && (decide (b1 = b2) && (decide (x1 = x2) && decide (y1 = y2)))) := rfl
  rw [hs]
  clear hs hb0 hx1 hy1 hx2 hy2
  by_cases hk : k1 = k2
  · have hkI : (k1 == k2) = true := by simp [hk]
    rw [decide_eq_true hk, Bool.true_and]
    clear hk
    by_cases hb : b1 = b2
    · have hbI : ((b1 : Int) == (b2 : Int)) = true := by simp [hb]
      rw [decide_eq_true hb, Bool.true_and]
      clear hb
      generalize decide (x1 = x2) = r1 at *
      generalize decide (y1 = y2) = r2 at *
      cases r1 with
      | true =>
        go_enter Tryd.func18, Tryd.ntmps18
        go_wp2_with (go_at_call 51; first | ((with_reducible refine HE0.out.mono ?_); rintro e w1 ⟨rfl, k, rfl⟩) | ((with_reducible refine (HE2.out _).mono ?_); rintro e w2 ⟨rfl, k', rfl⟩))
        go_ret
        exact ⟨rfl, by first | exact drewN_below HB.out _ | exact drewN_below (drewN_below HB.out _) _⟩
      | false =>
        go_enter Tryd.func18, Tryd.ntmps18
        go_wp2_with (go_at_call 51; (with_reducible refine HE0.out.mono ?_); rintro e w1 ⟨rfl, k, rfl⟩)
        go_ret
        exact ⟨rfl, drewN_below HB.out k⟩
    · have hbI : ((b1 : Int) == (b2 : Int)) = false := by simpa using (show ¬ (b1 : Int) = (b2 : Int) by omega)
      rw [decide_eq_false hb, Bool.false_and]
      clear hb
      go_enter Tryd.func18, Tryd.ntmps18
      go_wp2
      go_ret
      exact ⟨rfl, HB.out⟩
  · have hkI : (k1 == k2) = false := by simpa using hk
    rw [decide_eq_false hk, Bool.false_and]
    clear hk
    go_enter Tryd.func18, Tryd.ntmps18
    go_wp2
    go_ret
    exact ⟨rfl, HB.out⟩

set_option maxHeartbeats 2000000 in
theorem rsame_in (w : World) (k1 k2 : Int) (b1 b2 : Nat) (x1 y1 x2 y2 : List Nat) (X1 Y1 X2 Y2 : Option Addr) (cx1 cy1 cx2 cy2 : Nat) (hx1 : Shows w w.heap.size X1 x1.length (nums64 x1)) (hy1 : Shows w w.heap.size Y1 y1.length (nums64 y1)) (hx2 : Shows w w.heap.size X2 x2.length (nums64 x2)) (hy2 : Shows w w.heap.size Y2 y2.length (nums64 y2)) (hl : x1.length ≤ 1000000) (hl2 : y1.length ≤ 1000000) (hkk : k1 = k2) (hbb : b1 = b2) (hlx : x1.length = x2.length) (hly : y1.length = y2.length) :
    Calls Tryd.prog 16 #[.agg #[.int .i64 k1, .int .u64 (b1 : Int), .slice X1 x1.length cx1, .slice Y1 y1.length cy1], .agg #[.int .i64 k2, .int .u64 (b2 : Int), .slice X2 x2.length cx2, .slice Y2 y2.length cy2]] w fun e w' => e = .returned (.bool (decide (x1 = x2) && decide (y1 = y2))) ∧ Below w.heap.size w w' := by
  have hb0 : Below w.heap.size w ((w.alloc (.cells #[.int .i64 k1, .int .u64 (b1 : Int), .slice X1 x1.length cx1, .slice Y1 y1.length cy1] 27)).alloc (.cells #[.int .i64 k2, .int .u64 (b2 : Int), .slice X2 x2.length cx2, .slice Y2 y2.length cy2] 27)) := ((Below.refl _ _).alloc (Nat.le_refl _) _).alloc (by simp) _
  have HB := Lib.hid hb0
  have hX1 := hx1.below hb0
  have hX2 := hx2.below hb0
  have HY1 := Lib.hid (hy1.below hb0)
  have HY2 := Lib.hid (hy2.below hb0)
  have hkI : (k1 != k2) = false := by simp [hkk]
  have hbI : ((b1 : Int) != (b2 : Int)) = false := by simp [hbb]
  have hxI : ((x1.length : Int) != (x2.length : Int)) = false := by simp [hlx]
  have hyI : ((y1.length : Int) != (y2.length : Int)) = false := by simp [hly]
  have heqx := Lib.hid (eqTo_list hlx)
  have heqy := Lib.hid (eqTo_list hly)
  have hlx2 : x1.length ≤ x2.length := by omega
  have hly2 : y1.length ≤ y2.length := by omega
  clear hkk hbb hlx hly hb0 hx1 hy1 hx2 hy2
  go_enter Tryd.func16, Tryd.ntmps16
  go_wp2
  generalize hw1 : ((w.alloc (.cells #[.int .i64 k1, .int .u64 (b1 : Int), .slice X1 x1.length cx1, .slice Y1 y1.length cy1] 27)).alloc (.cells #[.int .i64 k2, .int .u64 (b2 : Int), .slice X2 x2.length cx2, .slice Y2 y2.length cy2] 27)) = w1 at *
  have e2 : w1.cell? ⟨w.heap.size, 2, none⟩ = some (.slice X1 x1.length cx1) := by subst hw1; go_simp
  have e3 : w1.cell? ⟨w.heap.size, 3, none⟩ = some (.slice Y1 y1.length cy1) := by subst hw1; go_simp
  have f2 : w1.cell? ⟨w.heap.size + 1, 2, none⟩ = some (.slice X2 x2.length cx2) := by subst hw1; go_simp
  have f3 : w1.cell? ⟨w.heap.size + 1, 3, none⟩ = some (.slice Y2 y2.length cy2) := by subst hw1; go_simp
  clear hw1
  go_loopw [5] (fun j wr => ∃ i : Nat, i ≤ x1.length ∧ j = .int .i64 (i : Int) ∧ eqTo x1 x2 i = true ∧ ∃ k, wr = w1.drewN k) (fun j _ => x1.length - (intOf j).toNat)
  case atStart => exact ⟨0, Nat.zero_le _, rfl, rfl, 0, rfl⟩
  case round =>
    obtain ⟨i, hi, rfl, HR, k, rfl⟩ := hrel
    by_cases hlt : i < x1.length
    · obtain ⟨p, rfl, hp, hc0⟩ := hX1.num i hlt
      obtain ⟨p2, rfl, hp2, hc1⟩ := hX2.num i (by omega)
      have hr1 : eqTo x1 x2 (i + 1) = (x1.getD i 0 == x2.getD i 0) := by rw [eqTo, HR, Bool.true_and]
      generalize x1.getD i 0 = x at *
      generalize x2.getD i 0 = y at *
      have hltI : (i : Int) < (x1.length : Int) := by omega
      have hltJ : (i : Int) < (x2.length : Int) := by omega
      clear hX1 hX2
      by_cases hxy : x = y
      · have hd : ((x : Int) != (y : Int)) = false := by simp [hxy]
        have HN : Hid (eqTo x1 x2 (i + 1) = true) := (show eqTo x1 x2 (i + 1) = true by rw [hr1]; simpa using hxy)
        clear hr1 HR hxy
        go_wp2_with fail
        go_quiet (fail)
        go_wp2
        go_roundw
        case rel => exact ⟨i + 1, by omega, by go_num, HN.out, k + nq, by first | rfl | simp⟩
        case measure => simp [intOf]; omega
      · have hd : ((x : Int) != (y : Int)) = true := by simp; omega
        have HN : Hid (decide (x1 = x2) = false) := (show decide (x1 = x2) = false by
          rw [← heqx.out]
          exact eqTo_no x1 x2 (i + 1) (by rw [hr1]; simpa using hxy) _ hlt)
        clear hr1 HR hxy
        go_wp2_with fail
        go_quiet (fail)
        go_wp2
        go_ret
        exact ⟨by rw [HN.out]; rfl, by first | exact drewN_below HB.out _ | exact drewN_below (drewN_below HB.out _) _⟩
    · obtain rfl : i = x1.length := by omega
      have hltI : ¬ (x1.length : Int) < (x1.length : Int) := by omega
      rw [heqx.out] at HR
      have HRX := Lib.hid HR
      clear HR hX1 hX2
      go_wp2
      go_loopw [6] (fun j wr => ∃ i : Nat, i ≤ y1.length ∧ j = .int .i64 (i : Int) ∧ eqTo y1 y2 i = true ∧ ∃ k, wr = w1.drewN k) (fun j _ => y1.length - (intOf j).toNat)
      case atStart => exact ⟨0, Nat.zero_le _, rfl, rfl, k, rfl⟩
      case round =>
        obtain ⟨i, hi, rfl, HR, k, rfl⟩ := hrel
        by_cases hlt : i < y1.length
        · obtain ⟨p, rfl, hp, hc0⟩ := HY1.out.num i hlt
          obtain ⟨p2, rfl, hp2, hc1⟩ := HY2.out.num i (by omega)
          have hr1 : eqTo y1 y2 (i + 1) = (y1.getD i 0 == y2.getD i 0) := by rw [eqTo, HR, Bool.true_and]
          generalize y1.getD i 0 = x at *
          generalize y2.getD i 0 = y at *
          have hltI : (i : Int) < (y1.length : Int) := by omega
          have hltJ : (i : Int) < (y2.length : Int) := by omega
          by_cases hxy : x = y
          · have hd : ((x : Int) != (y : Int)) = false := by simp [hxy]
            have HN : Hid (eqTo y1 y2 (i + 1) = true) := (show eqTo y1 y2 (i + 1) = true by rw [hr1]; simpa using hxy)
            clear hr1 HR hxy
            go_wp2_with fail
            go_quiet (fail)
            go_wp2
            go_roundw
            case rel => exact ⟨i + 1, by omega, by go_num, HN.out, k + nq, by first | rfl | simp⟩
            case measure => simp [intOf]; omega
          · have hd : ((x : Int) != (y : Int)) = true := by simp; omega
            have HN : Hid (decide (y1 = y2) = false) := (show decide (y1 = y2) = false by
              rw [← heqy.out]
              exact eqTo_no y1 y2 (i + 1) (by rw [hr1]; simpa using hxy) _ hlt)
            clear hr1 HR hxy
            go_wp2_with fail
            go_quiet (fail)
            go_wp2
            go_ret
            exact ⟨by rw [HRX.out, HN.out]; rfl, by first | exact drewN_below HB.out _ | exact drewN_below (drewN_below HB.out _) _⟩
        · obtain rfl : i = y1.length := by omega
          have hltI : ¬ (y1.length : Int) < (y1.length : Int) := by omega
          rw [heqy.out] at HR
          have HR' := Lib.hid HR
          clear HR
          go_wp2
          go_ret
          exact ⟨by rw [HRX.out, HR'.out]; rfl, by first | exact drewN_below HB.out _ | exact HB.out⟩

set_option maxHeartbeats 1000000 in
theorem rsame_any (w : World) (k1 k2 : Int) (b1 b2 : Nat) (x1 y1 x2 y2 : List Nat) (X1 Y1 X2 Y2 : Option Addr) (cx1 cy1 cx2 cy2 : Nat) (hx1 : Shows w w.heap.size X1 x1.length (nums64 x1)) (hy1 : Shows w w.heap.size Y1 y1.length (nums64 y1)) (hx2 : Shows w w.heap.size X2 x2.length (nums64 x2)) (hy2 : Shows w w.heap.size Y2 y2.length (nums64 y2)) (hl : x1.length ≤ 1000000) (hl2 : y1.length ≤ 1000000) :
    Calls Tryd.prog 16 #[.agg #[.int .i64 k1, .int .u64 (b1 : Int), .slice X1 x1.length cx1, .slice Y1 y1.length cy1], .agg #[.int .i64 k2, .int .u64 (b2 : Int), .slice X2 x2.length cx2, .slice Y2 y2.length cy2]] w fun e w' => e = .returned (.bool (sameND ⟨k1, b1, x1, y1⟩ ⟨k2, b2, x2, y2⟩)) ∧ Below w.heap.size w w' := by
  have hs : sameND ⟨k1, b1, x1, y1⟩ ⟨k2, b2, x2, y2⟩ = (decide (k1 = k2) && (decide (b1 = b2) && (decide (x1 = x2) && decide (y1 = y2)))) := rfl
  rw [hs]
  clear hs
  have HB := Lib.hid (show Below w.heap.size w ((w.alloc (.cells #[.int .i64 k1, .int .u64 (b1 : Int), .slice X1 x1.length cx1, .slice Y1 y1.length cy1] 27)).alloc (.cells #[.int .i64 k2, .int .u64 (b2 : Int), .slice X2 x2.length cx2, .slice Y2 y2.length cy2] 27)) from ((Below.refl _ _).alloc (Nat.le_refl _) _).alloc (by simp) _)
  by_cases hk : k1 = k2
  · by_cases hb : b1 = b2
    · by_cases hlx : x1.length = x2.length
      · by_cases hly : y1.length = y2.length
        · rw [decide_eq_true hk, decide_eq_true hb, Bool.true_and, Bool.true_and]
          exact rsame_in w k1 k2 b1 b2 x1 y1 x2 y2 X1 Y1 X2 Y2 cx1 cy1 cx2 cy2 hx1 hy1 hx2 hy2 hl hl2 hk hb hlx hly
        · have hr : decide (y1 = y2) = false := decide_eq_false (fun h => hly (by rw [h]))
          rw [hr, Bool.and_false, Bool.and_false, Bool.and_false]
          have e1 : (k1 != k2) = false := by simp [hk]
          have e2 : ((b1 : Int) != (b2 : Int)) = false := by simp [hb]
          have e3 : ((x1.length : Int) != (x2.length : Int)) = false := by simp [hlx]
          have e4 : ((y1.length : Int) != (y2.length : Int)) = true := by simp; omega
          clear hk hb hlx hly hr hx1 hx2 hy1 hy2
          go_enter Tryd.func16, Tryd.ntmps16
          go_wp2
          go_ret
          exact ⟨rfl, HB.out⟩
      · have hr : decide (x1 = x2) = false := decide_eq_false (fun h => hlx (by rw [h]))
        rw [hr, Bool.false_and, Bool.and_false, Bool.and_false]
        have e1 : (k1 != k2) = false := by simp [hk]
        have e2 : ((b1 : Int) != (b2 : Int)) = false := by simp [hb]
        have e3 : ((x1.length : Int) != (x2.length : Int)) = true := by simp; omega
        clear hk hb hlx hr hx1 hx2 hy1 hy2
        go_enter Tryd.func16, Tryd.ntmps16
        go_wp2
        go_ret
        exact ⟨rfl, HB.out⟩
    · rw [decide_eq_false hb, Bool.false_and, Bool.and_false]
      have e1 : (k1 != k2) = false := by simp [hk]
      have e2 : ((b1 : Int) != (b2 : Int)) = true := by simp; omega
      clear hk hb hx1 hx2 hy1 hy2
      go_enter Tryd.func16, Tryd.ntmps16
      go_wp2
      go_ret
      exact ⟨rfl, HB.out⟩
  · rw [decide_eq_false hk, Bool.false_and]
    have e1 : (k1 != k2) = true := by simpa using hk
    clear hk hx1 hx2 hy1 hy2
    go_enter Tryd.func16, Tryd.ntmps16
    go_wp2
    go_ret
    exact ⟨rfl, HB.out⟩
end Go.Proofs.YtojbajbghldoeaaDoor
