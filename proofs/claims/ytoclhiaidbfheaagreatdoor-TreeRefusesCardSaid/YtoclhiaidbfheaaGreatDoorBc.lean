/- Which nodes may be: the program's, the document's. -/
import Derived.Test.YtoclhiaidbfheaaGreatDoorBb
import Derived.Deep.QuietTactic
import Derived.BigQuiet
import Derived.BigGuard
set_option linter.unusedVariables false
namespace Go.Proofs.YtoclhiaidbfheaaGreatDoor
open Go.RowKit

/-- numbers of 64 bits as cells -/
def nums64 (l : List Nat) : List Value := l.map fun n : Nat => .int .u64 (n : Int)
theorem nums64_get (l : List Nat) (i : Nat) (h : i < l.length) : (nums64 l)[i]? = some (.int .u64 ((l.getD i 0 : Nat) : Int)) := by
  simp [nums64, List.getD, h]
theorem Shows.num {w : World} {B : Nat} {A : Option Addr} {l : List Nat} (h : Shows w B A l.length (nums64 l)) (i : Nat) (hi : i < l.length) : ∃ p : Addr, A = some p ∧ p.block < B ∧ w.cell? (p.add i) = some (.int .u64 ((l.getD i 0 : Nat) : Int)) := by
  obtain ⟨p, u, e, hb, hu, hc⟩ := h.cell hi
  rw [nums64_get l i hi] at hu
  injection hu with hu
  subst hu
  exact ⟨p, e, hb, hc⟩
set_option maxHeartbeats 1000000 in
theorem rise_any (w : World) (B : Nat) (A : Option Addr) (c : Nat) (l : List Nat) (hs : Shows w B A l.length (nums64 l)) (hl : l.length ≤ 1000000) :
    Calls Tryz.prog 105 #[.slice A l.length c] w fun e w' => e = .returned (.bool (riseB l)) ∧ ∃ k, w' = w.drewN k := by
  go_enter Tryz.func105, Tryz.ntmps105
  go_wp2
  go_loopw [3] (fun j wr => ∃ i : Nat, 1 ≤ i ∧ (i ≤ l.length ∨ i = 1) ∧ j = .int .i64 (i : Int) ∧ riseTo l i = true ∧ ∃ k, wr = w.drewN k) (fun j _ => l.length - (intOf j).toNat)
  case atStart => exact ⟨1, Nat.le_refl _, .inr rfl, rfl, rfl, 0, rfl⟩
  case round =>
    obtain ⟨i, h1, h2, rfl, HR, k, rfl⟩ := hrel
    by_cases hlt : i < l.length
    · obtain ⟨p, rfl, hp, hc0⟩ := hs.num (i - 1) (by omega)
      obtain ⟨p', e', _, hc1⟩ := hs.num i hlt
      injection e' with e'
      subst e'
      have hr1 := riseTo_succ l i (by omega)
      rw [HR, Bool.true_and] at hr1
      generalize l.getD (i - 1) 0 = x at *
      generalize l.getD i 0 = y at *
      have hltI : (i : Int) < (l.length : Int) := by omega
      have hs1 : (i : Int) - 1 = ((i - 1 : Nat) : Int) := by omega
      have h10 : ((i - 1 : Nat) : Int) < (l.length : Int) := by omega
      have HS := Lib.hid hs
      clear hs
      by_cases hxy : x < y
      · have hd : decide ((y : Int) ≤ (x : Int)) = false := by simp; omega
        have HN : Hid (riseTo l (i + 1) = true) := by rw [hr1]; exact decide_eq_true hxy
        clear hr1 HR
        generalize hm : i - 1 = m at *
        go_wp2_with fail
        go_quiet (fail)
        go_wp2
        go_roundw
        case rel => exact ⟨i + 1, by omega, by omega, by go_num, HN.out, k + nq, rfl⟩
        case measure => simp [intOf]; omega
      · have hd : decide ((y : Int) ≤ (x : Int)) = true := by simp; omega
        have HN : riseB l = false := riseTo_no l (i + 1) (by rw [hr1]; exact decide_eq_false hxy) l.length (by omega)
        have HN' := Lib.hid HN
        clear hr1 HR HN
        generalize hm : i - 1 = m at *
        go_wp2_with fail
        go_quiet (fail)
        go_wp2
        go_ret
        exact ⟨by rw [HN'.out]; rfl, k + nq, by rw [World.drewN_drewN]⟩
    · have HN : riseB l = true := by
        rcases h2 with h2 | h2
        · obtain rfl : i = l.length := by omega
          exact HR
        · subst h2
          unfold riseB
          have : l.length = 0 ∨ l.length = 1 := by omega
          rcases this with e | e <;> rw [e] <;> rfl
      have HN' := Lib.hid HN
      clear HN
      have hltI : ¬ (i : Int) < (l.length : Int) := by omega
      clear HR h2
      go_wp2
      go_ret
      exact ⟨by rw [HN'.out]; rfl, _, rfl⟩

theorem mayB_def (kind : Int) (birth : Nat) (keys vals : List Nat) : mayB ⟨kind, birth, keys, vals⟩ = (decide (1 ≤ kind ∧ kind ≤ 3) && (decide (keys.length ≤ 6) && (decide (vals.length = keys.length) && riseB keys))) := rfl
theorem drewN_below {B : Nat} {w w' : World} (h : Below B w w') (k : Nat) : Below B w (w'.drewN k) := ⟨h.os, h.tape, h.output, h.size, h.block⟩

set_option maxHeartbeats 1000000 in
theorem may_in (w : World) (kind : Int) (h3 : kind = 1 ∨ kind = 2 ∨ kind = 3) (birth : Nat) (keys vals : List Nat) (A A' : Option Addr) (ck cv : Nat) (hs : Shows w w.heap.size A keys.length (nums64 keys)) :
    Calls Tryz.prog 47 #[.agg #[.int .i64 kind, .int .u64 (birth : Int), .slice A keys.length ck, .slice A' vals.length cv]] w fun e w' => e = .returned (.bool (decide (keys.length ≤ 6) && (decide (vals.length = keys.length) && riseB keys))) ∧ Below w.heap.size w w' := by
  have hb0 : Below w.heap.size w (w.alloc (.cells #[.int .i64 kind, .int .u64 (birth : Int), .slice A keys.length ck, .slice A' vals.length cv] 45)) := (Below.refl _ _).alloc (Nat.le_refl _) _
  by_cases h6 : keys.length ≤ 6
  · have h6I : decide ((keys.length : Int) ≤ 6) = true := by simp; omega
    rw [decide_eq_true h6, Bool.true_and]
    by_cases hv : vals.length = keys.length
    · have hvI : ((vals.length : Int) == (keys.length : Int)) = true := by simp [hv]
      rw [decide_eq_true hv, Bool.true_and]
      have HR := Lib.hid (rise_any _ w.heap.size A ck keys (hs.below hb0) (by omega))
      have HB := Lib.hid hb0
      clear hs hb0 hv
      generalize riseB keys = r at *
      rcases h3 with rfl | rfl | rfl
      all_goals
        go_enter Tryz.func47, Tryz.ntmps47
        go_wp2_with (go_at_call 105; (with_reducible refine HR.out.mono ?_); rintro e w1 ⟨rfl, k, rfl⟩)
        go_ret
        exact ⟨rfl, drewN_below HB.out k⟩
    · have hvI : ((vals.length : Int) == (keys.length : Int)) = false := by simp; omega
      rw [decide_eq_false hv, Bool.false_and]
      have HB := Lib.hid hb0
      clear hs hb0 hv
      rcases h3 with rfl | rfl | rfl
      all_goals
        go_enter Tryz.func47, Tryz.ntmps47
        go_wp2
        go_ret
        exact ⟨rfl, HB.out⟩
  · have h6I : decide ((keys.length : Int) ≤ 6) = false := by simp; omega
    rw [decide_eq_false h6, Bool.false_and]
    have HB := Lib.hid hb0
    clear hs hb0
    rcases h3 with rfl | rfl | rfl
    all_goals
      go_enter Tryz.func47, Tryz.ntmps47
      go_wp2
      go_ret
      exact ⟨rfl, HB.out⟩

set_option maxHeartbeats 1000000 in
theorem may_any (w : World) (kind : Int) (birth : Nat) (keys vals : List Nat) (A A' : Option Addr) (ck cv : Nat) (hs : Shows w w.heap.size A keys.length (nums64 keys)) :
    Calls Tryz.prog 47 #[.agg #[.int .i64 kind, .int .u64 (birth : Int), .slice A keys.length ck, .slice A' vals.length cv]] w fun e w' => e = .returned (.bool (mayB ⟨kind, birth, keys, vals⟩)) ∧ Below w.heap.size w w' := by
  rw [mayB_def]
  by_cases h : 1 ≤ kind ∧ kind ≤ 3
  · rw [decide_eq_true h, Bool.true_and]
    exact may_in w kind (by omega) birth keys vals A A' ck cv hs
  · rw [decide_eq_false h, Bool.false_and]
    have HB := Lib.hid (show Below w.heap.size w (w.alloc (.cells #[.int .i64 kind, .int .u64 (birth : Int), .slice A keys.length ck, .slice A' vals.length cv] 45)) from (Below.refl _ _).alloc (Nat.le_refl _) _)
    have e1 : (kind == 1) = false := by simp; omega
    have e2 : (kind == 2) = false := by simp; omega
    have e3 : (kind == 3) = false := by simp; omega
    clear hs h
    go_enter Tryz.func47, Tryz.ntmps47
    go_wp2
    go_ret
    exact ⟨rfl, HB.out⟩

end Go.Proofs.YtoclhiaidbfheaaGreatDoor
