/- The program's Find and Copy. -/
import Derived.Test.YtdcfplfeagpcdaaDoorBi
set_option linter.unusedVariables false
namespace Go.Proofs.YtdcfplfeagpcdaaDoor
open Go.RowKit

/-- the place of the first key that is not below, among the first so many gone over -/
def belowTo (l : List Nat) (key : Nat) (i : Nat) : Bool := (List.range i).all fun j => decide (l.getD j 0 < key)
theorem belowTo_succ (l : List Nat) (key i : Nat) : belowTo l key (i + 1) = (belowTo l key i && decide (l.getD i 0 < key)) := by
  simp [belowTo, List.range_succ, List.all_append]
/-- what Find answers -/
def FindAs (l : List Nat) (key : Nat) (e : Ending) : Prop := ∃ i, i ≤ l.length ∧ belowTo l key i = true ∧ (i < l.length → ¬ l.getD i 0 < key) ∧ e = .returned (.tuple #[.int .i64 (i : Int), .bool (decide (i < l.length ∧ l.getD i 0 = key))])

set_option maxHeartbeats 1000000 in
theorem find_any (w : World) (kind : Int) (birth : Nat) (keys vals : List Nat) (A A' : Option Addr) (ck cv : Nat) (hs : Shows w w.heap.size A keys.length (nums64 keys)) (hl : keys.length ≤ 1000000) (key : Nat) :
    Calls Tryd.prog 19 #[.agg #[.int .i64 kind, .int .u64 (birth : Int), .slice A keys.length ck, .slice A' vals.length cv], .int .u64 (key : Int)] w fun e w' => FindAs keys key e ∧ Below w.heap.size w w' := by
  have hb0 : Below w.heap.size w (w.alloc (.cells #[.int .i64 kind, .int .u64 (birth : Int), .slice A keys.length ck, .slice A' vals.length cv] 27)) := (Below.refl _ _).alloc (Nat.le_refl _) _
  have HB := Lib.hid hb0
  have hs2 := hs.below hb0
  clear hb0 hs
  go_enter Tryd.func19, Tryd.ntmps19
  go_wp2
  generalize hw1 : w.alloc (.cells #[.int .i64 kind, .int .u64 (birth : Int), .slice A keys.length ck, .slice A' vals.length cv] 27) = w1 at *
  have hcl : w1.cell? ⟨w.heap.size, 2, none⟩ = some (.slice A keys.length ck) := by subst hw1; go_simp
  clear hw1
  go_loop [11] (fun j => ∃ i : Nat, i ≤ keys.length ∧ j = .int .i64 (i : Int) ∧ belowTo keys key i = true) (fun j => keys.length - (intOf j).toNat)
  case atStart => exact ⟨0, Nat.zero_le _, rfl, rfl⟩
  case round =>
    obtain ⟨i, hi, rfl, HT⟩ := hrel
    have HTH := Lib.hid HT
    have hsu := Lib.hid (belowTo_succ keys key i)
    clear HT
    by_cases hlt : i < keys.length
    · obtain ⟨p, rfl, hp, hc0⟩ := hs2.num i hlt
      have hltI : (i : Int) < (keys.length : Int) := by omega
      clear hs2
      generalize hx : keys.getD i 0 = x at *
      have HX := Lib.hid hx
      clear hx
      by_cases hb : x < key
      · have hd : decide ((key : Int) ≤ (x : Int)) = false := by simp; omega
        have HN : Hid (belowTo keys key (i + 1) = true) := (show belowTo keys key (i + 1) = true by rw [hsu.out, HTH.out]; simpa using hb)
        have hbI : ¬ (key : Int) ≤ (x : Int) := by omega
        clear hb
        go_wp2
        go_round
        case rel => exact ⟨i + 1, hlt, by go_num, HN.out⟩
        case measure => simp [intOf]; omega
      · have hd : decide ((key : Int) ≤ (x : Int)) = true := by simp; omega
        have hbI : (key : Int) ≤ (x : Int) := by omega
        have HE : Hid (((x : Int) == (key : Int)) = decide (i < keys.length ∧ keys.getD i 0 = key)) := (show ((x : Int) == (key : Int)) = decide (i < keys.length ∧ keys.getD i 0 = key) by
          rw [HX.out, Bool.eq_iff_iff]
          simp only [beq_iff_eq, decide_eq_true_eq]
          constructor
          · intro h; exact ⟨hlt, by omega⟩
          · intro h; omega)
        have HNB : Hid (¬ x < key) := hb
        clear hb
        go_wp2
        go_ret2
        exact ⟨⟨i, hi, HTH.out, fun _ => by rw [HX.out]; exact HNB.out, by rw [← HE.out]; rfl⟩, HB.out⟩
    · obtain rfl : i = keys.length := by omega
      have hltI : ¬ (keys.length : Int) < (keys.length : Int) := by omega
      clear hs2
      go_wp2
      go_ret2
      exact ⟨⟨keys.length, hi, HTH.out, fun h => by omega, by simp⟩, HB.out⟩
end Go.Proofs.YtdcfplfeagpcdaaDoor
