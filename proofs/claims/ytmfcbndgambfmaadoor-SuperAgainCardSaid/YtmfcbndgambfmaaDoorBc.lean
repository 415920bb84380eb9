/- Which nodes may be: the program's, the document's. -/
import Derived.Test.YtmfcbndgambfmaaDoorBb
import Derived.Deep.QuietTactic
import Derived.BigQuiet
import Derived.BigGuard
set_option linter.unusedVariables false
namespace Go.Proofs.YtmfcbndgambfmaaDoor
open Go.RowKit

/-- numbers of 64 bits as cells -/
def nums64 (l : List Nat) : List Value := l.map fun n : Nat => .int .u64 (n : Int)
theorem nums64_length (l : List Nat) : (nums64 l).length = l.length := by simp [nums64]
theorem nums64_get (l : List Nat) (i : Nat) (h : i < l.length) : (nums64 l)[i]? = some (.int .u64 ((l.getD i 0 : Nat) : Int)) := by
  simp [nums64, List.getD, h]
theorem Shows.num {w : World} {B : Nat} {A : Option Addr} {l : List Nat} (h : Shows w B A l.length (nums64 l)) (i : Nat) (hi : i < l.length) : ∃ p : Addr, A = some p ∧ p.block < B ∧ w.cell? (p.add i) = some (.int .u64 ((l.getD i 0 : Nat) : Int)) := by
  obtain ⟨p, u, e, hb, hu, hc⟩ := h.cell hi
  rw [nums64_get l i hi] at hu
  injection hu with hu
  subst hu
  exact ⟨p, e, hb, hc⟩
theorem below_drewN' {B : Nat} {w : World} (k : Nat) : Below B w (w.drewN k) := ⟨rfl, rfl, rfl, Nat.le_refl _, fun _ _ => rfl⟩
theorem riseTo_one (l : List Nat) : riseTo l 1 = true := rfl

theorem mayB_bad {n : ND} (h : mayB n ≠ true) : mayB n = false := by simpa using h
theorem mayB_def (kind : Int) (birth : Nat) (keys vals : List Nat) : mayB ⟨kind, birth, keys, vals⟩ = (decide (1 ≤ kind ∧ kind ≤ 3) && (decide (keys.length ≤ 6) && (decide (vals.length = keys.length) && riseB keys))) := rfl
theorem drewN_below {B : Nat} {w w' : World} (h : Below B w w') (k : Nat) : Below B w (w'.drewN k) := ⟨h.os, h.tape, h.output, h.size, h.block⟩

end Go.Proofs.YtmfcbndgambfmaaDoor
