/- The program's read. -/
import Derived.Test.YtmfcbndgambfmaaDoorBg
import Derived.Test.YtmfcbndgambfmaaDoorBh
import Derived.IntWalk
import Derived.Deep.DeepCutAuto
import Derived.Deep.CutRange
set_option linter.unusedVariables false
namespace Go.Proofs.YtmfcbndgambfmaaDoor
open Go.RowKit

theorem Holds8.drew {w : World} {b : Nat} {t : TypeId} {l : List UInt8} (h : Holds8 w b t l) : Holds8 w.drew b t l := h
theorem heap_drew' {w : World} {b : Nat} {x : Option Obj} (h : w.heap[b]? = x) : w.drew.heap[b]? = x := h
theorem heap_alloc' {w : World} {b : Nat} {x : Obj} {o : Obj} (h : w.heap[b]? = some x) : (w.alloc o).heap[b]? = some x := (Below.heap_alloc w o b (Array.getElem?_eq_some_iff.1 h).1).trans h
theorem u64_info : (Tryd.prog.info? 22).map (fun i => (i.zero, i.size, i.bytes)) = some (some (.int .u64 0), 1, 8) := by kernel_rfl
theorem grown_row (w : World) (g : Nat) (cs : Array Value) : w.grownBy (w.setRow g cs) (some g) := ⟨rfl, rfl, rfl, by simp, fun i hi hne => setRow_other w g i cs (fun e => hne (by rw [e]))⟩
/-- what read answers, where there is room for so many keys -/
def ReadAs (w : World) (l : List UInt8) (m : Nat) (e : Ending) (w' : World) : Prop :=
  ∃ A A' ck cv, e = .returned (.tuple #[.agg #[.int .i64 ((l.getD 4 0).toNat : Int), .int .u64 ((at8 l 12 : Nat) : Int), .slice A m ck, .slice A' m cv], .bool true]) ∧ w'.ownsRow w.heap.size 22 1 (.slice A m ck) m (nums64 (keysOf l m)) ∧ w'.ownsRow w.heap.size 22 1 (.slice A' m cv) m (nums64 (valsOf l m)) ∧ Below w.heap.size w w'
theorem own_low {w : World} {base b n : Nat} {e : TypeId} {v : Value} {xs : List Value} (h : w.ownsRow base e 1 v n xs) (hb : b ≤ base) : w.ownsRow b e 1 v n xs := by
  refine ⟨h.1, ?_⟩
  rcases h.2 with h | ⟨g, cap, cur, h1, h2, h3⟩
  · exact .inl h
  · exact .inr ⟨g, cap, cur, h1, Nat.le_trans hb h2, h3⟩
theorem own_on {w w' : World} {base n : Nat} {e : TypeId} {v : Value} {xs : List Value} (h : w.ownsRow base e 1 v n xs) (hb : Below w.heap.size w w') : w'.ownsRow base e 1 v n xs :=
  h.kept (row := none) ⟨hb.os, hb.tape, hb.output, hb.size, fun i hi _ => hb.block i hi⟩ (by cases hv : v.ownBlock <;> simp)
theorem own_form4 {w : World} {base n : Nat} {e : TypeId} {v : Value} {xs : List Value} (h : w.ownsRow base e 1 v n xs) : ∃ A c, v = .slice A n c ∧ n ≤ c ∧ c ≤ maxLen := by
  rcases h.2 with ⟨rfl, rfl⟩ | ⟨g, cap, cur, rfl, _, _, hc, hm, _⟩
  · exact ⟨none, 0, rfl, Nat.le_refl _, Nat.zero_le _⟩
  · exact ⟨_, cap, rfl, hc, hm⟩

end Go.Proofs.YtmfcbndgambfmaaDoor
