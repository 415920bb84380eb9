/- The program's Block. -/
import Derived.Test.YtoclhiaidbfheaaGreatDoorBc
import Derived.Deep.WholeRow
set_option linter.unusedVariables false
namespace Go.Proofs.YtoclhiaidbfheaaGreatDoor
open Go.RowKit

theorem blk_size : (Tryz.prog.info? 151).map (·.size) = some 256 := by kernel_rfl
/-- a block of noughts -/
def noughts : List UInt8 := List.replicate 256 0
theorem blk_zero (w : World) : (zeroValue 151).run Tryz.prog w = .ok (.agg (cells8 noughts).toArray) w := by kernel_rfl
theorem Holds8.row {w : World} {b : Nat} {t : TypeId} {l : List UInt8} (h : Holds8 w b t l) (m : List UInt8) : Holds8 (w.setRow b (cells8 m).toArray) b t m := setRow_heap w b _ _ t _ h

theorem Shows.on {w w' : World} {A : Option Addr} {n : Nat} {xs : List Value} (h : Shows w w.heap.size A n xs) (hb : Below w.heap.size w w') : Shows w' w'.heap.size A n xs := (h.below hb).wide hb.size

theorem noughts_len : noughts.length = 256 := by rw [noughts, List.length_replicate]
theorem results_cell_tmp {P : Program} {fn : Func} {p q : Tmp} {ty : TypeId} (h : fn.results = #[.cell p ty, .tmp q]) (tmps : Array Value) (w : World) (g : Nat) (t : TypeId) (cs : Array Value) (fr : Nat × Nat) (d : TypeDesc) (u : Value)
    (hp : tmps.getD p undef = .pointer (some ⟨g, 0, none⟩)) (hq : tmps.getD q undef = u) (hg : w.heap[g]? = some (.cells cs t fr))
    (hu : P.underlying ty = some d) (hd : (match d with | .struct _ | .array _ _ => true | _ => false) = true) (hi : (P.info? ty).map (·.size) = some cs.size) :
    (results fn tmps).run P w = .ok (.tuple #[.agg cs, u]) w := by
  have hp' : tmps[p]?.getD undef = .pointer (some ⟨g, 0, none⟩) := by simpa using hp
  have hq' : tmps[q]?.getD undef = u := by simpa using hq
  simp [results, h, hp', hq', asAddr, run_loadVar_row w g t ty cs fr d hg hu hd hi]

end Go.Proofs.YtoclhiaidbfheaaGreatDoor
