/- The program's Block. -/
import Derived.Test.YtnddkpemoljhoaaGreatDoorBc
import Derived.Deep.WholeRow
set_option linter.unusedVariables false
namespace Go.Proofs.YtnddkpemoljhoaaGreatDoor
open Go.RowKit

theorem blk_size : (Tryz.prog.info? 153).map (·.size) = some 256 := by kernel_rfl
/-- a block of noughts -/
def noughts : List UInt8 := List.replicate 256 0
theorem blk_zero (w : World) : (zeroValue 153).run Tryz.prog w = .ok (.agg (cells8 noughts).toArray) w := by kernel_rfl
theorem blk_zero' : (Tryz.prog.info? 153).map (·.zero) = some (some (.agg (cells8 noughts).toArray)) := by kernel_rfl
theorem Holds8.row {w : World} {b : Nat} {t : TypeId} {l : List UInt8} (h : Holds8 w b t l) (m : List UInt8) : Holds8 (w.setRow b (cells8 m).toArray) b t m := setRow_heap w b _ _ t _ h

theorem Shows.on {w w' : World} {A : Option Addr} {n : Nat} {xs : List Value} (h : Shows w w.heap.size A n xs) (hb : Below w.heap.size w w') : Shows w' w'.heap.size A n xs := (h.below hb).wide hb.size

theorem noughts_len : noughts.length = 256 := by rw [noughts, List.length_replicate]
theorem results_cell_tmp {P : Program} {fn : Func} {p q : Tmp} {ty : TypeId} (h : fn.results = #[.cell p ty, .tmp q]) (tmps : Array Value) (w : World) (g : Nat) (t : TypeId) (cs : Array Value) (fr : Nat × Nat) (d : TypeDesc) (u : Value)
    (hp : tmps.getD p undef = .pointer (some ⟨g, 0, none⟩)) (hq : tmps.getD q undef = u) (hg : w.heap[g]? = some (.cells cs t fr))
    (hu : P.underlying ty = some d) (hd : (match d with | .struct _ | .array _ _ => true | _ => false) = true) (hi : (P.info? ty).map (·.size) = some cs.size) :
    (results fn tmps).run P w = .ok (.tuple #[.agg cs, u]) w := by
  have hp' : tmps[p]?.getD undef = .pointer (some ⟨g, 0, none⟩) := by simpa using hp
  have hq' : tmps[q]?.getD undef = u := by simpa using hq
  simp [results, h, hp', hq', asAddr, run_loadVar_row w g t ty cs fr d hg hu hd hi]

set_option maxHeartbeats 1000000 in
set_option maxRecDepth 10000 in
theorem block_bad (w : World) (no : Nat) (kind : Int) (birth : Nat) (keys vals : List Nat) (hm : mayB ⟨kind, birth, keys, vals⟩ = false) (A A' : Option Addr) (ck cv : Nat) (hs : Shows w w.heap.size A keys.length (nums64 keys)) :
    Calls Tryz.prog 184 #[.int .u32 no, .agg #[.int .i64 kind, .int .u64 (birth : Int), .slice A keys.length ck, .slice A' vals.length cv]] w fun e w' => e = .returned (.tuple #[.agg (cells8 noughts).toArray, .int .i64 2]) ∧ Below w.heap.size w w' := by
  have hz := blk_zero
  have hcs := cells8_size noughts
  have hl := noughts_len
  have HM := Lib.hid (fun (w' : World) (hb : Below w.heap.size w w') => may_any w' kind birth keys vals A A' ck cv (hs.on hb))
  rw [hm] at HM
  clear hm hs
  generalize hnz : noughts = z at *
  have HL := Lib.hid hl
  have HCS := Lib.hid hcs
  clear hnz hl hcs
  go_enter Tryz.func184, Tryz.ntmps184
  go_wp2_with fail
  have hb0 := ((Below.refl w.heap.size w).alloc (Nat.le_refl _) (.cells #[.int .i64 kind, .int .u64 (birth : Int), .slice A keys.length ck, .slice A' vals.length cv] 62)).alloc (by simp) (.cells (cells8 z).toArray 153)
  have g0 : Holds8 ((w.alloc (.cells #[.int .i64 kind, .int .u64 (birth : Int), .slice A keys.length ck, .slice A' vals.length cv] 62)).alloc (.cells (cells8 z).toArray 153)) (w.heap.size + 1) 153 z := by
    have := Holds8.new (w.alloc (.cells #[.int .i64 kind, .int .u64 (birth : Int), .slice A keys.length ck, .slice A' vals.length cv] 62)) 153 z _ rfl
    simpa using this
  refine (HM.out _ hb0).mono ?_
  rintro e w1 ⟨rfl, hb1⟩
  have HB := Lib.hid (hb0.trans (hb1.mono hb0.size))
  have HG := Lib.hid (g0.below hb1)
  clear hb0 hb1 g0
  go_wp2_with (first
    | refine wpList_store_row rfl 153 (.tmp 4) (.tmp 14) rfl (w.heap.size + 1) (cells8 z).toArray rfl rfl 153 (cells8 z).toArray HG.out (by rw [blk_size, HCS.out, HL.out]) rfl (cells8_all _) ?_
    | fail)
  exact bodyPost_ret (results_cell_tmp rfl _ _ (w.heap.size + 1) 153 (cells8 z).toArray (0, 0) _ (.int .i64 2) rfl rfl (HG.out.row z) Tryz.underlying153 rfl (by rw [blk_size, HCS.out, HL.out])) rfl ⟨rfl, below_setRow HB.out (by simp) _⟩
end Go.Proofs.YtnddkpemoljhoaaGreatDoor
