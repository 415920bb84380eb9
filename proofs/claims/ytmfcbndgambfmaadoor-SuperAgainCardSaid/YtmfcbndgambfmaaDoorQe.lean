/- The program's disk: Read. -/
import Derived.Test.YtmfcbndgambfmaaDoorQc
namespace Go.Proofs.YtmfcbndgambfmaaDoor.Q
open Go.RowKit

theorem results_cell_tmp {P : Program} {fn : Func} {p q : Tmp} {ty : TypeId} (h : fn.results = #[.cell p ty, .tmp q]) (tmps : Array Value) (w : World) (g : Nat) (t : TypeId) (cs : Array Value) (fr : Nat × Nat) (d : TypeDesc) (u : Value)
    (hp : tmps.getD p undef = .pointer (some ⟨g, 0, none⟩)) (hq : tmps.getD q undef = u) (hg : w.heap[g]? = some (.cells cs t fr))
    (hu : P.underlying ty = some d) (hd : (match d with | .struct _ | .array _ _ => true | _ => false) = true) (hi : (P.info? ty).map (·.size) = some cs.size) :
    (results fn tmps).run P w = .ok (.tuple #[.agg cs, u]) w := by
  have hp' : tmps[p]?.getD undef = .pointer (some ⟨g, 0, none⟩) := by simpa using hp
  have hq' : tmps[q]?.getD undef = u := by simpa using hq
  simp [results, h, hp', hq', asAddr, run_loadVar_row w g t ty cs fr d hg hu hd hi]

set_option maxRecDepth 10000 in
set_option maxHeartbeats 2000000 in
theorem read_any (w : World) (b m : Nat) (L : Value) (D : DataW Value) (X : Nat → Value) (d : RD) (h : PDisk w b L m D X d) (i : Nat) (hi : i < d.s.length) :
    Calls Tryd.prog 24 #[.pointer (some ⟨b, 0, none⟩), .int .i64 (i : Int)] w fun e w' => e = .returned (.tuple #[.agg (sec ((d.s[i]).getLastD 0)).toArray, .int .i64 0]) ∧ Below w.heap.size w w' := by
  have hzv := zero_sector
  have hb1 := (Below.refl w.heap.size w).alloc (Nat.le_refl _) (.cells (cells8 (fullN 0 0)).toArray 64)
  have hnew := heap_alloc_new w (.cells (cells8 (fullN 0 0)).toArray 64)
  have hsz : (w.alloc (.cells (cells8 (fullN 0 0)).toArray 64)).heap.size = w.heap.size + 1 := by simp
  have ha := h.below hb1
  have hp := place_any _ b m L D X d ha i
  have he : placeE d.s.length i = 0 := by unfold placeE; rw [if_pos (by omega)]
  rw [he] at hp
  have HP := Lib.hid hp
  have HL := Lib.hid (last_any _ b m L D X d ha i hi)
  clear hp he ha h
  generalize (d.s[i]).getLastD 0 = c at *
  have HNEW := Lib.hid hnew
  have HB1 := Lib.hid hb1
  have HSZ := Lib.hid hsz
  clear hnew hb1 hsz
  go_enter Tryd.func24, Tryd.ntmps24
  go_wp2_with (first
    | (go_at_call 37; refine HP.out.mono ?_; rintro e w' ⟨rfl, rfl⟩)
    | fail)
  refine HL.out.mono ?_
  rintro e w2 ⟨rfl, hb2⟩
  have hg2 : w2.heap[w.heap.size]? = some (.cells (cells8 (fullN 0 0)).toArray 64 (0, 0)) := (hb2.block _ (by rw [HSZ.out]; omega)).trans HNEW.out
  have HG2 := Lib.hid hg2
  clear hg2
  go_wp2_with (first
    | refine wpList_store_row rfl 64 (.tmp 4) (.tmp 16) rfl w.heap.size (sec c).toArray rfl rfl 64 (cells8 (fullN 0 0)).toArray HG2.out (by rw [sector_sz c]; simp) (by rw [size8, fullN_len 0 0 (by omega), List.size_toArray, sec_len]) (all_oneCell_toArray (sec_one c)) ?_
    | fail)
  exact bodyPost_ret (results_cell_tmp rfl _ _ w.heap.size 64 (sec c).toArray (0, 0) _ (.int .i64 0) rfl rfl (setRow_heap _ _ _ _ _ _ HG2.out) sector_u rfl (by rw [sector_sz c]; simp)) rfl ⟨rfl, below_setRow (HB1.out.trans (hb2.mono (by rw [HSZ.out]; omega))) (Nat.le_refl _) _⟩

set_option maxRecDepth 10000 in
set_option maxHeartbeats 2000000 in
theorem read_no (w : World) (p : Value) (i er : Int) (he0 : (er == 0) = false)
    (hp : ∀ W, Below w.heap.size w W → Calls Tryd.prog 37 #[p, .int .i64 i] W fun e w' => e = .returned (.int .i64 er) ∧ W = w') :
    Calls Tryd.prog 24 #[p, .int .i64 i] w fun e w' => e = .returned (.tuple #[.agg (sec 0).toArray, .int .i64 er]) ∧ Below w.heap.size w w' := by
  have hzv := zero_sector
  have hb1 := (Below.refl w.heap.size w).alloc (Nat.le_refl _) (.cells (cells8 (fullN 0 0)).toArray 64)
  have hnew := heap_alloc_new w (.cells (cells8 (fullN 0 0)).toArray 64)
  have HP := Lib.hid (hp _ hb1)
  have HNEW := Lib.hid hnew
  have HB1 := Lib.hid hb1
  clear hnew hb1 hp
  go_enter Tryd.func24, Tryd.ntmps24
  go_wp2_with (first
    | (go_at_call 37; refine HP.out.mono ?_; rintro e w' ⟨rfl, rfl⟩)
    | refine wpList_store_row rfl 64 (.tmp 4) (.tmp 12) rfl w.heap.size (sec 0).toArray rfl rfl 64 (cells8 (fullN 0 0)).toArray HNEW.out (by rw [sector_sz 0]; simp) (by rw [size8, fullN_len 0 0 (by omega), List.size_toArray, sec_len]) (all_oneCell_toArray (sec_one 0)) ?_
    | fail)
  exact bodyPost_ret (results_cell_tmp rfl _ _ w.heap.size 64 (sec 0).toArray (0, 0) _ (.int .i64 er) rfl rfl (setRow_heap _ _ _ _ _ _ HNEW.out) sector_u rfl (by rw [sector_sz 0]; simp)) rfl ⟨rfl, below_setRow HB1.out (Nat.le_refl _) _⟩
end Go.Proofs.YtmfcbndgambfmaaDoor.Q
