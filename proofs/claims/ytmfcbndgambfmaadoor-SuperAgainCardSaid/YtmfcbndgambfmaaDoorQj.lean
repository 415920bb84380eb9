/- The program's disk: Write. -/
import Derived.Test.YtmfcbndgambfmaaDoorQi
import Derived.Deep.RegionHeld
import Derived.Great.FillDense
namespace Go.Proofs.YtmfcbndgambfmaaDoor.Q
open Go.RowKit

section
variable {P : Program} {o : Oper} {a : Act} {w : World} {K : Act → World → Prop} {Q : Exit → Act → World → Prop}
theorem wp_lookup_run (mo x : Operand) (t : TypeId) (hop : o.op = Op.lookup t mo x false) (mv k v : Value) (hm : a.eval mo = mv) (hx : a.eval x = k) (hrun : (Instr.lookup t mv k false).run P w = .ok v w) (h : K (a.put o.dst v) w) : o.wp P a w K Q := by
  unfold Oper.wp
  simp [execOp, hop, hm, hx, hrun, Result.andThen]
  exact h
theorem wp_mapUpdate_run (mo x y : Operand) (t : TypeId) (hop : o.op = Op.mapUpdate t mo x y) (mv k v : Value) (w' : World) (hm : a.eval mo = mv) (hx : a.eval x = k) (hy : a.eval y = v) (hrun : (Instr.mapUpdate t mv k v).run P w = .ok () w') (h : K (a.put o.dst undef) w') : o.wp P a w K Q := by
  unfold Oper.wp
  simp [execOp, hop, hm, hx, hy, hrun, Result.andThen]
  exact h
theorem wp_buildSlice_run (t : TypeId) (n : Nat) (x : Operand) (hop : o.op = Op.buildSlice t n #[(0, x)]) (u v : Value) (w' : World) (hx : a.eval x = u) (hrun : (Instr.buildSlice t n #[(0, u)]).run P w = .ok v w') (h : K (a.put o.dst v) w') : o.wp P a w K Q := by
  unfold Oper.wp
  simp [execOp, hop, hx, hrun, Result.andThen]
  exact h
end

theorem fill_sec (c : SB) : Instr.fill (fun i => some (i * 64, 64)) (sec 0).toArray [(0, .agg (sec c).toArray)] = some (sec c).toArray := by
  have h0 : (sec 0).toArray.size = 64 := by rw [List.size_toArray, sec_len]
  have hc : (Value.agg (sec c).toArray).cells.size = 64 := by show (sec c).toArray.size = 64; rw [List.size_toArray, sec_len]
  have hf : ((Value.agg (sec c).toArray).cells.zipIdx.foldl (fun cs (x : Value × Nat) => cs.setIfInBounds (0 * 64 + x.2) x.1) (sec 0).toArray) = (sec c).toArray := by
    obtain ⟨g1, g2⟩ := Great.foldl_set (0 * 64) (sec c) 0 (sec 0).toArray
    have e0 : ((Value.agg (sec c).toArray).cells.zipIdx.foldl (fun cs (x : Value × Nat) => cs.setIfInBounds (0 * 64 + x.2) x.1) (sec 0).toArray) = (((sec c).zipIdx 0).foldl (fun cs (x : Value × Nat) => cs.setIfInBounds (0 * 64 + x.2) x.1) (sec 0).toArray) := by
      show (((sec c).toArray.zipIdx).foldl _ _) = _
      simp
    rw [e0]
    apply Array.ext_getElem?
    intro k
    rw [g2 k, h0, sec_len]
    by_cases hk : k < 64
    · rw [if_pos ⟨by omega, by omega, hk⟩]
      simp
    · rw [if_neg (by omega)]
      rw [Array.getElem?_eq_none (by rw [h0]; omega), Array.getElem?_eq_none (by rw [List.size_toArray, sec_len]; omega)]
  simp only [Instr.fill]
  rw [if_neg (by rw [hc, h0]; simp), hf]
theorem run_build_sec (w : World) (c : SB) : (Instr.buildSlice 51 1 #[(0, .agg (sec c).toArray)]).run Tryd.prog w = .ok (.slice (some ⟨w.heap.size, 0, none⟩) 1 1) (w.alloc (.cells (sec c).toArray 64)) := by
  obtain ⟨i0, hi, hz0, hz1, hz2⟩ := info_parts sector_info
  have hz : ((Array.range (1 * 64)).map fun i => (sec 0).toArray[i % (sec 0).toArray.size]!) = (sec 0).toArray := by
    have h := zeroc_zero 1
    unfold Builtin.zeroCells at h
    have hs : (sec 0).toArray.size = 64 := by rw [List.size_toArray, sec_len]
    rw [hs] at h ⊢
    apply Array.ext'
    rw [h]
    simp [secs]
  have hf := fill_sec c
  have hzv : ∀ w : World, (zeroValue 64).run Tryd.prog w = .ok (.agg (sec 0).toArray) w := fun w => by
    rw [zero_sector, zero_sec]
    rfl
  have hszv : ∀ w : World, (sizeOf 64).run Tryd.prog w = .ok 64 w := fun w => by simp [sizeOf, typeInfo, hi, hz1]
  have hzc : (Value.agg (sec 0).toArray).cells = (sec 0).toArray := rfl
  unfold Instr.buildSlice
  rw [Sem.run_bind, run_underlying Tryd.underlying51]
  simp only [Result.andThen_ok]
  rw [Sem.run_bind, hszv]
  simp only [Result.andThen_ok]
  rw [if_neg (by omega), if_neg (by omega), Sem.run_bind, hzv]
  simp only [Result.andThen_ok, Sem.run_bind, Sem.run_pure, hzc, hz, hf]
  rfl

set_option maxRecDepth 10000 in
set_option maxHeartbeats 2000000 in
theorem pwrite_no (w : World) (p : Value) (i er : Int) (c : SB) (he0 : (er == 0) = false) (hp : ∀ W, Below w.heap.size w W → Calls Tryd.prog 37 #[p, .int .i64 i] W fun e w' => e = .returned (.int .i64 er) ∧ W = w') :
    Calls Tryd.prog 30 #[p, .int .i64 i, .agg (sec c).toArray] w fun e w' => e = .returned (.int .i64 er) ∧ Below w.heap.size w w' := by
  have hb1 := (Below.refl w.heap.size w).alloc (Nat.le_refl _) (.cells (sec c).toArray 64)
  have HP := Lib.hid (hp _ hb1)
  have HB1 := Lib.hid hb1
  clear hb1 hp
  go_enter Tryd.func30, Tryd.ntmps30
  go_wp2_with (go_at_call 37; refine HP.out.mono ?_; rintro e w' ⟨rfl, rfl⟩)
  go_ret
  exact ⟨rfl, HB1.out⟩
set_option maxRecDepth 10000 in
set_option maxHeartbeats 2000000 in
theorem pwrite_dead (w : World) (b m : Nat) (L : Value) (D : DataW Value) (X : Nat → Value) (d : RD) (h : PDisk w b L m D X d) (i : Nat) (hi : i < d.s.length) (c : SB) (hm : movesB d = false) :
    Calls Tryd.prog 30 #[.pointer (some ⟨b, 0, none⟩), .int .i64 (i : Int), .agg (sec c).toArray] w fun e w' => e = .returned (.int .i64 10) ∧ PDisk w' b L m D X (movesD d) ∧ Stays w w' (· = b) := by
  have hb1 := (Below.refl w.heap.size w).alloc (Nat.le_refl _) (.cells (sec c).toArray 64)
  have ha := h.below hb1
  have hp := place_any _ b m L D X d ha (i : Int)
  have he : placeE d.s.length (i : Int) = 0 := by unfold placeE; rw [if_pos (by omega)]
  rw [he] at hp
  have hs := step_any _ b m L D X d ha
  have hse : stepE d = 10 := by unfold stepE; rw [if_neg (by rw [hm]; simp)]
  rw [hse] at hs
  have HP := Lib.hid hp
  have HS := Lib.hid hs
  have HB1 := Lib.hid hb1
  clear hb1 hp hs h ha he hse hm
  go_enter Tryd.func30, Tryd.ntmps30
  go_wp2_with (first
    | (go_at_call 37; refine HP.out.mono ?_; rintro e w' ⟨rfl, rfl⟩)
    | (go_at_call 31; refine HS.out.mono ?_; rintro e w' ⟨rfl, h3, _, h5⟩))
  go_ret
  exact ⟨rfl, h3, (Stays.of_below HB1.out (· = b)).trans h5 (fun _ hk => .inl hk)⟩

set_option maxRecDepth 10000 in
set_option maxHeartbeats 4000000 in
theorem pwrite_any (w : World) (b m : Nat) (L : Value) (D : DataW Value) (X : Nat → Value) (d : RD) (h : PDisk w b L m D X d) (i : Nat) (hi : i < d.s.length) (c : SB) (hm : movesB d = true) (hl : d.s[i].length < 1000000) :
    Calls Tryd.prog 30 #[.pointer (some ⟨b, 0, none⟩), .int .i64 (i : Int), .agg (sec c).toArray] w fun e w' => e = .returned (.int .i64 0) ∧ ∃ v D', PDisk w' b L m D' (putX X i v) (writeD (movesD d) i c) ∧ (v.ownBlock = (X i).ownBlock ∨ ∃ g, v.ownBlock = some g ∧ w.heap.size ≤ g) ∧ Stays w w' (fun k => k = b ∨ k = m ∨ (X i).ownBlock = some k) := by
  have hb1 := (Below.refl w.heap.size w).alloc (Nat.le_refl _) (.cells (sec c).toArray 64)
  have hnew := heap_alloc_new w (.cells (sec c).toArray 64)
  have ha := h.below hb1
  have hp := place_any _ b m L D X d ha (i : Int)
  have he : placeE d.s.length (i : Int) = 0 := by unfold placeE; rw [if_pos (by omega)]
  rw [he] at hp
  have hs := step_any _ b m L D X d ha
  have hse : stepE d = 0 := by unfold stepE; rw [if_pos hm]
  rw [hse] at hs
  have HP := Lib.hid hp
  have HS := Lib.hid hs
  have HB1 := Lib.hid hb1
  have HNEW := Lib.hid hnew
  have hbw := h.lt
  have hmlt := h.map.own.lt
  have hxl : ∀ k, (X i).ownBlock = some k → k < w.heap.size := fun k hk => (h.kind (.inr (.inr (.inr ⟨i, hi, hk⟩)))).lt
  have HXL := Lib.hid hxl
  clear hxl
  have hsz1 : (w.alloc (.cells (sec c).toArray 64)).heap.size = w.heap.size + 1 := by simp
  have HSZ1 := Lib.hid hsz1
  clear hb1 hp hs h ha he hse hm hnew hsz1
  go_enter Tryd.func30, Tryd.ntmps30
  go_wp2_with (first
    | (go_at_call 37; refine HP.out.mono ?_; rintro e w' ⟨rfl, rfl⟩)
    | (go_at_call 31; refine HS.out.mono ?_; rintro e w2 ⟨rfl, h3, h4, h5⟩))
  have hq2 : w2.heap[w.heap.size]? = some (.cells (sec c).toArray 64 (0, 0)) := by
    rw [h4 _ (by omega)]; exact HNEW.out
  have hsz2 : w.heap.size + 1 ≤ w2.heap.size := by have := h5.size; have := HSZ1.out; omega
  have hS2 := (Stays.of_below HB1.out (· = b)).trans h5 (fun _ hk => .inl hk)
  have hd1 : (movesD d).s.length = d.s.length := by rw [movesD_s]
  have hi1 : i < (movesD d).s.length := by rw [hd1]; exact hi
  have hl1 : ((movesD d).s[i]).length < 1000000 := by simp only [movesD_s]; exact hl
  have HS2 := Lib.hid hS2
  clear hS2 HP HS HB1 HNEW HSZ1 h4 h5 hd1
  generalize hd1 : movesD d = d1 at *
  have HD1 := Lib.hid hd1
  clear hd1
  have hbd : Below w2.heap.size w2 w2.drew := (Below.refl _ _).drew
  have hda := h3.below hbd
  have hbB : Below w2.heap.size w2 (w2.drew.alloc (.cells (sec c).toArray 64)) := hbd.alloc (by show w2.heap.size ≤ w2.heap.size; exact Nat.le_refl _) _
  have hdb := h3.below hbB
  have hqb : (w2.drew.alloc (.cells (sec c).toArray 64)).rangeAt w2.drew.heap.size 0 (sec c) := by
    intro j v hv
    rw [cell_of_row _ _ _ _ _ _ (heap_alloc_new w2.drew _), Nat.zero_add, List.getElem?_toArray]
    exact hv
  obtain ⟨v, w4, w5, hrun, hupd, hend, hat, hg4, hg5⟩ := hdb.write i hi1 c hl1 _ hqb 51
  have hrA : w2.rangeAt w.heap.size 0 (sec c) := by
    intro j u hu
    rw [cell_of_row _ _ _ _ _ _ hq2, Nat.zero_add, List.getElem?_toArray]
    exact hu
  have hszB : (w2.drew.alloc (.cells (sec c).toArray 64)).heap.size = w2.heap.size + 1 := by show (w2.heap.push _).size = _; simp
  have hXlt : ∀ k, (X i).ownBlock = some k → foot b m L X d1.s.length k := fun k hk => .inr (.inr (.inr ⟨i, hi1, hk⟩))
  have hXb : (X i).ownBlock ≠ some b := hda.b_row (hda.map.row i hi1)
  have hmb : m ≠ b := hda.b_m
  have hXq : (X i).ownBlock ≠ some w.heap.size := fun e => by have := HXL.out _ e; omega
  have hmq : m ≠ w.heap.size := by omega
  have hq5 : ∀ W : World, W.heap[w.heap.size]? = w2.heap[w.heap.size]? → W.heap[b]? = w2.heap[b]? → W.cell? ⟨b, 1, none⟩ = some (.map (some m)) ∧ W.rangeAt w.heap.size 0 (sec c) := by
    intro W e1 e2
    refine ⟨by rw [World.cell?_of_block (a := ⟨b, 1, none⟩) e2]; exact h3.c1, fun j u hu => ?_⟩
    rw [World.cell?_of_block (a := ⟨w.heap.size, 0 + j, none⟩) e1]
    exact hrA j u hu
  have hsc : w4.heap[w.heap.size]? = w2.heap[w.heap.size]? ∧ w4.heap[b]? = w2.heap[b]? := by
    refine ⟨?_, ?_⟩
    · rw [hg4.block _ (by omega) (fun e => hXq e.symm)]; exact hbB.block _ (by omega)
    · rw [hg4.block _ (by have := h3.lt; omega) (fun e => hXb e.symm)]; exact hbB.block _ h3.lt
  have hsz4 := hg4.size
  have hsd : w5.heap[w.heap.size]? = w2.heap[w.heap.size]? ∧ w5.heap[b]? = w2.heap[b]? := by
    refine ⟨?_, ?_⟩
    · rw [hg5.block _ (by omega) (fun e => hmq (by injection e with e; exact e.symm))]; exact hsc.1
    · rw [hg5.block _ (by have := h3.lt; omega) (fun e => hmb (by injection e with e; exact e.symm))]; exact hsc.2
  have HS0 := Lib.hid (hq5 w2.drew rfl rfl)
  have HSB := Lib.hid (hq5 _ (hbB.block _ (by omega)) (hbB.block _ h3.lt))
  have HSC := Lib.hid (hq5 w4 hsc.1 hsc.2)
  have HSD := Lib.hid (hq5 w5 hsd.1 hsd.2)
  have HLA := Lib.hid (hda.map.look i hi1 hda.n1)
  have HLB := Lib.hid (hdb.map.look i hi1 hdb.n1)
  have HRUN := Lib.hid hrun
  have HUPD := Lib.hid hupd
  have hend2 : ∃ v D', PDisk w5 b L m D' (putX X i v) (writeD d1 i c) ∧ (v.ownBlock = (X i).ownBlock ∨ ∃ g, v.ownBlock = some g ∧ w.heap.size ≤ g) ∧ Stays w w5 (fun k => k = b ∨ k = m ∨ (X i).ownBlock = some k) := by
    refine ⟨v, _, hend, ?_, ?_⟩
    · rcases hat with e | e
      · exact .inl e
      · exact .inr ⟨_, e, by rw [hszB]; omega⟩
    · have h1 : Stays w w2 (fun k => k = b ∨ k = m ∨ (X i).ownBlock = some k) := ⟨HS2.out.os, HS2.out.tape, HS2.out.output, HS2.out.size, fun k hk hF => HS2.out.block k hk (fun e => hF (.inl e))⟩
      exact ((h1.trans (Stays.of_below hbB (fun _ => False)) (fun _ hk => hk.elim)).grown hg4 (fun k hk => .inl (.inr (.inr hk)))).grown hg5 (fun k hk => by injection hk with hk; exact .inl (.inr (.inl hk.symm)))
  have HEND := Lib.hid hend2
  clear hend2 hbd hda hbB hdb hqb hrun hupd hend hat hg4 hg5 hrA hszB hXlt hXb hmb hXq hmq hq5 hsc hsz4 hsd h3 hq2 HS2
  refine wp_region_held (S := fun w' => w'.cell? ⟨b, 1, none⟩ = some (.map (some m)) ∧ w'.rangeAt w.heap.size 0 (sec c)) (by kernel_rfl) ?_
  change wpAnyH _ _ _ _ _ _ _ _ w2.drew
  have hS := HS0.out
  refine wpAnyH_take (i := 0) (oi := ⟨some 20, _, _, _, _, _⟩) (v := .pointer (some ⟨b, 0, none⟩)) rfl (by kernel_rfl) (by kernel_rfl) (by kernel_rfl) (fun _ _ _ h => h) (Or.inl ⟨by rfl, by intro w0 hw0; clear hw0; go_simp⟩) hS ?_
  simp only [Act.put, List.setIfInBounds_toArray, List.set_cons_zero, List.set_cons_succ]
  refine wpAnyH_take (i := 1) (oi := ⟨some 21, _, _, _, _, _⟩) (v := .pointer (some ⟨b, 0, none⟩)) rfl (by kernel_rfl) (by kernel_rfl) (by kernel_rfl) (fun _ _ _ h => h) (Or.inl ⟨by rfl, by intro w0 hw0; clear hw0; go_simp⟩) hS ?_
  simp only [Act.put, List.setIfInBounds_toArray, List.set_cons_zero, List.set_cons_succ]
  refine wpAnyH_take (i := 2) (oi := ⟨some 22, _, _, _, _, _⟩) (v := .pointer (some ⟨b, 1, none⟩)) rfl (by kernel_rfl) (by kernel_rfl) (by kernel_rfl) (fun _ _ _ h => h) (Or.inl ⟨by rfl, by intro w0 hw0; clear hw0; go_simp⟩) hS ?_
  simp only [Act.put, List.setIfInBounds_toArray, List.set_cons_zero, List.set_cons_succ]
  refine wpAnyH_take (i := 3) (oi := ⟨some 23, _, _, _, _, _⟩) (v := .map (some m)) rfl (by kernel_rfl) (by kernel_rfl) (by kernel_rfl) (fun _ _ _ h => h) (Or.inl ⟨by rfl, by intro w0 hw0; obtain ⟨hc0, _⟩ := hw0; go_simp⟩) hS ?_
  simp only [Act.put, List.setIfInBounds_toArray, List.set_cons_zero, List.set_cons_succ]
  refine wpAnyH_take (i := 4) (oi := ⟨some 24, _, _, _, _, _⟩) (v := .int .i64 (i : Int)) rfl (by kernel_rfl) (by kernel_rfl) (by kernel_rfl) (fun _ _ _ h => h) (Or.inl ⟨by rfl, by intro w0 hw0; clear hw0; go_simp⟩) hS ?_
  simp only [Act.put, List.setIfInBounds_toArray, List.set_cons_zero, List.set_cons_succ]
  refine wpAnyH_take (i := 5) (oi := ⟨some 25, _, _, _, _, _⟩) (v := .pointer (some ⟨b, 0, none⟩)) rfl (by kernel_rfl) (by kernel_rfl) (by kernel_rfl) (fun _ _ _ h => h) (Or.inl ⟨by rfl, by intro w0 hw0; clear hw0; go_simp⟩) hS ?_
  simp only [Act.put, List.setIfInBounds_toArray, List.set_cons_zero, List.set_cons_succ]
  refine wpAnyH_take (i := 6) (oi := ⟨some 26, _, _, _, _, _⟩) (v := .pointer (some ⟨b, 0, none⟩)) rfl (by kernel_rfl) (by kernel_rfl) (by kernel_rfl) (fun _ _ _ h => h) (Or.inl ⟨by rfl, by intro w0 hw0; clear hw0; go_simp⟩) hS ?_
  simp only [Act.put, List.setIfInBounds_toArray, List.set_cons_zero, List.set_cons_succ]
  refine wpAnyH_take (i := 7) (oi := ⟨some 27, _, _, _, _, _⟩) (v := .pointer (some ⟨b, 1, none⟩)) rfl (by kernel_rfl) (by kernel_rfl) (by kernel_rfl) (fun _ _ _ h => h) (Or.inl ⟨by rfl, by intro w0 hw0; clear hw0; go_simp⟩) hS ?_
  simp only [Act.put, List.setIfInBounds_toArray, List.set_cons_zero, List.set_cons_succ]
  refine wpAnyH_take (i := 8) (oi := ⟨some 28, _, _, _, _, _⟩) (v := .map (some m)) rfl (by kernel_rfl) (by kernel_rfl) (by kernel_rfl) (fun _ _ _ h => h) (Or.inl ⟨by rfl, by intro w0 hw0; obtain ⟨hc0, _⟩ := hw0; go_simp⟩) hS ?_
  simp only [Act.put, List.setIfInBounds_toArray, List.set_cons_zero, List.set_cons_succ]
  refine wpAnyH_take (i := 9) (oi := ⟨some 29, _, _, _, _, _⟩) (v := .int .i64 (i : Int)) rfl (by kernel_rfl) (by kernel_rfl) (by kernel_rfl) (fun _ _ _ h => h) (Or.inl ⟨by rfl, by intro w0 hw0; clear hw0; go_simp⟩) hS ?_
  simp only [Act.put, List.setIfInBounds_toArray, List.set_cons_zero, List.set_cons_succ]
  refine wpAnyH_take (i := 11) (oi := ⟨some 31, _, _, _, _, _⟩) (v := .agg (sec c).toArray) rfl (by kernel_rfl) (by kernel_rfl) (by kernel_rfl) (fun _ _ _ h => h) (yieldsIf_load_mid (by rfl) 64 (.tmp 5) (by rfl) w.heap.size 0 (by rfl) (sec c) _ (fun _ h => h.2) sector_u rfl (sector_sz c)) hS ?_
  simp only [Act.put, List.setIfInBounds_toArray, List.set_cons_zero, List.set_cons_succ]
  refine wpAnyH_ready (rs := [10, 12]) (by kernel_rfl) (by simp) (AllReadyH.cons (o := ⟨some 30, _, _, _, _, _⟩) rfl (fun K hK => ?_) (AllReadyH.cons (o := ⟨some 32, _, _, _, _, _⟩) rfl (fun K hK => ?_) AllReadyH.nil))
  · rw [if_pos (by rfl)]
    refine wp_lookup_run (.tmp 28) (.tmp 29) 52 rfl _ _ _ rfl rfl HLA.out ?_
    refine hK.out _ _ hS (fun hsx => ?_)
    clear hK hsx K
    simp only [Act.put, List.setIfInBounds_toArray, List.set_cons_zero, List.set_cons_succ]
    refine wpAnyH_ready (rs := [12]) (by kernel_rfl) (by simp) (AllReadyH.cons (o := ⟨some 32, _, _, _, _, _⟩) rfl (fun K hK => ?_) AllReadyH.nil)
    rw [if_pos (by rfl)]
    refine wp_buildSlice_run 51 1 (.tmp 31) rfl _ _ _ rfl (run_build_sec _ c) ?_
    refine hK.out _ _ HSB.out (fun hsx => ?_)
    clear hK hsx K
    simp only [Act.put, List.setIfInBounds_toArray, List.set_cons_zero, List.set_cons_succ]
    refine wpAnyH_ready (rs := [13]) (by kernel_rfl) (by simp) (AllReadyH.cons (o := ⟨some 33, _, _, _, _, _⟩) rfl (fun K hK => ?_) AllReadyH.nil)
    rw [if_pos (by rfl)]
    refine Lib.wp_append_run _ (.tmp 30) (.tmp 32) 51 51 rfl _ _ rfl rfl _ _ HRUN.out ?_
    refine hK.out _ _ HSC.out (fun hsx => ?_)
    clear hK hsx K
    simp only [Act.put, List.setIfInBounds_toArray, List.set_cons_zero, List.set_cons_succ]
    refine wpAnyH_ready (rs := [14]) (by kernel_rfl) (by simp) (AllReadyH.cons (o := ⟨none, _, _, _, _, _⟩) rfl (fun K hK => ?_) AllReadyH.nil)
    rw [if_pos (by rfl)]
    refine wp_mapUpdate_run (.tmp 23) (.tmp 24) (.tmp 33) 52 rfl _ _ _ _ rfl rfl rfl HUPD.out ?_
    refine hK.out _ _ HSD.out (fun hsx => ?_)
    clear hK hsx K
    try simp only [Act.put]
    refine wpAnyH_done (by kernel_rfl) ?_ _
    go_wp2
    go_ret
    exact ⟨rfl, by rw [HD1.out]; exact HEND.out⟩
  · rw [if_pos (by rfl)]
    refine wp_buildSlice_run 51 1 (.tmp 31) rfl _ _ _ rfl (run_build_sec _ c) ?_
    refine hK.out _ _ HSB.out (fun hsx => ?_)
    clear hK hsx K
    simp only [Act.put, List.setIfInBounds_toArray, List.set_cons_zero, List.set_cons_succ]
    refine wpAnyH_ready (rs := [10]) (by kernel_rfl) (by simp) (AllReadyH.cons (o := ⟨some 30, _, _, _, _, _⟩) rfl (fun K hK => ?_) AllReadyH.nil)
    rw [if_pos (by rfl)]
    refine wp_lookup_run (.tmp 28) (.tmp 29) 52 rfl _ _ _ rfl rfl HLB.out ?_
    refine hK.out _ _ HSB.out (fun hsx => ?_)
    clear hK hsx K
    simp only [Act.put, List.setIfInBounds_toArray, List.set_cons_zero, List.set_cons_succ]
    refine wpAnyH_ready (rs := [13]) (by kernel_rfl) (by simp) (AllReadyH.cons (o := ⟨some 33, _, _, _, _, _⟩) rfl (fun K hK => ?_) AllReadyH.nil)
    rw [if_pos (by rfl)]
    refine Lib.wp_append_run _ (.tmp 30) (.tmp 32) 51 51 rfl _ _ rfl rfl _ _ HRUN.out ?_
    refine hK.out _ _ HSC.out (fun hsx => ?_)
    clear hK hsx K
    simp only [Act.put, List.setIfInBounds_toArray, List.set_cons_zero, List.set_cons_succ]
    refine wpAnyH_ready (rs := [14]) (by kernel_rfl) (by simp) (AllReadyH.cons (o := ⟨none, _, _, _, _, _⟩) rfl (fun K hK => ?_) AllReadyH.nil)
    rw [if_pos (by rfl)]
    refine wp_mapUpdate_run (.tmp 23) (.tmp 24) (.tmp 33) 52 rfl _ _ _ _ rfl rfl rfl HUPD.out ?_
    refine hK.out _ _ HSD.out (fun hsx => ?_)
    clear hK hsx K
    try simp only [Act.put]
    refine wpAnyH_done (by kernel_rfl) ?_ _
    go_wp2
    go_ret
    exact ⟨rfl, by rw [HD1.out]; exact HEND.out⟩
end Go.Proofs.YtmfcbndgambfmaaDoor.Q
