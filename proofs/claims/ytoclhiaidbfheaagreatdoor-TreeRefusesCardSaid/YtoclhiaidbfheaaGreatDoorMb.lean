/- btree: a tree whose root can't be read: look, get, Get, Delete, over, All, Nodes, Check. -/
import Derived.Test.YtoclhiaidbfheaaGreatDoorMa
import Derived.Test.YtoclhiaidbfheaaGreatDoorHf
set_option linter.unusedVariables false
namespace Go.Proofs.YtoclhiaidbfheaaGreatDoor.T
open Go.RowKit Q S Go.ChangeMaps Go.MapKept

theorem no_sl0 {W : World} {K V : Value} {vs : List Nat} (h : NO W K V [] vs) : ∃ A ck, K = .slice A 0 ck := by
  obtain ⟨A, ck, A', cv, h1, _, _, _⟩ := h.shows
  exact ⟨A, ck, h1⟩
/-- in all worlds from B on look refuses node n -/
def LookF (B : Nat) (w : World) (p : Value) (n : Nat) (er : Int) : Prop := ∀ W, Below B w W → Calls Tryz.prog 95 #[p, .int .u32 (n : Int), .int .i64 0] W fun e w' => e = .returned (.tuple #[.agg #[.int .i64 0, .int .u64 0, .slice none 0 0, .slice none 0 0], .int .i64 er]) ∧ Below W.heap.size W w'
/-- a store whose node n can't be read -/
structure FL (B : Nat) (w : World) (k : LK) (n : Nat) (er : Int) : Prop where
  rdy : RdyAs B w k.p 0
  look : LookF B w k.p n er
  sup : ∀ W, Below B w W → Calls Tryz.prog 68 #[k.p] W fun e w' => e = .returned (.agg (uC 200 60).toArray) ∧ Below W.heap.size W w'
  n0 : 0 < n
  n4 : n < 4294967296
set_option maxRecDepth 100000 in
set_option maxHeartbeats 2000000 in
/-- what comes of a Node that there is not -/
theorem LS.lookE {w W : World} {k : LK} {c : C.CS} {q : Nat} {D : DataW Value} (h : LS w W k c q D) (hc : c.now.length = 200) (n : Nat) (h2 : 200 ≤ n) (h4 : n < 4294967296) : LookF W.heap.size W k.p n 2 := by
  intro W' hb
  have HND : Hid (∀ W2, Below W.heap.size W W2 → Calls Tryz.prog 162 #[k.p, .int .u32 (n : Int)] W2 fun e w' => e = .returned (.tuple #[.agg #[.int .i64 0, .int .u64 0, .slice none 0 0, .slice none 0 0], .int .i64 2]) ∧ Below W2.heap.size W2 w') := Lib.hid (fun W2 hb2 => (h.below hb2).nodeE hc n h2 h4)
  have HB := Lib.hid hb
  have HB1 : Hid (Below W.heap.size W (W'.alloc (.cells #[.int .i64 0, .int .u64 0, .slice none 0 0, .slice none 0 0] 45))) := Lib.hid (hb.alloc hb.size _)
  have HC1 := Lib.hid (heap_alloc_new W' (.cells #[.int .i64 0, .int .u64 0, .slice none 0 0, .slice none 0 0] 45))
  clear h hc hb
  have hz := node_zero
  unfold LK.p at *
  go_enter Tryz.func95, Tryz.ntmps95
  go_wp2_with (first
    | (go_at_call 162; (with_reducible refine (HND.out _ HB1.out).mono ?_); rintro e w2 ⟨rfl, hb2⟩; have HB2 := Lib.hid hb2; have HST := Lib.hid (node_new 0 0 (.slice none 0 0) (.slice none 0 0) rfl rfl w2); have HC4 := Lib.hid ((Below.heap_alloc w2 (.cells #[.int .i64 0, .int .u64 0, .slice none 0 0, .slice none 0 0] 45) W'.heap.size (by have h1 := hb2.size; rw [World.size_alloc] at h1; omega)).trans ((hb2.block W'.heap.size (Array.getElem?_eq_some_iff.1 HC1.out).1).trans HC1.out)); have HS4 := Lib.hid (node_box HC4.out rfl 0 0 (.slice none 0 0) (.slice none 0 0) rfl rfl); clear hb2)
    | (refine wpList_store_run rfl 45 (.tmp 8) (.tmp 14) rfl w2.heap.size 0 _ _ rfl rfl HST.out ?_)
    | (refine wpList_store_run rfl 45 (.tmp 6) (.tmp 18) rfl W'.heap.size 0 _ _ rfl rfl HS4.out ?_)
    | fail)
  have hbb : Below W'.heap.size W' (w2.alloc (.cells #[.int .i64 0, .int .u64 0, .slice none 0 0, .slice none 0 0] 45)) := (((Below.refl _ W').alloc (Nat.le_refl _) _).trans (HB2.out.mono (by simp))).alloc (by have h1 := HB2.out.size; rw [World.size_alloc] at h1; omega) _
  exact bodyPost_ret (results_ct rfl _ _ _ _ _ rfl rfl (load_node (setRow_at HC4.out) rfl)) rfl ⟨rfl, below_setRow hbb (Nat.le_refl _) _⟩
theorem stands_no (W : World) (bi : Nat) (K V : Value) (hK : ∃ A ck, K = .slice A 0 ck) : Calls Tryz.prog 163 #[.agg #[.int .i64 1, .int .u64 (bi : Int), K, V], .int .i64 0] W fun e w' => e = .returned (.bool false) ∧ Below W.heap.size W w' := by
  obtain ⟨A, ck, rfl⟩ := hK
  have hb0 : Below W.heap.size W (W.alloc (.cells #[.int .i64 1, .int .u64 (bi : Int), .slice A 0 ck, V] 45)) := (Below.refl _ W).alloc (Nat.le_refl _) _
  have HB0 := Lib.hid hb0
  clear hb0
  go_enter Tryz.func163, Tryz.ntmps163
  go_wp2_with fail
  go_ret
  exact ⟨rfl, HB0.out⟩
set_option maxRecDepth 100000 in
set_option maxHeartbeats 2000000 in
/-- an inner node without children is none's -/
theorem LS.lookN {w W : World} {k : LK} {c : C.CS} {q : Nat} {D : DataW Value} {r bi : Nat} {K2 V2 : Value} (h : LS w W k c q D) (ha : AtD D r (.agg #[.int .i64 ((1 : Nat) : Int), .int .u64 (bi : Int), K2, V2])) (hx : NO W K2 V2 [] []) (hc : c.now.length = 200) (h0 : 0 < r) (h2 : r < 200) : LookF W.heap.size W k.p r 14 := by
  intro W' hb
  have HND : Hid (∀ W2, Below W.heap.size W W2 → Calls Tryz.prog 162 #[k.p, .int .u32 (r : Int)] W2 fun e w' => ∃ K3 V3, e = .returned (.tuple #[.agg #[.int .i64 1, .int .u64 (bi : Int), K3, V3], .int .i64 0]) ∧ NB w' W2.heap.size K3 V3 [] [] ∧ Below W2.heap.size W2 w') := Lib.hid (fun W2 hb2 => (h.below hb2).nodeD ha (hx.below hb2) hc h0 h2 (by simp) (by simp))
  have HB1 : Hid (Below W.heap.size W (W'.alloc (.cells #[.int .i64 0, .int .u64 0, .slice none 0 0, .slice none 0 0] 45))) := Lib.hid (hb.alloc hb.size _)
  have HC1 := Lib.hid (heap_alloc_new W' (.cells #[.int .i64 0, .int .u64 0, .slice none 0 0, .slice none 0 0] 45))
  have HSD : Hid (∀ (W : World) (K V : Value), (∃ A ck, K = .slice A 0 ck) → Calls Tryz.prog 163 #[.agg #[.int .i64 1, .int .u64 (bi : Int), K, V], .int .i64 0] W fun e w' => e = .returned (.bool false) ∧ Below W.heap.size W w') := Lib.hid fun W K V hK => stands_no W bi K V hK
  clear h hc hb ha hx
  have hz := node_zero
  unfold LK.p at *
  go_enter Tryz.func95, Tryz.ntmps95
  go_wp2_with (first
    | (go_at_call 162; (with_reducible refine (HND.out _ HB1.out).mono ?_); rintro e w2 ⟨K3, V3, rfl, hx2, hb2⟩; have HB2 := Lib.hid hb2; have HST := Lib.hid (node_new 1 (bi : Int) K3 V3 hx2.one.1 hx2.one.2 w2); have HSL := Lib.hid (no_sl0 hx2.no); have HBN := Lib.hid (heap_alloc_new w2 (.cells #[.int .i64 1, .int .u64 (bi : Int), K3, V3] 45)); have HRN := Lib.hid (range_of HBN.out); have HB3 : Hid (Below w2.heap.size w2 (w2.alloc (.cells #[.int .i64 1, .int .u64 (bi : Int), K3, V3] 45))) := Lib.hid ((Below.refl _ w2).alloc (Nat.le_refl _) _); clear hb2 hx2)
    | (go_at_call 163; (with_reducible refine (HSD.out _ _ _ HSL.out).mono ?_); rintro e w4 ⟨rfl, hb4⟩; have HB24 := Lib.hid (HB3.out.trans (hb4.mono HB3.out.size)); have HC4 := Lib.hid ((HB24.out.block W'.heap.size (by have h1 := HB2.out.size; rw [World.size_alloc] at h1; omega)).trans ((HB2.out.block W'.heap.size (Array.getElem?_eq_some_iff.1 HC1.out).1).trans HC1.out)); have HS4 := Lib.hid (node_box HC4.out rfl 0 0 (.slice none 0 0) (.slice none 0 0) rfl rfl); clear hb4)
    | (refine wpList_store_run rfl 45 (.tmp 8) (.tmp 14) rfl w2.heap.size 0 _ _ rfl rfl HST.out ?_)
    | (refine wpList_load_mid rfl 45 (.tmp 8) rfl w2.heap.size 0 rfl [.int .i64 1, .int .u64 (bi : Int), K3, V3] _ HRN.out Tryz.underlying45 rfl (nodeC _ _ _ _) ?_)
    | (refine wpList_store_run rfl 45 (.tmp 6) (.tmp 24) rfl W'.heap.size 0 _ _ rfl rfl HS4.out ?_)
    | fail)
  have hbb : Below W'.heap.size W' w4 := (((Below.refl _ W').alloc (Nat.le_refl _) _).trans (HB2.out.mono (by simp))).trans (HB24.out.mono (by have h1 := HB2.out.size; rw [World.size_alloc] at h1; omega))
  exact bodyPost_ret (results_ct rfl _ _ _ _ _ rfl rfl (load_node (setRow_at HC4.out) rfl)) rfl ⟨rfl, below_setRow hbb (Nat.le_refl _) _⟩
set_option maxRecDepth 100000 in
theorem get__F {B n : Nat} {w W : World} {p : Value} {er : Int} (hne : (er == 0) = false) (h : LookF B w p n er) (hb : Below B w W) (hB : B ≤ W.heap.size) (key : Int) :
    Calls Tryz.prog 40 #[p, .int .u32 (n : Int), .int .u64 key, .int .i64 0] W fun e w' => e = .returned (.tuple #[.int .u64 0, .bool false, .int .i64 er]) ∧ Below W.heap.size W w' := by
  have HL := Lib.hid (h W hb)
  clear h hb
  have hz := node_zero
  go_enter Tryz.func40, Tryz.ntmps40
  go_wp2_with (first
    | (go_at_call 95; (with_reducible refine HL.out.mono ?_); rintro e w2 ⟨rfl, hb2⟩; have HB2 := Lib.hid (hb2.alloc hb2.size (.cells #[.int .i64 0, .int .u64 0, .slice none 0 0, .slice none 0 0] 45)); have HST := Lib.hid (node_new 0 0 (.slice none 0 0) (.slice none 0 0) rfl rfl w2); clear hb2)
    | (refine wpList_store_run rfl 45 (.tmp 11) (.tmp 20) rfl w2.heap.size 0 _ _ rfl rfl HST.out ?_)
    | fail)
  go_ret3
  exact ⟨rfl, HB2.out⟩
set_option maxRecDepth 100000 in
theorem Get_F {B n : Nat} {w W : World} {k : LK} {er : Int} (hne : (er == 0) = false) (h : FL B w k n er) (hb : Below B w W) (hB : B ≤ W.heap.size) (key : Int) :
    Calls Tryz.prog 9 #[k.p, .int .u32 (n : Int), .int .u64 key] W fun e w' => e = .returned (.tuple #[.int .u64 0, .bool false, .int .i64 er]) ∧ Below W.heap.size W w' := by
  have HR := Lib.hid (h.rdy W hb)
  have HG : Hid (∀ W', Below W.heap.size W W' → Calls Tryz.prog 40 #[k.p, .int .u32 (n : Int), .int .u64 key, .int .i64 0] W' fun e w' => e = .returned (.tuple #[.int .u64 0, .bool false, .int .i64 er]) ∧ Below W'.heap.size W' w') := Lib.hid fun W' hb' => get__F hne h.look (hb.trans (hb'.mono hB)) (Nat.le_trans hB hb'.size) key
  have hr0 : ¬ (n : Int) = 0 := by have := h.n0; omega
  clear h hb
  unfold LK.p at *
  go_enter Tryz.func9, Tryz.ntmps9
  go_wp2_with (first
    | (go_at_call 32; (with_reducible refine HR.out.mono ?_); rintro e w1 ⟨rfl, hb1⟩; have HB1 := Lib.hid hb1; clear hb1)
    | (go_at_call 40; (with_reducible refine (HG.out _ HB1.out).mono ?_); rintro e w2 ⟨rfl, hb2⟩; have HB2 := Lib.hid hb2; clear hb2)
    | fail)
  go_ret3
  exact ⟨rfl, HB1.out.trans (HB2.out.mono HB1.out.size)⟩
/-- a walk's cells: its store, from which key on, what visits, how many there may be, what is told -/
def walkA (p : Value) (fr : Int) (v : Value) (lf tl : Int) : Array Value := #[p, .int .u64 fr, v, .int .i64 lf, .int .i64 tl]
theorem tell_0 {W : World} {bw : Nat} {p : Value} {fr : Int} {v : Value} {lf : Int} (h : W.heap[bw]? = some (.cells (walkA p fr v lf 0) 195 (0, 0))) (er : Int) : Calls Tryz.prog 161 #[.pointer (some ⟨bw, 0, none⟩), .int .i64 er] W fun e w' => e = .returned (.tuple #[]) ∧ w' = W.setCell ⟨bw, 4, none⟩ (.int .i64 er) := by
  have hc : W.cell? ⟨bw, 4, none⟩ = some (.int .i64 0) := Joins.cell_of_block (i := 4) h
  have hf := frozen_of_row W bw 4 _ _ h
  clear h
  go_enter Tryz.func161, Tryz.ntmps161
  go_wp2_with fail
  first | go_ret | go_ret2 | go_end0 | refine bodyPost_ret (results_none rfl _ _ _) rfl ?_
  exact ⟨rfl, rfl⟩
theorem super_meta (w : World) : (Instr.field 144 (.agg (uC 200 60).toArray) 1).run Tryz.prog w = .ok (.int .i64 200) w := by kernel_rfl
theorem under_end {W W3 W5 : World} {bw : Nat} {v : Value} (hw : bw < W.heap.size) (s : Q.Stays W W3 (fun j => j = bw)) (h5 : Below W3.heap.size W3 W5) : Q.Stays W (W5.setCell ⟨bw, 4, none⟩ v) (fun j => j = bw) :=
  ((s.trans (Q.Stays.of_below h5 (fun _ => False)) (fun _ e => e.elim)).trans (stays_cell W5 bw 4 v) (fun _ e => .inl e))
theorem walk_zero (w : World) : (zeroValue 195).run Tryz.prog w = .ok (.agg #[.pointer none, .int .u64 0, .nilFunc, .int .i64 0, .int .i64 0]) w := by kernel_rfl
theorem walkS (p : Value) (fr : Int) (v : Value) (lf tl : Int) : (Tryz.prog.info? 195).map (·.size) = some (walkA p fr v lf tl).size := by kernel_rfl
theorem walk_new (p : Value) (fr : Int) (v : Value) (lf tl : Int) (h1 : p.oneCell' = true) (h2 : v.oneCell' = true) (w : World) : (storeVar 195 ⟨w.heap.size, 0, none⟩ (.agg #[p, .int .u64 fr, v, .int .i64 lf, .int .i64 tl])).run Tryz.prog (w.alloc (.cells #[.pointer none, .int .u64 0, .nilFunc, .int .i64 0, .int .i64 0] 195)) = .ok () (w.alloc (.cells #[p, .int .u64 fr, v, .int .i64 lf, .int .i64 tl] 195)) :=
  run_storeVar_new w 195 #[.pointer none, .int .u64 0, .nilFunc, .int .i64 0, .int .i64 0] #[p, .int .u64 fr, v, .int .i64 lf, .int .i64 tl] (walkS p fr v lf tl) rfl (by simp only [List.all_toArray, List.all_cons, List.all_nil, h1, h2, Bool.and_true]; rfl)
set_option maxRecDepth 100000 in
set_option maxHeartbeats 4000000 in
theorem under_F {B n : Nat} {w W : World} {p : Value} {er : Int} (hne : (er == 0) = false) (h : LookF B w p n er) (hb : Below B w W) (bw : Nat) (fr lo hi : Int) (v : Value) (hbw : W.heap[bw]? = some (.cells (walkA p fr v 200 0) 195 (0, 0))) (hB : B ≤ bw) :
    Calls Tryz.prog 94 #[.pointer (some ⟨bw, 0, none⟩), .agg #[.int .u32 (n : Int), .int .i64 0, .int .u64 lo, .int .u64 hi]] W fun e w' => e = .returned (.tuple #[]) ∧ Hid (w'.heap[bw]? = some (.cells (walkA p fr v 199 er) 195 (0, 0)) ∧ Q.Stays W w' (fun j => j = bw)) := by
  have hlt := (Array.getElem?_eq_some_iff.1 hbw).1
  have hw1 : (W.alloc (.cells #[.int .u32 (n : Int), .int .i64 0, .int .u64 lo, .int .u64 hi] 80)).heap[bw]? = some (.cells (walkA p fr v 200 0) 195 (0, 0)) := (Below.heap_alloc _ _ _ hlt).trans hbw
  have hb1 : Below B w (W.alloc (.cells #[.int .u32 (n : Int), .int .i64 0, .int .u64 lo, .int .u64 hi] 80)) := hb.alloc (by omega) _
  have hsp := heap_alloc_new W (.cells #[.int .u32 (n : Int), .int .i64 0, .int .u64 lo, .int .u64 hi] 80)
  have st1 : Q.Stays W (W.alloc (.cells #[.int .u32 (n : Int), .int .i64 0, .int .u64 lo, .int .u64 hi] 80)) (fun j => j = bw) := Q.Stays.of_below ((Below.refl _ W).alloc (Nat.le_refl _) _) _
  have hc3 : (W.alloc (.cells #[.int .u32 (n : Int), .int .i64 0, .int .u64 lo, .int .u64 hi] 80)).cell? ⟨bw, 3, none⟩ = some (.int .i64 200) := Joins.cell_of_block (i := 3) hw1
  have hf3 := frozen_of_row _ bw 3 _ _ hw1
  obtain ⟨W1, hW1⟩ : ∃ W1, W.alloc (.cells #[.int .u32 (n : Int), .int .i64 0, .int .u64 lo, .int .u64 hi] 80) = W1 := ⟨_, rfl⟩
  rw [hW1] at hw1 hb1 hsp st1 hc3 hf3
  obtain ⟨W3, hW3⟩ : ∃ W3, W1.setCell ⟨bw, 3, none⟩ (.int .i64 199) = W3 := ⟨_, rfl⟩
  have hbw3 : W3.heap[bw]? = some (.cells #[p, .int .u64 fr, v, .int .i64 199, .int .i64 0] 195 (0, 0)) := by rw [← hW3]; exact Joins.block_setCell hw1 (i := 3) (.int .i64 199)
  have hsp3 : W3.heap[W.heap.size]? = some (.cells #[.int .u32 (n : Int), .int .i64 0, .int .u64 lo, .int .u64 hi] 80 (0, 0)) := by rw [← hW3]; exact (Below.heap_setCell W1 ⟨bw, 3, none⟩ (.int .i64 199) W.heap.size (by show W.heap.size ≠ bw; omega)).trans hsp
  have hb3 : Below B w W3 := by rw [← hW3]; exact hb1.setCell (p := ⟨bw, 3, none⟩) hB _
  have st3 : Q.Stays W W3 (fun j => j = bw) := by rw [← hW3]; exact st1.trans (stays_cell W1 bw 3 _) (fun _ e => .inl e)
  have HBW := Lib.hid hbw3
  have HSP := Lib.hid hsp3
  have HST3 := Lib.hid st3
  have HBW0 : Hid (bw < W.heap.size) := Lib.hid hlt
  have HW3 := Lib.hid hW3
  have HLK : Hid (∀ W', Below W3.heap.size W3 W' → Calls Tryz.prog 95 #[p, .int .u32 (n : Int), .int .i64 0] W' fun e w' => e = .returned (.tuple #[.agg #[.int .i64 0, .int .u64 0, .slice none 0 0, .slice none 0 0], .int .i64 er]) ∧ Below W'.heap.size W' w') := Lib.hid fun W' hb' => h W' (hb3.trans (hb'.mono (by have := st3.size; omega)))
  clear h hb hbw hw1 hb1 hsp st1 hbw3 hsp3 hb3 st3 hlt hW3
  go_enter Tryz.func94, Tryz.ntmps94
  go_upto_region 1 with fail
  go_upto_region 4 with fail
  clear hW1 hc3 hf3
  rw [HW3.out]
  clear HW3
  refine wp_region_noPanic ?_
  refine wp_region_held_drew (S := fun w' => Below W3.heap.size W3 w') (by kernel_rfl) ((Below.refl _ W3).drew) (fun hHeld => ?_)
  refine takeN (i := 0) (oi := _) (v := .pointer (some ⟨bw, 0, none⟩)) 23 rfl rfl (by kernel_rfl) (by kernel_rfl) (by kernel_rfl) (fun _ _ _ h => h) (Or.inl ⟨by rfl, fun w2 hSw => by (go_simp)⟩) hHeld ?_
  try simp only [Act.put, List.setIfInBounds_toArray, List.set_cons_zero, List.set_cons_succ]
  refine takeN (i := 1) (oi := _) (v := .pointer (some ⟨bw, 0, none⟩)) 24 rfl rfl (by kernel_rfl) (by kernel_rfl) (by kernel_rfl) (fun _ _ _ h => h) (Or.inl ⟨by rfl, fun w2 hSw => by (go_simp)⟩) hHeld ?_
  try simp only [Act.put, List.setIfInBounds_toArray, List.set_cons_zero, List.set_cons_succ]
  refine takeN (i := 2) (oi := _) (v := .pointer (some ⟨bw, 0, none⟩)) 25 rfl rfl (by kernel_rfl) (by kernel_rfl) (by kernel_rfl) (fun _ _ _ h => h) (Or.inl ⟨by rfl, fun w2 hSw => by (go_simp)⟩) hHeld ?_
  try simp only [Act.put, List.setIfInBounds_toArray, List.set_cons_zero, List.set_cons_succ]
  refine takeN (i := 3) (oi := _) (v := p) 26 rfl rfl (by kernel_rfl) (by kernel_rfl) (by kernel_rfl) (fun _ _ _ h => h) (Or.inl ⟨by rfl, fun w2 hSw => by (have hc := Joins.cell_of_block (i := 0) ((hSw.block _ (Array.getElem?_eq_some_iff.1 HBW.out).1).trans HBW.out); go_simp)⟩) hHeld ?_
  try simp only [Act.put, List.setIfInBounds_toArray, List.set_cons_zero, List.set_cons_succ]
  refine takeN (i := 4) (oi := _) (v := .pointer (some ⟨W.heap.size, 0, none⟩)) 27 rfl rfl (by kernel_rfl) (by kernel_rfl) (by kernel_rfl) (fun _ _ _ h => h) (Or.inl ⟨by rfl, fun w2 hSw => by (go_simp)⟩) hHeld ?_
  try simp only [Act.put, List.setIfInBounds_toArray, List.set_cons_zero, List.set_cons_succ]
  refine takeN (i := 5) (oi := _) (v := .int .u32 (n : Int)) 28 rfl rfl (by kernel_rfl) (by kernel_rfl) (by kernel_rfl) (fun _ _ _ h => h) (Or.inl ⟨by rfl, fun w2 hSw => by (have hc := Joins.cell_of_block (i := 0) ((hSw.block _ (Array.getElem?_eq_some_iff.1 HSP.out).1).trans HSP.out); go_simp)⟩) hHeld ?_
  try simp only [Act.put, List.setIfInBounds_toArray, List.set_cons_zero, List.set_cons_succ]
  refine takeN (i := 6) (oi := _) (v := .pointer (some ⟨W.heap.size, 1, none⟩)) 29 rfl rfl (by kernel_rfl) (by kernel_rfl) (by kernel_rfl) (fun _ _ _ h => h) (Or.inl ⟨by rfl, fun w2 hSw => by (go_simp)⟩) hHeld ?_
  try simp only [Act.put, List.setIfInBounds_toArray, List.set_cons_zero, List.set_cons_succ]
  refine takeN (i := 7) (oi := _) (v := .int .i64 0) 30 rfl rfl (by kernel_rfl) (by kernel_rfl) (by kernel_rfl) (fun _ _ _ h => h) (Or.inl ⟨by rfl, fun w2 hSw => by (have hc := Joins.cell_of_block (i := 1) ((hSw.block _ (Array.getElem?_eq_some_iff.1 HSP.out).1).trans HSP.out); go_simp)⟩) hHeld ?_
  try simp only [Act.put, List.setIfInBounds_toArray, List.set_cons_zero, List.set_cons_succ]
  refine wpAnyH_ready (rs := [8, 12]) (by kernel_rfl) (by simp) ?_
  refine AllReadyH.cons rfl (fun K hK => ?_) (AllReadyH.cons rfl (fun K hK => ?_) AllReadyH.nil)
  · go_simp
    go_wp2_with (first
      | (go_at_call 95; (with_reducible refine (HLK.out _ hHeld).mono ?_); rintro e wq ⟨rfl, hb3⟩)
      | fail)
    have HBQ := Lib.hid (hHeld.trans (hb3.mono hHeld.size))
    refine hK.out _ _ HBQ.out (fun hHeld => ?_)
    clear hb3
    clear hK K
    try simp only [Act.put, List.setIfInBounds_toArray, List.set_cons_zero, List.set_cons_succ]
    refine takeN (i := 9) (oi := _) (v := .tuple #[.agg #[.int .i64 0, .int .u64 0, .slice none 0 0, .slice none 0 0], .int .i64 er]) 22 rfl rfl (by kernel_rfl) (by kernel_rfl) (by kernel_rfl) (fun _ _ _ h => h) (Or.inl ⟨by rfl, fun w2 hSw => by (go_simp)⟩) hHeld ?_
    try simp only [Act.put, List.setIfInBounds_toArray, List.set_cons_zero, List.set_cons_succ]
    refine takeN (i := 10) (oi := _) (v := .agg #[.int .i64 0, .int .u64 0, .slice none 0 0, .slice none 0 0]) 32 rfl rfl (by kernel_rfl) (by kernel_rfl) (by kernel_rfl) (fun _ _ _ h => h) (Or.inl ⟨by rfl, fun w2 hSw => by (go_simp)⟩) hHeld ?_
    try simp only [Act.put, List.setIfInBounds_toArray, List.set_cons_zero, List.set_cons_succ]
    refine takeN (i := 11) (oi := _) (v := .int .i64 er) 33 rfl rfl (by kernel_rfl) (by kernel_rfl) (by kernel_rfl) (fun _ _ _ h => h) (Or.inl ⟨by rfl, fun w2 hSw => by (go_simp)⟩) hHeld ?_
    try simp only [Act.put, List.setIfInBounds_toArray, List.set_cons_zero, List.set_cons_succ]
    refine wpAnyH_ready (rs := [12]) (by kernel_rfl) (by simp) ?_
    refine AllReadyH.cons rfl (fun K hK => ?_) AllReadyH.nil
    have HSZ0 := Lib.hid hHeld.size
    go_simp
    have HBA := Lib.hid (hHeld.alloc hHeld.size (.cells #[.int .i64 0, .int .u64 0, .slice none 0 0, .slice none 0 0] 45))
    have HBOX := Lib.hid (newOf hHeld (.cells #[.int .i64 0, .int .u64 0, .slice none 0 0, .slice none 0 0] 45))
    refine hK.out _ _ HBA.out (fun hHeld => ?_)
    clear hK K
    try simp only [Act.put, List.setIfInBounds_toArray, List.set_cons_zero, List.set_cons_succ]
    refine wpAnyH_ready (rs := [13]) (by kernel_rfl) (by simp) ?_
    refine AllReadyH.cons rfl (fun K hK => ?_) AllReadyH.nil
    rw [if_pos (by rfl)]
    refine wp_store_run 45 (.tmp 4) (.tmp 32) rfl _ 0 (.agg #[.int .i64 0, .int .u64 0, .slice none 0 0, .slice none 0 0]) _ (by rfl) (by rfl) (node_box HBOX.out rfl 0 0 (.slice none 0 0) (.slice none 0 0) rfl rfl) ?_
    have HBZ := Lib.hid (below_setRow hHeld HSZ0.out #[.int .i64 0, .int .u64 0, .slice none 0 0, .slice none 0 0])
    refine hK.out _ _ HBZ.out (fun hHeld => ?_)
    clear hK K
    try simp only [Act.put, List.setIfInBounds_toArray, List.set_cons_zero, List.set_cons_succ]
    refine takeN (i := 14) (oi := _) (v := .int .i64 er) 5 rfl rfl (by kernel_rfl) (by kernel_rfl) (by kernel_rfl) (fun _ _ _ h => h) (Or.inl ⟨by rfl, fun w2 hSw => by (go_simp)⟩) hHeld ?_
    try simp only [Act.put, List.setIfInBounds_toArray, List.set_cons_zero, List.set_cons_succ]
    refine wpAnyH_done (by kernel_rfl) ?_ _
    refine NoPanic.normal ?_
    have HBW5 := Lib.hid ((hHeld.block bw (Array.getElem?_eq_some_iff.1 HBW.out).1).trans HBW.out)
    have HB5 := Lib.hid hHeld
    have HTL := Lib.hid (tell_0 HBW5.out er)
    clear hHeld HBOX HBA HSZ0 HBQ HBZ
    go_wp2_with (first
      | (go_at_call 161; (with_reducible refine HTL.out.mono ?_); rintro e w6 ⟨rfl, hw6⟩; subst w6)
      | fail)
    first | go_ret | go_ret2 | go_end0 | refine bodyPost_ret (results_none rfl _ _ _) rfl ?_
    exact ⟨rfl, Lib.hid ⟨Joins.block_setCell HBW5.out (i := 4) (.int .i64 er), under_end HBW0.out HST3.out HB5.out⟩⟩
  · have HSZ0 : Hid (W3.heap.size ≤ W3.heap.size) := Lib.hid (Nat.le_refl _)
    go_simp
    have HBA := Lib.hid (hHeld.alloc hHeld.size (.cells #[.int .i64 0, .int .u64 0, .slice none 0 0, .slice none 0 0] 45))
    have HBOX : Hid ((W3.drew.alloc (.cells #[.int .i64 0, .int .u64 0, .slice none 0 0, .slice none 0 0] 45)).heap[W3.heap.size]? = some (.cells #[.int .i64 0, .int .u64 0, .slice none 0 0, .slice none 0 0] 45)) := Lib.hid (newOf hHeld (.cells #[.int .i64 0, .int .u64 0, .slice none 0 0, .slice none 0 0] 45))
    refine hK.out _ _ HBA.out (fun hHeld => ?_)
    clear hK K
    try simp only [Act.put, List.setIfInBounds_toArray, List.set_cons_zero, List.set_cons_succ]
    refine wpAnyH_ready (rs := [8]) (by kernel_rfl) (by simp) ?_
    refine AllReadyH.cons rfl (fun K hK => ?_) AllReadyH.nil
    go_simp
    go_wp2_with (first
      | (go_at_call 95; (with_reducible refine (HLK.out _ hHeld).mono ?_); rintro e wq ⟨rfl, hb3⟩)
      | fail)
    have hbx3 := (hb3.block _ ((Array.getElem?_eq_some_iff.1 HBOX.out).1)).trans HBOX.out
    clear HBOX
    have HBOX := Lib.hid hbx3
    clear hbx3
    have HBQ := Lib.hid (hHeld.trans (hb3.mono hHeld.size))
    refine hK.out _ _ HBQ.out (fun hHeld => ?_)
    clear hb3
    clear hK K
    try simp only [Act.put, List.setIfInBounds_toArray, List.set_cons_zero, List.set_cons_succ]
    refine takeN (i := 9) (oi := _) (v := .tuple #[.agg #[.int .i64 0, .int .u64 0, .slice none 0 0, .slice none 0 0], .int .i64 er]) 22 rfl rfl (by kernel_rfl) (by kernel_rfl) (by kernel_rfl) (fun _ _ _ h => h) (Or.inl ⟨by rfl, fun w2 hSw => by (go_simp)⟩) hHeld ?_
    try simp only [Act.put, List.setIfInBounds_toArray, List.set_cons_zero, List.set_cons_succ]
    refine takeN (i := 10) (oi := _) (v := .agg #[.int .i64 0, .int .u64 0, .slice none 0 0, .slice none 0 0]) 32 rfl rfl (by kernel_rfl) (by kernel_rfl) (by kernel_rfl) (fun _ _ _ h => h) (Or.inl ⟨by rfl, fun w2 hSw => by (go_simp)⟩) hHeld ?_
    try simp only [Act.put, List.setIfInBounds_toArray, List.set_cons_zero, List.set_cons_succ]
    refine takeN (i := 11) (oi := _) (v := .int .i64 er) 33 rfl rfl (by kernel_rfl) (by kernel_rfl) (by kernel_rfl) (fun _ _ _ h => h) (Or.inl ⟨by rfl, fun w2 hSw => by (go_simp)⟩) hHeld ?_
    try simp only [Act.put, List.setIfInBounds_toArray, List.set_cons_zero, List.set_cons_succ]
    refine wpAnyH_ready (rs := [13]) (by kernel_rfl) (by simp) ?_
    refine AllReadyH.cons rfl (fun K hK => ?_) AllReadyH.nil
    rw [if_pos (by rfl)]
    refine wp_store_run 45 (.tmp 4) (.tmp 32) rfl _ 0 (.agg #[.int .i64 0, .int .u64 0, .slice none 0 0, .slice none 0 0]) _ (by rfl) (by rfl) (node_box HBOX.out rfl 0 0 (.slice none 0 0) (.slice none 0 0) rfl rfl) ?_
    have HBZ := Lib.hid (below_setRow hHeld HSZ0.out #[.int .i64 0, .int .u64 0, .slice none 0 0, .slice none 0 0])
    refine hK.out _ _ HBZ.out (fun hHeld => ?_)
    clear hK K
    try simp only [Act.put, List.setIfInBounds_toArray, List.set_cons_zero, List.set_cons_succ]
    refine takeN (i := 14) (oi := _) (v := .int .i64 er) 5 rfl rfl (by kernel_rfl) (by kernel_rfl) (by kernel_rfl) (fun _ _ _ h => h) (Or.inl ⟨by rfl, fun w2 hSw => by (go_simp)⟩) hHeld ?_
    try simp only [Act.put, List.setIfInBounds_toArray, List.set_cons_zero, List.set_cons_succ]
    refine wpAnyH_done (by kernel_rfl) ?_ _
    refine NoPanic.normal ?_
    have HBW5 := Lib.hid ((hHeld.block bw (Array.getElem?_eq_some_iff.1 HBW.out).1).trans HBW.out)
    have HB5 := Lib.hid hHeld
    have HTL := Lib.hid (tell_0 HBW5.out er)
    clear hHeld HBOX HBA HSZ0 HBQ HBZ
    go_wp2_with (first
      | (go_at_call 161; (with_reducible refine HTL.out.mono ?_); rintro e w6 ⟨rfl, hw6⟩; subst w6)
      | fail)
    first | go_ret | go_ret2 | go_end0 | refine bodyPost_ret (results_none rfl _ _ _) rfl ?_
    exact ⟨rfl, Lib.hid ⟨Joins.block_setCell HBW5.out (i := 4) (.int .i64 er), under_end HBW0.out HST3.out HB5.out⟩⟩
set_option maxRecDepth 100000 in
set_option maxHeartbeats 4000000 in
theorem over_F {B n : Nat} {w W : World} {k : LK} {er : Int} (hne : (er == 0) = false) (h : FL B w k n er) (hb : Below B w W) (hB : B ≤ W.heap.size) (f : Int) (x : Fn) (y z : Array Value) :
    Calls Tryz.prog 36 #[k.p, .int .u32 (n : Int), .int .u64 f, .func x y z] W fun e w' => e = .returned (.int .i64 er) ∧ Below W.heap.size W w' := by
  have HR := Lib.hid (h.rdy W hb)
  have HSU : Hid (∀ W', Below W.heap.size W W' → Calls Tryz.prog 68 #[k.p] W' fun e w' => e = .returned (.agg (uC 200 60).toArray) ∧ Below W'.heap.size W' w') := Lib.hid fun W' hb' => h.sup W' (hb.trans (hb'.mono hB))
  have HUN : Hid (∀ W' bw, Below W.heap.size W W' → W.heap.size ≤ bw → W'.heap[bw]? = some (.cells (walkA k.p f (.func x y z) 200 0) 195 (0, 0)) → Calls Tryz.prog 94 #[.pointer (some ⟨bw, 0, none⟩), .agg #[.int .u32 (n : Int), .int .i64 0, .int .u64 0, .int .u64 18446744073709551615]] W' fun e w' => e = .returned (.tuple #[]) ∧ Hid (w'.heap[bw]? = some (.cells (walkA k.p f (.func x y z) 199 er) 195 (0, 0)) ∧ Q.Stays W' w' (fun j => j = bw))) := Lib.hid fun W' bw hb' hw hbw => under_F hne h.look (hb.trans (hb'.mono hB)) bw f 0 _ _ hbw (Nat.le_trans hB hw)
  have hr0 : ¬ (n : Int) = 0 := by have := h.n0; omega
  have hfd : ∀ w1 : World, (Instr.field 144 (.agg (uC 200 60).toArray) 1).run Tryz.prog w1 = .ok (.int .i64 200) w1 := fun w1 => super_meta w1
  clear h hb
  obtain ⟨cl, hcl⟩ : ∃ cl, uC 200 60 = cl := ⟨_, rfl⟩
  rw [hcl] at HSU hfd
  clear hcl
  have hzw := walk_zero
  unfold LK.p at *
  go_enter Tryz.func36, Tryz.ntmps36
  go_upto_region 5 with (first
    | (go_at_call 32; (with_reducible refine HR.out.mono ?_); rintro e w1 ⟨rfl, hb1⟩; have HB1 := Lib.hid hb1; clear hb1)
    | (go_at_call 68; (with_reducible refine (HSU.out _ HB1.out).mono ?_); rintro e w2 ⟨rfl, hb2⟩; have HB2 := Lib.hid (HB1.out.trans (hb2.mono HB1.out.size)); have HWN := Lib.hid (walk_new (.pointer (some ⟨k.bs, 0, none⟩)) f (.func x y z) 200 0 rfl rfl w2); clear hb2)
    | ((with_reducible show wpList _ _ _ ({ dst := _, op := .store _ _ _, type := _, pos := _, after := _, guard := _ } :: _) _ _); refine wpList_store_run rfl 195 (.tmp 10) (.tmp 26) rfl w2.heap.size 0 _ ?ws26 rfl rfl ?hs26 ?_; (case hs26 => exact HWN.out))
    | fail)
  have hbx := heap_alloc_new w2 (.cells (walkA (.pointer (some ⟨k.bs, 0, none⟩)) f (.func x y z) 200 0) 195)
  have HB3 := Lib.hid (HB2.out.alloc HB2.out.size (.cells (walkA (.pointer (some ⟨k.bs, 0, none⟩)) f (.func x y z) 200 0) 195))
  have HU3 := Lib.hid (HUN.out _ w2.heap.size HB3.out HB2.out.size hbx)
  unfold walkA at HU3 HB3
  obtain ⟨W3, hW3⟩ : ∃ W3, w2.alloc (.cells #[.pointer (some ⟨k.bs, 0, none⟩), .int .u64 f, .func x y z, .int .i64 200, .int .i64 0] 195) = W3 := ⟨_, rfl⟩
  rw [hW3] at HU3 HB3 ⊢
  clear hbx hW3
  go_upto_region 6 with (first
    | (go_at_call 94; (with_reducible refine HU3.out.mono ?_); rintro e w4 ⟨rfl, h4⟩)
    | fail)
  have hc4 : w4.cell? ⟨w2.heap.size, 4, none⟩ = some (.int .i64 er) := Joins.cell_of_block (i := 4) h4.out.1
  go_wp2_with fail
  go_ret
  exact ⟨rfl, HB3.out.trans (h4.out.2.below HB3.out.size (fun j hj => by have e : j = w2.heap.size := hj; have := HB2.out.size; omega))⟩
set_option maxRecDepth 100000 in
theorem all_F2 {B n : Nat} {w W : World} {k : LK} (h : FL B w k n 2) (hb : Below B w W) (hB : B ≤ W.heap.size) (f : Int) :
    Calls Tryz.prog 11 #[k.p, .int .u32 (n : Int), .int .u64 f] W fun e w' => e = .returned (.tuple #[.slice none 0 0, .int .i64 2]) ∧ Below W.heap.size W w' := by
  have HO : Hid (∀ W' x y z, Below W.heap.size W W' → Calls Tryz.prog 36 #[k.p, .int .u32 (n : Int), .int .u64 f, .func x y z] W' fun e w' => e = .returned (.int .i64 2) ∧ Below W'.heap.size W' w') := Lib.hid (fun W' x y z hb' => over_F rfl h (hb.trans (hb'.mono hB)) (Nat.le_trans hB hb'.size) f x y z)
  clear h hb
  unfold LK.p at *
  go_enter Tryz.func11, Tryz.ntmps11
  go_wp2_with (first
    | (go_at_call 36; (with_reducible refine (HO.out _ _ _ _ (belA (belA (Below.refl W.heap.size W) _) _)).mono ?_); rintro e w1 ⟨rfl, hb1⟩; have HB1 : Hid (Below W.heap.size W w1) := Lib.hid (belT (belA (belA (Below.refl W.heap.size W) _) _) hb1); clear hb1)
    | fail)
  first | go_ret | go_ret2 | go_ret3 | ((try simp only [Exit.inBlock, Exit.then]); refine bodyPost_ret (results_tmp4 rfl _ _ _) rfl ?_)
  exact ⟨rfl, HB1.out⟩
set_option maxRecDepth 100000 in
theorem nodes_F2 {B n : Nat} {w W : World} {k : LK} (h : FL B w k n 2) (hb : Below B w W) (hB : B ≤ W.heap.size) :
    Calls Tryz.prog 12 #[k.p, .int .u32 (n : Int)] W fun e w' => e = .returned (.tuple #[.slice none 0 0, .int .i64 2]) ∧ Below W.heap.size W w' := by
  have HO : Hid (∀ W' x y z, Below W.heap.size W W' → Calls Tryz.prog 36 #[k.p, .int .u32 (n : Int), .int .u64 0, .func x y z] W' fun e w' => e = .returned (.int .i64 2) ∧ Below W'.heap.size W' w') := Lib.hid (fun W' x y z hb' => over_F rfl h (hb.trans (hb'.mono hB)) (Nat.le_trans hB hb'.size) 0 x y z)
  clear h hb
  unfold LK.p at *
  go_enter Tryz.func12, Tryz.ntmps12
  go_wp2_with (first
    | (go_at_call 36; (with_reducible refine (HO.out _ _ _ _ (belA (Below.refl W.heap.size W) _)).mono ?_); rintro e w1 ⟨rfl, hb1⟩; have HB1 : Hid (Below W.heap.size W w1) := Lib.hid (belT (belA (Below.refl W.heap.size W) _) hb1); clear hb1)
    | fail)
  first | go_ret | go_ret2 | go_ret3 | ((try simp only [Exit.inBlock, Exit.then]); refine bodyPost_ret (results_tmp4 rfl _ _ _) rfl ?_)
  exact ⟨rfl, HB1.out⟩
set_option maxRecDepth 100000 in
theorem check_F2 {B n : Nat} {w W : World} {k : LK} (h : FL B w k n 2) (hb : Below B w W) (hB : B ≤ W.heap.size) (kd : Int) :
    Calls Tryz.prog 8 #[k.p, .int .u32 (n : Int), .int .i64 kd] W fun e w' => e = .returned (.int .i64 2) ∧ Below W.heap.size W w' := by
  have HO : Hid (∀ W' x y z, Below W.heap.size W W' → Calls Tryz.prog 36 #[k.p, .int .u32 (n : Int), .int .u64 0, .func x y z] W' fun e w' => e = .returned (.int .i64 2) ∧ Below W'.heap.size W' w') := Lib.hid (fun W' x y z hb' => over_F rfl h (hb.trans (hb'.mono hB)) (Nat.le_trans hB hb'.size) 0 x y z)
  clear h hb
  unfold LK.p at *
  go_enter Tryz.func8, Tryz.ntmps8
  go_wp2_with (first
    | (go_at_call 36; (with_reducible refine (HO.out _ _ _ _ (belA (belA (belA (Below.refl W.heap.size W) _) _) _)).mono ?_); rintro e w1 ⟨rfl, hb1⟩; have HB1 : Hid (Below W.heap.size W w1) := Lib.hid (belT (belA (belA (belA (Below.refl W.heap.size W) _) _) _) hb1); clear hb1)
    | fail)
  first | go_ret | go_ret2 | go_ret3 | ((try simp only [Exit.inBlock, Exit.then]); refine bodyPost_ret (results_tmp4 rfl _ _ _) rfl ?_)
  exact ⟨rfl, HB1.out⟩
set_option maxRecDepth 100000 in
theorem del_F2 {B n : Nat} {w W : World} {k : LK} (h : FL B w k n 2) (hb : Below B w W) (hB : B ≤ W.heap.size) (key : Int) :
    Calls Tryz.prog 10 #[k.p, .int .u32 (n : Int), .int .u64 key] W fun e w' => e = .returned (.tuple #[.int .u32 0, .int .u64 0, .bool false, .int .i64 2]) ∧ Below W.heap.size W w' := by
  have HG : Hid (∀ W', Below W.heap.size W W' → Calls Tryz.prog 9 #[k.p, .int .u32 (n : Int), .int .u64 key] W' fun e w' => e = .returned (.tuple #[.int .u64 0, .bool false, .int .i64 2]) ∧ Below W'.heap.size W' w') := Lib.hid (fun W' hb' => Get_F rfl h (hb.trans (hb'.mono hB)) (Nat.le_trans hB hb'.size) key)
  clear h hb
  unfold LK.p at *
  go_enter Tryz.func10, Tryz.ntmps10
  go_wp2_with (first
    | (go_at_call 9; (with_reducible refine (HG.out _ (belA (belA (Below.refl W.heap.size W) _) _)).mono ?_); rintro e w1 ⟨rfl, hb1⟩; have HB1 : Hid (Below W.heap.size W w1) := Lib.hid (belT (belA (belA (Below.refl W.heap.size W) _) _) hb1); clear hb1)
    | fail)
  first | go_ret | go_ret2 | go_ret3 | ((try simp only [Exit.inBlock, Exit.then]); refine bodyPost_ret (results_tmp4 rfl _ _ _) rfl ?_)
  exact ⟨rfl, HB1.out⟩
set_option maxRecDepth 100000 in
theorem all_F14 {B n : Nat} {w W : World} {k : LK} (h : FL B w k n 14) (hb : Below B w W) (hB : B ≤ W.heap.size) (f : Int) :
    Calls Tryz.prog 11 #[k.p, .int .u32 (n : Int), .int .u64 f] W fun e w' => e = .returned (.tuple #[.slice none 0 0, .int .i64 14]) ∧ Below W.heap.size W w' := by
  have HO : Hid (∀ W' x y z, Below W.heap.size W W' → Calls Tryz.prog 36 #[k.p, .int .u32 (n : Int), .int .u64 f, .func x y z] W' fun e w' => e = .returned (.int .i64 14) ∧ Below W'.heap.size W' w') := Lib.hid (fun W' x y z hb' => over_F rfl h (hb.trans (hb'.mono hB)) (Nat.le_trans hB hb'.size) f x y z)
  clear h hb
  unfold LK.p at *
  go_enter Tryz.func11, Tryz.ntmps11
  go_wp2_with (first
    | (go_at_call 36; (with_reducible refine (HO.out _ _ _ _ (belA (belA (Below.refl W.heap.size W) _) _)).mono ?_); rintro e w1 ⟨rfl, hb1⟩; have HB1 : Hid (Below W.heap.size W w1) := Lib.hid (belT (belA (belA (Below.refl W.heap.size W) _) _) hb1); clear hb1)
    | fail)
  first | go_ret | go_ret2 | go_ret3 | ((try simp only [Exit.inBlock, Exit.then]); refine bodyPost_ret (results_tmp4 rfl _ _ _) rfl ?_)
  exact ⟨rfl, HB1.out⟩
set_option maxRecDepth 100000 in
theorem check_F14 {B n : Nat} {w W : World} {k : LK} (h : FL B w k n 14) (hb : Below B w W) (hB : B ≤ W.heap.size) (kd : Int) :
    Calls Tryz.prog 8 #[k.p, .int .u32 (n : Int), .int .i64 kd] W fun e w' => e = .returned (.int .i64 14) ∧ Below W.heap.size W w' := by
  have HO : Hid (∀ W' x y z, Below W.heap.size W W' → Calls Tryz.prog 36 #[k.p, .int .u32 (n : Int), .int .u64 0, .func x y z] W' fun e w' => e = .returned (.int .i64 14) ∧ Below W'.heap.size W' w') := Lib.hid (fun W' x y z hb' => over_F rfl h (hb.trans (hb'.mono hB)) (Nat.le_trans hB hb'.size) 0 x y z)
  clear h hb
  unfold LK.p at *
  go_enter Tryz.func8, Tryz.ntmps8
  go_wp2_with (first
    | (go_at_call 36; (with_reducible refine (HO.out _ _ _ _ (belA (belA (belA (Below.refl W.heap.size W) _) _) _)).mono ?_); rintro e w1 ⟨rfl, hb1⟩; have HB1 : Hid (Below W.heap.size W w1) := Lib.hid (belT (belA (belA (belA (Below.refl W.heap.size W) _) _) _) hb1); clear hb1)
    | fail)
  first | go_ret | go_ret2 | go_ret3 | ((try simp only [Exit.inBlock, Exit.then]); refine bodyPost_ret (results_tmp4 rfl _ _ _) rfl ?_)
  exact ⟨rfl, HB1.out⟩
end Go.Proofs.YtoclhiaidbfheaaGreatDoor.T
