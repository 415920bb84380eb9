/- btree: Check of a tree that is one leaf with one key, whole. -/
import Derived.Test.YtoclhiaidbfheaaGreatDoorMe
set_option linter.unusedVariables false
namespace Go.Proofs.YtoclhiaidbfheaaGreatDoor.T
open Go.RowKit Q S Go.ChangeMaps Go.MapKept

/-- Check's visit -/
abbrev vC (bf bl bk : Nat) : Value := .func (.func 37) #[] #[.pointer (some ⟨bf, 0, none⟩), .pointer (some ⟨bl, 0, none⟩), .pointer (some ⟨bk, 0, none⟩)]
theorem node_into {B b : Nat} {W w : World} {kd bi : Nat} {K V : Value} {ks vs : List Nat} (hb : Below B W w) (hB : B ≤ b) (h : w.heap[b]? = some (.cells #[.int .i64 0, .int .u64 0, .slice none 0 0, .slice none 0 0] 45 (0, 0))) (hx : NO w K V ks vs) :
    ∃ W5, (storeVar 45 ⟨b, 0, none⟩ (.agg #[.int .i64 (kd : Int), .int .u64 (bi : Int), K, V])).run Tryz.prog w = .ok () W5 ∧ Below B W W5 ∧ W5.heap[b]? = some (.cells #[.int .i64 (kd : Int), .int .u64 (bi : Int), K, V] 45 (0, 0)) ∧ NO W5 K V ks vs :=
  ⟨_, node_box h rfl kd bi K V hx.one.1 hx.one.2, below_setRow hb hB _, setRow_at h, hx.on (Q.Stays.set_row h) (fun j cs hc e => by rw [show j = b from e] at hc; exact absurd (cells_ne hc h) (by decide))⟩
theorem ne_cells {W : World} {j i : Nat} {cs ds : Array Value} {t u : TypeId} (h1 : W.heap[j]? = some (.cells cs t (0, 0))) (h2 : W.heap[i]? = some (.cells ds u (0, 0))) (hne : t ≠ u) : j ≠ i := fun e => by
  subst e
  rw [h1] at h2
  injection h2 with h2
  injection h2 with _ h2
  exact hne h2
/-- look tells a leaf with one key -/
def LookL (B : Nat) (w : World) (p : Value) (r kd bi key val : Nat) : Prop := ∀ W, Below B w W → Calls Tryz.prog 95 #[p, .int .u32 (r : Int), .int .i64 0] W fun e w' => ∃ K3 V3, e = .returned (.tuple #[.agg #[.int .i64 (kd : Int), .int .u64 (bi : Int), K3, V3], .int .i64 0]) ∧ NO w' K3 V3 [key] [val] ∧ Below W.heap.size W w'
/-- Check's boxes -/
structure CB (W : World) (bf bl bk kw : Nat) : Prop where
  f : W.heap[bf]? = some (.cells #[.bool true] 4 (0, 0))
  l : W.heap[bl]? = some (.cells #[.int .i64 0] 3 (0, 0))
  k : W.heap[bk]? = some (.cells #[.int .i64 (kw : Int)] 29 (0, 0))
theorem CB.stays {W W' : World} {bf bl bk kw : Nat} {G : Nat → Prop} (h : CB W bf bl bk kw) (hs : Q.Stays W W' G) (h1 : ¬ G bf) (h2 : ¬ G bl) (h3 : ¬ G bk) : CB W' bf bl bk kw :=
  ⟨(hs.block bf (Array.getElem?_eq_some_iff.1 h.f).1 h1).trans h.f, (hs.block bl (Array.getElem?_eq_some_iff.1 h.l).1 h2).trans h.l, (hs.block bk (Array.getElem?_eq_some_iff.1 h.k).1 h3).trans h.k⟩
theorem CB.below {W W' : World} {bf bl bk kw : Nat} (h : CB W bf bl bk kw) (hb : Below W.heap.size W W') : CB W' bf bl bk kw := h.stays (Q.Stays.of_below hb (fun _ => False)) (fun e => e) (fun e => e) (fun e => e)
set_option maxRecDepth 100000 in
set_option maxHeartbeats 16000000 in
theorem under_C {B r : Nat} {w W : World} {p : Value} {kd bi kw key val : Nat} (h : LookL B w p r kd bi key val) (hb : Below B w W) (bw bf bl bk : Nat) (hbw : W.heap[bw]? = some (.cells (walkA p 0 (vC bf bl bk) 200 0) 195 (0, 0))) (hcb : CB W bf bl bk kw) (hB : B ≤ bw) (hk1 : ¬ (kd : Int) = 1) (hkey : key < 18446744073709551616) (er : Int) (her : er = if kd = kw then 0 else 14) :
    Calls Tryz.prog 94 #[.pointer (some ⟨bw, 0, none⟩), .agg #[.int .u32 (r : Int), .int .i64 0, .int .u64 0, .int .u64 18446744073709551615]] W fun e w' => e = .returned (.tuple #[]) ∧ Hid (w'.heap[bw]? = some (.cells (walkA p 0 (vC bf bl bk) 199 er) 195 (0, 0)) ∧ Q.Stays W w' (fun j => j = bw ∨ j = bf ∨ j = bl)) := by
  have hlt := (Array.getElem?_eq_some_iff.1 hbw).1
  have hw1 : (W.alloc (.cells #[.int .u32 (r : Int), .int .i64 0, .int .u64 0, .int .u64 18446744073709551615] 80)).heap[bw]? = some (.cells (walkA p 0 (vC bf bl bk) 200 0) 195 (0, 0)) := (Below.heap_alloc _ _ _ hlt).trans hbw
  have hb1 : Below B w (W.alloc (.cells #[.int .u32 (r : Int), .int .i64 0, .int .u64 0, .int .u64 18446744073709551615] 80)) := hb.alloc (by omega) _
  have hsp := heap_alloc_new W (.cells #[.int .u32 (r : Int), .int .i64 0, .int .u64 0, .int .u64 18446744073709551615] 80)
  have st1 : Q.Stays W (W.alloc (.cells #[.int .u32 (r : Int), .int .i64 0, .int .u64 0, .int .u64 18446744073709551615] 80)) (fun j => j = bw) := Q.Stays.of_below ((Below.refl _ W).alloc (Nat.le_refl _) _) _
  have hc3 : (W.alloc (.cells #[.int .u32 (r : Int), .int .i64 0, .int .u64 0, .int .u64 18446744073709551615] 80)).cell? ⟨bw, 3, none⟩ = some (.int .i64 200) := Joins.cell_of_block (i := 3) hw1
  have hf3 := frozen_of_row _ bw 3 _ _ hw1
  obtain ⟨W1, hW1⟩ : ∃ W1, W.alloc (.cells #[.int .u32 (r : Int), .int .i64 0, .int .u64 0, .int .u64 18446744073709551615] 80) = W1 := ⟨_, rfl⟩
  rw [hW1] at hw1 hb1 hsp st1 hc3 hf3
  obtain ⟨W3, hW3⟩ : ∃ W3, W1.setCell ⟨bw, 3, none⟩ (.int .i64 199) = W3 := ⟨_, rfl⟩
  have hbw3 : W3.heap[bw]? = some (.cells #[p, .int .u64 0, vC bf bl bk, .int .i64 199, .int .i64 0] 195 (0, 0)) := by rw [← hW3]; exact Joins.block_setCell hw1 (i := 3) (.int .i64 199)
  have hsp3 : W3.heap[W.heap.size]? = some (.cells #[.int .u32 (r : Int), .int .i64 0, .int .u64 0, .int .u64 18446744073709551615] 80 (0, 0)) := by rw [← hW3]; exact (Below.heap_setCell W1 ⟨bw, 3, none⟩ (.int .i64 199) W.heap.size (by show W.heap.size ≠ bw; omega)).trans hsp
  have hb3 : Below B w W3 := by rw [← hW3]; exact hb1.setCell (p := ⟨bw, 3, none⟩) hB _
  have st3 : Q.Stays W W3 (fun j => j = bw) := by rw [← hW3]; exact st1.trans (stays_cell W1 bw 3 _) (fun _ e => .inl e)
  have HBW := Lib.hid hbw3
  have HSP := Lib.hid hsp3
  have HST3 := Lib.hid st3
  have HBW0 : Hid (bw < W.heap.size) := Lib.hid hlt
  have HW3 := Lib.hid hW3
  have HLK : Hid (∀ W', Below W3.heap.size W3 W' → Calls Tryz.prog 95 #[p, .int .u32 (r : Int), .int .i64 0] W' fun e w' => ∃ K3 V3, e = .returned (.tuple #[.agg #[.int .i64 (kd : Int), .int .u64 (bi : Int), K3, V3], .int .i64 0]) ∧ NO w' K3 V3 [key] [val] ∧ Below W'.heap.size W' w') := Lib.hid fun W' hb' => h W' (hb3.trans (hb'.mono (by have := st3.size; omega)))
  have HCB : Hid (CB W3 bf bl bk kw) := Lib.hid (hcb.stays st3 (fun e => ne_cells hbw hcb.f (by decide) e.symm) (fun e => ne_cells hbw hcb.l (by decide) e.symm) (fun e => ne_cells hbw hcb.k (by decide) e.symm))
  have HNS : Hid (¬ (W.heap.size = bw ∨ W.heap.size = bf ∨ W.heap.size = bl)) := Lib.hid (fun e => by
    have h1 := (Array.getElem?_eq_some_iff.1 hcb.f).1
    have h2 := (Array.getElem?_eq_some_iff.1 hcb.l).1
    omega)
  have HK1 := Lib.hid hk1
  have HKY := Lib.hid hkey
  have HER := Lib.hid her
  clear h hb hbw hcb hk1 hkey her hw1 hb1 hsp st1 hbw3 hsp3 hb3 st3 hlt hW3
  go_enter Tryz.func94, Tryz.ntmps94
  go_upto_region 1 with fail
  go_upto_region 4 with fail
  clear hW1 hc3 hf3
  rw [HW3.out]
  clear HW3
  refine wp_region_noPanic ?_
  refine wp_region_held_drew (S := fun w' => Below W3.heap.size W3 w') (by kernel_rfl) ((Below.refl _ W3).drew) (fun hHeld => ?_)
  refine takeN (i := 0) (oi := _) (v := .pointer (some ⟨bw, 0, none⟩)) 23 rfl rfl (by kernel_rfl) (by kernel_rfl) (by kernel_rfl) (fun _ _ _ h => h) (Or.inl ⟨by rfl, fun w2 hSw => by (go_simp)⟩) hHeld ?_
  try simp only [Act.put, List.setIfInBounds_toArray, List.set_cons_zero, List.set_cons_succ]
  refine takeN (i := 1) (oi := _) (v := .pointer (some ⟨bw, 0, none⟩)) 24 rfl rfl (by kernel_rfl) (by kernel_rfl) (by kernel_rfl) (fun _ _ _ h => h) (Or.inl ⟨by rfl, fun w2 hSw => by (go_simp)⟩) hHeld ?_
  try simp only [Act.put, List.setIfInBounds_toArray, List.set_cons_zero, List.set_cons_succ]
  refine takeN (i := 2) (oi := _) (v := .pointer (some ⟨bw, 0, none⟩)) 25 rfl rfl (by kernel_rfl) (by kernel_rfl) (by kernel_rfl) (fun _ _ _ h => h) (Or.inl ⟨by rfl, fun w2 hSw => by (go_simp)⟩) hHeld ?_
  try simp only [Act.put, List.setIfInBounds_toArray, List.set_cons_zero, List.set_cons_succ]
  refine takeN (i := 3) (oi := _) (v := p) 26 rfl rfl (by kernel_rfl) (by kernel_rfl) (by kernel_rfl) (fun _ _ _ h => h) (Or.inl ⟨by rfl, fun w2 hSw => by (have hc := Joins.cell_of_block (i := 0) ((hSw.block _ (Array.getElem?_eq_some_iff.1 HBW.out).1).trans HBW.out); go_simp)⟩) hHeld ?_
  try simp only [Act.put, List.setIfInBounds_toArray, List.set_cons_zero, List.set_cons_succ]
  refine takeN (i := 4) (oi := _) (v := .pointer (some ⟨W.heap.size, 0, none⟩)) 27 rfl rfl (by kernel_rfl) (by kernel_rfl) (by kernel_rfl) (fun _ _ _ h => h) (Or.inl ⟨by rfl, fun w2 hSw => by (go_simp)⟩) hHeld ?_
  try simp only [Act.put, List.setIfInBounds_toArray, List.set_cons_zero, List.set_cons_succ]
  refine takeN (i := 5) (oi := _) (v := .int .u32 (r : Int)) 28 rfl rfl (by kernel_rfl) (by kernel_rfl) (by kernel_rfl) (fun _ _ _ h => h) (Or.inl ⟨by rfl, fun w2 hSw => by (have hc := Joins.cell_of_block (i := 0) ((hSw.block _ (Array.getElem?_eq_some_iff.1 HSP.out).1).trans HSP.out); go_simp)⟩) hHeld ?_
  try simp only [Act.put, List.setIfInBounds_toArray, List.set_cons_zero, List.set_cons_succ]
  refine takeN (i := 6) (oi := _) (v := .pointer (some ⟨W.heap.size, 1, none⟩)) 29 rfl rfl (by kernel_rfl) (by kernel_rfl) (by kernel_rfl) (fun _ _ _ h => h) (Or.inl ⟨by rfl, fun w2 hSw => by (go_simp)⟩) hHeld ?_
  try simp only [Act.put, List.setIfInBounds_toArray, List.set_cons_zero, List.set_cons_succ]
  refine takeN (i := 7) (oi := _) (v := .int .i64 0) 30 rfl rfl (by kernel_rfl) (by kernel_rfl) (by kernel_rfl) (fun _ _ _ h => h) (Or.inl ⟨by rfl, fun w2 hSw => by (have hc := Joins.cell_of_block (i := 1) ((hSw.block _ (Array.getElem?_eq_some_iff.1 HSP.out).1).trans HSP.out); go_simp)⟩) hHeld ?_
  try simp only [Act.put, List.setIfInBounds_toArray, List.set_cons_zero, List.set_cons_succ]
  refine wpAnyH_ready (rs := [8, 12]) (by kernel_rfl) (by simp) ?_
  refine AllReadyH.cons rfl (fun K hK => ?_) (AllReadyH.cons rfl (fun K hK => ?_) AllReadyH.nil)
  · go_simp
    go_wp2_with (first
      | (go_at_call 95; (with_reducible refine (HLK.out _ hHeld).mono ?_); rintro e wq ⟨K3, V3, rfl, hx3, hb3⟩)
      | fail)
    have HX3 := Lib.hid hx3
    have HBQ := Lib.hid (hHeld.trans (hb3.mono hHeld.size))
    refine hK.out _ _ HBQ.out (fun hHeld => ?_)
    clear hb3 hx3
    clear hK K
    try simp only [Act.put, List.setIfInBounds_toArray, List.set_cons_zero, List.set_cons_succ]
    refine takeN (i := 9) (oi := _) (v := .tuple #[.agg #[.int .i64 (kd : Int), .int .u64 (bi : Int), K3, V3], .int .i64 0]) 22 rfl rfl (by kernel_rfl) (by kernel_rfl) (by kernel_rfl) (fun _ _ _ h => h) (Or.inl ⟨by rfl, fun w2 hSw => by (go_simp)⟩) hHeld ?_
    try simp only [Act.put, List.setIfInBounds_toArray, List.set_cons_zero, List.set_cons_succ]
    refine takeN (i := 10) (oi := _) (v := .agg #[.int .i64 (kd : Int), .int .u64 (bi : Int), K3, V3]) 32 rfl rfl (by kernel_rfl) (by kernel_rfl) (by kernel_rfl) (fun _ _ _ h => h) (Or.inl ⟨by rfl, fun w2 hSw => by (go_simp)⟩) hHeld ?_
    try simp only [Act.put, List.setIfInBounds_toArray, List.set_cons_zero, List.set_cons_succ]
    refine takeN (i := 11) (oi := _) (v := .int .i64 0) 33 rfl rfl (by kernel_rfl) (by kernel_rfl) (by kernel_rfl) (fun _ _ _ h => h) (Or.inl ⟨by rfl, fun w2 hSw => by (go_simp)⟩) hHeld ?_
    try simp only [Act.put, List.setIfInBounds_toArray, List.set_cons_zero, List.set_cons_succ]
    refine wpAnyH_ready (rs := [12]) (by kernel_rfl) (by simp) ?_
    refine AllReadyH.cons rfl (fun K hK => ?_) AllReadyH.nil
    have HSZ0 := Lib.hid hHeld.size
    go_simp
    have HBA := Lib.hid (hHeld.alloc hHeld.size (.cells #[.int .i64 0, .int .u64 0, .slice none 0 0, .slice none 0 0] 45))
    have HBOX := Lib.hid (newOf hHeld (.cells #[.int .i64 0, .int .u64 0, .slice none 0 0, .slice none 0 0] 45))
    have HX3 := Lib.hid (HX3.out.below ((Below.refl _ wq).alloc (Nat.le_refl _) (.cells #[.int .i64 0, .int .u64 0, .slice none 0 0, .slice none 0 0] 45)))
    refine hK.out _ _ HBA.out (fun hHeld => ?_)
    clear hK K
    try simp only [Act.put, List.setIfInBounds_toArray, List.set_cons_zero, List.set_cons_succ]
    refine wpAnyH_ready (rs := [13]) (by kernel_rfl) (by simp) ?_
    refine AllReadyH.cons rfl (fun K hK => ?_) AllReadyH.nil
    obtain ⟨W5, hrun5, hb5, hbx5, hx5⟩ := node_into (kd := kd) (bi := bi) hHeld HSZ0.out HBOX.out HX3.out
    rw [if_pos (by rfl)]
    refine wp_store_run 45 (.tmp 4) (.tmp 32) rfl _ 0 (.agg #[.int .i64 (kd : Int), .int .u64 (bi : Int), K3, V3]) W5 (by rfl) (by rfl) hrun5 ?_
    have HB5 := Lib.hid hb5
    have HBX5 := Lib.hid hbx5
    have HX5 := Lib.hid hx5
    refine hK.out _ _ HB5.out (fun hHeld => ?_)
    clear hrun5 hb5 hbx5 hx5 HBOX HX3 HBA HSZ0 HBQ
    clear hK K
    try simp only [Act.put, List.setIfInBounds_toArray, List.set_cons_zero, List.set_cons_succ]
    refine takeN (i := 14) (oi := _) (v := .int .i64 0) 5 rfl rfl (by kernel_rfl) (by kernel_rfl) (by kernel_rfl) (fun _ _ _ h => h) (Or.inl ⟨by rfl, fun w2 hSw => by (go_simp)⟩) hHeld ?_
    try simp only [Act.put, List.setIfInBounds_toArray, List.set_cons_zero, List.set_cons_succ]
    refine wpAnyH_done (by kernel_rfl) ?_ _
    refine NoPanic.normal ?_
    have HBW5 := Lib.hid ((HB5.out.block bw (Array.getElem?_eq_some_iff.1 HBW.out).1).trans HBW.out)
    have HSP5 := Lib.hid ((HB5.out.block W.heap.size (Array.getElem?_eq_some_iff.1 HSP.out).1).trans HSP.out)
    have HC5 := Lib.hid (HCB.out.stays (Q.Stays.of_below HB5.out (fun _ => False)) (fun e => e) (fun e => e) (fun e => e))
    have HNX := Lib.hid (fun e => by rcases e with e | e | e; (exact ne_cells HBX5.out HBW5.out (by decide) e); (exact ne_cells HBX5.out HC5.out.f (by decide) e); (exact ne_cells HBX5.out HC5.out.l (by decide) e) : ¬ (_ = bw ∨ _ = bf ∨ _ = bl))
    have HVI := Lib.hid (visit_1 W5.drew (r : Int) bf bl bk kd bi kw key val K3 V3 (HX5.out.below ((Below.refl _ W5).drew)) HC5.out.f HC5.out.l HC5.out.k HK1.out HKY.out er HER.out)
    have HNW : Hid (bw ≠ bf ∧ bw ≠ bl) := Lib.hid ⟨ne_cells HBW5.out HC5.out.f (by decide), ne_cells HBW5.out HC5.out.l (by decide)⟩
    clear hHeld
    go_upto_region 7 with fail
    refine wp_region_noPanic ?_
    refine wp_region_held_drew (S := fun w' => (∃ tl, w'.heap[bw]? = some (.cells (walkA p 0 (vC bf bl bk) 199 tl) 195 (0, 0))) ∧ Q.Stays W5 w' (fun j => j = bw ∨ j = bf ∨ j = bl)) (by kernel_rfl) ⟨⟨0, HBW5.out⟩, Q.Stays.of_below ((Below.refl _ W5).drew) _⟩ (fun hHeld => ?_)
    refine takeN (i := 0) (oi := _) (v := .pointer (some ⟨bw, 0, none⟩)) 39 rfl rfl (by kernel_rfl) (by kernel_rfl) (by kernel_rfl) (fun _ _ _ h => h) (Or.inl ⟨by rfl, fun w2 hSw => by (go_simp)⟩) hHeld ?_
    try simp only [Act.put, List.setIfInBounds_toArray, List.set_cons_zero, List.set_cons_succ]
    refine takeN (i := 1) (oi := _) (v := .pointer (some ⟨bw, 0, none⟩)) 40 rfl rfl (by kernel_rfl) (by kernel_rfl) (by kernel_rfl) (fun _ _ _ h => h) (Or.inl ⟨by rfl, fun w2 hSw => by (go_simp)⟩) hHeld ?_
    try simp only [Act.put, List.setIfInBounds_toArray, List.set_cons_zero, List.set_cons_succ]
    refine takeN (i := 2) (oi := _) (v := .pointer (some ⟨bw, 0, none⟩)) 41 rfl rfl (by kernel_rfl) (by kernel_rfl) (by kernel_rfl) (fun _ _ _ h => h) (Or.inl ⟨by rfl, fun w2 hSw => by (go_simp)⟩) hHeld ?_
    try simp only [Act.put, List.setIfInBounds_toArray, List.set_cons_zero, List.set_cons_succ]
    refine takeN (i := 3) (oi := _) (v := .pointer (some ⟨bw, 2, none⟩)) 42 rfl rfl (by kernel_rfl) (by kernel_rfl) (by kernel_rfl) (fun _ _ _ h => h) (Or.inl ⟨by rfl, fun w2 hSw => by (go_simp)⟩) hHeld ?_
    try simp only [Act.put, List.setIfInBounds_toArray, List.set_cons_zero, List.set_cons_succ]
    refine takeN (i := 4) (oi := _) (v := vC bf bl bk) 43 rfl rfl (by kernel_rfl) (by kernel_rfl) (by kernel_rfl) (fun _ _ _ h => h) (Or.inl ⟨by rfl, fun w2 hSw => by (have hc := Joins.cell_of_block (i := 2) (Classical.choose_spec hSw.1); replace hc : w2.cell? ⟨bw, 2, none⟩ = some (vC bf bl bk) := hc; go_simp)⟩) hHeld ?_
    try simp only [Act.put, List.setIfInBounds_toArray, List.set_cons_zero, List.set_cons_succ]
    refine takeN (i := 5) (oi := _) (v := .agg #[.int .u32 (r : Int), .int .i64 0, .int .u64 0, .int .u64 18446744073709551615]) 44 rfl rfl (by kernel_rfl) (by kernel_rfl) (by kernel_rfl) (fun _ _ _ h => h) (yieldsIf_load_mid (by rfl) 80 (.tmp 3) rfl W.heap.size 0 rfl [.int .u32 (r : Int), .int .i64 0, .int .u64 0, .int .u64 18446744073709551615] _ (fun w2 hSw => range_of ((hSw.2.block _ (Array.getElem?_eq_some_iff.1 HSP5.out).1 HNS.out).trans HSP5.out)) Tryz.underlying80 rfl (spotC _ _ _ _)) hHeld ?_
    try simp only [Act.put, List.setIfInBounds_toArray, List.set_cons_zero, List.set_cons_succ]
    refine takeN (i := 6) (oi := _) (v := .agg #[.int .i64 (kd : Int), .int .u64 (bi : Int), K3, V3]) 45 rfl rfl (by kernel_rfl) (by kernel_rfl) (by kernel_rfl) (fun _ _ _ h => h) (yieldsIf_load_mid (by rfl) 45 (.tmp 4) rfl _ 0 rfl [.int .i64 (kd : Int), .int .u64 (bi : Int), K3, V3] _ (fun w2 hSw => range_of ((hSw.2.block _ (Array.getElem?_eq_some_iff.1 HBX5.out).1 HNX.out).trans HBX5.out)) Tryz.underlying45 rfl (nodeC _ _ _ _)) hHeld ?_
    try simp only [Act.put, List.setIfInBounds_toArray, List.set_cons_zero, List.set_cons_succ]
    refine wpAnyH_ready (rs := [7]) (by kernel_rfl) (by simp) ?_
    refine AllReadyH.cons rfl (fun K hK => ?_) AllReadyH.nil
    go_simp
    go_wp2_with (first
      | (go_at_call 37; (with_reducible refine HVI.out.mono ?_); rintro e w6 ⟨rfl, hs6⟩)
      | fail)
    have HW6 := Lib.hid ((hs6.block bw (Array.getElem?_eq_some_iff.1 HBW5.out).1 (fun e => by have := HNW.out; omega)).trans HBW5.out)
    have HS6 : Hid (Q.Stays W5 w6 (fun j => j = bw ∨ j = bf ∨ j = bl)) := Lib.hid ((Q.Stays.of_below ((Below.refl _ W5).drew) _).trans hs6 (fun j e => .inl (.inr e)))
    have HTL := Lib.hid (tell_0 HW6.out er)
    refine hK.out _ _ ⟨⟨_, HW6.out⟩, HS6.out⟩ (fun hHeld => ?_)
    clear hs6
    clear hK K
    try simp only [Act.put, List.setIfInBounds_toArray, List.set_cons_zero, List.set_cons_succ]
    refine wpAnyH_ready (rs := [8]) (by kernel_rfl) (by simp) ?_
    refine AllReadyH.cons rfl (fun K hK => ?_) AllReadyH.nil
    go_simp
    go_wp2_with (first
      | (go_at_call 161; (with_reducible refine HTL.out.mono ?_); rintro e w7 ⟨rfl, hw7⟩; subst w7)
      | fail)
    have HW7 : Hid ((w6.setCell ⟨bw, 4, none⟩ (.int .i64 er)).heap[bw]? = some (.cells (walkA p 0 (vC bf bl bk) 199 er) 195 (0, 0))) := Lib.hid (Joins.block_setCell HW6.out (i := 4) (.int .i64 er))
    have HS7 : Hid (Q.Stays W5 (w6.setCell ⟨bw, 4, none⟩ (.int .i64 er)) (fun j => j = bw ∨ j = bf ∨ j = bl)) := Lib.hid (HS6.out.trans (stays_cell w6 bw 4 _) (fun j e => .inl (.inl e)))
    refine hK.out _ _ ⟨⟨_, HW7.out⟩, HS7.out⟩ (fun hHeld => ?_)
    clear hK K
    try simp only [Act.put, List.setIfInBounds_toArray, List.set_cons_zero, List.set_cons_succ]
    refine wpAnyH_done (by kernel_rfl) ?_ _
    refine NoPanic.normal ?_
    have e0 := Joins.cell_of_block (i := 0) ((HS7.out.block _ (Array.getElem?_eq_some_iff.1 HBX5.out).1 HNX.out).trans HBX5.out)
    have hk1 := HK1.out
    clear hHeld
    go_wp2_with fail
    first | go_ret | go_ret2 | go_end0 | refine bodyPost_ret (results_none rfl _ _ _) rfl ?_
    exact ⟨rfl, Lib.hid ⟨HW7.out, ((HST3.out.up (fun _ e => .inl e)).trans (Q.Stays.of_below HB5.out (fun _ => False)) (fun _ e => e.elim)).trans HS7.out (fun _ e => .inl e)⟩⟩
  · have HSZ0 : Hid (W3.heap.size ≤ W3.heap.size) := Lib.hid (Nat.le_refl _)
    go_simp
    have HBA := Lib.hid (hHeld.alloc hHeld.size (.cells #[.int .i64 0, .int .u64 0, .slice none 0 0, .slice none 0 0] 45))
    have HBOX : Hid ((W3.drew.alloc (.cells #[.int .i64 0, .int .u64 0, .slice none 0 0, .slice none 0 0] 45)).heap[W3.heap.size]? = some (.cells #[.int .i64 0, .int .u64 0, .slice none 0 0, .slice none 0 0] 45)) := Lib.hid (newOf hHeld (.cells #[.int .i64 0, .int .u64 0, .slice none 0 0, .slice none 0 0] 45))
    refine hK.out _ _ HBA.out (fun hHeld => ?_)
    clear hK K
    try simp only [Act.put, List.setIfInBounds_toArray, List.set_cons_zero, List.set_cons_succ]
    refine wpAnyH_ready (rs := [8]) (by kernel_rfl) (by simp) ?_
    refine AllReadyH.cons rfl (fun K hK => ?_) AllReadyH.nil
    go_simp
    go_wp2_with (first
      | (go_at_call 95; (with_reducible refine (HLK.out _ hHeld).mono ?_); rintro e wq ⟨K3, V3, rfl, hx3, hb3⟩)
      | fail)
    have HX3 := Lib.hid hx3
    have hbx3 := (hb3.block _ ((Array.getElem?_eq_some_iff.1 HBOX.out).1)).trans HBOX.out
    clear HBOX
    have HBOX := Lib.hid hbx3
    clear hbx3
    have HBQ := Lib.hid (hHeld.trans (hb3.mono hHeld.size))
    refine hK.out _ _ HBQ.out (fun hHeld => ?_)
    clear hb3 hx3
    clear hK K
    try simp only [Act.put, List.setIfInBounds_toArray, List.set_cons_zero, List.set_cons_succ]
    refine takeN (i := 9) (oi := _) (v := .tuple #[.agg #[.int .i64 (kd : Int), .int .u64 (bi : Int), K3, V3], .int .i64 0]) 22 rfl rfl (by kernel_rfl) (by kernel_rfl) (by kernel_rfl) (fun _ _ _ h => h) (Or.inl ⟨by rfl, fun w2 hSw => by (go_simp)⟩) hHeld ?_
    try simp only [Act.put, List.setIfInBounds_toArray, List.set_cons_zero, List.set_cons_succ]
    refine takeN (i := 10) (oi := _) (v := .agg #[.int .i64 (kd : Int), .int .u64 (bi : Int), K3, V3]) 32 rfl rfl (by kernel_rfl) (by kernel_rfl) (by kernel_rfl) (fun _ _ _ h => h) (Or.inl ⟨by rfl, fun w2 hSw => by (go_simp)⟩) hHeld ?_
    try simp only [Act.put, List.setIfInBounds_toArray, List.set_cons_zero, List.set_cons_succ]
    refine takeN (i := 11) (oi := _) (v := .int .i64 0) 33 rfl rfl (by kernel_rfl) (by kernel_rfl) (by kernel_rfl) (fun _ _ _ h => h) (Or.inl ⟨by rfl, fun w2 hSw => by (go_simp)⟩) hHeld ?_
    try simp only [Act.put, List.setIfInBounds_toArray, List.set_cons_zero, List.set_cons_succ]
    refine wpAnyH_ready (rs := [13]) (by kernel_rfl) (by simp) ?_
    refine AllReadyH.cons rfl (fun K hK => ?_) AllReadyH.nil
    obtain ⟨W5, hrun5, hb5, hbx5, hx5⟩ := node_into (kd := kd) (bi := bi) hHeld HSZ0.out HBOX.out HX3.out
    rw [if_pos (by rfl)]
    refine wp_store_run 45 (.tmp 4) (.tmp 32) rfl _ 0 (.agg #[.int .i64 (kd : Int), .int .u64 (bi : Int), K3, V3]) W5 (by rfl) (by rfl) hrun5 ?_
    have HB5 := Lib.hid hb5
    have HBX5 := Lib.hid hbx5
    have HX5 := Lib.hid hx5
    refine hK.out _ _ HB5.out (fun hHeld => ?_)
    clear hrun5 hb5 hbx5 hx5 HBOX HX3 HBA HSZ0 HBQ
    clear hK K
    try simp only [Act.put, List.setIfInBounds_toArray, List.set_cons_zero, List.set_cons_succ]
    refine takeN (i := 14) (oi := _) (v := .int .i64 0) 5 rfl rfl (by kernel_rfl) (by kernel_rfl) (by kernel_rfl) (fun _ _ _ h => h) (Or.inl ⟨by rfl, fun w2 hSw => by (go_simp)⟩) hHeld ?_
    try simp only [Act.put, List.setIfInBounds_toArray, List.set_cons_zero, List.set_cons_succ]
    refine wpAnyH_done (by kernel_rfl) ?_ _
    refine NoPanic.normal ?_
    have HBW5 := Lib.hid ((HB5.out.block bw (Array.getElem?_eq_some_iff.1 HBW.out).1).trans HBW.out)
    have HSP5 := Lib.hid ((HB5.out.block W.heap.size (Array.getElem?_eq_some_iff.1 HSP.out).1).trans HSP.out)
    have HC5 := Lib.hid (HCB.out.stays (Q.Stays.of_below HB5.out (fun _ => False)) (fun e => e) (fun e => e) (fun e => e))
    have HNX := Lib.hid (fun e => by rcases e with e | e | e; (exact ne_cells HBX5.out HBW5.out (by decide) e); (exact ne_cells HBX5.out HC5.out.f (by decide) e); (exact ne_cells HBX5.out HC5.out.l (by decide) e) : ¬ (_ = bw ∨ _ = bf ∨ _ = bl))
    have HVI := Lib.hid (visit_1 W5.drew (r : Int) bf bl bk kd bi kw key val K3 V3 (HX5.out.below ((Below.refl _ W5).drew)) HC5.out.f HC5.out.l HC5.out.k HK1.out HKY.out er HER.out)
    have HNW : Hid (bw ≠ bf ∧ bw ≠ bl) := Lib.hid ⟨ne_cells HBW5.out HC5.out.f (by decide), ne_cells HBW5.out HC5.out.l (by decide)⟩
    clear hHeld
    go_upto_region 7 with fail
    refine wp_region_noPanic ?_
    refine wp_region_held_drew (S := fun w' => (∃ tl, w'.heap[bw]? = some (.cells (walkA p 0 (vC bf bl bk) 199 tl) 195 (0, 0))) ∧ Q.Stays W5 w' (fun j => j = bw ∨ j = bf ∨ j = bl)) (by kernel_rfl) ⟨⟨0, HBW5.out⟩, Q.Stays.of_below ((Below.refl _ W5).drew) _⟩ (fun hHeld => ?_)
    refine takeN (i := 0) (oi := _) (v := .pointer (some ⟨bw, 0, none⟩)) 39 rfl rfl (by kernel_rfl) (by kernel_rfl) (by kernel_rfl) (fun _ _ _ h => h) (Or.inl ⟨by rfl, fun w2 hSw => by (go_simp)⟩) hHeld ?_
    try simp only [Act.put, List.setIfInBounds_toArray, List.set_cons_zero, List.set_cons_succ]
    refine takeN (i := 1) (oi := _) (v := .pointer (some ⟨bw, 0, none⟩)) 40 rfl rfl (by kernel_rfl) (by kernel_rfl) (by kernel_rfl) (fun _ _ _ h => h) (Or.inl ⟨by rfl, fun w2 hSw => by (go_simp)⟩) hHeld ?_
    try simp only [Act.put, List.setIfInBounds_toArray, List.set_cons_zero, List.set_cons_succ]
    refine takeN (i := 2) (oi := _) (v := .pointer (some ⟨bw, 0, none⟩)) 41 rfl rfl (by kernel_rfl) (by kernel_rfl) (by kernel_rfl) (fun _ _ _ h => h) (Or.inl ⟨by rfl, fun w2 hSw => by (go_simp)⟩) hHeld ?_
    try simp only [Act.put, List.setIfInBounds_toArray, List.set_cons_zero, List.set_cons_succ]
    refine takeN (i := 3) (oi := _) (v := .pointer (some ⟨bw, 2, none⟩)) 42 rfl rfl (by kernel_rfl) (by kernel_rfl) (by kernel_rfl) (fun _ _ _ h => h) (Or.inl ⟨by rfl, fun w2 hSw => by (go_simp)⟩) hHeld ?_
    try simp only [Act.put, List.setIfInBounds_toArray, List.set_cons_zero, List.set_cons_succ]
    refine takeN (i := 4) (oi := _) (v := vC bf bl bk) 43 rfl rfl (by kernel_rfl) (by kernel_rfl) (by kernel_rfl) (fun _ _ _ h => h) (Or.inl ⟨by rfl, fun w2 hSw => by (have hc := Joins.cell_of_block (i := 2) (Classical.choose_spec hSw.1); replace hc : w2.cell? ⟨bw, 2, none⟩ = some (vC bf bl bk) := hc; go_simp)⟩) hHeld ?_
    try simp only [Act.put, List.setIfInBounds_toArray, List.set_cons_zero, List.set_cons_succ]
    refine takeN (i := 5) (oi := _) (v := .agg #[.int .u32 (r : Int), .int .i64 0, .int .u64 0, .int .u64 18446744073709551615]) 44 rfl rfl (by kernel_rfl) (by kernel_rfl) (by kernel_rfl) (fun _ _ _ h => h) (yieldsIf_load_mid (by rfl) 80 (.tmp 3) rfl W.heap.size 0 rfl [.int .u32 (r : Int), .int .i64 0, .int .u64 0, .int .u64 18446744073709551615] _ (fun w2 hSw => range_of ((hSw.2.block _ (Array.getElem?_eq_some_iff.1 HSP5.out).1 HNS.out).trans HSP5.out)) Tryz.underlying80 rfl (spotC _ _ _ _)) hHeld ?_
    try simp only [Act.put, List.setIfInBounds_toArray, List.set_cons_zero, List.set_cons_succ]
    refine takeN (i := 6) (oi := _) (v := .agg #[.int .i64 (kd : Int), .int .u64 (bi : Int), K3, V3]) 45 rfl rfl (by kernel_rfl) (by kernel_rfl) (by kernel_rfl) (fun _ _ _ h => h) (yieldsIf_load_mid (by rfl) 45 (.tmp 4) rfl _ 0 rfl [.int .i64 (kd : Int), .int .u64 (bi : Int), K3, V3] _ (fun w2 hSw => range_of ((hSw.2.block _ (Array.getElem?_eq_some_iff.1 HBX5.out).1 HNX.out).trans HBX5.out)) Tryz.underlying45 rfl (nodeC _ _ _ _)) hHeld ?_
    try simp only [Act.put, List.setIfInBounds_toArray, List.set_cons_zero, List.set_cons_succ]
    refine wpAnyH_ready (rs := [7]) (by kernel_rfl) (by simp) ?_
    refine AllReadyH.cons rfl (fun K hK => ?_) AllReadyH.nil
    go_simp
    go_wp2_with (first
      | (go_at_call 37; (with_reducible refine HVI.out.mono ?_); rintro e w6 ⟨rfl, hs6⟩)
      | fail)
    have HW6 := Lib.hid ((hs6.block bw (Array.getElem?_eq_some_iff.1 HBW5.out).1 (fun e => by have := HNW.out; omega)).trans HBW5.out)
    have HS6 : Hid (Q.Stays W5 w6 (fun j => j = bw ∨ j = bf ∨ j = bl)) := Lib.hid ((Q.Stays.of_below ((Below.refl _ W5).drew) _).trans hs6 (fun j e => .inl (.inr e)))
    have HTL := Lib.hid (tell_0 HW6.out er)
    refine hK.out _ _ ⟨⟨_, HW6.out⟩, HS6.out⟩ (fun hHeld => ?_)
    clear hs6
    clear hK K
    try simp only [Act.put, List.setIfInBounds_toArray, List.set_cons_zero, List.set_cons_succ]
    refine wpAnyH_ready (rs := [8]) (by kernel_rfl) (by simp) ?_
    refine AllReadyH.cons rfl (fun K hK => ?_) AllReadyH.nil
    go_simp
    go_wp2_with (first
      | (go_at_call 161; (with_reducible refine HTL.out.mono ?_); rintro e w7 ⟨rfl, hw7⟩; subst w7)
      | fail)
    have HW7 : Hid ((w6.setCell ⟨bw, 4, none⟩ (.int .i64 er)).heap[bw]? = some (.cells (walkA p 0 (vC bf bl bk) 199 er) 195 (0, 0))) := Lib.hid (Joins.block_setCell HW6.out (i := 4) (.int .i64 er))
    have HS7 : Hid (Q.Stays W5 (w6.setCell ⟨bw, 4, none⟩ (.int .i64 er)) (fun j => j = bw ∨ j = bf ∨ j = bl)) := Lib.hid (HS6.out.trans (stays_cell w6 bw 4 _) (fun j e => .inl (.inl e)))
    refine hK.out _ _ ⟨⟨_, HW7.out⟩, HS7.out⟩ (fun hHeld => ?_)
    clear hK K
    try simp only [Act.put, List.setIfInBounds_toArray, List.set_cons_zero, List.set_cons_succ]
    refine wpAnyH_done (by kernel_rfl) ?_ _
    refine NoPanic.normal ?_
    have e0 := Joins.cell_of_block (i := 0) ((HS7.out.block _ (Array.getElem?_eq_some_iff.1 HBX5.out).1 HNX.out).trans HBX5.out)
    have hk1 := HK1.out
    clear hHeld
    go_wp2_with fail
    first | go_ret | go_ret2 | go_end0 | refine bodyPost_ret (results_none rfl _ _ _) rfl ?_
    exact ⟨rfl, Lib.hid ⟨HW7.out, ((HST3.out.up (fun _ e => .inl e)).trans (Q.Stays.of_below HB5.out (fun _ => False)) (fun _ e => e.elim)).trans HS7.out (fun _ e => .inl e)⟩⟩
set_option maxRecDepth 100000 in
set_option maxHeartbeats 4000000 in
theorem over_C {r : Nat} {W : World} {k : LK} {kd bi kw key val : Nat} (h : LookL W.heap.size W k.p r kd bi key val) (hrd : RdyAs W.heap.size W k.p 0) (hsu : ∀ W', Below W.heap.size W W' → Calls Tryz.prog 68 #[k.p] W' fun e w' => e = .returned (.agg (uC 200 60).toArray) ∧ Below W'.heap.size W' w') (h0 : 0 < r) (bf bl bk : Nat) (hcb : CB W bf bl bk kw) (hk1 : ¬ (kd : Int) = 1) (hkey : key < 18446744073709551616) (er : Int) (her : er = if kd = kw then 0 else 14) :
    Calls Tryz.prog 36 #[k.p, .int .u32 (r : Int), .int .u64 0, vC bf bl bk] W fun e w' => e = .returned (.int .i64 er) ∧ Q.Stays W w' (fun j => j = bf ∨ j = bl) := by
  have HR := Lib.hid (hrd W (Below.refl _ W))
  have HSU : Hid (∀ W', Below W.heap.size W W' → Calls Tryz.prog 68 #[k.p] W' fun e w' => e = .returned (.agg (uC 200 60).toArray) ∧ Below W'.heap.size W' w') := Lib.hid fun W' hb' => hsu W' hb'
  have HUN : Hid (∀ W' bw, Below W.heap.size W W' → W.heap.size ≤ bw → W'.heap[bw]? = some (.cells (walkA k.p 0 (vC bf bl bk) 200 0) 195 (0, 0)) → Calls Tryz.prog 94 #[.pointer (some ⟨bw, 0, none⟩), .agg #[.int .u32 (r : Int), .int .i64 0, .int .u64 0, .int .u64 18446744073709551615]] W' fun e w' => e = .returned (.tuple #[]) ∧ Hid (w'.heap[bw]? = some (.cells (walkA k.p 0 (vC bf bl bk) 199 er) 195 (0, 0)) ∧ Q.Stays W' w' (fun j => j = bw ∨ j = bf ∨ j = bl))) := Lib.hid fun W' bw hb' hw hbw => under_C h hb' bw bf bl bk hbw (hcb.below hb') hw hk1 hkey er her
  have hr0 : ¬ (r : Int) = 0 := by omega
  have hfd : ∀ w1 : World, (Instr.field 144 (.agg (uC 200 60).toArray) 1).run Tryz.prog w1 = .ok (.int .i64 200) w1 := fun w1 => super_meta w1
  have HCL : Hid (bf < W.heap.size ∧ bl < W.heap.size) := Lib.hid ⟨(Array.getElem?_eq_some_iff.1 hcb.f).1, (Array.getElem?_eq_some_iff.1 hcb.l).1⟩
  clear h hcb hkey her hrd hsu
  obtain ⟨cl, hcl⟩ : ∃ cl, uC 200 60 = cl := ⟨_, rfl⟩
  rw [hcl] at HSU hfd
  clear hcl
  have hzw := walk_zero
  unfold LK.p at *
  go_enter Tryz.func36, Tryz.ntmps36
  go_upto_region 5 with (first
    | (go_at_call 32; (with_reducible refine HR.out.mono ?_); rintro e w1 ⟨rfl, hb1⟩; have HB1 := Lib.hid hb1; clear hb1)
    | (go_at_call 68; (with_reducible refine (HSU.out _ HB1.out).mono ?_); rintro e w2 ⟨rfl, hb2⟩; have HB2 := Lib.hid (HB1.out.trans (hb2.mono HB1.out.size)); have HWN := Lib.hid (walk_new (.pointer (some ⟨k.bs, 0, none⟩)) 0 (vC bf bl bk) 200 0 rfl rfl w2); clear hb2)
    | ((with_reducible show wpList _ _ _ ({ dst := _, op := .store _ _ _, type := _, pos := _, after := _, guard := _ } :: _) _ _); refine wpList_store_run rfl 195 (.tmp 10) (.tmp 26) rfl w2.heap.size 0 _ ?ws26 rfl rfl ?hs26 ?_; (case hs26 => exact HWN.out))
    | fail)
  have hbx := heap_alloc_new w2 (.cells (walkA (.pointer (some ⟨k.bs, 0, none⟩)) 0 (vC bf bl bk) 200 0) 195)
  have HB3 := Lib.hid (HB2.out.alloc HB2.out.size (.cells (walkA (.pointer (some ⟨k.bs, 0, none⟩)) 0 (vC bf bl bk) 200 0) 195))
  have HU3 := Lib.hid (HUN.out _ w2.heap.size HB3.out HB2.out.size hbx)
  unfold walkA at HU3 HB3
  obtain ⟨W3, hW3⟩ : ∃ W3, w2.alloc (.cells #[.pointer (some ⟨k.bs, 0, none⟩), .int .u64 0, vC bf bl bk, .int .i64 200, .int .i64 0] 195) = W3 := ⟨_, rfl⟩
  rw [hW3] at HU3 HB3 ⊢
  clear hbx hW3
  go_upto_region 6 with (first
    | (go_at_call 94; (with_reducible refine HU3.out.mono ?_); rintro e w4 ⟨rfl, h4⟩)
    | fail)
  have hc4 : w4.cell? ⟨w2.heap.size, 4, none⟩ = some (.int .i64 er) := Joins.cell_of_block (i := 4) h4.out.1
  go_wp2_with fail
  go_ret
  exact ⟨rfl, ((Q.Stays.of_below HB3.out _).trans h4.out.2 (fun j e => by
    rcases e with e | e
    · exact .inr (by have := HB2.out.size; omega)
    · exact .inl e))⟩
set_option maxRecDepth 100000 in
set_option maxHeartbeats 4000000 in
/-- Check of a leaf with one key -/
theorem LS.Check1 {w W : World} {k : LK} {c : C.CS} {q : Nat} {D : DataW Value} {r kd bi kw key val : Nat} {K2 V2 : Value} (h : LS w W k c q D) (ha : AtD D r (.agg #[.int .i64 (kd : Int), .int .u64 (bi : Int), K2, V2])) (hx : NO W K2 V2 [key] [val]) (hc : c.now.length = 200) (h0 : 0 < r) (h2 : r < 200) (hk1 : ¬ (kd : Int) = 1) (hkey : key < 18446744073709551616) (er : Int) (her : er = if kd = kw then 0 else 14) :
    Calls Tryz.prog 8 #[k.p, .int .u32 (r : Int), .int .i64 (kw : Int)] W fun e w' => e = .returned (.int .i64 er) ∧ Below W.heap.size W w' := by
  obtain ⟨W3, hW3⟩ : ∃ W3, ((W.alloc (.cells #[.int .i64 (kw : Int)] 29)).alloc (.cells #[.int .i64 0] 3)).alloc (.cells #[.bool true] 4) = W3 := ⟨_, rfl⟩
  have hb : Below W.heap.size W W3 := by
    rw [← hW3]
    exact belA (belA (belA (Below.refl W.heap.size W) _) _) _
  have hcb : CB W3 (W.heap.size + 1 + 1) (W.heap.size + 1) W.heap.size kw := by
    rw [← hW3]
    exact ⟨heap_at _ _ _ (by simp only [World.size_alloc]), (Below.heap_alloc _ _ _ (by simp only [World.size_alloc]; omega)).trans (heap_at _ _ _ (by simp only [World.size_alloc])), (Below.heap_alloc _ _ _ (by simp only [World.size_alloc]; omega)).trans ((Below.heap_alloc _ _ _ (by simp only [World.size_alloc]; omega)).trans (heap_at _ _ _ rfl))⟩
  have l3 := h.below hb
  have HO := Lib.hid (over_C (r := r) (kd := kd) (bi := bi) (kw := kw) (key := key) (val := val) (fun W' hb' => (l3.below hb').lookD ha ((hx.below hb).below hb') hc h0 h2 (by simp) (by simp) hk1) l3.rdy (fun W' hb' => (l3.below hb').super) h0 _ _ _ hcb hk1 hkey er her)
  have HB3 := Lib.hid hb
  clear h ha hx hb hcb l3 her
  unfold LK.p at *
  go_enter Tryz.func8, Tryz.ntmps8
  go_upto_region 2 with fail
  try rw [hW3]
  clear hW3
  go_wp2_with (first
    | (go_at_call 36; (with_reducible refine HO.out.mono ?_); rintro e w4 ⟨rfl, h4⟩)
    | fail)
  go_ret
  exact ⟨rfl, HB3.out.trans (h4.below HB3.out.size (fun j hj => by rcases hj with e | e <;> omega))⟩
end Go.Proofs.YtoclhiaidbfheaaGreatDoor.T
