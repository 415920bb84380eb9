/- btree: a trial beside its store; its Node. btree: a trial's fresh. btree: a trial's Shadow. btree: a trial's Free. btree: put into an empty tree, over a trial and over the store. btree: Put into an empty tree. btree: Put into an empty tree, whole. -/
import Derived.Test.YtoclhiaidbfheaaGreatDoorHc
import Derived.Handy
section
set_option linter.unusedVariables false
namespace Go.Proofs.YtoclhiaidbfheaaGreatDoor.T
open Go.RowKit Q S Go.ChangeMaps Go.MapKept

/-- a store all of which lies below B -/
structure LB (w W : World) (k : LK) (c : C.CS) (q : Nat) (D : DataW Value) (B : Nat) : Prop where
  ls : LS w W k c q D
  fb : ∃ F, PD W F k.bd fmT ∧ ∀ j, F j → w.heap.size ≤ j ∧ j ≠ k.mp ∧ j < B
  mb : ∀ j, k.mine j → j < B
  wb : w.heap.size ≤ B
/-- a trial, beside its store: all of it lies from B on -/
structure TS (w W : World) (k : LK) (c : C.CS) (q : Nat) (D : DataW Value) (b : Nat) (rm : Int) (m1 nx m2 q1 : Nat) (D1 : DataW Value) (q2 : Nat) (D2 : DataW Value) (B : Nat) : Prop where
  lb : LB w W k c q D B
  tt : TT W b k.p 200 60 rm m1 nx m2 false q1 D1 q2 D2
  hi : ∀ j, tts b m1 m2 j → B ≤ j
def gts (k : LK) (b m1 m2 j : Nat) : Prop := k.touch j ∨ tts b m1 m2 j
section
variable {w W W' : World} {k : LK} {c c' : C.CS} {q q' : Nat} {D D' : DataW Value} {b : Nat} {rm rm' : Int} {m1 nx nx' m2 : Nat} {q1 q1' : Nat} {D1 D1' : DataW Value} {q2 q2' : Nat} {D2 D2' : DataW Value} {B : Nat}
theorem LB.start (h : LS w W k c q D) : LB w W k c q D W.heap.size := by
  obtain ⟨F, f1, f2⟩ := h.pd
  exact ⟨h, ⟨F, f1, fun j hj => ⟨(f2 j hj).1, (f2 j hj).2, f1.lt hj⟩⟩, fun j hj => h.mlt hj, h.bel.size⟩
theorem LB.on {G : Nat → Prop} (h : LB w W k c q D B) (hs : Q.Stays W W' G) (hG : ∀ j, G j → B ≤ j) : LB w W' k c q D B := by
  obtain ⟨F, f1, f2⟩ := h.fb
  have hm : ∀ j, k.mine j → ¬ G j := fun j hj e => by have := h.mb j hj; have := hG j e; omega
  have hL := h.ls
  have f1' : PD W' F k.bd fmT := f1.on (fun j hj => hs.block j (f1.lt hj) (fun e => by have := (f2 j hj).2.2; have := hG j e; omega))
  exact ⟨⟨⟨(hs.block k.bs hL.st.lt (hm _ (.inr (.inr rfl)))).trans hL.st.blk⟩, AX.keep hL.am hs (fun j hj => hm j (.inl (.inl hj))), AX.keep hL.at_ hs (fun j hj => hm j (.inr (.inl hj))), hL.mp.on (hs.block k.mp hL.mp.lt (hm _ (.inl (.inr rfl)))), ⟨F, f1', fun j hj => ⟨(f2 j hj).1, (f2 j hj).2.1⟩⟩, hL.bel.trans (hs.below hL.bel.size (fun j hj => Nat.le_trans h.wb (hG j hj))), hL.lo, hL.fm, hL.ft⟩, ⟨F, f1', f2⟩, h.mb, h.wb⟩
theorem LB.kept (h : LB w W k c q D B) (hk : Kept w W W' k c' q' D') : LB w W' k c' q' D' B := by
  obtain ⟨F, f1, f2⟩ := h.fb
  exact ⟨hk.1, ⟨F, f1.on (fun j hj => hk.2.block j (f1.lt hj) (fun e => e.elim (fun e => foot_cells h.ls.am e (f1.kind hj)) (fun e => (f2 j hj).2.1 e))), f2⟩, h.mb, h.wb⟩
theorem TS.below (h : TS w W k c q D b rm m1 nx m2 q1 D1 q2 D2 B) (hb : Below W.heap.size W W') : TS w W' k c q D b rm m1 nx m2 q1 D1 q2 D2 B := ⟨h.lb.on (Q.Stays.of_below hb (fun _ => False)) (fun _ e => e.elim), h.tt.below hb, h.hi⟩
theorem TS.on {G : Nat → Prop} (h : TS w W k c q D b rm m1 nx m2 q1 D1 q2 D2 B) (hs : Q.Stays W W' G) (hG : ∀ j, G j → B ≤ j) (ht : ∀ j, tts b m1 m2 j → ¬ G j) : TS w W' k c q D b rm m1 nx m2 q1 D1 q2 D2 B := ⟨h.lb.on hs hG, h.tt.on hs ht, h.hi⟩
theorem TS.trial (h : TS w W k c q D b rm m1 nx m2 q1 D1 q2 D2 B) (ht : TT W' b k.p 200 60 rm' m1 nx' m2 false q1' D1' q2' D2') (hs : Q.Stays W W' (tts b m1 m2)) : TS w W' k c q D b rm' m1 nx' m2 q1' D1' q2' D2' B := ⟨h.lb.on hs h.hi, ht, h.hi⟩
theorem TS.store (h : TS w W k c q D b rm m1 nx m2 q1 D1 q2 D2 B) (hk : Kept w W W' k c' q' D') : TS w W' k c' q' D' b rm m1 nx m2 q1 D1 q2 D2 B := ⟨h.lb.kept hk, h.tt.on hk.2 (fun j hj e => by have := h.hi j hj; have := h.lb.mb j (.inl e); omega), h.hi⟩
theorem TS.nums (h : TS w W k c q D b rm m1 nx m2 q1 D1 q2 D2 B) : ∀ j cs, W.heap[j]? = some (.cells cs 23 (0, 0)) → ¬ gts k b m1 m2 j := fun j cs hc e => e.elim (h.lb.ls.nums j cs hc) (h.tt.nums j cs hc)
theorem TS.glt (h : TS w W k c q D b rm m1 nx m2 q1 D1 q2 D2 B) {j : Nat} (hj : gts k b m1 m2 j) : j < W.heap.size := hj.elim (fun e => h.lb.ls.tlt e) (fun e => h.tt.lt e)
theorem TS.size (h : TS w W k c q D b rm m1 nx m2 q1 D1 q2 D2 B) : B ≤ W.heap.size := by
  have h1 := h.hi b (.inl rfl)
  have h2 := h.tt.box.lt
  omega
variable {r : Nat} {kd bi : Nat} {K2 V2 : Value} {ks vs : List Nat}
set_option maxRecDepth 100000 in
set_option maxHeartbeats 2000000 in
theorem TS.node1 (h : TS w W k c q D b rm m1 nx m2 q1 (dm1 r (.agg #[.int .i64 (kd : Int), .int .u64 (bi : Int), K2, V2])) q2 D2 B) (hx : NO W K2 V2 ks vs) (hr : r < 4294967296) (hl : ks.length ≤ 1000) (hl2 : vs.length ≤ 1000) : Calls Tryz.prog 282 #[.pointer (some ⟨b, 0, none⟩), .int .u32 (r : Int)] W fun e w' => ∃ K3 V3, e = .returned (.tuple #[.agg #[.int .i64 (kd : Int), .int .u64 (bi : Int), K3, V3], .int .i64 0]) ∧ NO w' K3 V3 ks vs ∧ Below W.heap.size W w' := by
  obtain ⟨W1, hW1⟩ : ∃ W1, W.alloc (.cells #[.int .i64 0, .int .u64 0, .slice none 0 0, .slice none 0 0] 45) = W1 := ⟨_, rfl⟩
  have hb1 : Below W.heap.size W W1 := by rw [← hW1]; exact (Below.refl _ W).alloc (Nat.le_refl _) _
  have hbx : W1.heap[W.heap.size]? = some (.cells #[.int .i64 0, .int .u64 0, .slice none 0 0, .slice none 0 0] 45 (0, 0)) := by rw [← hW1]; exact heap_alloc_new W _
  have hz1 : W1.heap.size = W.heap.size + 1 := by rw [← hW1]; simp
  have h1 := h.tt.below hb1
  have HLK := Lib.hid (h1.says.look1 hr)
  have h22 : W1.cell? ⟨b, 4, none⟩ = some (.map (some m1)) := Joins.cell_of_block (i := 4) h1.box
  have HST := Lib.hid (node_new (kd : Int) (bi : Int) K2 V2 hx.one.1 hx.one.2 W1)
  obtain ⟨W2, hW2⟩ : ∃ W2, W1.alloc (.cells #[.int .i64 (kd : Int), .int .u64 (bi : Int), K2, V2] 45) = W2 := ⟨_, rfl⟩
  have hb2 : Below W1.heap.size W1 W2 := by rw [← hW2]; exact (Below.refl _ W1).alloc (Nat.le_refl _) _
  have hbx2 : W2.heap[W1.heap.size]? = some (.cells #[.int .i64 (kd : Int), .int .u64 (bi : Int), K2, V2] 45 (0, 0)) := by rw [← hW2]; exact heap_alloc_new W1 _
  have hx2 := (hx.below hb1).below hb2
  have HCP := Lib.hid (hx2.copy kd bi hl hl2)
  have HBX2 := Lib.hid (range_of hbx2)
  have HB0 := Lib.hid ((hb2.block W.heap.size (by omega)).trans hbx)
  have HB12 := Lib.hid (hb1.trans (hb2.mono hb1.size))
  rw [hW2] at HST
  have HW2 := Lib.hid hW2
  have HW1 := Lib.hid hW1
  rw [hz1] at HST HBX2
  clear h hx hx2 hb1 hb2 hbx hbx2 h1
  have hz := node_zero
  go_enter Tryz.func282, Tryz.ntmps282
  go_wp2_with (first
    | (at_lookup; refine wpList_lookup_ok _ rfl (.tmp 14) (.tmp 15) 167 rfl _ _ _ rfl rfl HLK.out ?_)
    | (refine wpList_store_run rfl 45 (.tmp 6) (.tmp 17) rfl (W.heap.size + 1) 0 _ _ rfl rfl HST.out ?_)
    | (refine wpList_load_mid rfl 45 (.tmp 6) rfl (W.heap.size + 1) 0 rfl [.int .i64 (kd : Int), .int .u64 (bi : Int), K2, V2] _ HBX2.out Tryz.underlying45 rfl (nodeC _ _ _ _) ?_)
    | (go_at_call 107; (with_reducible refine HCP.out.mono ?_); rintro e w3 ⟨K3, V3, rfl, hx3, hb3⟩; have HX3 := Lib.hid hx3; have HB3 := Lib.hid hb3; have HC3 := Lib.hid ((hb3.block W.heap.size (Array.getElem?_eq_some_iff.1 HB0.out).1).trans HB0.out); have HS3 := Lib.hid (node_box HC3.out rfl (kd : Int) (bi : Int) K3 V3 hx3.one.1 hx3.one.2); clear hx3 hb3)
    | (refine wpList_store_run rfl 45 (.tmp 4) (.tmp 21) rfl W.heap.size 0 _ _ rfl rfl HS3.out ?_)
    | fail)
  exact bodyPost_ret (results_ct rfl _ _ _ _ _ rfl rfl (load_node (setRow_at HC3.out) rfl)) rfl ⟨K3, V3, rfl, HX3.out.on (Q.Stays.set_row HC3.out) (fun j cs hc e => by rw [show j = W.heap.size from e] at hc; exact absurd (cells_ne hc HC3.out) (by decide)), below_setRow (HB12.out.trans (HB3.out.mono HB12.out.size)) (Nat.le_refl _) _⟩
set_option maxRecDepth 100000 in
set_option maxHeartbeats 4000000 in
theorem TS.node0 (h : TS w W k c q (dm1 r (.agg #[.int .i64 (kd : Int), .int .u64 (bi : Int), K2, V2])) b rm m1 nx m2 q1 dm0 q2 D2 B) (hx : NO W K2 V2 ks vs) (hc : c.now.length = 200) (h0 : 0 < r) (h2 : r < 200) (hl : ks.length ≤ 1000) (hl2 : vs.length ≤ 1000) : Calls Tryz.prog 282 #[.pointer (some ⟨b, 0, none⟩), .int .u32 (r : Int)] W fun e w' => ∃ K3 V3, e = .returned (.tuple #[.agg #[.int .i64 (kd : Int), .int .u64 (bi : Int), K3, V3], .int .i64 0]) ∧ Hid (NB w' W.heap.size K3 V3 ks vs ∧ TS w w' k c q (dm1 r (.agg #[.int .i64 (kd : Int), .int .u64 (bi : Int), K2, V2])) b rm m1 nx m2 q1 dm0 q2 D2 B ∧ Q.Stays W w' (tts b m1 m2)) := by
  obtain ⟨W1, hW1⟩ : ∃ W1, W.alloc (.cells #[.int .i64 0, .int .u64 0, .slice none 0 0, .slice none 0 0] 45) = W1 := ⟨_, rfl⟩
  have hb1 : Below W.heap.size W W1 := by rw [← hW1]; exact (Below.refl _ W).alloc (Nat.le_refl _) _
  have hbx : W1.heap[W.heap.size]? = some (.cells #[.int .i64 0, .int .u64 0, .slice none 0 0, .slice none 0 0] 45 (0, 0)) := by rw [← hW1]; exact heap_alloc_new W _
  have hz1 : W1.heap.size = W.heap.size + 1 := by rw [← hW1]; simp
  have h1 := h.below hb1
  have x1 := hx.below hb1
  have HLK := Lib.hid (h1.tt.says.look0 r (by omega))
  have h22 : W1.cell? ⟨b, 4, none⟩ = some (.map (some m1)) := Joins.cell_of_block (i := 4) h1.tt.box
  have HST := Lib.hid (node_new 0 0 (.slice none 0 0) (.slice none 0 0) rfl rfl W1)
  obtain ⟨W2, hW2⟩ : ∃ W2, W1.alloc (.cells #[.int .i64 0, .int .u64 0, .slice none 0 0, .slice none 0 0] 45) = W2 := ⟨_, rfl⟩
  have hb2 : Below W1.heap.size W1 W2 := by rw [← hW2]; exact (Below.refl _ W1).alloc (Nat.le_refl _) _
  have s2 := h1.below hb2
  have HND := Lib.hid (s2.lb.ls.node (x1.below hb2) hc h0 h2 hl hl2)
  have HB12 := Lib.hid (hb1.trans (hb2.mono hb1.size))
  have HB0 := Lib.hid ((hb2.block W.heap.size (by omega)).trans hbx)
  have HS2 := Lib.hid s2
  have HSZ := Lib.hid h.size
  have HWN := Lib.hid (fun j (hj : tts b m1 m2 j) => h.tt.lt hj)
  rw [hz1] at HST
  have HW1 := Lib.hid hW1
  have HW2 := Lib.hid hW2
  have H20 : Hid (W2.cell? ⟨b, 0, none⟩ = some (.pointer (some ⟨k.bs, 0, none⟩))) := Lib.hid (Joins.cell_of_block (i := 0) s2.tt.box)
  clear h hx h1 x1 hb1 hb2 hbx hc s2 hW2
  have hz := node_zero
  unfold LK.p at *
  go_enter Tryz.func282, Tryz.ntmps282
  go_upto_region 2 with (first
    | (at_lookup; refine wpList_lookup_ok _ rfl (.tmp 14) (.tmp 15) 167 rfl _ _ _ rfl rfl HLK.out ?_)
    | ((with_reducible show wpList _ _ _ ({ dst := _, op := .store _ _ _, type := _, pos := _, after := _, guard := _ } :: _) _ _); refine wpList_store_run rfl 45 (.tmp 6) (.tmp 17) rfl (W.heap.size + 1) 0 _ ?ws17 rfl rfl ?hs17 ?_; (case hs17 => exact HST.out))
    | fail)
  have h20 := H20.out
  have hW2 := HW2.out
  rw [hW2]
  clear hW2 HW2 H20 HST HLK h22 hW1 hz1
  go_upto_region 5 with (first
    | (go_at_call 162; (with_reducible refine HND.out.mono ?_); rintro e w3 ⟨K3, V3, rfl, hx3, hb3⟩; have HX3 := Lib.hid hx3; have HB3 := Lib.hid hb3; have HST3 := Lib.hid (node_new (kd : Int) (bi : Int) K3 V3 hx3.one.1 hx3.one.2 w3); clear hx3 hb3)
    | ((with_reducible show wpList _ _ _ ({ dst := _, op := .store _ _ _, type := _, pos := _, after := _, guard := _ } :: _) _ _); refine wpList_store_run rfl 45 (.tmp 8) (.tmp 29) rfl w3.heap.size 0 _ ?ws29 rfl rfl ?hs29 ?_; (case hs29 => exact HST3.out))
    | fail)
  obtain ⟨W4, hW4⟩ : ∃ W4, (w3.alloc (.cells #[.int .i64 (kd : Int), .int .u64 (bi : Int), K3, V3] 45)).drew = W4 := ⟨_, rfl⟩
  have hb4 : Below w3.heap.size w3 W4 := by rw [← hW4]; exact ((Below.refl _ w3).alloc (Nat.le_refl _) _).drew
  have hn4 : W4.heap[w3.heap.size]? = some (.cells #[.int .i64 (kd : Int), .int .u64 (bi : Int), K3, V3] 45 (0, 0)) := by rw [← hW4]; exact heap_alloc_new w3 _
  have HB4 := Lib.hid (HB3.out.trans (hb4.mono HB3.out.size))
  have HS4 := Lib.hid (HS2.out.below HB4.out)
  have HX4 := Lib.hid (HX3.out.below hb4)
  have HN4 := Lib.hid hn4
  have HC4 := Lib.hid ((HB4.out.block W.heap.size (Array.getElem?_eq_some_iff.1 HB0.out).1).trans HB0.out)
  have HRF := Lib.hid (HS4.out.tt.box.refuse 0)
  have HZ3 : Hid (w3.heap.size < W4.heap.size ∧ W.heap.size < w3.heap.size) := Lib.hid ⟨(Array.getElem?_eq_some_iff.1 HN4.out).1, Nat.lt_of_lt_of_le (Array.getElem?_eq_some_iff.1 HB0.out).1 HB3.out.size⟩
  clear hb4 hn4 HND HST3 HS2 HX3 h20
  refine wp_region_noPanic ?_
  refine wp_region_held_drew (S := fun w' => w'.rangeAt w3.heap.size 0 [.int .i64 (kd : Int), .int .u64 (bi : Int), K3, V3]) (by kernel_rfl) (by rw [hW4]; have := range_of HN4.out; exact this) (fun hHeld => ?_)
  rw [hW4] at hHeld ⊢
  clear hW4
  have hnd := Tryz.underlying45
  refine takeN (i := 0) (oi := _) (v := (.agg #[.int .i64 (kd : Int), .int .u64 (bi : Int), K3, V3])) 31 rfl rfl (by kernel_rfl) (by kernel_rfl) (by kernel_rfl) (fun _ _ _ h => h) (yieldsIf_load_mid (by rfl) 45 (.tmp 8) rfl w3.heap.size 0 rfl [.int .i64 (kd : Int), .int .u64 (bi : Int), K3, V3] _ (fun w2 hSw => hSw) hnd rfl (nodeC kd bi K3 V3)) hHeld ?_
  try simp only [Act.put, List.setIfInBounds_toArray, List.set_cons_zero, List.set_cons_succ]
  clear hnd
  refine takeN (i := 1) (oi := _) (v := (.pointer (some ⟨b, 0, none⟩))) 32 rfl rfl (by kernel_rfl) (by kernel_rfl) (by kernel_rfl) (fun _ _ _ h => h) (Or.inl ⟨by rfl, fun w2 hSw => by go_simp⟩) hHeld ?_
  try simp only [Act.put, List.setIfInBounds_toArray, List.set_cons_zero, List.set_cons_succ]
  refine takeN (i := 2) (oi := _) (v := (.int .i64 0)) 33 rfl rfl (by kernel_rfl) (by kernel_rfl) (by kernel_rfl) (fun _ _ _ h => h) (Or.inl ⟨by rfl, fun w2 hSw => by go_simp⟩) hHeld ?_
  try simp only [Act.put, List.setIfInBounds_toArray, List.set_cons_zero, List.set_cons_succ]
  refine wpAnyH_ready (rs := [3]) (by kernel_rfl) (by simp) ?_
  refine AllReadyH.cons rfl (fun K hK => ?_) AllReadyH.nil
  go_simp
  go_wp2_with (first
    | (go_at_call 286; (with_reducible refine HRF.out.mono ?_); rintro e w5 ⟨rfl, tb5, st5⟩)
    | fail)
  have t4 := HS4.out.tt
  have t5 : TT w5 b k.p 200 60 rm m1 nx m2 false q1 dm0 q2 D2 := ⟨tb5, t4.says.on (st5.block m1 t4.says.lt (fun e => t4.n1 e.symm)), t4.more.on (st5.block m2 t4.more.lt (fun e => t4.n2 e.symm)), t4.ne, t4.n1, t4.n2⟩
  have HS5 := Lib.hid (HS4.out.trial t5 (st5.up (fun j e => .inl e)))
  have HX5 := Lib.hid (HX4.out.on (st5.up (G := tts b m1 m2) (fun j e => .inl e)) t4.nums)
  have HN5 : Hid (w5.heap[w3.heap.size]? = some (.cells #[.int .i64 (kd : Int), .int .u64 (bi : Int), K3, V3] 45 (0, 0))) := Lib.hid ((st5.block w3.heap.size HZ3.out.1 (fun e => by have := HWN.out b (.inl rfl); have := HZ3.out.2; omega)).trans HN4.out)
  have HC5 : Hid (w5.heap[W.heap.size]? = some (.cells #[.int .i64 0, .int .u64 0, .slice none 0 0, .slice none 0 0] 45 (0, 0))) := Lib.hid ((st5.block W.heap.size (Array.getElem?_eq_some_iff.1 HC4.out).1 (fun e => by have := HWN.out b (.inl rfl); omega)).trans HC4.out)
  have HT5 := Lib.hid ((Q.Stays.of_below (HB12.out.trans (HB4.out.mono HB12.out.size)) (tts b m1 m2)).trans st5 (fun j e => .inl (.inl e)))
  have HST5 := Lib.hid (node_box HC5.out rfl (kd : Int) (bi : Int) K3 V3 HX5.out.one.1 HX5.out.one.2)
  clear t4 t5 tb5 st5
  refine hK.out _ _ (range_of HN5.out) (fun hHeld => ?_)
  clear hK
  try simp only [Act.put, List.setIfInBounds_toArray, List.set_cons_zero, List.set_cons_succ]
  refine wpAnyH_ready (rs := [4]) (by kernel_rfl) (by simp) ?_
  refine AllReadyH.cons rfl (fun K hK => ?_) AllReadyH.nil
  rw [if_pos (by rfl)]
  refine wp_store_run 45 (.tmp 4) (.tmp 31) rfl W.heap.size 0 _ _ rfl rfl HST5.out ?_
  have hn6 := (setRow_other w5 W.heap.size w3.heap.size #[.int .i64 (kd : Int), .int .u64 (bi : Int), K3, V3] (by have := HZ3.out.2; omega)).trans HN5.out
  refine hK.out _ _ (range_of hn6) (fun hHeld => ?_)
  clear hK hn6
  try simp only [Act.put, List.setIfInBounds_toArray]
  refine takeN (i := 5) (oi := _) (v := (.int .i64 0)) 5 rfl rfl (by kernel_rfl) (by kernel_rfl) (by kernel_rfl) (fun _ _ _ h => h) (Or.inl ⟨by rfl, fun w2 hSw => by go_simp⟩) hHeld ?_
  try simp only [Act.put, List.setIfInBounds_toArray, List.set_cons_zero, List.set_cons_succ]
  refine wpAnyH_done (by kernel_rfl) ?_ _
  refine NoPanic.normal ?_
  go_wp2_with fail
  have s6 : Q.Stays w5 (w5.setRow W.heap.size #[.int .i64 (kd : Int), .int .u64 (bi : Int), K3, V3]) (fun j => j = W.heap.size) := Q.Stays.set_row HC5.out
  exact bodyPost_ret (results_ct rfl _ _ _ _ _ rfl rfl (load_node (setRow_at HC5.out) rfl)) rfl ⟨K3, V3, rfl, (HX5.out.on s6 (fun j cs hc e => by rw [show j = W.heap.size from e] at hc; exact absurd (cells_ne hc HC5.out) (by decide))).mono HB12.out.size, HS5.out.on s6 (fun j e => by have := HSZ.out; have : j = W.heap.size := e; omega) (fun j hj e => by have := HWN.out j hj; have : j = W.heap.size := e; omega), HT5.out.trans s6 (fun j e => .inr (by have : j = W.heap.size := e; omega))⟩
end
end Go.Proofs.YtoclhiaidbfheaaGreatDoor.T
end

section
set_option linter.unusedVariables false
namespace Go.Proofs.YtoclhiaidbfheaaGreatDoor.T
open Go.RowKit Q S Go.ChangeMaps Go.MapKept

/-- rows that lie apart from two others -/
def Apart4 (K V K' V' : Value) : Prop := ∀ g, (K.ownBlock = some g ∨ V.ownBlock = some g) → K'.ownBlock ≠ some g ∧ V'.ownBlock ≠ some g
theorem NO.glt {W : World} {K V : Value} {ks vs : List Nat} (h : NO W K V ks vs) {g : Nat} (hg : K.ownBlock = some g ∨ V.ownBlock = some g) : g < W.heap.size := by
  rcases hg with hg | hg
  · obtain ⟨cs, hc⟩ := row_kind h.kr hg; exact (Array.getElem?_eq_some_iff.1 hc).1
  · obtain ⟨cs, hc⟩ := row_kind h.vr hg; exact (Array.getElem?_eq_some_iff.1 hc).1
theorem apart_up {W W' : World} {B : Nat} {K V K' V' : Value} {ks vs ks' vs' : List Nat} (h : NO W K V ks vs) (h' : NB W' B K' V' ks' vs') (hB : W.heap.size ≤ B) : Apart4 K V K' V' := fun g hg =>
  have h1 := h.glt hg
  ⟨fun e => by have := own_lo h'.kr e; omega, fun e => by have := own_lo h'.vr e; omega⟩
theorem apart_down {W W' : World} {B : Nat} {K V K' V' : Value} {ks vs ks' vs' : List Nat} (h : NO W K V ks vs) (h' : NB W' B K' V' ks' vs') (hB : W.heap.size ≤ B) : Apart4 K' V' K V := fun g hg =>
  have h1 : B ≤ g := hg.elim (fun e => own_lo h'.kr e) (fun e => own_lo h'.vr e)
  ⟨fun e => by have := h.glt (.inl e); omega, fun e => by have := h.glt (.inr e); omega⟩
section
variable {w W W' : World} {k : LK} {c c' : C.CS} {q q' : Nat} {D D' : DataW Value} {b : Nat} {rm rm' : Int} {m1 nx nx' m2 : Nat} {q1 q1' : Nat} {D1 D1' : DataW Value} {q2 q2' : Nat} {D2 D2' : DataW Value} {B : Nat}
variable {r : Nat} {kd bi : Nat} {K2 V2 : Value} {ks vs : List Nat}
set_option maxRecDepth 100000 in
set_option maxHeartbeats 4000000 in
theorem TS.fresh (h : TS w W k c q (dm1 r (.agg #[.int .i64 (kd : Int), .int .u64 (bi : Int), K2, V2])) b rm m1 nx m2 q1 dm0 q2 D2 B) (hu : NO W K2 V2 ks vs) (hq : q < 900) (hc : c.now.length = 200) (h0 : 0 < r) (h2 : r < 200) (KK VV : Value) (hx : NO W KK VV ks vs) (hl : ks.length ≤ 1000) (hl2 : vs.length ≤ 1000) (hm : mayB ⟨kd, bi, ks, vs⟩ = true) :
    Calls Tryz.prog 288 #[.pointer (some ⟨b, 0, none⟩), .int .u32 (r : Int), .agg #[.int .i64 (kd : Int), .int .u64 (bi : Int), KK, VV]] W fun e w' => e = .returned (.bool true) ∧ Hid (∃ K3 V3, NB w' W.heap.size K3 V3 ks vs ∧ TS w w' k c (q + 1) (dm1 r (.agg #[.int .i64 (kd : Int), .int .u64 (bi : Int), K3, V3])) b rm m1 nx m2 q1 dm0 q2 D2 B ∧ Q.Stays W w' (gts k b m1 m2)) := by
  obtain ⟨W1, hW1⟩ : ∃ W1, W.alloc (.cells #[.int .i64 (kd : Int), .int .u64 (bi : Int), KK, VV] 45) = W1 := ⟨_, rfl⟩
  have hb1 : Below W.heap.size W W1 := by rw [← hW1]; exact (Below.refl _ W).alloc (Nat.le_refl _) _
  have hbx : W1.heap[W.heap.size]? = some (.cells #[.int .i64 (kd : Int), .int .u64 (bi : Int), KK, VV] 45 (0, 0)) := by rw [← hW1]; exact heap_alloc_new W _
  have hz1 : W1.heap.size = W.heap.size + 1 := by rw [← hW1]; simp
  have h1 := h.below hb1
  have HLK := Lib.hid (h1.tt.says.look0 r (by omega))
  have h22 : W1.cell? ⟨b, 4, none⟩ = some (.map (some m1)) := Joins.cell_of_block (i := 4) h1.tt.box
  have HST := Lib.hid (node_new 0 0 (.slice none 0 0) (.slice none 0 0) rfl rfl W1)
  rw [hz1] at HST
  obtain ⟨W2, hW2⟩ : ∃ W2, (W1.alloc (.cells #[.int .i64 0, .int .u64 0, .slice none 0 0, .slice none 0 0] 45)).drew = W2 := ⟨_, rfl⟩
  have hb2 : Below W1.heap.size W1 W2 := by rw [← hW2]; exact ((Below.refl _ W1).alloc (Nat.le_refl _) _).drew
  have HB12 := Lib.hid (hb1.trans (hb2.mono hb1.size))
  have HBX := Lib.hid ((hb2.block W.heap.size (by omega)).trans hbx)
  have HS2 := Lib.hid (h1.below hb2)
  have HPT := Lib.hid (HS2.out.lb.ls.put ((hu.below hb1).below hb2) hq hc h0 h2 kd bi KK VV ks vs ((hx.below hb1).below hb2) hl hl2 hm)
  have HWN := Lib.hid (fun j (hj : gts k b m1 m2 j) => h.glt hj)
  have HW2 := Lib.hid hW2
  clear h hu hx h1 hb1 hb2 hbx hc hW2
  have hz := node_zero
  unfold LK.p at *
  go_enter Tryz.func288, Tryz.ntmps288
  go_upto_region 2 with (first
    | (at_lookup; refine wpList_lookup_ok _ rfl (.tmp 13) (.tmp 14) 167 rfl _ _ _ rfl rfl HLK.out ?_)
    | ((with_reducible show wpList _ _ _ ({ dst := _, op := .store _ _ _, type := _, pos := _, after := _, guard := _ } :: _) _ _); refine wpList_store_run rfl 45 (.tmp 7) (.tmp 16) rfl (W.heap.size + 1) 0 _ ?ws16 rfl rfl ?hs16 ?_; (case hs16 => exact HST.out))
    | fail)
  have hW2 := HW2.out
  have hp : W2.cell? ⟨b, 0, none⟩ = some (.pointer (some ⟨k.bs, 0, none⟩)) := Joins.cell_of_block (i := 0) HS2.out.tt.box
  clear HST HLK h22 hW1 hz1 HW2
  refine wp_region_noPanic ?_
  refine wp_region_held_drew (S := fun w' => w'.cell? ⟨b, 0, none⟩ = some (.pointer (some ⟨k.bs, 0, none⟩)) ∧ w'.rangeAt W.heap.size 0 [.int .i64 (kd : Int), .int .u64 (bi : Int), KK, VV]) (by kernel_rfl) (by rw [hW2]; exact ⟨hp, range_of HBX.out⟩) (fun hHeld => ?_)
  rw [hW2] at hHeld ⊢
  clear hW2
  refine takeN (i := 0) (oi := _) (v := (.bool false)) 18 rfl rfl (by kernel_rfl) (by kernel_rfl) (by kernel_rfl) (fun _ _ _ h => h) (Or.inl ⟨by rfl, fun w2 hSw => by go_simp⟩) hHeld ?_
  try simp only [Act.put, List.setIfInBounds_toArray, List.set_cons_zero, List.set_cons_succ]
  refine takeN (i := 1) (oi := _) (v := (.bool false)) 19 rfl rfl (by kernel_rfl) (by kernel_rfl) (by kernel_rfl) (fun _ _ _ h => h) (Or.inl ⟨by rfl, fun w2 hSw => by go_simp⟩) hHeld ?_
  try simp only [Act.put, List.setIfInBounds_toArray, List.set_cons_zero, List.set_cons_succ]
  refine takeN (i := 2) (oi := _) (v := (.pointer (some ⟨b, 0, none⟩))) 20 rfl rfl (by kernel_rfl) (by kernel_rfl) (by kernel_rfl) (fun _ _ _ h => h) (Or.inl ⟨by rfl, fun w2 hSw => by go_simp⟩) hHeld ?_
  try simp only [Act.put, List.setIfInBounds_toArray, List.set_cons_zero, List.set_cons_succ]
  refine takeN (i := 3) (oi := _) (v := (.pointer (some ⟨b, 0, none⟩))) 21 rfl rfl (by kernel_rfl) (by kernel_rfl) (by kernel_rfl) (fun _ _ _ h => h) (Or.inl ⟨by rfl, fun w2 hSw => by go_simp⟩) hHeld ?_
  try simp only [Act.put, List.setIfInBounds_toArray, List.set_cons_zero, List.set_cons_succ]
  refine takeN (i := 4) (oi := _) (v := (.pointer (some ⟨b, 0, none⟩))) 22 rfl rfl (by kernel_rfl) (by kernel_rfl) (by kernel_rfl) (fun _ _ _ h => h) (Or.inl ⟨by rfl, fun w2 hSw => by go_simp⟩) hHeld ?_
  try simp only [Act.put, List.setIfInBounds_toArray, List.set_cons_zero, List.set_cons_succ]
  refine takeN (i := 5) (oi := _) (v := (.pointer (some ⟨k.bs, 0, none⟩))) 23 rfl rfl (by kernel_rfl) (by kernel_rfl) (by kernel_rfl) (fun _ _ _ h => h) (Or.inl ⟨by rfl, fun w2 hSw => by (have hc := hSw.1; go_simp)⟩) hHeld ?_
  try simp only [Act.put, List.setIfInBounds_toArray, List.set_cons_zero, List.set_cons_succ]
  refine takeN (i := 6) (oi := _) (v := (.int .u32 (r : Int))) 24 rfl rfl (by kernel_rfl) (by kernel_rfl) (by kernel_rfl) (fun _ _ _ h => h) (Or.inl ⟨by rfl, fun w2 hSw => by go_simp⟩) hHeld ?_
  try simp only [Act.put, List.setIfInBounds_toArray, List.set_cons_zero, List.set_cons_succ]
  have hnd := Tryz.underlying45
  refine takeN (i := 7) (oi := _) (v := (.agg #[.int .i64 (kd : Int), .int .u64 (bi : Int), KK, VV])) 25 rfl rfl (by kernel_rfl) (by kernel_rfl) (by kernel_rfl) (fun _ _ _ h => h) (yieldsIf_load_mid (by rfl) 45 (.tmp 5) rfl W.heap.size 0 rfl [.int .i64 (kd : Int), .int .u64 (bi : Int), KK, VV] _ (fun w2 hSw => hSw.2) hnd rfl (nodeC kd bi KK VV)) hHeld ?_
  try simp only [Act.put, List.setIfInBounds_toArray, List.set_cons_zero, List.set_cons_succ]
  clear hnd
  refine wpAnyH_ready (rs := [8]) (by kernel_rfl) (by simp) ?_
  refine AllReadyH.cons rfl (fun K hK => ?_) AllReadyH.nil
  go_simp
  go_wp2_with (first
    | (go_at_call 192; (with_reducible refine HPT.out.mono ?_); rintro e w5 ⟨rfl, h5⟩)
    | fail)
  obtain ⟨K3, V3, x5, kp5⟩ := h5.out
  have hs5 := HS2.out.store kp5
  have hb5 : ∀ j, tts b m1 m2 j → ¬ k.touch j := fun j hj e => by have := HS2.out.hi j hj; have := HS2.out.lb.mb j (.inl e); omega
  have hw5 : ¬ k.touch W.heap.size := fun e => by have := HWN.out _ (.inl e); omega
  refine hK.out _ _ ⟨Joins.cell_of_block (i := 0) hs5.tt.box, range_of ((kp5.2.block W.heap.size (Array.getElem?_eq_some_iff.1 HBX.out).1 hw5).trans HBX.out)⟩ (fun hHeld => ?_)
  have HS5 := Lib.hid hs5
  have HX5 := Lib.hid x5
  have HT5 := Lib.hid ((Q.Stays.of_below HB12.out (gts k b m1 m2)).trans kp5.2 (fun j e => .inl (.inl e)))
  clear hK kp5 x5 hs5 h5 hb5 hw5
  try simp only [Act.put, List.setIfInBounds_toArray, List.set_cons_zero, List.set_cons_succ]
  refine takeN (i := 9) (oi := _) (v := (.bool true)) 27 rfl rfl (by kernel_rfl) (by kernel_rfl) (by kernel_rfl) (fun _ _ _ h => h) (Or.inl ⟨by rfl, fun w2 hSw => by go_simp⟩) hHeld ?_
  try simp only [Act.put, List.setIfInBounds_toArray, List.set_cons_zero, List.set_cons_succ]
  refine takeN (i := 10) (oi := _) (v := (.bool true)) 28 rfl rfl (by kernel_rfl) (by kernel_rfl) (by kernel_rfl) (fun _ _ _ h => h) (Or.inl ⟨by rfl, fun w2 hSw => by go_simp⟩) hHeld ?_
  try simp only [Act.put, List.setIfInBounds_toArray, List.set_cons_zero, List.set_cons_succ]
  refine takeN (i := 11) (oi := _) (v := (.bool true)) 6 rfl rfl (by kernel_rfl) (by kernel_rfl) (by kernel_rfl) (fun _ _ _ h => h) (Or.inl ⟨by rfl, fun w2 hSw => by go_simp⟩) hHeld ?_
  try simp only [Act.put, List.setIfInBounds_toArray, List.set_cons_zero, List.set_cons_succ]
  refine wpAnyH_done (by kernel_rfl) ?_ _
  refine NoPanic.normal ?_
  go_wp2_with fail
  go_ret
  exact ⟨rfl, K3, V3, HX5.out.mono HB12.out.size, HS5.out, HT5.out⟩
end
end Go.Proofs.YtoclhiaidbfheaaGreatDoor.T
end

section
set_option linter.unusedVariables false
namespace Go.Proofs.YtoclhiaidbfheaaGreatDoor.T
open Go.RowKit Q S Go.ChangeMaps Go.MapKept

theorem nameA (n : Nat) : (Tryz.prog.info? 387).map (·.size) = some (#[.bool false, .int .u32 (n : Int)] : Array Value).size := by kernel_rfl
theorem name_new (n : Nat) (W : World) : (storeVar 387 ⟨W.heap.size, 0, none⟩ (.agg #[.bool false, .int .u32 (n : Int)])).run Tryz.prog (W.alloc (.cells #[.bool false, .int .u32 0] 387)) = .ok () (W.alloc (.cells #[.bool false, .int .u32 (n : Int)] 387)) :=
  run_storeVar_new W 387 #[.bool false, .int .u32 0] #[.bool false, .int .u32 (n : Int)] (nameA n) rfl (by simp only [List.all_toArray, List.all_cons, List.all_nil, Bool.and_true]; rfl)
theorem results_tct {P : Program} {fn : Func} {s t u : Tmp} {T : TypeId} (h : fn.results = #[.tmp s, .cell t T, .tmp u]) (tmps : Array Value) (w : World) (a : Addr) (y v x : Value) (hs : tmps.getD s undef = y) (ht : tmps.getD t undef = .pointer (some a)) (hu : tmps.getD u undef = x) (h1 : (loadVar T a).run P w = .ok v w) :
    (results fn tmps).run P w = .ok (.tuple #[y, v, x]) w := by
  have hp' : tmps[t]?.getD undef = .pointer (some a) := by simpa using ht
  have hq' : tmps[u]?.getD undef = x := by simpa using hu
  have hs' : tmps[s]?.getD undef = y := by simpa using hs
  simp [results, h, hp', hq', hs', asAddr, h1]
section
variable {w W W' : World} {k : LK} {c c' : C.CS} {q q' : Nat} {D D' : DataW Value} {b : Nat} {rm rm' : Int} {m1 nx nx' m2 : Nat} {q1 q1' : Nat} {D1 D1' : DataW Value} {q2 q2' : Nat} {D2 D2' : DataW Value} {B : Nat}
variable {r : Nat} {kd bi : Nat} {K2 V2 : Value} {ks vs : List Nat}
set_option maxRecDepth 100000 in
set_option maxHeartbeats 8000000 in
theorem TS.shadow (h : TS w W k c q (dm1 r (.agg #[.int .i64 (kd : Int), .int .u64 (bi : Int), K2, V2])) b rm m1 nx m2 q1 dm0 q2 D2 B) (hu : NO W K2 V2 ks vs) (hq : q < 900) (hc : c.now.length = 200) (hcn : C.lookN c.now (r : Int) = 1) (hct : D2.atKey (keyN r) (.held (.int .i64 0)) = .held (.int .i64 0)) (h0 : 0 < r) (h2 : r < 200) (hl : ks.length ≤ 1000) (hl2 : vs.length ≤ 1000) (hm : mayB ⟨kd, bi, ks, vs⟩ = true) :
    Calls Tryz.prog 284 #[.pointer (some ⟨b, 0, none⟩), .int .u32 (r : Int)] W fun e w' => ∃ K3 V3, e = .returned (.tuple #[.int .u32 (r : Int), .agg #[.int .i64 (kd : Int), .int .u64 (bi : Int), K3, V3], .int .i64 0]) ∧ Hid (NB w' W.heap.size K3 V3 ks vs ∧ Q.Stays W w' (gts k b m1 m2) ∧ ∃ K4 V4, NB w' W.heap.size K4 V4 ks vs ∧ Apart4 K3 V3 K4 V4 ∧ TS w w' k c (q + 1) (dm1 r (.agg #[.int .i64 (kd : Int), .int .u64 (bi : Int), K4, V4])) b rm m1 nx m2 q1 dm0 q2 D2 B) := by
  have hst := name_new r (W.alloc (.cells #[.int .i64 0, .int .u64 0, .slice none 0 0, .slice none 0 0] 45))
  rw [World.size_alloc] at hst
  obtain ⟨W2, hW2⟩ : ∃ W2, (W.alloc (.cells #[.int .i64 0, .int .u64 0, .slice none 0 0, .slice none 0 0] 45)).alloc (.cells #[.bool false, .int .u32 (r : Int)] 387) = W2 := ⟨_, rfl⟩
  have hb2 : Below W.heap.size W W2 := by rw [← hW2]; exact ((Below.refl _ W).alloc (Nat.le_refl _) _).alloc (by simp) _
  have hbn : W2.heap[W.heap.size]? = some (.cells #[.int .i64 0, .int .u64 0, .slice none 0 0, .slice none 0 0] 45 (0, 0)) := by rw [← hW2]; exact first_at W _ _
  have hbk : W2.heap[W.heap.size + 1]? = some (.cells #[.bool false, .int .u32 (r : Int)] 387 (0, 0)) := by
    rw [← hW2]
    have e := heap_alloc_new (W.alloc (.cells #[.int .i64 0, .int .u64 0, .slice none 0 0, .slice none 0 0] 45)) (.cells #[.bool false, .int .u32 (r : Int)] 387)
    rw [World.size_alloc] at e
    exact e
  have s2 := h.below hb2
  have HCT : Hid (Calls Tryz.prog 285 #[.pointer (some ⟨b, 0, none⟩), .agg #[.bool false, .int .u32 (r : Int)]] W2 fun e w' => e = .returned (.int .i64 1) ∧ Below W2.heap.size W2 w') := Lib.hid (s2.tt.counts s2.lb.ls r 1 (by omega) hcn (by omega) 0 hct (by omega) (by omega))
  have HND : Hid (∀ W', Below W2.heap.size W2 W' → Calls Tryz.prog 282 #[.pointer (some ⟨b, 0, none⟩), .int .u32 (r : Int)] W' fun e w' => ∃ K3 V3, e = .returned (.tuple #[.agg #[.int .i64 (kd : Int), .int .u64 (bi : Int), K3, V3], .int .i64 0]) ∧ Hid (NB w' W'.heap.size K3 V3 ks vs ∧ TS w w' k c q (dm1 r (.agg #[.int .i64 (kd : Int), .int .u64 (bi : Int), K2, V2])) b rm m1 nx m2 q1 dm0 q2 D2 B ∧ Q.Stays W' w' (tts b m1 m2))) := Lib.hid (fun W' hb => (s2.below hb).node0 ((hu.below hb2).below hb) hc h0 h2 hl hl2)
  have HFR : Hid (∀ W' KK VV, TS w W' k c q (dm1 r (.agg #[.int .i64 (kd : Int), .int .u64 (bi : Int), K2, V2])) b rm m1 nx m2 q1 dm0 q2 D2 B → NO W' K2 V2 ks vs → NO W' KK VV ks vs → Calls Tryz.prog 288 #[.pointer (some ⟨b, 0, none⟩), .int .u32 (r : Int), .agg #[.int .i64 (kd : Int), .int .u64 (bi : Int), KK, VV]] W' fun e w' => e = .returned (.bool true) ∧ Hid (∃ K3 V3, NB w' W'.heap.size K3 V3 ks vs ∧ TS w w' k c (q + 1) (dm1 r (.agg #[.int .i64 (kd : Int), .int .u64 (bi : Int), K3, V3])) b rm m1 nx m2 q1 dm0 q2 D2 B ∧ Q.Stays W' w' (gts k b m1 m2))) := Lib.hid (fun W' KK VV hs hu hx => hs.fresh hu hq hc h0 h2 KK VV hx hl hl2 hm)
  have HWN := Lib.hid (fun j (hj : gts k b m1 m2 j) => h.glt hj)
  have HS2 := Lib.hid s2
  have HX2 := Lib.hid (hu.below hb2)
  have HB2 := Lib.hid hb2
  have HBN := Lib.hid hbn
  have HBK := Lib.hid hbk
  have HKR := Lib.hid (range_of hbk)
  have HST := Lib.hid hst
  have HW2 := Lib.hid hW2
  have HSZ := Lib.hid h.size
  have hr0 : ¬ (r : Int) = 0 := by omega
  have hr2 : ¬ (200 : Int) ≤ (r : Int) := by omega
  clear h hu s2 hb2 hbn hbk hst hW2 hct hcn hc hm
  have hz := node_zero
  have hzn := name_zero
  go_enter Tryz.func284, Tryz.ntmps284
  go_upto_region 2 with (first
    | ((with_reducible show wpList _ _ _ ({ dst := _, op := .store _ _ _, type := _, pos := _, after := _, guard := _ } :: _) _ _); refine wpList_store_run rfl 387 (.tmp 7) (.tmp 14) rfl (W.heap.size + 1) 0 _ ?ws14 rfl rfl ?hs14 ?_; (case hs14 => exact HST.out))
    | fail)
  have hW2 := HW2.out
  rw [hW2]
  clear hW2 HW2 HST
  have hc1 : W2.cell? ⟨b, 1, none⟩ = some (.int .u32 200) := Joins.cell_of_block (i := 1) HS2.out.tt.box
  go_upto_region 4 with fail
  clear hc1
  go_upto_region 11 with (first
    | ((with_reducible show wpList _ _ _ ({ dst := _, op := .load _ _, type := _, pos := _, after := _, guard := _ } :: _) _ _); refine wpList_load_mid rfl 387 (.tmp 7) rfl (W.heap.size + 1) 0 rfl [.bool false, .int .u32 (r : Int)] _ ?hlk Tryz.underlying387 rfl (nameC _) ?_; (case hlk => exact HKR.out))
    | (go_at_call 285; (with_reducible refine HCT.out.mono ?_); rintro e w3 ⟨rfl, hb3⟩; have HB3 := Lib.hid hb3; clear hb3)
    | (go_at_call 282; (with_reducible refine (HND.out _ HB3.out).mono ?_); rintro e w4 ⟨K3, V3, rfl, h4⟩; have HX4 := Lib.hid h4.out.1; have HS4 := Lib.hid h4.out.2.1; have HT4 := Lib.hid h4.out.2.2; clear h4; have HU4 := Lib.hid ((HX2.out.below HB3.out).on HT4.out (HS2.out.below HB3.out).tt.nums); have HST9 := Lib.hid (node_new (kd : Int) (bi : Int) K3 V3 HX4.out.one.1 HX4.out.one.2 w4); have HB5 : Hid (Below w4.heap.size w4 (w4.alloc (.cells #[.int .i64 (kd : Int), .int .u64 (bi : Int), K3, V3] 45))) := Lib.hid ((Below.refl _ w4).alloc (Nat.le_refl _) _); have HN5 := Lib.hid (heap_alloc_new w4 (.cells #[.int .i64 (kd : Int), .int .u64 (bi : Int), K3, V3] 45)); have HRN5 := Lib.hid (range_of HN5.out); have HF5 := Lib.hid (HFR.out _ K3 V3 (HS4.out.below HB5.out) (HU4.out.below HB5.out) (HX4.out.below HB5.out).no))
    | ((with_reducible show wpList _ _ _ ({ dst := _, op := .store _ _ _, type := _, pos := _, after := _, guard := _ } :: _) _ _); refine wpList_store_run rfl 45 (.tmp 9) (.tmp 40) rfl w4.heap.size 0 _ ?ws40 rfl rfl ?hs40 ?_; (case hs40 => exact HST9.out))
    | ((with_reducible show wpList _ _ _ ({ dst := _, op := .load _ _, type := _, pos := _, after := _, guard := _ } :: _) _ _); refine wpList_load_g (by rfl) 45 (.tmp 9) rfl w4.heap.size 0 rfl [.int .i64 (kd : Int), .int .u64 (bi : Int), K3, V3] _ ?hlg Tryz.underlying45 rfl (nodeC _ _ _ _) ?_; (case hlg => exact HRN5.out))
    | (go_at_call 288; (with_reducible refine HF5.out.mono ?_); rintro e w6 ⟨rfl, h6⟩)
    | fail)
  obtain ⟨K4, V4, x6, s6, t6⟩ := h6.out
  obtain ⟨W7, hW7⟩ : ∃ W7, w6.drew = W7 := ⟨_, rfl⟩
  have hb7 : Below w6.heap.size w6 W7 := by rw [← hW7]; exact (Below.refl _ w6).drew
  have hz4 : W.heap.size + 1 < w4.heap.size := by
    have h1 := (Array.getElem?_eq_some_iff.1 HBK.out).1
    have h2 := HB3.out.size
    have h3 := HT4.out.size
    omega
  have hz5 : (w4.alloc (.cells #[.int .i64 (kd : Int), .int .u64 (bi : Int), K3, V3] 45)).heap.size = w4.heap.size + 1 := by simp
  -- the read node's box, and the result's
  have HN7 : Hid (W7.heap[w4.heap.size]? = some (.cells #[.int .i64 (kd : Int), .int .u64 (bi : Int), K3, V3] 45 (0, 0))) := Lib.hid ((hb7.block _ (by have := t6.size; omega)).trans ((t6.block w4.heap.size (by omega) (fun e => by have := HWN.out _ e; omega)).trans HN5.out))
  have hc3 := (HB3.out.block W.heap.size (Array.getElem?_eq_some_iff.1 HBN.out).1).trans HBN.out
  have hc4 := (HT4.out.block W.heap.size (Array.getElem?_eq_some_iff.1 hc3).1 (fun e => by have := HWN.out _ (.inr e); omega)).trans hc3
  have hc5 := (HB5.out.block W.heap.size (Array.getElem?_eq_some_iff.1 hc4).1).trans hc4
  have hc6 := (t6.block W.heap.size (Array.getElem?_eq_some_iff.1 hc5).1 (fun e => by have := HWN.out _ e; omega)).trans hc5
  have HC7 := Lib.hid ((hb7.block W.heap.size (Array.getElem?_eq_some_iff.1 hc6).1).trans hc6)
  have HX7 : Hid (NB W7 w3.heap.size K3 V3 ks vs) := Lib.hid (((HX4.out.below HB5.out).on t6 (HS4.out.below HB5.out).nums).below hb7)
  have HU7 := Lib.hid (x6.below hb7)
  have HAP := Lib.hid (apart_up HX4.out.no x6 (by rw [hz5]; omega))
  have HS7 := Lib.hid (s6.below hb7)
  have HT7 := Lib.hid ((((((Q.Stays.of_below HB2.out (gts k b m1 m2)).trans (Q.Stays.of_below HB3.out (gts k b m1 m2)) (fun _ e => .inl e)).trans HT4.out (fun _ e => .inl (.inr e))).trans (Q.Stays.of_below HB5.out (gts k b m1 m2)) (fun _ e => .inl e)).trans t6 (fun _ e => .inl e)).trans (Q.Stays.of_below hb7 (gts k b m1 m2)) (fun _ e => .inl e))
  have HST7 := Lib.hid (node_box HC7.out rfl (kd : Int) (bi : Int) K3 V3 HX7.out.one.1 HX7.out.one.2)
  have HZ4 := Lib.hid hz4
  clear h6 x6 s6 t6 hb7 hc3 hc4 hc5 hc6 hz4 hz5 HF5 HFR HND HCT HN5 HRN5 HST9
  refine wp_region_noPanic ?_
  refine wp_region_held_drew (S := fun w' => w'.rangeAt w4.heap.size 0 [.int .i64 (kd : Int), .int .u64 (bi : Int), K3, V3]) (by kernel_rfl) (by rw [hW7]; exact range_of HN7.out) (fun hHeld => ?_)
  rw [hW7] at hHeld ⊢
  clear hW7
  refine takeN (i := 0) (oi := _) (v := (.int .u32 (r : Int))) 54 rfl rfl (by kernel_rfl) (by kernel_rfl) (by kernel_rfl) (fun _ _ _ h => h) (Or.inl ⟨by rfl, fun w2 hSw => by go_simp⟩) hHeld ?_
  try simp only [Act.put, List.setIfInBounds_toArray, List.set_cons_zero, List.set_cons_succ]
  have hnd := Tryz.underlying45
  refine takeN (i := 1) (oi := _) (v := (.agg #[.int .i64 (kd : Int), .int .u64 (bi : Int), K3, V3])) 55 rfl rfl (by kernel_rfl) (by kernel_rfl) (by kernel_rfl) (fun _ _ _ h => h) (yieldsIf_load_mid (by rfl) 45 (.tmp 9) rfl w4.heap.size 0 rfl [.int .i64 (kd : Int), .int .u64 (bi : Int), K3, V3] _ (fun w2 hSw => hSw) hnd rfl (nodeC kd bi K3 V3)) hHeld ?_
  try simp only [Act.put, List.setIfInBounds_toArray, List.set_cons_zero, List.set_cons_succ]
  clear hnd
  refine takeN (i := 2) (oi := _) (v := (.int .u32 (r : Int))) 4 rfl rfl (by kernel_rfl) (by kernel_rfl) (by kernel_rfl) (fun _ _ _ h => h) (Or.inl ⟨by rfl, fun w2 hSw => by go_simp⟩) hHeld ?_
  try simp only [Act.put, List.setIfInBounds_toArray, List.set_cons_zero, List.set_cons_succ]
  refine wpAnyH_ready (rs := [3]) (by kernel_rfl) (by simp) ?_
  refine AllReadyH.cons rfl (fun K hK => ?_) AllReadyH.nil
  rw [if_pos (by rfl)]
  refine wp_store_run 45 (.tmp 5) (.tmp 55) rfl W.heap.size 0 _ _ rfl rfl HST7.out ?_
  have hn8 := (setRow_other W7 W.heap.size w4.heap.size #[.int .i64 (kd : Int), .int .u64 (bi : Int), K3, V3] (by have := HZ4.out; omega)).trans HN7.out
  refine hK.out _ _ (range_of hn8) (fun hHeld => ?_)
  clear hK hn8
  try simp only [Act.put, List.setIfInBounds_toArray]
  refine takeN (i := 4) (oi := _) (v := (.int .i64 0)) 6 rfl rfl (by kernel_rfl) (by kernel_rfl) (by kernel_rfl) (fun _ _ _ h => h) (Or.inl ⟨by rfl, fun w2 hSw => by go_simp⟩) hHeld ?_
  try simp only [Act.put, List.setIfInBounds_toArray, List.set_cons_zero, List.set_cons_succ]
  refine wpAnyH_done (by kernel_rfl) ?_ _
  refine NoPanic.normal ?_
  go_wp2_with fail
  have s8 : Q.Stays W7 (W7.setRow W.heap.size #[.int .i64 (kd : Int), .int .u64 (bi : Int), K3, V3]) (fun j => j = W.heap.size) := Q.Stays.set_row HC7.out
  have hno : ∀ j cs, W7.heap[j]? = some (.cells cs 23 (0, 0)) → ¬ j = W.heap.size := fun j cs hc e => by rw [e] at hc; exact absurd (cells_ne hc HC7.out) (by decide)
  exact bodyPost_ret (results_tct rfl _ _ _ _ _ _ rfl rfl rfl (load_node (setRow_at HC7.out) rfl)) rfl ⟨K3, V3, rfl, (HX7.out.on s8 hno).mono (Nat.le_trans HB2.out.size HB3.out.size), HT7.out.trans s8 (fun j e => .inr (by have : j = W.heap.size := e; omega)), K4, V4, (HU7.out.on s8 hno).mono (by have := HZ4.out; rw [World.size_alloc]; omega), HAP.out, HS7.out.on s8 (fun j e => by have := HSZ.out; have : j = W.heap.size := e; omega) (fun j hj e => by have := HWN.out j (.inr hj); have : j = W.heap.size := e; omega)⟩
end
end Go.Proofs.YtoclhiaidbfheaaGreatDoor.T
end

section
set_option linter.unusedVariables false
namespace Go.Proofs.YtoclhiaidbfheaaGreatDoor.T
open Go.RowKit Q S Go.ChangeMaps Go.MapKept

section
variable {w W W' : World} {k : LK} {c c' : C.CS} {q q' : Nat} {D D' : DataW Value} {b : Nat} {rm rm' : Int} {m1 nx nx' m2 : Nat} {q1 q1' : Nat} {D1 D1' : DataW Value} {q2 q2' : Nat} {D2 D2' : DataW Value} {B : Nat}
variable {r : Nat} {X : Value}
set_option maxRecDepth 100000 in
set_option maxHeartbeats 8000000 in
theorem TS.free (h : TS w W k c q D b rm m1 nx m2 q1 (dm1 r X) q2 D2 B) (hq2 : q2 < 900) (hr : 0 ≤ rm) (hr2 : rm < 1000) (hcn : C.lookN c.now (r : Int) = 1) (hct : D2.atKey (keyN r) (.held (.int .i64 0)) = .held (.int .i64 0)) (h0 : 0 < r) (h2 : r < 200) :
    Calls Tryz.prog 280 #[.pointer (some ⟨b, 0, none⟩), .int .u32 (r : Int)] W fun e w' => e = .returned (.int .i64 0) ∧ Hid (Q.Stays W w' (tts b m1 m2) ∧ TS w w' k c q D b (rm + 1) m1 nx m2 q1 dm0 (q2 + 1) (D2.put (keyN r) (.held (.int .i64 (-1)))) B) := by
  have hst := name_new r W
  obtain ⟨W2, hW2⟩ : ∃ W2, W.alloc (.cells #[.bool false, .int .u32 (r : Int)] 387) = W2 := ⟨_, rfl⟩
  have hb2 : Below W.heap.size W W2 := by rw [← hW2]; exact (Below.refl _ W).alloc (Nat.le_refl _) _
  have hbk : W2.heap[W.heap.size]? = some (.cells #[.bool false, .int .u32 (r : Int)] 387 (0, 0)) := by rw [← hW2]; exact heap_alloc_new W _
  have s2 := h.below hb2
  have HCT : Hid (Calls Tryz.prog 285 #[.pointer (some ⟨b, 0, none⟩), .agg #[.bool false, .int .u32 (r : Int)]] W2 fun e w' => e = .returned (.int .i64 1) ∧ Below W2.heap.size W2 w') := Lib.hid (s2.tt.counts s2.lb.ls r 1 (by omega) hcn (by omega) 0 hct (by omega) (by omega))
  have HWN := Lib.hid (fun j (hj : tts b m1 m2 j) => h.tt.lt hj)
  have HS2 := Lib.hid s2
  have HB2 := Lib.hid hb2
  have HBK := Lib.hid hbk
  have HKR := Lib.hid (range_of hbk)
  have HST := Lib.hid hst
  have HW2 := Lib.hid hW2
  have HKC := Lib.hid hct
  clear h s2 hb2 hbk hst hW2 hct hcn
  have hzn := name_zero
  go_enter Tryz.func280, Tryz.ntmps280
  go_upto_region 2 with (first
    | ((with_reducible show wpList _ _ _ ({ dst := _, op := .store _ _ _, type := _, pos := _, after := _, guard := _ } :: _) _ _); refine wpList_store_run rfl 387 (.tmp 5) (.tmp 7) rfl W.heap.size 0 _ ?ws7 rfl rfl ?hs7 ?_; (case hs7 => exact HST.out))
    | fail)
  have hW2 := HW2.out
  rw [hW2]
  clear hW2 HW2 HST
  go_upto_region 4 with (first
    | ((with_reducible show wpList _ _ _ ({ dst := _, op := .load _ _, type := _, pos := _, after := _, guard := _ } :: _) _ _); refine wpList_load_mid rfl 387 (.tmp 5) rfl W.heap.size 0 rfl [.bool false, .int .u32 (r : Int)] _ ?hlk Tryz.underlying387 rfl (nameC _) ?_; (case hlk => exact HKR.out))
    | (go_at_call 285; (with_reducible refine HCT.out.mono ?_); rintro e w3 ⟨rfl, hb3⟩; have HB3 := Lib.hid hb3; clear hb3)
    | fail)
  obtain ⟨W4, hW4⟩ : ∃ W4, w3.drew = W4 := ⟨_, rfl⟩
  have hb4 : Below W2.heap.size W2 W4 := by rw [← hW4]; exact HB3.out.drew
  have hs4 := HS2.out.below hb4
  have hk4 := (hb4.block W.heap.size (Array.getElem?_eq_some_iff.1 HBK.out).1).trans HBK.out
  obtain ⟨v0, st, w5, hen, hlk5, hg5, hes⟩ := hs4.tt.more.bump2 (by omega) r (by omega) HKC.out
  obtain ⟨w6, hst, hm6, hg6⟩ := hes (.int .i64 (-1))
  have h6 : W4.cell? ⟨b, 6, none⟩ = some (.map (some m2)) := Joins.cell_of_block (i := 6) hs4.tt.box
  have h65 : w5.cell? ⟨b, 6, none⟩ = some (.map (some m2)) := Joins.cell_of_block (i := 6) ((hg5.block b hs4.tt.box.lt (fun e => hs4.tt.n2 (by injection e))).trans hs4.tt.box)
  have hk5 := (hg5.block W.heap.size (Array.getElem?_eq_some_iff.1 hk4).1 (fun e => by have := HWN.out m2 (.inr (.inr rfl)); injection e with e; omega)).trans hk4
  have HLK : Hid ((Instr.lookup 174 (.map (some m2)) (keyV r) false).run Tryz.prog W4 = .ok (.int .i64 0) W4) := Lib.hid (hs4.tt.more.look r (by omega) HKC.out)
  have HS5 : Hid (w5.cell? ⟨b, 6, none⟩ = some (.map (some m2)) ∧ w5.rangeAt W.heap.size 0 [.bool false, .int .u32 (r : Int)] ∧ (Instr.lookup 174 (.map (some m2)) (keyV r) false).run Tryz.prog w5 = .ok (.int .i64 0) w5) := Lib.hid ⟨h65, range_of hk5, hlk5⟩
  have HEN := Lib.hid hen
  have HST := Lib.hid hst
  have HM6 := Lib.hid hm6
  have HG6 := Lib.hid hg6
  have HS4 := Lib.hid hs4
  have HK4 := Lib.hid hk4
  have HT4 := Lib.hid ((Q.Stays.of_below HB2.out (tts b m1 m2)).trans (Q.Stays.of_below hb4 (tts b m1 m2)) (fun _ e => .inl e))
  have hw1 : IntKind.i64.wrap (0 - 1) = -1 := by rw [IntKind.wrap_i64]; omega
  have hw2 : IntKind.i64.wrap (-1) = -1 := by rw [IntKind.wrap_i64]; omega
  clear hb4 hs4 hk4 hen hlk5 hg5 hes hst hm6 hg6 h65 hk5 HCT HB3
  refine wp_region_noPanic ?_
  refine wp_region_until (M := 9) (S := fun w' => w'.cell? ⟨b, 6, none⟩ = some (.map (some m2)) ∧ w'.rangeAt W.heap.size 0 [.bool false, .int .u32 (r : Int)] ∧ (Instr.lookup 174 (.map (some m2)) (keyV r) false).run Tryz.prog w' = .ok (.int .i64 0) w') (by kernel_rfl) (by rw [hW4]; exact ⟨h6, range_of HK4.out, HLK.out⟩) (fun hHeld => ?_)
  rw [hW4] at hHeld ⊢
  clear hW4 h6
  refine takeM (i := 0) (oi := _) (oM := _) (v := (.pointer (some ⟨b, 0, none⟩))) 14 1 rfl rfl rfl (by kernel_rfl) (by kernel_rfl) (by kernel_rfl) (by kernel_rfl) (by kernel_rfl) (by kernel_rfl) (fun _ _ _ h => h) (Or.inl ⟨by rfl, fun w2 hSw => by go_simp⟩) hHeld ?_
  try simp only [Act.put, List.setIfInBounds_toArray, List.set_cons_zero, List.set_cons_succ]
  refine takeM (i := 1) (oi := _) (oM := _) (v := (.pointer (some ⟨b, 0, none⟩))) 15 1 rfl rfl rfl (by kernel_rfl) (by kernel_rfl) (by kernel_rfl) (by kernel_rfl) (by kernel_rfl) (by kernel_rfl) (fun _ _ _ h => h) (Or.inl ⟨by rfl, fun w2 hSw => by go_simp⟩) hHeld ?_
  try simp only [Act.put, List.setIfInBounds_toArray, List.set_cons_zero, List.set_cons_succ]
  refine takeM (i := 2) (oi := _) (oM := _) (v := (.pointer (some ⟨b, 6, none⟩))) 16 1 rfl rfl rfl (by kernel_rfl) (by kernel_rfl) (by kernel_rfl) (by kernel_rfl) (by kernel_rfl) (by kernel_rfl) (fun _ _ _ h => h) (Or.inl ⟨by rfl, fun w2 hSw => by go_simp⟩) hHeld ?_
  try simp only [Act.put, List.setIfInBounds_toArray, List.set_cons_zero, List.set_cons_succ]
  refine takeM (i := 3) (oi := _) (oM := _) (v := (.map (some m2))) 17 1 rfl rfl rfl (by kernel_rfl) (by kernel_rfl) (by kernel_rfl) (by kernel_rfl) (by kernel_rfl) (by kernel_rfl) (fun _ _ _ h => h) (Or.inl ⟨by rfl, fun w2 hSw => by (have hc := hSw.1; go_simp)⟩) hHeld ?_
  try simp only [Act.put, List.setIfInBounds_toArray, List.set_cons_zero, List.set_cons_succ]
  have hnd := Tryz.underlying387
  refine takeM (i := 4) (oi := _) (oM := _) (v := (.agg #[.bool false, .int .u32 (r : Int)])) 18 1 rfl rfl rfl (by kernel_rfl) (by kernel_rfl) (by kernel_rfl) (by kernel_rfl) (by kernel_rfl) (by kernel_rfl) (fun _ _ _ h => h) (yieldsIf_load_mid (by rfl) 387 (.tmp 5) rfl W.heap.size 0 rfl [.bool false, .int .u32 (r : Int)] _ (fun w2 hSw => hSw.2.1) hnd rfl (nameC r)) hHeld ?_
  try simp only [Act.put, List.setIfInBounds_toArray, List.set_cons_zero, List.set_cons_succ]
  clear hnd
  refine takeM (i := 5) (oi := _) (oM := _) (v := (.int .i64 0)) 19 1 rfl rfl rfl (by kernel_rfl) (by kernel_rfl) (by kernel_rfl) (by kernel_rfl) (by kernel_rfl) (by kernel_rfl) (fun _ _ _ h => h) (Or.inl ⟨by rfl, fun w2 hSw => by (have hlk := hSw.2.2; go_simp)⟩) hHeld ?_
  try simp only [Act.put, List.setIfInBounds_toArray, List.set_cons_zero, List.set_cons_succ]
  refine takeM (i := 6) (oi := _) (oM := _) (v := (.int .i64 (-1))) 20 1 rfl rfl rfl (by kernel_rfl) (by kernel_rfl) (by kernel_rfl) (by kernel_rfl) (by kernel_rfl) (by kernel_rfl) (fun _ _ _ h => h) (Or.inl ⟨by rfl, fun w2 hSw => by go_simp⟩) hHeld ?_
  try simp only [Act.put, List.setIfInBounds_toArray, List.set_cons_zero, List.set_cons_succ]
  refine wpAnyM_ready (rs := [7]) (by kernel_rfl) (by simp) ?_
  refine AllReadyM.cons rfl (fun K hK => ?_) AllReadyM.nil
  rw [if_pos (by rfl)]
  refine wp_mapEntry_at 21 (.tmp 17) (.tmp 18) 174 rfl rfl _ _ _ _ rfl rfl HEN.out ?_
  refine hK.out _ _ HS5.out (fun hHeld => ?_)
  clear hK
  try simp only [Act.put, List.setIfInBounds_toArray, List.set_cons_zero, List.set_cons_succ]
  refine takeM (i := 8) (oi := _) (oM := _) (v := (goInt st)) 22 1 rfl rfl rfl (by kernel_rfl) (by kernel_rfl) (by kernel_rfl) (by kernel_rfl) (by kernel_rfl) (by kernel_rfl) (fun _ _ _ h => h) (Or.inl ⟨by rfl, fun w2 hSw => by go_simp⟩) hHeld ?_
  try simp only [Act.put, List.setIfInBounds_toArray, List.set_cons_zero, List.set_cons_succ]
  refine wpAnyM_ready (rs := [9]) (by kernel_rfl) (by simp) ?_
  refine AllReadyM.last rfl (by kernel_rfl) (fun K hK => ?_)
  rw [if_pos (by rfl)]
  refine wp_entryStore_no (.tmp 17) (.tmp 22) (.tmp 20) 174 rfl rfl _ _ _ _ rfl rfl rfl HST.out ?_
  refine hK.out _ _ ?_
  clear hK hHeld
  try simp only [Act.put, List.setIfInBounds_toArray, List.set_cons_zero, List.set_cons_succ]
  refine wpAny_done (by kernel_rfl) ?_ _
  refine NoPanic.normal ?_
  obtain ⟨t6, s6⟩ := HS4.out.tt.count HM6.out HG6.out
  have HS6 := Lib.hid (HS4.out.trial t6 s6)
  have HT6 := Lib.hid (HT4.out.trans s6 (fun _ e => .inl e))
  have h4c : w6.cell? ⟨b, 4, none⟩ = some (.map (some m1)) := Joins.cell_of_block (i := 4) t6.box
  clear t6 s6 HS4 HT4 HM6 HG6 HEN HST HS5 HLK HK4 hw1 hw2
  go_upto_region 6 with (first
    | (at_delete; go_loud (refine wpList_delete_own _ rfl _ _ 167 22 rfl 45 lawU Tryz.underlying167 rawE m1 q1 _ rfl HS6.out.tt.says _ _ rfl (key_ofU r (by omega)) ?_; intro w7 hm7 ht7; rw [dm_del] at hm7; have HM7 := Lib.hid hm7; have HG7 := Lib.hid ht7; clear hm7 ht7))
    | fail)
  obtain ⟨t7, s7⟩ := HS6.out.tt.say HM7.out HG7.out.grown
  have HS7 := Lib.hid (HS6.out.trial t7 s7)
  have HT7 := Lib.hid (HT6.out.trans s7 (fun _ e => .inl e))
  have h3 : w7.cell? ⟨b, 3, none⟩ = some (.int .i64 rm) := Joins.cell_of_block (i := 3) t7.box
  have f3 := frozen_of_row _ b 3 _ _ t7.box
  have hw3 : IntKind.i64.wrap (rm + 1) = rm + 1 := by rw [IntKind.wrap_i64]; omega
  clear t7 s7 h4c
  go_wp2_with fail
  go_ret
  have s8 := stays_cell w7 b 3 (.int .i64 (rm + 1))
  exact ⟨rfl, HT7.out.trans s8 (fun j e => .inl (.inl e)), HS7.out.trial (HS7.out.tt.room (rm + 1)) (s8.up (fun j e => .inl e))⟩
end
end Go.Proofs.YtoclhiaidbfheaaGreatDoor.T
end

section
set_option linter.unusedVariables false
namespace Go.Proofs.YtoclhiaidbfheaaGreatDoor.T
open Go.RowKit Q S Go.ChangeMaps Go.MapKept

theorem results_tcct {P : Program} {fn : Func} {s t u x : Tmp} {T U : TypeId} (h : fn.results = #[.tmp s, .cell t T, .cell u U, .tmp x]) (tmps : Array Value) (w : World) (a b : Addr) (y v z q : Value) (hs : tmps.getD s undef = y) (ht : tmps.getD t undef = .pointer (some a)) (hu : tmps.getD u undef = .pointer (some b)) (hx : tmps.getD x undef = q) (h1 : (loadVar T a).run P w = .ok v w) (h2 : (loadVar U b).run P w = .ok z w) :
    (results fn tmps).run P w = .ok (.tuple #[y, v, z, q]) w := by
  have hp' : tmps[t]?.getD undef = .pointer (some a) := by simpa using ht
  have hq' : tmps[u]?.getD undef = .pointer (some b) := by simpa using hu
  have hs' : tmps[s]?.getD undef = y := by simpa using hs
  have hx' : tmps[x]?.getD undef = q := by simpa using hx
  simp [results, h, hp', hq', hs', hx', asAddr, h1, h2]
theorem load_u64 {w : World} {b : Nat} {v : Int} (h : w.cell? ⟨b, 0, none⟩ = some (.int .u64 v)) : (loadVar 23 ⟨b, 0, none⟩).run Tryz.prog w = .ok (.int .u64 v) w := by
  go_simp
theorem load_bool {w : World} {b : Nat} {v : Bool} (h : w.cell? ⟨b, 0, none⟩ = some (.bool v)) : (loadVar 4 ⟨b, 0, none⟩).run Tryz.prog w = .ok (.bool v) w := by
  go_simp
abbrev onT (b : Nat) : Value := .iface 173 (.pointer (some ⟨b, 0, none⟩))
abbrev onS (k : LK) : Value := .iface 24 (.pointer (some ⟨k.bs, 0, none⟩))
/-- five boxes of a call -/
def box5 (W : World) (kd key val : Nat) : World := ((((W.alloc (.cells #[.int .i64 (kd : Int)] 29)).alloc (.cells #[.int .u64 (key : Int)] 23)).alloc (.cells #[.int .u64 (val : Int)] 23)).alloc (.cells #[.int .u64 0] 23)).alloc (.cells #[.bool false] 4)
theorem setRow_self {w : World} {b : Nat} {cs : Array Value} {t : TypeId} {fr : Nat × Nat} (h : w.heap[b]? = some (.cells cs t fr)) : w.setRow b cs = w := by
  have hb := (Array.getElem?_eq_some_iff.1 h).1
  have e : (w.setRow b cs).heap = w.heap := by
    apply Array.ext_getElem?
    intro i
    by_cases hi : i = b
    · subst hi; rw [setRow_heap w i _ _ t _ h, h]
    · exact setRow_other w b i cs hi
  have e2 : w.setRow b cs = { w with heap := (w.setRow b cs).heap } := rfl
  rw [e2, e]
theorem setCell_idem {w : World} {b : Nat} {v : Value} {t : TypeId} {fr : Nat × Nat} (h : w.heap[b]? = some (.cells #[v] t fr)) : w.setCell ⟨b, 0, none⟩ v = w := by
  rw [setCell_eq_setRow w b 0 #[v] t fr v h]
  have e : (#[v] : Array Value).setIfInBounds 0 v = #[v] := rfl
  rw [e]
  exact setRow_self h
theorem row_one {W : World} {g n : Nat} (h : W.heap[g]? = some (.cells #[.int .u64 (n : Int)] 23 (0, 0))) : W.ownsRow 0 23 1 (.slice (some ⟨g, 0, none⟩) 1 1) [n].length (nums64 [n]) :=
  ⟨rfl, .inr ⟨g, 1, _, rfl, Nat.zero_le _, h, Nat.le_refl _, by decide, rfl, rfl⟩⟩
theorem heap_at (W : World) (o : Obj) (n : Nat) (h : W.heap.size = n) : (W.alloc o).heap[n]? = some o := by rw [← h]; exact heap_alloc_new W o
def box7 (W : World) (kd key val : Nat) : World := ((box5 W kd key val).alloc (.cells #[.int .u64 (key : Int)] 23)).alloc (.cells #[.int .u64 (val : Int)] 23)
theorem box7_facts (W : World) (kd key val : Nat) : Below W.heap.size W (box7 W kd key val) ∧ NO (box7 W kd key val) (.slice (some ⟨W.heap.size + 1 + 1 + 1 + 1 + 1, 0, none⟩) 1 1) (.slice (some ⟨W.heap.size + 1 + 1 + 1 + 1 + 1 + 1, 0, none⟩) 1 1) [key] [val] ∧
    (box7 W kd key val).heap[W.heap.size + 1 + 1 + 1]? = some (.cells #[.int .u64 0] 23 (0, 0)) ∧ (box7 W kd key val).heap[W.heap.size + 1 + 1 + 1 + 1]? = some (.cells #[.bool false] 4 (0, 0)) := by
  unfold box7 box5
  refine ⟨?_, ⟨row_one ?_, row_one ?_⟩, ?_, ?_⟩
  · refine (((((((Below.refl _ W).alloc (Nat.le_refl _) _).alloc ?_ _).alloc ?_ _).alloc ?_ _).alloc ?_ _).alloc ?_ _).alloc ?_ _ <;> simp only [World.size_alloc] <;> omega
  · exact (Below.heap_alloc _ _ _ (by simp only [World.size_alloc]; omega)).trans (heap_at _ _ _ (by simp only [World.size_alloc]))
  · exact heap_at _ _ _ (by simp only [World.size_alloc])
  · exact (Below.heap_alloc _ _ _ (by simp only [World.size_alloc]; omega)).trans ((Below.heap_alloc _ _ _ (by simp only [World.size_alloc]; omega)).trans ((Below.heap_alloc _ _ _ (by simp only [World.size_alloc]; omega)).trans (heap_at _ _ _ (by simp only [World.size_alloc]))))
  · exact (Below.heap_alloc _ _ _ (by simp only [World.size_alloc]; omega)).trans ((Below.heap_alloc _ _ _ (by simp only [World.size_alloc]; omega)).trans (heap_at _ _ _ (by simp only [World.size_alloc])))
section
variable {w W W' : World} {k : LK} {c c' : C.CS} {q q' : Nat} {D D' : DataW Value} {b : Nat} {rm rm' : Int} {m1 nx nx' m2 : Nat} {q1 q1' : Nat} {D1 D1' : DataW Value} {q2 q2' : Nat} {D2 D2' : DataW Value} {B : Nat}
set_option maxRecDepth 100000 in
set_option maxHeartbeats 8000000 in
theorem TS.put0 (h : TS w W k c q D b rm m1 nx m2 q1 D1 q2 D2 B) (hr : 0 < rm) (hr2 : rm < 1000) (hn : nx < 1000) (hq1 : q1 < 900) (hq2 : q2 < 900) (hct : D2.atKey (keyN nx) (.held (.int .i64 0)) = .held (.int .i64 0)) (kd key val : Nat) (hm : mayB ⟨kd, 0, [key], [val]⟩ = true) :
    Calls Tryz.prog 35 #[onT b, .int .u32 0, .int .i64 (kd : Int), .int .u64 (key : Int), .int .u64 (val : Int)] W fun e w' => e = .returned (.tuple #[.int .u32 (nx : Int), .int .u64 0, .bool false, .int .i64 0]) ∧ Hid (Q.Stays W w' (tts b m1 m2) ∧ ∃ rm' nx' q1' D1' q2' D2', TS w w' k c q D b rm' m1 nx' m2 q1' D1' q2' D2' B) := by
  obtain ⟨hb, hx, hA, hB⟩ := box7_facts W kd key val
  have s7 := h.below hb
  have e0 : ((0 : Nat) : Int) = 0 := rfl
  have hnw := (s7.tt.new hr hr2 hn hq1 hq2 kd 0 _ _ _ _ hx (by simp) (by simp) hm 0 hct (by omega) (by omega))
  rw [e0] at hnw
  have HNW := Lib.hid hnw
  have HSZ := Lib.hid h.size
  have HWN := Lib.hid (fun j (hj : tts b m1 m2 j) => h.tt.lt hj)
  have HS7 := Lib.hid s7
  have HB7 := Lib.hid hb
  have HA7 := Lib.hid hA
  have HE7 := Lib.hid hB
  clear h hb hx hA hB s7 hm hnw e0 hct
  unfold box7 box5 at *
  go_enter Tryz.func35, Tryz.ntmps35
  go_upto_region 3 with (first
    | (go_at_call 281; (with_reducible refine HNW.out.mono ?_); rintro e w8 ⟨rfl, h8⟩)
    | fail)
  obtain ⟨K2, V2, x8, t8, st8⟩ := h8.out
  have HS8 := Lib.hid (HS7.out.trial t8 st8)
  have ha8 := (st8.block _ (Array.getElem?_eq_some_iff.1 HA7.out).1 (fun e => by have := HWN.out _ e; omega)).trans HA7.out
  have he8 := (st8.block _ (Array.getElem?_eq_some_iff.1 HE7.out).1 (fun e => by have := HWN.out _ e; omega)).trans HE7.out
  have HA8 := Lib.hid ha8
  have HE8 := Lib.hid he8
  have HT8 := Lib.hid ((Q.Stays.of_below HB7.out (tts b m1 m2)).trans st8 (fun _ e => .inl e))
  have hca := Joins.cell_of_block (i := 0) ha8
  have hfa := frozen_of_row _ _ 0 _ _ ha8
  have hce := (Below.heap_setCell w8 ⟨W.heap.size + 1 + 1 + 1, 0, none⟩ (.int .u64 0) (W.heap.size + 1 + 1 + 1 + 1) (by show W.heap.size + 1 + 1 + 1 + 1 ≠ W.heap.size + 1 + 1 + 1; omega)).trans he8
  have hcb := Joins.cell_of_block (i := 0) hce
  have hfb := frozen_of_row _ _ 0 _ _ hce
  clear ha8 he8 hce h8 st8 HA7 HE7 HNW t8 x8
  go_wp2_with fail
  have hidem : (w8.setCell ⟨W.heap.size + 1 + 1 + 1, 0, none⟩ (.int .u64 0)).setCell ⟨W.heap.size + 1 + 1 + 1 + 1, 0, none⟩ (.bool false) = w8 := by rw [setCell_idem HA8.out, setCell_idem HE8.out]
  rw [hidem]
  exact bodyPost_ret (results_tcct rfl _ _ _ _ _ _ _ _ rfl rfl rfl rfl (load_u64 (Joins.cell_of_block (i := 0) HA8.out)) (load_bool (Joins.cell_of_block (i := 0) HE8.out))) rfl ⟨rfl, HT8.out, _, _, _, _, _, _, HS8.out⟩
set_option maxRecDepth 100000 in
set_option maxHeartbeats 8000000 in
theorem LS.put0 (h : LS w W k c q D) (hq : q < 900) {j : Nat} (hk : C.allocK c = some j) (hj : C.turn c j < 4294967296) (kd key val : Nat) (hm : mayB ⟨kd, 0, [key], [val]⟩ = true) :
    Calls Tryz.prog 35 #[onS k, .int .u32 0, .int .i64 (kd : Int), .int .u64 (key : Int), .int .u64 (val : Int)] W fun e w' => e = .returned (.tuple #[.int .u32 ((C.turn c j : Nat) : Int), .int .u64 0, .bool false, .int .i64 0]) ∧ Hid (Q.Stays W w' k.touch ∧ ∃ K2 V2, NO w' K2 V2 [key] [val] ∧ LS w w' k (C.allocS c j) (q + 1) (D.put (keyU (C.turn c j)) (.held (.agg #[.int .i64 (kd : Int), .int .u64 2, K2, V2])))) := by
  obtain ⟨hb, hx, hA, hB⟩ := box7_facts W kd key val
  have s7 := h.below hb
  have e0 : ((0 : Nat) : Int) = 0 := rfl
  have hnw := (s7.new hq hk hj kd 0 _ _ _ _ hx (by simp) (by simp) hm)
  rw [e0] at hnw
  have HNW := Lib.hid hnw
  have HSZ := Lib.hid h.bel.size
  have HWN := Lib.hid (fun j (hj : k.touch j) => h.tlt hj)
  have HMN := Lib.hid (fun j (hj : k.mine j) => h.mlt hj)
  have HS7 := Lib.hid s7
  have HB7 := Lib.hid hb
  have HA7 := Lib.hid hA
  have HE7 := Lib.hid hB
  clear h hb hx hA hB s7 hm hnw e0 hk
  unfold box7 box5 at *
  unfold LK.p at *
  go_enter Tryz.func35, Tryz.ntmps35
  go_upto_region 3 with (first
    | (go_at_call 14; (with_reducible refine HNW.out.mono ?_); rintro e w8 ⟨rfl, h8⟩)
    | fail)
  obtain ⟨K2, V2, x8, l8, st8⟩ := h8.out
  have HX8 := Lib.hid x8
  have HS8 := Lib.hid l8
  have ha8 := (st8.block _ (Array.getElem?_eq_some_iff.1 HA7.out).1 (fun e => by have := HWN.out _ e; omega)).trans HA7.out
  have he8 := (st8.block _ (Array.getElem?_eq_some_iff.1 HE7.out).1 (fun e => by have := HWN.out _ e; omega)).trans HE7.out
  have HA8 := Lib.hid ha8
  have HE8 := Lib.hid he8
  have HT8 := Lib.hid ((Q.Stays.of_below HB7.out (k.touch)).trans st8 (fun _ e => .inl e))
  have hca := Joins.cell_of_block (i := 0) ha8
  have hfa := frozen_of_row _ _ 0 _ _ ha8
  have hce := (Below.heap_setCell w8 ⟨W.heap.size + 1 + 1 + 1, 0, none⟩ (.int .u64 0) (W.heap.size + 1 + 1 + 1 + 1) (by show W.heap.size + 1 + 1 + 1 + 1 ≠ W.heap.size + 1 + 1 + 1; omega)).trans he8
  have hcb := Joins.cell_of_block (i := 0) hce
  have hfb := frozen_of_row _ _ 0 _ _ hce
  clear ha8 he8 hce h8 st8 HA7 HE7 HNW x8 l8
  go_wp2_with fail
  have hidem : (w8.setCell ⟨W.heap.size + 1 + 1 + 1, 0, none⟩ (.int .u64 0)).setCell ⟨W.heap.size + 1 + 1 + 1 + 1, 0, none⟩ (.bool false) = w8 := by rw [setCell_idem HA8.out, setCell_idem HE8.out]
  rw [hidem]
  exact bodyPost_ret (results_tcct rfl _ _ _ _ _ _ _ _ rfl rfl rfl rfl (load_u64 (Joins.cell_of_block (i := 0) HA8.out)) (load_bool (Joins.cell_of_block (i := 0) HE8.out))) rfl ⟨rfl, HT8.out, K2, V2, HX8.out, HS8.out⟩
end
end Go.Proofs.YtoclhiaidbfheaaGreatDoor.T
end

section
set_option linter.unusedVariables false
namespace Go.Proofs.YtoclhiaidbfheaaGreatDoor.T
open Go.RowKit Q S Go.ChangeMaps Go.MapKept

/-- what Put keeps for its closure: an empty root, a kind, a key, a value -/
structure Caps4 (W : World) (a kd key val : Nat) : Prop where
  c0 : W.heap[a]? = some (.cells #[.int .u32 0] 22 (0, 0))
  c1 : W.heap[a + 1]? = some (.cells #[.int .i64 (kd : Int)] 29 (0, 0))
  c2 : W.heap[a + 1 + 1]? = some (.cells #[.int .u64 (key : Int)] 23 (0, 0))
  c3 : W.heap[a + 1 + 1 + 1]? = some (.cells #[.int .u64 (val : Int)] 23 (0, 0))
theorem Caps4.on {W W' : World} {a kd key val : Nat} {G : Nat → Prop} (h : Caps4 W a kd key val) (hs : Q.Stays W W' G) (hn : ∀ j, a ≤ j → ¬ G j) : Caps4 W' a kd key val :=
  ⟨(hs.block _ (Array.getElem?_eq_some_iff.1 h.c0).1 (hn _ (by omega))).trans h.c0, (hs.block _ (Array.getElem?_eq_some_iff.1 h.c1).1 (hn _ (by omega))).trans h.c1, (hs.block _ (Array.getElem?_eq_some_iff.1 h.c2).1 (hn _ (by omega))).trans h.c2, (hs.block _ (Array.getElem?_eq_some_iff.1 h.c3).1 (hn _ (by omega))).trans h.c3⟩
theorem Caps4.off {W W' : World} {a kd key val : Nat} {G : Nat → Prop} (h : Caps4 W a kd key val) (hs : Q.Stays W W' G) (hn : ∀ j, a ≤ j → j ≤ a + 3 → ¬ G j) : Caps4 W' a kd key val :=
  ⟨(hs.block _ (Array.getElem?_eq_some_iff.1 h.c0).1 (hn _ (by omega) (by omega))).trans h.c0, (hs.block _ (Array.getElem?_eq_some_iff.1 h.c1).1 (hn _ (by omega) (by omega))).trans h.c1, (hs.block _ (Array.getElem?_eq_some_iff.1 h.c2).1 (hn _ (by omega) (by omega))).trans h.c2, (hs.block _ (Array.getElem?_eq_some_iff.1 h.c3).1 (hn _ (by omega) (by omega))).trans h.c3⟩
theorem Caps4.below {W W' : World} {a kd key val : Nat} (h : Caps4 W a kd key val) (hb : Below W.heap.size W W') : Caps4 W' a kd key val := h.off (Q.Stays.of_below hb (fun _ => False)) (fun _ _ _ e => e)
abbrev fnP (a : Nat) : Value := .func (.func 34) #[] #[.pointer (some ⟨a, 0, none⟩), .pointer (some ⟨a + 1, 0, none⟩), .pointer (some ⟨a + 1 + 1, 0, none⟩), .pointer (some ⟨a + 1 + 1 + 1, 0, none⟩)]
/-- a trial, new -/
def tri (W : World) (p : Value) (rm : Int) : World := (((W.alloc (.map #[] 0)).alloc (.map #[] 0)).alloc (.cells (trA p 200 60 0 W.heap.size 200 (W.heap.size + 1) 0 false) 176)).drew.setCell ⟨W.heap.size + 1 + 1, 3, none⟩ (.int .i64 rm)
theorem trial_zero (w : World) : (zeroValue 176).run Tryz.prog w = .ok (.agg #[.pointer none, .int .u32 0, .int .u32 0, .int .i64 0, .map none, .int .u32 0, .map none, .int .i64 0, .bool false]) w := by kernel_rfl
section
variable {w W W' : World} {k : LK} {c c' : C.CS} {q q' : Nat} {D D' : DataW Value} {b : Nat} {rm rm' : Int} {m1 nx nx' m2 : Nat} {q1 q1' : Nat} {D1 D1' : DataW Value} {q2 q2' : Nat} {D2 D2' : DataW Value} {B : Nat}
theorem tri_facts (W : World) (p : Value) (rm : Int) : Below W.heap.size W (tri W p rm) ∧ TT (tri W p rm) (W.heap.size + 1 + 1) p 200 60 rm W.heap.size 200 (W.heap.size + 1) false 0 dm0 0 dm0 := by
  have hb : Below W.heap.size W (((W.alloc (.map #[] 0)).alloc (.map #[] 0)).alloc (.cells (trA p 200 60 0 W.heap.size 200 (W.heap.size + 1) 0 false) 176)).drew := by
    refine ((((Below.refl _ W).alloc (Nat.le_refl _) _).alloc ?_ _).alloc ?_ _).drew <;> simp only [World.size_alloc] <;> omega
  have h1 : (((W.alloc (.map #[] 0)).alloc (.map #[] 0)).alloc (.cells (trA p 200 60 0 W.heap.size 200 (W.heap.size + 1) 0 false) 176)).drew.heap[W.heap.size]? = some (.map #[] 0) := (Below.heap_alloc _ _ _ (by simp only [World.size_alloc]; omega)).trans ((Below.heap_alloc _ _ _ (by simp only [World.size_alloc]; omega)).trans (heap_at _ _ _ rfl))
  have h2 : (((W.alloc (.map #[] 0)).alloc (.map #[] 0)).alloc (.cells (trA p 200 60 0 W.heap.size 200 (W.heap.size + 1) 0 false) 176)).drew.heap[W.heap.size + 1]? = some (.map #[] 0) := (Below.heap_alloc _ _ _ (by simp only [World.size_alloc]; omega)).trans (heap_at _ _ _ (by simp only [World.size_alloc]))
  have h3 : (((W.alloc (.map #[] 0)).alloc (.map #[] 0)).alloc (.cells (trA p 200 60 0 W.heap.size 200 (W.heap.size + 1) 0 false) 176)).drew.heap[W.heap.size + 1 + 1]? = some (.cells (trA p 200 60 0 W.heap.size 200 (W.heap.size + 1) 0 false) 176 (0, 0)) := heap_at _ _ _ (by simp only [World.size_alloc])
  have t : TT (((W.alloc (.map #[] 0)).alloc (.map #[] 0)).alloc (.cells (trA p 200 60 0 W.heap.size 200 (W.heap.size + 1) 0 false) 176)).drew (W.heap.size + 1 + 1) p 200 60 0 W.heap.size 200 (W.heap.size + 1) false 0 dm0 0 dm0 := ⟨h3, FM.start h1, MM.start h2, by omega, by omega, by omega⟩
  exact ⟨hb.setCell (p := ⟨W.heap.size + 1 + 1, 3, none⟩) (by show W.heap.size ≤ W.heap.size + 1 + 1; omega) _, t.room rm⟩
set_option maxRecDepth 100000 in
set_option maxHeartbeats 4000000 in
theorem TS.putc (h : TS w W k c q D b rm m1 nx m2 q1 D1 q2 D2 B) (hr : 0 < rm) (hr2 : rm < 1000) (hn : nx < 1000) (hq1 : q1 < 900) (hq2 : q2 < 900) (hct : D2.atKey (keyN nx) (.held (.int .i64 0)) = .held (.int .i64 0)) (a kd key val : Nat) (hc : Caps4 W a kd key val) (hm : mayB ⟨kd, 0, [key], [val]⟩ = true) :
    Calls Tryz.prog 34 #[onT b, .pointer (some ⟨a, 0, none⟩), .pointer (some ⟨a + 1, 0, none⟩), .pointer (some ⟨a + 1 + 1, 0, none⟩), .pointer (some ⟨a + 1 + 1 + 1, 0, none⟩)] W fun e w' => e = .returned (.tuple #[.int .u32 (nx : Int), .int .u64 0, .bool false, .int .i64 0]) ∧ Hid (Q.Stays W w' (tts b m1 m2) ∧ ∃ rm' nx' q1' D1' q2' D2', TS w w' k c q D b rm' m1 nx' m2 q1' D1' q2' D2' B) := by
  have HP := Lib.hid (h.put0 hr hr2 hn hq1 hq2 hct kd key val hm)
  have hc0 := Joins.cell_of_block (i := 0) hc.c0
  have hc1 := Joins.cell_of_block (i := 0) hc.c1
  have hc2 := Joins.cell_of_block (i := 0) hc.c2
  have hc3 := Joins.cell_of_block (i := 0) hc.c3
  clear h hc hm hct
  go_enter Tryz.func34, Tryz.ntmps34
  go_wp2_with (first
    | (go_at_call 35; (with_reducible refine HP.out.mono ?_); rintro e w1 ⟨rfl, h1⟩)
    | fail)
  exact bodyPost_ret (results_tmp4 rfl _ _ _) rfl ⟨rfl, h1.out⟩
set_option maxRecDepth 100000 in
set_option maxHeartbeats 4000000 in
theorem LS.putc (h : LS w W k c q D) (hq : q < 900) {j : Nat} (hk : C.allocK c = some j) (hj : C.turn c j < 4294967296) (a kd key val : Nat) (hc : Caps4 W a kd key val) (hm : mayB ⟨kd, 0, [key], [val]⟩ = true) :
    Calls Tryz.prog 34 #[onS k, .pointer (some ⟨a, 0, none⟩), .pointer (some ⟨a + 1, 0, none⟩), .pointer (some ⟨a + 1 + 1, 0, none⟩), .pointer (some ⟨a + 1 + 1 + 1, 0, none⟩)] W fun e w' => e = .returned (.tuple #[.int .u32 ((C.turn c j : Nat) : Int), .int .u64 0, .bool false, .int .i64 0]) ∧ Hid (Q.Stays W w' k.touch ∧ ∃ K2 V2, NO w' K2 V2 [key] [val] ∧ LS w w' k (C.allocS c j) (q + 1) (D.put (keyU (C.turn c j)) (.held (.agg #[.int .i64 (kd : Int), .int .u64 2, K2, V2])))) := by
  have HP := Lib.hid (h.put0 hq hk hj kd key val hm)
  have hc0 := Joins.cell_of_block (i := 0) hc.c0
  have hc1 := Joins.cell_of_block (i := 0) hc.c1
  have hc2 := Joins.cell_of_block (i := 0) hc.c2
  have hc3 := Joins.cell_of_block (i := 0) hc.c3
  clear h hc hm hk
  go_enter Tryz.func34, Tryz.ntmps34
  go_wp2_with (first
    | (go_at_call 35; (with_reducible refine HP.out.mono ?_); rintro e w1 ⟨rfl, h1⟩)
    | fail)
  exact bodyPost_ret (results_tmp4 rfl _ _ _) rfl ⟨rfl, h1.out⟩
set_option maxRecDepth 100000 in
set_option maxHeartbeats 8000000 in
theorem LS.triedP (h : LS w W k c q D) (hq : q < 900) (rn : Nat) (hrn : C.roomN c c.now.length = rn) (hr : 0 < rn) (hr2 : rn < 1000) {j : Nat} (hk : C.allocK c = some j) (hj : C.turn c j < 4294967296) (a kd key val : Nat) (hc : Caps4 W a kd key val) (hm : mayB ⟨kd, 0, [key], [val]⟩ = true) :
    Calls Tryz.prog 33 #[k.p, fnP a] W fun e w' => e = .returned (.tuple #[.int .u32 ((C.turn c j : Nat) : Int), .int .u64 0, .bool false, .int .i64 0]) ∧ Hid (Q.Stays W w' k.touch ∧ ∃ K2 V2, NO w' K2 V2 [key] [val] ∧ LS w w' k (C.allocS c j) (q + 1) (D.put (keyU (C.turn c j)) (.held (.agg #[.int .i64 (kd : Int), .int .u64 2, K2, V2])))) := by
  have hsu := h.super
  have hu1 : (uC 200 60)[1]? = some (.int .i64 200) := rfl
  have hu2 : (uC 200 60)[2]? = some (.int .i64 60) := rfl
  have hone : (uC 200 60).toArray.all (·.oneCell') = true := by have := cellsS_all (firstU 200 60); rw [show (firstU 200 60).cells = (uC 200 60).toArray by simp [uC]] at this; exact this
  have hul := uC_len 200 60
  obtain ⟨cl, hcl⟩ : ∃ cl, uC 200 60 = cl := ⟨_, rfl⟩
  rw [hcl] at hsu hu1 hu2 hone hul
  clear hcl
  have HST : Hid (∀ w1 : World, (storeVar 144 ⟨w1.heap.size, 0, none⟩ (.agg cl.toArray)).run Tryz.prog (w1.alloc (.cells zeroSC 144)) = .ok () (w1.alloc (.cells cl.toArray 144))) := Lib.hid (fun w1 => run_storeVar_new w1 144 zeroSC cl.toArray (by rw [List.size_toArray, hul]; kernel_rfl) (by simp only [List.size_toArray, hul]; rfl) hone)
  have HU1 := Lib.hid hu1
  have HU2 := Lib.hid hu2
  have HSU := Lib.hid hsu
  have HL := Lib.hid h
  have HC := Lib.hid hc
  have HRN := Lib.hid hrn
  have HK := Lib.hid hk
  have HM := Lib.hid hm
  have hzs := sup_zero
  clear h hc hrn hk hm hsu hu1 hu2 hul hone
  unfold LK.p at *
  go_enter Tryz.func33, Tryz.ntmps33
  go_upto_region 2 with (first
    | (go_at_call 68; (with_reducible refine HSU.out.mono ?_); rintro e w1 ⟨rfl, hb1⟩; have HB1 := Lib.hid hb1; have HS1 := Lib.hid (HST.out w1); clear hb1)
    | ((with_reducible show wpList _ _ _ ({ dst := _, op := .store _ _ _, type := _, pos := _, after := _, guard := _ } :: _) _ _); refine wpList_store_run rfl 144 (.tmp 8) (.tmp 16) rfl w1.heap.size 0 _ ?ws16 rfl rfl ?hs16 ?_; (case hs16 => exact HS1.out))
    | fail)
  obtain ⟨W2, hW2⟩ : ∃ W2, w1.alloc (.cells cl.toArray 144) = W2 := ⟨_, rfl⟩
  have hb2 : Below w1.heap.size w1 W2 := by rw [← hW2]; exact (Below.refl _ w1).alloc (Nat.le_refl _) _
  have hn2 : W2.heap[w1.heap.size]? = some (.cells cl.toArray 144 (0, 0)) := by rw [← hW2]; exact heap_alloc_new w1 _
  rw [hW2]
  have hz1 : W2.cell? ⟨w1.heap.size, 1, none⟩ = some (.int .i64 200) := (Joins.cell_of_block hn2 1).trans (by rw [List.getElem?_toArray]; exact HU1.out)
  have hz2 : W2.cell? ⟨w1.heap.size, 2, none⟩ = some (.int .i64 60) := (Joins.cell_of_block hn2 2).trans (by rw [List.getElem?_toArray]; exact HU2.out)
  have HB2 := Lib.hid (HB1.out.trans (hb2.mono HB1.out.size))
  clear hW2 hb2 hn2 HS1 HST HSU HU1 HU2 hzs
  have hmm := @run_makeMap Tryz.prog
  have htz := trial_zero
  go_upto_region 3 with fail
  obtain ⟨W3, hW3⟩ : ∃ W3, ((W2.alloc (.map #[] 0)).alloc (.map #[] 0)).alloc (.cells #[.pointer (some ⟨k.bs, 0, none⟩), .int .u32 200, .int .u32 60, .int .i64 0, .map (some W2.heap.size), .int .u32 200, .map (some (W2.heap.size + 1)), .int .i64 0, .bool false] 176) = W3 := ⟨_, rfl⟩
  have hb3 : Below W2.heap.size W2 W3 := by
    rw [← hW3]
    refine (((Below.refl _ W2).alloc (Nat.le_refl _) _).alloc ?_ _).alloc ?_ _ <;> simp only [World.size_alloc] <;> omega
  have hn3 : W3.heap[W2.heap.size + 1 + 1]? = some (.cells #[.pointer (some ⟨k.bs, 0, none⟩), .int .u32 200, .int .u32 60, .int .i64 0, .map (some W2.heap.size), .int .u32 200, .map (some (W2.heap.size + 1)), .int .i64 0, .bool false] 176 (0, 0)) := by
    rw [← hW3]
    exact heap_at _ _ _ (by simp only [World.size_alloc])
  rw [hW3]
  have hrm := (HL.out.below (HB2.out.trans (hb3.mono HB2.out.size))).room
  rw [HRN.out] at hrm
  unfold LK.p at hrm
  have HRM := Lib.hid hrm
  have h3 : W3.drew.cell? ⟨W2.heap.size + 1 + 1, 3, none⟩ = some (.int .i64 0) := Joins.cell_of_block (i := 3) hn3
  have f3 := frozen_of_row W3.drew (W2.heap.size + 1 + 1) 3 _ _ hn3
  clear hrm hb3 hn3 hmm htz hz1 hz2
  go_upto_region 4 with (first
    | (go_at_call 85; (with_reducible refine HRM.out.mono ?_); rintro e w4 ⟨rfl, hw4⟩; subst w4)
    | fail)
  obtain ⟨hb4, t4⟩ := tri_facts W2 (.pointer (some ⟨k.bs, 0, none⟩)) (rn : Int)
  have hW4 : (W3.setCell ⟨W2.heap.size + 1 + 1, 3, none⟩ (.int .i64 (rn : Int))).drew = tri W2 (.pointer (some ⟨k.bs, 0, none⟩)) (rn : Int) := by rw [← hW3]; rfl
  rw [hW4]
  clear hW4 hW3 h3 f3 HRM
  generalize tri W2 (.pointer (some ⟨k.bs, 0, none⟩)) (rn : Int) = W4 at hb4 t4 ⊢
  have HB4 := Lib.hid (HB2.out.trans (hb4.mono HB2.out.size))
  have HSZ2 : Hid (W.heap.size ≤ W2.heap.size) := Lib.hid HB2.out.size
  have ts4 : TS w W4 k c q D (W2.heap.size + 1 + 1) (rn : Int) W2.heap.size 200 (W2.heap.size + 1) 0 dm0 0 dm0 W.heap.size := ⟨(LB.start HL.out).on (Q.Stays.of_below HB4.out (fun _ => False)) (fun _ e => e.elim), t4, fun j hj => by have := HSZ2.out; rcases hj with e | e | e <;> omega⟩
  have HC4 := Lib.hid (HC.out.below HB4.out)
  have HPT := Lib.hid (ts4.putc (by omega) (by omega) (by omega) (by omega) (by omega) (at_none 200 _) a kd key val HC4.out HM.out)
  have HCL : Hid (a + 3 < W.heap.size) := Lib.hid (Array.getElem?_eq_some_iff.1 HC.out.c3).1
  clear hb4 t4 ts4
  go_upto_region 5 with (first
    | (go_at_call 34; (with_reducible refine HPT.out.mono ?_); rintro e w5 ⟨rfl, h5⟩)
    | fail)
  obtain ⟨s5, rm5, nx5, p5, E5, r5, F5, ts5⟩ := h5.out
  have HTT : Hid (∀ j, tts (W2.heap.size + 1 + 1) W2.heap.size (W2.heap.size + 1) j → W.heap.size ≤ j) := Lib.hid ts5.hi
  have HV := Lib.hid (ts5.tt.box.verdict 0)
  have HC5 := Lib.hid (HC4.out.off s5 (fun j h1 h2 e => by have := HTT.out j e; have := HCL.out; omega))
  have HPS := Lib.hid (ts5.lb.ls.putc hq HK.out hj a kd key val HC5.out HM.out)
  have HS5 := Lib.hid s5
  clear h5 s5 ts5 HPT
  go_wp2_with (first
    | (go_at_call 86; (with_reducible refine HV.out.mono ?_); rintro e w6 ⟨rfl, hw6⟩; subst w6)
    | (go_at_call 34; (with_reducible refine HPS.out.mono ?_); rintro e w7 ⟨rfl, h7⟩)
    | fail)
  obtain ⟨s7, K2, V2, x7, l7⟩ := h7.out
  exact bodyPost_ret (results_tmp4 rfl _ _ _) rfl ⟨rfl, (((Q.Stays.of_below HB4.out k.touch).trans HS5.out (fun j e => .inr (HTT.out j e))).trans s7 (fun _ e => .inl e)), K2, V2, x7, l7⟩
end
end Go.Proofs.YtoclhiaidbfheaaGreatDoor.T
end

section
set_option linter.unusedVariables false
namespace Go.Proofs.YtoclhiaidbfheaaGreatDoor.T
open Go.RowKit Q S Go.ChangeMaps Go.MapKept

/-- four boxes of a call -/
def box4 (W : World) (kd key val : Nat) : World := (((W.alloc (.cells #[.int .u32 0] 22)).alloc (.cells #[.int .i64 (kd : Int)] 29)).alloc (.cells #[.int .u64 (key : Int)] 23)).alloc (.cells #[.int .u64 (val : Int)] 23)
theorem box4_facts (W : World) (kd key val : Nat) : Below W.heap.size W (box4 W kd key val) ∧ Caps4 (box4 W kd key val) W.heap.size kd key val := by
  unfold box4
  refine ⟨?_, ?_, ?_, ?_, ?_⟩
  · refine ((((Below.refl _ W).alloc (Nat.le_refl _) _).alloc ?_ _).alloc ?_ _).alloc ?_ _ <;> simp only [World.size_alloc] <;> omega
  · exact (Below.heap_alloc _ _ _ (by simp only [World.size_alloc]; omega)).trans ((Below.heap_alloc _ _ _ (by simp only [World.size_alloc]; omega)).trans ((Below.heap_alloc _ _ _ (by simp only [World.size_alloc]; omega)).trans (heap_at _ _ _ rfl)))
  · exact (Below.heap_alloc _ _ _ (by simp only [World.size_alloc]; omega)).trans ((Below.heap_alloc _ _ _ (by simp only [World.size_alloc]; omega)).trans (heap_at _ _ _ (by simp only [World.size_alloc])))
  · exact (Below.heap_alloc _ _ _ (by simp only [World.size_alloc]; omega)).trans (heap_at _ _ _ (by simp only [World.size_alloc]))
  · exact heap_at _ _ _ (by simp only [World.size_alloc])
section
variable {w W W' : World} {k : LK} {c c' : C.CS} {q q' : Nat} {D D' : DataW Value}
set_option maxRecDepth 100000 in
set_option maxHeartbeats 8000000 in
theorem LS.Put (h : LS w W k c q D) (hq : q < 900) (rn : Nat) (hrn : C.roomN c c.now.length = rn) (hr : 0 < rn) (hr2 : rn < 1000) {j : Nat} (hk : C.allocK c = some j) (hj : C.turn c j < 4294967296) (kd key val : Nat) (h3 : (kd : Int) = 3) (hm : mayB ⟨kd, 0, [key], [val]⟩ = true) :
    Calls Tryz.prog 7 #[k.p, .int .u32 0, .int .i64 (kd : Int), .int .u64 (key : Int), .int .u64 (val : Int)] W fun e w' => e = .returned (.tuple #[.int .u32 ((C.turn c j : Nat) : Int), .int .u64 0, .bool false, .int .i64 0]) ∧ Hid (Q.Stays W w' k.touch ∧ ∃ K2 V2, NO w' K2 V2 [key] [val] ∧ LS w w' k (C.allocS c j) (q + 1) (D.put (keyU (C.turn c j)) (.held (.agg #[.int .i64 (kd : Int), .int .u64 2, K2, V2])))) := by
  obtain ⟨hb, hc⟩ := box4_facts W kd key val
  obtain ⟨W4, hW4⟩ : ∃ W4, box4 W kd key val = W4 := ⟨_, rfl⟩
  rw [hW4] at hb hc
  have l4 := h.below hb
  have HRD : Hid (Calls Tryz.prog 32 #[k.p] W4 fun e w' => e = .returned (.int .i64 0) ∧ Below W4.heap.size W4 w') := Lib.hid (l4.rdy W4 (Below.refl _ W4))
  have HTR : Hid (∀ W', Below W4.heap.size W4 W' → Calls Tryz.prog 33 #[k.p, fnP W.heap.size] W' fun e w' => e = .returned (.tuple #[.int .u32 ((C.turn c j : Nat) : Int), .int .u64 0, .bool false, .int .i64 0]) ∧ Hid (Q.Stays W' w' k.touch ∧ ∃ K2 V2, NO w' K2 V2 [key] [val] ∧ LS w w' k (C.allocS c j) (q + 1) (D.put (keyU (C.turn c j)) (.held (.agg #[.int .i64 (kd : Int), .int .u64 2, K2, V2]))))) := Lib.hid (fun W' hb' => (l4.below hb').triedP hq rn hrn hr hr2 hk hj W.heap.size kd key val (hc.below hb') hm)
  have HB4 := Lib.hid hb
  have HC4 := Lib.hid hc
  have HW4 := Lib.hid hW4
  have h2 : ¬ (kd : Int) = 2 := by omega
  have H3 := Lib.hid h3
  clear h hb hc l4 hk hrn hm hW4 h3
  unfold LK.p at *
  go_enter Tryz.func7, Tryz.ntmps7
  go_upto_region 1 with fail
  have hW4 := HW4.out
  unfold box4 at hW4
  rw [hW4]
  clear hW4 HW4
  go_upto_region 4 with (first
    | (go_at_call 32; (with_reducible refine HRD.out.mono ?_); rintro e w5 ⟨rfl, hb5⟩; have HB5 := Lib.hid hb5; clear hb5)
    | fail)
  have h3 := H3.out
  have hc1 := Joins.cell_of_block (i := 0) (HC4.out.below HB5.out).c1
  go_wp2_with (first
    | (go_at_call 33; (with_reducible refine (HTR.out _ HB5.out).mono ?_); rintro e w6 ⟨rfl, h6⟩)
    | fail)
  obtain ⟨s6, K2, V2, x6, l6⟩ := h6.out
  exact bodyPost_ret (results_tmp4 rfl _ _ _) rfl ⟨rfl, ((Q.Stays.of_below (HB4.out.trans (HB5.out.mono HB4.out.size)) k.touch).trans s6 (fun _ e => .inl e)), K2, V2, x6, l6⟩
end
end Go.Proofs.YtoclhiaidbfheaaGreatDoor.T
end
