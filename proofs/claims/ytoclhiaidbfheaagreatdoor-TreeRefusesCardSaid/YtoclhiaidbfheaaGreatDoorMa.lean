/- store: its fresh nodes, any map of them: isFresh, read, Node; and a node that there is not. -/
import Derived.Test.YtoclhiaidbfheaaGreatDoorHb
set_option linter.unusedVariables false
namespace Go.Proofs.YtoclhiaidbfheaaGreatDoor.T
open Go.RowKit Q S Go.ChangeMaps Go.MapKept

/-- a map of nodes has node u by number r -/
structure AtD (D : DataW Value) (r : Nat) (u : Value) : Prop where
  at_ : D.atKey (keyU r) (.held zN) = .held u
  has : Maps.has D (keyU r) = true
theorem isMap1 (r : Nat) (u : Value) : Maps.IsMap (dm1 r u) := isMap0.put _ _
theorem AtD.put {D : DataW Value} (hD : Maps.IsMap D) (r : Nat) (u : Value) (hn : r < 4294967296) : AtD (D.put (keyU r) (.held u)) r u :=
  ⟨Maps.atKey_put_same hD (keyU_lit r hn) _ _, Maps.has_put_same hD (keyU_lit r hn) _⟩
theorem AtD.one (r : Nat) (u : Value) (hn : r < 4294967296) : AtD (dm1 r u) r u := AtD.put isMap0 r u hn
theorem keyU_ne {r s : Nat} (h : r ≠ s) : keyU r ≠ keyU s := fun e => by
  injection e with _ e
  exact h (by omega)
theorem AtD.other {D : DataW Value} {r s : Nat} {u : Value} (h : AtD D r u) (hne : r ≠ s) (v : DataW Value) : AtD (D.put (keyU s) v) r u :=
  ⟨(Maps.atKey_put_other (keyU_ne hne) _ _).trans h.at_, (Maps.has_put_other (keyU_ne hne) _).trans h.has⟩
theorem FM.lookD {w : World} {mp k r : Nat} {u : Value} {D : DataW Value} (h : FM w mp k D) (ha : AtD D r u) (hn : r < 4294967296) : (Instr.lookup 167 (.map (some mp)) (.int .u32 (r : Int)) true).run Tryz.prog w = .ok (.tuple #[u, .bool true]) w := by
  obtain ⟨v, ps, hrun, hv⟩ := World.ownsMap.look_ok (t := 167) (e := 45) (zd := .held zN) (zp := []) h lawU Tryz.underlying167 (node_zero w) rfl (key_ofU r hn)
  rw [ha.at_] at hv
  rw [ha.has] at hrun
  have hv' : some (DataW.held v, ([] : List MemPlace)) = some (DataW.held u, ps) := hv
  obtain rfl : v = u := by simpa using congrArg (fun o => o.map (·.1)) hv'
  exact hrun
section
variable {w W : World} {k : LK} {c : C.CS} {q : Nat} {D : DataW Value}
set_option maxRecDepth 100000 in
set_option maxHeartbeats 1000000 in
theorem LS.placeE (h : LS w W k c q D) (hc : c.now.length = 200) (n : Nat) (h2 : 200 ≤ n) (h4 : n < 4294967296) : Calls Tryz.prog 209 #[k.p, .int .u32 (n : Int)] W fun e w' => e = .returned (.int .i64 2) ∧ w' = W := by
  have HR := Lib.hid h.ready
  have hlen := C.len_any W k.bm k.g0 k.p0 k.g1 k.p1 c h.am
  rw [hc] at hlen
  have HLN := Lib.hid hlen
  have h20 := h.st.c20
  have hn0 : ((n : Int) == 0) = false := by rw [beq_eq_false_iff_ne]; omega
  have hn2 : (200 : Int) ≤ (n : Int) := by omega
  have hw1 : IntKind.u64.wrap (n : Int) = (n : Int) := by rw [IntKind.wrap_u64]; omega
  clear h hlen hc
  unfold LK.p at *
  go_enter Tryz.func209, Tryz.ntmps209
  go_wp2_with (first
    | (go_at_call 46; (with_reducible refine HR.out.mono ?_); rintro e w1 ⟨rfl, hw⟩; subst w1)
    | (go_at_call 166; (with_reducible refine HLN.out.mono ?_); rintro e w1 ⟨rfl, hw⟩; subst w1)
    | fail)
  go_ret
  exact ⟨rfl, rfl⟩
variable {r : Nat} {kd bi : Nat} {K2 V2 : Value} {ks vs : List Nat}
set_option maxRecDepth 100000 in
theorem LS.isFreshD (h : LS w W k c q D) (ha : AtD D r (.agg #[.int .i64 (kd : Int), .int .u64 (bi : Int), K2, V2])) (hx : NO W K2 V2 ks vs) (hr : r < 4294967296) : Calls Tryz.prog 228 #[k.p, .int .u32 (r : Int)] W fun e w' => e = .returned (.bool true) ∧ Below W.heap.size W w' := by
  have HLK := Lib.hid (h.mp.lookD ha hr)
  have h22 : W.cell? ⟨k.bs, 22, none⟩ = some (.map (some k.mp)) := h.st.c 22
  have HST := Lib.hid (node_new (kd : Int) (bi : Int) K2 V2 hx.one.1 hx.one.2 W)
  clear h hx
  have hz := node_zero
  unfold LK.p at *
  go_enter Tryz.func228, Tryz.ntmps228
  go_wp2_with (first
    | (at_lookup; refine wpList_lookup_ok _ rfl (.tmp 11) (.tmp 12) 167 rfl _ _ _ rfl rfl HLK.out ?_)
    | (refine wpList_store_run rfl 45 (.tmp 5) (.tmp 14) rfl W.heap.size 0 _ _ rfl rfl HST.out ?_)
    | fail)
  go_ret
  exact ⟨rfl, (Below.refl _ W).alloc (Nat.le_refl _) _⟩
set_option maxRecDepth 100000 in
set_option maxHeartbeats 1000000 in
theorem LS.readD (h : LS w W k c q D) (ha : AtD D r (.agg #[.int .i64 (kd : Int), .int .u64 (bi : Int), K2, V2])) (hx : NO W K2 V2 ks vs) (hr : r < 4294967296) (hl : ks.length ≤ 1000) (hl2 : vs.length ≤ 1000) : Calls Tryz.prog 189 #[k.p, .int .u32 (r : Int)] W fun e w' => ∃ K3 V3, e = .returned (.tuple #[.agg #[.int .i64 (kd : Int), .int .u64 (bi : Int), K3, V3], .int .i64 0]) ∧ NB w' W.heap.size K3 V3 ks vs ∧ Below W.heap.size W w' := by
  obtain ⟨W1, hW1⟩ : ∃ W1, W.alloc (.cells #[.int .i64 0, .int .u64 0, .slice none 0 0, .slice none 0 0] 45) = W1 := ⟨_, rfl⟩
  have hb1 : Below W.heap.size W W1 := by rw [← hW1]; exact (Below.refl _ W).alloc (Nat.le_refl _) _
  have hbx : W1.heap[W.heap.size]? = some (.cells #[.int .i64 0, .int .u64 0, .slice none 0 0, .slice none 0 0] 45 (0, 0)) := by rw [← hW1]; exact heap_alloc_new W _
  have hz1 : W1.heap.size = W.heap.size + 1 := by rw [← hW1]; simp
  have h1 := h.below hb1
  have HLK := Lib.hid (h1.mp.lookD ha hr)
  have h22 : W1.cell? ⟨k.bs, 22, none⟩ = some (.map (some k.mp)) := h1.st.c 22
  have HST := Lib.hid (node_new (kd : Int) (bi : Int) K2 V2 hx.one.1 hx.one.2 W1)
  obtain ⟨W2, hW2⟩ : ∃ W2, W1.alloc (.cells #[.int .i64 (kd : Int), .int .u64 (bi : Int), K2, V2] 45) = W2 := ⟨_, rfl⟩
  have hb2 : Below W1.heap.size W1 W2 := by rw [← hW2]; exact (Below.refl _ W1).alloc (Nat.le_refl _) _
  have hbx2 : W2.heap[W1.heap.size]? = some (.cells #[.int .i64 (kd : Int), .int .u64 (bi : Int), K2, V2] 45 (0, 0)) := by rw [← hW2]; exact heap_alloc_new W1 _
  have hx2 := (hx.below hb1).below hb2
  have HCP := Lib.hid (hx2.copyB kd bi hl hl2)
  have HBX2 := Lib.hid (range_of hbx2)
  have HB0 := Lib.hid ((hb2.block W.heap.size (by omega)).trans hbx)
  have HB12 := Lib.hid (hb1.trans (hb2.mono hb1.size))
  rw [hW2] at HST
  have HW2 := Lib.hid hW2
  have HW1 := Lib.hid hW1
  rw [hz1] at HST HBX2
  clear h hx hx2 hb1 hb2 hbx hbx2 h1
  have hz := node_zero
  unfold LK.p at *
  go_enter Tryz.func189, Tryz.ntmps189
  go_wp2_with (first
    | (at_lookup; refine wpList_lookup_ok _ rfl (.tmp 14) (.tmp 15) 167 rfl _ _ _ rfl rfl HLK.out ?_)
    | (refine wpList_store_run rfl 45 (.tmp 6) (.tmp 17) rfl (W.heap.size + 1) 0 _ _ rfl rfl HST.out ?_)
    | (refine wpList_load_mid rfl 45 (.tmp 6) rfl (W.heap.size + 1) 0 rfl [.int .i64 (kd : Int), .int .u64 (bi : Int), K2, V2] _ HBX2.out Tryz.underlying45 rfl (nodeC _ _ _ _) ?_)
    | (go_at_call 107; (with_reducible refine HCP.out.mono ?_); rintro e w3 ⟨K3, V3, rfl, hx3, hb3⟩; have HX3 := Lib.hid hx3; have HB3 := Lib.hid hb3; have HC3 := Lib.hid ((hb3.block W.heap.size (Array.getElem?_eq_some_iff.1 HB0.out).1).trans HB0.out); have HS3 := Lib.hid (node_box HC3.out rfl (kd : Int) (bi : Int) K3 V3 hx3.one.1 hx3.one.2); clear hx3 hb3)
    | (refine wpList_store_run rfl 45 (.tmp 4) (.tmp 21) rfl W.heap.size 0 _ _ rfl rfl HS3.out ?_)
    | fail)
  exact bodyPost_ret (results_ct rfl _ _ _ _ _ rfl rfl (load_node (setRow_at HC3.out) rfl)) rfl ⟨K3, V3, rfl, (HX3.out.on (Q.Stays.set_row HC3.out) (fun j cs hc e => by rw [show j = W.heap.size from e] at hc; exact absurd (cells_ne hc HC3.out) (by decide))).mono HB12.out.size, below_setRow (HB12.out.trans (HB3.out.mono HB12.out.size)) (Nat.le_refl _) _⟩
set_option maxRecDepth 100000 in
set_option maxHeartbeats 2000000 in
theorem LS.nodeD (h : LS w W k c q D) (ha : AtD D r (.agg #[.int .i64 (kd : Int), .int .u64 (bi : Int), K2, V2])) (hx : NO W K2 V2 ks vs) (hc : c.now.length = 200) (h0 : 0 < r) (h2 : r < 200) (hl : ks.length ≤ 1000) (hl2 : vs.length ≤ 1000) : Calls Tryz.prog 162 #[k.p, .int .u32 (r : Int)] W fun e w' => ∃ K3 V3, e = .returned (.tuple #[.agg #[.int .i64 (kd : Int), .int .u64 (bi : Int), K3, V3], .int .i64 0]) ∧ NB w' W.heap.size K3 V3 ks vs ∧ Below W.heap.size W w' := by
  obtain ⟨W2, hW2⟩ : ∃ W2, (W.alloc (.cells #[.int .i64 0, .int .u64 0, .slice none 0 0, .slice none 0 0] 45)).alloc (.cells #[.int .i64 0] 26) = W2 := ⟨_, rfl⟩
  have hb2 : Below W.heap.size W W2 := by rw [← hW2]; exact ((Below.refl _ W).alloc (Nat.le_refl _) _).alloc (by simp) _
  have hbn : W2.heap[W.heap.size]? = some (.cells #[.int .i64 0, .int .u64 0, .slice none 0 0, .slice none 0 0] 45 (0, 0)) := by rw [← hW2]; exact first_at W _ _
  have hbe : W2.heap[W.heap.size + 1]? = some (.cells #[.int .i64 0] 26 (0, 0)) := by
    rw [← hW2]
    have e := heap_alloc_new (W.alloc (.cells #[.int .i64 0, .int .u64 0, .slice none 0 0, .slice none 0 0] 45)) (.cells #[.int .i64 0] 26)
    rw [World.size_alloc] at e
    exact e
  have hl2' := h.below hb2
  have hx2 := hx.below hb2
  have HPL := Lib.hid (hl2'.place hc r h0 h2)
  have HRD := Lib.hid (hl2'.readD ha hx2 (by omega) hl hl2)
  have HB2 := Lib.hid hb2
  have HBN := Lib.hid hbn
  have HBE := Lib.hid hbe
  clear h hx hl2' hx2 hb2 hbn hbe hc
  have hz := node_zero
  unfold LK.p at *
  go_enter_defers Tryz.func162, Tryz.ntmps162
  go_wp2_with (first
    | (go_at_call 209; (with_reducible refine HPL.out.mono ?_); rintro e ws ⟨rfl, hw⟩; subst ws)
    | (go_at_call 189; (with_reducible refine HRD.out.mono ?_); rintro e w3 ⟨K3, V3, rfl, hx3, hb3⟩; have HX3 := Lib.hid hx3; have HB3 := Lib.hid hb3; have HN3 := Lib.hid ((hb3.block W.heap.size (Array.getElem?_eq_some_iff.1 HBN.out).1).trans HBN.out); have HE3 := Lib.hid ((hb3.block (W.heap.size + 1) (Array.getElem?_eq_some_iff.1 HBE.out).1).trans HBE.out); have HS3 := Lib.hid (node_box HN3.out rfl (kd : Int) (bi : Int) K3 V3 hx3.one.1 hx3.one.2); have HE4 := Lib.hid ((setRow_other w3 W.heap.size (W.heap.size + 1) #[.int .i64 (kd : Int), .int .u64 (bi : Int), K3, V3] (by omega)).trans HE3.out); have hce := Joins.cell_of_block (i := 0) HE4.out; have hfe := frozen_of_row _ (W.heap.size + 1) 0 _ _ HE4.out; clear hx3 hb3)
    | (refine wpList_store_run rfl 45 (.tmp 4) (.tmp 18) rfl W.heap.size 0 _ _ rfl rfl HS3.out ?_)
    | fail)
  have hr4 := setRow_at (ds := #[.int .i64 (kd : Int), .int .u64 (bi : Int), K3, V3]) HN3.out
  have hn5 := (Below.heap_setCell (w3.setRow W.heap.size #[.int .i64 (kd : Int), .int .u64 (bi : Int), K3, V3]) ⟨W.heap.size + 1, 0, none⟩ (.int .i64 0) W.heap.size (by show W.heap.size ≠ W.heap.size + 1; omega)).trans hr4
  have hqc : ((w3.setRow W.heap.size #[.int .i64 (kd : Int), .int .u64 (bi : Int), K3, V3]).setCell ⟨W.heap.size + 1, 0, none⟩ (.int .i64 0)).cell? ⟨W.heap.size + 1, 0, none⟩ = some (.int .i64 0) := by
    rw [Joins.cell_of_block (Joins.block_setCell HE4.out (i := 0) (.int .i64 0))]; rfl
  have hs1 : Q.Stays w3 (w3.setRow W.heap.size #[.int .i64 (kd : Int), .int .u64 (bi : Int), K3, V3]) (fun j => j = W.heap.size) := Q.Stays.set_row HN3.out
  have hs2 : Q.Stays (w3.setRow W.heap.size #[.int .i64 (kd : Int), .int .u64 (bi : Int), K3, V3]) ((w3.setRow W.heap.size #[.int .i64 (kd : Int), .int .u64 (bi : Int), K3, V3]).setCell ⟨W.heap.size + 1, 0, none⟩ (.int .i64 0)) (fun j => j = W.heap.size + 1) := (Q.Stays.refl _ (fun j => j = W.heap.size + 1)).set ⟨W.heap.size + 1, 0, none⟩ (.inl rfl) _
  have hx5 := (HX3.out.on hs1 (fun j cs hc e => by rw [show j = W.heap.size from e] at hc; exact absurd (cells_ne hc HN3.out) (by decide))).on hs2 (fun j cs hc e => by rw [show j = W.heap.size + 1 from e] at hc; exact absurd (cells_ne hc HE4.out) (by decide))
  have hb5 : Below W.heap.size W ((w3.setRow W.heap.size #[.int .i64 (kd : Int), .int .u64 (bi : Int), K3, V3]).setCell ⟨W.heap.size + 1, 0, none⟩ (.int .i64 0)) := (below_setRow (HB2.out.trans (HB3.out.mono HB2.out.size)) (Nat.le_refl _) _).setCell (p := ⟨W.heap.size + 1, 0, none⟩) (by show W.heap.size ≤ W.heap.size + 1; omega) _
  refine leaves_cons (f := 83) (args := #[.pointer (some ⟨k.bs, 0, none⟩), .pointer (some ⟨W.heap.size + 1, 0, none⟩)]) (by simp) (by simp [go_sem]) ?_
  refine (settle_d _ _ (W.heap.size + 1) 0 hqc (by decide) (by decide) .returning).mono ?_
  rintro e u' w'' ⟨rfl, rfl, rfl⟩
  exact ⟨_, results_2c rfl _ _ _ _ _ _ rfl rfl (load_node hn5 rfl) (load_errno hqc), K3, V3, rfl, hx5.mono HB2.out.size, hb5⟩
theorem LS.nodeE (h : LS w W k c q D) (hc : c.now.length = 200) (n : Nat) (h2 : 200 ≤ n) (h4 : n < 4294967296) :
    Calls Tryz.prog 162 #[k.p, .int .u32 (n : Int)] W fun e w' => e = .returned (.tuple #[.agg #[.int .i64 0, .int .u64 0, .slice none 0 0, .slice none 0 0], .int .i64 2]) ∧ Below W.heap.size W w' := by
  have HP : Hid (∀ W', Below W.heap.size W W' → Calls Tryz.prog 209 #[k.p, .int .u32 (n : Int)] W' fun e w' => e = .returned (.int .i64 2) ∧ w' = W') := Lib.hid (fun W' hb' => (h.below hb').placeE hc n h2 h4)
  clear h hc
  unfold LK.p at *
  go_enter_defers Tryz.func162, Tryz.ntmps162
  go_wp2_with (first
    | (go_at_call 209; (with_reducible refine (HP.out _ (((Below.refl _ W).alloc (Nat.le_refl _) _).alloc (by simp) _)).mono ?_); rintro e w1 ⟨rfl, rfl⟩)
    | fail)
  refine leaves_cons (f := 83) (args := #[.pointer (some ⟨k.bs, 0, none⟩), .pointer (some ⟨W.heap.size + 1, 0, none⟩)]) (by simp) (by simp [go_sem]) ?_
  refine (settle_d _ _ (W.heap.size + 1) 2 ?_ (by decide) (by decide) .returning).mono ?_
  · exact err_at _ _ _
  rintro e u' w'' ⟨rfl, rfl, rfl⟩
  exact ⟨_, results_2c rfl _ _ _ _ _ _ rfl rfl (load_node (first_at _ _ _) rfl) (load_errno (err_at _ _ _)), rfl, ((Below.refl _ W).alloc (Nat.le_refl _) _).alloc (by simp) _⟩
end
end Go.Proofs.YtoclhiaidbfheaaGreatDoor.T
