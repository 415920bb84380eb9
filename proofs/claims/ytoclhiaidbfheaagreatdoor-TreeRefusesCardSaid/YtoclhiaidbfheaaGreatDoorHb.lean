/- store: place, isFresh, read, Node, of a store with one fresh node. store: Node and Free, of a store with one fresh node. store: Put, of a store with one fresh node. store: Shadow of a fresh node that is named once. store: Free of a fresh node that is named once. btree over a store with one fresh node that is a leaf: stands, look. btree: Get of a tree that is one leaf with one key. btree: Get, at the door. -/
import Derived.Test.YtoclhiaidbfheaaGreatDoorHa
section
set_option linter.unusedVariables false
namespace Go.Proofs.YtoclhiaidbfheaaGreatDoor.T
open Go.RowKit Q S

theorem wpList_lookup_ok {P : Program} (w : World) {ops : Array Oper} {rest : List Oper} {o : Oper} {a : Act} {Q : Exit → Act → World → Prop}
    (hg : o.guard = none) (mo x : Operand) (t : TypeId) (hop : o.op = Op.lookup t mo x true) (mv k v : Value) (hm : a.eval mo = mv) (hx : a.eval x = k) (hrun : (Instr.lookup t mv k true).run P w = .ok v w)
    (hK : wpList P ops Q rest (a.put o.dst v) w) : wpList P ops Q (o :: rest) a w := by
  refine wpList_plain hg fun K' hK' => ?_
  unfold Oper.wp
  simp [execOp, hop, hm, hx, hrun, Result.andThen]
  exact hK' _ _ hK
theorem results_ct {P : Program} {fn : Func} {t u : Tmp} {T : TypeId} (h : fn.results = #[.cell t T, .tmp u]) (tmps : Array Value) (w : World) (a : Addr) (v x : Value) (ht : tmps.getD t undef = .pointer (some a)) (hu : tmps.getD u undef = x) (h1 : (loadVar T a).run P w = .ok v w) :
    (results fn tmps).run P w = .ok (.tuple #[v, x]) w := by
  have hp' : tmps[t]?.getD undef = .pointer (some a) := by simpa using ht
  have hq' : tmps[u]?.getD undef = x := by simpa using hu
  simp [results, h, hp', hq', asAddr, h1]
theorem _root_.Go.Proofs.YtoclhiaidbfheaaGreatDoor.Q.Stays.set_row {W : World} {b : Nat} {cs ds : Array Value} {t : TypeId} {fr : Nat × Nat} (h : W.heap[b]? = some (.cells cs t fr)) : Q.Stays W (W.setRow b ds) (fun j => j = b) := ⟨rfl, rfl, rfl, by rw [setRow_size]; exact Nat.le_refl _, fun j _ hn => setRow_other W b j ds hn⟩
section
variable {w W : World} {k : LK} {c : C.CS} {q : Nat} {D : DataW Value}
set_option maxRecDepth 100000 in
set_option maxHeartbeats 1000000 in
theorem LS.place (h : LS w W k c q D) (hc : c.now.length = 200) (n : Nat) (h0 : 0 < n) (h2 : n < 200) : Calls Tryz.prog 209 #[k.p, .int .u32 (n : Int)] W fun e w' => e = .returned (.int .i64 0) ∧ w' = W := by
  have HR := Lib.hid h.ready
  have hlen := C.len_any W k.bm k.g0 k.p0 k.g1 k.p1 c h.am
  rw [hc] at hlen
  have HLN := Lib.hid hlen
  have h20 := h.st.c20
  have hn0 : ((n : Int) == 0) = false := by rw [beq_eq_false_iff_ne]; omega
  have hn2 : ¬ (200 : Int) ≤ (n : Int) := by omega
  have hw1 : IntKind.u64.wrap (n : Int) = (n : Int) := by rw [IntKind.wrap_u64]; omega
  clear h hlen hc
  unfold LK.p at *
  go_enter Tryz.func209, Tryz.ntmps209
  go_wp2_with (first
    | (go_at_call 46; (with_reducible refine HR.out.mono ?_); rintro e w1 ⟨rfl, hw⟩; subst w1)
    | (go_at_call 166; (with_reducible refine HLN.out.mono ?_); rintro e w1 ⟨rfl, hw⟩; subst w1)
    | fail)
  go_ret
  exact ⟨rfl, rfl⟩
theorem NO.one {KK VV : Value} {ks vs : List Nat} (h : NO W KK VV ks vs) : KK.oneCell' = true ∧ VV.oneCell' = true := by
  obtain ⟨A, ck, A', cv, rfl, rfl, _, _⟩ := h.shows
  exact ⟨rfl, rfl⟩
theorem NB.one {W : World} {B : Nat} {KK VV : Value} {ks vs : List Nat} (h : NB W B KK VV ks vs) : KK.oneCell' = true ∧ VV.oneCell' = true := h.no.one
theorem node_all {kd bi : Int} {K2 V2 : Value} (h1 : K2.oneCell' = true) (h2 : V2.oneCell' = true) : (#[.int .i64 kd, .int .u64 bi, K2, V2] : Array Value).all (·.oneCell') = true := by
  simp only [List.all_toArray, List.all_cons, List.all_nil, h1, h2, Bool.and_true]
  rfl
theorem nodeA (kd : Int) (bi : Int) (K V : Value) : (Tryz.prog.info? 45).map (·.size) = some (#[.int .i64 kd, .int .u64 bi, K, V] : Array Value).size := by kernel_rfl
theorem node_new (kd bi : Int) (K2 V2 : Value) (h1 : K2.oneCell' = true) (h2 : V2.oneCell' = true) (W : World) : (storeVar 45 ⟨W.heap.size, 0, none⟩ (.agg #[.int .i64 kd, .int .u64 bi, K2, V2])).run Tryz.prog (W.alloc (.cells #[.int .i64 0, .int .u64 0, .slice none 0 0, .slice none 0 0] 45)) = .ok () (W.alloc (.cells #[.int .i64 kd, .int .u64 bi, K2, V2] 45)) :=
  run_storeVar_new W 45 #[.int .i64 0, .int .u64 0, .slice none 0 0, .slice none 0 0] #[.int .i64 kd, .int .u64 bi, K2, V2] (nodeA _ _ _ _) rfl (node_all h1 h2)
theorem node_box {W : World} {b : Nat} {cs : Array Value} (h : W.heap[b]? = some (.cells cs 45 (0, 0))) (hc : cs.size = 4) (kd bi : Int) (K2 V2 : Value) (h1 : K2.oneCell' = true) (h2 : V2.oneCell' = true) : (storeVar 45 ⟨b, 0, none⟩ (.agg #[.int .i64 kd, .int .u64 bi, K2, V2])).run Tryz.prog W = .ok () (W.setRow b #[.int .i64 kd, .int .u64 bi, K2, V2]) :=
  run_storeVar_row W b 45 45 cs _ h (nodeA _ _ _ _) hc (node_all h1 h2)
variable {r : Nat} {kd bi : Nat} {K2 V2 : Value} {ks vs : List Nat}
set_option maxRecDepth 100000 in
theorem LS.isFresh (h : LS w W k c q (dm1 r (.agg #[.int .i64 (kd : Int), .int .u64 (bi : Int), K2, V2]))) (hx : NO W K2 V2 ks vs) (hr : r < 4294967296) : Calls Tryz.prog 228 #[k.p, .int .u32 (r : Int)] W fun e w' => e = .returned (.bool true) ∧ Below W.heap.size W w' := by
  have HLK := Lib.hid (h.mp.look1 hr)
  have h22 : W.cell? ⟨k.bs, 22, none⟩ = some (.map (some k.mp)) := h.st.c 22
  have HST := Lib.hid (node_new (kd : Int) (bi : Int) K2 V2 hx.one.1 hx.one.2 W)
  clear h hx
  have hz := node_zero
  unfold LK.p at *
  go_enter Tryz.func228, Tryz.ntmps228
  go_wp2_with (first
    | (at_lookup; refine wpList_lookup_ok _ rfl (.tmp 11) (.tmp 12) 167 rfl _ _ _ rfl rfl HLK.out ?_)
    | (refine wpList_store_run rfl 45 (.tmp 5) (.tmp 14) rfl W.heap.size 0 _ _ rfl rfl HST.out ?_)
    | fail)
  go_ret
  exact ⟨rfl, (Below.refl _ W).alloc (Nat.le_refl _) _⟩
set_option maxRecDepth 100000 in
set_option maxHeartbeats 1000000 in
theorem LS.read (h : LS w W k c q (dm1 r (.agg #[.int .i64 (kd : Int), .int .u64 (bi : Int), K2, V2]))) (hx : NO W K2 V2 ks vs) (hr : r < 4294967296) (hl : ks.length ≤ 1000) (hl2 : vs.length ≤ 1000) : Calls Tryz.prog 189 #[k.p, .int .u32 (r : Int)] W fun e w' => ∃ K3 V3, e = .returned (.tuple #[.agg #[.int .i64 (kd : Int), .int .u64 (bi : Int), K3, V3], .int .i64 0]) ∧ NB w' W.heap.size K3 V3 ks vs ∧ Below W.heap.size W w' := by
  obtain ⟨W1, hW1⟩ : ∃ W1, W.alloc (.cells #[.int .i64 0, .int .u64 0, .slice none 0 0, .slice none 0 0] 45) = W1 := ⟨_, rfl⟩
  have hb1 : Below W.heap.size W W1 := by rw [← hW1]; exact (Below.refl _ W).alloc (Nat.le_refl _) _
  have hbx : W1.heap[W.heap.size]? = some (.cells #[.int .i64 0, .int .u64 0, .slice none 0 0, .slice none 0 0] 45 (0, 0)) := by rw [← hW1]; exact heap_alloc_new W _
  have hz1 : W1.heap.size = W.heap.size + 1 := by rw [← hW1]; simp
  have h1 := h.below hb1
  have HLK := Lib.hid (h1.mp.look1 hr)
  have h22 : W1.cell? ⟨k.bs, 22, none⟩ = some (.map (some k.mp)) := h1.st.c 22
  have HST := Lib.hid (node_new (kd : Int) (bi : Int) K2 V2 hx.one.1 hx.one.2 W1)
  obtain ⟨W2, hW2⟩ : ∃ W2, W1.alloc (.cells #[.int .i64 (kd : Int), .int .u64 (bi : Int), K2, V2] 45) = W2 := ⟨_, rfl⟩
  have hb2 : Below W1.heap.size W1 W2 := by rw [← hW2]; exact (Below.refl _ W1).alloc (Nat.le_refl _) _
  have hbx2 : W2.heap[W1.heap.size]? = some (.cells #[.int .i64 (kd : Int), .int .u64 (bi : Int), K2, V2] 45 (0, 0)) := by rw [← hW2]; exact heap_alloc_new W1 _
  have hx2 := (hx.below hb1).below hb2
  have HCP := Lib.hid (hx2.copyB kd bi hl hl2)
  have HBX2 := Lib.hid (range_of hbx2)
  have HB0 := Lib.hid ((hb2.block W.heap.size (by omega)).trans hbx)
  have HB12 := Lib.hid (hb1.trans (hb2.mono hb1.size))
  rw [hW2] at HST
  have HW2 := Lib.hid hW2
  have HW1 := Lib.hid hW1
  rw [hz1] at HST HBX2
  clear h hx hx2 hb1 hb2 hbx hbx2 h1
  have hz := node_zero
  unfold LK.p at *
  go_enter Tryz.func189, Tryz.ntmps189
  go_wp2_with (first
    | (at_lookup; refine wpList_lookup_ok _ rfl (.tmp 14) (.tmp 15) 167 rfl _ _ _ rfl rfl HLK.out ?_)
    | (refine wpList_store_run rfl 45 (.tmp 6) (.tmp 17) rfl (W.heap.size + 1) 0 _ _ rfl rfl HST.out ?_)
    | (refine wpList_load_mid rfl 45 (.tmp 6) rfl (W.heap.size + 1) 0 rfl [.int .i64 (kd : Int), .int .u64 (bi : Int), K2, V2] _ HBX2.out Tryz.underlying45 rfl (nodeC _ _ _ _) ?_)
    | (go_at_call 107; (with_reducible refine HCP.out.mono ?_); rintro e w3 ⟨K3, V3, rfl, hx3, hb3⟩; have HX3 := Lib.hid hx3; have HB3 := Lib.hid hb3; have HC3 := Lib.hid ((hb3.block W.heap.size (Array.getElem?_eq_some_iff.1 HB0.out).1).trans HB0.out); have HS3 := Lib.hid (node_box HC3.out rfl (kd : Int) (bi : Int) K3 V3 hx3.one.1 hx3.one.2); clear hx3 hb3)
    | (refine wpList_store_run rfl 45 (.tmp 4) (.tmp 21) rfl W.heap.size 0 _ _ rfl rfl HS3.out ?_)
    | fail)
  exact bodyPost_ret (results_ct rfl _ _ _ _ _ rfl rfl (load_node (setRow_at HC3.out) rfl)) rfl ⟨K3, V3, rfl, (HX3.out.on (Q.Stays.set_row HC3.out) (fun j cs hc e => by rw [show j = W.heap.size from e] at hc; exact absurd (cells_ne hc HC3.out) (by decide))).mono HB12.out.size, below_setRow (HB12.out.trans (HB3.out.mono HB12.out.size)) (Nat.le_refl _) _⟩
end
end Go.Proofs.YtoclhiaidbfheaaGreatDoor.T
end

section
set_option linter.unusedVariables false
namespace Go.Proofs.YtoclhiaidbfheaaGreatDoor.T
open Go.RowKit Q S

section
variable {w W : World} {k : LK} {c : C.CS} {q : Nat} {D : DataW Value}
variable {r : Nat} {kd bi : Nat} {K2 V2 : Value} {ks vs : List Nat}
set_option maxRecDepth 100000 in
set_option maxHeartbeats 2000000 in
theorem LS.node (h : LS w W k c q (dm1 r (.agg #[.int .i64 (kd : Int), .int .u64 (bi : Int), K2, V2]))) (hx : NO W K2 V2 ks vs) (hc : c.now.length = 200) (h0 : 0 < r) (h2 : r < 200) (hl : ks.length ≤ 1000) (hl2 : vs.length ≤ 1000) : Calls Tryz.prog 162 #[k.p, .int .u32 (r : Int)] W fun e w' => ∃ K3 V3, e = .returned (.tuple #[.agg #[.int .i64 (kd : Int), .int .u64 (bi : Int), K3, V3], .int .i64 0]) ∧ NB w' W.heap.size K3 V3 ks vs ∧ Below W.heap.size W w' := by
  obtain ⟨W2, hW2⟩ : ∃ W2, (W.alloc (.cells #[.int .i64 0, .int .u64 0, .slice none 0 0, .slice none 0 0] 45)).alloc (.cells #[.int .i64 0] 26) = W2 := ⟨_, rfl⟩
  have hb2 : Below W.heap.size W W2 := by rw [← hW2]; exact ((Below.refl _ W).alloc (Nat.le_refl _) _).alloc (by simp) _
  have hbn : W2.heap[W.heap.size]? = some (.cells #[.int .i64 0, .int .u64 0, .slice none 0 0, .slice none 0 0] 45 (0, 0)) := by rw [← hW2]; exact first_at W _ _
  have hbe : W2.heap[W.heap.size + 1]? = some (.cells #[.int .i64 0] 26 (0, 0)) := by
    rw [← hW2]
    have e := heap_alloc_new (W.alloc (.cells #[.int .i64 0, .int .u64 0, .slice none 0 0, .slice none 0 0] 45)) (.cells #[.int .i64 0] 26)
    rw [World.size_alloc] at e
    exact e
  have hl2' := h.below hb2
  have hx2 := hx.below hb2
  have HPL := Lib.hid (hl2'.place hc r h0 h2)
  have HRD := Lib.hid (hl2'.read hx2 (by omega) hl hl2)
  have HB2 := Lib.hid hb2
  have HBN := Lib.hid hbn
  have HBE := Lib.hid hbe
  clear h hx hl2' hx2 hb2 hbn hbe hc
  have hz := node_zero
  unfold LK.p at *
  go_enter_defers Tryz.func162, Tryz.ntmps162
  go_wp2_with (first
    | (go_at_call 209; (with_reducible refine HPL.out.mono ?_); rintro e ws ⟨rfl, hw⟩; subst ws)
    | (go_at_call 189; (with_reducible refine HRD.out.mono ?_); rintro e w3 ⟨K3, V3, rfl, hx3, hb3⟩; have HX3 := Lib.hid hx3; have HB3 := Lib.hid hb3; have HN3 := Lib.hid ((hb3.block W.heap.size (Array.getElem?_eq_some_iff.1 HBN.out).1).trans HBN.out); have HE3 := Lib.hid ((hb3.block (W.heap.size + 1) (Array.getElem?_eq_some_iff.1 HBE.out).1).trans HBE.out); have HS3 := Lib.hid (node_box HN3.out rfl (kd : Int) (bi : Int) K3 V3 hx3.one.1 hx3.one.2); have HE4 := Lib.hid ((setRow_other w3 W.heap.size (W.heap.size + 1) #[.int .i64 (kd : Int), .int .u64 (bi : Int), K3, V3] (by omega)).trans HE3.out); have hce := Joins.cell_of_block (i := 0) HE4.out; have hfe := frozen_of_row _ (W.heap.size + 1) 0 _ _ HE4.out; clear hx3 hb3)
    | (refine wpList_store_run rfl 45 (.tmp 4) (.tmp 18) rfl W.heap.size 0 _ _ rfl rfl HS3.out ?_)
    | fail)
  have hr4 := setRow_at (ds := #[.int .i64 (kd : Int), .int .u64 (bi : Int), K3, V3]) HN3.out
  have hn5 := (Below.heap_setCell (w3.setRow W.heap.size #[.int .i64 (kd : Int), .int .u64 (bi : Int), K3, V3]) ⟨W.heap.size + 1, 0, none⟩ (.int .i64 0) W.heap.size (by show W.heap.size ≠ W.heap.size + 1; omega)).trans hr4
  have hqc : ((w3.setRow W.heap.size #[.int .i64 (kd : Int), .int .u64 (bi : Int), K3, V3]).setCell ⟨W.heap.size + 1, 0, none⟩ (.int .i64 0)).cell? ⟨W.heap.size + 1, 0, none⟩ = some (.int .i64 0) := by
    rw [Joins.cell_of_block (Joins.block_setCell HE4.out (i := 0) (.int .i64 0))]; rfl
  have hs1 : Q.Stays w3 (w3.setRow W.heap.size #[.int .i64 (kd : Int), .int .u64 (bi : Int), K3, V3]) (fun j => j = W.heap.size) := Q.Stays.set_row HN3.out
  have hs2 : Q.Stays (w3.setRow W.heap.size #[.int .i64 (kd : Int), .int .u64 (bi : Int), K3, V3]) ((w3.setRow W.heap.size #[.int .i64 (kd : Int), .int .u64 (bi : Int), K3, V3]).setCell ⟨W.heap.size + 1, 0, none⟩ (.int .i64 0)) (fun j => j = W.heap.size + 1) := (Q.Stays.refl _ (fun j => j = W.heap.size + 1)).set ⟨W.heap.size + 1, 0, none⟩ (.inl rfl) _
  have hx5 := (HX3.out.on hs1 (fun j cs hc e => by rw [show j = W.heap.size from e] at hc; exact absurd (cells_ne hc HN3.out) (by decide))).on hs2 (fun j cs hc e => by rw [show j = W.heap.size + 1 from e] at hc; exact absurd (cells_ne hc HE4.out) (by decide))
  have hb5 : Below W.heap.size W ((w3.setRow W.heap.size #[.int .i64 (kd : Int), .int .u64 (bi : Int), K3, V3]).setCell ⟨W.heap.size + 1, 0, none⟩ (.int .i64 0)) := (below_setRow (HB2.out.trans (HB3.out.mono HB2.out.size)) (Nat.le_refl _) _).setCell (p := ⟨W.heap.size + 1, 0, none⟩) (by show W.heap.size ≤ W.heap.size + 1; omega) _
  refine leaves_cons (f := 83) (args := #[.pointer (some ⟨k.bs, 0, none⟩), .pointer (some ⟨W.heap.size + 1, 0, none⟩)]) (by simp) (by simp [go_sem]) ?_
  refine (settle_d _ _ (W.heap.size + 1) 0 hqc (by decide) (by decide) .returning).mono ?_
  rintro e u' w'' ⟨rfl, rfl, rfl⟩
  exact ⟨_, results_2c rfl _ _ _ _ _ _ rfl rfl (load_node hn5 rfl) (load_errno hqc), K3, V3, rfl, hx5.mono HB2.out.size, hb5⟩
end
end Go.Proofs.YtoclhiaidbfheaaGreatDoor.T
end

section
set_option linter.unusedVariables false
namespace Go.Proofs.YtoclhiaidbfheaaGreatDoor.T
open Go.RowKit Q S

theorem FM.val1 {w : World} {mp k r : Nat} {u : Value} (h : FM w mp k (dm1 r u)) (hn : r < 4294967296) : (Instr.lookup 167 (.map (some mp)) (.int .u32 (r : Int)) false).run Tryz.prog w = .ok u w := by
  obtain ⟨v, ps, hrun, hv⟩ := World.ownsMap.lookup (t := 167) (e := 45) (zd := .held zN) (zp := []) h lawU Tryz.underlying167 (node_zero w) rfl (key_ofU r hn)
  have ha : (dm1 r u).atKey (keyU r) (.held zN) = .held u := Maps.atKey_put_same isMap0 (keyU_lit r hn) _ _
  rw [ha] at hv
  have hv' : some (DataW.held v, ([] : List MemPlace)) = some (DataW.held u, ps) := hv
  obtain rfl : v = u := by simpa using congrArg (fun o => o.map (·.1)) hv'
  exact hrun
theorem put_put (r : Nat) (u v : Value) : (dm1 r u).put (keyU r) (.held v) = dm1 r v := by
  simp [dm1, dm0, DataW.put, DataW.insert, Lit.sameKey]
theorem field_birth (kd bi : Int) (K2 V2 : Value) (w : World) : (Instr.field 45 (.agg #[.int .i64 kd, .int .u64 bi, K2, V2]) 1).run Tryz.prog w = .ok (.int .u64 bi) w := by kernel_rfl
section
variable {w W : World} {k : LK} {c : C.CS} {q : Nat} {D : DataW Value}
variable {r : Nat} {kd bi : Nat} {K2 V2 : Value} {ks vs : List Nat}
set_option maxRecDepth 100000 in
set_option maxHeartbeats 4000000 in
theorem LS.put (h : LS w W k c q (dm1 r (.agg #[.int .i64 (kd : Int), .int .u64 (bi : Int), K2, V2]))) (hu : NO W K2 V2 ks vs) (hq : q < 900) (hc : c.now.length = 200) (h0 : 0 < r) (h2 : r < 200) (kx bx : Nat) (KK VV : Value) (kl vl : List Nat) (hx : NO W KK VV kl vl) (hl : kl.length ≤ 1000) (hl2 : vl.length ≤ 1000) (hm : mayB ⟨kx, bx, kl, vl⟩ = true) :
    Calls Tryz.prog 192 #[k.p, .int .u32 (r : Int), .agg #[.int .i64 (kx : Int), .int .u64 (bx : Int), KK, VV]] W fun e w' => e = .returned (.int .i64 0) ∧ Hid (∃ K3 V3, NB w' W.heap.size K3 V3 kl vl ∧ Kept w W w' k c (q + 1) (dm1 r (.agg #[.int .i64 (kx : Int), .int .u64 (bi : Int), K3, V3]))) := by
  obtain ⟨W1, hW1⟩ : ∃ W1, W.alloc (.cells #[.int .i64 (kx : Int), .int .u64 (bx : Int), KK, VV] 45) = W1 := ⟨_, rfl⟩
  have hb1 : Below W.heap.size W W1 := by rw [← hW1]; exact (Below.refl _ W).alloc (Nat.le_refl _) _
  have hbx : W1.heap[W.heap.size]? = some (.cells #[.int .i64 (kx : Int), .int .u64 (bx : Int), KK, VV] 45 (0, 0)) := by rw [← hW1]; exact heap_alloc_new W _
  have l1 := h.below hb1
  have HT := Lib.hid (fun i (hi : k.touch i) => h.tlt hi)
  have HMI := Lib.hid (fun i (hi : k.mine i) => h.mlt hi)
  have HWL := Lib.hid h.bel.size
  have HPL := Lib.hid (l1.place hc r h0 h2)
  have hmy := (hx.below hb1).may kx bx
  rw [hm] at hmy
  have HMY := Lib.hid hmy
  have HF : Hid (∀ W', Below W1.heap.size W1 W' → Calls Tryz.prog 228 #[k.p, .int .u32 (r : Int)] W' fun e w' => e = .returned (.bool true) ∧ Below W'.heap.size W' w') := Lib.hid (fun W' hb => (l1.below hb).isFresh ((hu.below hb1).below hb) (by omega))
  have HL1 := Lib.hid l1
  have HX1 := Lib.hid (hx.below hb1)
  have HB1 := Lib.hid hb1
  have HBX := Lib.hid hbx
  have HW := Lib.hid h.st.lt
  have hr : r < 4294967296 := by omega
  clear h hx hu hb1 hbx l1 hmy hm hc
  unfold LK.p at *
  go_enter Tryz.func192, Tryz.ntmps192
  go_upto_region 8 with (first
    | (refine wpList_load_mid rfl 45 (.tmp 5) rfl W.heap.size 0 rfl [.int .i64 (kx : Int), .int .u64 (bx : Int), KK, VV] _ (range_of HBX.out) Tryz.underlying45 rfl (nodeC _ _ _ _) ?_)
    | (go_at_call 209; (with_reducible refine HPL.out.mono ?_); rintro e ws ⟨rfl, hw⟩; subst ws)
    | (go_at_call 47; (with_reducible refine HMY.out.mono ?_); rintro e w2 ⟨rfl, hb2⟩; have HW2 := Lib.hid hb2; clear hb2)
    | (go_at_call 228; (with_reducible refine (HF.out _ HW2.out).mono ?_); rintro e w3 ⟨rfl, hb3⟩; have HW3 := Lib.hid (HW2.out.trans (hb3.mono HW2.out.size)); clear hb3)
    | fail)
  clear hW1
  have HL3 := Lib.hid (HL1.out.below HW3.out)
  have HX3 := Lib.hid (HX1.out.below HW3.out)
  have hbx3 := (HW3.out.block W.heap.size (Array.getElem?_eq_some_iff.1 HBX.out).1).trans HBX.out
  have HBX3 := Lib.hid hbx3
  have h22 : w3.cell? ⟨k.bs, 22, none⟩ = some (.map (some k.mp)) := HL3.out.st.c 22
  have HVL := Lib.hid (HL3.out.mp.val1 hr)
  have hcb : w3.cell? ⟨W.heap.size, 1, none⟩ = some (.int .u64 (bx : Int)) := (Joins.cell_of_block hbx3 1).trans rfl
  have hfb := frozen_of_row w3 W.heap.size 1 _ _ hbx3
  clear hbx3
  have hfd := field_birth (kd : Int) (bi : Int) K2 V2
  go_upto_region 9 with (first
    | (at_lookup; refine wpList_lookup_run _ rfl (.tmp 24) (.tmp 25) 167 rfl _ _ _ rfl rfl HVL.out ?_)
    | fail)
  have HB4 : Hid ((w3.setCell ⟨W.heap.size, 1, none⟩ (.int .u64 (bi : Int))).heap[W.heap.size]? = some (.cells #[.int .i64 (kx : Int), .int .u64 (bi : Int), KK, VV] 45 (0, 0))) := Lib.hid (Joins.block_setCell HBX3.out (i := 1) (.int .u64 (bi : Int)))
  have hs4 : Q.Stays w3 (w3.setCell ⟨W.heap.size, 1, none⟩ (.int .u64 (bi : Int))) (fun j => j = W.heap.size) := (Q.Stays.refl w3 (fun j => j = W.heap.size)).set ⟨W.heap.size, 1, none⟩ (.inl rfl) _
  have HL4 := Lib.hid (HL3.out.keep hs4 (fun i hi e => by have := HMI.out i hi; omega) (fun i hi e => by rw [e] at hi; exact PKind.not HBX3.out (by decide) (by decide) hi) (fun i e => by rw [e]; exact HWL.out))
  have HX4 := Lib.hid (HX3.out.on hs4 (fun i cs hc e => by rw [e] at hc; exact absurd (cells_ne hc HBX3.out) (by decide)))
  have HS4 := Lib.hid hs4
  obtain ⟨w4, hw4⟩ : ∃ w4, w3.setCell ⟨W.heap.size, 1, none⟩ (.int .u64 (bi : Int)) = w4 := ⟨_, rfl⟩
  rw [hw4] at HB4 HL4 HX4 HS4 ⊢
  clear hw4 hs4 hcb hfb h22
  have HCP := Lib.hid ((HX4.out.below ((Below.refl _ w4).drew)).copyB kx bi hl hl2)
  have h22 : w4.drew.cell? ⟨k.bs, 22, none⟩ = some (.map (some k.mp)) := HL4.out.st.c 22
  refine wp_region_noPanic ?_
  refine wp_region_held_drew (S := fun w' => w'.cell? ⟨k.bs, 22, none⟩ = some (.map (some k.mp)) ∧ w'.rangeAt W.heap.size 0 [.int .i64 (kx : Int), .int .u64 (bi : Int), KK, VV]) (by kernel_rfl) ⟨h22, by have := range_of HB4.out; exact this⟩ (fun hHeld => ?_)
  refine takeN (i := 0) (oi := _) (v := .pointer (some ⟨k.bs, 0, none⟩)) 29 rfl rfl (by kernel_rfl) (by kernel_rfl) (by kernel_rfl) (fun _ _ _ h => h) (Or.inl ⟨by rfl, fun w2 hSw => by go_simp⟩) hHeld ?_
  try simp only [Act.put, List.setIfInBounds_toArray, List.set_cons_zero, List.set_cons_succ]
  refine takeN (i := 1) (oi := _) (v := .pointer (some ⟨k.bs, 0, none⟩)) 30 rfl rfl (by kernel_rfl) (by kernel_rfl) (by kernel_rfl) (fun _ _ _ h => h) (Or.inl ⟨by rfl, fun w2 hSw => by go_simp⟩) hHeld ?_
  try simp only [Act.put, List.setIfInBounds_toArray, List.set_cons_zero, List.set_cons_succ]
  refine takeN (i := 2) (oi := _) (v := .pointer (some ⟨k.bs, 22, none⟩)) 31 rfl rfl (by kernel_rfl) (by kernel_rfl) (by kernel_rfl) (fun _ _ _ h => h) (Or.inl ⟨by rfl, fun w2 hSw => by go_simp⟩) hHeld ?_
  try simp only [Act.put, List.setIfInBounds_toArray, List.set_cons_zero, List.set_cons_succ]
  refine takeN (i := 3) (oi := _) (v := .map (some k.mp)) 32 rfl rfl (by kernel_rfl) (by kernel_rfl) (by kernel_rfl) (fun _ _ _ h => h) (Or.inl ⟨by rfl, fun w2 hSw => by (have hc := hSw.1; go_simp)⟩) hHeld ?_
  try simp only [Act.put, List.setIfInBounds_toArray, List.set_cons_zero, List.set_cons_succ]
  refine takeN (i := 4) (oi := _) (v := .int .u32 (r : Int)) 33 rfl rfl (by kernel_rfl) (by kernel_rfl) (by kernel_rfl) (fun _ _ _ h => h) (Or.inl ⟨by rfl, fun w2 hSw => by go_simp⟩) hHeld ?_
  try simp only [Act.put, List.setIfInBounds_toArray, List.set_cons_zero, List.set_cons_succ]
  have hnd := Tryz.underlying45
  refine takeN (i := 5) (oi := _) (v := .agg #[.int .i64 (kx : Int), .int .u64 (bi : Int), KK, VV]) 34 rfl rfl (by kernel_rfl) (by kernel_rfl) (by kernel_rfl) (fun _ _ _ h => h) (yieldsIf_load_mid (by rfl) 45 (.tmp 5) rfl W.heap.size 0 rfl [.int .i64 (kx : Int), .int .u64 (bi : Int), KK, VV] _ (fun w2 hSw => hSw.2) hnd rfl (nodeC kx bi KK VV)) hHeld ?_
  try simp only [Act.put, List.setIfInBounds_toArray, List.set_cons_zero, List.set_cons_succ]
  clear hnd
  refine wpAnyH_ready (rs := [6]) (by kernel_rfl) (by simp) ?_
  refine AllReadyH.cons rfl (fun K hK => ?_) AllReadyH.nil
  go_simp
  go_wp2_with (first
    | (go_at_call 107; (with_reducible refine HCP.out.mono ?_); rintro e w5 ⟨K3, V3, rfl, hx5, hb5⟩)
    | fail)
  have HL5 := Lib.hid (HL4.out.drew.below hb5)
  have HB5 : Hid (w5.heap[W.heap.size]? = some (.cells #[.int .i64 (kx : Int), .int .u64 (bi : Int), KK, VV] 45 (0, 0))) := Lib.hid ((hb5.block W.heap.size (Array.getElem?_eq_some_iff.1 HB4.out).1).trans HB4.out)
  have HX5 := Lib.hid hx5
  have HS5 := Lib.hid (stays_touch (k := k) hb5)
  clear hx5 hb5
  refine hK.out _ _ ⟨HL5.out.st.c 22, range_of HB5.out⟩ (fun hHeld => ?_)
  clear hK HCP
  try simp only [Act.put, List.setIfInBounds_toArray, List.set_cons_zero, List.set_cons_succ]
  obtain ⟨w6, hup, hfm6, hg6⟩ := HL5.out.mp.update (by omega) r hr (.agg #[.int .i64 (kx : Int), .int .u64 (bi : Int), K3, V3])
  rw [put_put] at hfm6
  obtain ⟨l6, t6⟩ := HL5.out.nodes hfm6 hg6
  refine wpAnyH_ready (rs := [7]) (by kernel_rfl) (by simp) ?_
  refine AllReadyH.cons rfl (fun K hK => ?_) AllReadyH.nil
  rw [if_pos (by rfl)]
  refine wp_mapUpdate_run (.tmp 32) (.tmp 33) (.tmp 35) 167 rfl _ _ _ _ rfl rfl rfl hup ?_
  have hb6 : w6.heap[W.heap.size]? = some (.cells #[.int .i64 (kx : Int), .int .u64 (bi : Int), KK, VV] 45 (0, 0)) := (t6.block W.heap.size (Array.getElem?_eq_some_iff.1 HB5.out).1 (fun e => by have := HT.out _ e; omega)).trans HB5.out
  refine hK.out _ _ ⟨l6.st.c 22, range_of hb6⟩ (fun hHeld => ?_)
  have HL6 := Lib.hid l6
  have HS6 := Lib.hid t6
  have HX6 := Lib.hid (HX5.out.on t6 HL5.out.nums)
  clear hK hup hfm6 hg6 l6 t6 hb6 hHeld
  try simp only [Act.put, List.setIfInBounds_toArray]
  refine wpAnyH_done (by kernel_rfl) ?_ _
  refine NoPanic.normal ?_
  go_wp2_with fail
  go_ret
  have s1 : Q.Stays W W1 k.touch := stays_touch HB1.out
  have s2 := s1.trans (stays_touch (k := k) HW3.out) (fun _ e => .inl e)
  have s3 := s2.trans HS4.out (fun j hj => .inr (by rw [show j = W.heap.size from hj]; exact Nat.le_refl _))
  have s4 := (s3.trans (stays_touch (k := k) ((Below.refl _ w4).drew)) (fun _ e => .inl e)).trans HS5.out (fun _ e => .inl e)
  exact ⟨rfl, K3, V3, HX6.out.mono s3.size, HL6.out, s4.trans HS6.out (fun _ e => .inl e)⟩
end
end Go.Proofs.YtoclhiaidbfheaaGreatDoor.T
end

section
set_option linter.unusedVariables false
namespace Go.Proofs.YtoclhiaidbfheaaGreatDoor.T
open Go.RowKit Q S

section
variable {w W : World} {k : LK} {c : C.CS} {q : Nat} {D : DataW Value}
variable {r : Nat} {kd bi : Nat} {K2 V2 : Value} {ks vs : List Nat}
theorem two_box {w4 : World} {b : Nat} {cs : Array Value} (N : Array Value) {x : Value} (hN : w4.heap[b]? = some (.cells cs 45 (0, 0))) (hE : w4.heap[b + 1]? = some (.cells #[x] 26 (0, 0))) :
    Q.Stays w4 ((w4.setRow b N).setCell ⟨b + 1, 0, none⟩ (.int .i64 0)) (fun j => j = b ∨ j = b + 1) ∧ ((w4.setRow b N).setCell ⟨b + 1, 0, none⟩ (.int .i64 0)).heap[b]? = some (.cells N 45 (0, 0)) ∧ ((w4.setRow b N).setCell ⟨b + 1, 0, none⟩ (.int .i64 0)).heap[b + 1]? = some (.cells #[.int .i64 0] 26 (0, 0)) := by
  have hE4 := (setRow_other w4 b (b + 1) N (by omega)).trans hE
  have hr4 := setRow_at (ds := N) hN
  have hs1 : Q.Stays w4 (w4.setRow b N) (fun j => j = b) := Q.Stays.set_row hN
  have hs2 : Q.Stays (w4.setRow b N) ((w4.setRow b N).setCell ⟨b + 1, 0, none⟩ (.int .i64 0)) (fun j => j = b + 1) := (Q.Stays.refl _ (fun j => j = b + 1)).set ⟨b + 1, 0, none⟩ (.inl rfl) _
  exact ⟨((Q.Stays.refl w4 (fun j => j = b ∨ j = b + 1)).trans hs1 (fun _ e => .inl (.inl e))).trans hs2 (fun _ e => .inl (.inr e)), (Below.heap_setCell (w4.setRow b N) ⟨b + 1, 0, none⟩ (.int .i64 0) b (by show b ≠ b + 1; omega)).trans hr4, Joins.block_setCell hE4 (i := 0) (.int .i64 0)⟩
set_option maxRecDepth 100000 in
set_option maxHeartbeats 2000000 in
theorem LS.shadow (h : LS w W k c q (dm1 r (.agg #[.int .i64 (kd : Int), .int .u64 (bi : Int), K2, V2]))) (hx : NO W K2 V2 ks vs) (hc : c.now.length = 200) (hn : C.lookN c.now (r : Int) = 1) (h0 : 0 < r) (h2 : r < 200) (hl : ks.length ≤ 1000) (hl2 : vs.length ≤ 1000) : Calls Tryz.prog 277 #[k.p, .int .u32 (r : Int)] W fun e w' => ∃ K3 V3, e = .returned (.tuple #[.int .u32 (r : Int), .agg #[.int .i64 (kd : Int), .int .u64 (bi : Int), K3, V3], .int .i64 0]) ∧ NB w' W.heap.size K3 V3 ks vs ∧ Below W.heap.size W w' := by
  obtain ⟨W2, hW2⟩ : ∃ W2, (W.alloc (.cells #[.int .i64 0, .int .u64 0, .slice none 0 0, .slice none 0 0] 45)).alloc (.cells #[.int .i64 0] 26) = W2 := ⟨_, rfl⟩
  have hb2 : Below W.heap.size W W2 := by rw [← hW2]; exact ((Below.refl _ W).alloc (Nat.le_refl _) _).alloc (by simp) _
  have hbn : W2.heap[W.heap.size]? = some (.cells #[.int .i64 0, .int .u64 0, .slice none 0 0, .slice none 0 0] 45 (0, 0)) := by rw [← hW2]; exact first_at W _ _
  have hbe : W2.heap[W.heap.size + 1]? = some (.cells #[.int .i64 0] 26 (0, 0)) := by
    rw [← hW2]
    have e := heap_alloc_new (W.alloc (.cells #[.int .i64 0, .int .u64 0, .slice none 0 0, .slice none 0 0] 45)) (.cells #[.int .i64 0] 26)
    rw [World.size_alloc] at e
    exact e
  have l2 := h.below hb2
  have x2 := hx.below hb2
  have HPL := Lib.hid (l2.place hc r h0 h2)
  have hct := l2.count r (by omega)
  rw [hn] at hct
  have HCT : Hid (Calls Tryz.prog 181 #[k.p, .int .u32 (r : Int)] W2 fun e w' => e = .returned (.int .u16 1) ∧ Below W2.heap.size W2 w') := Lib.hid hct
  have HRD : Hid (∀ W', Below W2.heap.size W2 W' → Calls Tryz.prog 189 #[k.p, .int .u32 (r : Int)] W' fun e w' => ∃ K3 V3, e = .returned (.tuple #[.agg #[.int .i64 (kd : Int), .int .u64 (bi : Int), K3, V3], .int .i64 0]) ∧ NB w' W'.heap.size K3 V3 ks vs ∧ Below W'.heap.size W' w') := Lib.hid (fun W' hb => (l2.below hb).read (x2.below hb) (by omega) hl hl2)
  have HIF : Hid (∀ W', LS w W' k c q (dm1 r (.agg #[.int .i64 (kd : Int), .int .u64 (bi : Int), K2, V2])) → NO W' K2 V2 ks vs → Calls Tryz.prog 228 #[k.p, .int .u32 (r : Int)] W' fun e w' => e = .returned (.bool true) ∧ Below W'.heap.size W' w') := Lib.hid (fun W' l x => l.isFresh x (by omega))
  have HMI := Lib.hid (fun i (hi : k.mine i) => h.mlt hi)
  have HWL := Lib.hid h.bel.size
  have HL2 := Lib.hid l2
  have HX2 := Lib.hid x2
  have HB2 := Lib.hid hb2
  have HBN := Lib.hid hbn
  have HBE := Lib.hid hbe
  clear h hx l2 x2 hb2 hbn hbe hc hct hn
  have hz := node_zero
  unfold LK.p at *
  go_enter_defers Tryz.func277, Tryz.ntmps277
  go_upto_region 9 with (first
    | (go_at_call 209; (with_reducible refine HPL.out.mono ?_); rintro e ws ⟨rfl, hw⟩; subst ws)
    | (go_at_call 181; (with_reducible refine HCT.out.mono ?_); rintro e w3 ⟨rfl, hb3⟩; have HB3 := Lib.hid hb3; clear hb3)
    | (go_at_call 189; (with_reducible refine (HRD.out _ HB3.out).mono ?_); rintro e w4 ⟨K3, V3, rfl, hx4, hb4⟩; have HX4 := Lib.hid (hx4.mono (Nat.le_trans HB2.out.size HB3.out.size)); have HB4 := Lib.hid (HB3.out.trans (hb4.mono HB3.out.size)); have HN4 := Lib.hid ((HB4.out.block W.heap.size (Array.getElem?_eq_some_iff.1 HBN.out).1).trans HBN.out); have HE4 := Lib.hid ((HB4.out.block (W.heap.size + 1) (Array.getElem?_eq_some_iff.1 HBE.out).1).trans HBE.out); have HS4 := Lib.hid (node_box HN4.out rfl (kd : Int) (bi : Int) K3 V3 hx4.one.1 hx4.one.2); have HE5 := Lib.hid ((setRow_other w4 W.heap.size (W.heap.size + 1) #[.int .i64 (kd : Int), .int .u64 (bi : Int), K3, V3] (by omega)).trans HE4.out); have hce := Joins.cell_of_block (i := 0) HE5.out; have hfe := frozen_of_row _ (W.heap.size + 1) 0 _ _ HE5.out; clear hx4 hb4)
    | (refine wpList_store_run rfl 45 (.tmp 5) (.tmp 30) rfl W.heap.size 0 _ _ rfl rfl HS4.out ?_)
    | fail)
  obtain ⟨s5, n5, e5⟩ := two_box #[.int .i64 (kd : Int), .int .u64 (bi : Int), K3, V3] HN4.out HE4.out
  have hk5 : ∀ j, j = W.heap.size ∨ j = W.heap.size + 1 → W.heap.size ≤ j := fun j h => by omega
  have HL5 := Lib.hid ((HL2.out.below HB4.out).keep s5 (fun i hi e => by have := HMI.out i hi; have := hk5 i e; omega) (fun i hi e => by rcases e with e | e; (rw [e] at hi; exact PKind.not HN4.out (by decide) (by decide) hi); (rw [e] at hi; exact PKind.not HE4.out (by decide) (by decide) hi)) (fun i e => by have := hk5 i e; have := HWL.out; omega))
  have HY5 := Lib.hid ((HX2.out.below HB4.out).on s5 (fun i cs hc e => by rcases e with e | e; (rw [e] at hc; exact absurd (cells_ne hc HN4.out) (by decide)); (rw [e] at hc; exact absurd (cells_ne hc HE4.out) (by decide))))
  have HX5 := Lib.hid (HX4.out.on s5 (fun i cs hc e => by rcases e with e | e; (rw [e] at hc; exact absurd (cells_ne hc HN4.out) (by decide)); (rw [e] at hc; exact absurd (cells_ne hc HE4.out) (by decide))))
  have HB5 : Hid (Below W.heap.size W ((w4.setRow W.heap.size #[.int .i64 (kd : Int), .int .u64 (bi : Int), K3, V3]).setCell ⟨W.heap.size + 1, 0, none⟩ (.int .i64 0))) := Lib.hid ((below_setRow (HB2.out.trans (HB4.out.mono HB2.out.size)) (Nat.le_refl _) _).setCell (p := ⟨W.heap.size + 1, 0, none⟩) (by show W.heap.size ≤ W.heap.size + 1; omega) _)
  have HN5 := Lib.hid n5
  have HE5' := Lib.hid e5
  clear s5 n5 e5 hce hfe
  generalize ((w4.setRow W.heap.size #[.int .i64 (kd : Int), .int .u64 (bi : Int), K3, V3]).setCell ⟨W.heap.size + 1, 0, none⟩ (.int .i64 0)) = w5 at HL5 HY5 HX5 HB5 HN5 HE5' ⊢
  have hce := Joins.cell_of_block (i := 0) HE5'.out
  have HIF5 := Lib.hid (HIF.out w5 HL5.out HY5.out)
  clear HB4 HX4 HN4 HE4 HS4 HE5 HB3
  go_upto_region 12 with (first
    | (go_at_call 228; (with_reducible refine HIF5.out.mono ?_); rintro e w6 ⟨rfl, hb6⟩; have HB6 := Lib.hid hb6; clear hb6)
    | fail)
  have HB7 : Hid (Below w5.heap.size w5 w6.drew) := Lib.hid HB6.out.drew
  have HN7 : Hid (w6.drew.heap[W.heap.size]? = some (.cells #[.int .i64 (kd : Int), .int .u64 (bi : Int), K3, V3] 45 (0, 0))) := Lib.hid ((HB7.out.block W.heap.size (Array.getElem?_eq_some_iff.1 HN5.out).1).trans HN5.out)
  have HE7 : Hid (w6.drew.heap[W.heap.size + 1]? = some (.cells #[.int .i64 0] 26 (0, 0))) := Lib.hid ((HB7.out.block (W.heap.size + 1) (Array.getElem?_eq_some_iff.1 HE5'.out).1).trans HE5'.out)
  have HX7 := Lib.hid (HX5.out.below HB7.out)
  have HB8 : Hid (Below W.heap.size W w6.drew) := Lib.hid (HB5.out.trans (HB7.out.mono HB5.out.size))
  have HS7 := Lib.hid (node_box HN7.out rfl (kd : Int) (bi : Int) K3 V3 HX7.out.one.1 HX7.out.one.2)
  refine wp_region_noPanic ?_
  refine wp_region_held_drew (S := fun w' => w'.rangeAt W.heap.size 0 [.int .i64 (kd : Int), .int .u64 (bi : Int), K3, V3]) (by kernel_rfl) (by have := range_of HN7.out; exact this) (fun hHeld => ?_)
  refine takeN (i := 0) (oi := _) (v := .int .u32 (r : Int)) 43 rfl rfl (by kernel_rfl) (by kernel_rfl) (by kernel_rfl) (fun _ _ _ h => h) (Or.inl ⟨by rfl, fun w2 hSw => by go_simp⟩) hHeld ?_
  try simp only [Act.put, List.setIfInBounds_toArray, List.set_cons_zero, List.set_cons_succ]
  have hnd := Tryz.underlying45
  refine takeN (i := 1) (oi := _) (v := .agg #[.int .i64 (kd : Int), .int .u64 (bi : Int), K3, V3]) 44 rfl rfl (by kernel_rfl) (by kernel_rfl) (by kernel_rfl) (fun _ _ _ h => h) (yieldsIf_load_mid (by rfl) 45 (.tmp 5) rfl W.heap.size 0 rfl [.int .i64 (kd : Int), .int .u64 (bi : Int), K3, V3] _ (fun w2 hSw => hSw) hnd rfl (nodeC kd bi K3 V3)) hHeld ?_
  try simp only [Act.put, List.setIfInBounds_toArray, List.set_cons_zero, List.set_cons_succ]
  clear hnd
  refine takeN (i := 2) (oi := _) (v := .int .u32 (r : Int)) 4 rfl rfl (by kernel_rfl) (by kernel_rfl) (by kernel_rfl) (fun _ _ _ h => h) (Or.inl ⟨by rfl, fun w2 hSw => by go_simp⟩) hHeld ?_
  try simp only [Act.put, List.setIfInBounds_toArray, List.set_cons_zero, List.set_cons_succ]
  refine wpAnyH_ready (rs := [3]) (by kernel_rfl) (by simp) ?_
  refine AllReadyH.cons rfl (fun K hK => ?_) AllReadyH.nil
  rw [if_pos (by rfl)]
  refine wp_store_run 45 (.tmp 5) (.tmp 44) rfl W.heap.size 0 _ _ rfl rfl HS7.out ?_
  have hn8 := setRow_at (ds := #[.int .i64 (kd : Int), .int .u64 (bi : Int), K3, V3]) HN7.out
  have he8 := (setRow_other w6.drew W.heap.size (W.heap.size + 1) #[.int .i64 (kd : Int), .int .u64 (bi : Int), K3, V3] (by omega)).trans HE7.out
  refine hK.out _ _ (range_of hn8) (fun hHeld => ?_)
  clear hK hHeld
  try simp only [Act.put, List.setIfInBounds_toArray]
  refine wpAnyH_ready (rs := [4]) (by kernel_rfl) (by simp) ?_
  refine AllReadyH.cons rfl (fun K hK => ?_) AllReadyH.nil
  have hc8 := Joins.cell_of_block (i := 0) he8
  have hf8 := frozen_of_row _ (W.heap.size + 1) 0 _ _ he8
  obtain ⟨s9, n9, e9⟩ := two_box #[.int .i64 (kd : Int), .int .u64 (bi : Int), K3, V3] HN7.out HE7.out
  go_simp
  go_wp2_with fail
  refine hK.out _ _ (range_of n9) (fun hHeld => ?_)
  clear hK hHeld
  try simp only [Act.put, List.setIfInBounds_toArray]
  refine wpAnyH_done (by kernel_rfl) ?_ _
  refine NoPanic.normal ?_
  go_wp2_with fail
  have hx9 := HX7.out.on s9 (fun i cs hc e => by rcases e with e | e; (rw [e] at hc; exact absurd (cells_ne hc HN7.out) (by decide)); (rw [e] at hc; exact absurd (cells_ne hc HE7.out) (by decide)))
  have hb9 := (below_setRow HB8.out (Nat.le_refl _) #[.int .i64 (kd : Int), .int .u64 (bi : Int), K3, V3]).setCell (p := ⟨W.heap.size + 1, 0, none⟩) (by show W.heap.size ≤ W.heap.size + 1; omega) (.int .i64 0)
  have hqc := Joins.cell_of_block (i := 0) e9
  refine leaves_cons (f := 83) (args := #[.pointer (some ⟨k.bs, 0, none⟩), .pointer (some ⟨W.heap.size + 1, 0, none⟩)]) (by simp) (by simp [go_sem]) ?_
  refine (settle_d _ _ (W.heap.size + 1) 0 hqc (by decide) (by decide) .returning).mono ?_
  rintro e u' w'' ⟨rfl, rfl, rfl⟩
  exact ⟨_, results_tcc rfl _ _ _ _ _ _ _ rfl rfl rfl (load_node n9 rfl) (load_errno hqc), K3, V3, rfl, hx9, hb9⟩
end
end Go.Proofs.YtoclhiaidbfheaaGreatDoor.T
end

section
set_option linter.unusedVariables false
namespace Go.Proofs.YtoclhiaidbfheaaGreatDoor.T
open Go.RowKit Q S Go.ChangeMaps Go.MapKept

theorem dm_del (r : Nat) (v : Value) : (dm1 r v).del (keyU r) = dm0 := by
  simp [dm1, dm0, DataW.put_eq, DataW.del_eq, putKey, delKey, DataW.insert, notKey, Lit.sameKey]
section
variable {w W : World} {k : LK} {c : C.CS} {q : Nat} {D : DataW Value}
variable {r : Nat} {kd bi : Nat} {K2 V2 : Value} {ks vs : List Nat}
set_option maxRecDepth 100000 in
set_option maxHeartbeats 2000000 in
theorem LS.free (h : LS w W k c q (dm1 r (.agg #[.int .i64 (kd : Int), .int .u64 (bi : Int), K2, V2]))) (hx : NO W K2 V2 ks vs) (hc : c.now.length = 200) (hn : C.lookN c.now (r : Int) = 1) (h0 : 0 < r) (h2 : r < 200) : Calls Tryz.prog 276 #[k.p, .int .u32 (r : Int)] W fun e w' => e = .returned (.int .i64 0) ∧ Kept w W w' k (C.decS c r) q dm0 := by
  have hnw : C.nowAt c r = 1 := by
    have := hn
    unfold C.lookN at this
    rw [if_pos (by omega)] at this
    exact this
  have HPL := Lib.hid (h.place hc r h0 h2)
  have HIF := Lib.hid (h.isFresh hx (by omega))
  have HCT : Hid (∀ W', Below W.heap.size W W' → Calls Tryz.prog 181 #[k.p, .int .u32 (r : Int)] W' fun e w' => e = .returned (.int .u16 1) ∧ Below W'.heap.size W' w') := Lib.hid (fun W' hb => by
    have := (h.below hb).count r (by omega)
    rw [hn] at this
    exact this)
  have HL := Lib.hid h
  have HCL := Lib.hid hc
  have HNW := Lib.hid hnw
  have HWR : Hid (IntKind.i64.wrap (r : Int) = (r : Int)) := Lib.hid (by rw [IntKind.wrap_i64]; omega)
  clear h hx hc hn hnw
  unfold LK.p at *
  go_enter Tryz.func276, Tryz.ntmps276
  go_upto_region 6 with (first
    | (go_at_call 209; (with_reducible refine HPL.out.mono ?_); rintro e ws ⟨rfl, hw⟩; subst ws)
    | (go_at_call 228; (with_reducible refine HIF.out.mono ?_); rintro e w1 ⟨rfl, hb1⟩; have HB1 : Hid (Below W.heap.size W w1) := Lib.hid hb1; clear hb1)
    | (go_at_call 181; (with_reducible refine (HCT.out _ HB1.out).mono ?_); rintro e w2 ⟨rfl, hb2⟩; have HB2 : Hid (Below W.heap.size W w2) := Lib.hid (HB1.out.trans (hb2.mono HB1.out.size)); clear hb2)
    | fail)
  have HL2 := Lib.hid (HL.out.below HB2.out)
  have h22 : w2.cell? ⟨k.bs, 22, none⟩ = some (.map (some k.mp)) := HL2.out.st.c 22
  have hfr := True.intro
  go_upto_region 7 with (first
    | (at_delete; go_loud (refine wpList_delete_own _ rfl _ _ 167 22 rfl 45 lawU Tryz.underlying167 rawE k.mp q _ rfl HL2.out.mp _ _ rfl (key_ofU r (by omega)) ?_; intro w3 hm3 ht3; rw [dm_del] at hm3; have HM3 := Lib.hid hm3; have HT3 := Lib.hid ht3; clear hm3 ht3))
    | fail)
  obtain ⟨l3, t3⟩ := HL2.out.nodes HM3.out HT3.out.grown
  have HDC := Lib.hid (C.dec_any w3 k.bm k.g0 k.p0 k.g1 k.p1 c l3.am r (by have := HCL.out; omega) (by have := HNW.out; omega))
  have HDC2 : Hid (Calls Tryz.prog 188 #[.pointer (some ⟨k.bm, 0, none⟩), .int .i64 (IntKind.i64.wrap (r : Int))] w3 _) := Lib.hid (by rw [HWR.out]; exact HDC.out)
  have h20 := l3.st.c20
  have HL3 := Lib.hid l3
  have HT3 := Lib.hid t3
  clear l3 t3 h22 hfr
  go_wp2_with (first
    | (go_at_call 188; (with_reducible first | refine HDC.out.mono ?_ | refine HDC2.out.mono ?_); rintro e w4 ⟨rfl, ha4, hs4⟩)
    | fail)
  go_ret
  obtain ⟨l4, t4⟩ := HL3.out.counts ha4 hs4
  exact ⟨rfl, l4, ((stays_touch HB2.out).trans HT3.out (fun _ e => .inl e)).trans t4 (fun _ e => .inl e)⟩
end
end Go.Proofs.YtoclhiaidbfheaaGreatDoor.T
end

section
set_option linter.unusedVariables false
namespace Go.Proofs.YtoclhiaidbfheaaGreatDoor.T
open Go.RowKit Q S

section
variable {w W : World} {k : LK} {c : C.CS} {q : Nat} {D : DataW Value}
variable {r : Nat} {kd bi : Nat} {K2 V2 : Value} {ks vs : List Nat}
theorem stands_leaf (W : World) (kd bi : Nat) (K V : Value) (hk : ¬ (kd : Int) = 1) : Calls Tryz.prog 163 #[.agg #[.int .i64 (kd : Int), .int .u64 (bi : Int), K, V], .int .i64 0] W fun e w' => e = .returned (.bool true) ∧ Below W.heap.size W w' := by
  have hb0 : Below W.heap.size W (W.alloc (.cells #[.int .i64 (kd : Int), .int .u64 (bi : Int), K, V] 45)) := (Below.refl _ W).alloc (Nat.le_refl _) _
  have HB0 := Lib.hid hb0
  clear hb0
  go_enter Tryz.func163, Tryz.ntmps163
  go_wp2_with fail
  go_ret
  exact ⟨rfl, HB0.out⟩
set_option maxRecDepth 100000 in
set_option maxHeartbeats 1000000 in
theorem LS.look (h : LS w W k c q (dm1 r (.agg #[.int .i64 (kd : Int), .int .u64 (bi : Int), K2, V2]))) (hx : NO W K2 V2 ks vs) (hc : c.now.length = 200) (h0 : 0 < r) (h2 : r < 200) (hl : ks.length ≤ 1000) (hl2 : vs.length ≤ 1000) (hk : ¬ (kd : Int) = 1) : Calls Tryz.prog 95 #[k.p, .int .u32 (r : Int), .int .i64 0] W fun e w' => ∃ K3 V3, e = .returned (.tuple #[.agg #[.int .i64 (kd : Int), .int .u64 (bi : Int), K3, V3], .int .i64 0]) ∧ NO w' K3 V3 ks vs ∧ Below W.heap.size W w' := by
  obtain ⟨W1, hW1⟩ : ∃ W1, W.alloc (.cells #[.int .i64 0, .int .u64 0, .slice none 0 0, .slice none 0 0] 45) = W1 := ⟨_, rfl⟩
  have hb1 : Below W.heap.size W W1 := by rw [← hW1]; exact (Below.refl _ W).alloc (Nat.le_refl _) _
  have hbx : W1.heap[W.heap.size]? = some (.cells #[.int .i64 0, .int .u64 0, .slice none 0 0, .slice none 0 0] 45 (0, 0)) := by rw [← hW1]; exact heap_alloc_new W _
  have HND := Lib.hid ((h.below hb1).node (hx.below hb1) hc h0 h2 hl hl2)
  have HBX := Lib.hid hbx
  have HB1 := Lib.hid hb1
  have HSD : Hid (∀ (W : World) (K V : Value), Calls Tryz.prog 163 #[.agg #[.int .i64 (kd : Int), .int .u64 (bi : Int), K, V], .int .i64 0] W fun e w' => e = .returned (.bool true) ∧ Below W.heap.size W w') := Lib.hid fun W K V => stands_leaf W kd bi K V hk
  clear h hx hb1 hbx hc
  have hz := node_zero
  unfold LK.p at *
  go_enter Tryz.func95, Tryz.ntmps95
  go_wp2_with (first
    | (go_at_call 162; (with_reducible refine HND.out.mono ?_); rintro e w2 ⟨K3, V3, rfl, hx2, hb2⟩; have HX2 := Lib.hid hx2.no; have HB2 := Lib.hid hb2; have HST := Lib.hid (node_new (kd : Int) (bi : Int) K3 V3 hx2.one.1 hx2.one.2 w2); have HB3 : Hid (Below w2.heap.size w2 (w2.alloc (.cells #[.int .i64 (kd : Int), .int .u64 (bi : Int), K3, V3] 45))) := Lib.hid ((Below.refl _ w2).alloc (Nat.le_refl _) _); have HBN := Lib.hid (heap_alloc_new w2 (.cells #[.int .i64 (kd : Int), .int .u64 (bi : Int), K3, V3] 45)); have HRN := Lib.hid (range_of HBN.out); clear hx2 hb2)
    | (go_at_call 163; (with_reducible refine (HSD.out _ _ _).mono ?_); rintro e w4 ⟨rfl, hb4⟩; have HB4 := Lib.hid hb4; have HB24 := Lib.hid (HB3.out.trans (hb4.mono HB3.out.size)); have HBN4 := Lib.hid ((hb4.block w2.heap.size (Array.getElem?_eq_some_iff.1 HBN.out).1).trans HBN.out); have HRN4 := Lib.hid (range_of HBN4.out); have HX4 := Lib.hid (HX2.out.below HB24.out); have HC4 := Lib.hid ((HB24.out.block W.heap.size (Nat.lt_of_lt_of_le (Array.getElem?_eq_some_iff.1 HBX.out).1 HB2.out.size)).trans ((HB2.out.block W.heap.size (Array.getElem?_eq_some_iff.1 HBX.out).1).trans HBX.out)); have HS4 := Lib.hid (node_box HC4.out rfl (kd : Int) (bi : Int) K3 V3 HX4.out.one.1 HX4.out.one.2); clear hb4)
    | (refine wpList_store_run rfl 45 (.tmp 8) (.tmp 14) rfl w2.heap.size 0 _ _ rfl rfl HST.out ?_)
    | (refine wpList_load_mid rfl 45 (.tmp 8) rfl w2.heap.size 0 rfl [.int .i64 (kd : Int), .int .u64 (bi : Int), K3, V3] _ ?hcl Tryz.underlying45 rfl (nodeC _ _ _ _) ?_; (case hcl => first | exact HRN4.out | exact HRN.out))
    | (refine wpList_store_run rfl 45 (.tmp 6) (.tmp 25) rfl W.heap.size 0 _ _ rfl rfl HS4.out ?_)
    | fail)
  have hbb := HB1.out.trans ((HB2.out.trans (HB24.out.mono HB2.out.size)).mono HB1.out.size)
  exact bodyPost_ret (results_ct rfl _ _ _ _ _ rfl rfl (load_node (setRow_at HC4.out) rfl)) rfl ⟨K3, V3, rfl, HX4.out.on (Q.Stays.set_row HC4.out) (fun j cs hc e => by rw [show j = W.heap.size from e] at hc; exact absurd (cells_ne hc HC4.out) (by decide)), below_setRow hbb (Nat.le_refl _) _⟩
end
end Go.Proofs.YtoclhiaidbfheaaGreatDoor.T
end

section
set_option linter.unusedVariables false
namespace Go.Proofs.YtoclhiaidbfheaaGreatDoor.T
open Go.RowKit Q S

theorem addr0 (p : Addr) : p.add 0 = p := by cases p; simp [Addr.add]
theorem find_is {key : Nat} {e : Ending} (h : FindAs [key] key e) : e = .returned (.tuple #[.int .i64 0, .bool true]) := by
  obtain ⟨i, hi, hb, hn, rfl⟩ := h
  have : i = 0 := by
    rcases i with _ | _ | i
    · rfl
    · exfalso
      simp [belowTo] at hb
    · simp at hi
  subst this
  simp
section
variable {w W : World} {k : LK} {c : C.CS} {q : Nat} {D : DataW Value}
variable {r : Nat} {kd bi key val : Nat} {K2 V2 : Value}
set_option maxRecDepth 100000 in
set_option maxHeartbeats 1000000 in
theorem LS.get_ (h : LS w W k c q (dm1 r (.agg #[.int .i64 (kd : Int), .int .u64 (bi : Int), K2, V2]))) (hx : NO W K2 V2 [key] [val]) (hc : c.now.length = 200) (h0 : 0 < r) (h2 : r < 200) (hk : ¬ (kd : Int) = 1) : Calls Tryz.prog 40 #[k.p, .int .u32 (r : Int), .int .u64 (key : Int), .int .i64 0] W fun e w' => e = .returned (.tuple #[.int .u64 (val : Int), .bool true, .int .i64 0]) ∧ Below W.heap.size W w' := by
  have HLO := Lib.hid (h.look hx hc h0 h2 (by simp) (by simp) hk)
  have HK := Lib.hid hk
  have hk' := hk
  clear h hx hc hk
  have hz := node_zero
  unfold LK.p at *
  go_enter Tryz.func40, Tryz.ntmps40
  go_wp2_with (first
    | (go_at_call 95; (with_reducible refine HLO.out.mono ?_); rintro e w2 ⟨K3, V3, rfl, hx2, hb2⟩; have HX2 := Lib.hid hx2; have HB2 := Lib.hid hb2; have HST := Lib.hid (node_new (kd : Int) (bi : Int) K3 V3 hx2.one.1 hx2.one.2 w2); have HB3 : Hid (Below w2.heap.size w2 (w2.alloc (.cells #[.int .i64 (kd : Int), .int .u64 (bi : Int), K3, V3] 45))) := Lib.hid ((Below.refl _ w2).alloc (Nat.le_refl _) _); have HBN := Lib.hid (heap_alloc_new w2 (.cells #[.int .i64 (kd : Int), .int .u64 (bi : Int), K3, V3] 45)); have HRN := Lib.hid (range_of HBN.out); have HF := Lib.hid ((HX2.out.below HB3.out).find kd bi key (by simp)); clear hx2 hb2)
    | (go_at_call 44; (with_reducible refine HF.out.mono ?_); rintro e w4 ⟨hf, hb4⟩; obtain rfl := find_is hf; have HB24 := Lib.hid (HB3.out.trans (hb4.mono HB3.out.size)); have HBN4 := Lib.hid ((hb4.block w2.heap.size (Array.getElem?_eq_some_iff.1 HBN.out).1).trans HBN.out); obtain ⟨A, ck, A', cv, rfl, rfl, s1, s2⟩ := (HX2.out.below HB24.out).shows; obtain ⟨p, v, rfl, hp, hv, hcv⟩ := s2.cell (k := 0) (by simp); obtain rfl : Value.int .u64 (val : Int) = v := (by have e : (nums64 [val])[0]? = some (Value.int .u64 (val : Int)) := rfl; rw [e] at hv; injection hv); have hc3 := Joins.cell_of_block (i := 3) HBN4.out; rw [addr0 p] at hcv; clear hb4 hf s1 s2)
    | (refine wpList_store_run rfl 45 (.tmp 11) (.tmp 20) rfl w2.heap.size 0 _ _ rfl rfl HST.out ?_)
    | (refine wpList_load_mid rfl 45 (.tmp 11) rfl w2.heap.size 0 rfl [.int .i64 (kd : Int), .int .u64 (bi : Int), K3, V3] _ HRN.out Tryz.underlying45 rfl (nodeC _ _ _ _) ?_)
    | fail)
  go_ret3
  exact ⟨rfl, HB2.out.trans (HB24.out.mono HB2.out.size)⟩

end
end Go.Proofs.YtoclhiaidbfheaaGreatDoor.T
end

section
set_option linter.unusedVariables false
namespace Go.Proofs.YtoclhiaidbfheaaGreatDoor.T
open Go.RowKit Q S

section
variable {w W : World} {k : LK} {c : C.CS} {q : Nat} {D : DataW Value}
variable {r : Nat} {kd bi key val : Nat} {K2 V2 : Value}
set_option maxRecDepth 100000 in
theorem LS.get (h : LS w W k c q (dm1 r (.agg #[.int .i64 (kd : Int), .int .u64 (bi : Int), K2, V2]))) (hx : NO W K2 V2 [key] [val]) (hc : c.now.length = 200) (h0 : 0 < r) (h2 : r < 200) (hk : ¬ (kd : Int) = 1) : Calls Tryz.prog 9 #[k.p, .int .u32 (r : Int), .int .u64 (key : Int)] W fun e w' => e = .returned (.tuple #[.int .u64 (val : Int), .bool true, .int .i64 0]) ∧ Below W.heap.size W w' := by
  have HR := Lib.hid (h.rdy W (Below.refl _ W))
  have HG : Hid (∀ W', Below W.heap.size W W' → Calls Tryz.prog 40 #[k.p, .int .u32 (r : Int), .int .u64 (key : Int), .int .i64 0] W' fun e w' => e = .returned (.tuple #[.int .u64 (val : Int), .bool true, .int .i64 0]) ∧ Below W'.heap.size W' w') := Lib.hid fun W' hb => (h.below hb).get_ (hx.below hb) hc h0 h2 hk
  have hr0 : ¬ (r : Int) = 0 := by omega
  clear h hx hc hk
  unfold LK.p at *
  go_enter Tryz.func9, Tryz.ntmps9
  go_wp2_with (first
    | (go_at_call 32; (with_reducible refine HR.out.mono ?_); rintro e w1 ⟨rfl, hb1⟩; have HB1 := Lib.hid hb1; clear hb1)
    | (go_at_call 40; (with_reducible refine (HG.out _ HB1.out).mono ?_); rintro e w2 ⟨rfl, hb2⟩; have HB2 := Lib.hid hb2; clear hb2)
    | fail)
  go_ret3
  exact ⟨rfl, HB1.out.trans (HB2.out.mono HB1.out.size)⟩
end
end Go.Proofs.YtoclhiaidbfheaaGreatDoor.T
end
