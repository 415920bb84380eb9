/- btree: Check of a tree that is one leaf with one key. -/
import Derived.Test.YtoclhiaidbfheaaGreatDoorMb
set_option linter.unusedVariables false
namespace Go.Proofs.YtoclhiaidbfheaaGreatDoor.T
open Go.RowKit Q S Go.ChangeMaps Go.MapKept

section
variable {w W : World} {k : LK} {c : C.CS} {q : Nat} {D : DataW Value}
variable {r : Nat} {kd bi : Nat} {K2 V2 : Value} {ks vs : List Nat}
set_option maxRecDepth 100000 in
set_option maxHeartbeats 1000000 in
theorem LS.lookD (h : LS w W k c q D) (ha : AtD D r (.agg #[.int .i64 (kd : Int), .int .u64 (bi : Int), K2, V2])) (hx : NO W K2 V2 ks vs) (hc : c.now.length = 200) (h0 : 0 < r) (h2 : r < 200) (hl : ks.length ≤ 1000) (hl2 : vs.length ≤ 1000) (hk : ¬ (kd : Int) = 1) : Calls Tryz.prog 95 #[k.p, .int .u32 (r : Int), .int .i64 0] W fun e w' => ∃ K3 V3, e = .returned (.tuple #[.agg #[.int .i64 (kd : Int), .int .u64 (bi : Int), K3, V3], .int .i64 0]) ∧ NO w' K3 V3 ks vs ∧ Below W.heap.size W w' := by
  obtain ⟨W1, hW1⟩ : ∃ W1, W.alloc (.cells #[.int .i64 0, .int .u64 0, .slice none 0 0, .slice none 0 0] 45) = W1 := ⟨_, rfl⟩
  have hb1 : Below W.heap.size W W1 := by rw [← hW1]; exact (Below.refl _ W).alloc (Nat.le_refl _) _
  have hbx : W1.heap[W.heap.size]? = some (.cells #[.int .i64 0, .int .u64 0, .slice none 0 0, .slice none 0 0] 45 (0, 0)) := by rw [← hW1]; exact heap_alloc_new W _
  have HND := Lib.hid ((h.below hb1).nodeD ha (hx.below hb1) hc h0 h2 hl hl2)
  have HBX := Lib.hid hbx
  have HB1 := Lib.hid hb1
  have HSD : Hid (∀ (W : World) (K V : Value), Calls Tryz.prog 163 #[.agg #[.int .i64 (kd : Int), .int .u64 (bi : Int), K, V], .int .i64 0] W fun e w' => e = .returned (.bool true) ∧ Below W.heap.size W w') := Lib.hid fun W K V => stands_leaf W kd bi K V hk
  clear h hx ha hb1 hbx hc
  have hz := node_zero
  unfold LK.p at *
  go_enter Tryz.func95, Tryz.ntmps95
  go_wp2_with (first
    | (go_at_call 162; (with_reducible refine HND.out.mono ?_); rintro e w2 ⟨K3, V3, rfl, hx2, hb2⟩; have HX2 := Lib.hid hx2.no; have HB2 := Lib.hid hb2; have HST := Lib.hid (node_new (kd : Int) (bi : Int) K3 V3 hx2.one.1 hx2.one.2 w2); have HB3 : Hid (Below w2.heap.size w2 (w2.alloc (.cells #[.int .i64 (kd : Int), .int .u64 (bi : Int), K3, V3] 45))) := Lib.hid ((Below.refl _ w2).alloc (Nat.le_refl _) _); have HBN := Lib.hid (heap_alloc_new w2 (.cells #[.int .i64 (kd : Int), .int .u64 (bi : Int), K3, V3] 45)); have HRN := Lib.hid (range_of HBN.out); clear hx2 hb2)
    | (go_at_call 163; (with_reducible refine (HSD.out _ _ _).mono ?_); rintro e w4 ⟨rfl, hb4⟩; have HB4 := Lib.hid hb4; have HB24 := Lib.hid (HB3.out.trans (hb4.mono HB3.out.size)); have HBN4 := Lib.hid ((hb4.block w2.heap.size (Array.getElem?_eq_some_iff.1 HBN.out).1).trans HBN.out); have HRN4 := Lib.hid (range_of HBN4.out); have HX4 := Lib.hid (HX2.out.below HB24.out); have HC4 := Lib.hid ((HB24.out.block W.heap.size (Nat.lt_of_lt_of_le (Array.getElem?_eq_some_iff.1 HBX.out).1 HB2.out.size)).trans ((HB2.out.block W.heap.size (Array.getElem?_eq_some_iff.1 HBX.out).1).trans HBX.out)); have HS4 := Lib.hid (node_box HC4.out rfl (kd : Int) (bi : Int) K3 V3 HX4.out.one.1 HX4.out.one.2); clear hb4)
    | (refine wpList_store_run rfl 45 (.tmp 8) (.tmp 14) rfl w2.heap.size 0 _ _ rfl rfl HST.out ?_)
    | (refine wpList_load_mid rfl 45 (.tmp 8) rfl w2.heap.size 0 rfl [.int .i64 (kd : Int), .int .u64 (bi : Int), K3, V3] _ ?hcl Tryz.underlying45 rfl (nodeC _ _ _ _) ?_; (case hcl => first | exact HRN4.out | exact HRN.out))
    | (refine wpList_store_run rfl 45 (.tmp 6) (.tmp 25) rfl W.heap.size 0 _ _ rfl rfl HS4.out ?_)
    | fail)
  have hbb := HB1.out.trans ((HB2.out.trans (HB24.out.mono HB2.out.size)).mono HB1.out.size)
  exact bodyPost_ret (results_ct rfl _ _ _ _ _ rfl rfl (load_node (setRow_at HC4.out) rfl)) rfl ⟨K3, V3, rfl, HX4.out.on (Q.Stays.set_row HC4.out) (fun j cs hc e => by rw [show j = W.heap.size from e] at hc; exact absurd (cells_ne hc HC4.out) (by decide)), below_setRow hbb (Nat.le_refl _) _⟩
end
theorem least_1 (W : World) (n lo hi : Int) (kd bi : Nat) (K V : Value) (hk : ¬ (kd : Int) = 1) : Calls Tryz.prog 38 #[.agg #[.int .u32 n, .int .i64 0, .int .u64 lo, .int .u64 hi], .agg #[.int .i64 (kd : Int), .int .u64 (bi : Int), K, V]] W fun e w' => e = .returned (.int .i64 1) ∧ Below W.heap.size W w' := by
  have HB0 : Hid (Below W.heap.size W ((W.alloc (.cells #[.int .u32 n, .int .i64 0, .int .u64 lo, .int .u64 hi] 80)).alloc (.cells #[.int .i64 (kd : Int), .int .u64 (bi : Int), K, V] 45))) := Lib.hid (((Below.refl _ W).alloc (Nat.le_refl _) _).alloc (by simp) _)
  go_enter Tryz.func38, Tryz.ntmps38
  go_wp2_with fail
  go_ret
  exact ⟨rfl, HB0.out⟩
theorem spotC (n dp lo hi : Int) : (Tryz.prog.info? 80).map (·.size) = some ([.int .u32 n, .int .i64 dp, .int .u64 lo, .int .u64 hi] : List Value).length := by kernel_rfl
set_option maxRecDepth 100000 in
set_option maxHeartbeats 4000000 in
theorem within_1 (W : World) (n : Int) (kd bi key gK cK : Nat) (V : Value) (cur : Array Value) (hK : W.heap[gK]? = some (.cells cur 23 (0, 0))) (hz : cur[0]? = some (.int .u64 (key : Int))) (hc1 : 1 ≤ cK) (hkey : key < 18446744073709551616) :
    Calls Tryz.prog 39 #[.agg #[.int .u32 n, .int .i64 0, .int .u64 0, .int .u64 18446744073709551615], .agg #[.int .i64 (kd : Int), .int .u64 (bi : Int), .slice (some ⟨gK, 0, none⟩) 1 cK, V]] W fun e w' => e = .returned (.bool true) ∧ Below W.heap.size W w' := by
  obtain ⟨W2, hW2⟩ : ∃ W2, (W.alloc (.cells #[.int .u32 n, .int .i64 0, .int .u64 0, .int .u64 18446744073709551615] 80)).alloc (.cells #[.int .i64 (kd : Int), .int .u64 (bi : Int), .slice (some ⟨gK, 0, none⟩) 1 cK, V] 45) = W2 := ⟨_, rfl⟩
  have HB0 : Hid (Below W.heap.size W W2) := Lib.hid (by rw [← hW2]; exact ((Below.refl _ W).alloc (Nat.le_refl _) _).alloc (by simp) _)
  have HSP : Hid (W2.heap[W.heap.size]? = some (.cells #[.int .u32 n, .int .i64 0, .int .u64 0, .int .u64 18446744073709551615] 80 (0, 0))) := Lib.hid (by rw [← hW2]; exact first_at W _ _)
  have HND : Hid (W2.heap[W.heap.size + 1]? = some (.cells #[.int .i64 (kd : Int), .int .u64 (bi : Int), .slice (some ⟨gK, 0, none⟩) 1 cK, V] 45 (0, 0))) := Lib.hid (by rw [← hW2]; exact heap_at _ _ _ (by simp only [World.size_alloc]))
  have HK : Hid (W2.heap[gK]? = some (.cells cur 23 (0, 0))) := Lib.hid ((HB0.out.block gK (Array.getElem?_eq_some_iff.1 hK).1).trans hK)
  have HZ := Lib.hid hz
  have HKY : Hid ((0 : Int) ≤ (key : Int) ∧ (key : Int) ≤ 18446744073709551615) := Lib.hid ⟨by omega, by omega⟩
  have hcl : (1 : Nat) ≤ cK := hc1
  clear hK hz hkey
  go_enter Tryz.func39, Tryz.ntmps39
  go_upto_region 1 with fail
  try rw [hW2]
  clear hW2
  refine wp_region_noPanic ?_
  refine wp_region_held_drew (S := fun w' => Below W2.heap.size W2 w') (by kernel_rfl) ((Below.refl _ W2).drew) (fun hHeld => ?_)
  refine takeN (i := 0) (oi := _) (v := .pointer (some ⟨(W.heap.size + 1), 2, none⟩)) 5 rfl rfl (by kernel_rfl) (by kernel_rfl) (by kernel_rfl) (fun _ _ _ h => h) (Or.inl ⟨by rfl, fun w2 hSw => by (go_simp)⟩) hHeld ?_
  try simp only [Act.put, List.setIfInBounds_toArray, List.set_cons_zero, List.set_cons_succ]
  refine takeN (i := 1) (oi := _) (v := .slice (some ⟨gK, 0, none⟩) 1 cK) 6 rfl rfl (by kernel_rfl) (by kernel_rfl) (by kernel_rfl) (fun _ _ _ h => h) (Or.inl ⟨by rfl, fun w2 hSw => by (have hc := Joins.cell_of_block (i := 2) ((hSw.block _ (Array.getElem?_eq_some_iff.1 HND.out).1).trans HND.out); go_simp)⟩) hHeld ?_
  try simp only [Act.put, List.setIfInBounds_toArray, List.set_cons_zero, List.set_cons_succ]
  refine takeN (i := 2) (oi := _) (v := .int .i64 1) 7 rfl rfl (by kernel_rfl) (by kernel_rfl) (by kernel_rfl) (fun _ _ _ h => h) (Or.inl ⟨by rfl, fun w2 hSw => by (go_simp)⟩) hHeld ?_
  try simp only [Act.put, List.setIfInBounds_toArray, List.set_cons_zero, List.set_cons_succ]
  refine takeN (i := 3) (oi := _) (v := .bool false) 8 rfl rfl (by kernel_rfl) (by kernel_rfl) (by kernel_rfl) (fun _ _ _ h => h) (Or.inl ⟨by rfl, fun w2 hSw => by (go_simp)⟩) hHeld ?_
  try simp only [Act.put, List.setIfInBounds_toArray, List.set_cons_zero, List.set_cons_succ]
  refine takeN (i := 4) (oi := _) (v := .bool false) 9 rfl rfl (by kernel_rfl) (by kernel_rfl) (by kernel_rfl) (fun _ _ _ h => h) (Or.inl ⟨by rfl, fun w2 hSw => by (go_simp)⟩) hHeld ?_
  try simp only [Act.put, List.setIfInBounds_toArray, List.set_cons_zero, List.set_cons_succ]
  refine takeN (i := 5) (oi := _) (v := .pointer (some ⟨(W.heap.size + 1), 2, none⟩)) 10 rfl rfl (by kernel_rfl) (by kernel_rfl) (by kernel_rfl) (fun _ _ _ h => h) (Or.inl ⟨by rfl, fun w2 hSw => by (go_simp)⟩) hHeld ?_
  try simp only [Act.put, List.setIfInBounds_toArray, List.set_cons_zero, List.set_cons_succ]
  refine takeN (i := 6) (oi := _) (v := .slice (some ⟨gK, 0, none⟩) 1 cK) 11 rfl rfl (by kernel_rfl) (by kernel_rfl) (by kernel_rfl) (fun _ _ _ h => h) (Or.inl ⟨by rfl, fun w2 hSw => by (have hc := Joins.cell_of_block (i := 2) ((hSw.block _ (Array.getElem?_eq_some_iff.1 HND.out).1).trans HND.out); go_simp)⟩) hHeld ?_
  try simp only [Act.put, List.setIfInBounds_toArray, List.set_cons_zero, List.set_cons_succ]
  refine takeN (i := 7) (oi := _) (v := .pointer (some ⟨gK, 0, none⟩)) 12 rfl rfl (by kernel_rfl) (by kernel_rfl) (by kernel_rfl) (fun _ _ _ h => h) (Or.inl ⟨by rfl, fun w2 hSw => by (go_simp)⟩) hHeld ?_
  try simp only [Act.put, List.setIfInBounds_toArray, List.set_cons_zero, List.set_cons_succ]
  refine takeN (i := 8) (oi := _) (v := .int .u64 (key : Int)) 13 rfl rfl (by kernel_rfl) (by kernel_rfl) (by kernel_rfl) (fun _ _ _ h => h) (Or.inl ⟨by rfl, fun w2 hSw => by (have hc := Joins.cell_of_block (i := 0) ((hSw.block _ (Array.getElem?_eq_some_iff.1 HK.out).1).trans HK.out); rw [HZ.out] at hc; go_simp)⟩) hHeld ?_
  try simp only [Act.put, List.setIfInBounds_toArray, List.set_cons_zero, List.set_cons_succ]
  refine takeN (i := 9) (oi := _) (v := .pointer (some ⟨W.heap.size, 2, none⟩)) 14 rfl rfl (by kernel_rfl) (by kernel_rfl) (by kernel_rfl) (fun _ _ _ h => h) (Or.inl ⟨by rfl, fun w2 hSw => by (go_simp)⟩) hHeld ?_
  try simp only [Act.put, List.setIfInBounds_toArray, List.set_cons_zero, List.set_cons_succ]
  refine takeN (i := 10) (oi := _) (v := .int .u64 0) 15 rfl rfl (by kernel_rfl) (by kernel_rfl) (by kernel_rfl) (fun _ _ _ h => h) (Or.inl ⟨by rfl, fun w2 hSw => by (have hc := Joins.cell_of_block (i := 2) ((hSw.block _ (Array.getElem?_eq_some_iff.1 HSP.out).1).trans HSP.out); go_simp)⟩) hHeld ?_
  try simp only [Act.put, List.setIfInBounds_toArray, List.set_cons_zero, List.set_cons_succ]
  refine takeN (i := 11) (oi := _) (v := .bool true) 16 rfl rfl (by kernel_rfl) (by kernel_rfl) (by kernel_rfl) (fun _ _ _ h => h) (Or.inl ⟨by rfl, fun w2 hSw => by (have h0 := HKY.out.1; go_simp)⟩) hHeld ?_
  try simp only [Act.put, List.setIfInBounds_toArray, List.set_cons_zero, List.set_cons_succ]
  refine takeN (i := 12) (oi := _) (v := .bool true) 17 rfl rfl (by kernel_rfl) (by kernel_rfl) (by kernel_rfl) (fun _ _ _ h => h) (Or.inl ⟨by rfl, fun w2 hSw => by (go_simp)⟩) hHeld ?_
  try simp only [Act.put, List.setIfInBounds_toArray, List.set_cons_zero, List.set_cons_succ]
  refine takeN (i := 13) (oi := _) (v := .pointer (some ⟨(W.heap.size + 1), 2, none⟩)) 18 rfl rfl (by kernel_rfl) (by kernel_rfl) (by kernel_rfl) (fun _ _ _ h => h) (Or.inl ⟨by rfl, fun w2 hSw => by (go_simp)⟩) hHeld ?_
  try simp only [Act.put, List.setIfInBounds_toArray, List.set_cons_zero, List.set_cons_succ]
  refine takeN (i := 14) (oi := _) (v := .slice (some ⟨gK, 0, none⟩) 1 cK) 19 rfl rfl (by kernel_rfl) (by kernel_rfl) (by kernel_rfl) (fun _ _ _ h => h) (Or.inl ⟨by rfl, fun w2 hSw => by (have hc := Joins.cell_of_block (i := 2) ((hSw.block _ (Array.getElem?_eq_some_iff.1 HND.out).1).trans HND.out); go_simp)⟩) hHeld ?_
  try simp only [Act.put, List.setIfInBounds_toArray, List.set_cons_zero, List.set_cons_succ]
  refine takeN (i := 15) (oi := _) (v := .pointer (some ⟨(W.heap.size + 1), 2, none⟩)) 20 rfl rfl (by kernel_rfl) (by kernel_rfl) (by kernel_rfl) (fun _ _ _ h => h) (Or.inl ⟨by rfl, fun w2 hSw => by (go_simp)⟩) hHeld ?_
  try simp only [Act.put, List.setIfInBounds_toArray, List.set_cons_zero, List.set_cons_succ]
  refine takeN (i := 16) (oi := _) (v := .slice (some ⟨gK, 0, none⟩) 1 cK) 21 rfl rfl (by kernel_rfl) (by kernel_rfl) (by kernel_rfl) (fun _ _ _ h => h) (Or.inl ⟨by rfl, fun w2 hSw => by (have hc := Joins.cell_of_block (i := 2) ((hSw.block _ (Array.getElem?_eq_some_iff.1 HND.out).1).trans HND.out); go_simp)⟩) hHeld ?_
  try simp only [Act.put, List.setIfInBounds_toArray, List.set_cons_zero, List.set_cons_succ]
  refine takeN (i := 17) (oi := _) (v := .int .i64 1) 22 rfl rfl (by kernel_rfl) (by kernel_rfl) (by kernel_rfl) (fun _ _ _ h => h) (Or.inl ⟨by rfl, fun w2 hSw => by (go_simp)⟩) hHeld ?_
  try simp only [Act.put, List.setIfInBounds_toArray, List.set_cons_zero, List.set_cons_succ]
  refine takeN (i := 18) (oi := _) (v := .int .i64 0) 23 rfl rfl (by kernel_rfl) (by kernel_rfl) (by kernel_rfl) (fun _ _ _ h => h) (Or.inl ⟨by rfl, fun w2 hSw => by (have hw1 : IntKind.i64.wrap 0 = 0 := (by rw [IntKind.wrap_i64]; omega); go_simp)⟩) hHeld ?_
  try simp only [Act.put, List.setIfInBounds_toArray, List.set_cons_zero, List.set_cons_succ]
  refine takeN (i := 19) (oi := _) (v := .pointer (some ⟨gK, 0, none⟩)) 24 rfl rfl (by kernel_rfl) (by kernel_rfl) (by kernel_rfl) (fun _ _ _ h => h) (Or.inl ⟨by rfl, fun w2 hSw => by (go_simp)⟩) hHeld ?_
  try simp only [Act.put, List.setIfInBounds_toArray, List.set_cons_zero, List.set_cons_succ]
  refine takeN (i := 20) (oi := _) (v := .int .u64 (key : Int)) 25 rfl rfl (by kernel_rfl) (by kernel_rfl) (by kernel_rfl) (fun _ _ _ h => h) (Or.inl ⟨by rfl, fun w2 hSw => by (have hc := Joins.cell_of_block (i := 0) ((hSw.block _ (Array.getElem?_eq_some_iff.1 HK.out).1).trans HK.out); rw [HZ.out] at hc; go_simp)⟩) hHeld ?_
  try simp only [Act.put, List.setIfInBounds_toArray, List.set_cons_zero, List.set_cons_succ]
  refine takeN (i := 21) (oi := _) (v := .pointer (some ⟨W.heap.size, 3, none⟩)) 26 rfl rfl (by kernel_rfl) (by kernel_rfl) (by kernel_rfl) (fun _ _ _ h => h) (Or.inl ⟨by rfl, fun w2 hSw => by (go_simp)⟩) hHeld ?_
  try simp only [Act.put, List.setIfInBounds_toArray, List.set_cons_zero, List.set_cons_succ]
  refine takeN (i := 22) (oi := _) (v := .int .u64 18446744073709551615) 27 rfl rfl (by kernel_rfl) (by kernel_rfl) (by kernel_rfl) (fun _ _ _ h => h) (Or.inl ⟨by rfl, fun w2 hSw => by (have hc := Joins.cell_of_block (i := 3) ((hSw.block _ (Array.getElem?_eq_some_iff.1 HSP.out).1).trans HSP.out); go_simp)⟩) hHeld ?_
  try simp only [Act.put, List.setIfInBounds_toArray, List.set_cons_zero, List.set_cons_succ]
  refine takeN (i := 23) (oi := _) (v := .bool true) 28 rfl rfl (by kernel_rfl) (by kernel_rfl) (by kernel_rfl) (fun _ _ _ h => h) (Or.inl ⟨by rfl, fun w2 hSw => by (have h0 := HKY.out.2; go_simp)⟩) hHeld ?_
  try simp only [Act.put, List.setIfInBounds_toArray, List.set_cons_zero, List.set_cons_succ]
  refine takeN (i := 24) (oi := _) (v := .bool true) 29 rfl rfl (by kernel_rfl) (by kernel_rfl) (by kernel_rfl) (fun _ _ _ h => h) (Or.inl ⟨by rfl, fun w2 hSw => by (go_simp)⟩) hHeld ?_
  try simp only [Act.put, List.setIfInBounds_toArray, List.set_cons_zero, List.set_cons_succ]
  refine takeN (i := 25) (oi := _) (v := .bool true) 30 rfl rfl (by kernel_rfl) (by kernel_rfl) (by kernel_rfl) (fun _ _ _ h => h) (Or.inl ⟨by rfl, fun w2 hSw => by (go_simp)⟩) hHeld ?_
  try simp only [Act.put, List.setIfInBounds_toArray, List.set_cons_zero, List.set_cons_succ]
  refine takeN (i := 26) (oi := _) (v := .bool true) 4 rfl rfl (by kernel_rfl) (by kernel_rfl) (by kernel_rfl) (fun _ _ _ h => h) (Or.inl ⟨by rfl, fun w2 hSw => by (go_simp)⟩) hHeld ?_
  try simp only [Act.put, List.setIfInBounds_toArray, List.set_cons_zero, List.set_cons_succ]
  refine wpAnyH_done (by kernel_rfl) ?_ _
  refine NoPanic.normal ?_
  have HB5 := Lib.hid hHeld
  clear hHeld
  go_wp2_with fail
  go_ret
  exact ⟨rfl, HB0.out.trans (HB5.out.mono HB0.out.size)⟩
theorem two_cells {W W5 : World} {bf bl : Nat} {u v : Value} (h : Below W.heap.size W W5) : Q.Stays W ((W5.setCell ⟨bl, 0, none⟩ u).setCell ⟨bf, 0, none⟩ v) (fun j => j = bf ∨ j = bl) :=
  ((Q.Stays.of_below h _).trans (stays_cell W5 bl 0 u) (fun _ e => .inl (.inr e))).trans (stays_cell _ bf 0 v) (fun _ e => .inl (.inl e))
set_option maxRecDepth 100000 in
set_option maxHeartbeats 8000000 in
/-- what Check's visit says of a leaf -/
theorem visit_1 (W : World) (n : Int) (bf bl bk : Nat) (kd bi kw key val : Nat) (K V : Value) (hx : NO W K V [key] [val]) (hf : W.heap[bf]? = some (.cells #[.bool true] 4 (0, 0))) (hl : W.heap[bl]? = some (.cells #[.int .i64 0] 3 (0, 0))) (hk : W.heap[bk]? = some (.cells #[.int .i64 (kw : Int)] 29 (0, 0))) (hk1 : ¬ (kd : Int) = 1) (hkey : key < 18446744073709551616) (er : Int) (her : er = if kd = kw then 0 else 14) :
    Calls Tryz.prog 37 #[.agg #[.int .u32 n, .int .i64 0, .int .u64 0, .int .u64 18446744073709551615], .agg #[.int .i64 (kd : Int), .int .u64 (bi : Int), K, V], .pointer (some ⟨bf, 0, none⟩), .pointer (some ⟨bl, 0, none⟩), .pointer (some ⟨bk, 0, none⟩)] W fun e w' => e = .returned (.int .i64 er) ∧ Q.Stays W w' (fun j => j = bf ∨ j = bl) := by
  obtain ⟨gK, cK, cur, rfl, _, hgK, lK, mK, sK, zK⟩ := one_row hx.kr
  obtain ⟨W2, hW2⟩ : ∃ W2, (W.alloc (.cells #[.int .u32 n, .int .i64 0, .int .u64 0, .int .u64 18446744073709551615] 80)).alloc (.cells #[.int .i64 (kd : Int), .int .u64 (bi : Int), .slice (some ⟨gK, 0, none⟩) 1 cK, V] 45) = W2 := ⟨_, rfl⟩
  have HB0 : Hid (Below W.heap.size W W2) := Lib.hid (by rw [← hW2]; exact ((Below.refl _ W).alloc (Nat.le_refl _) _).alloc (by simp) _)
  have HSP : Hid (W2.heap[W.heap.size]? = some (.cells #[.int .u32 n, .int .i64 0, .int .u64 0, .int .u64 18446744073709551615] 80 (0, 0))) := Lib.hid (by rw [← hW2]; exact first_at W _ _)
  have HND : Hid (W2.heap[W.heap.size + 1]? = some (.cells #[.int .i64 (kd : Int), .int .u64 (bi : Int), .slice (some ⟨gK, 0, none⟩) 1 cK, V] 45 (0, 0))) := Lib.hid (by rw [← hW2]; exact heap_at _ _ _ (by simp only [World.size_alloc]))
  have hgK2 := (HB0.out.block gK (Array.getElem?_eq_some_iff.1 hgK).1).trans hgK
  have HF : Hid (W2.heap[bf]? = some (.cells #[.bool true] 4 (0, 0))) := Lib.hid ((HB0.out.block bf (Array.getElem?_eq_some_iff.1 hf).1).trans hf)
  have HL : Hid (W2.heap[bl]? = some (.cells #[.int .i64 0] 3 (0, 0))) := Lib.hid ((HB0.out.block bl (Array.getElem?_eq_some_iff.1 hl).1).trans hl)
  have HKD : Hid (W2.heap[bk]? = some (.cells #[.int .i64 (kw : Int)] 29 (0, 0))) := Lib.hid ((HB0.out.block bk (Array.getElem?_eq_some_iff.1 hk).1).trans hk)
  have HNE : Hid (bl ≠ bf) := Lib.hid (fun e => by rw [e, hf] at hl; injection hl with hl; injection hl with _ hl; revert hl; decide)
  have HLT : Hid (bf < W.heap.size ∧ bl < W.heap.size) := Lib.hid ⟨(Array.getElem?_eq_some_iff.1 hf).1, (Array.getElem?_eq_some_iff.1 hl).1⟩
  have HNK : Hid (bk ≠ bl ∧ bk ≠ bf) := Lib.hid ⟨fun e => (by rw [e, hl] at hk; injection hk with hk; injection hk with _ hk; revert hk; decide), fun e => (by rw [e, hf] at hk; injection hk with hk; injection hk with _ hk; revert hk; decide)⟩
  have HKD1 := Lib.hid hk1
  have HER := Lib.hid her
  have HWI : Hid (∀ W', Below W2.heap.size W2 W' → Calls Tryz.prog 39 #[.agg #[.int .u32 n, .int .i64 0, .int .u64 0, .int .u64 18446744073709551615], .agg #[.int .i64 (kd : Int), .int .u64 (bi : Int), .slice (some ⟨gK, 0, none⟩) 1 cK, V]] W' fun e w' => e = .returned (.bool true) ∧ Below W'.heap.size W' w') := Lib.hid (fun W' hb => within_1 W' n kd bi key gK cK V cur ((hb.block gK (Array.getElem?_eq_some_iff.1 hgK2).1).trans hgK2) zK lK hkey)
  clear hx hgK hgK2 hf hl hk her lK mK sK zK hkey
  go_enter Tryz.func37, Tryz.ntmps37
  go_upto_region 1 with fail
  try rw [hW2]
  clear hW2
  refine wp_region_noPanic ?_
  refine wp_region_held_drew (S := fun w' => Below W2.heap.size W2 w') (by kernel_rfl) ((Below.refl _ W2).drew) (fun hHeld => ?_)
  refine takeN (i := 0) (oi := _) (v := .pointer (some ⟨(W.heap.size + 1), 2, none⟩)) 8 rfl rfl (by kernel_rfl) (by kernel_rfl) (by kernel_rfl) (fun _ _ _ h => h) (Or.inl ⟨by rfl, fun w2 hSw => by (go_simp)⟩) hHeld ?_
  try simp only [Act.put, List.setIfInBounds_toArray, List.set_cons_zero, List.set_cons_succ]
  refine takeN (i := 1) (oi := _) (v := .slice (some ⟨gK, 0, none⟩) 1 cK) 9 rfl rfl (by kernel_rfl) (by kernel_rfl) (by kernel_rfl) (fun _ _ _ h => h) (Or.inl ⟨by rfl, fun w2 hSw => by (have hc := Joins.cell_of_block (i := 2) ((hSw.block _ (Array.getElem?_eq_some_iff.1 HND.out).1).trans HND.out); go_simp)⟩) hHeld ?_
  try simp only [Act.put, List.setIfInBounds_toArray, List.set_cons_zero, List.set_cons_succ]
  refine takeN (i := 2) (oi := _) (v := .int .i64 1) 10 rfl rfl (by kernel_rfl) (by kernel_rfl) (by kernel_rfl) (fun _ _ _ h => h) (Or.inl ⟨by rfl, fun w2 hSw => by (go_simp)⟩) hHeld ?_
  try simp only [Act.put, List.setIfInBounds_toArray, List.set_cons_zero, List.set_cons_succ]
  refine takeN (i := 3) (oi := _) (v := .agg #[.int .u32 n, .int .i64 0, .int .u64 0, .int .u64 18446744073709551615]) 11 rfl rfl (by kernel_rfl) (by kernel_rfl) (by kernel_rfl) (fun _ _ _ h => h) (yieldsIf_load_mid (by rfl) 80 (.tmp 5) rfl W.heap.size 0 rfl [.int .u32 n, .int .i64 0, .int .u64 0, .int .u64 18446744073709551615] _ (fun w2 hSw => range_of ((hSw.block _ (Array.getElem?_eq_some_iff.1 HSP.out).1).trans HSP.out)) Tryz.underlying80 rfl (spotC _ _ _ _)) hHeld ?_
  try simp only [Act.put, List.setIfInBounds_toArray, List.set_cons_zero, List.set_cons_succ]
  refine takeN (i := 4) (oi := _) (v := .agg #[.int .i64 (kd : Int), .int .u64 (bi : Int), .slice (some ⟨gK, 0, none⟩) 1 cK, V]) 12 rfl rfl (by kernel_rfl) (by kernel_rfl) (by kernel_rfl) (fun _ _ _ h => h) (yieldsIf_load_mid (by rfl) 45 (.tmp 6) rfl ((W.heap.size + 1)) 0 rfl [.int .i64 (kd : Int), .int .u64 (bi : Int), .slice (some ⟨gK, 0, none⟩) 1 cK, V] _ (fun w2 hSw => range_of ((hSw.block _ (Array.getElem?_eq_some_iff.1 HND.out).1).trans HND.out)) Tryz.underlying45 rfl (nodeC _ _ _ _)) hHeld ?_
  try simp only [Act.put, List.setIfInBounds_toArray, List.set_cons_zero, List.set_cons_succ]
  refine wpAnyH_ready (rs := [5]) (by kernel_rfl) (by simp) ?_
  refine AllReadyH.cons rfl (fun K hK => ?_) AllReadyH.nil
  go_simp
  go_wp2_with (first
    | (go_at_call 38; (with_reducible refine (least_1 _ n 0 18446744073709551615 kd bi _ V HKD1.out).mono ?_); rintro e wq ⟨rfl, hb3⟩)
    | fail)
  have HBQ := Lib.hid (hHeld.trans (hb3.mono hHeld.size))
  refine hK.out _ _ HBQ.out (fun hHeld => ?_)
  clear hb3
  clear hK K
  try simp only [Act.put, List.setIfInBounds_toArray, List.set_cons_zero, List.set_cons_succ]
  refine takeN (i := 6) (oi := _) (v := .bool false) 14 rfl rfl (by kernel_rfl) (by kernel_rfl) (by kernel_rfl) (fun _ _ _ h => h) (Or.inl ⟨by rfl, fun w2 hSw => by (go_simp)⟩) hHeld ?_
  try simp only [Act.put, List.setIfInBounds_toArray, List.set_cons_zero, List.set_cons_succ]
  refine takeN (i := 7) (oi := _) (v := .bool false) 15 rfl rfl (by kernel_rfl) (by kernel_rfl) (by kernel_rfl) (fun _ _ _ h => h) (Or.inl ⟨by rfl, fun w2 hSw => by (go_simp)⟩) hHeld ?_
  try simp only [Act.put, List.setIfInBounds_toArray, List.set_cons_zero, List.set_cons_succ]
  refine takeN (i := 8) (oi := _) (v := .agg #[.int .u32 n, .int .i64 0, .int .u64 0, .int .u64 18446744073709551615]) 16 rfl rfl (by kernel_rfl) (by kernel_rfl) (by kernel_rfl) (fun _ _ _ h => h) (yieldsIf_load_mid (by rfl) 80 (.tmp 5) rfl W.heap.size 0 rfl [.int .u32 n, .int .i64 0, .int .u64 0, .int .u64 18446744073709551615] _ (fun w2 hSw => range_of ((hSw.block _ (Array.getElem?_eq_some_iff.1 HSP.out).1).trans HSP.out)) Tryz.underlying80 rfl (spotC _ _ _ _)) hHeld ?_
  try simp only [Act.put, List.setIfInBounds_toArray, List.set_cons_zero, List.set_cons_succ]
  refine takeN (i := 9) (oi := _) (v := .agg #[.int .i64 (kd : Int), .int .u64 (bi : Int), .slice (some ⟨gK, 0, none⟩) 1 cK, V]) 17 rfl rfl (by kernel_rfl) (by kernel_rfl) (by kernel_rfl) (fun _ _ _ h => h) (yieldsIf_load_mid (by rfl) 45 (.tmp 6) rfl ((W.heap.size + 1)) 0 rfl [.int .i64 (kd : Int), .int .u64 (bi : Int), .slice (some ⟨gK, 0, none⟩) 1 cK, V] _ (fun w2 hSw => range_of ((hSw.block _ (Array.getElem?_eq_some_iff.1 HND.out).1).trans HND.out)) Tryz.underlying45 rfl (nodeC _ _ _ _)) hHeld ?_
  try simp only [Act.put, List.setIfInBounds_toArray, List.set_cons_zero, List.set_cons_succ]
  refine wpAnyH_ready (rs := [10]) (by kernel_rfl) (by simp) ?_
  refine AllReadyH.cons rfl (fun K hK => ?_) AllReadyH.nil
  go_simp
  go_wp2_with (first
    | (go_at_call 39; (with_reducible refine (HWI.out _ hHeld).mono ?_); rintro e wq ⟨rfl, hb3⟩)
    | fail)
  have HBQ := Lib.hid (hHeld.trans (hb3.mono hHeld.size))
  refine hK.out _ _ HBQ.out (fun hHeld => ?_)
  clear hb3
  clear hK K
  try simp only [Act.put, List.setIfInBounds_toArray, List.set_cons_zero, List.set_cons_succ]
  refine takeN (i := 11) (oi := _) (v := .bool false) 19 rfl rfl (by kernel_rfl) (by kernel_rfl) (by kernel_rfl) (fun _ _ _ h => h) (Or.inl ⟨by rfl, fun w2 hSw => by (go_simp)⟩) hHeld ?_
  try simp only [Act.put, List.setIfInBounds_toArray, List.set_cons_zero, List.set_cons_succ]
  refine takeN (i := 12) (oi := _) (v := .bool false) 20 rfl rfl (by kernel_rfl) (by kernel_rfl) (by kernel_rfl) (fun _ _ _ h => h) (Or.inl ⟨by rfl, fun w2 hSw => by (go_simp)⟩) hHeld ?_
  try simp only [Act.put, List.setIfInBounds_toArray, List.set_cons_zero, List.set_cons_succ]
  refine wpAnyH_done (by kernel_rfl) ?_ _
  refine NoPanic.normal ?_
  have HB5 := Lib.hid hHeld
  have hsp5 := (HB5.out.block W.heap.size (Array.getElem?_eq_some_iff.1 HSP.out).1).trans HSP.out
  have hnd5 := (HB5.out.block (W.heap.size + 1) (Array.getElem?_eq_some_iff.1 HND.out).1).trans HND.out
  have hf5 := (HB5.out.block bf (Array.getElem?_eq_some_iff.1 HF.out).1).trans HF.out
  have hl5 := (HB5.out.block bl (Array.getElem?_eq_some_iff.1 HL.out).1).trans HL.out
  have hk5 := (HB5.out.block bk (Array.getElem?_eq_some_iff.1 HKD.out).1).trans HKD.out
  have e1 := Joins.cell_of_block (i := 0) hnd5
  have e2 := Joins.cell_of_block (i := 1) hsp5
  have e3 := Joins.cell_of_block (i := 0) hf5
  have e4 := Joins.cell_of_block (i := 0) hl5
  have e5 := Joins.cell_of_block (i := 0) hk5
  have g3 := frozen_of_row _ bf 0 _ _ hf5
  have g4 := frozen_of_row _ bl 0 _ _ hl5
  have HF5 := Lib.hid hf5
  have HL5 := Lib.hid hl5
  have hlf := HNE.out
  have HSP5 := Lib.hid hsp5
  have HND5 := Lib.hid hnd5
  have HKD5 := Lib.hid hk5
  clear hHeld HBQ hsp5 hnd5 hf5 hl5 hk5
  go_upto_region 7 with fail
  have up : ∀ (j : Nat) (ob : Obj), wq.heap[j]? = some ob → j ≠ bl → j ≠ bf → ((wq.setCell ⟨bl, 0, none⟩ (.int .i64 0)).setCell ⟨bf, 0, none⟩ (.bool false)).heap[j]? = some ob := fun j ob h h1 h2 => (Below.heap_setCell _ ⟨bf, 0, none⟩ (.bool false) j h2).trans ((Below.heap_setCell wq ⟨bl, 0, none⟩ (.int .i64 0) j h1).trans h)
  have k1 := up _ _ HND5.out (by have := HLT.out; omega) (by have := HLT.out; omega)
  have k2 := up _ _ HSP5.out (by have := HLT.out; omega) (by have := HLT.out; omega)
  have k3 := up _ _ HKD5.out HNK.out.1 HNK.out.2
  have k4 := (Below.heap_setCell (wq.setCell ⟨bl, 0, none⟩ (.int .i64 0)) ⟨bf, 0, none⟩ (.bool false) bl HNE.out).trans (Joins.block_setCell HL5.out (i := 0) (.int .i64 0))
  have st7 : Q.Stays W ((wq.setCell ⟨bl, 0, none⟩ (.int .i64 0)).setCell ⟨bf, 0, none⟩ (.bool false)) (fun j => j = bf ∨ j = bl) := two_cells (HB0.out.trans (HB5.out.mono HB0.out.size))
  have HS7 := Lib.hid st7
  clear e1 e2 e3 e4 e5 g3 g4 up st7 hlf
  have e1 := Joins.cell_of_block (i := 0) k1
  have e2 := Joins.cell_of_block (i := 1) k2
  have e3 := Joins.cell_of_block (i := 0) k3
  have e4 := Joins.cell_of_block (i := 0) k4
  clear k1 k2 k3 k4
  generalize ((wq.setCell ⟨bl, 0, none⟩ (.int .i64 0)).setCell ⟨bf, 0, none⟩ (.bool false)) = W7 at e1 e2 e3 e4 HS7 ⊢
  by_cases hkk : kd = kw
  · rw [if_pos hkk] at HER
    subst hkk
    obtain rfl := HER.out
    go_wp2_with fail
    go_ret
    exact ⟨rfl, HS7.out⟩
  · rw [if_neg hkk] at HER
    have hkk2 : ¬ (kd : Int) = (kw : Int) := by omega
    obtain rfl := HER.out
    go_wp2_with fail
    go_ret
    exact ⟨rfl, HS7.out⟩
end Go.Proofs.YtoclhiaidbfheaaGreatDoor.T
