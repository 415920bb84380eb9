/- btree: Put under a root that there is not, of a kind that may not be, and of a map. -/
import Derived.Test.YtoclhiaidbfheaaGreatDoorMd
import Derived.Handy
set_option linter.unusedVariables false
namespace Go.Proofs.YtoclhiaidbfheaaGreatDoor.T
open Go.RowKit Q S Go.ChangeMaps Go.MapKept

/-- what Put keeps for its closure: a root, a kind, a key, a value -/
structure CapsR (W : World) (a n kd key val : Nat) : Prop where
  c0 : W.heap[a]? = some (.cells #[.int .u32 (n : Int)] 22 (0, 0))
  c1 : W.heap[a + 1]? = some (.cells #[.int .i64 (kd : Int)] 29 (0, 0))
  c2 : W.heap[a + 1 + 1]? = some (.cells #[.int .u64 (key : Int)] 23 (0, 0))
  c3 : W.heap[a + 1 + 1 + 1]? = some (.cells #[.int .u64 (val : Int)] 23 (0, 0))
theorem CapsR.below {W W' : World} {a n kd key val : Nat} (h : CapsR W a n kd key val) (hb : Below W.heap.size W W') : CapsR W' a n kd key val :=
  ⟨(hb.block _ (Array.getElem?_eq_some_iff.1 h.c0).1).trans h.c0, (hb.block _ (Array.getElem?_eq_some_iff.1 h.c1).1).trans h.c1, (hb.block _ (Array.getElem?_eq_some_iff.1 h.c2).1).trans h.c2, (hb.block _ (Array.getElem?_eq_some_iff.1 h.c3).1).trans h.c3⟩
def boxR (W : World) (n kd key val : Nat) : World := (((W.alloc (.cells #[.int .u32 (n : Int)] 22)).alloc (.cells #[.int .i64 (kd : Int)] 29)).alloc (.cells #[.int .u64 (key : Int)] 23)).alloc (.cells #[.int .u64 (val : Int)] 23)
theorem boxR_facts (W : World) (n kd key val : Nat) : Below W.heap.size W (boxR W n kd key val) ∧ CapsR (boxR W n kd key val) W.heap.size n kd key val := by
  unfold boxR
  refine ⟨?_, ?_, ?_, ?_, ?_⟩
  · refine ((((Below.refl _ W).alloc (Nat.le_refl _) _).alloc ?_ _).alloc ?_ _).alloc ?_ _ <;> simp only [World.size_alloc] <;> omega
  · exact (Below.heap_alloc _ _ _ (by simp only [World.size_alloc]; omega)).trans ((Below.heap_alloc _ _ _ (by simp only [World.size_alloc]; omega)).trans ((Below.heap_alloc _ _ _ (by simp only [World.size_alloc]; omega)).trans (heap_at _ _ _ rfl)))
  · exact (Below.heap_alloc _ _ _ (by simp only [World.size_alloc]; omega)).trans ((Below.heap_alloc _ _ _ (by simp only [World.size_alloc]; omega)).trans (heap_at _ _ _ (by simp only [World.size_alloc])))
  · exact (Below.heap_alloc _ _ _ (by simp only [World.size_alloc]; omega)).trans (heap_at _ _ _ (by simp only [World.size_alloc]))
  · exact heap_at _ _ _ (by simp only [World.size_alloc])
section
variable {w W W' : World} {k : LK} {c c' : C.CS} {q q' : Nat} {D D' : DataW Value}
set_option maxRecDepth 100000 in
set_option maxHeartbeats 4000000 in
theorem TB.putcE {b : Nat} {p : Value} {rm : Int} {m1 nx m2 : Nat} (h : TB W b p 200 60 rm m1 nx m2 0 false) (n : Nat) (h2 : 200 ≤ n) (h4 : n < 4294967296) (a kd key val : Nat) (hc : CapsR W a n kd key val) :
    Calls Tryz.prog 34 #[onT b, .pointer (some ⟨a, 0, none⟩), .pointer (some ⟨a + 1, 0, none⟩), .pointer (some ⟨a + 1 + 1, 0, none⟩), .pointer (some ⟨a + 1 + 1 + 1, 0, none⟩)] W fun e w' => e = .returned (.tuple #[.int .u32 0, .int .u64 0, .bool false, .int .i64 2]) ∧ Hid (TB w' b p 200 60 rm m1 nx m2 2 false ∧ Q.Stays W w' (fun j => j = b)) := by
  have HP := Lib.hid (h.putE n h2 h4 kd key val)
  have hc0 := Joins.cell_of_block (i := 0) hc.c0
  have hc1 := Joins.cell_of_block (i := 0) hc.c1
  have hc2 := Joins.cell_of_block (i := 0) hc.c2
  have hc3 := Joins.cell_of_block (i := 0) hc.c3
  clear h hc
  go_enter Tryz.func34, Tryz.ntmps34
  go_wp2_with (first
    | (go_at_call 35; (with_reducible refine HP.out.mono ?_); rintro e w1 ⟨rfl, h1⟩)
    | fail)
  exact bodyPost_ret (results_tmp4 rfl _ _ _) rfl ⟨rfl, h1.out⟩
set_option maxRecDepth 100000 in
set_option maxHeartbeats 8000000 in
theorem LS.triedE (h : LS w W k c q D) (rn : Nat) (hrn : C.roomN c c.now.length = rn) (n : Nat) (h2 : 200 ≤ n) (h4 : n < 4294967296) (a kd key val : Nat) (hc : CapsR W a n kd key val) :
    Calls Tryz.prog 33 #[k.p, fnP a] W fun e w' => e = .returned (.tuple #[.int .u32 0, .int .u64 0, .bool false, .int .i64 2]) ∧ Below W.heap.size W w' := by
  have hsu := h.super
  have hu1 : (uC 200 60)[1]? = some (.int .i64 200) := rfl
  have hu2 : (uC 200 60)[2]? = some (.int .i64 60) := rfl
  have hone : (uC 200 60).toArray.all (·.oneCell') = true := by have := cellsS_all (firstU 200 60); rw [show (firstU 200 60).cells = (uC 200 60).toArray by simp [uC]] at this; exact this
  have hul := uC_len 200 60
  obtain ⟨cl, hcl⟩ : ∃ cl, uC 200 60 = cl := ⟨_, rfl⟩
  rw [hcl] at hsu hu1 hu2 hone hul
  clear hcl
  have HST : Hid (∀ w1 : World, (storeVar 144 ⟨w1.heap.size, 0, none⟩ (.agg cl.toArray)).run Tryz.prog (w1.alloc (.cells zeroSC 144)) = .ok () (w1.alloc (.cells cl.toArray 144))) := Lib.hid (fun w1 => run_storeVar_new w1 144 zeroSC cl.toArray (by rw [List.size_toArray, hul]; kernel_rfl) (by simp only [List.size_toArray, hul]; rfl) hone)
  have HU1 := Lib.hid hu1
  have HU2 := Lib.hid hu2
  have HSU := Lib.hid hsu
  have HL := Lib.hid h
  have HC := Lib.hid hc
  have HRN := Lib.hid hrn
  have hzs := sup_zero
  clear h hc hrn hsu hu1 hu2 hul hone
  unfold LK.p at *
  go_enter Tryz.func33, Tryz.ntmps33
  go_upto_region 2 with (first
    | (go_at_call 68; (with_reducible refine HSU.out.mono ?_); rintro e w1 ⟨rfl, hb1⟩; have HB1 := Lib.hid hb1; have HS1 := Lib.hid (HST.out w1); clear hb1)
    | ((with_reducible show wpList _ _ _ ({ dst := _, op := .store _ _ _, type := _, pos := _, after := _, guard := _ } :: _) _ _); refine wpList_store_run rfl 144 (.tmp 8) (.tmp 16) rfl w1.heap.size 0 _ ?ws16 rfl rfl ?hs16 ?_; (case hs16 => exact HS1.out))
    | fail)
  obtain ⟨W2, hW2⟩ : ∃ W2, w1.alloc (.cells cl.toArray 144) = W2 := ⟨_, rfl⟩
  have hb2 : Below w1.heap.size w1 W2 := by rw [← hW2]; exact (Below.refl _ w1).alloc (Nat.le_refl _) _
  have hn2 : W2.heap[w1.heap.size]? = some (.cells cl.toArray 144 (0, 0)) := by rw [← hW2]; exact heap_alloc_new w1 _
  rw [hW2]
  have hz1 : W2.cell? ⟨w1.heap.size, 1, none⟩ = some (.int .i64 200) := (Joins.cell_of_block hn2 1).trans (by rw [List.getElem?_toArray]; exact HU1.out)
  have hz2 : W2.cell? ⟨w1.heap.size, 2, none⟩ = some (.int .i64 60) := (Joins.cell_of_block hn2 2).trans (by rw [List.getElem?_toArray]; exact HU2.out)
  have HB2 := Lib.hid (HB1.out.trans (hb2.mono HB1.out.size))
  clear hW2 hb2 hn2 HS1 HST HSU HU1 HU2 hzs
  have hmm := @run_makeMap Tryz.prog
  have htz := trial_zero
  go_upto_region 3 with fail
  obtain ⟨W3, hW3⟩ : ∃ W3, ((W2.alloc (.map #[] 0)).alloc (.map #[] 0)).alloc (.cells #[.pointer (some ⟨k.bs, 0, none⟩), .int .u32 200, .int .u32 60, .int .i64 0, .map (some W2.heap.size), .int .u32 200, .map (some (W2.heap.size + 1)), .int .i64 0, .bool false] 176) = W3 := ⟨_, rfl⟩
  have hb3 : Below W2.heap.size W2 W3 := by
    rw [← hW3]
    refine (((Below.refl _ W2).alloc (Nat.le_refl _) _).alloc ?_ _).alloc ?_ _ <;> simp only [World.size_alloc] <;> omega
  have hn3 : W3.heap[W2.heap.size + 1 + 1]? = some (.cells #[.pointer (some ⟨k.bs, 0, none⟩), .int .u32 200, .int .u32 60, .int .i64 0, .map (some W2.heap.size), .int .u32 200, .map (some (W2.heap.size + 1)), .int .i64 0, .bool false] 176 (0, 0)) := by
    rw [← hW3]
    exact heap_at _ _ _ (by simp only [World.size_alloc])
  rw [hW3]
  have hrm := (HL.out.below (HB2.out.trans (hb3.mono HB2.out.size))).room
  rw [HRN.out] at hrm
  unfold LK.p at hrm
  have HRM := Lib.hid hrm
  have h3 : W3.drew.cell? ⟨W2.heap.size + 1 + 1, 3, none⟩ = some (.int .i64 0) := Joins.cell_of_block (i := 3) hn3
  have f3 := frozen_of_row W3.drew (W2.heap.size + 1 + 1) 3 _ _ hn3
  clear hrm hb3 hn3 hmm htz hz1 hz2
  go_upto_region 4 with (first
    | (go_at_call 85; (with_reducible refine HRM.out.mono ?_); rintro e w4 ⟨rfl, hw4⟩; subst w4)
    | fail)
  obtain ⟨hb4, t4⟩ := tri_facts W2 (.pointer (some ⟨k.bs, 0, none⟩)) (rn : Int)
  have hW4 : (W3.setCell ⟨W2.heap.size + 1 + 1, 3, none⟩ (.int .i64 (rn : Int))).drew = tri W2 (.pointer (some ⟨k.bs, 0, none⟩)) (rn : Int) := by rw [← hW3]; rfl
  rw [hW4]
  clear hW4 hW3 h3 f3 HRM
  generalize tri W2 (.pointer (some ⟨k.bs, 0, none⟩)) (rn : Int) = W4 at hb4 t4 ⊢
  have HB4 := Lib.hid (HB2.out.trans (hb4.mono HB2.out.size))
  have HC4 := Lib.hid (HC.out.below HB4.out)
  have HPT := Lib.hid (t4.box.putcE n h2 h4 a kd key val HC4.out)
  have HSZ2 : Hid (W.heap.size ≤ W2.heap.size) := Lib.hid HB2.out.size
  clear hb4 t4
  go_upto_region 5 with (first
    | (go_at_call 34; (with_reducible refine HPT.out.mono ?_); rintro e w5 ⟨rfl, h5⟩)
    | fail)
  have HV := Lib.hid (h5.out.1.verdictE 2)
  have HB5 : Hid (Below W.heap.size W w5) := Lib.hid (HB4.out.trans (h5.out.2.below HB4.out.size (fun j hj => by have e : j = W2.heap.size + 1 + 1 := hj; have := HSZ2.out; omega)))
  clear h5 HPT
  go_wp2_with (first
    | (go_at_call 86; (with_reducible refine HV.out.mono ?_); rintro e w6 ⟨rfl, hw6⟩; subst w6)
    | fail)
  exact bodyPost_ret (results_tmp4 rfl _ _ _) rfl ⟨rfl, HB5.out⟩
set_option maxRecDepth 100000 in
set_option maxHeartbeats 8000000 in
/-- Put under a root that there is not -/
theorem LS.PutE (h : LS w W k c q D) (rn : Nat) (hrn : C.roomN c c.now.length = rn) (n : Nat) (h2 : 200 ≤ n) (h4 : n < 4294967296) (kd key val : Nat) (h3 : (kd : Int) = 2) :
    Calls Tryz.prog 7 #[k.p, .int .u32 (n : Int), .int .i64 (kd : Int), .int .u64 (key : Int), .int .u64 (val : Int)] W fun e w' => e = .returned (.tuple #[.int .u32 0, .int .u64 0, .bool false, .int .i64 2]) ∧ Below W.heap.size W w' := by
  obtain ⟨hb, hc⟩ := boxR_facts W n kd key val
  obtain ⟨W4, hW4⟩ : ∃ W4, boxR W n kd key val = W4 := ⟨_, rfl⟩
  rw [hW4] at hb hc
  have l4 := h.below hb
  have HRD : Hid (Calls Tryz.prog 32 #[k.p] W4 fun e w' => e = .returned (.int .i64 0) ∧ Below W4.heap.size W4 w') := Lib.hid (l4.rdy W4 (Below.refl _ W4))
  have HTR : Hid (∀ W', Below W4.heap.size W4 W' → Calls Tryz.prog 33 #[k.p, fnP W.heap.size] W' fun e w' => e = .returned (.tuple #[.int .u32 0, .int .u64 0, .bool false, .int .i64 2]) ∧ Below W'.heap.size W' w') := Lib.hid (fun W' hb' => (l4.below hb').triedE rn hrn n h2 h4 W.heap.size kd key val (hc.below hb'))
  have HB4 := Lib.hid hb
  have HC4 := Lib.hid hc
  have HW4 := Lib.hid hW4
  have H3 := Lib.hid h3
  clear h hb hc l4 hrn hW4 h3
  unfold LK.p at *
  go_enter Tryz.func7, Tryz.ntmps7
  go_upto_region 1 with fail
  have hW4 := HW4.out
  unfold boxR at hW4
  rw [hW4]
  clear hW4 HW4
  go_upto_region 4 with (first
    | (go_at_call 32; (with_reducible refine HRD.out.mono ?_); rintro e w5 ⟨rfl, hb5⟩; have HB5 := Lib.hid hb5; clear hb5)
    | fail)
  have h3 := H3.out
  have hc1 := Joins.cell_of_block (i := 0) (HC4.out.below HB5.out).c1
  go_wp2_with (first
    | (go_at_call 33; (with_reducible refine (HTR.out _ HB5.out).mono ?_); rintro e w6 ⟨rfl, h6⟩)
    | fail)
  exact bodyPost_ret (results_tmp4 rfl _ _ _) rfl ⟨rfl, HB4.out.trans ((HB5.out.trans (h6.mono HB5.out.size)).mono HB4.out.size)⟩
set_option maxRecDepth 100000 in
set_option maxHeartbeats 8000000 in
theorem LS.Put2 (h : LS w W k c q D) (hq : q < 900) (rn : Nat) (hrn : C.roomN c c.now.length = rn) (hr : 0 < rn) (hr2 : rn < 1000) {j : Nat} (hk : C.allocK c = some j) (hj : C.turn c j < 4294967296) (kd key val : Nat) (h3 : (kd : Int) = 2) (hm : mayB ⟨kd, 0, [key], [val]⟩ = true) :
    Calls Tryz.prog 7 #[k.p, .int .u32 0, .int .i64 (kd : Int), .int .u64 (key : Int), .int .u64 (val : Int)] W fun e w' => e = .returned (.tuple #[.int .u32 ((C.turn c j : Nat) : Int), .int .u64 0, .bool false, .int .i64 0]) ∧ Hid (Q.Stays W w' k.touch ∧ ∃ K2 V2, NO w' K2 V2 [key] [val] ∧ LS w w' k (C.allocS c j) (q + 1) (D.put (keyU (C.turn c j)) (.held (.agg #[.int .i64 (kd : Int), .int .u64 2, K2, V2])))) := by
  obtain ⟨hb, hc⟩ := box4_facts W kd key val
  obtain ⟨W4, hW4⟩ : ∃ W4, box4 W kd key val = W4 := ⟨_, rfl⟩
  rw [hW4] at hb hc
  have l4 := h.below hb
  have HRD : Hid (Calls Tryz.prog 32 #[k.p] W4 fun e w' => e = .returned (.int .i64 0) ∧ Below W4.heap.size W4 w') := Lib.hid (l4.rdy W4 (Below.refl _ W4))
  have HTR : Hid (∀ W', Below W4.heap.size W4 W' → Calls Tryz.prog 33 #[k.p, fnP W.heap.size] W' fun e w' => e = .returned (.tuple #[.int .u32 ((C.turn c j : Nat) : Int), .int .u64 0, .bool false, .int .i64 0]) ∧ Hid (Q.Stays W' w' k.touch ∧ ∃ K2 V2, NO w' K2 V2 [key] [val] ∧ LS w w' k (C.allocS c j) (q + 1) (D.put (keyU (C.turn c j)) (.held (.agg #[.int .i64 (kd : Int), .int .u64 2, K2, V2]))))) := Lib.hid (fun W' hb' => (l4.below hb').triedP hq rn hrn hr hr2 hk hj W.heap.size kd key val (hc.below hb') hm)
  have HB4 := Lib.hid hb
  have HC4 := Lib.hid hc
  have HW4 := Lib.hid hW4
  have H3 := Lib.hid h3
  clear h hb hc l4 hk hrn hm hW4 h3
  unfold LK.p at *
  go_enter Tryz.func7, Tryz.ntmps7
  go_upto_region 1 with fail
  have hW4 := HW4.out
  unfold box4 at hW4
  rw [hW4]
  clear hW4 HW4
  go_upto_region 4 with (first
    | (go_at_call 32; (with_reducible refine HRD.out.mono ?_); rintro e w5 ⟨rfl, hb5⟩; have HB5 := Lib.hid hb5; clear hb5)
    | fail)
  have h3 := H3.out
  have hc1 := Joins.cell_of_block (i := 0) (HC4.out.below HB5.out).c1
  go_wp2_with (first
    | (go_at_call 33; (with_reducible refine (HTR.out _ HB5.out).mono ?_); rintro e w6 ⟨rfl, h6⟩)
    | fail)
  obtain ⟨s6, K2, V2, x6, l6⟩ := h6.out
  exact bodyPost_ret (results_tmp4 rfl _ _ _) rfl ⟨rfl, ((Q.Stays.of_below (HB4.out.trans (HB5.out.mono HB4.out.size)) k.touch).trans s6 (fun _ e => .inl e)), K2, V2, x6, l6⟩
set_option maxRecDepth 100000 in
/-- Put of a kind that may not be -/
theorem LS.PutK (h : LS w W k c q D) (kd : Int) (key val : Int) (h2 : ¬ kd = 2) (h3 : ¬ kd = 3) :
    Calls Tryz.prog 7 #[k.p, .int .u32 0, .int .i64 kd, .int .u64 key, .int .u64 val] W fun e w' => e = .returned (.tuple #[.int .u32 0, .int .u64 0, .bool false, .int .i64 2]) ∧ Below W.heap.size W w' := by
  obtain ⟨W4, hW4⟩ : ∃ W4, (((W.alloc (.cells #[.int .u32 0] 22)).alloc (.cells #[.int .i64 kd] 29)).alloc (.cells #[.int .u64 key] 23)).alloc (.cells #[.int .u64 val] 23) = W4 := ⟨_, rfl⟩
  have hb : Below W.heap.size W W4 := by
    rw [← hW4]
    exact belA (belA (belA (belA (Below.refl W.heap.size W) _) _) _) _
  have hk1 : W4.heap[W.heap.size + 1]? = some (.cells #[.int .i64 kd] 29 (0, 0)) := by
    rw [← hW4]
    exact (Below.heap_alloc _ _ _ (by simp only [World.size_alloc]; omega)).trans ((Below.heap_alloc _ _ _ (by simp only [World.size_alloc]; omega)).trans (heap_at _ _ _ (by simp only [World.size_alloc])))
  have HRD : Hid (Calls Tryz.prog 32 #[k.p] W4 fun e w' => e = .returned (.int .i64 0) ∧ Below W4.heap.size W4 w') := Lib.hid ((h.below hb).rdy W4 (Below.refl _ W4))
  have HB4 := Lib.hid hb
  have HK4 := Lib.hid hk1
  have n2 : (kd != 2) = true := by simpa using h2
  have n3 : (kd != 3) = true := by simpa using h3
  clear h hb hk1
  unfold LK.p at *
  go_enter Tryz.func7, Tryz.ntmps7
  go_upto_region 1 with fail
  try rw [hW4]
  clear hW4
  go_upto_region 4 with (first
    | (go_at_call 32; (with_reducible refine HRD.out.mono ?_); rintro e w5 ⟨rfl, hb5⟩; have HB5 := Lib.hid hb5; clear hb5)
    | fail)
  have hc1 := Joins.cell_of_block (i := 0) ((HB5.out.block _ (Array.getElem?_eq_some_iff.1 HK4.out).1).trans HK4.out)
  go_wp2_with fail
  exact bodyPost_ret (results_tmp4 rfl _ _ _) rfl ⟨rfl, HB4.out.trans (HB5.out.mono HB4.out.size)⟩
end
end Go.Proofs.YtoclhiaidbfheaaGreatDoor.T
