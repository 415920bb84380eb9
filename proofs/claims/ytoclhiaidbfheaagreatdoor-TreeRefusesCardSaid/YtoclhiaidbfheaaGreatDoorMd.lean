/- btree: Put under a root that there is not. -/
import Derived.Test.YtoclhiaidbfheaaGreatDoorMc
import Derived.Handy
set_option linter.unusedVariables false
namespace Go.Proofs.YtoclhiaidbfheaaGreatDoor.T
open Go.RowKit Q S Go.ChangeMaps Go.MapKept

theorem twz_size : (Tryz.prog.info? 186).map (·.size) = some (#[.int .u32 0, .int .i64 0, .int .u64 0, .slice none 0 0, .slice none 0 0] : Array Value).size := by kernel_rfl
theorem twz_box {W : World} {b : Nat} {cs : Array Value} (h : W.heap[b]? = some (.cells cs 186 (0, 0))) (hc : cs.size = 5) : (storeVar 186 ⟨b, 0, none⟩ (.agg #[.int .u32 0, .int .i64 0, .int .u64 0, .slice none 0 0, .slice none 0 0])).run Tryz.prog W = .ok () (W.setRow b #[.int .u32 0, .int .i64 0, .int .u64 0, .slice none 0 0, .slice none 0 0]) :=
  run_storeVar_row W b 186 186 cs _ h twz_size hc (by simp only [List.all_toArray, List.all_cons, List.all_nil, Bool.and_true]; rfl)
theorem twz_new (W : World) : (storeVar 186 ⟨W.heap.size, 0, none⟩ (.agg #[.int .u32 0, .int .i64 0, .int .u64 0, .slice none 0 0, .slice none 0 0])).run Tryz.prog (W.alloc (.cells #[.int .u32 0, .int .i64 0, .int .u64 0, .slice none 0 0, .slice none 0 0] 186)) = .ok () (W.alloc (.cells #[.int .u32 0, .int .i64 0, .int .u64 0, .slice none 0 0, .slice none 0 0] 186)) :=
  run_storeVar_new W 186 #[.int .u32 0, .int .i64 0, .int .u64 0, .slice none 0 0, .slice none 0 0] #[.int .u32 0, .int .i64 0, .int .u64 0, .slice none 0 0, .slice none 0 0] twz_size rfl (by simp only [List.all_toArray, List.all_cons, List.all_nil, Bool.and_true]; rfl)
theorem load_twz {w : World} {b : Nat} (h : w.heap[b]? = some (.cells #[.int .u32 0, .int .i64 0, .int .u64 0, .slice none 0 0, .slice none 0 0] 186 (0, 0))) : (loadVar 186 ⟨b, 0, none⟩).run Tryz.prog w = .ok (.agg #[.int .u32 0, .int .i64 0, .int .u64 0, .slice none 0 0, .slice none 0 0]) w :=
  run_loadVar_row w b 186 186 #[.int .u32 0, .int .i64 0, .int .u64 0, .slice none 0 0, .slice none 0 0] (0, 0) _ h Tryz.underlying186 rfl twz_size
section
variable {w W : World} {b : Nat} {p : Value} {mt dt : Nat} {rm : Int} {m1 nx m2 : Nat}
theorem TB.stays {W' : World} {rf : Int} {fl : Bool} {G : Nat → Prop} (h : TB W b p mt dt rm m1 nx m2 rf fl) (hs : Q.Stays W W' G) (hn : ¬ G b) : TB W' b p mt dt rm m1 nx m2 rf fl := (hs.block b h.lt hn).trans h
theorem TB.verdictE (h : TB W b p mt dt rm m1 nx m2 2 false) (er : Int) : Calls Tryz.prog 86 #[.pointer (some ⟨b, 0, none⟩), .int .i64 er] W fun e w' => e = .returned (.int .i64 2) ∧ w' = W := by
  have hc7 : W.cell? ⟨b, 7, none⟩ = some (.int .i64 2) := Joins.cell_of_block (i := 7) h
  clear h
  go_enter Tryz.func86, Tryz.ntmps86
  go_wp2_with fail
  go_ret
  exact ⟨rfl, rfl⟩
set_option maxRecDepth 100000 in
set_option maxHeartbeats 4000000 in
theorem TB.shadowE (h : TB W b p 200 60 rm m1 nx m2 0 false) (n : Nat) (h2 : 200 ≤ n) (h4 : n < 4294967296) :
    Calls Tryz.prog 284 #[.pointer (some ⟨b, 0, none⟩), .int .u32 (n : Int)] W fun e w' => e = .returned (.tuple #[.int .u32 0, .agg #[.int .i64 0, .int .u64 0, .slice none 0 0, .slice none 0 0], .int .i64 2]) ∧ Hid (TB w' b p 200 60 rm m1 nx m2 2 false ∧ Q.Stays W w' (fun j => j = b)) := by
  have hst := name_new n (W.alloc (.cells #[.int .i64 0, .int .u64 0, .slice none 0 0, .slice none 0 0] 45))
  rw [World.size_alloc] at hst
  obtain ⟨W2, hW2⟩ : ∃ W2, (W.alloc (.cells #[.int .i64 0, .int .u64 0, .slice none 0 0, .slice none 0 0] 45)).alloc (.cells #[.bool false, .int .u32 (n : Int)] 387) = W2 := ⟨_, rfl⟩
  have hb2 : Below W.heap.size W W2 := by rw [← hW2]; exact ((Below.refl _ W).alloc (Nat.le_refl _) _).alloc (by simp) _
  have hbn : W2.heap[W.heap.size]? = some (.cells #[.int .i64 0, .int .u64 0, .slice none 0 0, .slice none 0 0] 45 (0, 0)) := by rw [← hW2]; exact first_at W _ _
  have HLT := Lib.hid h.lt
  have h2' := h.below hb2
  have HRF := Lib.hid (h2'.refuse 2)
  have HB2 := Lib.hid hb2
  have HBN := Lib.hid hbn
  have HST := Lib.hid hst
  have HW2 := Lib.hid hW2
  have HT2 := Lib.hid h2'
  have hr0 : ¬ (n : Int) = 0 := by omega
  have hr2 : (200 : Int) ≤ (n : Int) := by omega
  clear h hb2 hbn hst hW2 h2'
  have hz := node_zero
  have hzn := name_zero
  go_enter Tryz.func284, Tryz.ntmps284
  go_upto_region 2 with (first
    | ((with_reducible show wpList _ _ _ ({ dst := _, op := .store _ _ _, type := _, pos := _, after := _, guard := _ } :: _) _ _); refine wpList_store_run rfl 387 (.tmp 7) (.tmp 14) rfl (W.heap.size + 1) 0 _ ?ws14 rfl rfl ?hs14 ?_; (case hs14 => exact HST.out))
    | fail)
  have hW2 := HW2.out
  rw [hW2]
  clear hW2 HW2 HST
  have hc1 : W2.cell? ⟨b, 1, none⟩ = some (.int .u32 200) := Joins.cell_of_block (i := 1) HT2.out
  go_wp2_with (first
    | (go_at_call 286; (with_reducible refine HRF.out.mono ?_); rintro e w3 ⟨rfl, ht3, hs3⟩; have HT3 := Lib.hid ht3; have HS3 := Lib.hid hs3; have HN3 := Lib.hid ((hs3.block W.heap.size (Array.getElem?_eq_some_iff.1 HBN.out).1 (fun e => by have := HLT.out; omega)).trans HBN.out); have HS4 := Lib.hid (node_box HN3.out rfl 0 0 (.slice none 0 0) (.slice none 0 0) rfl rfl); clear ht3 hs3)
    | ((with_reducible show wpList _ _ _ ({ dst := _, op := .store _ _ _, type := _, pos := _, after := _, guard := _ } :: _) _ _); refine wpList_store_run rfl 45 (.tmp 5) (.tmp 25) rfl W.heap.size 0 _ ?ws25 rfl rfl ?hs25 ?_; (case hs25 => exact HS4.out))
    | fail)
  have hs4 : Q.Stays w3 (w3.setRow W.heap.size #[.int .i64 0, .int .u64 0, .slice none 0 0, .slice none 0 0]) (fun j => j = W.heap.size) := Q.Stays.set_row HN3.out
  exact bodyPost_ret (results_tct rfl _ _ _ _ _ _ rfl rfl rfl (load_node (setRow_at HN3.out) rfl)) rfl ⟨rfl, Lib.hid ⟨HT3.out.stays hs4 (fun e => by have := HLT.out; omega), ((Q.Stays.of_below HB2.out _).trans HS3.out (fun _ e => .inl e)).trans hs4 (fun j e => .inr (by have e : j = W.heap.size := e; omega))⟩⟩
set_option maxRecDepth 100000 in
set_option maxHeartbeats 4000000 in
theorem TB.chShadowE (h : TB W b p 200 60 rm m1 nx m2 0 false) (n : Nat) (h2 : 200 ≤ n) (h4 : n < 4294967296) (bc key : Nat) (lf nf : Value) (hch : W.heap[bc]? = some (.cells (chA (onT b) key lf nf) 183 (0, 0))) :
    Calls Tryz.prog 160 #[.pointer (some ⟨bc, 0, none⟩), .int .u32 (n : Int)] W fun e w' => e = .returned (.tuple #[.agg #[.int .u32 0, .int .i64 0, .int .u64 0, .slice none 0 0, .slice none 0 0], .int .i64 2]) ∧ Hid (TB w' b p 200 60 rm m1 nx m2 2 false ∧ Q.Stays W w' (fun j => j = b)) := by
  obtain ⟨W1, hW1⟩ : ∃ W1, W.alloc (.cells #[.int .u32 0, .int .i64 0, .int .u64 0, .slice none 0 0, .slice none 0 0] 186) = W1 := ⟨_, rfl⟩
  have hb1 : Below W.heap.size W W1 := by rw [← hW1]; exact (Below.refl _ W).alloc (Nat.le_refl _) _
  have hbt : W1.heap[W.heap.size]? = some (.cells #[.int .u32 0, .int .i64 0, .int .u64 0, .slice none 0 0, .slice none 0 0] 186 (0, 0)) := by rw [← hW1]; exact heap_alloc_new W _
  have hch1 := (hb1.block bc (Array.getElem?_eq_some_iff.1 hch).1).trans hch
  have HLT := Lib.hid h.lt
  have HSH := Lib.hid ((h.below hb1).shadowE n h2 h4)
  have HB1 := Lib.hid hb1
  have HBT := Lib.hid hbt
  have hcon := Joins.cell_of_block (i := 0) hch1
  clear h hb1 hbt hch1 hch
  have hz := node_zero
  have htz := twig_zero
  go_enter Tryz.func160, Tryz.ntmps160
  go_upto_region 1 with fail
  clear hW1
  go_wp2_with (first
    | (go_at_call 284; (with_reducible refine HSH.out.mono ?_); rintro e w2 ⟨rfl, h2⟩; have HT2 := Lib.hid h2.out.1; have HS2 := Lib.hid h2.out.2; have HST2 := Lib.hid (node_new 0 0 (.slice none 0 0) (.slice none 0 0) rfl rfl w2); have HBT2 := Lib.hid ((h2.out.2.block W.heap.size (Array.getElem?_eq_some_iff.1 HBT.out).1 (fun e => by have := HLT.out; omega)).trans HBT.out); have HB3 : Hid (Below w2.heap.size w2 (w2.alloc (.cells #[.int .i64 0, .int .u64 0, .slice none 0 0, .slice none 0 0] 45))) := Lib.hid ((Below.refl _ w2).alloc (Nat.le_refl _) _); have HBT3 := Lib.hid ((HB3.out.block W.heap.size (Array.getElem?_eq_some_iff.1 HBT2.out).1).trans HBT2.out); have HST3 := Lib.hid (twz_box HBT3.out rfl); clear h2)
    | ((with_reducible show wpList _ _ _ ({ dst := _, op := .store _ _ _, type := _, pos := _, after := _, guard := _ } :: _) _ _); refine wpList_store_run rfl 45 (.tmp 7) (.tmp 17) rfl w2.heap.size 0 _ ?ws17 rfl rfl ?hs17 ?_; (case hs17 => exact HST2.out))
    | ((with_reducible show wpList _ _ _ ({ dst := _, op := .store _ _ _, type := _, pos := _, after := _, guard := _ } :: _) _ _); refine wpList_store_run rfl 186 (.tmp 4) (.tmp 21) rfl W.heap.size 0 _ ?ws21 rfl rfl ?hs21 ?_; (case hs21 => exact HST3.out))
    | fail)
  have hs4 : Q.Stays (w2.alloc (.cells #[.int .i64 0, .int .u64 0, .slice none 0 0, .slice none 0 0] 45)) ((w2.alloc (.cells #[.int .i64 0, .int .u64 0, .slice none 0 0, .slice none 0 0] 45)).setRow W.heap.size #[.int .u32 0, .int .i64 0, .int .u64 0, .slice none 0 0, .slice none 0 0]) (fun j => j = W.heap.size) := Q.Stays.set_row HBT3.out
  exact bodyPost_ret (results_ct rfl _ _ _ _ _ rfl rfl (load_twz (setRow_at HBT3.out))) rfl ⟨rfl, Lib.hid ⟨(HT2.out.below HB3.out).stays hs4 (fun e => by have := HLT.out; omega), (((Q.Stays.of_below HB1.out (fun j => j = b)).trans HS2.out (fun _ e => .inl e)).trans (Q.Stays.of_below HB3.out (fun _ => False)) (fun _ e => e.elim)).trans hs4 (fun j e => .inr (by have e : j = W.heap.size := e; omega))⟩⟩
set_option maxRecDepth 100000 in
set_option maxHeartbeats 4000000 in
theorem TB.downE (h : TB W b p 200 60 rm m1 nx m2 0 false) (n : Nat) (h2 : 200 ≤ n) (h4 : n < 4294967296) (bc key : Nat) (lf nf : Value) (hch : W.heap[bc]? = some (.cells (chA (onT b) key lf nf) 183 (0, 0))) :
    Calls Tryz.prog 92 #[.pointer (some ⟨bc, 0, none⟩), .int .u32 (n : Int)] W fun e w' => e = .returned (.tuple #[.agg #[.int .u32 0, .int .i64 0, .int .u64 0, .slice none 0 0, .slice none 0 0], .int .i64 2]) ∧ Hid (TB w' b p 200 60 rm m1 nx m2 2 false ∧ Q.Stays W w' (fun j => j = b)) := by
  obtain ⟨W1, hW1⟩ : ∃ W1, W.alloc (.cells #[.int .u32 0, .int .i64 0, .int .u64 0, .slice none 0 0, .slice none 0 0] 186) = W1 := ⟨_, rfl⟩
  have hb1 : Below W.heap.size W W1 := by rw [← hW1]; exact (Below.refl _ W).alloc (Nat.le_refl _) _
  have hbt : W1.heap[W.heap.size]? = some (.cells #[.int .u32 0, .int .i64 0, .int .u64 0, .slice none 0 0, .slice none 0 0] 186 (0, 0)) := by rw [← hW1]; exact heap_alloc_new W _
  have hch1 := (hb1.block bc (Array.getElem?_eq_some_iff.1 hch).1).trans hch
  have HLT := Lib.hid h.lt
  have HSH := Lib.hid ((h.below hb1).chShadowE n h2 h4 bc key lf nf hch1)
  have HB1 := Lib.hid hb1
  have HBT := Lib.hid hbt
  clear h hb1 hbt hch1 hch
  have htz := twig_zero
  go_enter Tryz.func92, Tryz.ntmps92
  go_upto_region 1 with fail
  clear hW1
  go_wp2_with (first
    | (go_at_call 160; (with_reducible refine HSH.out.mono ?_); rintro e w2 ⟨rfl, h2⟩; have HT2 := Lib.hid h2.out.1; have HS2 := Lib.hid h2.out.2; have HST2 := Lib.hid (twz_new w2); have HBT2 := Lib.hid ((h2.out.2.block W.heap.size (Array.getElem?_eq_some_iff.1 HBT.out).1 (fun e => by have := HLT.out; omega)).trans HBT.out); have HB3 : Hid (Below w2.heap.size w2 (w2.alloc (.cells #[.int .u32 0, .int .i64 0, .int .u64 0, .slice none 0 0, .slice none 0 0] 186))) := Lib.hid ((Below.refl _ w2).alloc (Nat.le_refl _) _); have HBT3 := Lib.hid ((HB3.out.block W.heap.size (Array.getElem?_eq_some_iff.1 HBT2.out).1).trans HBT2.out); have HST3 := Lib.hid (twz_box HBT3.out rfl); clear h2)
    | ((with_reducible show wpList _ _ _ ({ dst := _, op := .store _ _ _, type := _, pos := _, after := _, guard := _ } :: _) _ _); refine wpList_store_run rfl 186 (.tmp 6) (.tmp 14) rfl w2.heap.size 0 _ ?ws14 rfl rfl ?hs14 ?_; (case hs14 => exact HST2.out))
    | ((with_reducible show wpList _ _ _ ({ dst := _, op := .store _ _ _, type := _, pos := _, after := _, guard := _ } :: _) _ _); refine wpList_store_run rfl 186 (.tmp 4) (.tmp 18) rfl W.heap.size 0 _ ?ws18 rfl rfl ?hs18 ?_; (case hs18 => exact HST3.out))
    | fail)
  have hs4 : Q.Stays (w2.alloc (.cells #[.int .u32 0, .int .i64 0, .int .u64 0, .slice none 0 0, .slice none 0 0] 186)) ((w2.alloc (.cells #[.int .u32 0, .int .i64 0, .int .u64 0, .slice none 0 0, .slice none 0 0] 186)).setRow W.heap.size #[.int .u32 0, .int .i64 0, .int .u64 0, .slice none 0 0, .slice none 0 0]) (fun j => j = W.heap.size) := Q.Stays.set_row HBT3.out
  exact bodyPost_ret (results_ct rfl _ _ _ _ _ rfl rfl (load_twz (setRow_at HBT3.out))) rfl ⟨rfl, Lib.hid ⟨(HT2.out.below HB3.out).stays hs4 (fun e => by have := HLT.out; omega), (((Q.Stays.of_below HB1.out (fun j => j = b)).trans HS2.out (fun _ e => .inl e)).trans (Q.Stays.of_below HB3.out (fun _ => False)) (fun _ e => e.elim)).trans hs4 (fun j e => .inr (by have e : j = W.heap.size := e; omega))⟩⟩
/-- put's boxes, and its change -/
def box6 (W : World) (on : Value) (kd key val : Nat) : World := (box5 W kd key val).alloc (.cells #[on, .int .u64 (key : Int), .nilFunc, .nilFunc, .int .i64 0] 183)
theorem box5_size (W : World) (kd key val : Nat) : (box5 W kd key val).heap.size = W.heap.size + 1 + 1 + 1 + 1 + 1 := by unfold box5; simp only [World.size_alloc]
theorem box6_facts (W : World) (on : Value) (kd key val : Nat) : Below W.heap.size W (box6 W on kd key val) ∧ (box6 W on kd key val).heap[W.heap.size + 1 + 1 + 1]? = some (.cells #[.int .u64 0] 23 (0, 0)) ∧ (box6 W on kd key val).heap[W.heap.size + 1 + 1 + 1 + 1]? = some (.cells #[.bool false] 4 (0, 0)) ∧ (box6 W on kd key val).heap[W.heap.size + 1 + 1 + 1 + 1 + 1]? = some (.cells #[on, .int .u64 (key : Int), .nilFunc, .nilFunc, .int .i64 0] 183 (0, 0)) := by
  unfold box6
  refine ⟨?_, ?_, ?_, heap_at _ _ _ (box5_size W kd key val)⟩
  · unfold box5
    refine ((((((Below.refl _ W).alloc (Nat.le_refl _) _).alloc ?_ _).alloc ?_ _).alloc ?_ _).alloc ?_ _).alloc ?_ _ <;> simp only [World.size_alloc] <;> omega
  · unfold box5
    exact (Below.heap_alloc _ _ _ (by simp only [World.size_alloc]; omega)).trans ((Below.heap_alloc _ _ _ (by simp only [World.size_alloc]; omega)).trans (heap_at _ _ _ (by simp only [World.size_alloc])))
  · unfold box5
    exact (Below.heap_alloc _ _ _ (by simp only [World.size_alloc]; omega)).trans (heap_at _ _ _ (by simp only [World.size_alloc]))
theorem chg_new (W : World) (n : Nat) (hn : W.heap.size = n) (on : Value) (key : Nat) (ho : on.oneCell' = true) : (storeVar 183 ⟨n, 0, none⟩ (.agg #[on, .int .u64 (key : Int), .nilFunc, .nilFunc, .int .i64 0])).run Tryz.prog (W.alloc (.cells #[.nilIface, .int .u64 0, .nilFunc, .nilFunc, .int .i64 0] 183)) = .ok () (W.alloc (.cells #[on, .int .u64 (key : Int), .nilFunc, .nilFunc, .int .i64 0] 183)) := by
  subst hn
  exact run_storeVar_new W 183 #[.nilIface, .int .u64 0, .nilFunc, .nilFunc, .int .i64 0] #[on, .int .u64 (key : Int), .nilFunc, .nilFunc, .int .i64 0] (changeA on key) rfl (by simp only [List.all_toArray, List.all_cons, List.all_nil, ho, Bool.and_true]; rfl)
/-- put's closures -/
abbrev lfP (a : Nat) : Value := .func (.func 87) #[] #[.pointer (some ⟨a, 0, none⟩), .pointer (some ⟨a + 1, 0, none⟩), .pointer (some ⟨a + 1 + 1 + 1, 0, none⟩), .pointer (some ⟨a + 1 + 1 + 1 + 1, 0, none⟩), .pointer (some ⟨a + 1 + 1, 0, none⟩)]
abbrev nfP (a : Nat) : Value := .func (.func 89) #[] #[.pointer (some ⟨a + 1 + 1 + 1 + 1 + 1, 0, none⟩)]
set_option maxRecDepth 100000 in
set_option maxHeartbeats 8000000 in
theorem TB.putE (h : TB W b p 200 60 rm m1 nx m2 0 false) (n : Nat) (h2 : 200 ≤ n) (h4 : n < 4294967296) (kd key val : Nat) :
    Calls Tryz.prog 35 #[onT b, .int .u32 (n : Int), .int .i64 (kd : Int), .int .u64 (key : Int), .int .u64 (val : Int)] W fun e w' => e = .returned (.tuple #[.int .u32 0, .int .u64 0, .bool false, .int .i64 2]) ∧ Hid (TB w' b p 200 60 rm m1 nx m2 2 false ∧ Q.Stays W w' (fun j => j = b)) := by
  obtain ⟨hb6, ho6, hh6, hc6⟩ := box6_facts W (onT b) kd key val
  have HSC := Lib.hid (chg_new (box5 W kd key val) _ (box5_size W kd key val) (onT b) key rfl)
  obtain ⟨W6, hW6⟩ : ∃ W6, box6 W (onT b) kd key val = W6 := ⟨_, rfl⟩
  rw [hW6] at hb6 ho6 hh6 hc6
  have HW6 := Lib.hid hW6
  have c2 := Joins.cell_of_block (i := 2) hc6
  have f2 := frozen_of_row _ _ 2 _ _ hc6
  have h7 := Joins.block_setCell hc6 (i := 2) (lfP W.heap.size)
  have c3 := Joins.cell_of_block (i := 3) h7
  have f3 := frozen_of_row _ _ 3 _ _ h7
  have h8 := Joins.block_setCell h7 (i := 3) (nfP W.heap.size)
  obtain ⟨W8, hW8⟩ : ∃ W8, (W6.setCell ⟨W.heap.size + 1 + 1 + 1 + 1 + 1, 2, none⟩ (lfP W.heap.size)).setCell ⟨W.heap.size + 1 + 1 + 1 + 1 + 1, 3, none⟩ (nfP W.heap.size) = W8 := ⟨_, rfl⟩
  have hb8 : Below W.heap.size W W8 := by rw [← hW8]; exact (hb6.setCell (p := ⟨W.heap.size + 1 + 1 + 1 + 1 + 1, 2, none⟩) (by show W.heap.size ≤ W.heap.size + 1 + 1 + 1 + 1 + 1; omega) _).setCell (p := ⟨W.heap.size + 1 + 1 + 1 + 1 + 1, 3, none⟩) (by show W.heap.size ≤ W.heap.size + 1 + 1 + 1 + 1 + 1; omega) _
  have ho8 : W8.heap[W.heap.size + 1 + 1 + 1]? = some (.cells #[.int .u64 0] 23 (0, 0)) := by rw [← hW8]; exact (Below.heap_setCell _ ⟨W.heap.size + 1 + 1 + 1 + 1 + 1, 3, none⟩ _ _ (by show W.heap.size + 1 + 1 + 1 ≠ W.heap.size + 1 + 1 + 1 + 1 + 1; omega)).trans ((Below.heap_setCell _ ⟨W.heap.size + 1 + 1 + 1 + 1 + 1, 2, none⟩ _ _ (by show W.heap.size + 1 + 1 + 1 ≠ W.heap.size + 1 + 1 + 1 + 1 + 1; omega)).trans ho6)
  have hh8 : W8.heap[W.heap.size + 1 + 1 + 1 + 1]? = some (.cells #[.bool false] 4 (0, 0)) := by rw [← hW8]; exact (Below.heap_setCell _ ⟨W.heap.size + 1 + 1 + 1 + 1 + 1, 3, none⟩ _ _ (by show W.heap.size + 1 + 1 + 1 + 1 ≠ W.heap.size + 1 + 1 + 1 + 1 + 1; omega)).trans ((Below.heap_setCell _ ⟨W.heap.size + 1 + 1 + 1 + 1 + 1, 2, none⟩ _ _ (by show W.heap.size + 1 + 1 + 1 + 1 ≠ W.heap.size + 1 + 1 + 1 + 1 + 1; omega)).trans hh6)
  rw [hW8] at h8
  have HDN := Lib.hid ((h.below hb8).downE n h2 h4 _ key _ _ h8)
  have HW8 := Lib.hid hW8
  have HB8 := Lib.hid hb8
  have HO8 := Lib.hid ho8
  have HH8 := Lib.hid hh8
  have HLT := Lib.hid h.lt
  have hr0 : ¬ (n : Int) = 0 := by omega
  clear h hW6 hb6 ho6 hh6 hc6 h7 h8 hW8 hb8 ho8 hh8
  have hcz := change_zero
  have htz := twig_zero
  unfold box6 at HW6
  unfold box5 at *
  go_enter Tryz.func35, Tryz.ntmps35
  go_upto_region 5 with (first
    | ((with_reducible show wpList _ _ _ ({ dst := _, op := .store _ _ _, type := _, pos := _, after := _, guard := _ } :: _) _ _); refine wpList_store_run rfl 183 (.tmp 14) (.tmp 35) rfl (W.heap.size + 1 + 1 + 1 + 1 + 1) 0 _ ?ws35 rfl rfl ?hs35 ?_; (case hs35 => exact HSC.out))
    | fail)
  rw [HW6.out]
  go_upto_region 7 with fail
  rw [HW8.out]
  clear c2 f2 c3 f3 HW6 HW8 HSC
  go_upto_region 9 with (first
    | (go_at_call 92; (with_reducible refine HDN.out.mono ?_); rintro e w9 ⟨rfl, h9⟩; have HST9 := Lib.hid (twz_new w9))
    | ((with_reducible show wpList _ _ _ ({ dst := _, op := .store _ _ _, type := _, pos := _, after := _, guard := _ } :: _) _ _); refine wpList_store_run rfl 186 (.tmp 15) (.tmp 43) rfl w9.heap.size 0 _ ?ws43 rfl rfl ?hs43 ?_; (case hs43 => exact HST9.out))
    | fail)
  have hb10 : Below w9.heap.size w9 (w9.alloc (.cells #[.int .u32 0, .int .i64 0, .int .u64 0, .slice none 0 0, .slice none 0 0] 186)) := (Below.refl _ w9).alloc (Nat.le_refl _) _
  have t10 := h9.out.1.below hb10
  have s10 := ((Q.Stays.of_below HB8.out (fun j => j = b)).trans h9.out.2 (fun _ e => .inl e)).trans (Q.Stays.of_below hb10 (fun _ => False)) (fun _ e => e.elim)
  have o9 := (h9.out.2.block _ (Array.getElem?_eq_some_iff.1 HO8.out).1 (fun e => by have := HLT.out; omega)).trans HO8.out
  have h9' := (h9.out.2.block _ (Array.getElem?_eq_some_iff.1 HH8.out).1 (fun e => by have := HLT.out; omega)).trans HH8.out
  have o10 := (hb10.block _ (Array.getElem?_eq_some_iff.1 o9).1).trans o9
  have h10 := (hb10.block _ (Array.getElem?_eq_some_iff.1 h9').1).trans h9'
  obtain ⟨W10, hW10⟩ : ∃ W10, w9.alloc (.cells #[.int .u32 0, .int .i64 0, .int .u64 0, .slice none 0 0, .slice none 0 0] 186) = W10 := ⟨_, rfl⟩
  rw [hW10] at t10 s10 o10 h10 ⊢
  have HT10 := Lib.hid t10
  have HS10 := Lib.hid s10
  have HO10 := Lib.hid o10
  have HH10 := Lib.hid h10
  have e1 := Joins.cell_of_block (i := 0) o10
  have e2 := Joins.cell_of_block (i := 0) h10
  have g1 := frozen_of_row _ _ 0 _ _ o10
  have g2 := frozen_of_row _ _ 0 _ _ h10
  have i1 := setCell_idem o10
  have i2 := setCell_idem h10
  clear hb10 t10 s10 o9 h9' o10 h10 hW10 h9 HDN
  go_wp2_with fail
  exact bodyPost_ret (results_tcct rfl _ _ _ _ _ _ _ _ rfl rfl rfl rfl (load_u64 (Joins.cell_of_block (i := 0) HO10.out)) (load_bool (Joins.cell_of_block (i := 0) HH10.out))) rfl ⟨rfl, Lib.hid ⟨HT10.out, HS10.out⟩⟩
end
end Go.Proofs.YtoclhiaidbfheaaGreatDoor.T
