/- super's numbersOf: a superblock's numbers. -/
import Derived.Test.YtoclhiaidbfheaaGreatDoorSa
import Derived.Test.YtoclhiaidbfheaaGreatDoorBi
import Derived.Deep.RegionHeld3
import Derived.Deep.DeepCutAuto
set_option linter.unusedVariables false
namespace Go.Proofs.YtoclhiaidbfheaaGreatDoor
open Go.RowKit

/-- the boxes of numbersOf: the superblock, the numbers, its pages, its state -/
structure NB (w W : World) (b q r : Nat) (nv zv pv tv : Array Value) : Prop where
  n : W.heap[b]? = some (.cells nv 144 (0, 0))
  z : W.heap[b + 1]? = some (.cells zv 311 (0, 0))
  p : W.heap[q]? = some (.cells pv 140 (0, 0))
  t : W.heap[r]? = some (.cells tv 142 (0, 0))
  l : w.heap.size = b ∧ b + 1 < q ∧ b + 1 < r
  bel : Below w.heap.size w W
def zero19 : Array Value := Array.replicate 19 (.int .u64 0)
theorem p6_size : (Tryz.prog.info? 140).map (·.size) = some 6 := by kernel_rfl
theorem n19_size : (Tryz.prog.info? 311).map (·.size) = some 19 := by kernel_rfl
theorem st_size : (Tryz.prog.info? 142).map (·.size) = some 6 := by kernel_rfl
theorem storeN {P : Program} {ops : Array Oper} {Q : Exit → Act → World → Prop} {md : Region.Mode} {S : World → Prop} {i : Nat} {oi : Oper} {fuel : Nat} {listed : Array Bool} {a : Act} {w : World} (ty : TypeId) (x y : Operand) (hi : ops[i]? = some oi) (hrs : Region.ready md ops listed = [i]) (hw : Region.wanted oi (yielded ops a.tmps) = true) (ho : oi.op = .store ty x y) (hd : oi.dst = none)
    (g : Nat) (cells : Array Value) (hx : a.eval x = .pointer (some ⟨g, 0, none⟩)) (hy : a.eval y = .agg cells) (t : TypeId) (old : Array Value) (hg : w.heap[g]? = some (.cells old t (0, 0))) (hi2 : (P.info? ty).map (·.size) = some cells.size) (hold : old.size = cells.size) (h1 : cells.all (·.oneCell') = true)
    (hS : S (w.setRow g cells)) (h : S (w.setRow g cells) → wpAnyH P md ops Q S fuel (listed.setIfInBounds i true) a (w.setRow g cells)) : wpAnyH P md ops Q S (fuel + 1) listed a w := by
  refine wpAnyH_ready hrs (by simp) (AllReadyH.cons hi (fun K hK => ?_) AllReadyH.nil)
  rw [if_pos hw]
  refine wp_store_row ty x y ho g cells hx hy t old hg hi2 hold h1 ?_
  rw [hd]
  exact hK.out _ _ hS h
theorem takeN {P : Program} {ops : Array Oper} {Q : Exit → Act → World → Prop} {md : Region.Mode} {S : World → Prop} {i : Nat} {oi : Oper} {v : Value} {fuel : Nat} {listed : Array Bool} {a : Act} {w : World} (n : Nat) (hi : ops[i]? = some oi) (hd : oi.dst = some n)
    (hs : Region.noSelect ops = true) (hf : Region.free md ops listed i = true) (hr : (Region.ready md ops listed).contains i = true)
    (hQ : ∀ c a w, Q (.panic c) (a.put (some n) v) w → Q (.panic c) a w) (hy : YieldsIf P ops S oi v a) (hS : S w)
    (h : wpAnyH P md ops Q S fuel (listed.setIfInBounds i true) (a.put (some n) v) w) : wpAnyH P md ops Q S (fuel + 1) listed a w :=
  wpAnyH_take hi hs hf hr (by rw [hd]; exact hQ) hy hS (by rw [hd]; exact h)
theorem num_zero (w : World) : (zeroValue 311).run Tryz.prog w = .ok (.agg zero19) w := by kernel_rfl

set_option maxRecDepth 10000 in
set_option maxHeartbeats 4000000 in
theorem numbersOf_any (w : World) (tx mt dt p0 p1 p2 p3 p4 p5 tp ba sg cu ep la sq bl bs : Nat) (mk : Bool) (hb : tx < 18446744073709551616 ∧ mt < 4294967296 ∧ dt < 4294967296 ∧ cu < 4294967296 ∧ p0 < 4294967296 ∧ p1 < 4294967296 ∧ p2 < 4294967296 ∧ p3 < 4294967296 ∧ p4 < 4294967296 ∧ p5 < 4294967296 ∧ tp < 4294967296 ∧ ba < 4294967296 ∧ sg < 4294967296) :
    Calls Tryz.prog 201 #[.agg #[.int .u64 (tx : Int), .int .i64 (mt : Int), .int .i64 (dt : Int), .int .u32 (p0 : Int), .int .u32 (p1 : Int), .int .u32 (p2 : Int), .int .u32 (p3 : Int), .int .u32 (p4 : Int), .int .u32 (p5 : Int), .int .u32 (tp : Int), .int .u32 (ba : Int), .int .u32 (sg : Int), .int .i64 (cu : Int), .int .u64 (ep : Int), .int .u64 (la : Int), .int .u64 (sq : Int), .int .u64 (bl : Int), .int .u64 (bs : Int), .bool mk]] w fun e w' => e = .returned (.agg #[.int .u64 (tx : Int), .int .u64 (mt : Int), .int .u64 (dt : Int), .int .u64 (p0 : Int), .int .u64 (p1 : Int), .int .u64 (p2 : Int), .int .u64 (p3 : Int), .int .u64 (p4 : Int), .int .u64 (p5 : Int), .int .u64 (tp : Int), .int .u64 (ba : Int), .int .u64 (sg : Int), .int .u64 (cu : Int), .int .u64 (ep : Int), .int .u64 (la : Int), .int .u64 (sq : Int), .int .u64 (bl : Int), .int .u64 (bs : Int), .int .u64 ((bitN mk : Nat) : Int)]) ∧ Below w.heap.size w w' := by
  have hz := num_zero
  have HZS : Hid (zero19.size = 19) := (rfl : zero19.size = 19)
  generalize hzz : zero19 = z at *
  clear hzz
  go_enter Tryz.func201, Tryz.ntmps201
  go_upto_region 1 with fail
  have H0 : Hid (((w.alloc (.cells #[.int .u64 (tx : Int), .int .i64 (mt : Int), .int .i64 (dt : Int), .int .u32 (p0 : Int), .int .u32 (p1 : Int), .int .u32 (p2 : Int), .int .u32 (p3 : Int), .int .u32 (p4 : Int), .int .u32 (p5 : Int), .int .u32 (tp : Int), .int .u32 (ba : Int), .int .u32 (sg : Int), .int .i64 (cu : Int), .int .u64 (ep : Int), .int .u64 (la : Int), .int .u64 (sq : Int), .int .u64 (bl : Int), .int .u64 (bs : Int), .bool mk] 144)).alloc (.cells z 311)).heap[w.heap.size]? = some (.cells #[.int .u64 (tx : Int), .int .i64 (mt : Int), .int .i64 (dt : Int), .int .u32 (p0 : Int), .int .u32 (p1 : Int), .int .u32 (p2 : Int), .int .u32 (p3 : Int), .int .u32 (p4 : Int), .int .u32 (p5 : Int), .int .u32 (tp : Int), .int .u32 (ba : Int), .int .u32 (sg : Int), .int .i64 (cu : Int), .int .u64 (ep : Int), .int .u64 (la : Int), .int .u64 (sq : Int), .int .u64 (bl : Int), .int .u64 (bs : Int), .bool mk] 144 (0, 0)) ∧ ((w.alloc (.cells #[.int .u64 (tx : Int), .int .i64 (mt : Int), .int .i64 (dt : Int), .int .u32 (p0 : Int), .int .u32 (p1 : Int), .int .u32 (p2 : Int), .int .u32 (p3 : Int), .int .u32 (p4 : Int), .int .u32 (p5 : Int), .int .u32 (tp : Int), .int .u32 (ba : Int), .int .u32 (sg : Int), .int .i64 (cu : Int), .int .u64 (ep : Int), .int .u64 (la : Int), .int .u64 (sq : Int), .int .u64 (bl : Int), .int .u64 (bs : Int), .bool mk] 144)).alloc (.cells z 311)).heap[w.heap.size + 1]? = some (.cells z 311 (0, 0)) ∧ Below w.heap.size w ((w.alloc (.cells #[.int .u64 (tx : Int), .int .i64 (mt : Int), .int .i64 (dt : Int), .int .u32 (p0 : Int), .int .u32 (p1 : Int), .int .u32 (p2 : Int), .int .u32 (p3 : Int), .int .u32 (p4 : Int), .int .u32 (p5 : Int), .int .u32 (tp : Int), .int .u32 (ba : Int), .int .u32 (sg : Int), .int .i64 (cu : Int), .int .u64 (ep : Int), .int .u64 (la : Int), .int .u64 (sq : Int), .int .u64 (bl : Int), .int .u64 (bs : Int), .bool mk] 144)).alloc (.cells z 311)) ∧ ((w.alloc (.cells #[.int .u64 (tx : Int), .int .i64 (mt : Int), .int .i64 (dt : Int), .int .u32 (p0 : Int), .int .u32 (p1 : Int), .int .u32 (p2 : Int), .int .u32 (p3 : Int), .int .u32 (p4 : Int), .int .u32 (p5 : Int), .int .u32 (tp : Int), .int .u32 (ba : Int), .int .u32 (sg : Int), .int .i64 (cu : Int), .int .u64 (ep : Int), .int .u64 (la : Int), .int .u64 (sq : Int), .int .u64 (bl : Int), .int .u64 (bs : Int), .bool mk] 144)).alloc (.cells z 311)).heap.size = w.heap.size + 2) := by
    have h2 := heap_alloc_new (w.alloc (.cells #[.int .u64 (tx : Int), .int .i64 (mt : Int), .int .i64 (dt : Int), .int .u32 (p0 : Int), .int .u32 (p1 : Int), .int .u32 (p2 : Int), .int .u32 (p3 : Int), .int .u32 (p4 : Int), .int .u32 (p5 : Int), .int .u32 (tp : Int), .int .u32 (ba : Int), .int .u32 (sg : Int), .int .i64 (cu : Int), .int .u64 (ep : Int), .int .u64 (la : Int), .int .u64 (sq : Int), .int .u64 (bl : Int), .int .u64 (bs : Int), .bool mk] 144)) (.cells z 311)
    simp only [World.size_alloc] at h2
    exact ⟨heap_alloc' (heap_alloc_new w _), h2, ((Below.refl w.heap.size w).alloc (Nat.le_refl _) _).alloc (by simp) _, by simp⟩
  generalize (w.alloc (.cells #[.int .u64 (tx : Int), .int .i64 (mt : Int), .int .i64 (dt : Int), .int .u32 (p0 : Int), .int .u32 (p1 : Int), .int .u32 (p2 : Int), .int .u32 (p3 : Int), .int .u32 (p4 : Int), .int .u32 (p5 : Int), .int .u32 (tp : Int), .int .u32 (ba : Int), .int .u32 (sg : Int), .int .i64 (cu : Int), .int .u64 (ep : Int), .int .u64 (la : Int), .int .u64 (sq : Int), .int .u64 (bl : Int), .int .u64 (bs : Int), .bool mk] 144)).alloc (.cells z 311) = w2 at *
  generalize hbq : w.heap.size = b at *
  go_cut [3, 4] (fun x y wx => ∃ q r, x = .pointer (some ⟨q, 0, none⟩) ∧ y = .pointer (some ⟨r, 0, none⟩) ∧ Hid (NB w wx b q r #[.int .u64 (tx : Int), .int .i64 (mt : Int), .int .i64 (dt : Int), .int .u32 (p0 : Int), .int .u32 (p1 : Int), .int .u32 (p2 : Int), .int .u32 (p3 : Int), .int .u32 (p4 : Int), .int .u32 (p5 : Int), .int .u32 (tp : Int), .int .u32 (ba : Int), .int .u32 (sg : Int), .int .i64 (cu : Int), .int .u64 (ep : Int), .int .u64 (la : Int), .int .u64 (sq : Int), .int .u64 (bl : Int), .int .u64 (bs : Int), .bool mk] z #[.int .u32 (p0 : Int), .int .u32 (p1 : Int), .int .u32 (p2 : Int), .int .u32 (p3 : Int), .int .u32 (p4 : Int), .int .u32 (p5 : Int)] #[.int .u64 (ep : Int), .int .u64 (la : Int), .int .u64 (sq : Int), .int .u64 (bl : Int), .int .u64 (bs : Int), .bool mk]))
  case first =>
    have c0 := cell_of_row w2 b 0 _ _ _ H0.out.1
    have c1 := cell_of_row w2 b 1 _ _ _ H0.out.1
    have c2 := cell_of_row w2 b 2 _ _ _ H0.out.1
    have c3 := cell_of_row w2 b 3 _ _ _ H0.out.1
    have c4 := cell_of_row w2 b 4 _ _ _ H0.out.1
    have c5 := cell_of_row w2 b 5 _ _ _ H0.out.1
    have c6 := cell_of_row w2 b 6 _ _ _ H0.out.1
    have c7 := cell_of_row w2 b 7 _ _ _ H0.out.1
    have c8 := cell_of_row w2 b 8 _ _ _ H0.out.1
    have c9 := cell_of_row w2 b 9 _ _ _ H0.out.1
    have c10 := cell_of_row w2 b 10 _ _ _ H0.out.1
    have c11 := cell_of_row w2 b 11 _ _ _ H0.out.1
    have c12 := cell_of_row w2 b 12 _ _ _ H0.out.1
    have c13 := cell_of_row w2 b 13 _ _ _ H0.out.1
    have c14 := cell_of_row w2 b 14 _ _ _ H0.out.1
    have c15 := cell_of_row w2 b 15 _ _ _ H0.out.1
    have c16 := cell_of_row w2 b 16 _ _ _ H0.out.1
    have c17 := cell_of_row w2 b 17 _ _ _ H0.out.1
    have c18 := cell_of_row w2 b 18 _ _ _ H0.out.1
    refine wp_region_noPanic ?_
    refine wp_region_held_drew (S := fun W => W.heap[b]? = some (.cells #[.int .u64 (tx : Int), .int .i64 (mt : Int), .int .i64 (dt : Int), .int .u32 (p0 : Int), .int .u32 (p1 : Int), .int .u32 (p2 : Int), .int .u32 (p3 : Int), .int .u32 (p4 : Int), .int .u32 (p5 : Int), .int .u32 (tp : Int), .int .u32 (ba : Int), .int .u32 (sg : Int), .int .i64 (cu : Int), .int .u64 (ep : Int), .int .u64 (la : Int), .int .u64 (sq : Int), .int .u64 (bl : Int), .int .u64 (bs : Int), .bool mk] 144 (0, 0)) ∧ W.heap[b + 1]? = some (.cells z 311 (0, 0)) ∧ Below b w W) (by kernel_rfl) (⟨H0.out.1, H0.out.2.1, H0.out.2.2.1.drew⟩) (fun hHeld => ?_)
    refine takeN (i := 0) (oi := _) (v := .pointer (some ⟨b, 3, none⟩)) 5 rfl rfl (by kernel_rfl) (by kernel_rfl) (by kernel_rfl) (fun _ _ _ h => h) (Or.inl ⟨by rfl, fun w hSw => by go_simp⟩) hHeld ?_
    try simp only [Act.put, List.setIfInBounds_toArray, List.set_cons_zero, List.set_cons_succ]
    refine takeN (i := 1) (oi := _) (v := .agg #[.int .u32 (p0 : Int), .int .u32 (p1 : Int), .int .u32 (p2 : Int), .int .u32 (p3 : Int), .int .u32 (p4 : Int), .int .u32 (p5 : Int)]) 6 rfl rfl (by kernel_rfl) (by kernel_rfl) (by kernel_rfl) (fun _ _ _ h => h) (Or.inl ⟨by rfl, fun w hSw => by have f3 := cell_of_row w b 3 _ _ _ hSw.1; have f4 := cell_of_row w b 4 _ _ _ hSw.1; have f5 := cell_of_row w b 5 _ _ _ hSw.1; have f6 := cell_of_row w b 6 _ _ _ hSw.1; have f7 := cell_of_row w b 7 _ _ _ hSw.1; have f8 := cell_of_row w b 8 _ _ _ hSw.1; go_simp⟩) hHeld ?_
    try simp only [Act.put, List.setIfInBounds_toArray, List.set_cons_zero, List.set_cons_succ]
    refine takeN (i := 2) (oi := _) (v := .pointer (some ⟨b, 13, none⟩)) 7 rfl rfl (by kernel_rfl) (by kernel_rfl) (by kernel_rfl) (fun _ _ _ h => h) (Or.inl ⟨by rfl, fun w hSw => by go_simp⟩) hHeld ?_
    try simp only [Act.put, List.setIfInBounds_toArray, List.set_cons_zero, List.set_cons_succ]
    refine takeN (i := 3) (oi := _) (v := .agg #[.int .u64 (ep : Int), .int .u64 (la : Int), .int .u64 (sq : Int), .int .u64 (bl : Int), .int .u64 (bs : Int), .bool mk]) 8 rfl rfl (by kernel_rfl) (by kernel_rfl) (by kernel_rfl) (fun _ _ _ h => h) (Or.inl ⟨by rfl, fun w hSw => by have f13 := cell_of_row w b 13 _ _ _ hSw.1; have f14 := cell_of_row w b 14 _ _ _ hSw.1; have f15 := cell_of_row w b 15 _ _ _ hSw.1; have f16 := cell_of_row w b 16 _ _ _ hSw.1; have f17 := cell_of_row w b 17 _ _ _ hSw.1; have f18 := cell_of_row w b 18 _ _ _ hSw.1; go_simp⟩) hHeld ?_
    try simp only [Act.put, List.setIfInBounds_toArray, List.set_cons_zero, List.set_cons_succ]
    refine wpAnyH_ready (rs := [4, 5]) (by kernel_rfl) (by simp) ?_
    refine AllReadyH.cons rfl (fun K hK => ?_) (AllReadyH.cons rfl (fun K hK => ?_) AllReadyH.nil)
    · go_simp
      have hq : ((w2.alloc (.cells #[.int .u32 0, .int .u32 0, .int .u32 0, .int .u32 0, .int .u32 0, .int .u32 0] 140)).drew).heap[w2.heap.size]? = some (.cells #[.int .u32 0, .int .u32 0, .int .u32 0, .int .u32 0, .int .u32 0, .int .u32 0] 140 (0, 0)) := heap_alloc_new w2 _
      have hlt : b + 1 < w2.heap.size := by have := H0.out.2.2.2; omega
      refine hK.out _ _ ⟨heap_alloc' H0.out.1, heap_alloc' H0.out.2.1, (H0.out.2.2.1.alloc (by have := H0.out.2.2.2; omega) _).drew⟩ (fun hHeld => ?_)
      clear hK K
      try simp only [Act.put, List.setIfInBounds_toArray, List.set_cons_zero, List.set_cons_succ]
      have hql : w2.heap.size < ((w2.alloc (.cells #[.int .u32 0, .int .u32 0, .int .u32 0, .int .u32 0, .int .u32 0, .int .u32 0] 140)).drew).heap.size := by show _ < (w2.alloc _).heap.size; simp
      generalize (w2.alloc (.cells #[.int .u32 0, .int .u32 0, .int .u32 0, .int .u32 0, .int .u32 0, .int .u32 0] 140)).drew = wA at *
      generalize w2.heap.size = q at *
      refine wpAnyH_ready (rs := [5]) (by kernel_rfl) (by simp) ?_
      refine AllReadyH.cons rfl (fun K hK => ?_) AllReadyH.nil
      go_simp
      have hr : (wA.alloc (.cells #[.int .u64 0, .int .u64 0, .int .u64 0, .int .u64 0, .int .u64 0, .bool false] 142)).heap[wA.heap.size]? = some (.cells #[.int .u64 0, .int .u64 0, .int .u64 0, .int .u64 0, .int .u64 0, .bool false] 142 (0, 0)) := heap_alloc_new wA _
      have hq2 : (wA.alloc (.cells #[.int .u64 0, .int .u64 0, .int .u64 0, .int .u64 0, .int .u64 0, .bool false] 142)).heap[q]? = some (.cells #[.int .u32 0, .int .u32 0, .int .u32 0, .int .u32 0, .int .u32 0, .int .u32 0] 140 (0, 0)) := heap_alloc' hq
      refine hK.out _ _ ⟨heap_alloc' hHeld.1, heap_alloc' hHeld.2.1, hHeld.2.2.alloc (by omega) _⟩ (fun hHeld2 => ?_)
      clear hK K hq hHeld
      try simp only [Act.put, List.setIfInBounds_toArray, List.set_cons_zero, List.set_cons_succ]
      generalize wA.alloc (.cells #[.int .u64 0, .int .u64 0, .int .u64 0, .int .u64 0, .int .u64 0, .bool false] 142) = wB at *
      generalize wA.heap.size = r at *
      have hqq : q < r := hql
      refine storeN (i := 6) (oi := _) 140 (.tmp 3) (.tmp 6) rfl (by kernel_rfl) (by rfl) rfl rfl q #[.int .u32 (p0 : Int), .int .u32 (p1 : Int), .int .u32 (p2 : Int), .int .u32 (p3 : Int), .int .u32 (p4 : Int), .int .u32 (p5 : Int)] rfl rfl 140 #[.int .u32 0, .int .u32 0, .int .u32 0, .int .u32 0, .int .u32 0, .int .u32 0] hq2 p6_size rfl (by simp [Value.oneCell']) ⟨(setRow_other _ _ _ _ (by omega)).trans hHeld2.1, (setRow_other _ _ _ _ (by omega)).trans hHeld2.2.1, below_setRow hHeld2.2.2 (by omega) _⟩ (fun hHeld3 => ?_)
      have hq3 : (wB.setRow q #[.int .u32 (p0 : Int), .int .u32 (p1 : Int), .int .u32 (p2 : Int), .int .u32 (p3 : Int), .int .u32 (p4 : Int), .int .u32 (p5 : Int)]).heap[q]? = some (.cells #[.int .u32 (p0 : Int), .int .u32 (p1 : Int), .int .u32 (p2 : Int), .int .u32 (p3 : Int), .int .u32 (p4 : Int), .int .u32 (p5 : Int)] 140 (0, 0)) := setRow_heap _ _ _ _ _ _ hq2
      have hr3 := (setRow_other wB q r #[.int .u32 (p0 : Int), .int .u32 (p1 : Int), .int .u32 (p2 : Int), .int .u32 (p3 : Int), .int .u32 (p4 : Int), .int .u32 (p5 : Int)] (by omega)).trans hr
      generalize wB.setRow q #[.int .u32 (p0 : Int), .int .u32 (p1 : Int), .int .u32 (p2 : Int), .int .u32 (p3 : Int), .int .u32 (p4 : Int), .int .u32 (p5 : Int)] = wC at *
      refine storeN (i := 7) (oi := _) 142 (.tmp 4) (.tmp 8) rfl (by kernel_rfl) (by rfl) rfl rfl r #[.int .u64 (ep : Int), .int .u64 (la : Int), .int .u64 (sq : Int), .int .u64 (bl : Int), .int .u64 (bs : Int), .bool mk] rfl rfl 142 #[.int .u64 0, .int .u64 0, .int .u64 0, .int .u64 0, .int .u64 0, .bool false] hr3 st_size rfl (by simp [Value.oneCell']) ⟨(setRow_other _ _ _ _ (by omega)).trans hHeld3.1, (setRow_other _ _ _ _ (by omega)).trans hHeld3.2.1, below_setRow hHeld3.2.2 (by omega) _⟩ (fun hHeld4 => ?_)
      have hq4 := (setRow_other wC r q #[.int .u64 (ep : Int), .int .u64 (la : Int), .int .u64 (sq : Int), .int .u64 (bl : Int), .int .u64 (bs : Int), .bool mk] (by omega)).trans hq3
      have hr4 : (wC.setRow r #[.int .u64 (ep : Int), .int .u64 (la : Int), .int .u64 (sq : Int), .int .u64 (bl : Int), .int .u64 (bs : Int), .bool mk]).heap[r]? = some (.cells #[.int .u64 (ep : Int), .int .u64 (la : Int), .int .u64 (sq : Int), .int .u64 (bl : Int), .int .u64 (bs : Int), .bool mk] 142 (0, 0)) := setRow_heap _ _ _ _ _ _ hr3
      refine wpAnyH_done (by kernel_rfl) ?_ _
      refine NoPanic.normal ?_
      go_wp2_with fail
      go_meet
      exact ⟨q, r, rfl, rfl, hHeld4.1, hHeld4.2.1, hq4, hr4, ⟨by omega, by omega, by omega⟩, by rw [hbq]; exact hHeld4.2.2⟩
    · go_simp
      have hr : ((w2.alloc (.cells #[.int .u64 0, .int .u64 0, .int .u64 0, .int .u64 0, .int .u64 0, .bool false] 142)).drew).heap[w2.heap.size]? = some (.cells #[.int .u64 0, .int .u64 0, .int .u64 0, .int .u64 0, .int .u64 0, .bool false] 142 (0, 0)) := heap_alloc_new w2 _
      have hlt : b + 1 < w2.heap.size := by have := H0.out.2.2.2; omega
      refine hK.out _ _ ⟨heap_alloc' H0.out.1, heap_alloc' H0.out.2.1, (H0.out.2.2.1.alloc (by have := H0.out.2.2.2; omega) _).drew⟩ (fun hHeld => ?_)
      clear hK K
      try simp only [Act.put, List.setIfInBounds_toArray, List.set_cons_zero, List.set_cons_succ]
      have hql : w2.heap.size < ((w2.alloc (.cells #[.int .u64 0, .int .u64 0, .int .u64 0, .int .u64 0, .int .u64 0, .bool false] 142)).drew).heap.size := by show _ < (w2.alloc _).heap.size; simp
      generalize (w2.alloc (.cells #[.int .u64 0, .int .u64 0, .int .u64 0, .int .u64 0, .int .u64 0, .bool false] 142)).drew = wA at *
      generalize w2.heap.size = r at *
      refine wpAnyH_ready (rs := [4]) (by kernel_rfl) (by simp) ?_
      refine AllReadyH.cons rfl (fun K hK => ?_) AllReadyH.nil
      go_simp
      have hq : (wA.alloc (.cells #[.int .u32 0, .int .u32 0, .int .u32 0, .int .u32 0, .int .u32 0, .int .u32 0] 140)).heap[wA.heap.size]? = some (.cells #[.int .u32 0, .int .u32 0, .int .u32 0, .int .u32 0, .int .u32 0, .int .u32 0] 140 (0, 0)) := heap_alloc_new wA _
      have hr2 : (wA.alloc (.cells #[.int .u32 0, .int .u32 0, .int .u32 0, .int .u32 0, .int .u32 0, .int .u32 0] 140)).heap[r]? = some (.cells #[.int .u64 0, .int .u64 0, .int .u64 0, .int .u64 0, .int .u64 0, .bool false] 142 (0, 0)) := heap_alloc' hr
      refine hK.out _ _ ⟨heap_alloc' hHeld.1, heap_alloc' hHeld.2.1, hHeld.2.2.alloc (by omega) _⟩ (fun hHeld2 => ?_)
      clear hK K hr hHeld
      try simp only [Act.put, List.setIfInBounds_toArray, List.set_cons_zero, List.set_cons_succ]
      generalize wA.alloc (.cells #[.int .u32 0, .int .u32 0, .int .u32 0, .int .u32 0, .int .u32 0, .int .u32 0] 140) = wB at *
      generalize wA.heap.size = q at *
      have hqq : r < q := hql
      refine storeN (i := 6) (oi := _) 140 (.tmp 3) (.tmp 6) rfl (by kernel_rfl) (by rfl) rfl rfl q #[.int .u32 (p0 : Int), .int .u32 (p1 : Int), .int .u32 (p2 : Int), .int .u32 (p3 : Int), .int .u32 (p4 : Int), .int .u32 (p5 : Int)] rfl rfl 140 #[.int .u32 0, .int .u32 0, .int .u32 0, .int .u32 0, .int .u32 0, .int .u32 0] hq p6_size rfl (by simp [Value.oneCell']) ⟨(setRow_other _ _ _ _ (by omega)).trans hHeld2.1, (setRow_other _ _ _ _ (by omega)).trans hHeld2.2.1, below_setRow hHeld2.2.2 (by omega) _⟩ (fun hHeld3 => ?_)
      have hq3 : (wB.setRow q #[.int .u32 (p0 : Int), .int .u32 (p1 : Int), .int .u32 (p2 : Int), .int .u32 (p3 : Int), .int .u32 (p4 : Int), .int .u32 (p5 : Int)]).heap[q]? = some (.cells #[.int .u32 (p0 : Int), .int .u32 (p1 : Int), .int .u32 (p2 : Int), .int .u32 (p3 : Int), .int .u32 (p4 : Int), .int .u32 (p5 : Int)] 140 (0, 0)) := setRow_heap _ _ _ _ _ _ hq
      have hr3 := (setRow_other wB q r #[.int .u32 (p0 : Int), .int .u32 (p1 : Int), .int .u32 (p2 : Int), .int .u32 (p3 : Int), .int .u32 (p4 : Int), .int .u32 (p5 : Int)] (by omega)).trans hr2
      generalize wB.setRow q #[.int .u32 (p0 : Int), .int .u32 (p1 : Int), .int .u32 (p2 : Int), .int .u32 (p3 : Int), .int .u32 (p4 : Int), .int .u32 (p5 : Int)] = wC at *
      refine storeN (i := 7) (oi := _) 142 (.tmp 4) (.tmp 8) rfl (by kernel_rfl) (by rfl) rfl rfl r #[.int .u64 (ep : Int), .int .u64 (la : Int), .int .u64 (sq : Int), .int .u64 (bl : Int), .int .u64 (bs : Int), .bool mk] rfl rfl 142 #[.int .u64 0, .int .u64 0, .int .u64 0, .int .u64 0, .int .u64 0, .bool false] hr3 st_size rfl (by simp [Value.oneCell']) ⟨(setRow_other _ _ _ _ (by omega)).trans hHeld3.1, (setRow_other _ _ _ _ (by omega)).trans hHeld3.2.1, below_setRow hHeld3.2.2 (by omega) _⟩ (fun hHeld4 => ?_)
      have hq4 := (setRow_other wC r q #[.int .u64 (ep : Int), .int .u64 (la : Int), .int .u64 (sq : Int), .int .u64 (bl : Int), .int .u64 (bs : Int), .bool mk] (by omega)).trans hq3
      have hr4 : (wC.setRow r #[.int .u64 (ep : Int), .int .u64 (la : Int), .int .u64 (sq : Int), .int .u64 (bl : Int), .int .u64 (bs : Int), .bool mk]).heap[r]? = some (.cells #[.int .u64 (ep : Int), .int .u64 (la : Int), .int .u64 (sq : Int), .int .u64 (bl : Int), .int .u64 (bs : Int), .bool mk] 142 (0, 0)) := setRow_heap _ _ _ _ _ _ hr3
      refine wpAnyH_done (by kernel_rfl) ?_ _
      refine NoPanic.normal ?_
      go_wp2_with fail
      go_meet
      exact ⟨q, r, rfl, rfl, hHeld4.1, hHeld4.2.1, hq4, hr4, ⟨by omega, by omega, by omega⟩, by rw [hbq]; exact hHeld4.2.2⟩
  case rest =>
    obtain ⟨q, r, rfl, rfl, HN⟩ := hcut
    have hw_mt : IntKind.u64.wrap (mt : Int) = (mt : Int) := by rw [IntKind.wrap_u64]; omega
    have hw_dt : IntKind.u64.wrap (dt : Int) = (dt : Int) := by rw [IntKind.wrap_u64]; omega
    have hw_cu : IntKind.u64.wrap (cu : Int) = (cu : Int) := by rw [IntKind.wrap_u64]; omega
    have hw_p0 : IntKind.u64.wrap (p0 : Int) = (p0 : Int) := by rw [IntKind.wrap_u64]; omega
    have hw_p1 : IntKind.u64.wrap (p1 : Int) = (p1 : Int) := by rw [IntKind.wrap_u64]; omega
    have hw_p2 : IntKind.u64.wrap (p2 : Int) = (p2 : Int) := by rw [IntKind.wrap_u64]; omega
    have hw_p3 : IntKind.u64.wrap (p3 : Int) = (p3 : Int) := by rw [IntKind.wrap_u64]; omega
    have hw_p4 : IntKind.u64.wrap (p4 : Int) = (p4 : Int) := by rw [IntKind.wrap_u64]; omega
    have hw_p5 : IntKind.u64.wrap (p5 : Int) = (p5 : Int) := by rw [IntKind.wrap_u64]; omega
    have hw_tp : IntKind.u64.wrap (tp : Int) = (tp : Int) := by rw [IntKind.wrap_u64]; omega
    have hw_ba : IntKind.u64.wrap (ba : Int) = (ba : Int) := by rw [IntKind.wrap_u64]; omega
    have hw_sg : IntKind.u64.wrap (sg : Int) = (sg : Int) := by rw [IntKind.wrap_u64]; omega
    have hzs : z.size = 19 := HZS.out
    have HZD : Hid (wc.drew.heap[b + 1]? = some (.cells z 311 (0, 0))) := HN.out.z
    have hl := HN.out.l
    clear hb H0 hz
    go_upto_region 2 with fail
    refine wp_region_noPanic ?_
    refine wp_region_held_drew (S := fun W => W.heap[b]? = some (.cells #[.int .u64 (tx : Int), .int .i64 (mt : Int), .int .i64 (dt : Int), .int .u32 (p0 : Int), .int .u32 (p1 : Int), .int .u32 (p2 : Int), .int .u32 (p3 : Int), .int .u32 (p4 : Int), .int .u32 (p5 : Int), .int .u32 (tp : Int), .int .u32 (ba : Int), .int .u32 (sg : Int), .int .i64 (cu : Int), .int .u64 (ep : Int), .int .u64 (la : Int), .int .u64 (sq : Int), .int .u64 (bl : Int), .int .u64 (bs : Int), .bool mk] 144 (0, 0)) ∧ W.heap[q]? = some (.cells #[.int .u32 (p0 : Int), .int .u32 (p1 : Int), .int .u32 (p2 : Int), .int .u32 (p3 : Int), .int .u32 (p4 : Int), .int .u32 (p5 : Int)] 140 (0, 0)) ∧ W.heap[r]? = some (.cells #[.int .u64 (ep : Int), .int .u64 (la : Int), .int .u64 (sq : Int), .int .u64 (bl : Int), .int .u64 (bs : Int), .bool mk] 142 (0, 0)) ∧ Below w.heap.size w W) (by kernel_rfl) (⟨HN.out.n, HN.out.p, HN.out.t, HN.out.bel.drew⟩) (fun hHeld => ?_)
    refine takeN (i := 0) (oi := _) (v := .pointer (some ⟨b, 0, none⟩)) 9 rfl rfl (by kernel_rfl) (by kernel_rfl) (by kernel_rfl) (fun _ _ _ h => h) (Or.inl ⟨by rfl, fun w hSw => by go_simp⟩) hHeld ?_
    try simp only [Act.put, List.setIfInBounds_toArray, List.set_cons_zero, List.set_cons_succ]
    refine takeN (i := 1) (oi := _) (v := .int .u64 (tx : Int)) 10 rfl rfl (by kernel_rfl) (by kernel_rfl) (by kernel_rfl) (fun _ _ _ h => h) (Or.inl ⟨by rfl, fun w hSw => by have f0 := cell_of_row w b 0 _ _ _ hSw.1; go_simp⟩) hHeld ?_
    try simp only [Act.put, List.setIfInBounds_toArray, List.set_cons_zero, List.set_cons_succ]
    refine takeN (i := 2) (oi := _) (v := .pointer (some ⟨b, 1, none⟩)) 11 rfl rfl (by kernel_rfl) (by kernel_rfl) (by kernel_rfl) (fun _ _ _ h => h) (Or.inl ⟨by rfl, fun w hSw => by go_simp⟩) hHeld ?_
    try simp only [Act.put, List.setIfInBounds_toArray, List.set_cons_zero, List.set_cons_succ]
    refine takeN (i := 3) (oi := _) (v := .int .i64 (mt : Int)) 12 rfl rfl (by kernel_rfl) (by kernel_rfl) (by kernel_rfl) (fun _ _ _ h => h) (Or.inl ⟨by rfl, fun w hSw => by have f1 := cell_of_row w b 1 _ _ _ hSw.1; go_simp⟩) hHeld ?_
    try simp only [Act.put, List.setIfInBounds_toArray, List.set_cons_zero, List.set_cons_succ]
    refine takeN (i := 4) (oi := _) (v := .int .u64 (mt : Int)) 13 rfl rfl (by kernel_rfl) (by kernel_rfl) (by kernel_rfl) (fun _ _ _ h => h) (Or.inl ⟨by rfl, fun w hSw => by go_simp⟩) hHeld ?_
    try simp only [Act.put, List.setIfInBounds_toArray, List.set_cons_zero, List.set_cons_succ]
    refine takeN (i := 5) (oi := _) (v := .pointer (some ⟨b, 2, none⟩)) 14 rfl rfl (by kernel_rfl) (by kernel_rfl) (by kernel_rfl) (fun _ _ _ h => h) (Or.inl ⟨by rfl, fun w hSw => by go_simp⟩) hHeld ?_
    try simp only [Act.put, List.setIfInBounds_toArray, List.set_cons_zero, List.set_cons_succ]
    refine takeN (i := 6) (oi := _) (v := .int .i64 (dt : Int)) 15 rfl rfl (by kernel_rfl) (by kernel_rfl) (by kernel_rfl) (fun _ _ _ h => h) (Or.inl ⟨by rfl, fun w hSw => by have f2 := cell_of_row w b 2 _ _ _ hSw.1; go_simp⟩) hHeld ?_
    try simp only [Act.put, List.setIfInBounds_toArray, List.set_cons_zero, List.set_cons_succ]
    refine takeN (i := 7) (oi := _) (v := .int .u64 (dt : Int)) 16 rfl rfl (by kernel_rfl) (by kernel_rfl) (by kernel_rfl) (fun _ _ _ h => h) (Or.inl ⟨by rfl, fun w hSw => by go_simp⟩) hHeld ?_
    try simp only [Act.put, List.setIfInBounds_toArray, List.set_cons_zero, List.set_cons_succ]
    refine takeN (i := 8) (oi := _) (v := .pointer (some ⟨q, 0, none⟩)) 17 rfl rfl (by kernel_rfl) (by kernel_rfl) (by kernel_rfl) (fun _ _ _ h => h) (Or.inl ⟨by rfl, fun w hSw => by go_simp⟩) hHeld ?_
    try simp only [Act.put, List.setIfInBounds_toArray, List.set_cons_zero, List.set_cons_succ]
    refine takeN (i := 9) (oi := _) (v := .int .u32 (p0 : Int)) 18 rfl rfl (by kernel_rfl) (by kernel_rfl) (by kernel_rfl) (fun _ _ _ h => h) (Or.inl ⟨by rfl, fun w hSw => by have f0 := cell_of_row w q 0 _ _ _ hSw.2.1; go_simp⟩) hHeld ?_
    try simp only [Act.put, List.setIfInBounds_toArray, List.set_cons_zero, List.set_cons_succ]
    refine takeN (i := 10) (oi := _) (v := .int .u64 (p0 : Int)) 19 rfl rfl (by kernel_rfl) (by kernel_rfl) (by kernel_rfl) (fun _ _ _ h => h) (Or.inl ⟨by rfl, fun w hSw => by go_simp⟩) hHeld ?_
    try simp only [Act.put, List.setIfInBounds_toArray, List.set_cons_zero, List.set_cons_succ]
    refine takeN (i := 11) (oi := _) (v := .pointer (some ⟨q, 1, none⟩)) 20 rfl rfl (by kernel_rfl) (by kernel_rfl) (by kernel_rfl) (fun _ _ _ h => h) (Or.inl ⟨by rfl, fun w hSw => by go_simp⟩) hHeld ?_
    try simp only [Act.put, List.setIfInBounds_toArray, List.set_cons_zero, List.set_cons_succ]
    refine takeN (i := 12) (oi := _) (v := .int .u32 (p1 : Int)) 21 rfl rfl (by kernel_rfl) (by kernel_rfl) (by kernel_rfl) (fun _ _ _ h => h) (Or.inl ⟨by rfl, fun w hSw => by have f1 := cell_of_row w q 1 _ _ _ hSw.2.1; go_simp⟩) hHeld ?_
    try simp only [Act.put, List.setIfInBounds_toArray, List.set_cons_zero, List.set_cons_succ]
    refine takeN (i := 13) (oi := _) (v := .int .u64 (p1 : Int)) 22 rfl rfl (by kernel_rfl) (by kernel_rfl) (by kernel_rfl) (fun _ _ _ h => h) (Or.inl ⟨by rfl, fun w hSw => by go_simp⟩) hHeld ?_
    try simp only [Act.put, List.setIfInBounds_toArray, List.set_cons_zero, List.set_cons_succ]
    refine takeN (i := 14) (oi := _) (v := .pointer (some ⟨q, 2, none⟩)) 23 rfl rfl (by kernel_rfl) (by kernel_rfl) (by kernel_rfl) (fun _ _ _ h => h) (Or.inl ⟨by rfl, fun w hSw => by go_simp⟩) hHeld ?_
    try simp only [Act.put, List.setIfInBounds_toArray, List.set_cons_zero, List.set_cons_succ]
    refine takeN (i := 15) (oi := _) (v := .int .u32 (p2 : Int)) 24 rfl rfl (by kernel_rfl) (by kernel_rfl) (by kernel_rfl) (fun _ _ _ h => h) (Or.inl ⟨by rfl, fun w hSw => by have f2 := cell_of_row w q 2 _ _ _ hSw.2.1; go_simp⟩) hHeld ?_
    try simp only [Act.put, List.setIfInBounds_toArray, List.set_cons_zero, List.set_cons_succ]
    refine takeN (i := 16) (oi := _) (v := .int .u64 (p2 : Int)) 25 rfl rfl (by kernel_rfl) (by kernel_rfl) (by kernel_rfl) (fun _ _ _ h => h) (Or.inl ⟨by rfl, fun w hSw => by go_simp⟩) hHeld ?_
    try simp only [Act.put, List.setIfInBounds_toArray, List.set_cons_zero, List.set_cons_succ]
    refine takeN (i := 17) (oi := _) (v := .pointer (some ⟨q, 3, none⟩)) 26 rfl rfl (by kernel_rfl) (by kernel_rfl) (by kernel_rfl) (fun _ _ _ h => h) (Or.inl ⟨by rfl, fun w hSw => by go_simp⟩) hHeld ?_
    try simp only [Act.put, List.setIfInBounds_toArray, List.set_cons_zero, List.set_cons_succ]
    refine takeN (i := 18) (oi := _) (v := .int .u32 (p3 : Int)) 27 rfl rfl (by kernel_rfl) (by kernel_rfl) (by kernel_rfl) (fun _ _ _ h => h) (Or.inl ⟨by rfl, fun w hSw => by have f3 := cell_of_row w q 3 _ _ _ hSw.2.1; go_simp⟩) hHeld ?_
    try simp only [Act.put, List.setIfInBounds_toArray, List.set_cons_zero, List.set_cons_succ]
    refine takeN (i := 19) (oi := _) (v := .int .u64 (p3 : Int)) 28 rfl rfl (by kernel_rfl) (by kernel_rfl) (by kernel_rfl) (fun _ _ _ h => h) (Or.inl ⟨by rfl, fun w hSw => by go_simp⟩) hHeld ?_
    try simp only [Act.put, List.setIfInBounds_toArray, List.set_cons_zero, List.set_cons_succ]
    refine takeN (i := 20) (oi := _) (v := .pointer (some ⟨q, 4, none⟩)) 29 rfl rfl (by kernel_rfl) (by kernel_rfl) (by kernel_rfl) (fun _ _ _ h => h) (Or.inl ⟨by rfl, fun w hSw => by go_simp⟩) hHeld ?_
    try simp only [Act.put, List.setIfInBounds_toArray, List.set_cons_zero, List.set_cons_succ]
    refine takeN (i := 21) (oi := _) (v := .int .u32 (p4 : Int)) 30 rfl rfl (by kernel_rfl) (by kernel_rfl) (by kernel_rfl) (fun _ _ _ h => h) (Or.inl ⟨by rfl, fun w hSw => by have f4 := cell_of_row w q 4 _ _ _ hSw.2.1; go_simp⟩) hHeld ?_
    try simp only [Act.put, List.setIfInBounds_toArray, List.set_cons_zero, List.set_cons_succ]
    refine takeN (i := 22) (oi := _) (v := .int .u64 (p4 : Int)) 31 rfl rfl (by kernel_rfl) (by kernel_rfl) (by kernel_rfl) (fun _ _ _ h => h) (Or.inl ⟨by rfl, fun w hSw => by go_simp⟩) hHeld ?_
    try simp only [Act.put, List.setIfInBounds_toArray, List.set_cons_zero, List.set_cons_succ]
    refine takeN (i := 23) (oi := _) (v := .pointer (some ⟨q, 5, none⟩)) 32 rfl rfl (by kernel_rfl) (by kernel_rfl) (by kernel_rfl) (fun _ _ _ h => h) (Or.inl ⟨by rfl, fun w hSw => by go_simp⟩) hHeld ?_
    try simp only [Act.put, List.setIfInBounds_toArray, List.set_cons_zero, List.set_cons_succ]
    refine takeN (i := 24) (oi := _) (v := .int .u32 (p5 : Int)) 33 rfl rfl (by kernel_rfl) (by kernel_rfl) (by kernel_rfl) (fun _ _ _ h => h) (Or.inl ⟨by rfl, fun w hSw => by have f5 := cell_of_row w q 5 _ _ _ hSw.2.1; go_simp⟩) hHeld ?_
    try simp only [Act.put, List.setIfInBounds_toArray, List.set_cons_zero, List.set_cons_succ]
    refine takeN (i := 25) (oi := _) (v := .int .u64 (p5 : Int)) 34 rfl rfl (by kernel_rfl) (by kernel_rfl) (by kernel_rfl) (fun _ _ _ h => h) (Or.inl ⟨by rfl, fun w hSw => by go_simp⟩) hHeld ?_
    try simp only [Act.put, List.setIfInBounds_toArray, List.set_cons_zero, List.set_cons_succ]
    refine takeN (i := 26) (oi := _) (v := .pointer (some ⟨b, 9, none⟩)) 35 rfl rfl (by kernel_rfl) (by kernel_rfl) (by kernel_rfl) (fun _ _ _ h => h) (Or.inl ⟨by rfl, fun w hSw => by go_simp⟩) hHeld ?_
    try simp only [Act.put, List.setIfInBounds_toArray, List.set_cons_zero, List.set_cons_succ]
    refine takeN (i := 27) (oi := _) (v := .int .u32 (tp : Int)) 36 rfl rfl (by kernel_rfl) (by kernel_rfl) (by kernel_rfl) (fun _ _ _ h => h) (Or.inl ⟨by rfl, fun w hSw => by have f9 := cell_of_row w b 9 _ _ _ hSw.1; go_simp⟩) hHeld ?_
    try simp only [Act.put, List.setIfInBounds_toArray, List.set_cons_zero, List.set_cons_succ]
    refine takeN (i := 28) (oi := _) (v := .int .u64 (tp : Int)) 37 rfl rfl (by kernel_rfl) (by kernel_rfl) (by kernel_rfl) (fun _ _ _ h => h) (Or.inl ⟨by rfl, fun w hSw => by go_simp⟩) hHeld ?_
    try simp only [Act.put, List.setIfInBounds_toArray, List.set_cons_zero, List.set_cons_succ]
    refine takeN (i := 29) (oi := _) (v := .pointer (some ⟨b, 10, none⟩)) 38 rfl rfl (by kernel_rfl) (by kernel_rfl) (by kernel_rfl) (fun _ _ _ h => h) (Or.inl ⟨by rfl, fun w hSw => by go_simp⟩) hHeld ?_
    try simp only [Act.put, List.setIfInBounds_toArray, List.set_cons_zero, List.set_cons_succ]
    refine takeN (i := 30) (oi := _) (v := .int .u32 (ba : Int)) 39 rfl rfl (by kernel_rfl) (by kernel_rfl) (by kernel_rfl) (fun _ _ _ h => h) (Or.inl ⟨by rfl, fun w hSw => by have f10 := cell_of_row w b 10 _ _ _ hSw.1; go_simp⟩) hHeld ?_
    try simp only [Act.put, List.setIfInBounds_toArray, List.set_cons_zero, List.set_cons_succ]
    refine takeN (i := 31) (oi := _) (v := .int .u64 (ba : Int)) 40 rfl rfl (by kernel_rfl) (by kernel_rfl) (by kernel_rfl) (fun _ _ _ h => h) (Or.inl ⟨by rfl, fun w hSw => by go_simp⟩) hHeld ?_
    try simp only [Act.put, List.setIfInBounds_toArray, List.set_cons_zero, List.set_cons_succ]
    refine takeN (i := 32) (oi := _) (v := .pointer (some ⟨b, 11, none⟩)) 41 rfl rfl (by kernel_rfl) (by kernel_rfl) (by kernel_rfl) (fun _ _ _ h => h) (Or.inl ⟨by rfl, fun w hSw => by go_simp⟩) hHeld ?_
    try simp only [Act.put, List.setIfInBounds_toArray, List.set_cons_zero, List.set_cons_succ]
    refine takeN (i := 33) (oi := _) (v := .int .u32 (sg : Int)) 42 rfl rfl (by kernel_rfl) (by kernel_rfl) (by kernel_rfl) (fun _ _ _ h => h) (Or.inl ⟨by rfl, fun w hSw => by have f11 := cell_of_row w b 11 _ _ _ hSw.1; go_simp⟩) hHeld ?_
    try simp only [Act.put, List.setIfInBounds_toArray, List.set_cons_zero, List.set_cons_succ]
    refine takeN (i := 34) (oi := _) (v := .int .u64 (sg : Int)) 43 rfl rfl (by kernel_rfl) (by kernel_rfl) (by kernel_rfl) (fun _ _ _ h => h) (Or.inl ⟨by rfl, fun w hSw => by go_simp⟩) hHeld ?_
    try simp only [Act.put, List.setIfInBounds_toArray, List.set_cons_zero, List.set_cons_succ]
    refine takeN (i := 35) (oi := _) (v := .pointer (some ⟨b, 12, none⟩)) 44 rfl rfl (by kernel_rfl) (by kernel_rfl) (by kernel_rfl) (fun _ _ _ h => h) (Or.inl ⟨by rfl, fun w hSw => by go_simp⟩) hHeld ?_
    try simp only [Act.put, List.setIfInBounds_toArray, List.set_cons_zero, List.set_cons_succ]
    refine takeN (i := 36) (oi := _) (v := .int .i64 (cu : Int)) 45 rfl rfl (by kernel_rfl) (by kernel_rfl) (by kernel_rfl) (fun _ _ _ h => h) (Or.inl ⟨by rfl, fun w hSw => by have f12 := cell_of_row w b 12 _ _ _ hSw.1; go_simp⟩) hHeld ?_
    try simp only [Act.put, List.setIfInBounds_toArray, List.set_cons_zero, List.set_cons_succ]
    refine takeN (i := 37) (oi := _) (v := .int .u64 (cu : Int)) 46 rfl rfl (by kernel_rfl) (by kernel_rfl) (by kernel_rfl) (fun _ _ _ h => h) (Or.inl ⟨by rfl, fun w hSw => by go_simp⟩) hHeld ?_
    try simp only [Act.put, List.setIfInBounds_toArray, List.set_cons_zero, List.set_cons_succ]
    refine takeN (i := 38) (oi := _) (v := .pointer (some ⟨r, 0, none⟩)) 47 rfl rfl (by kernel_rfl) (by kernel_rfl) (by kernel_rfl) (fun _ _ _ h => h) (Or.inl ⟨by rfl, fun w hSw => by go_simp⟩) hHeld ?_
    try simp only [Act.put, List.setIfInBounds_toArray, List.set_cons_zero, List.set_cons_succ]
    refine takeN (i := 39) (oi := _) (v := .int .u64 (ep : Int)) 48 rfl rfl (by kernel_rfl) (by kernel_rfl) (by kernel_rfl) (fun _ _ _ h => h) (Or.inl ⟨by rfl, fun w hSw => by have f0 := cell_of_row w r 0 _ _ _ hSw.2.2.1; go_simp⟩) hHeld ?_
    try simp only [Act.put, List.setIfInBounds_toArray, List.set_cons_zero, List.set_cons_succ]
    refine takeN (i := 40) (oi := _) (v := .pointer (some ⟨r, 1, none⟩)) 49 rfl rfl (by kernel_rfl) (by kernel_rfl) (by kernel_rfl) (fun _ _ _ h => h) (Or.inl ⟨by rfl, fun w hSw => by go_simp⟩) hHeld ?_
    try simp only [Act.put, List.setIfInBounds_toArray, List.set_cons_zero, List.set_cons_succ]
    refine takeN (i := 41) (oi := _) (v := .int .u64 (la : Int)) 50 rfl rfl (by kernel_rfl) (by kernel_rfl) (by kernel_rfl) (fun _ _ _ h => h) (Or.inl ⟨by rfl, fun w hSw => by have f1 := cell_of_row w r 1 _ _ _ hSw.2.2.1; go_simp⟩) hHeld ?_
    try simp only [Act.put, List.setIfInBounds_toArray, List.set_cons_zero, List.set_cons_succ]
    refine takeN (i := 42) (oi := _) (v := .pointer (some ⟨r, 2, none⟩)) 51 rfl rfl (by kernel_rfl) (by kernel_rfl) (by kernel_rfl) (fun _ _ _ h => h) (Or.inl ⟨by rfl, fun w hSw => by go_simp⟩) hHeld ?_
    try simp only [Act.put, List.setIfInBounds_toArray, List.set_cons_zero, List.set_cons_succ]
    refine takeN (i := 43) (oi := _) (v := .int .u64 (sq : Int)) 52 rfl rfl (by kernel_rfl) (by kernel_rfl) (by kernel_rfl) (fun _ _ _ h => h) (Or.inl ⟨by rfl, fun w hSw => by have f2 := cell_of_row w r 2 _ _ _ hSw.2.2.1; go_simp⟩) hHeld ?_
    try simp only [Act.put, List.setIfInBounds_toArray, List.set_cons_zero, List.set_cons_succ]
    refine takeN (i := 44) (oi := _) (v := .pointer (some ⟨r, 3, none⟩)) 53 rfl rfl (by kernel_rfl) (by kernel_rfl) (by kernel_rfl) (fun _ _ _ h => h) (Or.inl ⟨by rfl, fun w hSw => by go_simp⟩) hHeld ?_
    try simp only [Act.put, List.setIfInBounds_toArray, List.set_cons_zero, List.set_cons_succ]
    refine takeN (i := 45) (oi := _) (v := .int .u64 (bl : Int)) 54 rfl rfl (by kernel_rfl) (by kernel_rfl) (by kernel_rfl) (fun _ _ _ h => h) (Or.inl ⟨by rfl, fun w hSw => by have f3 := cell_of_row w r 3 _ _ _ hSw.2.2.1; go_simp⟩) hHeld ?_
    try simp only [Act.put, List.setIfInBounds_toArray, List.set_cons_zero, List.set_cons_succ]
    refine takeN (i := 46) (oi := _) (v := .pointer (some ⟨r, 4, none⟩)) 55 rfl rfl (by kernel_rfl) (by kernel_rfl) (by kernel_rfl) (fun _ _ _ h => h) (Or.inl ⟨by rfl, fun w hSw => by go_simp⟩) hHeld ?_
    try simp only [Act.put, List.setIfInBounds_toArray, List.set_cons_zero, List.set_cons_succ]
    refine takeN (i := 47) (oi := _) (v := .int .u64 (bs : Int)) 56 rfl rfl (by kernel_rfl) (by kernel_rfl) (by kernel_rfl) (fun _ _ _ h => h) (Or.inl ⟨by rfl, fun w hSw => by have f4 := cell_of_row w r 4 _ _ _ hSw.2.2.1; go_simp⟩) hHeld ?_
    try simp only [Act.put, List.setIfInBounds_toArray, List.set_cons_zero, List.set_cons_succ]
    refine takeN (i := 48) (oi := _) (v := .pointer (some ⟨r, 5, none⟩)) 57 rfl rfl (by kernel_rfl) (by kernel_rfl) (by kernel_rfl) (fun _ _ _ h => h) (Or.inl ⟨by rfl, fun w hSw => by go_simp⟩) hHeld ?_
    try simp only [Act.put, List.setIfInBounds_toArray, List.set_cons_zero, List.set_cons_succ]
    refine takeN (i := 49) (oi := _) (v := .bool mk) 58 rfl rfl (by kernel_rfl) (by kernel_rfl) (by kernel_rfl) (fun _ _ _ h => h) (Or.inl ⟨by rfl, fun w hSw => by have f5 := cell_of_row w r 5 _ _ _ hSw.2.2.1; go_simp⟩) hHeld ?_
    try simp only [Act.put, List.setIfInBounds_toArray, List.set_cons_zero, List.set_cons_succ]
    refine wpAnyH_ready (rs := [50]) (by kernel_rfl) (by simp) ?_
    refine AllReadyH.cons rfl (fun K hK => ?_) AllReadyH.nil
    go_simp
    go_wp2_with (first
      | (go_at_call 233; (with_reducible refine (bit_any _ _).mono ?_); rintro e wa ⟨rfl, rfl⟩)
      | fail)
    refine hK.out _ _ hHeld (fun hHeld => ?_)
    clear hK K
    try simp only [Act.put, List.setIfInBounds_toArray, List.set_cons_zero, List.set_cons_succ]
    refine takeN (i := 51) (oi := _) (v := .agg #[.int .u64 (tx : Int), .int .u64 (mt : Int), .int .u64 (dt : Int), .int .u64 (p0 : Int), .int .u64 (p1 : Int), .int .u64 (p2 : Int), .int .u64 (p3 : Int), .int .u64 (p4 : Int), .int .u64 (p5 : Int), .int .u64 (tp : Int), .int .u64 (ba : Int), .int .u64 (sg : Int), .int .u64 (cu : Int), .int .u64 (ep : Int), .int .u64 (la : Int), .int .u64 (sq : Int), .int .u64 (bl : Int), .int .u64 (bs : Int), .int .u64 ((bitN mk : Nat) : Int)]) 60 rfl rfl (by kernel_rfl) (by kernel_rfl) (by kernel_rfl) (fun _ _ _ h => h) (Or.inl ⟨by rfl, fun w hSw => by go_simp⟩) hHeld ?_
    try simp only [Act.put, List.setIfInBounds_toArray, List.set_cons_zero, List.set_cons_succ]
    have hend : Below w.heap.size w (wc.drew.setRow (b + 1) #[.int .u64 (tx : Int), .int .u64 (mt : Int), .int .u64 (dt : Int), .int .u64 (p0 : Int), .int .u64 (p1 : Int), .int .u64 (p2 : Int), .int .u64 (p3 : Int), .int .u64 (p4 : Int), .int .u64 (p5 : Int), .int .u64 (tp : Int), .int .u64 (ba : Int), .int .u64 (sg : Int), .int .u64 (cu : Int), .int .u64 (ep : Int), .int .u64 (la : Int), .int .u64 (sq : Int), .int .u64 (bl : Int), .int .u64 (bs : Int), .int .u64 ((bitN mk : Nat) : Int)]) := below_setRow hHeld.2.2.2 (by omega) _
    refine storeN (i := 52) (oi := _) 311 (.tmp 2) (.tmp 60) rfl (by kernel_rfl) (by rfl) rfl rfl (b + 1) #[.int .u64 (tx : Int), .int .u64 (mt : Int), .int .u64 (dt : Int), .int .u64 (p0 : Int), .int .u64 (p1 : Int), .int .u64 (p2 : Int), .int .u64 (p3 : Int), .int .u64 (p4 : Int), .int .u64 (p5 : Int), .int .u64 (tp : Int), .int .u64 (ba : Int), .int .u64 (sg : Int), .int .u64 (cu : Int), .int .u64 (ep : Int), .int .u64 (la : Int), .int .u64 (sq : Int), .int .u64 (bl : Int), .int .u64 (bs : Int), .int .u64 ((bitN mk : Nat) : Int)] rfl rfl 311 z HZD.out n19_size (by rw [hzs]; rfl) (by simp [Value.oneCell']) ⟨(setRow_other _ _ _ _ (by omega)).trans hHeld.1, (setRow_other _ _ _ _ (by omega)).trans hHeld.2.1, (setRow_other _ _ _ _ (by omega)).trans hHeld.2.2.1, hend⟩ (fun hHeld3 => ?_)
    refine wpAnyH_done (by kernel_rfl) ?_ _
    refine NoPanic.normal ?_
    go_wp2_with fail
    exact bodyPost_ret (results_cell_row rfl _ _ (b + 1) 311 #[.int .u64 (tx : Int), .int .u64 (mt : Int), .int .u64 (dt : Int), .int .u64 (p0 : Int), .int .u64 (p1 : Int), .int .u64 (p2 : Int), .int .u64 (p3 : Int), .int .u64 (p4 : Int), .int .u64 (p5 : Int), .int .u64 (tp : Int), .int .u64 (ba : Int), .int .u64 (sg : Int), .int .u64 (cu : Int), .int .u64 (ep : Int), .int .u64 (la : Int), .int .u64 (sq : Int), .int .u64 (bl : Int), .int .u64 (bs : Int), .int .u64 ((bitN mk : Nat) : Int)] (0, 0) _ rfl (setRow_heap _ _ _ _ _ _ HZD.out) Tryz.underlying311 rfl n19_size) rfl ⟨rfl, hend⟩
end Go.Proofs.YtoclhiaidbfheaaGreatDoor
