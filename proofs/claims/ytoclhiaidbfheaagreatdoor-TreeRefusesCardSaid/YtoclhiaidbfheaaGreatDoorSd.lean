/- super's May. -/
import Derived.Test.YtoclhiaidbfheaaGreatDoorSc
import Derived.ArgAppend
import Derived.Lib.AppendZeros
set_option linter.unusedVariables false
namespace Go.Proofs.YtoclhiaidbfheaaGreatDoor
open Go.RowKit

/-- may a superblock be? -/
def mayP (tx : Nat) (mt dt cu : Int) (ps : List Nat) : Prop := (16 ≤ mt ∧ mt ≤ 240 ∧ 1 ≤ dt ∧ dt ≤ 480) ∧ (∀ p ∈ ps, (p : Int) < mt) ∧ (1 ≤ tx ∧ tx ≤ 4611686018427387904) ∧ 0 ≤ cu ∧ cu < dt
instance (tx : Nat) (mt dt cu : Int) (ps : List Nat) : Decidable (mayP tx mt dt cu ps) := by unfold mayP; exact inferInstance
def mayS (tx : Nat) (mt dt cu : Int) (ps : List Nat) : Bool := decide (mayP tx mt dt cu ps)
theorem mayS_no {tx : Nat} {mt dt cu : Int} {ps : List Nat} (h : ¬ mayP tx mt dt cu ps) : mayS tx mt dt cu ps = false := decide_eq_false h
theorem mayS_yes {tx : Nat} {mt dt cu : Int} {ps : List Nat} (h : mayP tx mt dt cu ps) : mayS tx mt dt cu ps = true := decide_eq_true h
def nums32 (l : List Nat) : List Value := l.map fun n : Nat => .int .u32 (n : Int)
theorem appendN {P : Program} {ops : Array Oper} {Q : Exit → Act → World → Prop} {md : Region.Mode} {S : World → Prop} {i : Nat} {oi : Oper} {fuel : Nat} {listed : Array Bool} {a : Act} {w : World} (n : Nat) (s x : Operand) (t tn ty : TypeId) (hi : ops[i]? = some oi) (hrs : Region.ready md ops listed = [i]) (hw : Region.wanted oi (yielded ops a.tmps) = true)
    (ho : oi.op = .call { callee := .builtin .append, args := #[s, x], argTypes := #[t, tn] }) (hty : oi.type = ty) (hd : oi.dst = some n) (vs vx : Value) (hs : a.eval s = vs) (hx : a.eval x = vx)
    (v' : Value) (w' : World) (hr : (Builtin.append_ #[t, tn] ty #[vs, vx]).run P w = .ok v' w') (hS : S w') (h : S w' → wpAnyH P md ops Q S fuel (listed.setIfInBounds i true) (a.put (some n) v') w') : wpAnyH P md ops Q S (fuel + 1) listed a w := by
  refine wpAnyH_ready hrs (by simp) (AllReadyH.cons hi (fun K hK => ?_) AllReadyH.nil)
  rw [if_pos hw]
  refine Lib.wp_append_run _ s x t tn ho vs vx hs hx v' w' (by rw [hty]; exact hr) ?_
  rw [hd]
  exact hK.out _ _ hS h
theorem u32_info : (Tryz.prog.info? 22).map (fun i => (i.zero, i.size, i.bytes)) = some (some (.int .u32 0), 1, 4) := by kernel_rfl

set_option maxRecDepth 10000 in
set_option maxHeartbeats 4000000 in
theorem smay_any (w : World) (tx : Nat) (mt dt cu : Int) (p0 p1 p2 p3 p4 p5 tp ba sg ep la sq bl bs : Nat) (mk : Bool) (hb : p0 < 4294967296 ∧ p1 < 4294967296 ∧ p2 < 4294967296 ∧ p3 < 4294967296 ∧ p4 < 4294967296 ∧ p5 < 4294967296 ∧ tp < 4294967296 ∧ ba < 4294967296 ∧ sg < 4294967296) :
    Calls Tryz.prog 136 #[.agg #[.int .u64 (tx : Int), .int .i64 mt, .int .i64 dt, .int .u32 (p0 : Int), .int .u32 (p1 : Int), .int .u32 (p2 : Int), .int .u32 (p3 : Int), .int .u32 (p4 : Int), .int .u32 (p5 : Int), .int .u32 (tp : Int), .int .u32 (ba : Int), .int .u32 (sg : Int), .int .i64 cu, .int .u64 (ep : Int), .int .u64 (la : Int), .int .u64 (sq : Int), .int .u64 (bl : Int), .int .u64 (bs : Int), .bool mk]] w fun e w' => e = .returned (.bool (mayS tx mt dt cu [p0, p1, p2, p3, p4, p5, tp, ba, sg])) ∧ Below w.heap.size w w' := by
  have HBX : Hid (Below w.heap.size w (w.alloc (.cells #[.int .u64 (tx : Int), .int .i64 mt, .int .i64 dt, .int .u32 (p0 : Int), .int .u32 (p1 : Int), .int .u32 (p2 : Int), .int .u32 (p3 : Int), .int .u32 (p4 : Int), .int .u32 (p5 : Int), .int .u32 (tp : Int), .int .u32 (ba : Int), .int .u32 (sg : Int), .int .i64 cu, .int .u64 (ep : Int), .int .u64 (la : Int), .int .u64 (sq : Int), .int .u64 (bl : Int), .int .u64 (bs : Int), .bool mk] 144))) := (Below.refl _ _).alloc (Nat.le_refl _) _
  by_cases c1 : mt < 16
  · have hno := Lib.hid (mayS_no (tx := tx) (mt := mt) (dt := dt) (cu := cu) (ps := [p0, p1, p2, p3, p4, p5, tp, ba, sg]) (fun h => by have := h.1.1; omega))
    clear hb
    go_enter Tryz.func136, Tryz.ntmps136
    go_wp2_with fail
    go_ret
    exact ⟨by rw [hno.out]; rfl, HBX.out⟩
  have c1' : 16 ≤ mt := by omega
  by_cases c2 : 240 < mt
  · have hno := Lib.hid (mayS_no (tx := tx) (mt := mt) (dt := dt) (cu := cu) (ps := [p0, p1, p2, p3, p4, p5, tp, ba, sg]) (fun h => by have := h.1.2.1; omega))
    clear hb
    go_enter Tryz.func136, Tryz.ntmps136
    go_wp2_with fail
    go_ret
    exact ⟨by rw [hno.out]; rfl, HBX.out⟩
  have c2' : mt ≤ 240 := by omega
  by_cases c3 : dt < 1
  · have hno := Lib.hid (mayS_no (tx := tx) (mt := mt) (dt := dt) (cu := cu) (ps := [p0, p1, p2, p3, p4, p5, tp, ba, sg]) (fun h => by have := h.1.2.2.1; omega))
    clear hb
    go_enter Tryz.func136, Tryz.ntmps136
    go_wp2_with fail
    go_ret
    exact ⟨by rw [hno.out]; rfl, HBX.out⟩
  have c3' : 1 ≤ dt := by omega
  by_cases c4 : 480 < dt
  · have hno := Lib.hid (mayS_no (tx := tx) (mt := mt) (dt := dt) (cu := cu) (ps := [p0, p1, p2, p3, p4, p5, tp, ba, sg]) (fun h => by have := h.1.2.2.2; omega))
    clear hb
    go_enter Tryz.func136, Tryz.ntmps136
    go_wp2_with fail
    go_ret
    exact ⟨by rw [hno.out]; rfl, HBX.out⟩
  have c4' : dt ≤ 480 := by omega
  clear c1 c2 c3 c4
  obtain ⟨m, rfl⟩ := Int.eq_ofNat_of_zero_le (show 0 ≤ mt by omega)
  obtain ⟨d, rfl⟩ := Int.eq_ofNat_of_zero_le (show 0 ≤ dt by omega)
  obtain ⟨i0, hi0, hz0, hz1, hz2⟩ := info_parts u32_info
  go_enter Tryz.func136, Tryz.ntmps136
  go_upto_region 3 with fail
  have H0 : Hid ((w.alloc (.cells #[.int .u64 (tx : Int), .int .i64 (m : Int), .int .i64 (d : Int), .int .u32 (p0 : Int), .int .u32 (p1 : Int), .int .u32 (p2 : Int), .int .u32 (p3 : Int), .int .u32 (p4 : Int), .int .u32 (p5 : Int), .int .u32 (tp : Int), .int .u32 (ba : Int), .int .u32 (sg : Int), .int .i64 cu, .int .u64 (ep : Int), .int .u64 (la : Int), .int .u64 (sq : Int), .int .u64 (bl : Int), .int .u64 (bs : Int), .bool mk] 144)).heap[w.heap.size]? = some (.cells #[.int .u64 (tx : Int), .int .i64 (m : Int), .int .i64 (d : Int), .int .u32 (p0 : Int), .int .u32 (p1 : Int), .int .u32 (p2 : Int), .int .u32 (p3 : Int), .int .u32 (p4 : Int), .int .u32 (p5 : Int), .int .u32 (tp : Int), .int .u32 (ba : Int), .int .u32 (sg : Int), .int .i64 cu, .int .u64 (ep : Int), .int .u64 (la : Int), .int .u64 (sq : Int), .int .u64 (bl : Int), .int .u64 (bs : Int), .bool mk] 144 (0, 0))) := heap_alloc_new w _
  generalize w.alloc (.cells #[.int .u64 (tx : Int), .int .i64 (m : Int), .int .i64 (d : Int), .int .u32 (p0 : Int), .int .u32 (p1 : Int), .int .u32 (p2 : Int), .int .u32 (p3 : Int), .int .u32 (p4 : Int), .int .u32 (p5 : Int), .int .u32 (tp : Int), .int .u32 (ba : Int), .int .u32 (sg : Int), .int .i64 cu, .int .u64 (ep : Int), .int .u64 (la : Int), .int .u64 (sq : Int), .int .u64 (bl : Int), .int .u64 (bs : Int), .bool mk] 144) = w1 at *
  generalize hbq : w.heap.size = b at *
  refine wp_region_noPanic ?_
  refine wp_region_held_drew (S := fun W => W.heap[b]? = some (.cells #[.int .u64 (tx : Int), .int .i64 (m : Int), .int .i64 (d : Int), .int .u32 (p0 : Int), .int .u32 (p1 : Int), .int .u32 (p2 : Int), .int .u32 (p3 : Int), .int .u32 (p4 : Int), .int .u32 (p5 : Int), .int .u32 (tp : Int), .int .u32 (ba : Int), .int .u32 (sg : Int), .int .i64 cu, .int .u64 (ep : Int), .int .u64 (la : Int), .int .u64 (sq : Int), .int .u64 (bl : Int), .int .u64 (bs : Int), .bool mk] 144 (0, 0)) ∧ Below b w W) (by kernel_rfl) (⟨H0.out, by first | exact HBX.out.drew | (rw [← hbq]; exact HBX.out.drew)⟩) (fun hHeld => ?_)
  refine takeN (i := 0) (oi := _) (v := .pointer (some ⟨b, 3, none⟩)) 23 rfl rfl (by kernel_rfl) (by kernel_rfl) (by kernel_rfl) (fun _ _ _ h => h) (Or.inl ⟨by rfl, fun w hSw => by go_simp⟩) hHeld ?_
  try simp only [Act.put, List.setIfInBounds_toArray, List.set_cons_zero, List.set_cons_succ]
  refine takeN (i := 1) (oi := _) (v := .slice (some ⟨b, 3, none⟩) 6 6) 24 rfl rfl (by kernel_rfl) (by kernel_rfl) (by kernel_rfl) (fun _ _ _ h => h) (Or.inl ⟨by rfl, fun w hSw => by go_simp⟩) hHeld ?_
  try simp only [Act.put, List.setIfInBounds_toArray, List.set_cons_zero, List.set_cons_succ]
  refine takeN (i := 2) (oi := _) (v := .pointer (some ⟨b, 9, none⟩)) 25 rfl rfl (by kernel_rfl) (by kernel_rfl) (by kernel_rfl) (fun _ _ _ h => h) (Or.inl ⟨by rfl, fun w hSw => by go_simp⟩) hHeld ?_
  try simp only [Act.put, List.setIfInBounds_toArray, List.set_cons_zero, List.set_cons_succ]
  refine takeN (i := 3) (oi := _) (v := .int .u32 (tp : Int)) 26 rfl rfl (by kernel_rfl) (by kernel_rfl) (by kernel_rfl) (fun _ _ _ h => h) (Or.inl ⟨by rfl, fun w hSw => by have f9 := cell_of_row w b 9 _ _ _ hSw.1; go_simp⟩) hHeld ?_
  try simp only [Act.put, List.setIfInBounds_toArray, List.set_cons_zero, List.set_cons_succ]
  refine takeN (i := 4) (oi := _) (v := .pointer (some ⟨b, 10, none⟩)) 27 rfl rfl (by kernel_rfl) (by kernel_rfl) (by kernel_rfl) (fun _ _ _ h => h) (Or.inl ⟨by rfl, fun w hSw => by go_simp⟩) hHeld ?_
  try simp only [Act.put, List.setIfInBounds_toArray, List.set_cons_zero, List.set_cons_succ]
  refine takeN (i := 5) (oi := _) (v := .int .u32 (ba : Int)) 28 rfl rfl (by kernel_rfl) (by kernel_rfl) (by kernel_rfl) (fun _ _ _ h => h) (Or.inl ⟨by rfl, fun w hSw => by have f10 := cell_of_row w b 10 _ _ _ hSw.1; go_simp⟩) hHeld ?_
  try simp only [Act.put, List.setIfInBounds_toArray, List.set_cons_zero, List.set_cons_succ]
  refine takeN (i := 6) (oi := _) (v := .pointer (some ⟨b, 11, none⟩)) 29 rfl rfl (by kernel_rfl) (by kernel_rfl) (by kernel_rfl) (fun _ _ _ h => h) (Or.inl ⟨by rfl, fun w hSw => by go_simp⟩) hHeld ?_
  try simp only [Act.put, List.setIfInBounds_toArray, List.set_cons_zero, List.set_cons_succ]
  refine takeN (i := 7) (oi := _) (v := .int .u32 (sg : Int)) 30 rfl rfl (by kernel_rfl) (by kernel_rfl) (by kernel_rfl) (fun _ _ _ h => h) (Or.inl ⟨by rfl, fun w hSw => by have f11 := cell_of_row w b 11 _ _ _ hSw.1; go_simp⟩) hHeld ?_
  try simp only [Act.put, List.setIfInBounds_toArray, List.set_cons_zero, List.set_cons_succ]
  refine takeN (i := 11) (oi := _) (v := .int .i64 0) 34 rfl rfl (by kernel_rfl) (by kernel_rfl) (by kernel_rfl) (fun _ _ _ h => h) (Or.inl ⟨by rfl, fun w hSw => by go_simp⟩) hHeld ?_
  try simp only [Act.put, List.setIfInBounds_toArray, List.set_cons_zero, List.set_cons_succ]
  refine wpAnyH_ready (rs := [8]) (by kernel_rfl) (by simp) ?_
  refine AllReadyH.cons rfl (fun K hK => ?_) AllReadyH.nil
  go_simp
  have hgb : b < w1.heap.size := (Array.getElem?_eq_some_iff.1 H0.out).1
  have hN1 : ((w1.alloc (.cells #[.int .u32 (tp : Int), .int .u32 (ba : Int), .int .u32 (sg : Int)] 22)).drew).heap[w1.heap.size]? = some (.cells #[.int .u32 (tp : Int), .int .u32 (ba : Int), .int .u32 (sg : Int)] 22 (0, 0)) := heap_alloc_new w1 _
  refine hK.out _ _ ⟨heap_alloc' H0.out, (HBX.out.alloc (by omega) _).drew⟩ (fun hHeld2 => ?_)
  clear hK K
  try simp only [Act.put, List.setIfInBounds_toArray, List.set_cons_zero, List.set_cons_succ]
  generalize (w1.alloc (.cells #[.int .u32 (tp : Int), .int .u32 (ba : Int), .int .u32 (sg : Int)] 22)).drew = w2 at *
  generalize w1.heap.size = g at *
  obtain ⟨v3, w3, hr, hown, hgr⟩ := run_append_arg_grows (P := Tryz.prog) (ty := 37) w2 37 22 i0 _ 1 4 Tryz.underlying37 hi0 hz0 hz1 hz2 rfl (by omega) ⟨b, 3, none⟩ 6 6 (nums32 [p0, p1, p2, p3, p4, p5]) rfl (fun j u hu => by
      have hadd : (⟨b, 3, none⟩ : Addr).add j = ⟨b, 3 + j, none⟩ := by unfold Addr.add; split <;> simp_all
      rw [hadd, cell_of_row w2 b (3 + j) _ _ _ hHeld2.1]
      rcases j with _ | _ | _ | _ | _ | _ | j <;> simp_all [nums32]) ⟨g, 0, none⟩ 3 3 (nums32 [tp, ba, sg]) rfl (fun j u hu => by
      have hadd : (⟨g, 0, none⟩ : Addr).add j = ⟨g, j, none⟩ := by unfold Addr.add; split <;> simp_all
      rw [hadd, cell_of_row w2 g j _ _ _ hN1]
      rcases j with _ | _ | _ | j <;> simp_all [nums32]) (by omega) (by unfold maxLen; omega) (by omega)
  have hown9 : w3.ownsRow w2.heap.size 22 1 v3 9 (nums32 [p0, p1, p2, p3, p4, p5, tp, ba, sg]) := hown
  obtain ⟨g3, c3, rfl⟩ := Joins.ownsRow_form hown9 (by omega)
  have hb2 : b < w2.heap.size := (Array.getElem?_eq_some_iff.1 hHeld2.1).1
  have hB3 : w3.heap[b]? = some (.cells #[.int .u64 (tx : Int), .int .i64 (m : Int), .int .i64 (d : Int), .int .u32 (p0 : Int), .int .u32 (p1 : Int), .int .u32 (p2 : Int), .int .u32 (p3 : Int), .int .u32 (p4 : Int), .int .u32 (p5 : Int), .int .u32 (tp : Int), .int .u32 (ba : Int), .int .u32 (sg : Int), .int .i64 cu, .int .u64 (ep : Int), .int .u64 (la : Int), .int .u64 (sq : Int), .int .u64 (bl : Int), .int .u64 (bs : Int), .bool mk] 144 (0, 0)) := (hgr.block b hb2 (by simp)).trans hHeld2.1
  have hL3 : Below b w w3 := hHeld2.2.grown hgr (by omega) (by simp)
  refine appendN (i := 9) (oi := _) 32 (.tmp 24) (.tmp 31) 37 37 37 rfl (by kernel_rfl) (by rfl) rfl rfl rfl _ _ rfl rfl _ _ hr ⟨hB3, hL3⟩ (fun hHeld => ?_)
  clear hr
  try simp only [Act.put, List.setIfInBounds_toArray, List.set_cons_zero, List.set_cons_succ]
  refine takeN (i := 10) (oi := _) (v := .int .i64 9) 33 rfl rfl (by kernel_rfl) (by kernel_rfl) (by kernel_rfl) (fun _ _ _ h => h) (Or.inl ⟨by rfl, fun w hSw => by go_simp⟩) hHeld ?_
  try simp only [Act.put, List.setIfInBounds_toArray, List.set_cons_zero, List.set_cons_succ]
  refine wpAnyH_done (by kernel_rfl) ?_ _
  refine NoPanic.normal ?_
  have HW3 := Lib.hid hown9
  have HL3 := Lib.hid hL3
  have cm : w3.cell? ⟨b, 1, none⟩ = some (.int .i64 (m : Int)) := by rw [cell_of_row w3 b 1 _ _ _ hB3]; rfl
  have ct : w3.cell? ⟨b, 0, none⟩ = some (.int .u64 (tx : Int)) := by rw [cell_of_row w3 b 0 _ _ _ hB3]; rfl
  have cd : w3.cell? ⟨b, 2, none⟩ = some (.int .i64 (d : Int)) := by rw [cell_of_row w3 b 2 _ _ _ hB3]; rfl
  have cc : w3.cell? ⟨b, 12, none⟩ = some (.int .i64 cu) := by rw [cell_of_row w3 b 12 _ _ _ hB3]; rfl
  have hwm : IntKind.u32.wrap (m : Int) = (m : Int) := by rw [IntKind.wrap_u32]; omega
  clear hown hown9 hgr hB3 hL3 hHeld hHeld2 hN1 H0 HBX hb
  generalize hps : [p0, p1, p2, p3, p4, p5, tp, ba, sg] = ps at *
  have hpl : ps.length = 9 := by rw [← hps]; rfl
  have HPS := Lib.hid hps
  clear hps
  go_wp2_with fail
  go_loopw [34, 4] (fun j x wr => ∃ i : Nat, i ≤ 9 ∧ j = .int .i64 (i : Int) ∧ wr = w3 ∧ Hid (∀ k, k < i → ps.getD k 0 < m)) (fun j _ _ => 9 - (intOf j).toNat)
  case atStart => exact ⟨0, by omega, rfl, rfl, fun k hk => by omega⟩
  case round =>
    obtain ⟨i, hi, rfl, rfl, HR⟩ := hrel
    by_cases hlt : i < 9
    · have hcell : wr.cell? ⟨g3, i, none⟩ = some (.int .u32 ((ps.getD i 0 : Nat) : Int)) := by
        rw [HW3.out.cellAt i (by omega)]
        simp [nums32, List.getD, hpl, hlt]
      have hltI : (i : Int) < 9 := by omega
      have HGI : Hid (ps.getD i 0 ∈ ps) := (show ps.getD i 0 ∈ ps by simp [List.getD, hpl, hlt])
      have hnx : ∀ x, ps.getD i 0 = x → x < m → ∀ k, k < i + 1 → ps.getD k 0 < m := fun x hx hxm k hk => by
        by_cases e : k = i
        · subst e; omega
        · exact HR.out k (by omega)
      have HNX := Lib.hid hnx
      clear hnx
      generalize hx : ps.getD i 0 = x at *
      by_cases hxm : m ≤ x
      · have hno := Lib.hid (mayS_no (tx := tx) (mt := (m : Int)) (dt := (d : Int)) (cu := cu) (ps := ps) (fun h => by have := h.2.1 x HGI.out; omega))
        have hd : decide ((m : Int) ≤ (x : Int)) = true := by simp; omega
        have hdI : (m : Int) ≤ (x : Int) := by omega
        clear hx
        go_wp2_with fail
        go_ret
        exact ⟨by rw [HPS.out, hno.out]; rfl, by first | exact HL3.out | (rw [hbq]; exact HL3.out)⟩
      · have hd : decide ((m : Int) ≤ (x : Int)) = false := by simp; omega
        have hdI : ¬ (m : Int) ≤ (x : Int) := by omega
        have HN := Lib.hid (HNX.out x rfl (by omega))
        clear hx
        go_wp2_with fail
        go_roundw
        case rel => exact ⟨i + 1, by omega, by go_num, trivial, HN⟩
        case measure => simp [intOf]; omega
    · obtain rfl : i = 9 := by omega
      have hall : ∀ p ∈ ps, (p : Int) < (m : Int) := fun p hp => by
        obtain ⟨k, hk, e⟩ := List.getElem_of_mem hp
        have := HR.out k (by omega)
        simp [List.getD, hk] at this
        rw [e] at this
        omega
      have HA := Lib.hid hall
      clear hall
      by_cases t1 : 1 ≤ tx
      · by_cases t2 : tx ≤ 4611686018427387904
        · by_cases t3 : 0 ≤ cu
          · by_cases t4 : cu < (d : Int)
            · have hyes := Lib.hid (mayS_yes (tx := tx) (mt := (m : Int)) (dt := (d : Int)) (cu := cu) (ps := ps) ⟨⟨by omega, by omega, by omega, by omega⟩, HA.out, ⟨t1, t2⟩, t3, t4⟩)
              go_wp2_with fail
              go_ret
              exact ⟨by rw [HPS.out, hyes.out]; rfl, by first | exact HL3.out | (rw [hbq]; exact HL3.out)⟩
            · have hno := Lib.hid (mayS_no (tx := tx) (mt := (m : Int)) (dt := (d : Int)) (cu := cu) (ps := ps) (fun h => t4 h.2.2.2.2))
              go_wp2_with fail
              go_ret
              exact ⟨by rw [HPS.out, hno.out]; rfl, by first | exact HL3.out | (rw [hbq]; exact HL3.out)⟩
          · have hno := Lib.hid (mayS_no (tx := tx) (mt := (m : Int)) (dt := (d : Int)) (cu := cu) (ps := ps) (fun h => t3 h.2.2.2.1))
            go_wp2_with fail
            go_ret
            exact ⟨by rw [HPS.out, hno.out]; rfl, by first | exact HL3.out | (rw [hbq]; exact HL3.out)⟩
        · have hno := Lib.hid (mayS_no (tx := tx) (mt := (m : Int)) (dt := (d : Int)) (cu := cu) (ps := ps) (fun h => t2 h.2.2.1.2))
          have t2I : ¬ (tx : Int) ≤ 4611686018427387904 := by omega
          go_wp2_with fail
          go_ret
          exact ⟨by rw [HPS.out, hno.out]; rfl, by first | exact HL3.out | (rw [hbq]; exact HL3.out)⟩
      · have hno := Lib.hid (mayS_no (tx := tx) (mt := (m : Int)) (dt := (d : Int)) (cu := cu) (ps := ps) (fun h => t1 h.2.2.1.1))
        have t1I : ¬ (1 : Int) ≤ (tx : Int) := by omega
        go_wp2_with fail
        go_ret
        exact ⟨by rw [HPS.out, hno.out]; rfl, by first | exact HL3.out | (rw [hbq]; exact HL3.out)⟩
end Go.Proofs.YtoclhiaidbfheaaGreatDoor
