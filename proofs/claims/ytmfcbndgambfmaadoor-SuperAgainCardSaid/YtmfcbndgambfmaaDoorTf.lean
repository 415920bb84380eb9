/- Load. -/
import Derived.Test.YtmfcbndgambfmaaDoorTd
set_option linter.unusedVariables false
namespace Go.Proofs.YtmfcbndgambfmaaDoor.Q
open Go.RowKit

def zeroSU : SU := ⟨0, 0, 0, 0, 0, 0, 0, 0, 0, 0, 0, 0, 0, 0, 0, 0, 0, 0, false⟩
theorem zeroSU_cells : zeroSU.cells = zeroSC := rfl
theorem zeroSU_fits : zeroSU.fits := ⟨by decide, by decide, by decide⟩
/-- the better one -/
def takeS (best : SU) (l : List UInt8) (slot : Nat) : Bool := superOfB l && (numAt l 0 % 2 == slot) && decide (best.tx < numAt l 0)
def nextS (best : SU) (l : List UInt8) (slot : Nat) : SU := match takeS best l slot with | true => blkS l | false => best
def bestN (d : RD) : Nat → SU
  | 0 => zeroSU
  | i + 1 => nextS (bestN d i) (blkAt d i) i
def loadS (d : RD) : SU := bestN d 2
def ldE (d : RD) : Int := if (loadS d).tx = 0 then 6 else 0
theorem nextS_fits {best : SU} (h : best.fits) (l : List UInt8) (slot : Nat) : (nextS best l slot).fits := by
  unfold nextS
  cases takeS best l slot with
  | true => exact blkS_fits l
  | false => exact h
theorem bestN_fits (d : RD) : ∀ i, (bestN d i).fits
  | 0 => zeroSU_fits
  | i + 1 => nextS_fits (bestN_fits d i) _ _
theorem cellsS_all (s : SU) : s.cells.all (·.oneCell') = true := by simp [SU.cells, Value.oneCell']
theorem sup_info (s : SU) : (Tryd.prog.info? 36).map (·.size) = some s.cells.size := by
  rw [show s.cells.size = 19 from rfl]; kernel_rfl
theorem bestN_zero (d : RD) : ∀ i, (bestN d i).tx = 0 → bestN d i = zeroSU
  | 0, _ => rfl
  | i + 1, h => by
    have e : bestN d (i + 1) = nextS (bestN d i) (blkAt d i) i := rfl
    rw [e] at h ⊢
    unfold nextS at h ⊢
    cases ht : takeS (bestN d i) (blkAt d i) i with
    | true =>
      rw [ht] at h
      have h0 : numAt (blkAt d i) 0 = 0 := h
      unfold takeS at ht
      simp only [Bool.and_eq_true, decide_eq_true_eq] at ht
      omega
    | false =>
      rw [ht] at h
      exact bestN_zero d i h
/-- the boxes of Load -/
structure LL (w W : World) (s : SU) : Prop where
  n : W.heap[w.heap.size]? = some (.cells zeroSC 36 (0, 0))
  x : W.heap[w.heap.size + 1]? = some (.cells s.cells 36 (0, 0))
  bel : Below w.heap.size w W
theorem LL.below {w W W' : World} {s : SU} (h : LL w W s) (hb : Below W.heap.size W W') : LL w W' s :=
  ⟨(hb.block _ (Array.getElem?_eq_some_iff.1 h.n).1).trans h.n, (hb.block _ (Array.getElem?_eq_some_iff.1 h.x).1).trans h.x, h.bel.trans (hb.mono h.bel.size)⟩
theorem range_of {w : World} {b : Nat} {t : TypeId} {fr : Nat × Nat} {cs : Array Value} (h : w.heap[b]? = some (.cells cs t fr)) : w.rangeAt b 0 cs.toList := fun j u hu => by
  rw [Joins.cell_of_block h, Nat.zero_add, ← Array.getElem?_toList]; exact hu
theorem load_facts {w w2 w3 : World} {s : SU} {cl : List Value} {x : Value} (h0 : cl.toArray[0]? = some x) (hl : LL w (w2.alloc (.cells cl.toArray 36)) s) (hb : Below (w2.alloc (.cells cl.toArray 36)).heap.size (w2.alloc (.cells cl.toArray 36)) w3) :
    w3.heap[w2.heap.size]? = some (.cells cl.toArray 36 (0, 0)) ∧ LL w w3 s ∧ w3.cell? ⟨w2.heap.size, 0, none⟩ = some x ∧ w3.cell? ⟨w.heap.size + 1, 0, none⟩ = some (.int .u64 (s.tx : Int)) := by
  have hx := (hb.block _ (by simp)).trans (heap_alloc_new w2 (.cells cl.toArray 36))
  have hl3 := hl.below hb
  exact ⟨hx, hl3, by rw [Joins.cell_of_block hx]; exact h0, by rw [Joins.cell_of_block hl3.x]; rfl⟩
theorem LL.set {w W : World} {s t : SU} {cl : List Value} (h : LL w W s) (ht : t.cells = cl.toArray) : LL w (W.setRow (w.heap.size + 1) cl.toArray) t :=
  ⟨by rw [setRow_other W _ _ _ (by omega)]; exact h.n, by rw [ht]; exact setRow_heap W _ _ _ _ _ h.x, below_setRow h.bel (Nat.le_succ _) _⟩
theorem wpList_load_g {P : Program} {ops : Array Oper} {rest : List Oper} {op : Oper} {a : Act} {w : World} {Q : Exit → Act → World → Prop} (hw : Region.wanted op (yielded ops a.tmps) = true) (ty : TypeId) (x : Operand) (ho : op.op = .load ty x)
    (b o : Nat) (hx : a.eval x = .pointer (some ⟨b, o, none⟩)) (cs : List Value) (d : TypeDesc) (hc : w.rangeAt b o cs)
    (hu : P.underlying ty = some d) (hd : d.isRow = true) (hi : (P.info? ty).map (·.size) = some cs.length)
    (h : wpList P ops Q rest (a.put op.dst (.agg cs.toArray)) w) : wpList P ops Q (op :: rest) a w := by
  refine wpList_step ?_
  intro K hK
  rw [if_pos hw]
  exact wp_load_mid ty x ho b o hx cs d hc hu hd hi (hK _ _ h)
set_option maxRecDepth 100000 in
set_option maxHeartbeats 4000000 in
theorem load_any {w : World} {F : Nat → Prop} {b : Nat} {d : RD} (hT : Tabs w) (hW : Wids w) (h : PD w F b d) (h8 : 8 ≤ d.s.length) :
    Calls Tryd.prog 10 #[.pointer (some ⟨b, 0, none⟩)] w fun e w' => e = .returned (.tuple #[.agg (loadS d).cells, .int .i64 (ldE d)]) ∧ Below w.heap.size w w' := by
  have HTW : Hid (∀ W, Below w.heap.size w W → Tabs W ∧ Wids W) := Lib.hid (fun W hb => ⟨hT.below hb hT.size, hW.below hb hW.size⟩)
  have hhas : ∀ i : Nat, i < 2 → hasK d (i : Int) := fun i hi => ⟨by omega, by omega⟩
  have HRD := Lib.hid (fun (W : World) (hb : Below w.heap.size w W) (i : Nat) (hi : i < 2) => read_any' (h.below hb) i (hhas i hi))
  have hzs := sup_zero
  have hz2 := blk_zero
  have HL0 : Hid (LL w ((w.alloc (.cells zeroSC 36)).alloc (.cells zeroSC 36)) (bestN d 0)) := by
    have hn := heap_alloc_new (w.alloc (.cells zeroSC 36)) (.cells zeroSC 36)
    rw [World.size_alloc] at hn
    exact Lib.hid ⟨(Below.heap_alloc _ _ _ (by simp)).trans (heap_alloc_new w _), hn, (((Below.refl _ w).alloc (Nat.le_refl _) _).alloc (by simp) _)⟩
  clear hT hW h hhas
  go_enter Tryd.func10, Tryd.ntmps10
  go_wp2_with fail
  go_loopw [9] (fun j wr => ∃ i : Nat, i ≤ 2 ∧ j = .int .i64 (i : Int) ∧ Hid (LL w wr (bestN d i))) (fun j _ => 2 - (intOf j).toNat)
  case atStart => exact ⟨0, by omega, rfl, HL0.out⟩
  case round =>
    obtain ⟨i, hi, rfl, HLL⟩ := hrel
    by_cases hlt : i < 2
    · have hltI : (i : Int) < 2 := by omega
      have hrd := HRD.out wr HLL.out.bel i hlt
      have hl := blkAt_len d i
      have hbn : bestN d (i + 1) = nextS (bestN d i) (blkAt d i) i := rfl
      obtain ⟨l, hll⟩ : ∃ l, blkAt d i = l := ⟨_, rfl⟩
      rw [hll] at hrd hl hbn
      obtain ⟨s, hss⟩ : ∃ s, bestN d i = s := ⟨_, rfl⟩
      rw [hss] at hbn HLL
      have HRDI := Lib.hid hrd
      have HBN := Lib.hid hbn
      have hst := fun w => store_blk w noughts l noughts_len hl
      have hlc : (cells8 l).length = 256 := by rw [cells8_length, hl]
      have HG : Hid (∀ (w1 W : World), Below (w1.alloc (.cells (cells8 l).toArray 45)).heap.size (w1.alloc (.cells (cells8 l).toArray 45)) W → W.rangeAt w1.heap.size 0 (cells8 l)) := Lib.hid (fun w1 W hb j u hu => by
        rw [Joins.cell_of_block ((hb.block _ (by simp)).trans (heap_alloc_new w1 _)), List.getElem?_toArray, Nat.zero_add]; exact hu)
      have HOF : Hid (∀ W, Below w.heap.size w W → Calls Tryd.prog 22 #[.agg (cells8 l).toArray] W fun e w' => e = .returned (.tuple #[.agg (ofV (superOfB l) l), .int .i64 (ofE (superOfB l))]) ∧ Below W.heap.size W w') := Lib.hid (fun W hb => sof_any W (HTW.out W hb).1 (HTW.out W hb).2 l hl)
      clear hrd hll hss hbn
      cases ho : superOfB l with
      | false =>
        have hn : nextS s l i = s := by unfold nextS takeS; rw [ho]; rfl
        rw [hn] at HBN
        rw [ho] at HOF
        have e0 : ofE false = 4 := rfl
        have e1 : ofV false l = zeroSC := rfl
        rw [e0, e1] at HOF
        have hVst := fun w => store_sup w zeroSC rfl (by simp [zeroSC, Value.oneCell'])
        have hVs : zeroSC.size = 19 := rfl
        clear ho hn e0 e1
        go_wp2_with (first
          | (go_at_call 11; (with_reducible refine HRDI.out.mono ?_); rintro e w1 ⟨rfl, hb1⟩; have HB1 := Lib.hid (hb1.alloc hb1.size (.cells (cells8 l).toArray 45)); clear hb1)
          | refine wpList_load_mid rfl 45 (.tmp 6) rfl w1.heap.size 0 rfl (cells8 l) _ (HG.out _ _ (Below.refl _ _)) blk_u rfl (blk_sz l hl) ?_
          | (go_at_call 22; (with_reducible refine (HOF.out _ (HLL.out.below HB1.out).bel).mono ?_); rintro e w2 ⟨rfl, hb2⟩; have HB2 := Lib.hid hb2; clear hb2)
          | fail)
        exact ⟨⟨i + 1, hlt, by go_num, by rw [HBN.out]; exact (HLL.out.below HB1.out).below (HB2.out.alloc HB2.out.size _)⟩, by simp [intOf]; omega⟩
      | true =>
        rw [ho] at HOF
        have e0 : ofE true = 0 := rfl
        have e1 : ofV true l = (blkS l).cells := rfl
        rw [e0, e1] at HOF
        have htk : takeS s l i = (((blkS l).tx % 2 == i) && decide (s.tx < (blkS l).tx)) := by unfold takeS; rw [ho]; rfl
        have hn : nextS s l i = match takeS s l i with | true => blkS l | false => s := rfl
        have HFT := Lib.hid (blkS_fits l)
        obtain ⟨t, ht⟩ : ∃ t, blkS l = t := ⟨_, rfl⟩
        rw [ht] at HOF htk hn HFT
        have HSL := Lib.hid (fun W => slotOf_any W t HFT.out)
        obtain ⟨k, hk⟩ : ∃ k, t.tx % 2 = k := ⟨_, rfl⟩
        rw [hk] at HSL htk
        obtain ⟨cl, hcl⟩ : ∃ cl : List Value, t.cells = cl.toArray := ⟨t.cells.toList, by simp⟩
        have hVs : cl.length = 19 := by
          have : t.cells.size = 19 := rfl
          rw [hcl] at this
          simpa using this
        have hVst := fun w => store_sup w cl.toArray (by simpa using hVs) (by rw [← hcl]; exact cellsS_all t)
        simp only at hVst
        have H0 : Hid (cl.toArray[0]? = some (.int .u64 (t.tx : Int))) := Lib.hid (by rw [← hcl]; rfl)
        have HCL := Lib.hid hcl
        have HALL := Lib.hid (show cl.toArray.all (·.oneCell') = true by rw [← hcl]; exact cellsS_all t)
        have hinf : (Tryd.prog.info? 36).map (·.size) = some cl.length := by rw [hVs]; kernel_rfl
        have HRS : Hid (∀ w2 : World, (w2.alloc (.cells cl.toArray 36)).rangeAt w2.heap.size 0 cl) := Lib.hid (fun w2 => by
          have := range_of (heap_alloc_new w2 (.cells cl.toArray 36))
          simpa using this)
        rw [hcl] at HOF HSL
        obtain ⟨tx, htx⟩ : ∃ x, t.tx = x := ⟨_, rfl⟩
        rw [htx] at htk H0
        clear ho e0 e1 ht hk hcl htx HFT
        by_cases c1 : k = i
        · subst c1
          by_cases c2 : s.tx < tx
          · have c2I : (s.tx : Int) < (tx : Int) := by omega
            have HN : Hid (nextS s l k = t) := Lib.hid (by rw [hn, htk]; simp [c2])
            clear htk hn
            go_wp2_with (first
              | (go_at_call 11; (with_reducible refine HRDI.out.mono ?_); rintro e w1 ⟨rfl, hb1⟩; have HB1 := Lib.hid (hb1.alloc hb1.size (.cells (cells8 l).toArray 45)); clear hb1)
              | refine wpList_load_mid rfl 45 (.tmp 6) rfl w1.heap.size 0 rfl (cells8 l) _ (HG.out _ _ (Below.refl _ _)) blk_u rfl (blk_sz l hl) ?_
              | (go_at_call 22; (with_reducible refine (HOF.out _ (HLL.out.below HB1.out).bel).mono ?_); rintro e w2 ⟨rfl, hb2⟩; have HB2 := Lib.hid hb2; clear hb2)
              | (go_at_call 15; (with_reducible refine (HSL.out _).mono ?_); rintro e w3 ⟨rfl, hb3⟩; obtain ⟨hx3, hl3, hq1, hq2⟩ := load_facts H0.out ((HLL.out.below HB1.out).below (HB2.out.alloc HB2.out.size _)) hb3; have HL3 := Lib.hid hl3; have HX3 := Lib.hid hx3; clear hb3 hl3 hx3)
              | refine wpList_load_g (by rfl) 36 (.tmp 8) rfl w2.heap.size 0 rfl cl _ (HRS.out w2) Tryd.underlying36 rfl hinf ?_
              | refine wpList_load_mid rfl 36 (.tmp 8) rfl w2.heap.size 0 rfl cl _ (by have := range_of HX3.out; simpa using this) Tryd.underlying36 rfl hinf ?_
              | refine wpList_store_row rfl 36 (.tmp 4) (.tmp 42) rfl (w.heap.size + 1) cl.toArray rfl rfl 36 s.cells HL3.out.x (by rw [List.size_toArray]; exact hinf) (by show (19 : Nat) = cl.length; exact hVs.symm) HALL.out ?_
              | fail)
            exact ⟨⟨k + 1, hlt, by go_num, by rw [HBN.out, HN.out]; exact HL3.out.set HCL.out⟩, by simp [intOf]; omega⟩
          · have c2I : ¬ (s.tx : Int) < (tx : Int) := by omega
            have HN : Hid (nextS s l k = s) := Lib.hid (by rw [hn, htk]; simp [c2])
            clear htk hn
            go_wp2_with (first
              | (go_at_call 11; (with_reducible refine HRDI.out.mono ?_); rintro e w1 ⟨rfl, hb1⟩; have HB1 := Lib.hid (hb1.alloc hb1.size (.cells (cells8 l).toArray 45)); clear hb1)
              | refine wpList_load_mid rfl 45 (.tmp 6) rfl w1.heap.size 0 rfl (cells8 l) _ (HG.out _ _ (Below.refl _ _)) blk_u rfl (blk_sz l hl) ?_
              | (go_at_call 22; (with_reducible refine (HOF.out _ (HLL.out.below HB1.out).bel).mono ?_); rintro e w2 ⟨rfl, hb2⟩; have HB2 := Lib.hid hb2; clear hb2)
              | (go_at_call 15; (with_reducible refine (HSL.out _).mono ?_); rintro e w3 ⟨rfl, hb3⟩; obtain ⟨hx3, hl3, hq1, hq2⟩ := load_facts H0.out ((HLL.out.below HB1.out).below (HB2.out.alloc HB2.out.size _)) hb3; have HL3 := Lib.hid hl3; have HX3 := Lib.hid hx3; clear hb3 hl3 hx3)
              | refine wpList_load_g (by rfl) 36 (.tmp 8) rfl w2.heap.size 0 rfl cl _ (HRS.out w2) Tryd.underlying36 rfl hinf ?_
              | fail)
            exact ⟨⟨k + 1, hlt, by go_num, by rw [HBN.out, HN.out]; exact HL3.out⟩, by simp [intOf]; omega⟩
        · have c1b : ((k : Int) == (i : Int)) = false := by rw [beq_eq_false_iff_ne]; omega
          have HN : Hid (nextS s l i = s) := Lib.hid (by
            rw [hn, htk, show (k == i) = false by simpa using c1]
            rfl)
          clear htk hn
          go_wp2_with (first
            | (go_at_call 11; (with_reducible refine HRDI.out.mono ?_); rintro e w1 ⟨rfl, hb1⟩; have HB1 := Lib.hid (hb1.alloc hb1.size (.cells (cells8 l).toArray 45)); clear hb1)
            | refine wpList_load_mid rfl 45 (.tmp 6) rfl w1.heap.size 0 rfl (cells8 l) _ (HG.out _ _ (Below.refl _ _)) blk_u rfl (blk_sz l hl) ?_
            | (go_at_call 22; (with_reducible refine (HOF.out _ (HLL.out.below HB1.out).bel).mono ?_); rintro e w2 ⟨rfl, hb2⟩; have HB2 := Lib.hid hb2; clear hb2)
            | (go_at_call 15; (with_reducible refine (HSL.out _).mono ?_); rintro e w3 ⟨rfl, hb3⟩; obtain ⟨hx3, hl3, hq1, hq2⟩ := load_facts H0.out ((HLL.out.below HB1.out).below (HB2.out.alloc HB2.out.size _)) hb3; have HL3 := Lib.hid hl3; have HX3 := Lib.hid hx3; clear hb3 hl3 hx3)
            | refine wpList_load_g (by rfl) 36 (.tmp 8) rfl w2.heap.size 0 rfl cl _ (HRS.out w2) Tryd.underlying36 rfl hinf ?_
            | fail)
          exact ⟨⟨i + 1, hlt, by go_num, by rw [HBN.out, HN.out]; exact HL3.out⟩, by simp [intOf]; omega⟩
    · obtain rfl : i = 2 := by omega
      have hq : wr.cell? ⟨w.heap.size + 1, 0, none⟩ = some (.int .u64 ((bestN d 2).tx : Int)) := by rw [Joins.cell_of_block HLL.out.x]; rfl
      have hld : loadS d = bestN d 2 := rfl
      by_cases hz : (bestN d 2).tx = 0
      · have hz0 := bestN_zero d 2 hz
        rw [hz] at hq
        have HE : Hid (ldE d = 6 ∧ (loadS d).cells = zeroSC) := Lib.hid (by unfold ldE; rw [hld, hz0]; exact ⟨rfl, rfl⟩)
        clear hld hz0 hz
        go_wp2_with (first
          | refine wpList_store_row rfl 36 (.tmp 2) (.tmp 47) rfl w.heap.size zeroSC rfl rfl 36 zeroSC HLL.out.n (sup_info zeroSU) rfl (by simp [zeroSC, Value.oneCell']) ?_
          | fail)

        exact bodyPost_ret (results_cell_tmp rfl _ _ w.heap.size 36 zeroSC (0, 0) _ (.int .i64 6) rfl rfl (setRow_heap _ _ _ _ _ _ HLL.out.n) Tryd.underlying36 rfl (sup_info zeroSU)) rfl ⟨by rw [HE.out.1, HE.out.2], below_setRow HLL.out.bel (Nat.le_refl _) _⟩
      · have hzI : (((bestN d 2).tx : Int) == 0) = false := by rw [beq_eq_false_iff_ne]; omega
        have HE : Hid (ldE d = 0) := Lib.hid (if_neg (by rw [hld]; exact hz))
        have HLD := Lib.hid hld
        obtain ⟨cl, hcl⟩ : ∃ cl : List Value, (bestN d 2).cells = cl.toArray := ⟨(bestN d 2).cells.toList, by simp⟩
        have hls : cl.length = 19 := by
          have : (bestN d 2).cells.size = 19 := rfl
          rw [hcl] at this
          simpa using this
        have hx := HLL.out.x
        rw [hcl] at hx
        have HX := Lib.hid hx
        have HCL := Lib.hid hcl
        have HALL := Lib.hid (show cl.toArray.all (·.oneCell') = true by rw [← hcl]; exact cellsS_all _)
        have hinf : (Tryd.prog.info? 36).map (·.size) = some cl.length := by rw [hls]; kernel_rfl
        clear hld hcl hx hz
        go_wp2_with (first
          | refine wpList_load_mid rfl 36 (.tmp 4) rfl (w.heap.size + 1) 0 rfl cl _ (by have := range_of HX.out; simpa using this) Tryd.underlying36 rfl hinf ?_
          | refine wpList_store_row rfl 36 (.tmp 2) (.tmp 48) rfl w.heap.size cl.toArray rfl rfl 36 zeroSC HLL.out.n (by rw [List.size_toArray]; exact hinf) (by show (19 : Nat) = cl.length; exact hls.symm) HALL.out ?_
          | fail)
        exact bodyPost_ret (results_cell_tmp rfl _ _ w.heap.size 36 cl.toArray (0, 0) _ (.int .i64 0) rfl rfl (setRow_heap _ _ _ _ _ _ HLL.out.n) Tryd.underlying36 rfl (by rw [List.size_toArray]; exact hinf)) rfl ⟨by rw [HE.out, HLD.out, HCL.out], below_setRow HLL.out.bel (Nat.le_refl _) _⟩
end Go.Proofs.YtmfcbndgambfmaaDoor.Q
