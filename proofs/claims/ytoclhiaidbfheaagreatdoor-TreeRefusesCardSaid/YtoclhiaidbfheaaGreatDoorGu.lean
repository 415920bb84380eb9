/- Load. Two superblocks, compared; a living disk's saves. The law's known. Super without a disk, or with a short one. Write to a block that a disk has not. -/
import Derived.Test.YtoclhiaidbfheaaGreatDoorGt
import Derived.DeepKeys
section
set_option linter.unusedVariables false
namespace Go.Proofs.YtoclhiaidbfheaaGreatDoor.Q
open Go.RowKit

def zeroSU : SU := ⟨0, 0, 0, 0, 0, 0, 0, 0, 0, 0, 0, 0, 0, 0, 0, 0, 0, 0, false⟩
theorem zeroSU_cells : zeroSU.cells = zeroSC := rfl
theorem zeroSU_fits : zeroSU.fits := ⟨by decide, by decide, by decide⟩
/-- the better one -/
def takeS (best : SU) (l : List UInt8) (slot : Nat) : Bool := superOfB l && (numAt l 0 % 2 == slot) && decide (best.tx < numAt l 0)
def nextS (best : SU) (l : List UInt8) (slot : Nat) : SU := match takeS best l slot with | true => blkS l | false => best
def bestN (d : RD) : Nat → SU
  | 0 => zeroSU
  | i + 1 => nextS (bestN d i) (blkAt d i) i
def loadS (d : RD) : SU := bestN d 2
def ldE (d : RD) : Int := if (loadS d).tx = 0 then 6 else 0
theorem nextS_fits {best : SU} (h : best.fits) (l : List UInt8) (slot : Nat) : (nextS best l slot).fits := by
  unfold nextS
  cases takeS best l slot with
  | true => exact blkS_fits l
  | false => exact h
theorem bestN_fits (d : RD) : ∀ i, (bestN d i).fits
  | 0 => zeroSU_fits
  | i + 1 => nextS_fits (bestN_fits d i) _ _
theorem cellsS_all (s : SU) : s.cells.all (·.oneCell') = true := by simp [SU.cells, Value.oneCell']
theorem sup_info (s : SU) : (Tryz.prog.info? 144).map (·.size) = some s.cells.size := by
  rw [show s.cells.size = 19 from rfl]; kernel_rfl
theorem bestN_zero (d : RD) : ∀ i, (bestN d i).tx = 0 → bestN d i = zeroSU
  | 0, _ => rfl
  | i + 1, h => by
    have e : bestN d (i + 1) = nextS (bestN d i) (blkAt d i) i := rfl
    rw [e] at h ⊢
    unfold nextS at h ⊢
    cases ht : takeS (bestN d i) (blkAt d i) i with
    | true =>
      rw [ht] at h
      have h0 : numAt (blkAt d i) 0 = 0 := h
      unfold takeS at ht
      simp only [Bool.and_eq_true, decide_eq_true_eq] at ht
      omega
    | false =>
      rw [ht] at h
      exact bestN_zero d i h
/-- the boxes of Load -/
structure LL (w W : World) (s : SU) : Prop where
  n : W.heap[w.heap.size]? = some (.cells zeroSC 144 (0, 0))
  x : W.heap[w.heap.size + 1]? = some (.cells s.cells 144 (0, 0))
  bel : Below w.heap.size w W
theorem LL.below {w W W' : World} {s : SU} (h : LL w W s) (hb : Below W.heap.size W W') : LL w W' s :=
  ⟨(hb.block _ (Array.getElem?_eq_some_iff.1 h.n).1).trans h.n, (hb.block _ (Array.getElem?_eq_some_iff.1 h.x).1).trans h.x, h.bel.trans (hb.mono h.bel.size)⟩
theorem range_of {w : World} {b : Nat} {t : TypeId} {fr : Nat × Nat} {cs : Array Value} (h : w.heap[b]? = some (.cells cs t fr)) : w.rangeAt b 0 cs.toList := fun j u hu => by
  rw [Joins.cell_of_block h, Nat.zero_add, ← Array.getElem?_toList]; exact hu
theorem load_facts {w w2 w3 : World} {s : SU} {cl : List Value} {x : Value} (h0 : cl.toArray[0]? = some x) (hl : LL w (w2.alloc (.cells cl.toArray 144)) s) (hb : Below (w2.alloc (.cells cl.toArray 144)).heap.size (w2.alloc (.cells cl.toArray 144)) w3) :
    w3.heap[w2.heap.size]? = some (.cells cl.toArray 144 (0, 0)) ∧ LL w w3 s ∧ w3.cell? ⟨w2.heap.size, 0, none⟩ = some x ∧ w3.cell? ⟨w.heap.size + 1, 0, none⟩ = some (.int .u64 (s.tx : Int)) := by
  have hx := (hb.block _ (by simp)).trans (heap_alloc_new w2 (.cells cl.toArray 144))
  have hl3 := hl.below hb
  exact ⟨hx, hl3, by rw [Joins.cell_of_block hx]; exact h0, by rw [Joins.cell_of_block hl3.x]; rfl⟩
theorem LL.set {w W : World} {s t : SU} {cl : List Value} (h : LL w W s) (ht : t.cells = cl.toArray) : LL w (W.setRow (w.heap.size + 1) cl.toArray) t :=
  ⟨by rw [setRow_other W _ _ _ (by omega)]; exact h.n, by rw [ht]; exact setRow_heap W _ _ _ _ _ h.x, below_setRow h.bel (Nat.le_succ _) _⟩
theorem wpList_load_g {P : Program} {ops : Array Oper} {rest : List Oper} {op : Oper} {a : Act} {w : World} {Q : Exit → Act → World → Prop} (hw : Region.wanted op (yielded ops a.tmps) = true) (ty : TypeId) (x : Operand) (ho : op.op = .load ty x)
    (b o : Nat) (hx : a.eval x = .pointer (some ⟨b, o, none⟩)) (cs : List Value) (d : TypeDesc) (hc : w.rangeAt b o cs)
    (hu : P.underlying ty = some d) (hd : d.isRow = true) (hi : (P.info? ty).map (·.size) = some cs.length)
    (h : wpList P ops Q rest (a.put op.dst (.agg cs.toArray)) w) : wpList P ops Q (op :: rest) a w := by
  refine wpList_step ?_
  intro K hK
  rw [if_pos hw]
  exact wp_load_mid ty x ho b o hx cs d hc hu hd hi (hK _ _ h)
set_option maxRecDepth 100000 in
set_option maxHeartbeats 4000000 in
theorem load_any {w : World} {F : Nat → Prop} {b : Nat} {d : RD} (hT : Tabs w) (hW : Wids w) (h : PD w F b d) (h8 : 8 ≤ d.s.length) :
    Calls Tryz.prog 139 #[.pointer (some ⟨b, 0, none⟩)] w fun e w' => e = .returned (.tuple #[.agg (loadS d).cells, .int .i64 (ldE d)]) ∧ Below w.heap.size w w' := by
  have HTW : Hid (∀ W, Below w.heap.size w W → Tabs W ∧ Wids W) := Lib.hid (fun W hb => ⟨hT.below hb hT.size, hW.below hb hW.size⟩)
  have hhas : ∀ i : Nat, i < 2 → hasK d (i : Int) := fun i hi => ⟨by omega, by omega⟩
  have HRD := Lib.hid (fun (W : World) (hb : Below w.heap.size w W) (i : Nat) (hi : i < 2) => read_any' (h.below hb) i (hhas i hi))
  have hzs := sup_zero
  have hz2 := blk_zero
  have HL0 : Hid (LL w ((w.alloc (.cells zeroSC 144)).alloc (.cells zeroSC 144)) (bestN d 0)) := by
    have hn := heap_alloc_new (w.alloc (.cells zeroSC 144)) (.cells zeroSC 144)
    rw [World.size_alloc] at hn
    exact Lib.hid ⟨(Below.heap_alloc _ _ _ (by simp)).trans (heap_alloc_new w _), hn, (((Below.refl _ w).alloc (Nat.le_refl _) _).alloc (by simp) _)⟩
  clear hT hW h hhas
  go_enter Tryz.func139, Tryz.ntmps139
  go_wp2_with fail
  go_loopw [9] (fun j wr => ∃ i : Nat, i ≤ 2 ∧ j = .int .i64 (i : Int) ∧ Hid (LL w wr (bestN d i))) (fun j _ => 2 - (intOf j).toNat)
  case atStart => exact ⟨0, by omega, rfl, HL0.out⟩
  case round =>
    obtain ⟨i, hi, rfl, HLL⟩ := hrel
    by_cases hlt : i < 2
    · have hltI : (i : Int) < 2 := by omega
      have hrd := HRD.out wr HLL.out.bel i hlt
      have hl := blkAt_len d i
      have hbn : bestN d (i + 1) = nextS (bestN d i) (blkAt d i) i := rfl
      obtain ⟨l, hll⟩ : ∃ l, blkAt d i = l := ⟨_, rfl⟩
      rw [hll] at hrd hl hbn
      obtain ⟨s, hss⟩ : ∃ s, bestN d i = s := ⟨_, rfl⟩
      rw [hss] at hbn HLL
      have HRDI := Lib.hid hrd
      have HBN := Lib.hid hbn
      have hst := fun w => store_blk w noughts l noughts_len hl
      have hlc : (cells8 l).length = 256 := by rw [cells8_length, hl]
      have HG : Hid (∀ (w1 W : World), Below (w1.alloc (.cells (cells8 l).toArray 151)).heap.size (w1.alloc (.cells (cells8 l).toArray 151)) W → W.rangeAt w1.heap.size 0 (cells8 l)) := Lib.hid (fun w1 W hb j u hu => by
        rw [Joins.cell_of_block ((hb.block _ (by simp)).trans (heap_alloc_new w1 _)), List.getElem?_toArray, Nat.zero_add]; exact hu)
      have HOF : Hid (∀ W, Below w.heap.size w W → Calls Tryz.prog 195 #[.agg (cells8 l).toArray] W fun e w' => e = .returned (.tuple #[.agg (ofV (superOfB l) l), .int .i64 (ofE (superOfB l))]) ∧ Below W.heap.size W w') := Lib.hid (fun W hb => sof_any W (HTW.out W hb).1 (HTW.out W hb).2 l hl)
      clear hrd hll hss hbn
      cases ho : superOfB l with
      | false =>
        have hn : nextS s l i = s := by unfold nextS takeS; rw [ho]; rfl
        rw [hn] at HBN
        rw [ho] at HOF
        have e0 : ofE false = 4 := rfl
        have e1 : ofV false l = zeroSC := rfl
        rw [e0, e1] at HOF
        have hVst := fun w => store_sup w zeroSC rfl (by simp [zeroSC, Value.oneCell'])
        have hVs : zeroSC.size = 19 := rfl
        clear ho hn e0 e1
        go_wp2_with (first
          | (go_at_call 194; (with_reducible refine HRDI.out.mono ?_); rintro e w1 ⟨rfl, hb1⟩; have HB1 := Lib.hid (hb1.alloc hb1.size (.cells (cells8 l).toArray 151)); clear hb1)
          | refine wpList_load_mid rfl 151 (.tmp 6) rfl w1.heap.size 0 rfl (cells8 l) _ (HG.out _ _ (Below.refl _ _)) blk_u rfl (blk_sz l hl) ?_
          | (go_at_call 195; (with_reducible refine (HOF.out _ (HLL.out.below HB1.out).bel).mono ?_); rintro e w2 ⟨rfl, hb2⟩; have HB2 := Lib.hid hb2; clear hb2)
          | fail)
        exact ⟨⟨i + 1, hlt, by go_num, by rw [HBN.out]; exact (HLL.out.below HB1.out).below (HB2.out.alloc HB2.out.size _)⟩, by simp [intOf]; omega⟩
      | true =>
        rw [ho] at HOF
        have e0 : ofE true = 0 := rfl
        have e1 : ofV true l = (blkS l).cells := rfl
        rw [e0, e1] at HOF
        have htk : takeS s l i = (((blkS l).tx % 2 == i) && decide (s.tx < (blkS l).tx)) := by unfold takeS; rw [ho]; rfl
        have hn : nextS s l i = match takeS s l i with | true => blkS l | false => s := rfl
        have HFT := Lib.hid (blkS_fits l)
        obtain ⟨t, ht⟩ : ∃ t, blkS l = t := ⟨_, rfl⟩
        rw [ht] at HOF htk hn HFT
        have HSL := Lib.hid (fun W => slotOf_any W t HFT.out)
        obtain ⟨k, hk⟩ : ∃ k, t.tx % 2 = k := ⟨_, rfl⟩
        rw [hk] at HSL htk
        obtain ⟨cl, hcl⟩ : ∃ cl : List Value, t.cells = cl.toArray := ⟨t.cells.toList, by simp⟩
        have hVs : cl.length = 19 := by
          have : t.cells.size = 19 := rfl
          rw [hcl] at this
          simpa using this
        have hVst := fun w => store_sup w cl.toArray (by simpa using hVs) (by rw [← hcl]; exact cellsS_all t)
        simp only at hVst
        have H0 : Hid (cl.toArray[0]? = some (.int .u64 (t.tx : Int))) := Lib.hid (by rw [← hcl]; rfl)
        have HCL := Lib.hid hcl
        have HALL := Lib.hid (show cl.toArray.all (·.oneCell') = true by rw [← hcl]; exact cellsS_all t)
        have hinf : (Tryz.prog.info? 144).map (·.size) = some cl.length := by rw [hVs]; kernel_rfl
        have HRS : Hid (∀ w2 : World, (w2.alloc (.cells cl.toArray 144)).rangeAt w2.heap.size 0 cl) := Lib.hid (fun w2 => by
          have := range_of (heap_alloc_new w2 (.cells cl.toArray 144))
          simpa using this)
        rw [hcl] at HOF HSL
        obtain ⟨tx, htx⟩ : ∃ x, t.tx = x := ⟨_, rfl⟩
        rw [htx] at htk H0
        clear ho e0 e1 ht hk hcl htx HFT
        by_cases c1 : k = i
        · subst c1
          by_cases c2 : s.tx < tx
          · have c2I : (s.tx : Int) < (tx : Int) := by omega
            have HN : Hid (nextS s l k = t) := Lib.hid (by rw [hn, htk]; simp [c2])
            clear htk hn
            go_wp2_with (first
              | (go_at_call 194; (with_reducible refine HRDI.out.mono ?_); rintro e w1 ⟨rfl, hb1⟩; have HB1 := Lib.hid (hb1.alloc hb1.size (.cells (cells8 l).toArray 151)); clear hb1)
              | refine wpList_load_mid rfl 151 (.tmp 6) rfl w1.heap.size 0 rfl (cells8 l) _ (HG.out _ _ (Below.refl _ _)) blk_u rfl (blk_sz l hl) ?_
              | (go_at_call 195; (with_reducible refine (HOF.out _ (HLL.out.below HB1.out).bel).mono ?_); rintro e w2 ⟨rfl, hb2⟩; have HB2 := Lib.hid hb2; clear hb2)
              | (go_at_call 149; (with_reducible refine (HSL.out _).mono ?_); rintro e w3 ⟨rfl, hb3⟩; obtain ⟨hx3, hl3, hq1, hq2⟩ := load_facts H0.out ((HLL.out.below HB1.out).below (HB2.out.alloc HB2.out.size _)) hb3; have HL3 := Lib.hid hl3; have HX3 := Lib.hid hx3; clear hb3 hl3 hx3)
              | refine wpList_load_g (by rfl) 144 (.tmp 8) rfl w2.heap.size 0 rfl cl _ (HRS.out w2) Tryz.underlying144 rfl hinf ?_
              | refine wpList_load_mid rfl 144 (.tmp 8) rfl w2.heap.size 0 rfl cl _ (by have := range_of HX3.out; simpa using this) Tryz.underlying144 rfl hinf ?_
              | refine wpList_store_row rfl 144 (.tmp 4) (.tmp 42) rfl (w.heap.size + 1) cl.toArray rfl rfl 144 s.cells HL3.out.x (by rw [List.size_toArray]; exact hinf) (by show (19 : Nat) = cl.length; exact hVs.symm) HALL.out ?_
              | fail)
            exact ⟨⟨k + 1, hlt, by go_num, by rw [HBN.out, HN.out]; exact HL3.out.set HCL.out⟩, by simp [intOf]; omega⟩
          · have c2I : ¬ (s.tx : Int) < (tx : Int) := by omega
            have HN : Hid (nextS s l k = s) := Lib.hid (by rw [hn, htk]; simp [c2])
            clear htk hn
            go_wp2_with (first
              | (go_at_call 194; (with_reducible refine HRDI.out.mono ?_); rintro e w1 ⟨rfl, hb1⟩; have HB1 := Lib.hid (hb1.alloc hb1.size (.cells (cells8 l).toArray 151)); clear hb1)
              | refine wpList_load_mid rfl 151 (.tmp 6) rfl w1.heap.size 0 rfl (cells8 l) _ (HG.out _ _ (Below.refl _ _)) blk_u rfl (blk_sz l hl) ?_
              | (go_at_call 195; (with_reducible refine (HOF.out _ (HLL.out.below HB1.out).bel).mono ?_); rintro e w2 ⟨rfl, hb2⟩; have HB2 := Lib.hid hb2; clear hb2)
              | (go_at_call 149; (with_reducible refine (HSL.out _).mono ?_); rintro e w3 ⟨rfl, hb3⟩; obtain ⟨hx3, hl3, hq1, hq2⟩ := load_facts H0.out ((HLL.out.below HB1.out).below (HB2.out.alloc HB2.out.size _)) hb3; have HL3 := Lib.hid hl3; have HX3 := Lib.hid hx3; clear hb3 hl3 hx3)
              | refine wpList_load_g (by rfl) 144 (.tmp 8) rfl w2.heap.size 0 rfl cl _ (HRS.out w2) Tryz.underlying144 rfl hinf ?_
              | fail)
            exact ⟨⟨k + 1, hlt, by go_num, by rw [HBN.out, HN.out]; exact HL3.out⟩, by simp [intOf]; omega⟩
        · have c1b : ((k : Int) == (i : Int)) = false := by rw [beq_eq_false_iff_ne]; omega
          have HN : Hid (nextS s l i = s) := Lib.hid (by
            rw [hn, htk, show (k == i) = false by simpa using c1]
            rfl)
          clear htk hn
          go_wp2_with (first
            | (go_at_call 194; (with_reducible refine HRDI.out.mono ?_); rintro e w1 ⟨rfl, hb1⟩; have HB1 := Lib.hid (hb1.alloc hb1.size (.cells (cells8 l).toArray 151)); clear hb1)
            | refine wpList_load_mid rfl 151 (.tmp 6) rfl w1.heap.size 0 rfl (cells8 l) _ (HG.out _ _ (Below.refl _ _)) blk_u rfl (blk_sz l hl) ?_
            | (go_at_call 195; (with_reducible refine (HOF.out _ (HLL.out.below HB1.out).bel).mono ?_); rintro e w2 ⟨rfl, hb2⟩; have HB2 := Lib.hid hb2; clear hb2)
            | (go_at_call 149; (with_reducible refine (HSL.out _).mono ?_); rintro e w3 ⟨rfl, hb3⟩; obtain ⟨hx3, hl3, hq1, hq2⟩ := load_facts H0.out ((HLL.out.below HB1.out).below (HB2.out.alloc HB2.out.size _)) hb3; have HL3 := Lib.hid hl3; have HX3 := Lib.hid hx3; clear hb3 hl3 hx3)
            | refine wpList_load_g (by rfl) 144 (.tmp 8) rfl w2.heap.size 0 rfl cl _ (HRS.out w2) Tryz.underlying144 rfl hinf ?_
            | fail)
          exact ⟨⟨i + 1, hlt, by go_num, by rw [HBN.out, HN.out]; exact HL3.out⟩, by simp [intOf]; omega⟩
    · obtain rfl : i = 2 := by omega
      have hq : wr.cell? ⟨w.heap.size + 1, 0, none⟩ = some (.int .u64 ((bestN d 2).tx : Int)) := by rw [Joins.cell_of_block HLL.out.x]; rfl
      have hld : loadS d = bestN d 2 := rfl
      by_cases hz : (bestN d 2).tx = 0
      · have hz0 := bestN_zero d 2 hz
        rw [hz] at hq
        have HE : Hid (ldE d = 6 ∧ (loadS d).cells = zeroSC) := Lib.hid (by unfold ldE; rw [hld, hz0]; exact ⟨rfl, rfl⟩)
        clear hld hz0 hz
        go_wp2_with (first
          | refine wpList_store_row rfl 144 (.tmp 2) (.tmp 47) rfl w.heap.size zeroSC rfl rfl 144 zeroSC HLL.out.n (sup_info zeroSU) rfl (by simp [zeroSC, Value.oneCell']) ?_
          | fail)

        exact bodyPost_ret (results_cell_tmp rfl _ _ w.heap.size 144 zeroSC (0, 0) _ (.int .i64 6) rfl rfl (setRow_heap _ _ _ _ _ _ HLL.out.n) Tryz.underlying144 rfl (sup_info zeroSU)) rfl ⟨by rw [HE.out.1, HE.out.2], below_setRow HLL.out.bel (Nat.le_refl _) _⟩
      · have hzI : (((bestN d 2).tx : Int) == 0) = false := by rw [beq_eq_false_iff_ne]; omega
        have HE : Hid (ldE d = 0) := Lib.hid (if_neg (by rw [hld]; exact hz))
        have HLD := Lib.hid hld
        obtain ⟨cl, hcl⟩ : ∃ cl : List Value, (bestN d 2).cells = cl.toArray := ⟨(bestN d 2).cells.toList, by simp⟩
        have hls : cl.length = 19 := by
          have : (bestN d 2).cells.size = 19 := rfl
          rw [hcl] at this
          simpa using this
        have hx := HLL.out.x
        rw [hcl] at hx
        have HX := Lib.hid hx
        have HCL := Lib.hid hcl
        have HALL := Lib.hid (show cl.toArray.all (·.oneCell') = true by rw [← hcl]; exact cellsS_all _)
        have hinf : (Tryz.prog.info? 144).map (·.size) = some cl.length := by rw [hls]; kernel_rfl
        clear hld hcl hx hz
        go_wp2_with (first
          | refine wpList_load_mid rfl 144 (.tmp 4) rfl (w.heap.size + 1) 0 rfl cl _ (by have := range_of HX.out; simpa using this) Tryz.underlying144 rfl hinf ?_
          | refine wpList_store_row rfl 144 (.tmp 2) (.tmp 48) rfl w.heap.size cl.toArray rfl rfl 144 zeroSC HLL.out.n (by rw [List.size_toArray]; exact hinf) (by show (19 : Nat) = cl.length; exact hls.symm) HALL.out ?_
          | fail)
        exact bodyPost_ret (results_cell_tmp rfl _ _ w.heap.size 144 cl.toArray (0, 0) _ (.int .i64 0) rfl rfl (setRow_heap _ _ _ _ _ _ HLL.out.n) Tryz.underlying144 rfl (by rw [List.size_toArray]; exact hinf)) rfl ⟨by rw [HE.out, HLD.out, HCL.out], below_setRow HLL.out.bel (Nat.le_refl _) _⟩
end Go.Proofs.YtoclhiaidbfheaaGreatDoor.Q
end

section
set_option linter.unusedVariables false
namespace Go.Proofs.YtoclhiaidbfheaaGreatDoor.Q
open Go.RowKit

def eqP (a b : SU) : Bool := (a.p0 : Int) == (b.p0 : Int) && ((a.p1 : Int) == (b.p1 : Int) && ((a.p2 : Int) == (b.p2 : Int) && ((a.p3 : Int) == (b.p3 : Int) && ((a.p4 : Int) == (b.p4 : Int) && (a.p5 : Int) == (b.p5 : Int)))))
def eqS (a b : SU) : Bool := (a.tx : Int) == (b.tx : Int) && (a.m == b.m && (a.d == b.d && (eqP a b && ((a.tp : Int) == (b.tp : Int) && ((a.ba : Int) == (b.ba : Int) && ((a.sg : Int) == (b.sg : Int) && (a.c == b.c && ((a.ep : Int) == (b.ep : Int) && ((a.la : Int) == (b.la : Int) && ((a.sq : Int) == (b.sq : Int) && ((a.bl : Int) == (b.bl : Int) && ((a.bs : Int) == (b.bs : Int) && a.mkd == b.mkd))))))))))))
theorem eqS_iff (a b : SU) : eqS a b = true ↔ a = b := by
  obtain ⟨a0, a1, a2, a3, a4, a5, a6, a7, a8, a9, a10, a11, a12, a13, a14, a15, a16, a17, a18⟩ := a
  obtain ⟨b0, b1, b2, b3, b4, b5, b6, b7, b8, b9, b10, b11, b12, b13, b14, b15, b16, b17, b18⟩ := b
  simp [eqS, eqP, Int.ofNat_inj]
  intro _ _ _
  constructor
  · rintro ⟨⟨h3, h4, h5, h6, h7, h8⟩, h9⟩
    exact ⟨h3, h4, h5, h6, h7, h8, h9⟩
  · rintro ⟨h3, h4, h5, h6, h7, h8, h9⟩
    exact ⟨⟨h3, h4, h5, h6, h7, h8⟩, h9⟩
theorem ite_and {p : Prop} [Decidable p] {t : Bool} {w : World} : (if p then Result.ok (Value.bool t) w else Result.ok (Value.bool false) w) = Result.ok (Value.bool (decide p && t)) w := by split <;> simp [*]
theorem beq_dec (x y : Int) : (x == y) = decide (x = y) := by by_cases h : x = y <;> simp [h]
theorem beq_decb (x y : Bool) : (x == y) = decide (x = y) := by cases x <;> cases y <;> rfl
theorem u32_cells : Tryz.prog.cellsOf 22 = 1 := by kernel_rfl
theorem eql_arr (a0 a1 a2 a3 a4 a5 b0 b1 b2 b3 b4 b5 : Int) (w : World) : (Op.equalIn 9999 140 (.agg #[.int .u32 a0, .int .u32 a1, .int .u32 a2, .int .u32 a3, .int .u32 a4, .int .u32 a5]) (.agg #[.int .u32 b0, .int .u32 b1, .int .u32 b2, .int .u32 b3, .int .u32 b4, .int .u32 b5])).run Tryz.prog w = .ok (a0 == b0 && (a1 == b1 && (a2 == b2 && (a3 == b3 && (a4 == b4 && a5 == b5))))) w := by
  obtain ⟨i, hi, _⟩ := info_parts u32_info
  rw [run_equalIn_array w 9998 _ _ Tryz.underlying140 hi, u32_cells]
  have e : List.range 6 = [0, 1, 2, 3, 4, 5] := by decide
  rw [e]
  simp only [Op.eqItems]
  go_simp
  repeat' split
  all_goals simp_all
set_option maxHeartbeats 2000000 in
theorem eql_sup (a b : SU) (w : World) : (binOp .eql 144 (.agg a.cells) (.agg b.cells)).run Tryz.prog w = .ok (.bool (eqS a b)) w := by
  rw [run_eql_struct]
  unfold SU.cells
  have harr := eql_arr a.p0 a.p1 a.p2 a.p3 a.p4 a.p5 b.p0 b.p1 b.p2 b.p3 b.p4 b.p5
  obtain ⟨r, hr⟩ : ∃ r, eqP a b = r := ⟨_, rfl⟩
  have hr2 := hr
  unfold eqP at hr2
  rw [hr2] at harr
  clear hr2
  have he : eqS a b = ((a.tx : Int) == (b.tx : Int) && (a.m == b.m && (a.d == b.d && (r && ((a.tp : Int) == (b.tp : Int) && ((a.ba : Int) == (b.ba : Int) && ((a.sg : Int) == (b.sg : Int) && (a.c == b.c && ((a.ep : Int) == (b.ep : Int) && ((a.la : Int) == (b.la : Int) && ((a.sq : Int) == (b.sq : Int) && ((a.bl : Int) == (b.bl : Int) && ((a.bs : Int) == (b.bs : Int) && a.mkd == b.mkd))))))))))))) := by rw [eqS, hr]
  rw [he]
  clear he hr
  cases r
  · go_simp
  · go_simp
    simp only [ite_and, beq_dec, beq_decb, Bool.and_true]

/-! ### a living disk -/
def lastD (d : RD) (i : Nat) : SB := (d.s.getD i []).getLastD 0
structure Live (d : RD) : Prop where
  fuse : d.fuse < 0
  dead : d.dead = false
theorem Live.moves {d : RD} (h : Live d) : movesB d = true ∧ movesD d = d := by
  have h1 := h.fuse
  have h2 := h.dead
  have h3 : ¬ (d.dead = true ∨ d.fuse = 0) := by rw [h2]; simp; omega
  refine ⟨(movesB_iff d).2 h3, ?_⟩
  unfold movesD
  rw [if_neg h3, if_neg (by omega)]
theorem rdC_last {d : RD} {n : Int} (h : thereN d n) : rdC d n = lastD d n.toNat := if_pos h
theorem last_set (d : RD) (n : Nat) (x : List SB) (h : n < d.s.length) (i : Nat) : ((d.s.set n x).getD i []).getLastD 0 = if i = n then x.getLastD 0 else lastD d i := by
  by_cases e : i = n
  · subst e
    rw [if_pos rfl, List.getD_eq_getElem?_getD, List.getElem?_set_self h]
    rfl
  · rw [if_neg e, List.getD_eq_getElem?_getD, List.getElem?_set_ne (fun x => e x.symm), ← List.getD_eq_getElem?_getD]
    rfl
theorem Live.wr {d : RD} (h : Live d) (n : Nat) (hn : n < d.s.length) (c : SB) : Live (wrD d (n : Int) c) ∧ ∀ i, lastD (wrD d (n : Int) c) i = if i = n then c else lastD d i := by
  have e : wrD d (n : Int) c = writeD d n c := by
    unfold wrD
    rw [if_pos ⟨by omega, by omega⟩, if_pos h.moves.1, h.moves.2]
    rfl
  rw [e]
  refine ⟨⟨h.fuse, h.dead⟩, fun i => ?_⟩
  show ((d.s.set n (d.s.getD n [] ++ [c])).getD i []).getLastD 0 = _
  rw [last_set d n _ hn]
  simp
theorem Live.fl {d : RD} (h : Live d) : flR d = 0 ∧ Live (flD d) ∧ ∀ i, lastD (flD d) i = lastD d i := by
  have e : flD d = flushD d := by unfold flD; rw [if_pos h.moves.1, h.moves.2]
  refine ⟨if_pos h.moves.1, ?_, fun i => ?_⟩
  · rw [e]; exact ⟨h.fuse, h.dead⟩
  · rw [e]
    show ((d.s.map fun l => [l.getLastD 0]).getD i []).getLastD 0 = (d.s.getD i []).getLastD 0
    rw [List.getD_eq_getElem?_getD, List.getElem?_map, List.getD_eq_getElem?_getD]
    cases d.s[i]? <;> rfl
theorem Live.wrK {d : RD} (h : Live d) (k : Nat) (l : List UInt8) : ∀ (n i : Nat), k * 4 + i + n ≤ d.s.length → (Q.wrK d k l n i).1 = 0 ∧ Live (Q.wrK d k l n i).2 ∧ ∀ j, lastD (Q.wrK d k l n i).2 j = if k * 4 + i ≤ j ∧ j < k * 4 + i + n then partS l (j - k * 4) else lastD d j := by
  intro n
  induction n generalizing d with
  | zero =>
    intro i _
    refine ⟨rfl, h, fun j => ?_⟩
    rw [if_neg (by omega)]
    rfl
  | succ n ih =>
    intro i hl
    have e : ((k : Int) * 4 + (i : Int)) = ((k * 4 + i : Nat) : Int) := by push_cast; rfl
    obtain ⟨h1, h2⟩ := h.wr (k * 4 + i) (by omega) (partS l i)
    have e2 : Q.wrK d k l (n + 1) i = Q.wrK (wrD d ((k * 4 + i : Nat) : Int) (partS l i)) k l n (i + 1) := by
      rw [Q.wrK, if_pos h.moves.1, e]
    rw [e2]
    obtain ⟨i1, i2, i3⟩ := ih h1 (i + 1) (by rw [wrD_len]; omega)
    refine ⟨i1, i2, fun j => ?_⟩
    rw [i3, h2]
    by_cases c1 : j = k * 4 + i
    · subst c1
      rw [if_neg (by omega), if_pos rfl, if_pos (by omega)]
      congr 1
      omega
    · by_cases c2 : k * 4 + (i + 1) ≤ j ∧ j < k * 4 + (i + 1) + n
      · rw [if_pos c2, if_pos (by omega)]
      · rw [if_neg c2, if_neg c1, if_neg (by omega)]
/-- a save on a living disk -/
theorem Live.save {d : RD} (h : Live d) (h8 : 8 ≤ d.s.length) (s : SU) (hm : s.may = true) : (saveK d s).1 = 0 ∧ Live (saveK d s).2 ∧ (saveK d s).2.s.length = d.s.length ∧
    ∀ j, lastD (saveK d s).2 j = if s.tx % 2 * 4 ≤ j ∧ j < s.tx % 2 * 4 + 4 then partS s.img (j - s.tx % 2 * 4) else lastD d j := by
  have hk : s.tx % 2 < 2 := by omega
  obtain ⟨k, hkk⟩ : ∃ k, s.tx % 2 = k := ⟨_, rfl⟩
  have hs : saveK d s = if (wipeK d k).1 = 0 then if (writeK (wipeK d k).2 k s.img).1 = 0 then (flR (writeK (wipeK d k).2 k s.img).2, flD (writeK (wipeK d k).2 k s.img).2) else writeK (wipeK d k).2 k s.img else wipeK d k := by
    unfold saveK; rw [if_pos hm, hkk]
  rw [hs, hkk]
  rw [hkk] at hk
  have hw : (wipeK d k).1 = 0 ∧ Live (wipeK d k).2 ∧ ∀ j, ¬ (k * 4 ≤ j ∧ j < k * 4 + 4) → lastD (wipeK d k).2 j = lastD d j := by
    unfold wipeK
    split
    · exact ⟨rfl, h, fun _ _ => rfl⟩
    · rw [if_pos h.moves.1]
      have e : ((k : Int) * 4) = ((k * 4 : Nat) : Int) := by push_cast; rfl
      rw [e]
      obtain ⟨h1, h2⟩ := h.wr (k * 4) (by omega) 0
      obtain ⟨f1, f2, f3⟩ := h1.fl
      exact ⟨f1, f2, fun j hj => by rw [f3, h2, if_neg (by omega)]⟩
  obtain ⟨w1, w2, w3⟩ := hw
  have wl := wipeK_len d k
  obtain ⟨v1, v2, v3⟩ := w2.wrK k s.img 4 0 (by omega)
  obtain ⟨f1, f2, f3⟩ := v2.fl
  have hv : (writeK (wipeK d k).2 k s.img).1 = 0 := v1
  rw [if_pos w1, if_pos hv]
  refine ⟨f1, f2, ?_, fun j => ?_⟩
  · show (flD _).s.length = _
    rw [flD_len]
    exact (wrK_len k s.img 4 0 _).trans wl
  · show lastD (flD (Q.wrK (wipeK d k).2 k s.img 4 0).2) j = _
    rw [f3, v3]
    by_cases c : k * 4 ≤ j ∧ j < k * 4 + 4
    · rw [if_pos (by omega), if_pos c]
    · rw [if_neg (by omega), if_neg c, w3 j c]
theorem parts_all (l : List UInt8) (hl : l.length = 256) : (partS l 0).1 ++ (partS l 1).1 ++ (partS l 2).1 ++ (partS l 3).1 = l := by
  rw [partS_eq l hl 0 (by omega), partS_eq l hl 1 (by omega), partS_eq l hl 2 (by omega), partS_eq l hl 3 (by omega)]
  unfold part
  have t : ∀ (l : List UInt8) n m, l.take n ++ (l.drop n).take m = l.take (n + m) := fun l n m => by rw [List.take_add]
  rw [show (l.drop (0 * 64)).take 64 = l.take 64 by simp, t l 64 64, show 2 * 64 = 64 + 64 by rfl, t l (64 + 64) 64, show 3 * 64 = 64 + 64 + 64 by rfl, t l (64 + 64 + 64) 64]
  exact List.take_of_length_le (by omega)
/-- a block of the disk, by its last sectors -/
theorem blkAt_last (d : RD) (k : Nat) (hk : k * 4 + 4 ≤ d.s.length) : blkAt d k = (lastD d (k * 4)).1 ++ (lastD d (k * 4 + 1)).1 ++ (lastD d (k * 4 + 2)).1 ++ (lastD d (k * 4 + 3)).1 := by
  have h : ∀ i, i < 4 → rdC d ((k * 4 + i : Nat) : Int) = lastD d (k * 4 + i) := fun i hi => rdC_last ⟨by omega, by omega⟩
  show (((([] ++ (rdC d ((k * 4 + 0 : Nat) : Int)).1) ++ (rdC d ((k * 4 + 1 : Nat) : Int)).1) ++ (rdC d ((k * 4 + 2 : Nat) : Int)).1) ++ (rdC d ((k * 4 + 3 : Nat) : Int)).1) = _
  rw [h 0 (by omega), h 1 (by omega), h 2 (by omega), h 3 (by omega)]
  rfl
theorem Live.saved {d : RD} (h : Live d) (h8 : 8 ≤ d.s.length) (s : SU) (hm : s.may = true) : blkAt (saveK d s).2 (s.tx % 2) = s.img ∧ ∀ k, k ≠ s.tx % 2 → k * 4 + 4 ≤ d.s.length → blkAt (saveK d s).2 k = blkAt d k := by
  obtain ⟨_, _, hl, hj⟩ := h.save h8 s hm
  have hk : s.tx % 2 < 2 := by omega
  refine ⟨?_, fun k hne hk4 => ?_⟩
  · rw [blkAt_last _ _ (by omega), hj, hj, hj, hj, if_pos (by omega), if_pos (by omega), if_pos (by omega), if_pos (by omega)]
    rw [show s.tx % 2 * 4 - s.tx % 2 * 4 = 0 by omega, show s.tx % 2 * 4 + 1 - s.tx % 2 * 4 = 1 by omega, show s.tx % 2 * 4 + 2 - s.tx % 2 * 4 = 2 by omega, show s.tx % 2 * 4 + 3 - s.tx % 2 * 4 = 3 by omega]
    exact parts_all _ s.img_len
  · rw [blkAt_last _ _ (by omega), blkAt_last _ _ hk4, hj, hj, hj, hj, if_neg (by omega), if_neg (by omega), if_neg (by omega), if_neg (by omega)]
end Go.Proofs.YtoclhiaidbfheaaGreatDoor.Q
end

section
set_option linter.unusedVariables false
namespace Go.Proofs.YtoclhiaidbfheaaGreatDoor.Q
open Go.RowKit

/-- a disk of the call's own -/
def KS (w W : World) (b : Nat) (d : RD) : Prop := ∃ F, PD W F b d ∧ (∀ k, F k → w.heap.size ≤ k) ∧ Below w.heap.size w W
theorem KS.b {w W : World} {b : Nat} {d : RD} (h : KS w W b d) : Below w.heap.size w W := h.elim fun _ h => h.2.2
theorem KS.below {w W W' : World} {b : Nat} {d : RD} (h : KS w W b d) (hb : Below W.heap.size W W') : KS w W' b d := by
  obtain ⟨F, h1, h2, h3⟩ := h
  exact ⟨F, h1.below hb, h2, h3.trans (hb.mono h3.size)⟩
theorem KS.done {w W W' : World} {b : Nat} {d' : RD} {er : Int} {e : Ending} {F : Nat → Prop} (h1 : Below w.heap.size w W) (hF : ∀ k, F k → w.heap.size ≤ k) (hp : PDone W F b er d' e W') : KS w W' b d' := by
  obtain ⟨_, F', h3, h4, h5⟩ := hp
  exact ⟨F', h3, fun k hk => (h4 k hk).elim (hF k) (fun h => Nat.le_trans h1.size h), h1.trans (h5.below h1.size hF)⟩
theorem KS.new (n : Nat) (w W : World) (hb : Below w.heap.size w W) (h : 1 ≤ n ∧ n ≤ 8192) : Calls Tryz.prog 29 #[.int .i64 (n : Int)] W fun e w' => ∃ b, e = .returned (.tuple #[.pointer (some ⟨b, 0, none⟩), .int .i64 0]) ∧ Hid (KS w w' b (newD n)) :=
  (pnew_any n W h).mono fun e w' ⟨b, F, he, h1, h2, h3⟩ => ⟨b, he, F, h1, fun k hk => Nat.le_trans hb.size (h2 k hk), hb.trans (h3.mono hb.size)⟩
theorem KS.save {w W : World} {b : Nat} {d : RD} (h : KS w W b d) (hT : Tabs W) (hW : Wids W) (h8 : 8 ≤ d.s.length) (s : SU) (hf : s.fits) (hs : Short d 5) {er : Int} (he : (saveK d s).1 = er) :
    Calls Tryz.prog 81 #[.pointer (some ⟨b, 0, none⟩), .agg s.cells] W fun e w' => e = .returned (.int .i64 er) ∧ Hid (KS w w' b (saveK d s).2) := by
  obtain ⟨F, h1, h2, h3⟩ := h
  refine (save_any hT hW h1 h8 s hf hs).mono fun e w' hp => ⟨?_, KS.done h3 h2 hp⟩
  rw [← he]
  exact hp.1
theorem KS.load {w W : World} {b : Nat} {d : RD} (h : KS w W b d) (hT : Tabs W) (hW : Wids W) (h8 : 8 ≤ d.s.length) {s : SU} {er : Int} (hs : loadS d = s) (he : ldE d = er) :
    Calls Tryz.prog 139 #[.pointer (some ⟨b, 0, none⟩)] W fun e w' => e = .returned (.tuple #[.agg s.cells, .int .i64 er]) ∧ Hid (KS w w' b d) := by
  have h0 := h
  obtain ⟨F, h1, h2, h3⟩ := h
  refine (load_any hT hW h1 h8).mono fun e w' hp => ⟨?_, h0.below hp.2⟩
  rw [← hs, ← he]
  exact hp.1
theorem newD_short (n m : Nat) (h : m < 1000000) : Short (newD n) m := fun i => by
  show ((List.replicate n [(0 : SB)]).getD i []).length + m ≤ 1000000
  rw [List.getD_eq_getElem?_getD, List.getElem?_replicate]
  split
  · simp; omega
  · simp; omega
theorem Short.wrAll (k : Nat) (l : List UInt8) : ∀ (n i : Nat) {d : RD} {m : Nat}, Short d (m + n) → Short (wrK d k l n i).2 m
  | 0, _, _, _, h => h
  | n + 1, i, d, m, h => by
    rw [wrK]
    split
    · exact Short.wrAll k l n (i + 1) (Short.wr (m := m + n) h _ _)
    · exact h.moves.less (by omega)
theorem Short.save {d : RD} {m : Nat} (h : Short d (m + 5)) (hl : Live d) (h8 : 8 ≤ d.s.length) (s : SU) (hm : s.may = true) (hm9 : m < 999990) : Short (saveK d s).2 m := by
  unfold saveK
  rw [if_pos hm]
  split
  · split
    · refine Short.flush ?_ (by omega)
      exact Short.wrAll _ _ 4 0 (h.wipe (m := m + 4) (by omega) _)
    · exact Short.wrAll _ _ 4 0 (h.wipe (m := m + 4) (by omega) _)
  · exact (h.wipe (m := m + 4) (by omega) _).less (by omega)
end Go.Proofs.YtoclhiaidbfheaaGreatDoor.Q
end

section
set_option linter.unusedVariables false
namespace Go.Proofs.YtoclhiaidbfheaaGreatDoor.Q
open Go.RowKit

theorem sectors_nil (w : World) : Calls Tryz.prog 74 #[.pointer none] w fun e w' => e = .returned (.int .i64 0) ∧ w' = w := by
  go_enter Tryz.func74, Tryz.ntmps74
  go_wp2_with (go_at_call 135; refine (none_nil _).mono ?_; rintro e w' ⟨rfl, rfl⟩)
  go_ret
  exact ⟨rfl, rfl⟩
set_option maxRecDepth 100000 in
set_option maxHeartbeats 4000000 in
theorem read_nil (w : World) (k : Int) : Calls Tryz.prog 194 #[.pointer none, .int .i64 k] w fun e w' => e = .returned (.tuple #[.agg (cells8 noughts).toArray, .int .i64 1]) ∧ Below w.heap.size w w' := by
  have hz := blk_zero
  have hcs := cells8_size noughts
  have HP := Lib.hid (fun (W : World) => place_nil W k (sectors_nil W))
  have HB := Lib.hid ((Below.refl _ w).alloc (Nat.le_refl _) (.cells (cells8 noughts).toArray 151))
  have HNEW := Lib.hid (heap_alloc_new w (.cells (cells8 noughts).toArray 151))
  go_enter Tryz.func194, Tryz.ntmps194
  go_wp2_with (first
    | (go_at_call 141; (with_reducible refine (HP.out _).mono ?_); rintro e w1 ⟨rfl, rfl⟩)
    | refine wpList_store_row rfl 151 (.tmp 4) (.tmp 16) rfl w.heap.size (cells8 noughts).toArray rfl rfl 151 (cells8 noughts).toArray HNEW.out (by rw [blk_sz _ noughts_len]; simp) rfl (all_oneCell_toArray (cells8_one _)) ?_
    | fail)
  exact bodyPost_ret (results_cell_tmp rfl _ _ w.heap.size 151 (cells8 noughts).toArray (0, 0) _ (.int .i64 1) rfl rfl (setRow_heap _ _ _ _ _ _ HNEW.out) blk_u rfl (by rw [blk_sz _ noughts_len]; simp)) rfl ⟨rfl, below_setRow HB.out (Nat.le_refl _) _⟩
set_option maxRecDepth 100000 in
set_option maxHeartbeats 4000000 in
theorem load_nil (w : World) : Calls Tryz.prog 139 #[.pointer none] w fun e w' => e = .returned (.tuple #[.agg zeroSC, .int .i64 1]) ∧ Below w.heap.size w w' := by
  have hzs := sup_zero
  have hz2 := blk_zero
  have hnc : (cells8 noughts).length = 256 := by rw [cells8_length, noughts_len]
  have hst := fun w => store_blk w noughts noughts noughts_len noughts_len
  have HL0 : Hid (LL w ((w.alloc (.cells zeroSC 144)).alloc (.cells zeroSC 144)) zeroSU) := by
    have hn := heap_alloc_new (w.alloc (.cells zeroSC 144)) (.cells zeroSC 144)
    rw [World.size_alloc] at hn
    exact Lib.hid ⟨(Below.heap_alloc _ _ _ (by simp)).trans (heap_alloc_new w _), hn, (((Below.refl _ w).alloc (Nat.le_refl _) _).alloc (by simp) _)⟩
  go_enter Tryz.func139, Tryz.ntmps139
  go_wp2_with fail
  go_loopw [9] (fun j wr => j = .int .i64 0 ∧ Hid (LL w wr zeroSU)) (fun j _ => 0)
  case atStart => exact ⟨rfl, HL0.out⟩
  case round =>
    obtain ⟨rfl, HLL⟩ := hrel
    go_wp2_with (first
      | (go_at_call 194; (with_reducible refine (read_nil _ _).mono ?_); rintro e w1 ⟨rfl, hb1⟩; have HL1 := Lib.hid ((HLL.out.below hb1).below ((Below.refl _ w1).alloc (Nat.le_refl _) (.cells (cells8 noughts).toArray 151))); clear hb1)
      | refine wpList_store_row rfl 144 (.tmp 2) (.tmp 20) rfl w.heap.size zeroSC rfl rfl 144 zeroSC HL1.out.n (sup_info zeroSU) rfl (by simp [zeroSC, Value.oneCell']) ?_
      | fail)
    exact bodyPost_ret (results_cell_tmp rfl _ _ w.heap.size 144 zeroSC (0, 0) _ (.int .i64 1) rfl rfl (setRow_heap _ _ _ _ _ _ HL1.out.n) Tryz.underlying144 rfl (sup_info zeroSU)) rfl ⟨rfl, below_setRow HL1.out.bel (Nat.le_refl _) _⟩
end Go.Proofs.YtoclhiaidbfheaaGreatDoor.Q
end

section
set_option linter.unusedVariables false
namespace Go.Proofs.YtoclhiaidbfheaaGreatDoor.Q
open Go.RowKit
/-- a block is written on a living disk -/
theorem Live.writeK {d : RD} (h : Live d) (k : Nat) (hk : k * 4 + 4 ≤ d.s.length) (l : List UInt8) (hl : l.length = 256) : (Q.writeK d k l).1 = 0 ∧ Live (Q.writeK d k l).2 ∧ (Q.writeK d k l).2.s.length = d.s.length ∧ blkAt (Q.writeK d k l).2 k = l ∧ ∀ j, j ≠ k → j * 4 + 4 ≤ d.s.length → blkAt (Q.writeK d k l).2 j = blkAt d j := by
  obtain ⟨v1, v2, v3⟩ := h.wrK k l 4 0 (by omega)
  have vl : (Q.writeK d k l).2.s.length = d.s.length := wrK_len k l 4 0 d
  refine ⟨v1, v2, vl, ?_, fun j hj hj4 => ?_⟩
  · rw [blkAt_last _ _ (by omega)]
    show (lastD (Q.wrK d k l 4 0).2 _).1 ++ (lastD (Q.wrK d k l 4 0).2 _).1 ++ (lastD (Q.wrK d k l 4 0).2 _).1 ++ (lastD (Q.wrK d k l 4 0).2 _).1 = l
    rw [v3, v3, v3, v3, if_pos (by omega), if_pos (by omega), if_pos (by omega), if_pos (by omega)]
    rw [show k * 4 - k * 4 = 0 by omega, show k * 4 + 1 - k * 4 = 1 by omega, show k * 4 + 2 - k * 4 = 2 by omega, show k * 4 + 3 - k * 4 = 3 by omega]
    exact parts_all l hl
  · rw [blkAt_last _ _ (by omega), blkAt_last _ _ hj4]
    show (lastD (Q.wrK d k l 4 0).2 _).1 ++ (lastD (Q.wrK d k l 4 0).2 _).1 ++ (lastD (Q.wrK d k l 4 0).2 _).1 ++ (lastD (Q.wrK d k l 4 0).2 _).1 = _
    rw [v3, v3, v3, v3, if_neg (by omega), if_neg (by omega), if_neg (by omega), if_neg (by omega)]
theorem KS.write {w W : World} {b : Nat} {d : RD} (h : KS w W b d) (k : Nat) (hk : hasK d (k : Int)) (l : List UInt8) (hl : l.length = 256) (hs : Short d 4) {er : Int} (he : (writeK d k l).1 = er) :
    Calls Tryz.prog 78 #[.pointer (some ⟨b, 0, none⟩), .int .i64 (k : Int), .agg (cells8 l).toArray] W fun e w' => e = .returned (.int .i64 er) ∧ Hid (KS w w' b (writeK d k l).2) := by
  obtain ⟨F, h1, h2, h3⟩ := h
  refine (write_any' h1 k hk l hl hs).mono fun e w' hp => ⟨?_, KS.done h3 h2 hp⟩
  rw [← he]
  exact hp.1
theorem KS.read {w W : World} {b : Nat} {d : RD} (h : KS w W b d) (k : Nat) (hk : hasK d (k : Int)) :
    Calls Tryz.prog 194 #[.pointer (some ⟨b, 0, none⟩), .int .i64 (k : Int)] W fun e w' => e = .returned (.tuple #[.agg (cells8 (blkAt d k)).toArray, .int .i64 0]) ∧ Hid (KS w w' b d) := by
  have h0 := h
  obtain ⟨F, h1, h2, h3⟩ := h
  exact (read_any' h1 k hk).mono fun e w' hp => ⟨hp.1, h0.below hp.2⟩
theorem KS.read_out {w W : World} {b : Nat} {d : RD} (h : KS w W b d) (k : Int) (hk : ¬ hasK d k) :
    Calls Tryz.prog 194 #[.pointer (some ⟨b, 0, none⟩), .int .i64 k] W fun e w' => e = .returned (.tuple #[.agg (cells8 noughts).toArray, .int .i64 2]) ∧ Hid (KS w w' b d) := by
  have h0 := h
  obtain ⟨F, h1, h2, h3⟩ := h
  exact (Q.read_out h1 k hk).mono fun e w' hp => ⟨hp.1, h0.below hp.2⟩
end Go.Proofs.YtoclhiaidbfheaaGreatDoor.Q
end
