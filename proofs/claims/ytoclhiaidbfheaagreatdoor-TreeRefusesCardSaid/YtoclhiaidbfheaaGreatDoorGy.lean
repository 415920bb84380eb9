/- store: writePages, of a living disk. store: what Format leaves on a living disk (no program). store: the counts of a page's block are the page's (no program). store: a disk that is written while a call runs, and rows that are made beside it. store: Format of a living disk. store: page.Of of a page's own block. -/
import Derived.Test.YtoclhiaidbfheaaGreatDoorGx
import Derived.Deep.DeepCutAuto
import Derived.Deep.RegionHeld3
import Derived.Laws.CopyOwn
section
set_option linter.unusedVariables false
namespace Go.Proofs.YtoclhiaidbfheaaGreatDoor.S
open Go.RowKit Q

theorem wp_store_run {P : Program} {op : Oper} {a : Act} {w : World} {K : Act → World → Prop} {Q : Exit → Act → World → Prop} (ty : TypeId) (x y : Operand) (ho : op.op = .store ty x y)
    (b o : Nat) (v : Value) (w' : World) (hx : a.eval x = .pointer (some ⟨b, o, none⟩)) (hy : a.eval y = v) (hs : (storeVar ty ⟨b, o, none⟩ v).run P w = .ok () w')
    (h : K (a.put op.dst undef) w') : op.wp P a w K Q := by
  unfold Oper.wp execOp
  simp only [ho, hx, hy, Instr.storeAt, Instr.sureAddr, Sem.run_bind, Sem.run_pure, Result.andThen_ok, hs]
  exact h
theorem blk_sz8 (l : List UInt8) (h : l.length = 256) : (Tryz.prog.info? 151).map (·.size) = some (cells8 l).toArray.size := by rw [cells8_size, h]; kernel_rfl
theorem store_box {w : World} {b : Nat} (X Y : List UInt8) (hx : X.length = 256) (hy : Y.length = 256) (h : w.heap[b]? = some (.cells (cells8 X).toArray 151 (0, 0))) :
    (storeVar 151 ⟨b, 0, none⟩ (.agg (cells8 Y).toArray)).run Tryz.prog w = .ok () (w.setRow b (cells8 Y).toArray) :=
  run_storeVar_row w b 151 151 _ _ h (blk_sz8 Y hy) (by rw [cells8_size, cells8_size, hx, hy]) (cells8_all _)
theorem setRow_at {w : World} {b : Nat} {cs ds : Array Value} {t : TypeId} {fr : Nat × Nat} (h : w.heap[b]? = some (.cells cs t fr)) : (w.setRow b ds).heap[b]? = some (.cells ds t fr) := setRow_heap w b _ _ t _ h
def six (N : Nat → Nat) : Array Value := #[.int .u32 (N 0 : Int), .int .u32 (N 1 : Int), .int .u32 (N 2 : Int), .int .u32 (N 3 : Int), .int .u32 (N 4 : Int), .int .u32 (N 5 : Int)]
theorem Shows_up {w W : World} {A : Option Addr} {n : Nat} {xs : List Value} (hs : Shows w w.heap.size A n xs) (hb : Below w.heap.size w W) : Shows W W.heap.size A n xs := ⟨hs.len, fun hp => by
  obtain ⟨p, e1, e2, e3⟩ := hs.lies hp
  refine ⟨p, e1, Nat.lt_of_lt_of_le e2 hb.size, fun j u hu => ?_⟩
  rw [← e3 j u hu]
  exact hb.cell (p := p.add j) (by rw [addr_block]; exact e2)⟩
theorem six_at (N : Nat → Nat) (i : Nat) (hi : i < 6) : (six N)[i]? = some (.int .u32 (N i : Int)) := by
  rcases i with _ | _ | _ | _ | _ | _ | i
  all_goals first | rfl | omega
theorem newOf {B : Nat} {w W : World} (h : Below B w W) (o : Obj) : (W.alloc o).heap[W.heap.size]? = some o := heap_alloc_new W o
/-- the box of a page's block -/
def PB (wr W : World) (X : List UInt8) (bb : Nat) : Prop := wr.heap.size ≤ bb ∧ Below wr.heap.size wr W ∧ W.heap[bb]? = some (.cells (cells8 X).toArray 151 (0, 0))
set_option maxRecDepth 100000 in
set_option maxHeartbeats 8000000 in
theorem wpages_live {w0 w : World} {F : Nat → Prop} {b : Nat} {d : RD} (hT : Tabs w0) (hb0 : Below w0.heap.size w0 w) (hF0 : ∀ j, F j → w0.heap.size ≤ j) (h : PD w F b d) (hl : Live d) (N : Nat → Nat) (hN : ∀ i, i < 6 → N i < 4294967296) (q : Nat) (L : Nat → List Nat) (A : Nat → Option Addr) (c : Nat → Nat)
    (hq : ¬ F q) (hc : ∀ a, a < 2 → w.cell? ⟨q, a, none⟩ = some (.slice (A a) (L a).length (c a))) (hA : ∀ a, a < 2 → Shows w w.heap.size (A a) (L a).length (K.nums16 (L a))) (hF : ∀ a, a < 2 → ∀ p, A a = some p → ¬ F p.block)
    (hB : ∀ a, a < 2 → (∀ k ∈ L a, k < 65536) ∧ 1 ≤ (L a).length ∧ (L a).length ≤ 1010 ∧ (L a).length ≤ c a) (h6 : at0 L 2 ≤ 6) (hfit : ∀ i, i < at0 L 2 → (2 + N i) * 4 + 4 ≤ d.s.length) (hs : Short d 30) :
    Calls Tryz.prog 79 #[.pointer (some ⟨b, 0, none⟩), .agg (six N), .slice (some ⟨q, 0, none⟩) 2 2] w (PDone w F b 0 (wrAll d N L 2)) := by
  have HTW : Hid (∀ W, Stays w W F → Tabs W) := Lib.hid (fun W hs => hT.below (hb0.trans (hs.below hb0.size hF0)) hT.size)
  have HNW := Lib.hid (heap_alloc_new w (.cells (six N) 140))
  have HBX := Lib.hid ((Below.refl w.heap.size w).alloc (Nat.le_refl _) (.cells (six N) 140))
  have HS1 := Lib.hid (show (w.alloc (.cells (six N) 140)).heap.size = w.heap.size + 1 by simp)
  have HPX := Lib.hid (h.below HBX.out)
  have HFW := Lib.hid (fun j (hj : F j) => h.lt hj)
  have HC := Lib.hid hc
  have HA := Lib.hid hA
  have HFA := Lib.hid hF
  have HBB := Lib.hid hB
  have HQ := Lib.hid hq
  obtain ⟨S6, hS6⟩ : ∃ S6, six N = S6 := ⟨_, rfl⟩
  rw [hS6] at HNW HBX HS1 HPX ⊢
  have hs6 : S6.size = 6 := by rw [← hS6]; rfl
  have hqs : q < w.heap.size := block_lt_of_cell (hc 0 (by omega))
  clear h hc hA hF hB hq hT hb0 hF0
  go_enter Tryz.func79, Tryz.ntmps79
  go_wp2
  go_loopw [16, 7] (fun j t wr => ∃ (a k : Nat) (FI : Nat → Prop), a ≤ 2 ∧ j = .int .i64 (a : Int) ∧ t = .int .i64 (k : Int) ∧ Hid (k = at0 L a ∧ PD wr FI b (wrAll d N L a) ∧ (∀ j, FI j → F j ∨ w.heap.size < j) ∧ Stays (w.alloc (.cells S6 140)) wr F)) (fun j _ _ => 2 - (intOf j).toNat)
  case atStart => exact ⟨0, 0, F, by omega, rfl, rfl, rfl, HPX.out, fun _ h => .inl h, Stays.refl _ _⟩
  case round =>
    obtain ⟨a, at_, FI, ha, rfl, rfl, HI⟩ := hrel
    by_cases hlt : a < 2
    · have hltI : (a : Int) < 2 := by omega
      obtain ⟨hat, hp, hf, hsy⟩ := HI.out
      have HAT := Lib.hid hat
      have hqb := (hsy.block q (by rw [HS1.out]; omega) HQ.out).trans (HBX.out.block q hqs)
      have hcq : wr.cell? ⟨q, a, none⟩ = some (.slice (A a) (L a).length (c a)) := by
        rw [← HC.out a hlt]
        unfold World.cell?
        rw [hqb]
      obtain ⟨hb1, hb2, hb3, hb4⟩ := HBB.out a hlt
      have HPG := Lib.hid (fun W => K.pages_any W (((L a).length : Nat) : Int) (by omega))
      rw [Int.toNat_natCast] at HPG
      have hpn : at0 L (a + 1) = at_ + K.pagesN (L a).length := by rw [hat]; rfl
      have hle2 : at0 L (a + 1) ≤ 6 := by
        refine Nat.le_trans ?_ h6
        rcases a with _ | _ | a
        · show at0 L 1 ≤ at0 L 1 + _; omega
        · exact Nat.le_refl _
        · omega
      have hfa : ∀ i, i < at0 L (a + 1) → (2 + N i) * 4 + 4 ≤ d.s.length := fun i hi => hfit i (Nat.lt_of_lt_of_le hi (by
        rcases a with _ | _ | a
        · show at0 L 1 ≤ at0 L 1 + _; omega
        · exact Nat.le_refl _
        · omega))
      have hE : wrAll d N L (a + 1) = wrPgs (wrAll d N L a) N (L a) at_ (K.pagesN (L a).length) := by rw [hat]; rfl
      have hEl : Live (wrAll d N L a) ∧ (wrAll d N L a).s.length = d.s.length ∧ Short (wrAll d N L a) (30 - 4 * at_) := by
        obtain ⟨e1, e2⟩ := wrAll_live hl N L a (fun i hi => hfa i (Nat.lt_of_lt_of_le hi (by show at0 L a ≤ at0 L a + _; omega)))
        exact ⟨e1, e2, wrAll_short N L a _ (hs.less (by rw [← hat]; omega))⟩
      have HE := Lib.hid hE
      have HPN := Lib.hid hpn
      have HFI := Lib.hid hfa
      have HL6 := Lib.hid hle2
      have HEL := Lib.hid hEl
      clear hpn hE hfa hle2 hEl hat
      obtain ⟨pn, hpn⟩ : ∃ pn, K.pagesN (L a).length = pn := ⟨_, rfl⟩
      rw [hpn] at HPG HE HPN
      obtain ⟨l, hll⟩ : ∃ l, L a = l := ⟨_, rfl⟩
      have hLA := HA.out a hlt
      rw [hll] at hcq HPG hb1 hb2 hb3 hb4 HE hLA
      obtain ⟨c1, hc1⟩ : ∃ x, c a = x := ⟨_, rfl⟩
      obtain ⟨A1, hA1⟩ : ∃ x, A a = x := ⟨_, rfl⟩
      have hFA1 := HFA.out a hlt
      rw [hc1] at hcq hb4
      rw [hA1] at hcq hLA hFA1
      have HLA := Lib.hid hLA
      have HFA1 := Lib.hid hFA1
      obtain ⟨Ea, hEa⟩ : ∃ E, wrAll d N L a = E := ⟨_, rfl⟩
      rw [hEa] at hp HE HEL
      have hHP := Lib.hid hp
      have hHF := Lib.hid hf
      have hHS := Lib.hid hsy
      clear hp hf hsy hqb HI hLA hFA1 hc1 hA1 hll hpn HA HFA HBB HC
      go_wp2_with (first
        | (go_at_call 138; (with_reducible refine (HPG.out _).mono ?_); rintro e w1 ⟨rfl, rfl⟩)
        | fail)
      have HS0 := Lib.hid (Stays.of_below (HBX.out) F)
      go_loopw [23, 7] (fun j t wi => ∃ (i k : Nat) (FJ : Nat → Prop), i ≤ pn ∧ j = .int .i64 (i : Int) ∧ t = .int .i64 (k : Int) ∧ Hid (k = at_ + i ∧ PD wi FJ b (wrPgs Ea N l at_ i) ∧ (∀ j, FJ j → F j ∨ w.heap.size < j) ∧ Stays (w.alloc (.cells S6 140)) wi F)) (fun j _ _ => pn - (intOf j).toNat)
      case atStart => exact ⟨0, at_, FI, Nat.zero_le _, rfl, rfl, rfl, hHP.out, hHF.out, hHS.out⟩
      case round =>
        obtain ⟨i, k, FJ, hi, rfl, rfl, HJ⟩ := hrel
        by_cases hli : i < pn
        · have hliI : (i : Int) < (pn : Int) := by omega
          obtain ⟨hk, hp, hf, hsy⟩ := HJ.out
          have hk6 : k < 6 := by have := HL6.out; rw [HPN.out] at this; omega
          have hk6I : (k : Int) < 6 := by omega
          have hbx := (hsy.block w.heap.size (by rw [HS1.out]; omega) (fun e => by have := HFW.out _ e; omega)).trans HNW.out
          have hcN : wr.drew.cell? ⟨w.heap.size, k, none⟩ = some (.int .u32 (N k : Int)) := by
            show wr.cell? _ = _
            rw [Joins.cell_of_block hbx, ← hS6]; exact six_at N _ hk6
          have hbx0 : w.heap.size < wr.heap.size := (Array.getElem?_eq_some_iff.1 hbx).1
          have HBX0 := Lib.hid hbx0
          have HCN := Lib.hid hcN
          have hsyW := (HS0.out).trans hsy (fun _ h => .inl h)
          have hTr := HTW.out wr hsyW
          have hshA : Shows wr wr.heap.size A1 l.length (K.nums16 l) := ⟨HLA.out.len, fun hp => by
              obtain ⟨p, e1, e2, e3⟩ := HLA.out.lies hp
              refine ⟨p, e1, Nat.lt_of_lt_of_le e2 hsyW.size, fun j u hu => ?_⟩
              rw [← e3 j u hu]
              have hbb := hsyW.block p.block e2 (HFA1.out p e1)
              unfold World.cell?
              rw [addr_block, hbb]⟩
          have hno := hN k hk6
          have hok : okP (i : Int) 120 = true := decide_eq_true ⟨by omega, by have := HL6.out; rw [HPN.out] at this; omega, by omega⟩
          obtain ⟨X, hX⟩ : ∃ X, pg (N k) i l = X := ⟨_, rfl⟩
          have hXl : X.length = 256 := by rw [← hX]; exact pg_len _ _ _
          have HPT : Hid (∀ W, Below wr.heap.size wr.drew W → Calls Tryz.prog 144 #[.slice A1 l.length c1, .int .i64 (i : Int)] W fun e w' => ∃ g, e = .returned (.slice (some ⟨g, 0, none⟩) 120 120) ∧ K.Holds16 w' g 309 (K.partL l (i : Int)) ∧ Below W.heap.size W w' ∧ g < w'.heap.size) := Lib.hid (fun W hb => by
            have := K.part_any W A1 l c1 hb3 hb4 (Shows_up hshA ⟨hb.os, hb.tape, hb.output, hb.size, hb.block⟩) (i : Int)
            exact this.mono fun e w' h => ⟨_, h⟩)
          have HBL : Hid (∀ W g, Below wr.heap.size wr.drew W → K.Holds16 W g 309 (K.partL l (i : Int)) → Calls Tryz.prog 143 #[.int .u32 (N k : Int), .int .i64 (i : Int), .slice (some ⟨g, 0, none⟩) 120 120] W fun e w' => e = .returned (.tuple #[.agg (cells8 X).toArray, .int .i64 0]) ∧ Below W.heap.size W w') := Lib.hid (fun W g hb hh => by
            have hlen := K.partL_length l (i : Int)
            have := vblock_any W ((hTr.below ((Below.refl wr.heap.size wr).drew) hTr.size).below hb hTr.size) (N k) (i : Int) hno (K.partL l (i : Int)) (partL_small hb1 _) (some ⟨g, 0, none⟩) 120 (by have := hh.shows; rw [hlen]; rw [hlen] at this; exact this)
            rw [hlen, hok] at this
            rw [← hX]
            exact this)
          have HK := Lib.hid hk
          have hHP2 := Lib.hid hp
          have hHF2 := Lib.hid hf
          have hHS2 := Lib.hid hsyW
          have hHS3 := Lib.hid hsy
          have HXE := Lib.hid hX
          have HXL := Lib.hid hXl
          have hzb := blk_zero
          have hX8 : (cells8 X).length = 256 := by rw [cells8_length, hXl]
          have hnb : (cells8 noughts).length = 256 := by rw [cells8_length, noughts_len]
          clear hk hp hf hsy hsyW hTr hshA hno hok hX hXl HJ hbx hbx0
          go_upto_region 8 with fail
          go_cut [11, 12] (fun pb pe W => ∃ bb, pb = .pointer (some ⟨bb, 0, none⟩) ∧ pe = .int .i64 0 ∧ Hid (PB wr W X bb))
          case first =>
            refine wp_region_noPanic ?_
            refine wp_region_held_drew (S := fun W => Below wr.heap.size wr.drew W ∧ W.cell? ⟨w.heap.size, k, none⟩ = some (.int .u32 (N k : Int))) (by kernel_rfl) ⟨Below.refl _ _, hcN⟩ (fun hHeld => ?_)
            refine takeN (i := 0) (oi := _) (v := .int .i64 (k : Int)) 27 rfl rfl (by kernel_rfl) (by kernel_rfl) (by kernel_rfl) (fun _ _ _ h => h) (Or.inl ⟨by rfl, fun w2 hSw => by go_simp⟩) hHeld ?_
            try simp only [Act.put, List.setIfInBounds_toArray, List.set_cons_zero, List.set_cons_succ]
            refine takeN (i := 1) (oi := _) (v := .pointer (some ⟨w.heap.size, k, none⟩)) 28 rfl rfl (by kernel_rfl) (by kernel_rfl) (by kernel_rfl) (fun _ _ _ h => h) (Or.inl ⟨by rfl, fun w2 hSw => by go_simp⟩) hHeld ?_
            try simp only [Act.put, List.setIfInBounds_toArray, List.set_cons_zero, List.set_cons_succ]
            refine takeN (i := 2) (oi := _) (v := .int .u32 (N k : Int)) 29 rfl rfl (by kernel_rfl) (by kernel_rfl) (by kernel_rfl) (fun _ _ _ h => h) (Or.inl ⟨by rfl, fun w2 hSw => by (have hc := hSw.2; go_simp)⟩) hHeld ?_
            try simp only [Act.put, List.setIfInBounds_toArray, List.set_cons_zero, List.set_cons_succ]
            refine takeN (i := 3) (oi := _) (v := .int .i64 (i : Int)) 30 rfl rfl (by kernel_rfl) (by kernel_rfl) (by kernel_rfl) (fun _ _ _ h => h) (Or.inl ⟨by rfl, fun w2 hSw => by go_simp⟩) hHeld ?_
            try simp only [Act.put, List.setIfInBounds_toArray, List.set_cons_zero, List.set_cons_succ]
            refine takeN (i := 4) (oi := _) (v := .slice A1 l.length c1) 31 rfl rfl (by kernel_rfl) (by kernel_rfl) (by kernel_rfl) (fun _ _ _ h => h) (Or.inl ⟨by rfl, fun w2 hSw => by go_simp⟩) hHeld ?_
            try simp only [Act.put, List.setIfInBounds_toArray, List.set_cons_zero, List.set_cons_succ]
            refine takeN (i := 5) (oi := _) (v := .int .i64 (i : Int)) 32 rfl rfl (by kernel_rfl) (by kernel_rfl) (by kernel_rfl) (fun _ _ _ h => h) (Or.inl ⟨by rfl, fun w2 hSw => by go_simp⟩) hHeld ?_
            try simp only [Act.put, List.setIfInBounds_toArray, List.set_cons_zero, List.set_cons_succ]
            refine wpAnyH_ready (rs := [6, 11]) (by kernel_rfl) (by simp) ?_
            refine AllReadyH.cons rfl (fun K hK => ?_) (AllReadyH.cons rfl (fun K hK => ?_) AllReadyH.nil)
            · go_simp
              go_wp2_with (first
                | (go_at_call 144; (with_reducible refine (HPT.out _ hHeld.1).mono ?_); rintro e wp ⟨g, rfl, hh2, hb2, hg2⟩)
                | fail)
              have HH2 := Lib.hid hh2
              have HB2 := Lib.hid (hHeld.1.trans (hb2.mono hHeld.1.size))
              have hSp : Below wr.heap.size wr.drew wp ∧ wp.cell? ⟨w.heap.size, k, none⟩ = some (.int .u32 (N k : Int)) := ⟨HB2.out, (HB2.out.cell (p := ⟨w.heap.size, k, none⟩) HBX0.out).trans HCN.out⟩
              refine hK.out _ _ hSp (fun hHeld => ?_)
              clear hK K hSp hh2 hb2 hg2
              try simp only [Act.put, List.setIfInBounds_toArray, List.set_cons_zero, List.set_cons_succ]
              refine wpAnyH_ready (rs := [7, 11]) (by kernel_rfl) (by simp) ?_
              refine AllReadyH.cons rfl (fun K hK => ?_) (AllReadyH.cons rfl (fun K hK => ?_) AllReadyH.nil)
              · go_simp
                go_wp2_with (first
                  | (go_at_call 143; (with_reducible refine (HBL.out _ _ hHeld.1 HH2.out).mono ?_); rintro e wq ⟨rfl, hb3⟩)
                  | fail)
                have HB3 := Lib.hid (hHeld.1.trans (hb3.mono hHeld.1.size))
                refine hK.out _ _ ⟨HB3.out, (HB3.out.cell (p := ⟨w.heap.size, k, none⟩) HBX0.out).trans HCN.out⟩ (fun hHeld => ?_)
                clear hK K hb3
                try simp only [Act.put, List.setIfInBounds_toArray, List.set_cons_zero, List.set_cons_succ]
                refine takeN (i := 8) (oi := _) (v := .tuple #[.agg (cells8 X).toArray, .int .i64 0]) 26 rfl rfl (by kernel_rfl) (by kernel_rfl) (by kernel_rfl) (fun _ _ _ h => h) (Or.inl ⟨by rfl, fun w2 hSw => by go_simp⟩) hHeld ?_
                try simp only [Act.put, List.setIfInBounds_toArray, List.set_cons_zero, List.set_cons_succ]
                refine takeN (i := 9) (oi := _) (v := .agg (cells8 X).toArray) 35 rfl rfl (by kernel_rfl) (by kernel_rfl) (by kernel_rfl) (fun _ _ _ h => h) (Or.inl ⟨by rfl, fun w2 hSw => by go_simp⟩) hHeld ?_
                try simp only [Act.put, List.setIfInBounds_toArray, List.set_cons_zero, List.set_cons_succ]
                refine takeN (i := 10) (oi := _) (v := .int .i64 0) 36 rfl rfl (by kernel_rfl) (by kernel_rfl) (by kernel_rfl) (fun _ _ _ h => h) (Or.inl ⟨by rfl, fun w2 hSw => by go_simp⟩) hHeld ?_
                try simp only [Act.put, List.setIfInBounds_toArray, List.set_cons_zero, List.set_cons_succ]
                refine wpAnyH_ready (rs := [11]) (by kernel_rfl) (by simp) ?_
                refine AllReadyH.cons rfl (fun K hK => ?_) AllReadyH.nil
                go_simp
                have HBA := Lib.hid (hHeld.1.alloc hHeld.1.size (.cells (cells8 noughts).toArray 151))
                have HBOX := Lib.hid (newOf hHeld.1 (.cells (cells8 noughts).toArray 151))
                refine hK.out _ _ ⟨HBA.out, (HBA.out.cell (p := ⟨w.heap.size, k, none⟩) HBX0.out).trans HCN.out⟩ (fun hHeld => ?_)
                clear hK K
                try simp only [Act.put, List.setIfInBounds_toArray, List.set_cons_zero, List.set_cons_succ]
                refine wpAnyH_ready (rs := [12]) (by kernel_rfl) (by simp) ?_
                refine AllReadyH.cons rfl (fun K hK => ?_) AllReadyH.nil
                rw [if_pos (by rfl)]
                refine wp_store_run 151 (.tmp 11) (.tmp 35) rfl _ 0 (.agg (cells8 X).toArray) _ (by rfl) (by rfl) (store_box noughts X noughts_len HXL.out HBOX.out) ?_
                have HBZ := Lib.hid (below_setRow hHeld.1 HB3.out.size (cells8 X).toArray)
                have HBY := Lib.hid (setRow_at (ds := (cells8 X).toArray) HBOX.out)
                refine hK.out _ _ ⟨HBZ.out, (HBZ.out.cell (p := ⟨w.heap.size, k, none⟩) HBX0.out).trans HCN.out⟩ (fun hHeld => ?_)
                clear hK K
                try simp only [Act.put, List.setIfInBounds_toArray]
                refine takeN (i := 13) (oi := _) (v := .int .i64 0) 12 rfl rfl (by kernel_rfl) (by kernel_rfl) (by kernel_rfl) (fun _ _ _ h => h) (Or.inl ⟨by rfl, fun w2 hSw => by go_simp⟩) hHeld ?_
                try simp only [Act.put]
                refine wpAnyH_done (by kernel_rfl) ?_ _
                refine NoPanic.normal ?_
                go_wp2_with fail
                go_meet
                exact ⟨_, rfl, rfl, HB3.out.size, ((Below.refl wr.heap.size wr).drew).trans HBZ.out, HBY.out⟩
              · go_simp
                have HBA := Lib.hid (hHeld.1.alloc hHeld.1.size (.cells (cells8 noughts).toArray 151))
                have HBOX := Lib.hid (newOf hHeld.1 (.cells (cells8 noughts).toArray 151))
                refine hK.out _ _ ⟨HBA.out, (HBA.out.cell (p := ⟨w.heap.size, k, none⟩) HBX0.out).trans HCN.out⟩ (fun hHeld => ?_)
                clear hK K
                try simp only [Act.put, List.setIfInBounds_toArray, List.set_cons_zero, List.set_cons_succ]
                have HH3 := Lib.hid (HH2.out.alloc (.cells (cells8 noughts).toArray 151))
                refine wpAnyH_ready (rs := [7]) (by kernel_rfl) (by simp) ?_
                refine AllReadyH.cons rfl (fun K hK => ?_) AllReadyH.nil
                go_simp
                go_wp2_with (first
                  | (go_at_call 143; (with_reducible refine (HBL.out _ _ hHeld.1 HH3.out).mono ?_); rintro e wq ⟨rfl, hb3⟩)
                  | fail)
                have hbx3 := (hb3.block _ ((Array.getElem?_eq_some_iff.1 HBOX.out).1)).trans HBOX.out
                clear HBOX
                have HBOX := Lib.hid hbx3
                clear hbx3
                have HB3 := Lib.hid (hHeld.1.trans (hb3.mono hHeld.1.size))
                refine hK.out _ _ ⟨HB3.out, (HB3.out.cell (p := ⟨w.heap.size, k, none⟩) HBX0.out).trans HCN.out⟩ (fun hHeld => ?_)
                clear hK K hb3
                try simp only [Act.put, List.setIfInBounds_toArray, List.set_cons_zero, List.set_cons_succ]
                refine takeN (i := 8) (oi := _) (v := .tuple #[.agg (cells8 X).toArray, .int .i64 0]) 26 rfl rfl (by kernel_rfl) (by kernel_rfl) (by kernel_rfl) (fun _ _ _ h => h) (Or.inl ⟨by rfl, fun w2 hSw => by go_simp⟩) hHeld ?_
                try simp only [Act.put, List.setIfInBounds_toArray, List.set_cons_zero, List.set_cons_succ]
                refine takeN (i := 9) (oi := _) (v := .agg (cells8 X).toArray) 35 rfl rfl (by kernel_rfl) (by kernel_rfl) (by kernel_rfl) (fun _ _ _ h => h) (Or.inl ⟨by rfl, fun w2 hSw => by go_simp⟩) hHeld ?_
                try simp only [Act.put, List.setIfInBounds_toArray, List.set_cons_zero, List.set_cons_succ]
                refine takeN (i := 10) (oi := _) (v := .int .i64 0) 36 rfl rfl (by kernel_rfl) (by kernel_rfl) (by kernel_rfl) (fun _ _ _ h => h) (Or.inl ⟨by rfl, fun w2 hSw => by go_simp⟩) hHeld ?_
                try simp only [Act.put, List.setIfInBounds_toArray, List.set_cons_zero, List.set_cons_succ]
                refine wpAnyH_ready (rs := [12]) (by kernel_rfl) (by simp) ?_
                refine AllReadyH.cons rfl (fun K hK => ?_) AllReadyH.nil
                rw [if_pos (by rfl)]
                refine wp_store_run 151 (.tmp 11) (.tmp 35) rfl _ 0 (.agg (cells8 X).toArray) _ (by rfl) (by rfl) (store_box noughts X noughts_len HXL.out HBOX.out) ?_
                have HBZ := Lib.hid (below_setRow hHeld.1 HB2.out.size (cells8 X).toArray)
                have HBY := Lib.hid (setRow_at (ds := (cells8 X).toArray) HBOX.out)
                refine hK.out _ _ ⟨HBZ.out, (HBZ.out.cell (p := ⟨w.heap.size, k, none⟩) HBX0.out).trans HCN.out⟩ (fun hHeld => ?_)
                clear hK K
                try simp only [Act.put, List.setIfInBounds_toArray]
                refine takeN (i := 13) (oi := _) (v := .int .i64 0) 12 rfl rfl (by kernel_rfl) (by kernel_rfl) (by kernel_rfl) (fun _ _ _ h => h) (Or.inl ⟨by rfl, fun w2 hSw => by go_simp⟩) hHeld ?_
                try simp only [Act.put]
                refine wpAnyH_done (by kernel_rfl) ?_ _
                refine NoPanic.normal ?_
                go_wp2_with fail
                go_meet
                exact ⟨_, rfl, rfl, HB2.out.size, ((Below.refl wr.heap.size wr).drew).trans HBZ.out, HBY.out⟩
            · have HSZ0 := Lib.hid (hHeld.1.size : wr.drew.heap.size ≤ _)
              go_simp
              have HBA := Lib.hid (hHeld.1.alloc hHeld.1.size (.cells (cells8 noughts).toArray 151))
              have HBOX := Lib.hid (newOf hHeld.1 (.cells (cells8 noughts).toArray 151))
              refine hK.out _ _ ⟨HBA.out, (HBA.out.cell (p := ⟨w.heap.size, k, none⟩) HBX0.out).trans HCN.out⟩ (fun hHeld => ?_)
              clear hK K
              try simp only [Act.put, List.setIfInBounds_toArray, List.set_cons_zero, List.set_cons_succ]
              refine wpAnyH_ready (rs := [6]) (by kernel_rfl) (by simp) ?_
              refine AllReadyH.cons rfl (fun K hK => ?_) AllReadyH.nil
              go_simp
              go_wp2_with (first
                | (go_at_call 144; (with_reducible refine (HPT.out _ hHeld.1).mono ?_); rintro e wp ⟨g, rfl, hh2, hb2, hg2⟩)
                | fail)
              have hbx2 := (hb2.block _ ((Array.getElem?_eq_some_iff.1 HBOX.out).1)).trans HBOX.out
              clear HBOX
              have HBOX := Lib.hid hbx2
              clear hbx2
              have HH2 := Lib.hid hh2
              have HB2 := Lib.hid (hHeld.1.trans (hb2.mono hHeld.1.size))
              have hSp : Below wr.heap.size wr.drew wp ∧ wp.cell? ⟨w.heap.size, k, none⟩ = some (.int .u32 (N k : Int)) := ⟨HB2.out, (HB2.out.cell (p := ⟨w.heap.size, k, none⟩) HBX0.out).trans HCN.out⟩
              refine hK.out _ _ hSp (fun hHeld => ?_)
              clear hK K hSp hh2 hb2 hg2
              try simp only [Act.put, List.setIfInBounds_toArray, List.set_cons_zero, List.set_cons_succ]
              refine wpAnyH_ready (rs := [7]) (by kernel_rfl) (by simp) ?_
              refine AllReadyH.cons rfl (fun K hK => ?_) AllReadyH.nil
              go_simp
              go_wp2_with (first
                | (go_at_call 143; (with_reducible refine (HBL.out _ _ hHeld.1 HH2.out).mono ?_); rintro e wq ⟨rfl, hb3⟩)
                | fail)
              have hbx3 := (hb3.block _ ((Array.getElem?_eq_some_iff.1 HBOX.out).1)).trans HBOX.out
              clear HBOX
              have HBOX := Lib.hid hbx3
              clear hbx3
              have HB3 := Lib.hid (hHeld.1.trans (hb3.mono hHeld.1.size))
              refine hK.out _ _ ⟨HB3.out, (HB3.out.cell (p := ⟨w.heap.size, k, none⟩) HBX0.out).trans HCN.out⟩ (fun hHeld => ?_)
              clear hK K hb3
              try simp only [Act.put, List.setIfInBounds_toArray, List.set_cons_zero, List.set_cons_succ]
              refine takeN (i := 8) (oi := _) (v := .tuple #[.agg (cells8 X).toArray, .int .i64 0]) 26 rfl rfl (by kernel_rfl) (by kernel_rfl) (by kernel_rfl) (fun _ _ _ h => h) (Or.inl ⟨by rfl, fun w2 hSw => by go_simp⟩) hHeld ?_
              try simp only [Act.put, List.setIfInBounds_toArray, List.set_cons_zero, List.set_cons_succ]
              refine takeN (i := 9) (oi := _) (v := .agg (cells8 X).toArray) 35 rfl rfl (by kernel_rfl) (by kernel_rfl) (by kernel_rfl) (fun _ _ _ h => h) (Or.inl ⟨by rfl, fun w2 hSw => by go_simp⟩) hHeld ?_
              try simp only [Act.put, List.setIfInBounds_toArray, List.set_cons_zero, List.set_cons_succ]
              refine takeN (i := 10) (oi := _) (v := .int .i64 0) 36 rfl rfl (by kernel_rfl) (by kernel_rfl) (by kernel_rfl) (fun _ _ _ h => h) (Or.inl ⟨by rfl, fun w2 hSw => by go_simp⟩) hHeld ?_
              try simp only [Act.put, List.setIfInBounds_toArray, List.set_cons_zero, List.set_cons_succ]
              refine wpAnyH_ready (rs := [12]) (by kernel_rfl) (by simp) ?_
              refine AllReadyH.cons rfl (fun K hK => ?_) AllReadyH.nil
              rw [if_pos (by rfl)]
              refine wp_store_run 151 (.tmp 11) (.tmp 35) rfl _ 0 (.agg (cells8 X).toArray) _ (by rfl) (by rfl) (store_box noughts X noughts_len HXL.out HBOX.out) ?_
              have HBZ := Lib.hid (below_setRow hHeld.1 HSZ0.out (cells8 X).toArray)
              have HBY := Lib.hid (setRow_at (ds := (cells8 X).toArray) HBOX.out)
              refine hK.out _ _ ⟨HBZ.out, (HBZ.out.cell (p := ⟨w.heap.size, k, none⟩) HBX0.out).trans HCN.out⟩ (fun hHeld => ?_)
              clear hK K
              try simp only [Act.put, List.setIfInBounds_toArray]
              refine takeN (i := 13) (oi := _) (v := .int .i64 0) 12 rfl rfl (by kernel_rfl) (by kernel_rfl) (by kernel_rfl) (fun _ _ _ h => h) (Or.inl ⟨by rfl, fun w2 hSw => by go_simp⟩) hHeld ?_
              try simp only [Act.put]
              refine wpAnyH_done (by kernel_rfl) ?_ _
              refine NoPanic.normal ?_
              go_wp2_with fail
              go_meet
              exact ⟨_, rfl, rfl, HSZ0.out, ((Below.refl wr.heap.size wr).drew).trans HBZ.out, HBY.out⟩
          case rest =>
            obtain ⟨bb, rfl, rfl, HPB⟩ := hcut
            clear hcN
            have hpn6 : (pn : Int) ≤ 6 := by have := HL6.out; rw [HPN.out] at this; omega
            obtain ⟨hpb1, hpb2, hpb3⟩ := HPB.out
            have hcNc : wc.drew.cell? ⟨w.heap.size, k, none⟩ = some (.int .u32 (N k : Int)) := by
              have := (hpb2.cell (p := ⟨w.heap.size, k, none⟩) HBX0.out).trans HCN.out
              exact this
            have hPc : PD wc.drew FJ b (wrPgs Ea N l at_ i) := hHP2.out.below (hpb2.drew)
            have hnF : ∀ j, FJ j → j < wr.heap.size := fun j hj => hHP2.out.lt hj
            have hElive := wrPgs_live HEL.out.1 N l at_ i (fun j hj => by rw [HEL.out.2.1]; exact HFI.out _ (by rw [HPN.out]; omega))
            have hfitk : (2 + N k) * 4 + 4 ≤ d.s.length := HFI.out k (by rw [HPN.out, HK.out]; omega)
            have hhas : hasK (wrPgs Ea N l at_ i) ((2 + N k : Nat) : Int) := ⟨by omega, by rw [hElive.2, HEL.out.2.1]; omega⟩
            have hsh : Short (wrPgs Ea N l at_ i) 4 := wrPgs_short N l at_ i 4 (HEL.out.2.2.less (by have := HL6.out; rw [HPN.out] at this; omega))
            have hw0 : (writeK (wrPgs Ea N l at_ i) (2 + N k) X).1 = 0 := (hElive.1.writeK (2 + N k) (by rw [hElive.2, HEL.out.2.1]; exact hfitk) X HXL.out).1
            have hWR := write_any' hPc (2 + N k) hhas X HXL.out hsh
            rw [hw0] at hWR
            have hnext : (writeK (wrPgs Ea N l at_ i) (2 + N k) X).2 = wrPgs Ea N l at_ (i + 1) := by show _ = (writeK (wrPgs Ea N l at_ i) (2 + N (at_ + i)) (pg (N (at_ + i)) i l)).2; rw [← HK.out, ← HXE.out]
            rw [hnext] at hWR
            have HWR := Lib.hid hWR
            have HMA := Lib.hid (metaAt_any wc.drew (N k) (hN k hk6))
            have hnI : ((2 + N k : Nat) : Int) = 2 + (N k : Int) := by omega
            rw [hnI] at HWR
            have HHE := Lib.hid hnF
            have HPB3 := Lib.hid hpb3
            have hwl : wc.drew.rangeAt bb 0 (cells8 X) := by have := range_of hpb3; simpa using this
            have hbbl : bb < wc.heap.size := (Array.getElem?_eq_some_iff.1 hpb3).1
            have HWB := Lib.hid hpb2
            have HWS := Lib.hid hpb1
            clear hpb1 hpb2 hpb3 hPc hnF hElive hfitk hhas hsh hw0 hWR hnext hnI
            go_wp2_with fail
            refine wp_region_noPanic ?_
            refine wp_region_held_drew (S := fun W => W.cell? ⟨w.heap.size, k, none⟩ = some (.int .u32 (N k : Int)) ∧ W.rangeAt bb 0 (cells8 X)) (by kernel_rfl) ⟨hcNc, hwl⟩ (fun hHeld => ?_)
            refine takeN (i := 0) (oi := _) (v := .pointer (some ⟨b, 0, none⟩)) 40 rfl rfl (by kernel_rfl) (by kernel_rfl) (by kernel_rfl) (fun _ _ _ h => h) (Or.inl ⟨by rfl, fun w2 hSw => by go_simp⟩) hHeld ?_
            try simp only [Act.put, List.setIfInBounds_toArray, List.set_cons_zero, List.set_cons_succ]
            refine takeN (i := 1) (oi := _) (v := .int .i64 (k : Int)) 41 rfl rfl (by kernel_rfl) (by kernel_rfl) (by kernel_rfl) (fun _ _ _ h => h) (Or.inl ⟨by rfl, fun w2 hSw => by go_simp⟩) hHeld ?_
            try simp only [Act.put, List.setIfInBounds_toArray, List.set_cons_zero, List.set_cons_succ]
            refine takeN (i := 2) (oi := _) (v := .pointer (some ⟨w.heap.size, k, none⟩)) 42 rfl rfl (by kernel_rfl) (by kernel_rfl) (by kernel_rfl) (fun _ _ _ h => h) (Or.inl ⟨by rfl, fun w2 hSw => by go_simp⟩) hHeld ?_
            try simp only [Act.put, List.setIfInBounds_toArray, List.set_cons_zero, List.set_cons_succ]
            refine takeN (i := 3) (oi := _) (v := .int .u32 (N k : Int)) 43 rfl rfl (by kernel_rfl) (by kernel_rfl) (by kernel_rfl) (fun _ _ _ h => h) (Or.inl ⟨by rfl, fun w2 hSw => by (have hc := hSw.1; go_simp)⟩) hHeld ?_
            try simp only [Act.put, List.setIfInBounds_toArray, List.set_cons_zero, List.set_cons_succ]
            have hu := Tryz.underlying151
            refine takeN (i := 5) (oi := _) 45 rfl rfl (by kernel_rfl) (by kernel_rfl) (by kernel_rfl) (fun _ _ _ h => h) (yieldsIf_load_mid (by rfl) 151 (.tmp 11) rfl bb 0 rfl (cells8 X) _ (fun w2 hSw => hSw.2) hu rfl (blk_sz X HXL.out)) hHeld ?_
            try simp only [Act.put, List.setIfInBounds_toArray, List.set_cons_zero, List.set_cons_succ]
            clear hu
            refine wpAnyH_ready (rs := [4]) (by kernel_rfl) (by simp) ?_
            refine AllReadyH.cons rfl (fun K hK => ?_) AllReadyH.nil
            go_simp
            go_wp2_with (first
              | (go_at_call 145; (with_reducible refine HMA.out.mono ?_); rintro e wm ⟨rfl, rfl⟩)
              | fail)
            refine hK.out _ _ hHeld (fun hHeld => ?_)
            clear hK K
            try simp only [Act.put, List.setIfInBounds_toArray, List.set_cons_zero, List.set_cons_succ]
            refine wpAnyH_ready (rs := [6]) (by kernel_rfl) (by simp) ?_
            refine AllReadyH.cons rfl (fun K hK => ?_) AllReadyH.nil
            go_simp
            go_wp2_with (first
              | (go_at_call 78; (with_reducible refine HWR.out.mono ?_); rintro e ww ⟨rfl, FK, hk1, hk2, hk3⟩)
              | fail)
            have hSk : ww.cell? ⟨w.heap.size, k, none⟩ = some (.int .u32 (N k : Int)) ∧ ww.rangeAt bb 0 (cells8 X) := by
              constructor
              · rw [← hcNc]; unfold World.cell?; rw [hk3.block w.heap.size (Nat.lt_of_lt_of_le HBX0.out HWB.out.size) (fun e => (hHF2.out _ e).elim (fun e1 => by have := HFW.out _ e1; omega) (fun e1 => by omega))]
              · exact range_of ((hk3.block bb hbbl (fun e => by have := HHE.out _ e; have := HWS.out; omega)).trans HPB3.out)
            refine hK.out _ _ hSk (fun hHeld => ?_)
            clear hK K hSk
            try simp only [Act.put, List.setIfInBounds_toArray, List.set_cons_zero, List.set_cons_succ]
            refine takeN (i := 7) (oi := _) (v := .int .i64 0) 13 rfl rfl (by kernel_rfl) (by kernel_rfl) (by kernel_rfl) (fun _ _ _ h => h) (Or.inl ⟨by rfl, fun w2 hSw => by go_simp⟩) hHeld ?_
            try simp only [Act.put, List.setIfInBounds_toArray, List.set_cons_zero, List.set_cons_succ]
            refine wpAnyH_done (by kernel_rfl) ?_ _
            refine NoPanic.normal ?_
            have HK1 := Lib.hid hk1
            have HK2 := Lib.hid hk2
            have HK3 := Lib.hid hk3
            clear hk1 hk2 hk3
            go_wp2_with fail
            go_roundw
            case rel =>
              refine ⟨i + 1, k + 1, FK, by omega, by go_num, by go_num, by rw [HK.out]; omega, HK1.out, fun j hj => ?_, ?_⟩
              · rcases HK2.out j hj with e | e
                · exact hHF2.out j e
                · right; have := HWB.out.size; have h0 := HBX0.out; exact Nat.lt_of_lt_of_le h0 (Nat.le_trans this e)
              · exact hHS3.out.trans ((Stays.of_below HWB.out.drew FJ).trans HK3.out (fun _ e => .inl e)) (fun j hj => (hHF2.out j hj).imp id (fun e => by rw [HS1.out]; omega))
            case measure => simp [intOf]; omega
        · obtain rfl : i = pn := by omega
          have hnI : ¬ (i : Int) < (i : Int) := by omega
          go_wp2
          go_roundw
          case rel => exact ⟨a + 1, k, FJ, by omega, by go_num, rfl, by rw [HPN.out]; exact HJ.out.1, by rw [HE.out]; exact HJ.out.2.1, HJ.out.2.2⟩
          case measure => simp [intOf]; omega
    · obtain rfl : a = 2 := by omega
      have hnI : ¬ ((2 : Nat) : Int) < 2 := by omega
      go_wp2
      go_ret
      obtain ⟨_, hp, hf, hsy⟩ := HI.out
      exact ⟨rfl, FI, hp, fun j hj => (hf j hj).imp id Nat.le_of_lt, (Stays.of_below HBX.out F).trans hsy (fun _ e => .inl e)⟩
end Go.Proofs.YtoclhiaidbfheaaGreatDoor.S
end

section
set_option linter.unusedVariables false
namespace Go.Proofs.YtoclhiaidbfheaaGreatDoor.S
open Go.RowKit Q

/-- the first k pages' blocks: 1, 2, .. -/
def pagesTo (k i : Nat) : Nat := if i < k then i + 1 else 0
theorem pagesTo_le (k i : Nat) : pagesTo k i ≤ k := by unfold pagesTo; split <;> omega
theorem pagesTo_in {k i : Nat} (h : i < k) : pagesTo k i = i + 1 := if_pos h
theorem pagesTo_out {k i : Nat} (h : ¬ i < k) : pagesTo k i = 0 := if_neg h
/-- the first superblock, when k pages stand in it -/
def firstTo (m dd k : Nat) : SU := ⟨1, m, dd, pagesTo k 0, pagesTo k 1, pagesTo k 2, pagesTo k 3, pagesTo k 4, pagesTo k 5, 0, 0, 0, 0, 0, 0, 0, 0, 0, false⟩
def pgs (m dd : Nat) : Nat := K.pagesN m + K.pagesN dd
theorem Areas.pgs {m dd : Nat} (h : Areas m dd) : 2 ≤ S.pgs m dd ∧ S.pgs m dd ≤ 6 := by
  have := h.pages; have := h.m0; have := h.d0
  unfold S.pgs K.pagesN at *
  omega
def firstU (m dd : Nat) : SU := firstTo m dd (pgs m dd)
theorem firstTo_fits (m dd k : Nat) (h : k ≤ 6) : (firstTo m dd k).fits := by
  have := fun i => pagesTo_le k i
  have h0 := this 0; have h1 := this 1; have h2 := this 2; have h3 := this 3; have h4 := this 4; have h5 := this 5
  refine ⟨by show (1 : Nat) < _; omega, ?_, by simp [firstTo]⟩
  show pagesTo k 0 < _ ∧ pagesTo k 1 < _ ∧ pagesTo k 2 < _ ∧ pagesTo k 3 < _ ∧ pagesTo k 4 < _ ∧ pagesTo k 5 < _ ∧ 0 < _ ∧ 0 < _ ∧ 0 < _
  omega
theorem firstU_may {m dd : Nat} (h : Areas m dd) : (firstU m dd).may = true := by
  have := h.m0; have := h.m1; have := h.d0; have := h.d1
  have h6 := h.pgs
  refine mayS_yes ⟨⟨by show (16 : Int) ≤ (m : Int); omega, by show (m : Int) ≤ _; omega, by show (1 : Int) ≤ (dd : Int); omega, by show (dd : Int) ≤ _; omega⟩, ?_, by show 1 ≤ 1 ∧ 1 ≤ 4611686018427387904; omega, by show (0 : Int) ≤ 0 ∧ (0 : Int) < (dd : Int); omega⟩
  intro p hp
  show (p : Int) < (m : Int)
  have hh : ∀ i, pagesTo (S.pgs m dd) i ≤ 6 := fun i => Nat.le_trans (pagesTo_le _ i) h6.2
  have : p ≤ 6 := by
    simp only [firstU, firstTo, List.mem_cons, List.not_mem_nil, or_false] at hp
    rcases hp with rfl | rfl | rfl | rfl | rfl | rfl | rfl | rfl | rfl
    all_goals first | exact hh _ | omega
  omega
/-- the metadata area's counts: the block 0's, and those of the first k pages' -/
def cnt (m k : Nat) : List Nat := (List.range m).map fun i => if i ≤ k then 1 else 0
theorem cnt_length (m k : Nat) : (cnt m k).length = m := by simp [cnt]
theorem cnt_get (m k i : Nat) (h : i < m) : (cnt m k).getD i 0 = if i ≤ k then 1 else 0 := by simp [cnt, List.getD, h]
theorem cnt_le (m k : Nat) : ∀ x ∈ cnt m k, x ≤ 1 := by
  intro x hx
  obtain ⟨i, _, rfl⟩ := List.mem_map.1 hx
  split <;> omega
theorem cnt_set (m k : Nat) : (cnt m k).set (k + 1) 1 = cnt m (k + 1) := by
  apply List.ext_getElem (by simp [cnt])
  intro i h1 h2
  rw [List.getElem_set]
  simp only [cnt, List.getElem_map, List.getElem_range]
  by_cases e : k + 1 = i
  · subst e; rw [if_pos rfl, if_pos (Nat.le_refl _)]
  · rw [if_neg e]
    by_cases g : i ≤ k
    · rw [if_pos g, if_pos (by omega)]
    · rw [if_neg g, if_neg (by omega)]
theorem cnt_zero (m : Nat) : (List.replicate m 0).set 0 1 = cnt m 0 := by
  apply List.ext_getElem (by simp [cnt])
  intro i h1 h2
  rw [List.getElem_set]
  simp only [cnt, List.getElem_map, List.getElem_range, List.getElem_replicate]
  by_cases e : 0 = i
  · subst e; rw [if_pos rfl, if_pos (Nat.le_refl _)]
  · rw [if_neg e, if_neg (by omega)]
/-- both areas' counts -/
def LF (m dd : Nat) : Nat → List Nat
  | 0 => cnt m (pgs m dd)
  | _ => List.replicate dd 0
theorem at0_1 (m dd : Nat) : at0 (LF m dd) 1 = K.pagesN m := by
  show 0 + K.pagesN (cnt m (pgs m dd)).length = _
  rw [cnt_length, Nat.zero_add]
theorem at0_2 (m dd : Nat) : at0 (LF m dd) 2 = pgs m dd := by
  show at0 (LF m dd) 1 + K.pagesN (List.replicate dd 0).length = _
  rw [at0_1, List.length_replicate]; rfl
/-- the disk behind its pages were written, ahead of the flush -/
def fmA (d : RD) : RD := (writeK (wipeN d (loadS d).tx 2) 0 noughts).2
def fmB (d : RD) (m dd : Nat) : RD := wrAll (fmA d) (pagesTo (pgs m dd)) (LF m dd) 2
def fmtD (d : RD) (m dd : Nat) : RD := (saveK (flD (fmB d m dd)) (firstU m dd)).2
theorem flD_blk {d : RD} (h : Live d) (k : Nat) (hk : k * 4 + 4 ≤ d.s.length) : blkAt (flD d) k = blkAt d k := by
  obtain ⟨_, _, h3⟩ := h.fl
  rw [blkAt_last _ _ (by rw [flD_len]; exact hk), blkAt_last _ _ hk, h3, h3, h3, h3]
theorem fmA_live {d : RD} (h : Live d) (h8 : 8 ≤ d.s.length) : Live (fmA d) ∧ (fmA d).s.length = d.s.length ∧ blkAt (fmA d) 0 = noughts ∧ (writeK (wipeN d (loadS d).tx 2) 0 noughts).1 = 0 := by
  obtain ⟨h1, h2⟩ := wipeN_live h h8 (loadS d).tx 2
  obtain ⟨g1, g2, g3, g4, _⟩ := h1.writeK 0 (by rw [h2]; omega) noughts noughts_len
  exact ⟨g2, g3.trans h2, g4, g1⟩
theorem fit_at {d : RD} {m dd : Nat} (ha : Areas m dd) (hs : 4 * (2 + m + dd) ≤ d.s.length) (i : Nat) (hi : i < pgs m dd) : (2 + pagesTo (pgs m dd) i) * 4 + 4 ≤ d.s.length := by
  have := pagesTo_le (pgs m dd) i
  have := ha.pgs
  have := ha.m0
  omega
theorem numAt_tx (l : List UInt8) : numAt l 0 = (blkS l).tx := rfl
structure Fmt (d' : RD) (n m dd : Nat) : Prop where
  live : Live d'
  len : d'.s.length = n
  load : loadS d' = firstU m dd
  err : ldE d' = 0
  pm : ∀ i, i < K.pagesN m → blkAt d' (2 + (i + 1)) = pg (i + 1) i (cnt m (pgs m dd))
  pd : ∀ i, i < K.pagesN dd → blkAt d' (2 + (K.pagesN m + i + 1)) = pg (K.pagesN m + i + 1) i (List.replicate dd 0)
set_option maxHeartbeats 4000000 in
theorem fmt_facts {d : RD} {m dd : Nat} (h : Live d) (ha : Areas m dd) (hs : 4 * (2 + m + dd) ≤ d.s.length) : (saveK (flD (fmB d m dd)) (firstU m dd)).1 = 0 ∧ Fmt (fmtD d m dd) d.s.length m dd := by
  have hm0 := ha.m0
  have h6 := ha.pgs
  obtain ⟨a1, a2, a3, _⟩ := fmA_live h (by omega)
  have fit : ∀ i, i < pgs m dd → (2 + pagesTo (pgs m dd) i) * 4 + 4 ≤ (fmA d).s.length := fun i hi => by rw [a2]; exact fit_at ha hs i hi
  have hpn : pgs m dd = K.pagesN m + K.pagesN dd := rfl
  have e0 : (LF m dd 0).length = m := cnt_length _ _
  have e1 : (LF m dd 1).length = dd := List.length_replicate
  -- the first area's
  obtain ⟨b1, b2⟩ := wrPgs_live a1 (pagesTo (pgs m dd)) (LF m dd 0) 0 (K.pagesN m) (fun i hi => by rw [Nat.zero_add]; exact fit i (by omega))
  obtain ⟨b3, b4⟩ := wrPgs_at a1 (pagesTo (pgs m dd)) (LF m dd 0) 0 (K.pagesN m) (fun i hi => by rw [Nat.zero_add]; exact fit i (by omega)) (fun i j hi hj e => by rw [Nat.zero_add, Nat.zero_add, pagesTo_in (by omega), pagesTo_in (by omega)] at e; omega)
  obtain ⟨D1, hD1⟩ : ∃ x, wrPgs (fmA d) (pagesTo (pgs m dd)) (LF m dd 0) 0 (K.pagesN m) = x := ⟨_, rfl⟩
  rw [hD1] at b1 b2 b3 b4
  have eB : fmB d m dd = wrPgs D1 (pagesTo (pgs m dd)) (LF m dd 1) (K.pagesN m) (K.pagesN dd) := by
    show wrPgs (wrPgs (fmA d) _ (LF m dd 0) 0 (K.pagesN (LF m dd 0).length)) _ (LF m dd 1) (at0 (LF m dd) 1) (K.pagesN (LF m dd 1).length) = _
    rw [at0_1, e0, e1, hD1]
  obtain ⟨c1, c2⟩ := wrPgs_live b1 (pagesTo (pgs m dd)) (LF m dd 1) (K.pagesN m) (K.pagesN dd) (fun i hi => by rw [b2]; exact fit _ (by omega))
  obtain ⟨c3, c4⟩ := wrPgs_at b1 (pagesTo (pgs m dd)) (LF m dd 1) (K.pagesN m) (K.pagesN dd) (fun i hi => by rw [b2]; exact fit _ (by omega)) (fun i j hi hj e => by rw [pagesTo_in (by omega), pagesTo_in (by omega)] at e; omega)
  rw [← eB] at c1 c2 c3 c4
  have lB : (fmB d m dd).s.length = d.s.length := by rw [c2, b2, a2]
  have lF : (flD (fmB d m dd)).s.length = d.s.length := by rw [flD_len, lB]
  obtain ⟨_, f1, _⟩ := c1.fl
  have hmay := firstU_may ha
  have hf : (firstU m dd).fits := firstTo_fits m dd _ h6.2
  have txU : (firstU m dd).tx = 1 := rfl
  have eD : fmtD d m dd = (saveK (flD (fmB d m dd)) (firstU m dd)).2 := rfl
  rw [eD]
  clear eD
  obtain ⟨U, hU⟩ : ∃ U, firstU m dd = U := ⟨_, rfl⟩
  rw [hU] at hmay hf txU ⊢
  obtain ⟨s1, s2, s3, _⟩ := f1.save (by omega) U hmay
  obtain ⟨t1, t2⟩ := f1.saved (by omega) U hmay
  rw [txU] at t1 t2
  obtain ⟨D, hD⟩ : ∃ D, (saveK (flD (fmB d m dd)) U).2 = D := ⟨_, rfl⟩
  rw [hD] at t1 t2 s2 s3 ⊢
  have T : ∀ k, k ≠ 1 → k * 4 + 4 ≤ d.s.length → blkAt D k = blkAt (fmB d m dd) k := fun k hk hk4 => (t2 k (by omega) (by rw [lF]; exact hk4)).trans (flD_blk c1 k (by rw [lB]; exact hk4))
  have z0 : blkAt D 0 = noughts := by
    rw [T 0 (by omega) (by omega), c4 0 (by omega) (fun i hi => by omega), b4 0 (by omega) (fun i hi => by omega)]
    exact a3
  have z1 : blkAt D 1 = U.img := t1
  have o1 := SU.of_img hf hmay
  have k1 : blkS U.img = U := SU.back hf hmay
  have n1 : numAt U.img 0 = 1 := by rw [numAt_tx, k1, txU]
  have g1 : bestN D 1 = zeroSU := by
    show nextS zeroSU (blkAt D 0) 0 = _
    have : takeS zeroSU (blkAt D 0) 0 = false := by rw [takeS, z0, ofB_noughts, Bool.false_and, Bool.false_and]
    rw [nextS, this]
  have g2 : loadS D = U := by
    show nextS (bestN D 1) (blkAt D 1) 1 = _
    rw [g1]
    have : takeS zeroSU (blkAt D 1) 1 = true := by rw [takeS, z1, o1, n1]; rfl
    rw [nextS, this, z1]
    exact k1
  refine ⟨s1, s2, s3.trans lF, g2.trans hU.symm, by rw [ldE, g2, txU]; rfl, fun i hi => ?_, fun i hi => ?_⟩
  · have e := pagesTo_in (k := pgs m dd) (i := i) (by omega)
    rw [T _ (by omega) (by omega), c4 _ (by rw [b2, a2]; omega) (fun j hj => by rw [pagesTo_in (by omega)]; omega)]
    have := b3 i hi
    rw [Nat.zero_add, e] at this
    exact this
  · have e := pagesTo_in (k := pgs m dd) (i := K.pagesN m + i) (by omega)
    rw [T _ (by omega) (by omega)]
    have := c3 i hi
    rw [e] at this
    exact this
/-- the bound of pasts -/
theorem fmt_short {d : RD} {m dd : Nat} (h : Live d) (ha : Areas m dd) (hs : 4 * (2 + m + dd) ≤ d.s.length) {n : Nat} (hn : n < 900000) (hd : Short d (n + 100)) : Short (fmA d) (n + 90) ∧ Short (fmB d m dd) (n + 60) ∧ Short (flD (fmB d m dd)) (n + 50) ∧ Short (fmtD d m dd) n := by
  have hm0 := ha.m0
  have h6 := ha.pgs
  have h1 : Short (wipeN d (loadS d).tx 2) (n + 94) := by
    have : ∀ i, i ≤ 2 → Short (wipeN d (loadS d).tx i) (n + 100 - i) := by
      intro i
      induction i with
      | zero => intro _; exact hd
      | succ i ih =>
        intro hi
        have := ih (by omega)
        rw [show n + 100 - i = (n + 100 - (i + 1)) + 1 by omega] at this
        exact Short.flush (this.wr _ _) (by omega)
    exact (this 2 (by omega)).less (by omega)
  have h2 : Short (fmA d) (n + 90) := Short.wrAll 0 noughts 4 0 (m := n + 90) (by exact h1)
  have h3 : Short (fmB d m dd) (n + 60) := wrAll_short (d := fmA d) _ _ 2 (n + 60) (h2.less (by rw [at0_2]; omega))
  have h4 : Short (flD (fmB d m dd)) (n + 50) := Short.flush (h3.less (by omega)) (by omega)
  obtain ⟨a1, a2, _⟩ := fmA_live h (by omega)
  obtain ⟨b1, b2⟩ := wrAll_live a1 (pagesTo (pgs m dd)) (LF m dd) 2 (fun i hi => by rw [at0_2] at hi; rw [a2]; exact fit_at ha hs i hi)
  obtain ⟨_, f1, _⟩ := Live.fl (d := fmB d m dd) b1
  refine ⟨h2, h3, h4, ?_⟩
  exact Short.save (h4.less (by omega)) f1 (by rw [flD_len]; show 8 ≤ (fmB d m dd).s.length; rw [show (fmB d m dd).s.length = d.s.length from b2.trans a2]; omega) _ (firstU_may ha) (by omega)
end Go.Proofs.YtoclhiaidbfheaaGreatDoor.S
end

section
set_option linter.unusedVariables false
namespace Go.Proofs.YtoclhiaidbfheaaGreatDoor.S
open Go.RowKit Q

theorem cntB_at (l : List Nat) (i : Nat) : ∀ (k : Nat) (r : List UInt8), i < k → ((cntB l k ++ r).drop (2 * i)).take 2 = leN 2 (l.getD i 0)
  | 0, _, h => by omega
  | k + 1, r, h => by
    rw [cntB, List.append_assoc]
    by_cases e : i = k
    · subst e
      rw [List.drop_left' (cntB_length l i), List.take_left' (leN_length 2 _)]
    · exact cntB_at l i k _ (by omega)
theorem drop_at (A B : List UInt8) (n k : Nat) (h : A.length = n) : (A ++ B).drop (n + k) = B.drop k := by
  subst h
  exact List.drop_length_add_append k
theorem cntAt_img (no ix : Nat) (l : List Nat) (h : ∀ k ∈ l, k < 65536) (i : Nat) (hi : i < l.length) : cntAt (imgP no ix l) i = l.getD i 0 := by
  have hl : l.getD i 0 < 65536 := by
    rw [List.getD_eq_getElem?_getD, List.getElem?_eq_getElem hi]
    exact h _ (List.getElem_mem hi)
  unfold cntAt imgP summed padB
  rw [show 16 + 2 * i = 4 + (12 + 2 * i) by omega, drop_at _ _ 4 _ (leN_length 4 _), List.append_assoc, drop_at _ _ 12 _ (headP_length no ix), cntB_at l i _ _ hi, numN_le]
  exact Nat.mod_eq_of_lt hl
theorem cntOf_img (no ix : Nat) (l : List Nat) (h : ∀ k ∈ l, k < 65536) : ∀ n, n ≤ l.length → cntOf (imgP no ix l) n = l.take n
  | 0, _ => by simp [cntOf]
  | n + 1, hn => by
    rw [cntOf, cntOf_img no ix l h n (by omega), cntAt_img no ix l h n (by omega), List.take_add_one, List.getElem?_eq_getElem (by omega), List.getD_eq_getElem?_getD, List.getElem?_eq_getElem (by omega)]
    rfl
/-- a page's block is its own: what is read of it -/
theorem pg_back (no i : Nat) (l : List Nat) (h : ∀ k ∈ l, k < 65536) : cntOf (pg no i l) 120 = K.partL l (i : Int) ∧ imgP no i (cntOf (pg no i l) 120) = pg no i l := by
  have e : cntOf (pg no i l) 120 = K.partL l (i : Int) := by
    unfold pg
    rw [cntOf_img _ _ _ (partL_small h _) 120 (by rw [K.partL_length]; omega)]
    exact List.take_of_length_le (by rw [K.partL_length]; omega)
  exact ⟨e, by rw [e]; rfl⟩
/-- pages of an area, one behind the other -/
theorem parts_flat (l : List Nat) : ∀ n, ((List.range n).map fun (i : Nat) => K.partL l (i : Int)).flatten = K.rowL l 0 (n * 120)
  | 0 => by simp [K.rowL]
  | n + 1 => by
    rw [List.range_succ, List.map_append, List.flatten_append, parts_flat l n, Nat.succ_mul, K.rowL_append, Nat.zero_add]
    simp [K.partL_nat]
theorem rowL_take (l : List Nat) (n : Nat) (h : l.length ≤ n) : (K.rowL l 0 n).take l.length = l ∧ K.anyN ((K.rowL l 0 n).drop l.length) = false := by
  have e : K.rowL l 0 n = l ++ List.replicate (n - l.length) 0 := by
    apply List.ext_getElem (by simp [K.rowL]; omega)
    intro i h1 h2
    simp only [K.rowL, List.getElem_map, List.getElem_range, List.getD_eq_getElem?_getD, Nat.zero_add]
    by_cases hi : i < l.length
    · rw [List.getElem_append_left hi, List.getElem?_eq_getElem hi]; rfl
    · rw [List.getElem_append_right (by omega), List.getElem?_eq_none (by omega), List.getElem_replicate]; rfl
  rw [e]
  exact ⟨List.take_left' rfl, by rw [List.drop_left' rfl]; exact K.anyN_zero _⟩
theorem pagesN_ge (n : Nat) : n ≤ K.pagesN n * 120 := by unfold K.pagesN; omega
/-- how many are free in an area -/
theorem lookN_cnt (m k i : Nat) (h : i < m) : C.lookN (cnt m k) (i : Int) = if i ≤ k then 1 else 0 := by
  rw [← cnt_get m k i h]
  unfold C.lookN
  rw [if_pos ⟨by omega, by rw [cnt_length]; omega⟩, Int.toNat_natCast]
end Go.Proofs.YtoclhiaidbfheaaGreatDoor.S
end

section
set_option linter.unusedVariables false
namespace Go.Proofs.YtoclhiaidbfheaaGreatDoor.S
open Go.RowKit Q

/-- the disk, since the call began -/
def CH (w W : World) (F : Nat → Prop) (b : Nat) (d : RD) : Prop := ∃ F', PD W F' b d ∧ (∀ k, F' k → F k ∨ w.heap.size ≤ k) ∧ Stays w W F
/-- blocks that are none of a disk's stay -/
structure Keep (W w' : World) : Prop where
  size : W.heap.size ≤ w'.heap.size
  at_ : ∀ (k : Nat) (cs : Array Value) (t : TypeId) (fr : Nat × Nat), W.heap[k]? = some (.cells cs t fr) → t ≠ 157 → t ≠ 245 → w'.heap[k]? = some (.cells cs t fr)
theorem Keep.of_below {W w' : World} (h : Below W.heap.size W w') : Keep W w' := ⟨h.size, fun k cs t fr hk _ _ => (h.block k (Array.getElem?_eq_some_iff.1 hk).1).trans hk⟩
theorem CH.here {w : World} {F : Nat → Prop} {b : Nat} {d : RD} (h : PD w F b d) : CH w w F b d := ⟨F, h, fun _ hk => .inl hk, Stays.refl _ _⟩
theorem CH.below {w W W' : World} {F : Nat → Prop} {b : Nat} {d : RD} (h : CH w W F b d) (hb : Below W.heap.size W W') : CH w W' F b d := by
  obtain ⟨F', h1, h2, h3⟩ := h
  exact ⟨F', h1.below hb, h2, h3.trans (Stays.of_below hb F) (fun _ e => .inl e)⟩
/-- a row of the call's own is written -/
theorem CH.row {w W : World} {F : Nat → Prop} {b k : Nat} {d : RD} {cs ds : Array Value} {t : TypeId} {fr : Nat × Nat} (h : CH w W F b d) (hk : W.heap[k]? = some (.cells cs t fr)) (h1 : t ≠ 157) (h2 : t ≠ 245) (hw : w.heap.size ≤ k) : CH w (W.setRow k ds) F b d := by
  obtain ⟨F', g1, g2, g3⟩ := h
  have hn : ∀ j, F' j → j ≠ k := fun j hj e => PKind.not hk h1 h2 (by rw [← e]; exact g1.kind hj)
  have hoth : ∀ j, j ≠ k → (W.setRow k ds).heap[j]? = W.heap[j]? := fun j hj => setRow_other W k j ds (fun e => hj e)
  refine ⟨F', g1.on (fun j hj => hoth j (hn j hj)), g2, ⟨g3.os, g3.tape, g3.output, by rw [setRow_size]; exact g3.size, fun j hj hF => ?_⟩⟩
  rw [hoth j (by omega)]
  exact g3.block j hj hF
theorem CH.run {w W : World} {F : Nat → Prop} {b : Nat} {d d' : RD} {er : Int} {f : Nat} {args : Array Value} (h : CH w W F b d) (hc : ∀ F', PD W F' b d → (∀ k, F' k → F k ∨ w.heap.size ≤ k) → Calls Tryz.prog f args W (PDone W F' b er d')) :
    Calls Tryz.prog f args W fun e w' => e = .returned (.int .i64 er) ∧ Hid (CH w w' F b d' ∧ Keep W w') := by
  obtain ⟨F', h1, h2, h3⟩ := h
  refine (hc F' h1 h2).mono ?_
  rintro e w' ⟨rfl, F'', g1, g2, g3⟩
  refine ⟨rfl, ⟨F'', g1, fun k hk => ?_, h3.trans g3 h2⟩, g3.size, fun k cs t fr hk n1 n2 => ?_⟩
  · rcases g2 k hk with e | e
    · exact h2 k e
    · exact .inr (Nat.le_trans h3.size e)
  · rw [g3.block k (Array.getElem?_eq_some_iff.1 hk).1 (fun e => PKind.not hk n1 n2 (h1.kind e))]
    exact hk
theorem CH.done {w W : World} {F : Nat → Prop} {b : Nat} {d : RD} {er : Int} (h : CH w W F b d) : PDone w F b er d (.returned (.int .i64 er)) W := by
  obtain ⟨F', h1, h2, h3⟩ := h
  exact ⟨rfl, F', h1, h2, h3⟩
theorem CH.below0 {w0 w W : World} {F : Nat → Prop} {b : Nat} {d : RD} (h : CH w W F b d) (hb0 : Below w0.heap.size w0 w) (hF0 : ∀ j, F j → w0.heap.size ≤ j) : Below w0.heap.size w0 W := by
  obtain ⟨F', h1, h2, h3⟩ := h
  exact hb0.trans (h3.below hb0.size hF0)
end Go.Proofs.YtoclhiaidbfheaaGreatDoor.S
end

section
set_option linter.unusedVariables false
namespace Go.Proofs.YtoclhiaidbfheaaGreatDoor.S
open Go.RowKit Q

theorem first0 (m dd : Nat) : (firstTo m dd 0).cells = #[.int .u64 1, .int .i64 (m : Int), .int .i64 (dd : Int), .int .u32 0, .int .u32 0, .int .u32 0, .int .u32 0, .int .u32 0, .int .u32 0, .int .u32 0, .int .u32 0, .int .u32 0, .int .i64 0, .int .u64 0, .int .u64 0, .int .u64 0, .int .u64 0, .int .u64 0, .bool false] := rfl
theorem first_set (m dd i : Nat) (hi : i < 6) : (firstTo m dd i).cells.setIfInBounds (3 + i) (.int .u32 ((i : Int) + 1)) = (firstTo m dd (i + 1)).cells := by
  rcases i with _ | _ | _ | _ | _ | _ | i
  all_goals first | rfl | omega
theorem first_at' (m dd k i : Nat) (hi : i < 6) : (firstTo m dd k).cells[3 + i]? = some (.int .u32 ((pagesTo k i : Nat) : Int)) := by
  rcases i with _ | _ | _ | _ | _ | _ | i
  all_goals first | rfl | omega
theorem first_tx (m dd k : Nat) : (firstTo m dd k).cells[0]? = some (.int .u64 1) := rfl
theorem made16 (n : Nat) : madeCells #[.int .u16 0] n = (nums16 (List.replicate n 0)).toArray := by
  apply Array.ext (by simp [madeCells, nums16])
  intro i h1 h2
  simp [madeCells, nums16, Nat.mod_one]
theorem nums16_set (l : List Nat) (i k : Nat) : (nums16 l).toArray.setIfInBounds i (.int .u16 (k : Int)) = (nums16 (l.set i k)).toArray := by
  simp [nums16, List.map_set]
theorem nums0_cell (m : Nat) (h : 0 < m) : (nums16 (List.replicate m 0)).toArray[0]? = some (.int .u16 0) := by
  rw [List.getElem?_toArray, nums16, List.getElem?_map, List.getElem?_replicate, if_pos h]
  rfl
theorem cnt_cell (m k i : Nat) (h : i < m) : (nums16 (cnt m k)).toArray[i]? = some (.int .u16 (((cnt m k).getD i 0 : Nat) : Int)) := by
  simp [nums16, List.getD, cnt, h]
theorem first_six (m dd k : Nat) {w : World} {b : Nat} (h : w.heap[b]? = some (.cells (firstTo m dd k).cells 144 (0, 0))) : w.rangeAt b 3 (six (pagesTo k)).toList := fun j u hu => by
  have hj : j < 6 := by
    have := (List.getElem?_eq_some_iff.1 hu).1
    simpa [six] using this
  rw [cell_of_row w b (3 + j) _ _ _ h, first_at' m dd k j hj]
  rw [Array.getElem?_toList, six_at _ j hj] at hu
  exact hu
/-- what Format keeps beside the disk: the first superblock, and the metadata area's counts -/
structure FB (W : World) (bx m dd i : Nat) : Prop where
  sup : W.heap[bx]? = some (.cells (firstTo m dd i).cells 144 (0, 0))
  cnt : W.heap[bx + 1]? = some (.cells (nums16 (S.cnt m i)).toArray 161 (0, 0))
theorem FB.keep {W W' : World} {bx m dd i : Nat} (h : FB W bx m dd i) (hk : Keep W W') : FB W' bx m dd i :=
  ⟨hk.at_ _ _ _ _ h.sup (by decide) (by decide), hk.at_ _ _ _ _ h.cnt (by decide) (by decide)⟩
theorem FB.below {W W' : World} {bx m dd i : Nat} (h : FB W bx m dd i) (hb : Below W.heap.size W W') : FB W' bx m dd i := h.keep (Keep.of_below hb)
theorem setCell_row {W : World} {b i : Nat} {cs : Array Value} {t : TypeId} {fr : Nat × Nat} (h : W.heap[b]? = some (.cells cs t fr)) (v : Value) : W.setCell ⟨b, i, none⟩ v = W.setRow b (cs.setIfInBounds i v) := _root_.Go.setCell_eq_setRow W b i cs t fr v h
/-- one more page in the superblock -/
theorem FB.page {w W : World} {F : Nat → Prop} {b bx m dd i : Nat} {d : RD} (h : FB W bx m dd i) (hc : CH w W F b d) (hw : w.heap.size ≤ bx) (hi : i < 6) (hm : i + 1 < m) :
    FB ((W.setCell ⟨bx, 3 + i, none⟩ (.int .u32 ((i : Int) + 1))).setCell ⟨bx + 1, i + 1, none⟩ (.int .u16 1)) bx m dd (i + 1) ∧ CH w ((W.setCell ⟨bx, 3 + i, none⟩ (.int .u32 ((i : Int) + 1))).setCell ⟨bx + 1, i + 1, none⟩ (.int .u16 1)) F b d := by
  have e1 := setCell_row (i := 3 + i) h.sup (.int .u32 ((i : Int) + 1))
  rw [first_set m dd i hi] at e1
  rw [e1]
  have c1 := hc.row (ds := (firstTo m dd (i + 1)).cells) h.sup (by decide) (by decide) hw
  have s1 := setRow_at (ds := (firstTo m dd (i + 1)).cells) h.sup
  have s2 : (W.setRow bx (firstTo m dd (i + 1)).cells).heap[bx + 1]? = _ := (setRow_other W bx (bx + 1) _ (by omega)).trans h.cnt
  have e2 := setCell_row (i := i + 1) s2 (.int .u16 ((1 : Nat) : Int))
  rw [nums16_set, cnt_set] at e2
  have e3 : (.int .u16 1 : Value) = .int .u16 ((1 : Nat) : Int) := rfl
  rw [e3, e2]
  refine ⟨⟨?_, setRow_at s2⟩, c1.row s2 (by decide) (by decide) (by omega)⟩
  rw [setRow_other _ (bx + 1) bx _ (by omega)]
  exact s1
def two {α : Type} (x y : α) : Nat → α
  | 0 => x
  | _ => y
theorem fwrite {w0 w W : World} {F : Nat → Prop} {b bc br q m dd : Nat} {d : RD} (hT : Tabs w0) (hb0 : Below w0.heap.size w0 w) (hF0 : ∀ j, F j → w0.heap.size ≤ j) (hc : CH w W F b (fmA d)) (hv : Live (fmA d)) (hlen : (fmA d).s.length = d.s.length) (ha : Areas m dd) (hs : 4 * (2 + m + dd) ≤ d.s.length) (hsh : Short (fmA d) 30)
    (h1 : W.heap[bc]? = some (.cells (nums16 (cnt m (pgs m dd))).toArray 161 (0, 0))) (h2 : W.heap[br]? = some (.cells (nums16 (List.replicate dd 0)).toArray 161 (0, 0))) (h3 : W.heap[q]? = some (.cells #[.slice (some ⟨bc, 0, none⟩) m m, .slice (some ⟨br, 0, none⟩) dd dd] 160 (0, 0))) :
    Calls Tryz.prog 79 #[.pointer (some ⟨b, 0, none⟩), .agg (six (pagesTo (pgs m dd))), .slice (some ⟨q, 0, none⟩) 2 2] W fun e w' => e = .returned (.int .i64 0) ∧ Hid (CH w w' F b (fmB d m dd) ∧ Keep W w') := by
  have h6 := ha.pgs
  have hm0 := ha.m0; have hm1 := ha.m1; have hd0 := ha.d0; have hd1 := ha.d1
  refine hc.run (fun F' hp hF' => ?_)
  have hb : Below w0.heap.size w0 W := hc.below0 hb0 hF0
  have h0' : ∀ j, F' j → w0.heap.size ≤ j := fun j hj => (hF' j hj).elim (hF0 j) (fun e => Nat.le_trans hb0.size e)
  have hk : ∀ {k : Nat} {cs : Array Value} {t : TypeId}, W.heap[k]? = some (.cells cs t (0, 0)) → t ≠ 157 → t ≠ 245 → ¬ F' k := fun h n1 n2 e => PKind.not h n1 n2 (hp.kind e)
  have e0 : (LF m dd 0).length = m := cnt_length _ _
  have e1 : (LF m dd 1).length = dd := List.length_replicate
  refine wpages_live hT hb h0' hp hv (pagesTo (pgs m dd)) (fun i hi => by have := pagesTo_le (pgs m dd) i; omega) q (LF m dd) (two (some ⟨bc, 0, none⟩) (some ⟨br, 0, none⟩)) (two m dd) (hk h3 (by decide) (by decide)) ?_ ?_ ?_ ?_ (by rw [at0_2]; exact h6.2) (fun i hi => by rw [at0_2] at hi; rw [hlen]; exact fit_at ha hs i hi) hsh
  · intro a ha
    rw [Joins.cell_of_block h3]
    rcases a with _ | _ | a
    · rw [e0]; rfl
    · rw [e1]; rfl
    · omega
  · intro a ha
    rcases a with _ | _ | a
    · exact K.Holds16.shows (t := 161) h1
    · exact K.Holds16.shows (t := 161) h2
    · omega
  · intro a ha p hp
    rcases a with _ | _ | a
    · injection hp with hp; subst hp; exact hk h1 (by decide) (by decide)
    · injection hp with hp; subst hp; exact hk h2 (by decide) (by decide)
    · omega
  · intro a ha
    rcases a with _ | _ | a
    · exact ⟨fun k hk => Nat.lt_of_le_of_lt (cnt_le _ _ k hk) (by omega), by rw [e0]; omega, by rw [e0]; omega, by rw [e0]; exact Nat.le_refl _⟩
    · exact ⟨fun k hk => by rw [(List.mem_replicate.1 hk).2]; omega, by rw [e1]; omega, by rw [e1]; omega, by rw [e1]; exact Nat.le_refl _⟩
    · omega
theorem fmB_live' {d : RD} {m dd : Nat} (h : Live d) (ha : Areas m dd) (hs : 4 * (2 + m + dd) ≤ d.s.length) : Live (fmB d m dd) ∧ (fmB d m dd).s.length = d.s.length := by
  have := ha.m0
  obtain ⟨a1, a2, _⟩ := fmA_live h (by omega)
  obtain ⟨b1, b2⟩ := wrAll_live a1 (pagesTo (pgs m dd)) (LF m dd) 2 (fun i hi => by rw [at0_2] at hi; rw [a2]; exact fit_at ha hs i hi)
  exact ⟨b1, b2.trans a2⟩
theorem fmB_live {d : RD} {m dd : Nat} (h : Live d) (ha : Areas m dd) (hs : 4 * (2 + m + dd) ≤ d.s.length) : Live (fmB d m dd) := (fmB_live' h ha hs).1
theorem fmB_len {d : RD} {m dd : Nat} (h : Live d) (ha : Areas m dd) (hs : 4 * (2 + m + dd) ≤ d.s.length) : (fmB d m dd).s.length = d.s.length := (fmB_live' h ha hs).2
theorem wipeN_short' {d : RD} (h : Short d 100) (t : Nat) : Short (wipeN d t 2) 90 := by
  have : ∀ i, i ≤ 2 → Short (wipeN d t i) (100 - i) := by
    intro i
    induction i with
    | zero => intro _; exact h
    | succ i ih =>
      intro hi
      have := ih (by omega)
      rw [show 100 - i = (100 - (i + 1)) + 1 by omega] at this
      exact Short.flush (this.wr _ _) (by omega)
  exact (this 2 (by omega)).less (by omega)
set_option maxRecDepth 100000 in
set_option maxHeartbeats 8000000 in
theorem format_live {w0 w : World} {F : Nat → Prop} {b m dd : Nat} {d : RD} (hT : Tabs w0) (hW : Wids w0) (hb0 : Below w0.heap.size w0 w) (hF0 : ∀ j, F j → w0.heap.size ≤ j) (h : PD w F b d) (hl : Live d) (ha : Areas m dd) (hs : 4 * (2 + m + dd) ≤ d.s.length) (hd : Short d 100) :
    Calls Tryz.prog 30 #[.pointer (some ⟨b, 0, none⟩), .int .i64 (m : Int), .int .i64 (dd : Int)] w (PDone w F b 0 (fmtD d m dd)) := by
  have HTW : Hid (∀ W d', CH w W F b d' → Tabs W ∧ Wids W) := Lib.hid (fun W d' hc => ⟨hT.below (hc.below0 hb0 hF0) hT.size, hW.below (hc.below0 hb0 hF0) hW.size⟩)
  have H0 : Hid (Tabs w0 ∧ Below w0.heap.size w0 w ∧ ∀ j, F j → w0.heap.size ≤ j) := Lib.hid ⟨hT, hb0, hF0⟩
  have h8 : 8 ≤ d.s.length := by have := ha.m0; omega
  have n0 : ((d.s.length : Int) == 0) = false := by rw [beq_eq_false_iff_ne]; omega
  have HSE := Lib.hid (pd_sectors h)
  have HFT := Lib.hid (fits_yes h (Below.refl _ _) ha hs)
  have H6 := Lib.hid ha.pgs
  have HA := Lib.hid ha
  have hm0 := ha.m0
  have hm1 := ha.m1
  have hd0 := ha.d0
  have hd1 := ha.d1
  have HND : Hid (∀ W : World, Calls Tryz.prog 76 #[.int .i64 (m : Int), .int .i64 (dd : Int)] W fun e w' => e = .returned (.int .i64 ((pgs m dd : Nat) : Int)) ∧ w' = W) := Lib.hid (fun W => needed_any W m dd (by omega) (by omega))
  obtain ⟨q1, q2, q3, q4⟩ := fmt_short hl ha hs (n := 0) (by omega) (by simpa using hd)
  obtain ⟨v1, v2, v3, v4⟩ := fmA_live hl h8
  have HQ := Lib.hid (And.intro q1 (And.intro q2 q3))
  have HV := Lib.hid (And.intro v1 (And.intro v2 v4))
  have HLV := Lib.hid (And.intro hl hd)
  have HC0 := Lib.hid (CH.here h)
  have HF1 := Lib.hid (fmt_facts hl ha hs).1
  have HSS := Lib.hid hs
  have hz := sup_zero
  have hst : ∀ w : World, (storeCells ⟨w.heap.size, 0, none⟩ (((zeroSC.toList.set 0 (.int .u64 1)).set 1 (.int .i64 (m : Int))).set 2 (.int .i64 (dd : Int)))).run Tryz.prog (w.alloc (.cells zeroSC 144)) = .ok () (w.alloc (.cells (firstTo m dd 0).cells 144)) := fun w => store_sup w (firstTo m dd 0).cells rfl (cellsS_all _)
  have hmk := run_make_row' (P := Tryz.prog) 160 161 (.int .u16 0) 2 Tryz.underlying160 C.u16_info rfl .i64 .i64 m (by omega) (by omega)
  rw [made16] at hmk
  have hmI : (0 : Int) < (m : Int) := by omega
  have HN8 := Lib.hid (rfl : (firstTo m dd 0).cells.size = 19)
  obtain ⟨Z0, hZ0⟩ : ∃ Z, (firstTo m dd 0).cells = Z := ⟨_, rfl⟩
  rw [hZ0] at hst
  have HZ0 := Lib.hid hZ0
  obtain ⟨R0, hR0⟩ : ∃ R, (nums16 (List.replicate m 0)).toArray = R := ⟨_, rfl⟩
  rw [hR0] at hmk
  have HR0 := Lib.hid hR0
  clear hT hW hb0 hF0 h hl ha hs hd q1 q2 q3 q4 v1 v2 v3 v4 hZ0 hR0
  go_enter Tryz.func30, Tryz.ntmps30
  go_upto_region 7 with (first
    | (go_at_call 74; (with_reducible refine HSE.out.mono ?_); rintro e ws ⟨rfl, hws⟩; subst ws)
    | (go_at_call 75; (with_reducible refine HFT.out.mono ?_); rintro e w1 ⟨rfl, hb1⟩; have HB1 := Lib.hid hb1; clear hb1)
    | fail)
  have HX : Hid (((w1.alloc (.cells Z0 144)).alloc (.cells R0 161)).heap[w1.heap.size]? = some (.cells (firstTo m dd 0).cells 144 (0, 0))) := Lib.hid (by rw [HZ0.out]; exact first_at _ _ _)
  have HG : Hid (((w1.alloc (.cells Z0 144)).alloc (.cells R0 161)).heap[w1.heap.size + 1]? = some (.cells (nums16 (List.replicate m 0)).toArray 161 (0, 0))) := Lib.hid (by
    rw [HR0.out]
    have := heap_alloc_new (w1.alloc (.cells Z0 144)) (.cells R0 161)
    rw [World.size_alloc] at this
    exact this)
  have HC3 : Hid (CH w ((w1.alloc (.cells Z0 144)).alloc (.cells R0 161)) F b d) := Lib.hid (HC0.out.below (((HB1.out).alloc HB1.out.size _).alloc (by rw [World.size_alloc]; exact Nat.le_succ_of_le HB1.out.size) _))
  have HWX := Lib.hid HB1.out.size
  obtain ⟨W3, hW3⟩ : ∃ W3, (w1.alloc (.cells Z0 144)).alloc (.cells R0 161) = W3 := ⟨_, rfl⟩
  rw [hW3] at HX HG HC3 ⊢
  obtain ⟨bx, hbx⟩ : ∃ x, w1.heap.size = x := ⟨_, rfl⟩
  rw [hbx] at HX HG HWX ⊢
  clear hW3 hbx hst hmk
  have hc0 : W3.cell? ⟨bx + 1, 0, none⟩ = some (.int .u16 0) := by
    rw [Joins.cell_of_block HG.out]
    exact nums0_cell m (by omega)
  have hf0 := frozen_of_row W3 (bx + 1) 0 _ _ HG.out
  go_upto_region 8 with fail
  have hR1 : W3.setCell ⟨bx + 1, 0, none⟩ (.int .u16 1) = W3.setRow (bx + 1) (nums16 (cnt m 0)).toArray := by
    have e2 := setCell_row (i := 0) HG.out (.int .u16 ((1 : Nat) : Int))
    rw [nums16_set, cnt_zero] at e2
    exact e2
  have HFB : Hid (FB (W3.setCell ⟨bx + 1, 0, none⟩ (.int .u16 1)) bx m dd 0 ∧ CH w (W3.setCell ⟨bx + 1, 0, none⟩ (.int .u16 1)) F b d) := Lib.hid (by
    rw [hR1]
    exact ⟨⟨(setRow_other _ (bx + 1) bx _ (by omega)).trans HX.out, setRow_at HG.out⟩, HC3.out.row HG.out (by decide) (by decide) (by have := HWX.out; omega)⟩)
  obtain ⟨W4, hW4⟩ : ∃ W4, W3.setCell ⟨bx + 1, 0, none⟩ (.int .u16 1) = W4 := ⟨_, rfl⟩
  rw [hW4] at HFB ⊢
  clear hW4 hR1 hc0 hf0
  have hpn6 : ((pgs m dd : Nat) : Int) ≤ 6 := by have := H6.out; omega
  obtain ⟨pn, hpn⟩ : ∃ x, pgs m dd = x := ⟨_, rfl⟩
  rw [hpn] at hpn6 HND
  have HPN := Lib.hid hpn
  clear hpn
  go_wp2_with (first
    | (go_at_call 76; (with_reducible refine (HND.out _).mono ?_); rintro e ws ⟨rfl, hws⟩; subst ws)
    | fail)
  go_loopw [32] (fun j wr => ∃ i : Nat, i ≤ pn ∧ j = .int .i64 (i : Int) ∧ Hid (FB wr bx m dd i ∧ CH w wr F b d)) (fun j _ => pn - (intOf j).toNat)
  case atStart => exact ⟨0, Nat.zero_le _, rfl, HFB.out⟩
  case round =>
    obtain ⟨i, hi, rfl, HI⟩ := hrel
    by_cases hlt : i < pn
    · have hltI : (i : Int) < (pn : Int) := by omega
      have hi6 : (i : Int) < 6 := by omega
      have him : (i : Int) + 1 < (m : Int) := by omega
      have hcp : wr.cell? ⟨bx, 3 + i, none⟩ = some (.int .u32 ((pagesTo i i : Nat) : Int)) := by rw [Joins.cell_of_block HI.out.1.sup]; exact first_at' m dd i i (by omega)
      have hfp := frozen_of_row wr bx (3 + i) _ _ HI.out.1.sup
      have hs1 : (wr.setCell ⟨bx, 3 + i, none⟩ (.int .u32 ((i : Int) + 1))).heap[bx + 1]? = some (.cells (nums16 (cnt m i)).toArray 161 (0, 0)) := by
        rw [setCell_row HI.out.1.sup]
        exact (setRow_other _ bx (bx + 1) _ (by omega)).trans HI.out.1.cnt
      have hcc : (wr.setCell ⟨bx, 3 + i, none⟩ (.int .u32 ((i : Int) + 1))).cell? ⟨bx + 1, i + 1, none⟩ = some (.int .u16 (((cnt m i).getD (i + 1) 0 : Nat) : Int)) := by
        rw [Joins.cell_of_block hs1]; exact cnt_cell m i (i + 1) (by omega)
      have hfc := frozen_of_row _ (bx + 1) (i + 1) _ _ hs1
      have HNX := Lib.hid (HI.out.1.page HI.out.2 HWX.out (by omega) (by omega))
      clear hs1
      generalize (cnt m i).getD (i + 1) 0 = z1 at *
      generalize pagesTo i i = z2 at *
      have hw32 : IntKind.u32.wrap ((i : Int) + 1) = (i : Int) + 1 := by rw [IntKind.wrap_u32]; omega
      go_wp2
      go_roundw
      case rel => exact ⟨i + 1, by omega, by go_num, HNX.out⟩
      case measure => simp [intOf]; omega
    · obtain rfl : i = pn := by omega
      have hnI : ¬ (i : Int) < (i : Int) := by omega
      obtain ⟨hfb, hch⟩ := HI.out
      have HWI := Lib.hid (fun (W : World) (hc : CH w W F b d) => hc.run (fun F' hp _ => wipe_live (HTW.out W d hc).1 (HTW.out W d hc).2 hp HLV.out.1 h8 (HLV.out.2.less (by omega))))
      have HFBI := Lib.hid hfb
      have HCHI := Lib.hid hch
      have HWL := Lib.hid (wipeN_live HLV.out.1 h8 (loadS d).tx 2)
      have HWS := Lib.hid (wipeN_short (HLV.out.2.less (n := 3) (by omega)) (loadS d).tx 2 (by omega))
      clear hfb hch
      have hzb := blk_zero
      have HWR : Hid (∀ W, CH w W F b (wipeN d (loadS d).tx 2) → Calls Tryz.prog 78 #[.pointer (some ⟨b, 0, none⟩), .int .i64 0, .agg (cells8 noughts).toArray] W fun e w' => e = .returned (.int .i64 0) ∧ Hid (CH w w' F b (fmA d) ∧ Keep W w')) := Lib.hid (fun W hc => hc.run (fun F' hp _ => by
        have hsh : Short (wipeN d (loadS d).tx 2) 4 := (wipeN_short' HLV.out.2 (loadS d).tx).less (by omega)
        have := write_any' hp 0 ⟨by omega, by rw [HWL.out.2]; omega⟩ noughts noughts_len hsh
        have e0 : (writeK (wipeN d (loadS d).tx 2) 0 noughts).1 = 0 := HV.out.2.2
        rw [e0] at this
        exact this))
      go_wp2_with (first
        | (go_at_call 77; (with_reducible refine (HWI.out _ HCHI.out).mono ?_); rintro e ws ⟨rfl, hws⟩; have HFB5 := Lib.hid (HFBI.out.keep hws.out.2); have HCH5 := Lib.hid hws.out.1; have hc0 : ws.cell? ⟨bx, 0, none⟩ = some (.int .u64 1) := (by rw [Joins.cell_of_block HFB5.out.sup]; exact first_tx m dd _); clear hws)
        | (go_at_call 78; (with_reducible refine (HWR.out _ HCH5.out).mono ?_); rintro e wv ⟨rfl, hwv⟩; have HFB6 := Lib.hid (HFB5.out.keep hwv.out.2); have HCH6 := Lib.hid hwv.out.1; clear hwv hc0)
        | fail)
      have hmk2 := run_make_row' (P := Tryz.prog) 160 161 (.int .u16 0) 2 Tryz.underlying160 C.u16_info rfl .i64 .i64 dd (by omega) (by omega)
      rw [made16] at hmk2
      obtain ⟨R1, hR1⟩ : ∃ R, (nums16 (List.replicate dd 0)).toArray = R := ⟨_, rfl⟩
      rw [hR1] at hmk2
      have HR1 := Lib.hid hR1
      clear hR1
      have HFD := Lib.hid (HFB6.out.below ((Below.refl _ wv).drew))
      have HCD := Lib.hid (HCH6.out.below ((Below.refl _ wv).drew))
      refine wp_region_noPanic ?_
      refine wp_region_held_drew (S := fun W => W.rangeAt bx 3 (six (pagesTo i)).toList) (by kernel_rfl) (first_six m dd i HFD.out.sup) (fun hHeld => ?_)
      refine takeN (i := 0) (oi := _) (v := .pointer (some ⟨b, 0, none⟩)) 62 rfl rfl (by kernel_rfl) (by kernel_rfl) (by kernel_rfl) (fun _ _ _ h => h) (Or.inl ⟨by rfl, fun w2 hSw => by go_simp⟩) hHeld ?_
      try simp only [Act.put, List.setIfInBounds_toArray, List.set_cons_zero, List.set_cons_succ]
      refine takeN (i := 1) (oi := _) (v := .pointer (some ⟨bx, 3, none⟩)) 63 rfl rfl (by kernel_rfl) (by kernel_rfl) (by kernel_rfl) (fun _ _ _ h => h) (Or.inl ⟨by rfl, fun w2 hSw => by go_simp⟩) hHeld ?_
      try simp only [Act.put, List.setIfInBounds_toArray, List.set_cons_zero, List.set_cons_succ]
      have hu := Tryz.underlying140
      refine takeN (i := 2) (oi := _) (v := .agg (six (pagesTo i))) 64 rfl rfl (by kernel_rfl) (by kernel_rfl) (by kernel_rfl) (fun _ _ _ h => h) (yieldsIf_load_mid (by rfl) 140 (.tmp 63) rfl bx 3 rfl (six (pagesTo i)).toList _ (fun w2 hSw => hSw) hu rfl (by rw [show (six (pagesTo i)).toList.length = 6 from rfl]; kernel_rfl)) hHeld ?_
      try simp only [Act.put, List.setIfInBounds_toArray, List.set_cons_zero, List.set_cons_succ]
      clear hu
      refine takeN (i := 3) (oi := _) (v := .slice (some ⟨bx + 1, 0, none⟩) m m) 65 rfl rfl (by kernel_rfl) (by kernel_rfl) (by kernel_rfl) (fun _ _ _ h => h) (Or.inl ⟨by rfl, fun w2 hSw => by go_simp⟩) hHeld ?_
      try simp only [Act.put, List.setIfInBounds_toArray, List.set_cons_zero, List.set_cons_succ]
      refine takeN (i := 4) (oi := _) (v := .int .i64 (dd : Int)) 66 rfl rfl (by kernel_rfl) (by kernel_rfl) (by kernel_rfl) (fun _ _ _ h => h) (Or.inl ⟨by rfl, fun w2 hSw => by go_simp⟩) hHeld ?_
      try simp only [Act.put, List.setIfInBounds_toArray, List.set_cons_zero, List.set_cons_succ]
      obtain ⟨S6, hS6⟩ : ∃ S, six (pagesTo i) = S := ⟨_, rfl⟩
      rw [hS6] at hHeld ⊢
      have HS6 := Lib.hid hS6
      clear hS6
      refine wpAnyH_ready (rs := [5]) (by kernel_rfl) (by simp) ?_
      refine AllReadyH.cons rfl (fun K hK => ?_) AllReadyH.nil
      go_simp
      have hbe : Below wv.heap.size wv (wv.alloc (.cells R1 161)).drew := ((Below.refl _ wv).alloc (Nat.le_refl _) _).drew
      have HFE := Lib.hid (HFB6.out.below hbe)
      have HCE := Lib.hid (HCH6.out.below hbe)
      have HRW : Hid ((wv.alloc (.cells R1 161)).drew.heap[wv.heap.size]? = some (.cells (nums16 (List.replicate dd 0)).toArray 161 (0, 0))) := Lib.hid (by rw [HR1.out]; exact heap_alloc_new wv _)
      clear hbe
      refine hK.out _ _ (by rw [← HS6.out]; exact first_six m dd i HFE.out.sup) (fun hHeld => ?_)
      clear hK K
      try simp only [Act.put, List.setIfInBounds_toArray, List.set_cons_zero, List.set_cons_succ]
      refine wpAnyH_ready (rs := [6]) (by kernel_rfl) (by simp) ?_
      refine AllReadyH.cons rfl (fun K hK => ?_) AllReadyH.nil
      go_simp
      have hbe : Below (wv.alloc (.cells R1 161)).drew.heap.size (wv.alloc (.cells R1 161)).drew ((wv.alloc (.cells R1 161)).alloc (.cells #[.slice (some ⟨bx + 1, 0, none⟩) m m, .slice (some ⟨wv.heap.size, 0, none⟩) dd dd] 160)).drew := ((Below.refl _ (wv.alloc (.cells R1 161)).drew).alloc (Nat.le_refl _) _)
      have HFG := Lib.hid (HFE.out.below hbe)
      have HCG := Lib.hid (HCE.out.below hbe)
      have hrw := (hbe.block wv.heap.size (Array.getElem?_eq_some_iff.1 HRW.out).1).trans HRW.out
      have hqq : ((wv.alloc (.cells R1 161)).alloc (.cells #[.slice (some ⟨bx + 1, 0, none⟩) m m, .slice (some ⟨wv.heap.size, 0, none⟩) dd dd] 160)).drew.heap[wv.heap.size + 1]? = some (.cells #[.slice (some ⟨bx + 1, 0, none⟩) m m, .slice (some ⟨wv.heap.size, 0, none⟩) dd dd] 160 (0, 0)) := by
        have := heap_alloc_new (wv.alloc (.cells R1 161)) (.cells #[.slice (some ⟨bx + 1, 0, none⟩) m m, .slice (some ⟨wv.heap.size, 0, none⟩) dd dd] 160)
        rw [World.size_alloc] at this
        exact this
      have hwp := fwrite H0.out.1 H0.out.2.1 H0.out.2.2 HCG.out HV.out.1 HV.out.2.1 HA.out HSS.out (HQ.out.1.less (by omega)) (by rw [HPN.out]; exact HFG.out.cnt) hrw hqq
      rw [HPN.out, HS6.out] at hwp
      have HWP := Lib.hid hwp
      clear hbe hrw hqq hwp
      refine hK.out _ _ (by rw [← HS6.out]; exact first_six m dd i HFG.out.sup) (fun hHeld => ?_)
      clear hK K
      try simp only [Act.put, List.setIfInBounds_toArray, List.set_cons_zero, List.set_cons_succ]
      refine wpAnyH_ready (rs := [7]) (by kernel_rfl) (by simp) ?_
      refine AllReadyH.cons rfl (fun K hK => ?_) AllReadyH.nil
      go_simp
      go_wp2_with (first
        | (go_at_call 79; (with_reducible refine HWP.out.mono ?_); rintro e wx ⟨rfl, hwx⟩)
        | fail)
      have HFH := Lib.hid (HFG.out.keep hwx.out.2)
      have HCH := Lib.hid hwx.out.1
      clear hwx
      refine hK.out _ _ (by rw [← HS6.out]; exact first_six m dd i HFH.out.sup) (fun hHeld => ?_)
      clear hK K
      try simp only [Act.put, List.setIfInBounds_toArray, List.set_cons_zero, List.set_cons_succ]
      refine takeN (i := 8) (oi := _) (v := .int .i64 0) 12 rfl rfl (by kernel_rfl) (by kernel_rfl) (by kernel_rfl) (fun _ _ _ h => h) (Or.inl ⟨by rfl, fun w2 hSw => by go_simp⟩) hHeld ?_
      try simp only [Act.put, List.setIfInBounds_toArray, List.set_cons_zero, List.set_cons_succ]
      refine wpAnyH_done (by kernel_rfl) ?_ _
      refine NoPanic.normal ?_
      have HFL : Hid (∀ W, CH w W F b (fmB d m dd) → Calls Tryz.prog 80 #[.pointer (some ⟨b, 0, none⟩)] W fun e w' => e = .returned (.int .i64 0) ∧ Hid (CH w w' F b (flD (fmB d m dd)) ∧ Keep W w')) := Lib.hid (fun W hc => hc.run (fun F' hp _ => by
        have := pd_flush W F' b _ hp
        rw [(fmB_live HLV.out.1 HA.out HSS.out).fl.1] at this
        exact this))
      have hU : (firstTo m dd i).cells = (firstU m dd).cells := by rw [← HPN.out]; rfl
      have HSV : Hid (∀ W, CH w W F b (flD (fmB d m dd)) → Calls Tryz.prog 81 #[.pointer (some ⟨b, 0, none⟩), .agg (firstTo m dd i).cells] W fun e w' => e = .returned (.int .i64 0) ∧ Hid (CH w w' F b (fmtD d m dd) ∧ Keep W w')) := Lib.hid (fun W hc => hc.run (fun F' hp _ => by
        have := save_any (HTW.out W _ hc).1 (HTW.out W _ hc).2 hp (by rw [flD_len, fmB_len HLV.out.1 HA.out HSS.out]; exact h8) (firstU m dd) (firstTo_fits m dd _ H6.out.2) (HQ.out.2.2.less (by omega))
        rw [HF1.out] at this
        rw [hU]
        exact this))
      have hsz : (firstTo m dd i).cells.size = 19 := rfl
      have HUS : Hid (∀ W, FB W bx m dd i → W.rangeAt bx 0 (firstTo m dd i).cells.toList) := Lib.hid (fun W h => range_of h.sup)
      obtain ⟨cl, hcl⟩ : ∃ cl : List Value, (firstTo m dd i).cells = cl.toArray := ⟨(firstTo m dd i).cells.toList, by simp⟩
      rw [hcl] at HSV
      have hcs : (Tryz.prog.info? 144).map (·.size) = some cl.length := by
        have h := sup_info (firstTo m dd i)
        rw [hcl, List.size_toArray] at h
        exact h
      have HCL := Lib.hid hcl
      have HCS := Lib.hid hcs
      clear hU hsz hcl hcs
      go_wp2_with (first
        | (refine wpList_load_mid rfl 144 (.tmp 7) rfl bx 0 rfl cl _ ?hcl Tryz.underlying144 rfl ?hil ?_; (case hcl => have := HUS.out _ HFJ.out; rw [HCL.out] at this; exact this); (case hil => exact HCS.out))
        | (go_at_call 80; (with_reducible refine (HFL.out _ HCH.out).mono ?_); rintro e wy ⟨rfl, hwy⟩; have HFJ := Lib.hid (HFH.out.keep hwy.out.2); have HCJ := Lib.hid hwy.out.1; clear hwy)
        | (go_at_call 81; (with_reducible refine (HSV.out _ HCJ.out).mono ?_); rintro e wz ⟨rfl, hwz⟩; have HCK := Lib.hid hwz.out.1; clear hwz)
        | fail)
      go_ret
      exact HCK.out.done
end Go.Proofs.YtoclhiaidbfheaaGreatDoor.S
end

section
set_option linter.unusedVariables false
namespace Go.Proofs.YtoclhiaidbfheaaGreatDoor.S
open Go.RowKit Q

/-- what page.Of answers, where the counts lie -/
def VOfYes (w : World) (r q : Bool) (l : List Nat) (e : Ending) (w' : World) : Prop :=
  Below w.heap.size w w' ∧ match r, q with
    | true, true => ∃ g, e = .returned (.tuple #[.slice (some ⟨g, 0, none⟩) 120 120, .int .i64 0]) ∧ Holds16 w' g 309 l
    | r, q => e = .returned (.tuple #[.slice none 0 0, .int .i64 (errO r q)])
set_option maxRecDepth 10000 in
set_option maxHeartbeats 2000000 in
theorem vof_yes (w : World) (hT : Tabs w) (no : Nat) (hno : no < 4294967296) (ix : Int) (x : List UInt8) (hx : x.length = 256) :
    Calls Tryz.prog 203 #[.int .u32 (no : Int), .int .i64 ix, .agg (cells8 x).toArray] w (VOfYes w (okP ix 120) (blkR (okP ix 120) (imgP no ix.toNat (cntOf x 120)) == x) (cntOf x 120)) := by
  have h5 : Holds8 (w.alloc (.cells (cells8 x).toArray 151)) w.heap.size 151 x := Holds8.new w _ x _ rfl
  have H5 := Lib.hid h5
  have HB0 := Lib.hid ((Below.refl w.heap.size w).alloc (Nat.le_refl _) (.cells (cells8 x).toArray 151))
  have HRD := Lib.hid (vread_any (w.alloc (.cells (cells8 x).toArray 151)) x hx)
  have HLS : Hid ((cells8 x).toArray.size = 256) := (cells8_size x).trans hx
  have hlc := cntOf_length x 120
  have hfc := cntOf_lt x 120
  have HX := Lib.hid hx
  clear h5 hx
  generalize hcl : cntOf x 120 = l at *
  have hbb := fun W hTW A c hs => vblock_any W hTW no ix hno l hfc A c hs
  rw [hlc] at hbb
  have hXl : (blkR (okP ix 120) (imgP no ix.toNat l)).length = 256 := blkR_len _ _ fun _ => imgP_length no ix.toNat l (by omega)
  generalize hr : okP ix 120 = r at *
  generalize hX : blkR r (imgP no ix.toNat l) = X at *
  have HBB := Lib.hid hbb
  have hneq := fun w => neq_blk X x hXl HX.out w
  have hst := fun w => store_blk w noughts X noughts_len hXl
  have hsp := fun w => store_pg w none16 l none16_len hlc
  have HXS : Hid ((cells8 X).toArray.size = 256) := (cells8_size X).trans hXl
  have HLC := Lib.hid hlc
  have HT := Lib.hid hT
  have hz := blk_zero
  have hz2 := pg_zero
  have hcs := HXS.out
  have hcs2 := noughts_len
  have hcs3 := cells8_size noughts
  have hcs4 := none16_len
  have hcs5 := nums16_size none16
  have hcs6 : (nums16 l).toArray.size = 120 := (nums16_size l).trans HLC.out
  clear hbb hfc hlc hXl hT hr hX hcl
  generalize noughts = z at *
  generalize none16 = z16 at *
  generalize (X == x) = q at *
  go_enter Tryz.func203, Tryz.ntmps203
  go_wp2_with (first
    | refine wpList_load_row rfl 151 (.tmp 5) rfl w.heap.size rfl 151 (cells8 x).toArray (0, 0) _ H5.out Tryz.underlying151 rfl (by rw [blk_size, HLS.out]) ?_
    | fail)
  (with_reducible refine HRD.out.mono ?_)
  rintro e w1 ⟨rfl, hb1⟩
  have hb01 := HB0.out.trans (hb1.mono HB0.out.size)
  have HL1 : Hid (Holds8 w1 w.heap.size 151 x) := H5.out.below hb1
  have hpn : Holds16 (w1.alloc (.cells (nums16 l).toArray 309)) w1.heap.size 309 l := Holds16.new w1 _ l
  have hb2 := (Below.refl w1.heap.size w1).alloc (Nat.le_refl _) (.cells (nums16 l).toArray 309)
  have hbw2 := hb01.trans (hb2.mono hb01.size)
  have hsh := hpn.shows
  rw [HLC.out] at hsh
  have hbk := HBB.out _ (HT.out.below hbw2 HT.out.size) (some ⟨w1.heap.size, 0, none⟩) 120 hsh
  have HPN := Lib.hid hpn
  have HB1 := Lib.hid hb01
  have HLT : Hid (w.heap.size < w1.heap.size) := HL1.out.lt
  have HB2 := Lib.hid hb2
  clear hb1 hb01 hpn hb2 hbw2 hsh HBB HRD
  cases r with
  | false =>
    rw [show errR false = 2 from rfl] at hbk
    have HBK := Lib.hid hbk
    clear hbk
    go_wp2_with fail
    (with_reducible refine HBK.out.mono ?_)
    rintro e w3 ⟨rfl, hb3⟩
    go_wp2_with fail
    go_ret2
    have hb23 := HB2.out.trans (hb3.mono HB2.out.size)
    have hbe := (HB1.out.trans (hb23.mono HB1.out.size)).alloc (by have := HLT.out; have := hb23.size; omega) (.cells (cells8 X).toArray 151)
    exact ⟨hbe, rfl⟩
  | true =>
    rw [show errR true = 0 from rfl] at hbk
    have HBK := Lib.hid hbk
    clear hbk
    go_wp2_with fail
    (with_reducible refine HBK.out.mono ?_)
    rintro e w3 ⟨rfl, hb3⟩
    have hb23 := HB2.out.trans (hb3.mono HB2.out.size)
    have HBE := Lib.hid ((HB1.out.trans (hb23.mono HB1.out.size)).alloc (by have := HLT.out; have := hb23.size; omega) (.cells (cells8 X).toArray 151))
    have HL3 : Hid (Holds8 (w3.alloc (.cells (cells8 X).toArray 151)) w.heap.size 151 x) := (HL1.out.below hb23).alloc _
    have HX3 : Hid (Holds8 (w3.alloc (.cells (cells8 X).toArray 151)) w3.heap.size 151 X) := Holds8.new w3 _ X _ rfl
    have HP3 : Hid (Holds16 (w3.alloc (.cells (cells8 X).toArray 151)) w1.heap.size 309 l) := (HPN.out.below hb3).alloc _
    clear hb23 hb3
    cases q with
    | true =>
      have hneq2 : ∀ (w : World), (binOp .neq 151 (.agg (cells8 X).toArray) (.agg (cells8 x).toArray)).run Tryz.prog w = .ok (.bool false) w := hneq
      clear hneq
      go_wp2_with fail
      refine wp_load_row 151 (.tmp 9) rfl w3.heap.size rfl 151 (cells8 X).toArray (0, 0) _ HX3.out Tryz.underlying151 rfl (by rw [blk_size, HXS.out]) ?_
      go_wp2_with fail
      refine wp_load_row 151 (.tmp 5) rfl w.heap.size rfl 151 (cells8 x).toArray (0, 0) _ HL3.out Tryz.underlying151 rfl (by rw [blk_size, HLS.out]) ?_
      go_wp2_with fail
      go_ret2
      exact ⟨HBE.out, _, rfl, HP3.out⟩
    | false =>
      have hneq2 : ∀ (w : World), (binOp .neq 151 (.agg (cells8 X).toArray) (.agg (cells8 x).toArray)).run Tryz.prog w = .ok (.bool true) w := hneq
      clear hneq
      go_wp2_with fail
      refine wp_load_row 151 (.tmp 9) rfl w3.heap.size rfl 151 (cells8 X).toArray (0, 0) _ HX3.out Tryz.underlying151 rfl (by rw [blk_size, HXS.out]) ?_
      go_wp2_with fail
      refine wp_load_row 151 (.tmp 5) rfl w.heap.size rfl 151 (cells8 x).toArray (0, 0) _ HL3.out Tryz.underlying151 rfl (by rw [blk_size, HLS.out]) ?_
      go_wp2_with fail
      go_ret2
      exact ⟨HBE.out, rfl⟩
theorem of_page (w : World) (hT : Tabs w) (no i : Nat) (hno : no < 4294967296) (hi : i ≤ 255) (l : List Nat) (h : ∀ k ∈ l, k < 65536) :
    Calls Tryz.prog 203 #[.int .u32 (no : Int), .int .i64 (i : Int), .agg (cells8 (pg no i l)).toArray] w fun e w' => ∃ g, e = .returned (.tuple #[.slice (some ⟨g, 0, none⟩) 120 120, .int .i64 0]) ∧ Holds16 w' g 309 (K.partL l (i : Int)) ∧ Below w.heap.size w w' := by
  have hv := vof_yes w hT no hno (i : Int) (pg no i l) (pg_len _ _ _)
  obtain ⟨e1, e2⟩ := pg_back no i l h
  have hok : okP (i : Int) 120 = true := decide_eq_true ⟨by omega, by omega, by omega⟩
  rw [hok, Int.toNat_natCast] at hv
  have hq : (blkR true (imgP no i (cntOf (pg no i l) 120)) == pg no i l) = true := by
    rw [e2]
    exact beq_self_eq_true _
  rw [hq, e1] at hv
  exact hv.mono fun e w' ⟨hb, g, he, hh⟩ => ⟨g, he, hh, hb⟩
end Go.Proofs.YtoclhiaidbfheaaGreatDoor.S
end
