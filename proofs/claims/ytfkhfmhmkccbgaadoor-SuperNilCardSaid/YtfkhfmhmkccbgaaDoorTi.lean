/- Super without a disk, or with a short one. -/
import Derived.Test.YtfkhfmhmkccbgaaDoorTh
set_option linter.unusedVariables false
namespace Go.Proofs.YtfkhfmhmkccbgaaDoor.Q
open Go.RowKit

theorem sectors_nil (w : World) : Calls Tryd.prog 55 #[.pointer none] w fun e w' => e = .returned (.int .i64 0) ∧ w' = w := by
  go_enter Tryd.func55, Tryd.ntmps55
  go_wp2_with (go_at_call 59; refine (none_nil _).mono ?_; rintro e w' ⟨rfl, rfl⟩)
  go_ret
  exact ⟨rfl, rfl⟩
set_option maxRecDepth 100000 in
set_option maxHeartbeats 4000000 in
theorem read_nil (w : World) (k : Int) : Calls Tryd.prog 30 #[.pointer none, .int .i64 k] w fun e w' => e = .returned (.tuple #[.agg (cells8 noughts).toArray, .int .i64 1]) ∧ Below w.heap.size w w' := by
  have hz := blk_zero
  have hcs := cells8_size noughts
  have HP := Lib.hid (fun (W : World) => place_nil W k (sectors_nil W))
  have HB := Lib.hid ((Below.refl _ w).alloc (Nat.le_refl _) (.cells (cells8 noughts).toArray 29))
  have HNEW := Lib.hid (heap_alloc_new w (.cells (cells8 noughts).toArray 29))
  go_enter Tryd.func30, Tryd.ntmps30
  go_wp2_with (first
    | (go_at_call 51; (with_reducible refine (HP.out _).mono ?_); rintro e w1 ⟨rfl, rfl⟩)
    | refine wpList_store_row rfl 29 (.tmp 4) (.tmp 16) rfl w.heap.size (cells8 noughts).toArray rfl rfl 29 (cells8 noughts).toArray HNEW.out (by rw [blk_sz _ noughts_len]; simp) rfl (all_oneCell_toArray (cells8_one _)) ?_
    | fail)
  exact bodyPost_ret (results_cell_tmp rfl _ _ w.heap.size 29 (cells8 noughts).toArray (0, 0) _ (.int .i64 1) rfl rfl (setRow_heap _ _ _ _ _ _ HNEW.out) blk_u rfl (by rw [blk_sz _ noughts_len]; simp)) rfl ⟨rfl, below_setRow HB.out (Nat.le_refl _) _⟩
set_option maxRecDepth 100000 in
set_option maxHeartbeats 4000000 in
theorem write_nil (w : World) (k : Int) (l : List UInt8) (hl : l.length = 256) : Calls Tryd.prog 29 #[.pointer none, .int .i64 k, .agg (cells8 l).toArray] w fun e w' => e = .returned (.int .i64 1) ∧ Below w.heap.size w w' := by
  have hcs := cells8_size l
  have HP := Lib.hid (fun (W : World) => place_nil W k (sectors_nil W))
  have HB := Lib.hid ((Below.refl _ w).alloc (Nat.le_refl _) (.cells (cells8 l).toArray 29))
  go_enter Tryd.func29, Tryd.ntmps29
  go_wp2_with (first
    | (go_at_call 51; (with_reducible refine (HP.out _).mono ?_); rintro e w1 ⟨rfl, rfl⟩)
    | fail)
  go_ret
  exact ⟨rfl, HB.out⟩
set_option maxRecDepth 100000 in
set_option maxHeartbeats 4000000 in
theorem save_nil (w : World) (s : SU) : Calls Tryd.prog 32 #[.pointer none, .agg s.cells] w fun e w' => e = .returned (.int .i64 1) ∧ Below w.heap.size w w' := by
  have HB := Lib.hid ((Below.refl _ w).alloc (Nat.le_refl _) (.cells s.cells 50))
  have hs : s.cells.size = 19 := rfl
  obtain ⟨cs, hcs⟩ : ∃ cs, s.cells = cs := ⟨_, rfl⟩
  rw [hcs] at HB hs ⊢
  clear hcs
  go_enter Tryd.func32, Tryd.ntmps32
  go_wp2_with (first
    | (go_at_call 55; (with_reducible refine (sectors_nil _).mono ?_); rintro e w1 ⟨rfl, rfl⟩)
    | fail)
  go_ret
  exact ⟨rfl, HB.out⟩
set_option maxRecDepth 100000 in
set_option maxHeartbeats 4000000 in
theorem save_bad {w : World} {F : Nat → Prop} {b : Nat} {d : RD} (hT : Tabs w) (hW : Wids w) (h : PD w F b d) (s : SU) (hf : s.fits) (hm : s.may = false) :
    Calls Tryd.prog 32 #[.pointer (some ⟨b, 0, none⟩), .agg s.cells] w (PDone w F b 2 d) := by
  have HTW : Hid (∀ W, Below w.heap.size w W → Tabs W ∧ Wids W) := Lib.hid (fun W hb => ⟨hT.below hb hT.size, hW.below hb hW.size⟩)
  have HH := Lib.hid h
  have n0 : ((d.s.length : Int) == 0) = false := by have := h.n0; rw [beq_eq_false_iff_ne]; omega
  have HSEC := Lib.hid (fun (W : World) (hb : Below w.heap.size w W) => pd_sectors (h.below hb))
  have HBL := Lib.hid (fun (W : World) (hb : Below w.heap.size w W) => SU.block W (HTW.out W hb).1 (HTW.out W hb).2 s hf)
  have HSL := Lib.hid (fun (W : World) => slotOf_any W s hf)
  have hz2 := blk_zero
  have hsc : s.cells.size = 19 := rfl
  have hbl : s.blk.length = 256 := blkB_len _ _ s.img_len
  have hst := fun w => store_blk w noughts s.blk noughts_len hbl
  have hbc : (cells8 s.blk).length = 256 := by rw [cells8_length, hbl]
  have HIM := Lib.hid s.img_len
  have e1 : s.err = 2 := by rw [SU.err, hm]; rfl
  rw [e1] at HBL
  have HBA := Lib.hid ((Below.refl _ w).alloc (Nat.le_refl _) (.cells s.cells 50))
  have HRG : Hid (∀ W, Below (w.alloc (.cells s.cells 50)).heap.size (w.alloc (.cells s.cells 50)) W → W.rangeAt w.heap.size 0 s.cells.toList) := Lib.hid (fun W hb j u hu => by
    rw [Joins.cell_of_block ((hb.block _ (by simp)).trans (heap_alloc_new w _)), Nat.zero_add, ← Array.getElem?_toList]; exact hu)
  obtain ⟨cl, hcl⟩ : ∃ cl : List Value, s.cells = cl.toArray := ⟨s.cells.toList, by simp⟩
  rw [hcl] at HBL HSL HBA hsc HRG ⊢
  rw [List.toList_toArray] at HRG
  have hsc' : cl.length = 19 := by simpa using hsc
  have hinf : (Tryd.prog.info? 50).map (·.size) = some cl.length := by rw [hsc']; kernel_rfl
  clear hT hW h hf hm e1 hcl HSL
  generalize s.blk = l at *
  go_enter Tryd.func32, Tryd.ntmps32
  go_wp2_with (first
    | (go_at_call 55; (with_reducible refine (HSEC.out _ HBA.out).mono ?_); rintro e w1 ⟨rfl, rfl⟩)
    | refine wpList_load_mid rfl 50 (.tmp 3) rfl w.heap.size 0 rfl cl _ (HRG.out _ (by with_reducible first | exact Below.refl _ _ | exact HB2.out)) Tryd.underlying50 rfl hinf ?_
    | (go_at_call 23; (with_reducible refine (HBL.out _ HBA.out).mono ?_); rintro e w2 ⟨rfl, hb2⟩; have HB2 := Lib.hid (hb2.alloc hb2.size (.cells (cells8 l).toArray 29)); clear hb2)
    | fail)
  go_ret
  exact PDone.same HH.out (HBA.out.trans (HB2.out.mono (by simp)))
set_option maxRecDepth 100000 in
set_option maxHeartbeats 4000000 in
theorem load_nil (w : World) : Calls Tryd.prog 35 #[.pointer none] w fun e w' => e = .returned (.tuple #[.agg zeroSC, .int .i64 1]) ∧ Below w.heap.size w w' := by
  have hzs := sup_zero
  have hz2 := blk_zero
  have hnc : (cells8 noughts).length = 256 := by rw [cells8_length, noughts_len]
  have hst := fun w => store_blk w noughts noughts noughts_len noughts_len
  have HL0 : Hid (LL w ((w.alloc (.cells zeroSC 50)).alloc (.cells zeroSC 50)) zeroSU) := by
    have hn := heap_alloc_new (w.alloc (.cells zeroSC 50)) (.cells zeroSC 50)
    rw [World.size_alloc] at hn
    exact Lib.hid ⟨(Below.heap_alloc _ _ _ (by simp)).trans (heap_alloc_new w _), hn, (((Below.refl _ w).alloc (Nat.le_refl _) _).alloc (by simp) _)⟩
  go_enter Tryd.func35, Tryd.ntmps35
  go_wp2_with fail
  go_loopw [9] (fun j wr => j = .int .i64 0 ∧ Hid (LL w wr zeroSU)) (fun j _ => 0)
  case atStart => exact ⟨rfl, HL0.out⟩
  case round =>
    obtain ⟨rfl, HLL⟩ := hrel
    go_wp2_with (first
      | (go_at_call 30; (with_reducible refine (read_nil _ _).mono ?_); rintro e w1 ⟨rfl, hb1⟩; have HL1 := Lib.hid ((HLL.out.below hb1).below ((Below.refl _ w1).alloc (Nat.le_refl _) (.cells (cells8 noughts).toArray 29))); clear hb1)
      | refine wpList_store_row rfl 50 (.tmp 2) (.tmp 20) rfl w.heap.size zeroSC rfl rfl 50 zeroSC HL1.out.n (sup_info zeroSU) rfl (by simp [zeroSC, Value.oneCell']) ?_
      | fail)
    exact bodyPost_ret (results_cell_tmp rfl _ _ w.heap.size 50 zeroSC (0, 0) _ (.int .i64 1) rfl rfl (setRow_heap _ _ _ _ _ _ HL1.out.n) Tryd.underlying50 rfl (sup_info zeroSU)) rfl ⟨rfl, below_setRow HL1.out.bel (Nat.le_refl _) _⟩
theorem short_blk : blkAt (newD 7) 0 = noughts := by
  have h : ∀ i, i < 7 → (lastD (newD 7) i).1 = List.replicate 64 0 := fun i hi => by
    have e : lastD (newD 7) i = 0 := by
      show ((List.replicate 7 [(0 : SB)]).getD i []).getLastD 0 = 0
      rw [List.getD_eq_getElem?_getD, List.getElem?_replicate, if_pos hi]
      rfl
    rw [e]
    rfl
  rw [blkAt_last _ _ (by simp [newD]), h _ (by omega), h _ (by omega), h _ (by omega), h _ (by omega), List.replicate_append_replicate, List.replicate_append_replicate, List.replicate_append_replicate]
  rfl
set_option maxRecDepth 100000 in
set_option maxHeartbeats 4000000 in
theorem load_7 {w : World} {F : Nat → Prop} {b : Nat} (hT : Tabs w) (hW : Wids w) (h : PD w F b (newD 7)) :
    Calls Tryd.prog 35 #[.pointer (some ⟨b, 0, none⟩)] w fun e w' => e = .returned (.tuple #[.agg zeroSC, .int .i64 2]) ∧ Below w.heap.size w w' := by
  have HTW : Hid (∀ W, Below w.heap.size w W → Tabs W ∧ Wids W) := Lib.hid (fun W hb => ⟨hT.below hb hT.size, hW.below hb hW.size⟩)
  have hl7 : (newD 7).s.length = 7 := by simp [newD]
  have HR0 : Hid (∀ W, Below w.heap.size w W → Calls Tryd.prog 30 #[.pointer (some ⟨b, 0, none⟩), .int .i64 0] W fun e w' => e = .returned (.tuple #[.agg (cells8 noughts).toArray, .int .i64 0]) ∧ Below W.heap.size W w') := Lib.hid (fun W hb => by
    have := read_any' (h.below hb) 0 ⟨by omega, by rw [hl7]; decide⟩
    rw [short_blk] at this
    exact this)
  have HR1 : Hid (∀ W, Below w.heap.size w W → Calls Tryd.prog 30 #[.pointer (some ⟨b, 0, none⟩), .int .i64 1] W fun e w' => e = .returned (.tuple #[.agg (cells8 noughts).toArray, .int .i64 2]) ∧ Below W.heap.size W w') := Lib.hid (fun W hb => read_out (h.below hb) 1 (fun hk => by have := hk.2; rw [hl7] at this; omega))
  have HOF : Hid (∀ W, Below w.heap.size w W → Calls Tryd.prog 25 #[.agg (cells8 noughts).toArray] W fun e w' => e = .returned (.tuple #[.agg zeroSC, .int .i64 4]) ∧ Below W.heap.size W w') := Lib.hid (fun W hb => by
    have := sof_any W (HTW.out W hb).1 (HTW.out W hb).2 noughts noughts_len
    rw [ofB_noughts] at this
    exact this)
  have hzs := sup_zero
  have hz2 := blk_zero
  have hnc : (cells8 noughts).length = 256 := by rw [cells8_length, noughts_len]
  have hst := fun w => store_blk w noughts noughts noughts_len noughts_len
  have hVst := fun w => store_sup w zeroSC rfl (by simp [zeroSC, Value.oneCell'])
  have hVs : zeroSC.size = 19 := rfl
  have HG : Hid (∀ (w1 W : World), Below (w1.alloc (.cells (cells8 noughts).toArray 29)).heap.size (w1.alloc (.cells (cells8 noughts).toArray 29)) W → W.rangeAt w1.heap.size 0 (cells8 noughts)) := Lib.hid (fun w1 W hb j u hu => by
    rw [Joins.cell_of_block ((hb.block _ (by simp)).trans (heap_alloc_new w1 _)), List.getElem?_toArray, Nat.zero_add]; exact hu)
  have HL0 : Hid (LL w ((w.alloc (.cells zeroSC 50)).alloc (.cells zeroSC 50)) zeroSU) := by
    have hn := heap_alloc_new (w.alloc (.cells zeroSC 50)) (.cells zeroSC 50)
    rw [World.size_alloc] at hn
    exact Lib.hid ⟨(Below.heap_alloc _ _ _ (by simp)).trans (heap_alloc_new w _), hn, (((Below.refl _ w).alloc (Nat.le_refl _) _).alloc (by simp) _)⟩
  clear hT hW h hl7
  go_enter Tryd.func35, Tryd.ntmps35
  go_wp2_with fail
  go_loopw [9] (fun j wr => ∃ i : Nat, i ≤ 1 ∧ j = .int .i64 (i : Int) ∧ Hid (LL w wr zeroSU)) (fun j _ => 2 - (intOf j).toNat)
  case atStart => exact ⟨0, by omega, rfl, HL0.out⟩
  case round =>
    obtain ⟨i, hi, rfl, HLL⟩ := hrel
    by_cases h0 : i = 0
    · subst h0
      go_wp2_with (first
        | (go_at_call 30; (with_reducible refine (HR0.out _ HLL.out.bel).mono ?_); rintro e w1 ⟨rfl, hb1⟩; have HB1 := Lib.hid (hb1.alloc hb1.size (.cells (cells8 noughts).toArray 29)); clear hb1)
        | refine wpList_load_mid rfl 29 (.tmp 6) rfl w1.heap.size 0 rfl (cells8 noughts) _ (HG.out _ _ (Below.refl _ _)) blk_u rfl (blk_sz noughts noughts_len) ?_
        | (go_at_call 25; (with_reducible refine (HOF.out _ (HLL.out.below HB1.out).bel).mono ?_); rintro e w2 ⟨rfl, hb2⟩; have HB2 := Lib.hid hb2; clear hb2)
        | fail)
      exact ⟨⟨1, by omega, rfl, (HLL.out.below HB1.out).below (HB2.out.alloc HB2.out.size _)⟩, by simp [intOf]⟩
    · obtain rfl : i = 1 := by omega
      go_wp2_with (first
        | (go_at_call 30; (with_reducible refine (HR1.out _ HLL.out.bel).mono ?_); rintro e w1 ⟨rfl, hb1⟩; have HL1 := Lib.hid ((HLL.out.below hb1).below ((Below.refl _ w1).alloc (Nat.le_refl _) (.cells (cells8 noughts).toArray 29))); clear hb1)
        | refine wpList_store_row rfl 50 (.tmp 2) (.tmp 20) rfl w.heap.size zeroSC rfl rfl 50 zeroSC HL1.out.n (sup_info zeroSU) rfl (by simp [zeroSC, Value.oneCell']) ?_
        | fail)
      exact bodyPost_ret (results_cell_tmp rfl _ _ w.heap.size 50 zeroSC (0, 0) _ (.int .i64 2) rfl rfl (setRow_heap _ _ _ _ _ _ HL1.out.n) Tryd.underlying50 rfl (sup_info zeroSU)) rfl ⟨rfl, below_setRow HL1.out.bel (Nat.le_refl _) _⟩
end Go.Proofs.YtfkhfmhmkccbgaaDoor.Q
