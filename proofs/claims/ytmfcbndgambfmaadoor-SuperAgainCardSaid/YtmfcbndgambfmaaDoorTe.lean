/- Save. -/
import Derived.Test.YtmfcbndgambfmaaDoorTd
set_option linter.unusedVariables false
namespace Go.Proofs.YtmfcbndgambfmaaDoor.Q
open Go.RowKit

theorem wrK_len (k : Nat) (l : List UInt8) : ∀ n i d, (wrK d k l n i).2.s.length = d.s.length
  | 0, _, _ => rfl
  | n + 1, i, d => by
    rw [wrK]
    split
    · rw [wrK_len k l n (i + 1), wrD_len]
    · simp [movesD_s]
theorem flD_len (d : RD) : (flD d).s.length = d.s.length := by
  unfold flD
  split
  · simp [flushD, movesD_s]
  · rw [movesD_s]
theorem wipeK_len (d : RD) (k : Nat) : (wipeK d k).2.s.length = d.s.length := by
  unfold wipeK
  split
  · rfl
  · split
    · rw [flD_len, wrD_len]
    · rw [movesD_s]
theorem Short.moves {d : RD} {m : Nat} (h : Short d m) : Short (movesD d) m := fun i => by rw [movesD_s]; exact h i
theorem Short.flush {d : RD} {m : Nat} (h : Short d m) (hm : m < 1000000) : Short (flD d) m := by
  unfold flD
  split
  · intro i
    simp only [flushD, movesD_s]
    rw [List.getD_eq_getElem?_getD, List.getElem?_map]
    cases d.s[i]? with
    | none => simp; omega
    | some x => simp; omega
  · exact h.moves
theorem Short.wipe {d : RD} {m : Nat} (h : Short d (m + 1)) (hm : m < 1000000) (k : Nat) : Short (wipeK d k).2 m := by
  unfold wipeK
  split
  · exact h.less (Nat.le_succ _)
  · split
    · exact (h.wr _ _).flush hm
    · exact (h.less (Nat.le_succ _)).moves
/-- a superblock is saved -/
def saveK (d : RD) (s : SU) : Int × RD :=
  if s.may = true then
    if (wipeK d (s.tx % 2)).1 = 0 then
      if (writeK (wipeK d (s.tx % 2)).2 (s.tx % 2) s.img).1 = 0 then (flR (writeK (wipeK d (s.tx % 2)).2 (s.tx % 2) s.img).2, flD (writeK (wipeK d (s.tx % 2)).2 (s.tx % 2) s.img).2)
      else writeK (wipeK d (s.tx % 2)).2 (s.tx % 2) s.img
    else wipeK d (s.tx % 2)
  else (2, d)
theorem wrK_err (k : Nat) (l : List UInt8) : ∀ n i d, (wrK d k l n i).1 = 0 ∨ (wrK d k l n i).1 = 10
  | 0, _, _ => .inl rfl
  | n + 1, i, d => by
    rw [wrK]
    split
    · exact wrK_err k l n _ _
    · exact .inr rfl
theorem flR_err (d : RD) : flR d = 0 ∨ flR d = 10 := by
  unfold flR
  split
  · exact .inl rfl
  · exact .inr rfl
theorem wipeK_err (d : RD) (k : Nat) : (wipeK d k).1 = 0 ∨ (wipeK d k).1 = 10 := by
  unfold wipeK
  split
  · exact .inl rfl
  · split
    · exact flR_err _
    · exact .inr rfl
theorem has_slot {d : RD} (h : 8 ≤ d.s.length) (t : Nat) : hasK d ((t % 2 : Nat) : Int) := ⟨by omega, by omega⟩
set_option maxRecDepth 100000 in
set_option maxHeartbeats 4000000 in
theorem save_any {w : World} {F : Nat → Prop} {b : Nat} {d : RD} (hT : Tabs w) (hW : Wids w) (h : PD w F b d) (h8 : 8 ≤ d.s.length) (s : SU) (hf : s.fits) (hs : Short d 5) :
    Calls Tryd.prog 7 #[.pointer (some ⟨b, 0, none⟩), .agg s.cells] w (PDone w F b (saveK d s).1 (saveK d s).2) := by
  have HTW : Hid (∀ W, Below w.heap.size w W → Tabs W ∧ Wids W) := Lib.hid (fun W hb => ⟨hT.below hb hT.size, hW.below hb hW.size⟩)
  have HH := Lib.hid h
  have n0 : ((d.s.length : Int) == 0) = false := by rw [beq_eq_false_iff_ne]; omega
  have HSEC := Lib.hid (fun (W : World) (hb : Below w.heap.size w W) => pd_sectors (h.below hb))
  have HBL := Lib.hid (fun (W : World) (hb : Below w.heap.size w W) => SU.block W (HTW.out W hb).1 (HTW.out W hb).2 s hf)
  have HSL := Lib.hid (fun (W : World) => slotOf_any W s hf)
  have hz2 := blk_zero
  have hsc : s.cells.size = 19 := rfl
  have hbl : s.blk.length = 256 := blkB_len _ _ s.img_len
  have hst := fun w => store_blk w noughts s.blk noughts_len hbl
  have hbc : (cells8 s.blk).length = 256 := by rw [cells8_length, hbl]
  have HIM := Lib.hid s.img_len
  cases hm : s.may with
  | false =>
    have e : saveK d s = (2, d) := by unfold saveK; rw [if_neg (by rw [hm]; simp)]
    have e1 : s.err = 2 := by rw [SU.err, hm]; rfl
    rw [e]
    rw [e1] at HBL
    have HBA := Lib.hid ((Below.refl _ w).alloc (Nat.le_refl _) (.cells s.cells 36))
    have HRG : Hid (∀ W, Below (w.alloc (.cells s.cells 36)).heap.size (w.alloc (.cells s.cells 36)) W → W.rangeAt w.heap.size 0 s.cells.toList) := Lib.hid (fun W hb j u hu => by
      rw [Joins.cell_of_block ((hb.block _ (by simp)).trans (heap_alloc_new w _)), Nat.zero_add, ← Array.getElem?_toList]; exact hu)
    obtain ⟨cl, hcl⟩ : ∃ cl : List Value, s.cells = cl.toArray := ⟨s.cells.toList, by simp⟩
    rw [hcl] at HBL HSL HBA hsc HRG ⊢
    rw [List.toList_toArray] at HRG
    have hsc' : cl.length = 19 := by simpa using hsc
    have hinf : (Tryd.prog.info? 36).map (·.size) = some cl.length := by rw [hsc']; kernel_rfl
    clear hT hW h hf hs hm e e1 hcl HSL
    generalize s.blk = l at *
    go_enter Tryd.func7, Tryd.ntmps7
    go_wp2_with (first
      | (go_at_call 14; (with_reducible refine (HSEC.out _ HBA.out).mono ?_); rintro e w1 ⟨rfl, rfl⟩)
      | refine wpList_load_mid rfl 36 (.tmp 3) rfl w.heap.size 0 rfl cl _ (HRG.out _ (by with_reducible first | exact Below.refl _ _ | exact HB2.out)) Tryd.underlying36 rfl hinf ?_
      | (go_at_call 12; (with_reducible refine (HBL.out _ HBA.out).mono ?_); rintro e w2 ⟨rfl, hb2⟩; have HB2 := Lib.hid (hb2.alloc hb2.size (.cells (cells8 l).toArray 45)); clear hb2)
      | fail)
    go_ret
    exact PDone.same HH.out (HBA.out.trans (HB2.out.mono (by simp)))
  | true =>
    have e1 : s.err = 0 := by rw [SU.err, hm]; rfl
    have e2 : s.blk = s.img := by rw [SU.blk, hm]; rfl
    rw [e1] at HBL
    rw [e2] at HBL hbl hst hbc
    have h256 := s.img_len
    obtain ⟨k, hk⟩ : ∃ k, s.tx % 2 = k := ⟨_, rfl⟩
    have hk2 : k < 2 := by omega
    have hsk : saveK d s = if (wipeK d k).1 = 0 then if (writeK (wipeK d k).2 k s.img).1 = 0 then (flR (writeK (wipeK d k).2 k s.img).2, flD (writeK (wipeK d k).2 k s.img).2) else writeK (wipeK d k).2 k s.img else wipeK d k := by
      unfold saveK; rw [if_pos hm, hk]
    rw [hk] at HSL
    have hhas : ∀ d' : RD, d'.s.length = d.s.length → hasK d' (k : Int) := fun d' e => ⟨by omega, by rw [e]; omega⟩
    have HWP := Lib.hid (fun (W : World) (hb : Below w.heap.size w W) => wipe_any (HTW.out W hb).1 (HTW.out W hb).2 (h.below hb) k (hhas d rfl) (hs.less (by omega)))
    have HWR := Lib.hid (fun (W : World) (F1 : Nat → Prop) (hp : PD W F1 b (wipeK d k).2) => write_any' hp k (hhas _ (wipeK_len d k)) s.img h256 (hs.wipe (by omega) k))
    have HFL := Lib.hid (fun (W : World) (F1 : Nat → Prop) (hp : PD W F1 b (writeK (wipeK d k).2 k s.img).2) => pd_flush W F1 b _ hp)
    have hz1 := wipeK_err d k
    have hz2' := wrK_err k s.img 4 0 (wipeK d k).2
    have hFw : ∀ j, F j → j < w.heap.size := fun j hj => h.lt hj
    have HFW := Lib.hid hFw
    have HBA := Lib.hid ((Below.refl _ w).alloc (Nat.le_refl _) (.cells s.cells 36))
    have HRG : Hid (∀ W, Below (w.alloc (.cells s.cells 36)).heap.size (w.alloc (.cells s.cells 36)) W → W.rangeAt w.heap.size 0 s.cells.toList) := Lib.hid (fun W hb j u hu => by
      rw [Joins.cell_of_block ((hb.block _ (by simp)).trans (heap_alloc_new w _)), Nat.zero_add, ← Array.getElem?_toList]; exact hu)
    obtain ⟨cl, hcl⟩ : ∃ cl : List Value, s.cells = cl.toArray := ⟨s.cells.toList, by simp⟩
    rw [hcl] at HBL HSL HBA hsc HRG ⊢
    rw [List.toList_toArray] at HRG
    have hsc' : cl.length = 19 := by simpa using hsc
    have hinf : (Tryd.prog.info? 36).map (·.size) = some cl.length := by rw [hsc']; kernel_rfl
    clear hT hW h hf hs hm e1 e2 hcl hk hhas hFw
    obtain ⟨l, hll⟩ : ∃ l, s.img = l := ⟨_, rfl⟩
    rw [hll] at HBL hbl hst hbc HWR HFL hz2' hsk h256 HIM
    obtain ⟨r1, hr1⟩ : ∃ r, wipeK d k = r := ⟨_, rfl⟩
    rw [hr1] at HWP HWR HFL hz1 hz2' hsk
    obtain ⟨er1, d1⟩ := r1
    simp only at HWP HWR HFL hz1 hz2' hsk
    obtain ⟨r2, hr2⟩ : ∃ r, writeK d1 k l = r := ⟨_, rfl⟩
    have hr2' : wrK d1 k l 4 0 = r2 := hr2
    rw [hr2] at HWR HFL hsk
    rw [hr2'] at hz2'
    obtain ⟨er2, d2⟩ := r2
    simp only at HWR HFL hz2' hsk
    have HRB : Hid (∀ (w2 W : World), (∀ j, F j → j < w2.heap.size) → Stays (w2.alloc (.cells (cells8 l).toArray 45)) W F → W.rangeAt w2.heap.size 0 (cells8 l)) := Lib.hid (fun w2 W hF hst j u hu => by
      rw [Joins.cell_of_block ((hst.block _ (by simp) (fun e => by have := hF _ e; omega)).trans (heap_alloc_new w2 _)), List.getElem?_toArray, Nat.zero_add]; exact hu)
    clear hll hr1 hr2 hr2' hk2
    rcases hz1 with rfl | rfl
    · rcases hz2' with rfl | rfl
      · have e : saveK d s = (flR d2, flD d2) := by rw [hsk, if_pos rfl, if_pos rfl]
        rw [e]
        obtain ⟨er, her⟩ : ∃ er, flR d2 = er := ⟨_, rfl⟩
        rw [her] at HFL ⊢
        clear hsk e her
        go_enter Tryd.func7, Tryd.ntmps7
        go_wp2_with (first
          | (go_at_call 14; (with_reducible refine (HSEC.out _ HBA.out).mono ?_); rintro e w1 ⟨rfl, rfl⟩)
          | refine wpList_load_mid rfl 36 (.tmp 3) rfl w.heap.size 0 rfl cl _ (HRG.out _ (by with_reducible first | exact Below.refl _ _ | exact HB2.out)) Tryd.underlying36 rfl hinf ?_
          | (go_at_call 12; (with_reducible refine (HBL.out _ HBA.out).mono ?_); rintro e w2 ⟨rfl, hb2⟩; have HB2 := Lib.hid (hb2.alloc hb2.size (.cells (cells8 l).toArray 45)); clear hb2)
          | (go_at_call 15; (with_reducible refine (HSL.out _).mono ?_); rintro e w3 ⟨rfl, hb3⟩; have HB3 := Lib.hid hb3; have HBW := Lib.hid (HBA.out.trans (HB2.out.trans (hb3.mono HB2.out.size) |>.mono (by simp))); clear hb3)
          | (go_at_call 16; (with_reducible refine (HWP.out _ HBW.out).mono ?_); rintro e w4 ⟨rfl, F1, hp4, hf4, hs4⟩; have HP4 := Lib.hid hp4; have HF4 := Lib.hid hf4; have HS4 := Lib.hid hs4; have HS4b := Lib.hid ((Stays.of_below HB3.out F).trans hs4 (fun _ h => .inl h)); have HLT := Lib.hid (fun j hj => Nat.lt_of_lt_of_le (HFW.out j hj) (show w.heap.size ≤ w2.heap.size from by have := HB2.out.size; simp at this; omega)); clear hp4 hf4 hs4)
          | refine wpList_load_mid rfl 45 (.tmp 5) rfl w2.heap.size 0 rfl (cells8 l) _ (HRB.out w2 _ HLT.out HS4b.out) blk_u rfl (blk_sz l hbl) ?_
          | (go_at_call 17; (with_reducible refine (HWR.out _ F1 HP4.out).mono ?_); rintro e w5 ⟨rfl, F2, hp5, hf5, hs5⟩; have HP5 := Lib.hid hp5; have HF5 := Lib.hid hf5; have HS5 := Lib.hid hs5; clear hp5 hf5 hs5)
          | (go_at_call 18; (with_reducible refine (HFL.out _ F2 HP5.out).mono ?_); rintro e w6 h6; have h7 := PDone.chain HBW.out (fun j hj => (HF5.out j hj).elim (HF4.out j) (fun h => .inr (Nat.le_trans HS4.out.size h))) (HS4.out.trans HS5.out HF4.out) h6; obtain ⟨rfl, h8⟩ := h7; have H7 := Lib.hid h8; clear h6 h8)
          | fail)
        go_ret
        exact ⟨rfl, H7.out⟩
      · have e : saveK d s = (10, d2) := by rw [hsk, if_pos rfl, if_neg (by decide)]
        rw [e]
        clear hsk e
        go_enter Tryd.func7, Tryd.ntmps7
        go_wp2_with (first
          | (go_at_call 14; (with_reducible refine (HSEC.out _ HBA.out).mono ?_); rintro e w1 ⟨rfl, rfl⟩)
          | refine wpList_load_mid rfl 36 (.tmp 3) rfl w.heap.size 0 rfl cl _ (HRG.out _ (by with_reducible first | exact Below.refl _ _ | exact HB2.out)) Tryd.underlying36 rfl hinf ?_
          | (go_at_call 12; (with_reducible refine (HBL.out _ HBA.out).mono ?_); rintro e w2 ⟨rfl, hb2⟩; have HB2 := Lib.hid (hb2.alloc hb2.size (.cells (cells8 l).toArray 45)); clear hb2)
          | (go_at_call 15; (with_reducible refine (HSL.out _).mono ?_); rintro e w3 ⟨rfl, hb3⟩; have HB3 := Lib.hid hb3; have HBW := Lib.hid (HBA.out.trans (HB2.out.trans (hb3.mono HB2.out.size) |>.mono (by simp))); clear hb3)
          | (go_at_call 16; (with_reducible refine (HWP.out _ HBW.out).mono ?_); rintro e w4 ⟨rfl, F1, hp4, hf4, hs4⟩; have HP4 := Lib.hid hp4; have HF4 := Lib.hid hf4; have HS4 := Lib.hid hs4; have HS4b := Lib.hid ((Stays.of_below HB3.out F).trans hs4 (fun _ h => .inl h)); have HLT := Lib.hid (fun j hj => Nat.lt_of_lt_of_le (HFW.out j hj) (show w.heap.size ≤ w2.heap.size from by have := HB2.out.size; simp at this; omega)); clear hp4 hf4 hs4)
          | refine wpList_load_mid rfl 45 (.tmp 5) rfl w2.heap.size 0 rfl (cells8 l) _ (HRB.out w2 _ HLT.out HS4b.out) blk_u rfl (blk_sz l hbl) ?_
          | (go_at_call 17; (with_reducible refine (HWR.out _ F1 HP4.out).mono ?_); rintro e w5 h5; have h6 := PDone.chain HBW.out HF4.out HS4.out h5; obtain ⟨rfl, h7⟩ := h6; have H7 := Lib.hid h7; clear h5 h7)
          | fail)
        go_ret
        exact ⟨rfl, H7.out⟩
    · have e : saveK d s = (10, d1) := by rw [hsk, if_neg (by decide)]
      rw [e]
      clear hsk e HWR HFL
      go_enter Tryd.func7, Tryd.ntmps7
      go_wp2_with (first
        | (go_at_call 14; (with_reducible refine (HSEC.out _ HBA.out).mono ?_); rintro e w1 ⟨rfl, rfl⟩)
        | refine wpList_load_mid rfl 36 (.tmp 3) rfl w.heap.size 0 rfl cl _ (HRG.out _ (by with_reducible first | exact Below.refl _ _ | exact HB2.out)) Tryd.underlying36 rfl hinf ?_
        | (go_at_call 12; (with_reducible refine (HBL.out _ HBA.out).mono ?_); rintro e w2 ⟨rfl, hb2⟩; have HB2 := Lib.hid (hb2.alloc hb2.size (.cells (cells8 l).toArray 45)); clear hb2)
        | (go_at_call 15; (with_reducible refine (HSL.out _).mono ?_); rintro e w3 ⟨rfl, hb3⟩; have HB3 := Lib.hid hb3; have HBW := Lib.hid (HBA.out.trans (HB2.out.trans (hb3.mono HB2.out.size) |>.mono (by simp))); clear hb3)
        | (go_at_call 16; (with_reducible refine (HWP.out _ HBW.out).mono ?_); rintro e w4 h4; have h6 := PDone.chain HBW.out (fun _ h => .inl h) (Stays.refl _ _) h4; obtain ⟨rfl, h7⟩ := h6; have H7 := Lib.hid h7; clear h4 h7)
        | fail)
      go_ret
      exact ⟨rfl, H7.out⟩
end Go.Proofs.YtmfcbndgambfmaaDoor.Q
