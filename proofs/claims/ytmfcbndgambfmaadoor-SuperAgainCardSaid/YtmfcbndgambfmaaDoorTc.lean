/- Write. -/
import Derived.Test.YtmfcbndgambfmaaDoorTb
set_option linter.unusedVariables false
namespace Go.Proofs.YtmfcbndgambfmaaDoor.Q
open Go.RowKit

theorem movesB_iff (d : RD) : movesB d = true ↔ ¬ (d.dead = true ∨ d.fuse = 0) := by
  unfold movesB
  cases d.dead <;> simp
theorem wrD_s (d : RD) (n : Int) (c : SB) : (wrD d n c).s = d.s ∨ (wrD d n c).s = d.s.set n.toNat (d.s.getD n.toNat [] ++ [c]) := by
  unfold wrD
  split
  · split
    · exact .inr (by simp only [writeD, movesD_s])
    · exact .inl (movesD_s d)
  · exact .inl rfl
theorem wrD_len (d : RD) (n : Int) (c : SB) : (wrD d n c).s.length = d.s.length := by
  rcases wrD_s d n c with e | e <;> rw [e]
  simp
/-- each sector's past may have m versions more -/
def Short (d : RD) (m : Nat) : Prop := ∀ i, (d.s.getD i []).length + m ≤ 1000000
theorem Short.less {d : RD} {m n : Nat} (h : Short d m) (hn : n ≤ m) : Short d n := fun i => by have := h i; omega
theorem Short.at_ {d : RD} {m : Nat} (h : Short d (m + 1)) : ∀ i (hi : i < d.s.length), d.s[i].length < 1000000 := fun i hi => by
  have := h i
  rw [getD_get _ i hi] at this
  omega
theorem Short.wr {d : RD} {m : Nat} (h : Short d (m + 1)) (n : Int) (c : SB) : Short (wrD d n c) m := by
  intro i
  have h0 := h i
  rcases wrD_s d n c with e | e <;> rw [e]
  · omega
  · by_cases hi : n.toNat = i
    · subst hi
      rw [List.getD_eq_getElem?_getD, List.getElem?_set_self']
      cases hx : d.s[n.toNat]? with
      | none => simp; omega
      | some x =>
        have : d.s.getD n.toNat [] = x := by rw [List.getD_eq_getElem?_getD, hx]; rfl
        rw [this] at h0 ⊢
        show (x ++ [c]).length + m ≤ 1000000
        rw [List.length_append, List.length_singleton]
        omega
    · rw [List.getD_eq_getElem?_getD, List.getElem?_set_ne hi, ← List.getD_eq_getElem?_getD]
      omega
/-- a block's sectors are written, till an error -/
def wrK (d : RD) (k : Nat) (l : List UInt8) : Nat → Nat → Int × RD
  | 0, _ => (0, d)
  | n + 1, i => if movesB d = true then wrK (wrD d ((k : Int) * 4 + (i : Int)) (partS l i)) k l n (i + 1) else (10, movesD d)
def writeK (d : RD) (k : Nat) (l : List UInt8) : Int × RD := wrK d k l 4 0
theorem write_fin {w W : World} {o : Obj} {F F' : Nat → Prop} {b : Nat} {dd : RD} {er : Int} (ha : Below w.heap.size w (w.alloc o)) (hp : PD W F' b dd) (hf : ∀ j, F' j → F j ∨ w.heap.size < j) (hs : Stays (w.alloc o) W F) : PDone w F b er dd (.returned (.int .i64 er)) W :=
  ⟨rfl, F', hp, fun j hj => (hf j hj).imp id Nat.le_of_lt, (Stays.of_below ha F).trans hs (fun _ h => .inl h)⟩
set_option maxRecDepth 100000 in
set_option maxHeartbeats 4000000 in
theorem write_any' {w : World} {F : Nat → Prop} {b : Nat} {d : RD} (h : PD w F b d) (k : Nat) (hk : hasK d (k : Int)) (l : List UInt8) (hl : l.length = 256) (hs : Short d 4) :
    Calls Tryd.prog 17 #[.pointer (some ⟨b, 0, none⟩), .int .i64 (k : Int), .agg (cells8 l).toArray] w (PDone w F b (writeK d k l).1 (writeK d k l).2) := by
  have hcs := cells8_size l
  have hba := (Below.refl _ w).alloc (Nat.le_refl _) (.cells (cells8 l).toArray 45)
  have hpl := place_any' (h.below hba) (k : Int)
  rw [plK_yes hk] at hpl
  have HP := Lib.hid hpl
  have hr := heap_alloc_new w (.cells (cells8 l).toArray 45)
  have HA := Lib.hid hba
  have HN := Lib.hid hr
  have HK := Lib.hid hk
  have HS := Lib.hid hs
  have HH := Lib.hid h
  have hk0 : (k : Int) * 4 + 4 ≤ 8192 := by have := hk.2; have := h.n1; omega
  clear h hk hs hba hr hpl
  go_enter Tryd.func17, Tryd.ntmps17
  go_wp2_with (first
    | (go_at_call 23; (with_reducible refine HP.out.mono ?_); rintro e w1 ⟨rfl, rfl⟩)
    | fail)
  go_loopw [16] (fun j wr => ∃ (i : Nat) (dI : RD) (FI : Nat → Prop), i ≤ 4 ∧ j = .int .i64 (i : Int) ∧ Hid (PD wr FI b dI ∧ (∀ j, FI j → F j ∨ w.heap.size < j) ∧ Stays (w.alloc (.cells (cells8 l).toArray 45)) wr F ∧ Short dI (4 - i) ∧ dI.s.length = d.s.length ∧ wrK dI k l (4 - i) i = writeK d k l)) (fun j _ => 4 - (intOf j).toNat)
  case atStart => exact ⟨0, d, F, by omega, rfl, HH.out.below HA.out, fun _ h => .inl h, Stays.refl _ _, HS.out, rfl, rfl⟩
  case round =>
    obtain ⟨i, dI, FI, hi, rfl, HI⟩ := hrel
    obtain ⟨hp, hf, hst, hsh, hln, heq⟩ := HI.out
    by_cases hlt : i < 4
    · have hltI : (i : Int) < 4 := by omega
      have hth : thereN dI ((k : Int) * 4 + (i : Int)) := ⟨by omega, by have := HK.out.2; rw [hln]; omega⟩
      have hhb : wr.heap[w.heap.size]? = some (.cells (cells8 l).toArray 45 (0, 0)) := (hst.block _ (by simp) (fun e => by have := HH.out.lt e; omega)).trans HN.out
      have hrg : wr.rangeAt w.heap.size 0 (cells8 l) := fun j u hu => by
        rw [Joins.cell_of_block hhb, List.getElem?_toArray, Nat.zero_add]; exact hu
      have HRG := Lib.hid hrg
      have HSO := Lib.hid (sectorOf_any wr l hl i hlt)
      have hbel : Below wr.heap.size wr wr := Below.refl _ _
      have hn4 : 4 - i = (4 - (i + 1)) + 1 := by omega
      rw [hn4] at hsh heq
      have HF := Lib.hid hf
      have HST := Lib.hid hst
      have HLN := Lib.hid hln
      have HPI := Lib.hid hp
      cases hm : movesB dI with
      | true =>
        have HW : Hid (∀ W, Below wr.heap.size wr W → Calls Tryd.prog 30 #[.pointer (some ⟨b, 0, none⟩), .int .i64 ((k : Int) * 4 + (i : Int)), .agg (sec (partS l i)).toArray] W (PDone W FI b 0 (wrD dI ((k : Int) * 4 + (i : Int)) (partS l i)))) := Lib.hid (fun W hb => by
          have hq := pd_write W FI b dI (hp.below hb) ((k : Int) * 4 + (i : Int)) (partS l i) hsh.at_
          have e1 : wrR dI ((k : Int) * 4 + (i : Int)) = 0 := by unfold wrR; rw [if_pos hth, if_pos hm]
          rw [e1] at hq
          exact hq)
        have HSH := Lib.hid (hsh.wr ((k : Int) * 4 + (i : Int)) (partS l i))
        have heq2 : wrK (wrD dI ((k : Int) * 4 + (i : Int)) (partS l i)) k l (4 - (i + 1)) (i + 1) = writeK d k l := by
          rw [← heq, wrK, if_pos hm]
        have HEQ := Lib.hid heq2
        clear hp hf hst hsh hln heq heq2 hhb hrg hbel hm HI
        go_wp2_with (first
          | refine wpList_load_mid rfl 45 (.tmp 5) rfl w.heap.size 0 rfl (cells8 l) _ HRG.out blk_u rfl (blk_sz l hl) ?_
          | (go_at_call 29; (with_reducible refine HSO.out.mono ?_); rintro e w1 ⟨rfl, hb1⟩; have HB1 := Lib.hid hb1; clear hb1)
          | (go_at_call 30; (with_reducible refine (HW.out _ HB1.out).mono ?_); rintro e w2 ⟨rfl, F', hp2, hf2, hs2⟩; have HP2 := Lib.hid hp2; have HF2 := Lib.hid hf2; have HS2 := Lib.hid hs2; clear hp2 hf2 hs2)
          | fail)
        exact ⟨⟨i + 1, _, F', hlt, by go_num, HP2.out, fun j hj => (HF2.out j hj).elim (HF.out j) (fun h => .inr (by have h1 := HST.out.size; simp at h1; have h2 := HB1.out.size; omega)), (HST.out.trans (Stays.of_below HB1.out F) (fun _ h => .inl h)).trans HS2.out (fun j hj => (HF.out j hj).imp id (fun h => by simp; omega)), HSH.out, (wrD_len _ _ _).trans HLN.out, HEQ.out⟩, by simp [intOf]; omega⟩
      | false =>
        have HW : Hid (∀ W, Below wr.heap.size wr W → Calls Tryd.prog 30 #[.pointer (some ⟨b, 0, none⟩), .int .i64 ((k : Int) * 4 + (i : Int)), .agg (sec (partS l i)).toArray] W (PDone W FI b 10 (movesD dI))) := Lib.hid (fun W hb => by
          have hq := pd_write W FI b dI (hp.below hb) ((k : Int) * 4 + (i : Int)) (partS l i) hsh.at_
          have e1 : wrR dI ((k : Int) * 4 + (i : Int)) = 10 := by unfold wrR; rw [if_pos hth, if_neg (by rw [hm]; simp)]
          have e2 : wrD dI ((k : Int) * 4 + (i : Int)) (partS l i) = movesD dI := by unfold wrD; rw [if_pos hth, if_neg (by rw [hm]; simp)]
          rw [e1, e2] at hq
          exact hq)
        have heq2 : writeK d k l = (10, movesD dI) := by
          rw [← heq, wrK, if_neg (by rw [hm]; simp)]
        have HEQ := Lib.hid heq2
        clear hp hf hst hsh hln heq heq2 hhb hrg hbel hm HI
        go_wp2_with (first
          | refine wpList_load_mid rfl 45 (.tmp 5) rfl w.heap.size 0 rfl (cells8 l) _ HRG.out blk_u rfl (blk_sz l hl) ?_
          | (go_at_call 29; (with_reducible refine HSO.out.mono ?_); rintro e w1 ⟨rfl, hb1⟩; have HB1 := Lib.hid hb1; clear hb1)
          | (go_at_call 30; (with_reducible refine (HW.out _ HB1.out).mono ?_); rintro e w2 ⟨rfl, F', hp2, hf2, hs2⟩; have HP2 := Lib.hid hp2; have HF2 := Lib.hid hf2; have HS2 := Lib.hid hs2; clear hp2 hf2 hs2)
          | fail)
        go_ret
        rw [HEQ.out]
        exact write_fin HA.out HP2.out (fun j hj => (HF2.out j hj).elim (HF.out j) (fun h => .inr (by have h1 := HST.out.size; simp at h1; have h2 := HB1.out.size; omega))) ((HST.out.trans (Stays.of_below HB1.out F) (fun _ h => .inl h)).trans HS2.out (fun j hj => (HF.out j hj).imp id (fun h => by simp; omega)))
    · obtain rfl : i = 4 := by omega
      have heq2 : writeK d k l = (0, dI) := by rw [← heq]; rfl
      have HEQ := Lib.hid heq2
      have HF := Lib.hid hf
      have HST := Lib.hid hst
      have HPI := Lib.hid hp
      clear hp hf hst hsh hln heq heq2 HI
      go_wp2_with fail
      go_ret
      rw [HEQ.out]
      exact write_fin HA.out HPI.out HF.out HST.out
end Go.Proofs.YtmfcbndgambfmaaDoor.Q
