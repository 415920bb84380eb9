/- wipeTorn. -/
import Derived.Test.YtmfcbndgambfmaaDoorTc
set_option linter.unusedVariables false
namespace Go.Proofs.YtmfcbndgambfmaaDoor.Q
open Go.RowKit

theorem eql_sec (a b : SB) (w : World) : (binOp .eql 64 (.agg (sec a).toArray) (.agg (sec b).toArray)).run Tryd.prog w = .ok (.bool (a.1 == b.1)) w := by
  have h := run_equalIn_bytes (P := Tryd.prog) w 9998 64 5 64 Tryd.underlying64 Tryd.underlying5 (fun w => by kernel_rfl) a.1 b.1 a.2 b.2
  have h2 : (Op.equalIn 10000 64 (.agg (sec a).toArray) (.agg (sec b).toArray)).run Tryd.prog w = .ok (a.1 == b.1) w := h
  rw [run_eql_struct, h2]
  rfl
theorem sup_zero (w : World) : (zeroValue 36).run Tryd.prog w = .ok (.agg zeroSC) w := by kernel_rfl
theorem ofV_size (b : Bool) (l : List UInt8) : (ofV b l).size = 19 := by cases b <;> rfl
theorem ofV_all (b : Bool) (l : List UInt8) : (ofV b l).all (·.oneCell') = true := by
  cases b with
  | false => simp [ofV, zeroSC, Value.oneCell']
  | true => exact superCells_all l
theorem store_sup (w : World) (V : Array Value) (hs : V.size = 19) (h1 : V.all (·.oneCell') = true) : (storeCells ⟨w.heap.size, 0, none⟩ V.toList).run Tryd.prog (w.alloc (.cells zeroSC 36)) = .ok () (w.alloc (.cells V 36)) :=
  run_storeCells_new (P := Tryd.prog) w 36 zeroSC V (by rw [hs]; kernel_rfl) (by rw [hs]; rfl) h1
theorem sec_zero_run (w : World) : (zeroValue 64).run Tryd.prog w = .ok (.agg (sec 0).toArray) w := by kernel_rfl
theorem PDone.chain {w W W2 W3 : World} {F F' : Nat → Prop} {b : Nat} {er : Int} {d' : RD} {e : Ending} (ha : Below w.heap.size w W) (hf : ∀ k, F' k → F k ∨ W.heap.size ≤ k) (hs : Stays W W2 F) (h : PDone W2 F' b er d' e W3) : PDone w F b er d' e W3 := by
  obtain ⟨he, F2, hp, h1, h2⟩ := h
  have s1 := ha.size
  have s2 := hs.size
  refine ⟨he, F2, hp, fun k hk => ?_, ((Stays.of_below ha F).trans hs (fun _ h => .inl h)).trans h2 (fun k hk => (hf k hk).imp id (fun h => by omega))⟩
  rcases h1 k hk with h | h
  · exact (hf k h).imp id (fun h => by omega)
  · exact .inr (by omega)
/-- a slot is made good for a superblock: its first sector is wiped if none's stands there -/
def wipeB (d : RD) (k : Nat) : Bool := superOfB (blkAt d k) || ((partS (blkAt d k) 0).1 == (0 : SB).1)
def wipeK (d : RD) (k : Nat) : Int × RD :=
  if wipeB d k = true then (0, d) else if movesB d = true then (flR (wrD d ((k : Int) * 4) 0), flD (wrD d ((k : Int) * 4) 0)) else (10, movesD d)
set_option maxRecDepth 100000 in
set_option maxHeartbeats 4000000 in
theorem wipe_any {w : World} {F : Nat → Prop} {b : Nat} {d : RD} (hT : Tabs w) (hW : Wids w) (h : PD w F b d) (k : Nat) (hk : hasK d (k : Int)) (hs : Short d 1) :
    Calls Tryd.prog 16 #[.pointer (some ⟨b, 0, none⟩), .int .i64 (k : Int)] w (PDone w F b (wipeK d k).1 (wipeK d k).2) := by
  have HRD := Lib.hid (read_any' h k hk)
  have hl := blkAt_len d k
  have HTW : Hid (∀ W, Below w.heap.size w W → Tabs W ∧ Wids W) := Lib.hid (fun W hb => ⟨hT.below hb hT.size, hW.below hb hW.size⟩)
  have HH := Lib.hid h
  have HS := Lib.hid hs
  have hth : thereN d ((k : Int) * 4) := ⟨by omega, by have := hk.2; omega⟩
  have hk0 : (k : Int) * 4 + 4 ≤ 8192 := by have := hk.2; have := h.n1; omega
  have hz := sec_zero_run
  have hz2 := blk_zero
  have hpk : wipeK d k = if wipeB d k = true then (0, d) else if movesB d = true then (flR (wrD d ((k : Int) * 4) 0), flD (wrD d ((k : Int) * 4) 0)) else (10, movesD d) := rfl
  have hwb : wipeB d k = (superOfB (blkAt d k) || ((partS (blkAt d k) 0).1 == (0 : SB).1)) := rfl
  obtain ⟨l, hll⟩ : ∃ l, blkAt d k = l := ⟨_, rfl⟩
  rw [hll] at HRD hl hwb
  have HOF : Hid (∀ W, Below w.heap.size w W → Calls Tryd.prog 22 #[.agg (cells8 l).toArray] W fun e w' => e = .returned (.tuple #[.agg (ofV (superOfB l) l), .int .i64 (ofE (superOfB l))]) ∧ Below W.heap.size W w') := Lib.hid (fun W hb => sof_any W (HTW.out W hb).1 (HTW.out W hb).2 l hl)
  have HSO : Hid (∀ W, Calls Tryd.prog 29 #[.agg (cells8 l).toArray, .int .i64 0] W fun e w' => e = .returned (.agg (sec (partS l 0)).toArray) ∧ Below W.heap.size W w') := Lib.hid (fun W => sectorOf_any W l hl 0 (by omega))
  have hst := fun w => store_blk w noughts l noughts_len hl
  have hlc : (cells8 l).length = 256 := by rw [cells8_length, hl]
  have hnc : (cells8 noughts).length = 256 := by rw [cells8_length, noughts_len]
  have HG : Hid (∀ (w1 W : World), Below (w1.alloc (.cells (cells8 l).toArray 45)).heap.size (w1.alloc (.cells (cells8 l).toArray 45)) W → W.rangeAt w1.heap.size 0 (cells8 l)) := Lib.hid (fun w1 W hb j u hu => by
    rw [Joins.cell_of_block ((hb.block _ (by simp)).trans (heap_alloc_new w1 _)), List.getElem?_toArray, Nat.zero_add]; exact hu)
  have hzs := sup_zero
  obtain ⟨V, hV⟩ : ∃ V, ofV (superOfB l) l = V := ⟨_, rfl⟩
  have hVs : V.size = 19 := by rw [← hV]; exact ofV_size _ _
  have hVst := fun w => store_sup w V hVs (by rw [← hV]; exact ofV_all _ _)
  rw [hV] at HOF
  clear h hk hs hT hW hll hV
  cases ho : superOfB l with
  | true =>
    rw [ho] at HOF hwb
    have e : wipeK d k = (0, d) := by rw [hpk, if_pos (by rw [hwb]; rfl)]
    rw [e]
    have e0 : ofE true = 0 := rfl
    rw [e0] at HOF
    clear hpk hwb ho e e0
    go_enter Tryd.func16, Tryd.ntmps16
    go_wp2_with (first
      | (go_at_call 11; (with_reducible refine HRD.out.mono ?_); rintro e w1 ⟨rfl, hb1⟩; have HB1 := Lib.hid (hb1.alloc hb1.size (.cells (cells8 l).toArray 45)); clear hb1)
      | refine wpList_load_mid rfl 45 (.tmp 5) rfl w1.heap.size 0 rfl (cells8 l) _ (HG.out _ _ (by with_reducible first | exact Below.refl _ _ | exact HB2.out)) blk_u rfl (blk_sz l hl) ?_
      | (go_at_call 22; (with_reducible refine (HOF.out _ HB1.out).mono ?_); rintro e w2 ⟨rfl, hb2⟩; have HB2 := Lib.hid hb2; clear hb2)
      | fail)
    go_ret
    exact PDone.same HH.out ((HB1.out.trans (HB2.out.mono HB1.out.size)).alloc (Nat.le_trans HB1.out.size HB2.out.size) _)
  | false =>
    rw [ho] at HOF hwb
    have e0 : ofE false = 4 := rfl
    rw [e0] at HOF
    have hq := eql_sec (partS l 0) 0
    cases hx : ((partS l 0).1 == (0 : SB).1) with
    | true =>
      rw [hx] at hwb hq
      have e : wipeK d k = (0, d) := by rw [hpk, if_pos (by rw [hwb]; rfl)]
      rw [e]
      clear hpk hwb ho e e0 hx
      go_enter Tryd.func16, Tryd.ntmps16
      go_wp2_with (first
        | (go_at_call 11; (with_reducible refine HRD.out.mono ?_); rintro e w1 ⟨rfl, hb1⟩; have HB1 := Lib.hid (hb1.alloc hb1.size (.cells (cells8 l).toArray 45)); clear hb1)
        | refine wpList_load_mid rfl 45 (.tmp 5) rfl w1.heap.size 0 rfl (cells8 l) _ (HG.out _ _ (by with_reducible first | exact Below.refl _ _ | exact HB2.out)) blk_u rfl (blk_sz l hl) ?_
        | (go_at_call 22; (with_reducible refine (HOF.out _ HB1.out).mono ?_); rintro e w2 ⟨rfl, hb2⟩; have HB2 := Lib.hid hb2; clear hb2)
        | fail)
      refine wp_load_mid 45 (.tmp 5) rfl w1.heap.size 0 rfl (cells8 l) _ (HG.out _ _ (HB2.out.alloc HB2.out.size _)) blk_u rfl (blk_sz l hl) ?_
      go_wp2_with (first
        | (go_at_call 29; (with_reducible refine (HSO.out _).mono ?_); rintro e w3 ⟨rfl, hb3⟩; have HB3 := Lib.hid ((HB1.out.trans (HB2.out.mono HB1.out.size)).alloc (Nat.le_trans HB1.out.size HB2.out.size) (.cells V 36) |>.trans (hb3.mono (by have h1 := HB1.out.size; have h2 := HB2.out.size; simp at h1 h2 ⊢; omega))); clear hb3)
        | fail)
      go_ret
      exact PDone.same HH.out HB3.out
    | false =>
      rw [hx] at hwb hq
      have hpk2 : wipeK d k = if movesB d = true then (flR (wrD d ((k : Int) * 4) 0), flD (wrD d ((k : Int) * 4) 0)) else (10, movesD d) := by rw [hpk, if_neg (by rw [hwb]; simp)]
      cases hm : movesB d with
      | true =>
        have e : wipeK d k = (flR (wrD d ((k : Int) * 4) 0), flD (wrD d ((k : Int) * 4) 0)) := by rw [hpk2, if_pos hm]
        rw [e]
        have HWR : Hid (∀ W, Below w.heap.size w W → Calls Tryd.prog 30 #[.pointer (some ⟨b, 0, none⟩), .int .i64 ((k : Int) * 4), .agg (sec 0).toArray] W (PDone W F b 0 (wrD d ((k : Int) * 4) 0))) := Lib.hid (fun W hb => by
          have hq := pd_write W F b d (HH.out.below hb) ((k : Int) * 4) 0 HS.out.at_
          have e1 : wrR d ((k : Int) * 4) = 0 := by unfold wrR; rw [if_pos hth, if_pos hm]
          rw [e1] at hq
          exact hq)
        obtain ⟨dW, hdW⟩ : ∃ dW, wrD d ((k : Int) * 4) 0 = dW := ⟨_, rfl⟩
        rw [hdW] at HWR ⊢
        obtain ⟨er, her⟩ : ∃ er, flR dW = er := ⟨_, rfl⟩
        have HFL : Hid (∀ (W : World) (F' : Nat → Prop), PD W F' b dW → Calls Tryd.prog 18 #[.pointer (some ⟨b, 0, none⟩)] W (PDone W F' b er (flD dW))) := Lib.hid (fun W F' h => by rw [← her]; exact pd_flush W F' b dW h)
        rw [her]
        clear hpk hwb ho e e0 hx hpk2 hm hdW her
        go_enter Tryd.func16, Tryd.ntmps16
        go_wp2_with (first
          | (go_at_call 11; (with_reducible refine HRD.out.mono ?_); rintro e w1 ⟨rfl, hb1⟩; have HB1 := Lib.hid (hb1.alloc hb1.size (.cells (cells8 l).toArray 45)); clear hb1)
          | refine wpList_load_mid rfl 45 (.tmp 5) rfl w1.heap.size 0 rfl (cells8 l) _ (HG.out _ _ (by with_reducible first | exact Below.refl _ _ | exact HB2.out)) blk_u rfl (blk_sz l hl) ?_
          | (go_at_call 22; (with_reducible refine (HOF.out _ HB1.out).mono ?_); rintro e w2 ⟨rfl, hb2⟩; have HB2 := Lib.hid hb2; clear hb2)
          | fail)
        refine wp_load_mid 45 (.tmp 5) rfl w1.heap.size 0 rfl (cells8 l) _ (HG.out _ _ (HB2.out.alloc HB2.out.size _)) blk_u rfl (blk_sz l hl) ?_
        go_wp2_with (first
          | (go_at_call 29; (with_reducible refine (HSO.out _).mono ?_); rintro e w3 ⟨rfl, hb3⟩; have HB3 := Lib.hid ((HB1.out.trans (HB2.out.mono HB1.out.size)).alloc (Nat.le_trans HB1.out.size HB2.out.size) (.cells V 36) |>.trans (hb3.mono (by have h1 := HB1.out.size; have h2 := HB2.out.size; simp at h1 h2 ⊢; omega))); clear hb3)
          | (go_at_call 30; (with_reducible refine (HWR.out _ HB3.out).mono ?_); rintro e w4 ⟨rfl, F', hp4, hf4, hs4⟩; have HP4 := Lib.hid hp4; have HF4 := Lib.hid hf4; have HS4 := Lib.hid hs4; clear hp4 hf4 hs4)
          | (go_at_call 18; (with_reducible refine (HFL.out _ F' HP4.out).mono ?_); rintro e w5 h5; have h6 := PDone.chain HB3.out HF4.out HS4.out h5; obtain ⟨rfl, h7⟩ := h6; have H7 := Lib.hid h7; clear h5 h7)
          | fail)
        go_ret
        exact ⟨rfl, H7.out⟩
      | false =>
        have e : wipeK d k = (10, movesD d) := by rw [hpk2, if_neg (by rw [hm]; simp)]
        rw [e]
        have HWR : Hid (∀ W, Below w.heap.size w W → Calls Tryd.prog 30 #[.pointer (some ⟨b, 0, none⟩), .int .i64 ((k : Int) * 4), .agg (sec 0).toArray] W (PDone W F b 10 (movesD d))) := Lib.hid (fun W hb => by
          have hq := pd_write W F b d (HH.out.below hb) ((k : Int) * 4) 0 HS.out.at_
          have e1 : wrR d ((k : Int) * 4) = 10 := by unfold wrR; rw [if_pos hth, if_neg (by rw [hm]; simp)]
          have e2 : wrD d ((k : Int) * 4) 0 = movesD d := by unfold wrD; rw [if_pos hth, if_neg (by rw [hm]; simp)]
          rw [e1, e2] at hq
          exact hq)
        clear hpk hwb ho e e0 hx hpk2 hm
        go_enter Tryd.func16, Tryd.ntmps16
        go_wp2_with (first
          | (go_at_call 11; (with_reducible refine HRD.out.mono ?_); rintro e w1 ⟨rfl, hb1⟩; have HB1 := Lib.hid (hb1.alloc hb1.size (.cells (cells8 l).toArray 45)); clear hb1)
          | refine wpList_load_mid rfl 45 (.tmp 5) rfl w1.heap.size 0 rfl (cells8 l) _ (HG.out _ _ (by with_reducible first | exact Below.refl _ _ | exact HB2.out)) blk_u rfl (blk_sz l hl) ?_
          | (go_at_call 22; (with_reducible refine (HOF.out _ HB1.out).mono ?_); rintro e w2 ⟨rfl, hb2⟩; have HB2 := Lib.hid hb2; clear hb2)
          | fail)
        refine wp_load_mid 45 (.tmp 5) rfl w1.heap.size 0 rfl (cells8 l) _ (HG.out _ _ (HB2.out.alloc HB2.out.size _)) blk_u rfl (blk_sz l hl) ?_
        go_wp2_with (first
          | (go_at_call 29; (with_reducible refine (HSO.out _).mono ?_); rintro e w3 ⟨rfl, hb3⟩; have HB3 := Lib.hid ((HB1.out.trans (HB2.out.mono HB1.out.size)).alloc (Nat.le_trans HB1.out.size HB2.out.size) (.cells V 36) |>.trans (hb3.mono (by have h1 := HB1.out.size; have h2 := HB2.out.size; simp at h1 h2 ⊢; omega))); clear hb3)
          | (go_at_call 30; (with_reducible refine (HWR.out _ HB3.out).mono ?_); rintro e w4 h4; have h6 := PDone.chain HB3.out (fun _ h => .inl h) (Stays.refl _ _) h4; obtain ⟨rfl, h7⟩ := h6; have H7 := Lib.hid h7; clear h4 h7)
          | fail)
        go_ret
        exact ⟨rfl, H7.out⟩
end Go.Proofs.YtmfcbndgambfmaaDoor.Q
