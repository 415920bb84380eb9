/- SuperAgain, walked. -/
import Derived.Test.YtmfcbndgambfmaaDoorWz
set_option linter.unusedVariables false
namespace Go.Proofs.YtmfcbndgambfmaaDoor.Q
open Go.RowKit

theorem some_at (W : World) (z : Int) (n : Nat) (h : z = (n : Int)) : Calls Tryd.prog 6 #[.int .u64 z] W fun e w' => e = .returned (.agg (someU n).cells) ∧ Below W.heap.size W w' := by
  subst h; exact some_any W n
theorem super4_zero (w : World) : (zeroValue 37).run Tryd.prog w = .ok (.agg (row4 (fun _ => zeroSU)).toArray) w := by kernel_rfl
set_option maxRecDepth 20000 in
set_option maxHeartbeats 40000000 in
theorem again_law (w : World) (hT : Tabs w) (hW : Wids w) (f : Nat) (hf : f < 18446744073709551616) (T : Nat → ST) (hST : ∀ i, i < 4 → (T i).fits) (u0 u1 : Int) (A1 A2 : Option Addr) (cap1 cap2 : Nat) (a b : List Int)
    (ha : Shows w w.heap.size A1 a.length (nums a)) (hb : Shows w w.heap.size A2 b.length (nums b)) (hca : a.length ≤ 9223372036854775807) (hcb : b.length ≤ 9223372036854775807) :
    Calls Tryd.prog 3 #[.int .u64 (f : Int), .agg (row6 T).toArray, .agg #[.int .i64 u0, .int .i64 u1], .slice A1 a.length cap1, .slice A2 b.length cap2] w fun e w' => e = .returned (.bool true) ∧ Below w.heap.size w w' := by
  obtain ⟨w1, hw1⟩ : ∃ w1, (w.alloc (.cells (row6 T).toArray 25)).alloc (.cells #[.int .i64 u0, .int .i64 u1] 26) = w1 := ⟨_, rfl⟩
  have bw1 : Below w.heap.size w w1 := by rw [← hw1]; exact ((Below.refl _ w).alloc (Nat.le_refl _) _).alloc (by simp) _
  have hcs : (row6 T).toArray.size = 24 := by simp [row6, ST.cells]
  have q0 : w1.heap[w.heap.size]? = some (.cells (row6 T).toArray 25 (0, 0)) := by
    rw [← hw1, Below.heap_alloc _ _ _ (by simp)]; exact heap_alloc_new w _
  have q1 : w1.heap[w.heap.size + 1]? = some (.cells #[.int .i64 u0, .int .i64 u1] 26 (0, 0)) := by
    have := heap_alloc_new (w.alloc (.cells (row6 T).toArray 25)) (.cells #[.int .i64 u0, .int .i64 u1] 26)
    rw [World.size_alloc] at this
    rw [← hw1]; exact this
  have hs1 : w.heap.size + 2 = w1.heap.size := by rw [← hw1]; simp
  have HKW := Lib.hid (fun W hb => known_any w W hb hT hW)
  have HBW := Lib.hid bw1
  have f0 : w1.cell? ⟨w.heap.size + 1, 0, none⟩ = some (.int .i64 u0) := by rw [Joins.cell_of_block q1]; rfl
  have f1 : w1.cell? ⟨w.heap.size + 1, 1, none⟩ = some (.int .i64 u1) := by rw [Joins.cell_of_block q1]; rfl
  generalize hrl : row6 T = rl at *
  by_cases c0 : (f : Int) < 1
  · clear ha hb
    go_enter Tryd.func3, Tryd.ntmps3
    go_wp2_with (first
      | (go_at_call 4; (with_reducible refine (HKW.out _ HBW.out).mono ?_); rintro e wk ⟨rfl, hbk⟩)
      | fail)
    go_ret
    exact ⟨rfl, hbk⟩
  by_cases c1 : (1099511627776 : Int) < (f : Int)
  · clear ha hb
    go_enter Tryd.func3, Tryd.ntmps3
    go_wp2_with (first
      | (go_at_call 4; (with_reducible refine (HKW.out _ HBW.out).mono ?_); rintro e wk ⟨rfl, hbk⟩)
      | fail)
    go_ret
    exact ⟨rfl, hbk⟩
  by_cases c2 : u0 < 0
  · clear ha hb
    go_enter Tryd.func3, Tryd.ntmps3
    go_wp2_with (first
      | (go_at_call 4; (with_reducible refine (HKW.out _ HBW.out).mono ?_); rintro e wk ⟨rfl, hbk⟩)
      | fail)
    go_ret
    exact ⟨rfl, hbk⟩
  by_cases c3 : 20 < u0
  · clear ha hb
    go_enter Tryd.func3, Tryd.ntmps3
    go_wp2_with (first
      | (go_at_call 4; (with_reducible refine (HKW.out _ HBW.out).mono ?_); rintro e wk ⟨rfl, hbk⟩)
      | fail)
    go_ret
    exact ⟨rfl, hbk⟩
  by_cases c4 : u1 < 0
  · clear ha hb
    go_enter Tryd.func3, Tryd.ntmps3
    go_wp2_with (first
      | (go_at_call 4; (with_reducible refine (HKW.out _ HBW.out).mono ?_); rintro e wk ⟨rfl, hbk⟩)
      | fail)
    go_ret
    exact ⟨rfl, hbk⟩
  by_cases c5 : 20 < u1
  · clear ha hb
    go_enter Tryd.func3, Tryd.ntmps3
    go_wp2_with (first
      | (go_at_call 4; (with_reducible refine (HKW.out _ HBW.out).mono ?_); rintro e wk ⟨rfl, hbk⟩)
      | fail)
    go_ret
    exact ⟨rfl, hbk⟩
  have HN : Hid (Calls Tryd.prog 5 #[.int .i64 40] w1 fun e w' => ∃ b, e = .returned (.tuple #[.pointer (some ⟨b, 0, none⟩), .int .i64 0]) ∧ Hid (KS w1 w' b (newD 40))) := Lib.hid (KS.new 40 w1 w1 (Below.refl _ _) (by omega))
  have hz := super4_zero
  obtain ⟨z4, hz4⟩ : ∃ z4, row4 (fun _ => zeroSU) = z4 := ⟨_, rfl⟩
  rw [hz4] at hz
  have hU0 : row4 (upTo f T 0) = z4 := by rw [← hz4]; exact congrArg row4 (funext fun j => if_neg (Nat.not_lt_zero j))
  have HU0 := Lib.hid hU0
  have HRL := Lib.hid hrl
  have HQ0 := Lib.hid q0
  have HQ1 := Lib.hid q1
  have HS0 := Lib.hid hs1
  have hst6 : (Tryd.prog.info? 24).map (·.size) = some 6 := by kernel_rfl
  have HI6 := Lib.hid hst6
  have hsu := sup_info
  have HI19 := Lib.hid hsu
  have hc0 : 1 ≤ f ∧ f ≤ 1099511627776 := by omega
  have HA := Lib.hid ha
  have HB := Lib.hid hb
  have HTW : Hid (∀ W, Below w1.heap.size w1 W → Tabs W ∧ Wids W) := Lib.hid (fun W hb => ⟨(hT.below bw1 hT.size).below hb (hT.below bw1 hT.size).size, (hW.below bw1 hW.size).below hb (hW.below bw1 hW.size).size⟩)
  clear ha hb hz4 hU0 hrl q0 hst6 hsu hT hW hcs bw1 q1 hs1
  go_enter Tryd.func3, Tryd.ntmps3
  go_wp2_with (first
    | (go_at_call 5; (with_reducible refine HN.out.mono ?_); rintro e wn ⟨bd, rfl, hk⟩; have HG0 := Lib.hid (GS.of hk.out); clear hk)
    | fail)
  have HG1 := Lib.hid (HG0.out.box (.cells z4.toArray 37))
  go_loopw [14] (fun j wr => ∃ i : Nat, i ≤ 4 ∧ j = .int .i64 (i : Int) ∧ Hid (GS w1 wr bd (newD 40) [(wn.heap.size, .cells (row4 (upTo f T i)).toArray 37 (0, 0))])) (fun j _ => 4 - (intOf j).toNat)
  case atStart => exact ⟨0, by omega, rfl, by rw [HU0.out]; exact HG1.out⟩
  case round =>
    obtain ⟨i, hi, rfl, HGi⟩ := hrel
    clear HG0 HG1
    by_cases hlt : i < 4
    · have hltI : (i : Int) < 4 := by omega
      obtain ⟨A0, hA0⟩ : ∃ A0, upTo f T i = A0 := ⟨_, rfl⟩
      rw [hA0] at HGi
      have hz0 : A0 i = zeroSU := by rw [← hA0]; exact if_neg (Nat.lt_irrefl i)
      have HS1 : Hid (∀ W, GS w1 W bd (newD 40) [(wn.heap.size, .cells (row4 A0).toArray 37 (0, 0))] → (storeVar 36 ⟨wn.heap.size, i * 19, none⟩ (.agg (someU (f + min i 2)).cells)).run Tryd.prog W = .ok () (W.setRow wn.heap.size (row4 (upd A0 i (someU (f + min i 2)))).toArray)) := Lib.hid (fun W hG =>
        storeVar_agg _ (HI19.out _) (row4_store A0 (hG.at (List.mem_cons_self ..)) i hlt 0 _ _ (by rw [cells_len]; omega) (by rw [hz0]; rfl) (fun v hv => (Array.all_eq_true_iff_forall_mem.1 (cellsS_all _)) v (by simpa using hv))))
      have HS2 : Hid (∀ W, GS w1 W bd (newD 40) [(wn.heap.size, .cells (row4 (upd A0 i (someU (f + min i 2)))).toArray 37 (0, 0))] → (storeVar 24 ⟨wn.heap.size, i * 19 + 13, none⟩ (.agg (T i).cells.toArray)).run Tryd.prog W = .ok () (W.setRow wn.heap.size (row4 (upd A0 i (lawT f T i))).toArray)) := Lib.hid (fun W hG => by
        rw [← upd_upd A0 i (someU (f + min i 2)) (lawT f T i)]
        exact storeVar_agg _ HI6.out (row4_store _ (hG.at (List.mem_cons_self ..)) i hlt 13 (T i).cells _ (by simp [ST.cells]) (by rw [upd_at]; rfl) (by simp [ST.cells, Value.oneCell'])))
      have HS3 : Hid (∀ W, GS w1 W bd (newD 40) [(wn.heap.size, .cells (row4 (upd A0 i (lawT f T i))).toArray 37 (0, 0))] → (storeVar 33 ⟨wn.heap.size, i * 19 + 9, none⟩ (.int .u32 (i : Int))).run Tryd.prog W = .ok () (W.setRow wn.heap.size (row4 (upTo f T (i + 1))).toArray)) := Lib.hid (fun W hG => by
        rw [← upTo_next f T i, hA0, ← upd_upd A0 i (lawT f T i) (lawS f T i)]
        exact storeVar_u32 (row4_store _ (hG.at (List.mem_cons_self ..)) i hlt 9 [.int .u32 (i : Int)] _ (by simp) (by rw [upd_at]; rfl) (by simp [Value.oneCell'])))
      have HRG : Hid (∀ W, Below w1.heap.size w1 W → W.rangeAt w.heap.size (i * 6) (T i).cells) := Lib.hid (fun W hb => by
        refine row6_range T (t := 25) ?_ i hlt
        rw [HRL.out]
        exact (hb.block _ (by have := HS0.out; omega)).trans HQ0.out)
      have HI6' : Hid ((Tryd.prog.info? 24).map (·.size) = some (T i).cells.length) := HI6
      clear hA0 hz0
      go_wp2_with (first
        | (go_at_call 6; (with_reducible refine (some_at _ _ (f + min i 2) (by omega)).mono ?_); rintro e w2 ⟨rfl, hb2⟩; have HG2 := Lib.hid (HGi.out.below hb2); have HG3 := Lib.hid (HG2.out.set (cs' := (row4 (upd A0 i (someU (f + min i 2)))).toArray) (fun p hp => by cases hp)); have HG4 := Lib.hid (HG3.out.set (cs' := (row4 (upd A0 i (lawT f T i))).toArray) (fun p hp => by cases hp)); have HG5 := Lib.hid (HG4.out.set (cs' := (row4 (upTo f T (i + 1))).toArray) (fun p hp => by cases hp)); clear hb2)
        | (refine wpList_store_run rfl 36 (.tmp 69) (.tmp 68) rfl wn.heap.size (i * 19) _ ?ww1 rfl rfl ?hs1 ?_; (case hs1 => exact HS1.out _ HG2.out))
        | refine wpList_load_mid rfl 24 (.tmp 72) rfl w.heap.size (i * 6) rfl (T i).cells _ (HRG.out _ HG3.out.bel) Tryd.underlying24 rfl HI6'.out ?_
        | (refine wpList_store_run rfl 24 (.tmp 75) (.tmp 73) rfl wn.heap.size (i * 19 + 13) _ ?ww2 rfl rfl ?hs2 ?_; (case hs2 => exact HS2.out _ HG3.out))
        | (refine wpList_store_run rfl 33 (.tmp 80) (.tmp 78) rfl wn.heap.size (i * 19 + 9) _ ?ww3 rfl rfl ?hs3 ?_; (case hs3 => exact HS3.out _ HG4.out))
        | fail)
      exact ⟨⟨i + 1, hlt, by go_num, HG5.out⟩, by simp [intOf]; omega⟩
    · obtain rfl : i = 4 := by omega
      rw [row4_all] at HGi
      have hfour := lawS_four (f := f) (T := T) hc0.1 hc0.2 hST
      have HF : Hid (∀ W, Below w1.heap.size w1 W → W.cell? ⟨w.heap.size + 1, 0, none⟩ = some (.int .i64 u0) ∧ W.cell? ⟨w.heap.size + 1, 1, none⟩ = some (.int .i64 u1)) := Lib.hid (fun W hb => by
        have hq := (hb.block (w.heap.size + 1) (by have := HS0.out; omega)).trans HQ1.out
        exact ⟨by rw [Joins.cell_of_block hq]; rfl, by rw [Joins.cell_of_block hq]; rfl⟩)
      have HT2 : Hid (∀ W : World, W.heap[wn.heap.size]? = some (.cells (row4 (lawS f T)).toArray 37 (0, 0)) → W.cell? ⟨wn.heap.size, 38, none⟩ = some (.int .u64 ((f : Int) + 2))) := Lib.hid (fun W h => row4_range (lawS f T) h 2 (by omega) 0 _ rfl)
      obtain ⟨D0, D1, D2, D3, D4, D5, D6, D7, D8, er2, er3, old, i3, iY, cl0, cl1, cl2, cl3, clX, clY, e0, SC1, HL, HRR, HSS, HD1, HB3⟩ := scene (w1 := w1) (bd := bd) HTW.out hfour u0 u1 (by omega) (by omega) a b A1 A2 cap1 cap2 (Shows_up HA.out HBW.out) (Shows_up HB.out HBW.out) hca hcb rfl rfl rfl rfl wn.heap.size (row4 (lawS f T)) (fun W h k hk => row4_range (lawS f T) h k hk)
      rw [e0] at HGi
      generalize (row4 (lawS f T)).toArray = RA at *
      obtain ⟨⟨k0, k1, k2, k3, kX, kY⟩, ho, hi3, hiY⟩ := HL.out
      have hinf : ∀ l : List Value, l.length = 19 → (Tryd.prog.info? 36).map (·.size) = some l.length := fun l h => by rw [h]; kernel_rfl
      have HI0 := Lib.hid (hinf cl0 k0)
      have HI1 := Lib.hid (hinf cl1 k1)
      have HI2 := Lib.hid (hinf cl2 k2)
      have HI3 := Lib.hid (hinf cl3 k3)
      have HIX := Lib.hid (hinf clX kX)
      have HIY := Lib.hid (hinf clY kY)
      have HRG0 := Lib.hid (HRR.out.1)
      have HRG1 := Lib.hid (HRR.out.2.1)
      have HRG2 := Lib.hid (HRR.out.2.2.1)
      have HRG3 := Lib.hid (HRR.out.2.2.2)
      have HSTX := Lib.hid (HSS.out.1)
      have HSTY := Lib.hid (HSS.out.2.1)
      have HSTO := Lib.hid (fun w => store_blk w noughts old noughts_len ho)
      have HST3 := Lib.hid (fun w => store_blk w noughts i3 noughts_len hi3)
      have HST4 := Lib.hid (fun w => store_blk w noughts iY noughts_len hiY)
      have ho8 : (cells8 old).length = 256 := by rw [cells8_length, ho]
      have h38 : (cells8 i3).length = 256 := by rw [cells8_length, hi3]
      have hY8 : (cells8 iY).length = 256 := by rw [cells8_length, hiY]
      have hzs := sup_zero
      have hzb := blk_zero
      clear hinf k0 k1 k2 k3 hfour hz HU0 HI6 HI19 HRL HQ0 f0 f1 hST HN HA HB HL HRR HSS e0
      go_wp2_with (first
        | ((with_reducible show wpList _ _ _ ({ dst := _, op := .load _ _, type := _, pos := _, after := _, guard := _ } :: _) _ _); first
            | (refine wpList_load_mid rfl 36 (.tmp 82) rfl wn.heap.size 0 rfl cl0 _ ?hc Tryd.underlying36 rfl ?hi ?_; (case hc => exact HRG0.out _ (HGi.out.at (List.mem_cons_self ..))); (case hi => exact HI0.out))
            | (refine wpList_load_g (by rfl) 36 (.tmp 88) rfl wn.heap.size 19 rfl cl1 _ ?hc Tryd.underlying36 rfl ?hi ?_; (case hc => exact HRG1.out _ (HGa.out.at (List.mem_cons_self ..))); (case hi => exact HI1.out))
            | (refine wpList_load_mid rfl 36 (.tmp 101) rfl wn.heap.size 38 rfl cl2 _ ?hc Tryd.underlying36 rfl ?hi ?_; (case hc => exact HRG2.out _ (HGc.out.at (List.mem_cons_self ..))); (case hi => exact HI2.out))
            | (refine wpList_load_mid rfl 36 (.tmp 15) rfl wf.heap.size 0 rfl clX _ ?hc Tryd.underlying36 rfl ?hi ?_; (case hc => exact range_arr (HGg.out.at (List.mem_cons_self ..))); (case hi => exact HIX.out); rcases HD1.out with ⟨hneq, SC2, HD2⟩ | ⟨hneq, heq2⟩ | ⟨hneq, heq2, HXT⟩; all_goals (clear HD1 hst); all_goals (try have hcx := HXT.out _ _ (HGg.out.at (List.mem_cons_self ..))))
            | (refine wpList_load_mid rfl 36 (.tmp 15) rfl wf.heap.size 0 rfl clX _ ?hc Tryd.underlying36 rfl ?hi ?_; (case hc => exact range_arr (HGg.out.at (List.mem_cons_self ..))); (case hi => exact HIX.out))
            | (refine wpList_load_mid rfl 36 (.tmp 115) rfl wn.heap.size 19 rfl cl1 _ ?hc Tryd.underlying36 rfl ?hi ?_; (case hc => exact HRG1.out _ (HGg.out.at (List.mem_cons_of_mem _ (List.mem_cons_self ..)))); (case hi => exact HI1.out))
            | (refine wpList_load_mid rfl 36 (.tmp 119) rfl wn.heap.size 38 rfl cl2 _ ?hc Tryd.underlying36 rfl ?hi ?_; (case hc => exact HRG2.out _ (HGg.out.at (List.mem_cons_of_mem _ (List.mem_cons_self ..)))); (case hi => exact HI2.out))
            | (refine wpList_load_mid rfl 36 (.tmp 153) rfl wn.heap.size 57 rfl cl3 _ ?hc Tryd.underlying36 rfl ?hi ?_; (case hc => exact HRG3.out _ (HGk.out.at (List.mem_cons_of_mem _ (List.mem_cons_of_mem _ (List.mem_cons_self ..))))); (case hi => exact HI3.out))
            | (refine wpList_load_mid rfl 36 (.tmp 19) rfl wo.heap.size 0 rfl clY _ ?hc Tryd.underlying36 rfl ?hi ?_; (case hc => exact range_arr (HGp.out.at (List.mem_cons_self ..))); (case hi => exact HIY.out); rcases HD2.out with ⟨heqA, htr⟩ | ⟨heqA, heqB⟩ | ⟨heqA, heqB, hneB, HBY, TN⟩; all_goals (clear HD2 hst))
            | (refine wpList_load_mid rfl 36 (.tmp 167) rfl wn.heap.size 19 rfl cl1 _ ?hc Tryd.underlying36 rfl ?hi ?_; (case hc => exact HRG1.out _ (HGp.out.at (List.mem_cons_of_mem _ (List.mem_cons_of_mem _ (List.mem_cons_of_mem _ (List.mem_cons_self ..)))))); (case hi => exact HI1.out))
            | (refine wpList_load_g (by rfl) 36 (.tmp 19) rfl wo.heap.size 0 rfl clY _ ?hc Tryd.underlying36 rfl ?hi ?_; (case hc => exact range_arr (HGp.out.at (List.mem_cons_self ..))); (case hi => exact HIY.out))
            | (refine wpList_load_g (by rfl) 36 (.tmp 172) rfl wn.heap.size 57 rfl cl3 _ ?hc Tryd.underlying36 rfl ?hi ?_; (case hc => exact HRG3.out _ (HGp.out.at (List.mem_cons_of_mem _ (List.mem_cons_of_mem _ (List.mem_cons_of_mem _ (List.mem_cons_self ..)))))); (case hi => exact HI3.out))
            | (refine wpList_load_mid rfl 36 (.tmp 178) rfl wn.heap.size 57 rfl cl3 _ ?hc Tryd.underlying36 rfl ?hi ?_; (case hc => exact HRG3.out _ (HGp.out.at (List.mem_cons_of_mem _ (List.mem_cons_of_mem _ (List.mem_cons_of_mem _ (List.mem_cons_self ..)))))); (case hi => exact HI3.out))
            | (refine wpList_load_mid rfl 36 (.tmp 19) rfl wo.heap.size 0 rfl clY _ ?hc Tryd.underlying36 rfl ?hi ?_; (case hc => exact range_arr (HGq.out.at (List.mem_cons_of_mem _ (List.mem_cons_self ..)))); (case hi => exact HIY.out); clear hst)
            | (refine wpList_load_g (by rfl) 36 (.tmp 19) rfl wo.heap.size 0 rfl clY _ ?hc Tryd.underlying36 rfl ?hi ?_; (case hc => exact range_arr (HGr.out.at (List.mem_cons_of_mem _ (List.mem_cons_of_mem _ (List.mem_cons_self ..))))); (case hi => exact HIY.out))
            | (refine wpList_load_g (by rfl) 36 (.tmp 196) rfl wn.heap.size 38 rfl cl2 _ ?hc Tryd.underlying36 rfl ?hi ?_; (case hc => exact HRG2.out _ (HGr.out.at (List.mem_cons_of_mem _ (List.mem_cons_of_mem _ (List.mem_cons_of_mem _ (List.mem_cons_of_mem _ (List.mem_cons_of_mem _ (List.mem_cons_self ..)))))))); (case hi => exact HI2.out))
            | (refine wpList_load_g (by rfl) 45 (.tmp 17) rfl wh.heap.size 0 rfl (cells8 old) _ ?hc blk_u rfl ?hi ?_; (case hc => exact range_arr (HGr.out.at (List.mem_cons_of_mem _ (List.mem_cons_of_mem _ (List.mem_cons_of_mem _ (List.mem_cons_self ..)))))); (case hi => exact blk_sz old ho))
            | (refine wpList_load_g (by rfl) 45 (.tmp 21) rfl wq.heap.size 0 rfl (cells8 i3) _ ?hc blk_u rfl ?hi ?_; (case hc => exact range_arr (HGr.out.at (List.mem_cons_of_mem _ (List.mem_cons_self ..)))); (case hi => exact blk_sz i3 hi3))
            | (refine wpList_load_g (by rfl) 45 (.tmp 23) rfl wr2.heap.size 0 rfl (cells8 iY) _ ?hc blk_u rfl ?hi ?_; (case hc => exact range_arr (HGr.out.at (List.mem_cons_self ..))); (case hi => exact blk_sz iY hiY))
          )
        | ((with_reducible show wpList _ _ _ ({ dst := _, op := .binOp _ 36 _ _ _, type := _, pos := _, after := _, guard := _ } :: _) _ _); first
            | (refine wpList_bin rfl .eql 36 (.tmp 166) (.tmp 168) 36 rfl clY.toArray cl1.toArray rfl rfl sup_noguard ?vv166 ?hr166 ?_; (case hr166 => first | exact heqA _))
            | (refine wpList_bin_g (by rfl) .eql 36 (.tmp 171) (.tmp 173) 36 rfl clY.toArray cl3.toArray rfl rfl sup_noguard ?vv171 ?hr171 ?_; (case hr171 => first | exact heqB _))
            | (refine wpList_bin_g (by rfl) .neq 36 (.tmp 195) (.tmp 197) 36 rfl clY.toArray cl2.toArray rfl rfl sup_noguard ?vv195 ?hr195 ?_; (case hr195 => first | exact hneB _))
            | (refine wpList_bin rfl .neq 36 (.tmp 114) (.tmp 116) 36 rfl clX.toArray cl1.toArray rfl rfl sup_noguard ?vv114 ?hr114 ?_; (case hr114 => first | exact hneq _))
            | (refine wpList_bin rfl .eql 36 (.tmp 118) (.tmp 120) 36 rfl clX.toArray cl2.toArray rfl rfl sup_noguard ?vv118 ?hr118 ?_; (case hr118 => first | exact heq2 _))
          )
        | (go_at_call 7; first
            | ((with_reducible refine (SC1.out.s0 _ _ HGi.out).mono ?_); rintro e wa ⟨rfl, hg⟩; have HGa := Lib.hid hg.out; clear HGi; clear hg)
            | ((with_reducible refine (SC1.out.s1 _ _ HGa.out).mono ?_); rintro e wb ⟨rfl, hg⟩; have HGb := Lib.hid hg.out; have fz0 := (HF.out _ HGb.out.bel).1; clear HGa; clear hg)
            | ((with_reducible refine (SC1.out.s2 _ _ HGc.out).mono ?_); rintro e wd ⟨rfl, hg⟩; have HGd := Lib.hid hg.out; clear HGc; clear hg)
            | ((with_reducible refine (SC2.out.s3 _ _ HGk.out).mono ?_); rintro e wl ⟨rfl, hg⟩; have HGl := Lib.hid hg.out; clear HGk; clear hg))
        | (go_at_call 8; first
            | ((with_reducible refine (SC1.out.fu _ _ HGb.out).mono ?_); rintro e wc ⟨rfl, hg⟩; have HGc := Lib.hid hg.out; clear HGb fz0; clear hg)
            | ((with_reducible refine (SC2.out.fu _ _ HGj.out).mono ?_); rintro e wk2 ⟨rfl, hg⟩; have HGk := Lib.hid hg.out; clear HGj fz1; clear hg))
        | (go_at_call 9; first
            | ((with_reducible refine (SC1.out.cr _ _ HGd.out).mono ?_); rintro e we ⟨rfl, hg⟩; have HGe := Lib.hid hg.out; clear HGd; clear hg)
            | ((with_reducible refine (SC2.out.cr _ _ HGl.out).mono ?_); rintro e wm ⟨rfl, hg⟩; have HGm := Lib.hid hg.out; clear HGl; clear hg))
        | (go_at_call 10; first
            | ((with_reducible refine (SC1.out.ld _ _ HGe.out).mono ?_); rintro e wf ⟨rfl, hg⟩; have HGf := Lib.hid hg.out; have HGg := Lib.hid (HGf.out.box (.cells clX.toArray 36)); have hc2 := HT2.out _ (HGg.out.at (List.mem_cons_of_mem _ (List.mem_cons_self ..))); have hst := HSTX.out; clear HGe HGf; clear hg)
            | ((with_reducible refine (SC2.out.ld _ _ HGm.out).mono ?_); rintro e wo ⟨rfl, hg⟩; have HGo := Lib.hid hg.out; have HGp := Lib.hid (HGo.out.box (.cells clY.toArray 36)); have hst := HSTY.out; clear HGm HGo; clear hg))
        | (go_at_call 11; (with_reducible refine (rd_at SC2.out _ _ HGg.out _ (by omega)).mono ?_); rintro e wh ⟨rfl, hg⟩; have HGh := Lib.hid hg.out; have HGj := Lib.hid (HGh.out.box (.cells (cells8 old).toArray 45)); have fz1 := (HF.out _ HGj.out.bel).2; have hst := HSTO.out; clear hg HGh HGg hneq)
        | (go_at_call 12; first
            | ((with_reducible refine (HB3.out _ HGp.out.bel).mono ?_); rintro e wq ⟨rfl, hb⟩; have HGq := Lib.hid ((HGp.out.below hb).box (.cells (cells8 i3).toArray 45)); have hst := HST3.out; clear hb HGp heqA heqB)
            | ((with_reducible refine (HBY.out _ HGq.out.bel).mono ?_); rintro e wr2 ⟨rfl, hb⟩; have HGr := Lib.hid ((HGq.out.below hb).box (.cells (cells8 iY).toArray 45)); have hst := HST4.out; clear hb))
        | (go_at_call 13; (with_reducible refine (TN.out _).mono ?_); rintro e wt ⟨rfl, hb⟩; have HGt := Lib.hid (HGr.out.below hb); clear hb)
        | (go_at_call 4; first
            | ((with_reducible refine (HKW.out _ (HBW.out.trans (HGt.out.bel.mono HBW.out.size))).mono ?_); rintro e wk ⟨rfl, hbk⟩)
            | ((with_reducible refine (HKW.out _ (HBW.out.trans (HGp.out.bel.mono HBW.out.size))).mono ?_); rintro e wk ⟨rfl, hbk⟩)
            | ((with_reducible refine (HKW.out _ (HBW.out.trans (HGg.out.bel.mono HBW.out.size))).mono ?_); rintro e wk ⟨rfl, hbk⟩))
        | fail)
      all_goals
        go_ret
        exact ⟨rfl, hbk⟩
end Go.Proofs.YtmfcbndgambfmaaDoor.Q
