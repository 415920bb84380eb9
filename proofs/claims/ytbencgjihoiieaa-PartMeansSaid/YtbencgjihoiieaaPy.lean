/- PartMeans: the law's walk. -/
import Derived.Test.YtbencgjihoiieaaPya
set_option linter.unusedVariables false
namespace Go.Proofs.Ytbencgjihoiieaa
open Go.RowKit

set_option linter.unusedSimpArgs false
set_option maxRecDepth 100000 in
set_option maxHeartbeats 40000000 in
theorem means_law (w : World) (x : Int) (A : Option Addr) (cap : Nat) (d : List UInt8) (hcap : d.length ≤ cap) (hs : Shows w w.heap.size A d.length (cells8 d)) (B : List UInt8) (hB : B.length = 256) :
    Calls Try.prog 5 #[.int .i64 x, .slice A d.length cap, .agg (cells8 B).toArray] w fun e w' => e = .returned (.bool true) ∧ Below w.heap.size w w' := by
  obtain ⟨i0, hi, hz0, hz1, hz2⟩ := info_parts u8_info
  have HKN := Lib.hid (fun W => known_any W)
  obtain ⟨W0, hW0⟩ : ∃ W0, w.alloc (.cells (cells8 B).toArray 36) = W0 := ⟨_, rfl⟩
  have hsz : w.heap.size + 1 = W0.heap.size := by rw [← hW0]; simp
  have HZ := Lib.hid hsz
  have HB0 : Hid (Below w.heap.size w W0) := by rw [← hW0]; exact (Below.refl _ w).alloc (Nat.le_refl _) _
  have HX0 : Hid (Holds8 W0 w.heap.size 36 B) := by rw [← hW0]; exact Holds8.new w _ B _ rfl
  have HS0 : Hid (Shows W0 W0.heap.size A d.length (cells8 d)) := by rw [← hW0]; exact (hs.alloc (Nat.le_refl _) _).wide (by simp)
  have HBL := Lib.hid hB
  have HCAP := Lib.hid hcap
  have HS := Lib.hid hs
  clear hsz hs hB hcap
  by_cases hg : d.length ≤ 2560 ∧ d.length % 64 = 0 ∧ 0 ≤ x ∧ x ≤ 1048576
  · obtain ⟨hg1, hg2, hg3, hg4⟩ := hg
    obtain ⟨a, rfl⟩ := Int.eq_ofNat_of_zero_le hg3
    obtain ⟨c, hc⟩ : ∃ c, d.length = 64 * c := ⟨d.length / 64, by omega⟩
    have hc40 : c ≤ 40 := by omega
    have ha : a ≤ 1048576 := by omega
    obtain ⟨hrl, hrn⟩ := row_all a c (by omega)
    have HSPL := Lib.hid (fun W => psplit_any W (a : Int) (c : Int) (by omega) (by omega))
    rw [hrl, hrn] at HSPL
    have HBLK := Lib.hid (fun W => blocks_any W (a : Int) (c : Int) (by omega) (by omega))
    rw [hrn] at HBLK
    have HDA := Lib.hid (fun W b f t h => data_any W b f t (a : Int) A cap d (by omega) HCAP.out h)
    have HRF := Lib.hid (fun i h => round_facts a c i d ha hc hc40 h)
    have HDC := Lib.hid hc
    have hq64v : (d.length : Int) / 64 = (c : Int) := by omega
    have hr64v : (d.length : Int) % 64 = 0 := by omega
    have hl25 : ¬ (2560 : Int) < (d.length : Int) := by omega
    have hnb := nB_le a c
    have HALL : Hid (cutD d 0 (doneI a c (nB a c)).toNat = d) := by
      rw [done_all]
      exact cutD_all d c hc
    have HQ64 := Lib.hid hq64v
    have HR64 := Lib.hid hr64v
    clear hrl hrn hc hg3 hg1 hg2 hg4
    have hzb := blk_zero
    have hzl := noughts_len
    generalize noughts = z at *
    have HZL := Lib.hid hzl
    clear hzl
    go_enter Try.func5, Try.ntmps5
    go_wp2_with (first
      | (go_at_call 6; (with_reducible refine (HKN.out _).mono ?_); rintro e wk ⟨rfl, hbk⟩; have HBK := Lib.hid hbk; clear hbk)
      | (go_at_call 9; (with_reducible refine (HSPL.out _).mono ?_); rintro e w1 ⟨AL, cL, rfl, hl1⟩; have HL1 := Lib.hid hl1; clear hl1)
      | fail)
    have HBW : Hid (Below w.heap.size w w1) := HB0.out.trans ((HBK.out.mono (by have := HZ.out; omega)).trans (HL1.out.2.mono (by have := HBK.out.size; have := HZ.out; omega)))
    have HBB1 : Hid (Holds8 w1 w.heap.size 36 B) := (HX0.out.below HBK.out).below HL1.out.2
    have HSD1 : Hid (Shows w1 w1.heap.size A d.length (cells8 d)) := (HS0.out.on HBK.out).on HL1.out.2
    have HSL1 : Hid (ShowsP w1 w1.heap.size AL (partsL a c)) := HL1.out.1
    clear HL1 HBK HSPL
    go_loopw [9, 10] (fun v k wr => ∃ i : Nat, i ≤ nB a c ∧ k = .int .i64 (i : Int) ∧ Hid (MI w1 wr v (cutD d 0 (doneI a c i).toNat))) (fun _ k _ => nB a c - (intOf k).toNat)
    case atStart =>
      refine ⟨0, by omega, rfl, ?_⟩
      have e : cutD d 0 (doneI a c 0).toNat = [] := by rw [done_zero]; exact cutD_none _ _ _ (by omega)
      rw [e]
      exact ⟨World.ownsRow_nil _ _ _ _, Below.refl _ _⟩
    case round =>
      obtain ⟨i, hi', rfl, HR⟩ := hrel
      by_cases hlt : i < nB a c
      · have hltI : (i : Int) < (nB a c : Int) := by omega
        obtain ⟨b, f, t, dd, hp, hft, ht4, hb0', hb1', hdl, hdn, hcut, hwh, hpv⟩ := HRF.out i hlt
        obtain ⟨AV, cV, rfl⟩ := HR.out.form
        have hil : i < (partsL a c).length := by rw [partsL_length]; exact hlt
        obtain ⟨p, rfl, _, hsq⟩ := ShowsP.span HSL1.out i hil
        clear hsq
        have HSPW : Hid (∀ w', Below w1.heap.size w1 w' → w'.cell? (p.add (i * 3)) = some (.int .i64 b) ∧ w'.cell? ⟨(p.add (i * 3)).block, (p.add (i * 3)).off + 1, none⟩ = some (.int .i64 (f : Int)) ∧ w'.cell? ⟨(p.add (i * 3)).block, (p.add (i * 3)).off + 2, none⟩ = some (.int .i64 (t : Int))) := fun w' hb => by
          obtain ⟨p', hp', _, h0, h1, h2⟩ := ShowsP.span (HSL1.out.below hb) i hil
          injection hp' with hp'
          subst hp'
          have e : (partsL a c)[i] = ⟨b, (f : Int), (t : Int)⟩ := by
            have h := partsL_get a c i hlt
            rw [List.getElem?_eq_getElem hil, hp] at h
            injection h
          rw [e] at h0 h1 h2
          exact ⟨h0, h1, h2⟩
        have HSPPW : Hid (0 < i → ∀ w', Below w1.heap.size w1 w' → w'.cell? (p.add ((i - 1) * 3)) = some (.int .i64 (b - 1))) := fun hi0 w' hb => by
          have hil2 : i - 1 < (partsL a c).length := by rw [partsL_length]; omega
          obtain ⟨p', hp', _, h0, _, _⟩ := ShowsP.span (HSL1.out.below hb) (i - 1) hil2
          injection hp' with hp'
          subst hp'
          have e : (partsL a c)[i - 1].b = b - 1 := by
            have h := partsL_get a c (i - 1) (by omega)
            rw [List.getElem?_eq_getElem hil2] at h
            injection h with h
            rw [h]
            exact (hpv hi0).2
          rw [e] at h0
          exact h0
        have hM : (mergeL B f dd).length = 256 := mergeL_length B f dd HBL.out (by omega)
        have hCT : (cutD B f t).length = 64 * (t - f) := cutD_length B f t (by have := HBL.out; omega)
        have HDAi : Hid (∀ W, Shows W W.heap.size A d.length (cells8 d) → Calls Try.prog 13 #[.agg #[.int .i64 b, .int .i64 (f : Int), .int .i64 (t : Int)], .int .i64 (a : Int), .slice A d.length cap] W (DataIs W dd)) := fun W h => by
          have h2 := HDA.out W b (f : Int) (t : Int) h
          rwa [hdl] at h2
        have HME0 : Hid (∀ W AD cD, Shows W W.heap.size AD dd.length (cells8 dd) → Calls Try.prog 15 #[.agg (cells8 B).toArray, .int .i64 (f : Int), .slice AD dd.length cD] W fun e w' => e = .returned (.tuple #[.agg (cells8 (mergeL B f dd)).toArray, .int .i64 0]) ∧ Hid (Below W.heap.size W w')) := fun W AD cD h => merge_ok W B HBL.out f (t - f) (by omega) (by omega) (by omega) dd hdn AD cD h
        have HMB : Hid (∀ W AC cC, Shows W W.heap.size AC (cutD B f t).length (cells8 (cutD B f t)) → Calls Try.prog 15 #[.agg (cells8 (mergeL B f dd)).toArray, .int .i64 (f : Int), .slice AC (cutD B f t).length cC] W fun e w' => e = .returned (.tuple #[.agg (cells8 B).toArray, .int .i64 0]) ∧ Hid (Below W.heap.size W w')) := fun W AC cC h => by
          have h2 := merge_ok W (mergeL B f dd) hM f (t - f) (by omega) (by omega) (by omega) (cutD B f t) hCT AC cC h
          rwa [merge_back B f t dd HBL.out (by omega) ht4 hdn] at h2
        have HCU := Lib.hid (fun W => cut_ok W B HBL.out b f t hft ht4)
        have HCM := Lib.hid (fun W => cut_ok W (mergeL B f dd) hM b f t hft ht4)
        have HCD := Lib.hid (merge_cut B f t dd HBL.out (by omega) ht4 hdn)
        have HWH : Hid (0 < i → i + 1 < nB a c → ∀ W, Calls Try.prog 12 #[.agg #[.int .i64 b, .int .i64 (f : Int), .int .i64 (t : Int)]] W fun e w' => e = .returned (.bool true) ∧ Below W.heap.size W w') := fun h0 h1 W => by
          have h := whole_any W ⟨b, (f : Int), (t : Int)⟩
          have hz := hwh h0 h1
          rwa [show decide ((SP.mk b (f : Int) (t : Int)).f = 0 ∧ (SP.mk b (f : Int) (t : Int)).t = 4) = true by simp; omega] at h
        have hlen : (cutD d 0 (doneI a c i).toNat).length + dd.length ≤ 2560 := by
          have h1 : (cutD d 0 (doneI a c i).toNat ++ dd).length ≤ d.length := by rw [hcut]; unfold cutD; rw [List.length_take, List.length_drop]; omega
          rw [List.length_append] at h1
          have := HDC.out
          omega
        have HNQ := Lib.hid (fun W => eqi_blk B HBL.out W)
        have HPV := Lib.hid hpv
        have HW0 := Lib.hid (w_i64 0 (by omega) (by omega))
        have HW1 := Lib.hid (w_i64 ((i : Int) - 1) (by omega) (by omega))
        have HWB := Lib.hid (w_i64 b (by omega) (by omega))
        have HWN := Lib.hid (w_i64 ((nB a c : Int) - 1) (by omega) (by omega))
        have hi2v : ¬ (nB a c : Int) ≤ (i : Int) - 1 := by omega
        have HI2 := Lib.hid hi2v
        clear hi2v
        have HML := Lib.hid hM
        have HCUT := Lib.hid hcut
        have HFT := Lib.hid (And.intro hft ht4)
        have hfI : (0 : Int) ≤ (f : Int) := by omega
        have hf4 : (f : Int) ≤ 4 := by omega
        obtain ⟨hq0, hq1, hq2⟩ := HSPW.out _ HR.out.bel
        clear hp hdl hdn hcut hwh hpv hM hCT hil
        generalize mergeL B f dd = M at *
        generalize hll : cutD d 0 (doneI a c i).toNat = ll at *
        have HLL := Lib.hid hll
        clear hll
        go_upto_region 13 with (first
          | (go_at_call 13; (with_reducible refine (HDAi.out _ (HSD1.out.on HR.out.bel)).mono ?_); rintro e w3 ⟨AD, cD, rfl, hq⟩; have HQ3 := Lib.hid hq.out; clear hq)
          | (at_builtin; refine wpList_append_shows _ rfl _ _ 32 rfl w1.heap.size 5 i0 _ 1 Try.underlying32 hi hz0 hz1 hz2 rfl _ _ _ rfl (own_below HR.out.own HQ3.out.2) w3.heap.size AD dd.length cD (cells8 dd) rfl (Shows.owned HQ3.out.1) (cells8_one _) (by unfold maxLen; omega) (by omega) (Nat.le_trans HR.out.bel.size HQ3.out.2.size) ?_; intro v4 w4 hown4 hgr4; have HMA := MA.of HR.out HQ3.out.1 HQ3.out.2 hown4 hgr4 HCUT.out; clear hown4 hgr4)
          | fail)
        clear hq0 hq1 hq2
        have HB4W : Hid (∀ w', Below w4.heap.size w4 w' → Below w1.heap.size w1 w') := fun w' hb => HMA.out.bel.trans (hb.mono HMA.out.bel.size)
        have HSP : Hid (∀ w', Below w4.heap.size w4 w' → w'.cell? (p.add (i * 3)) = some (.int .i64 b) ∧ w'.cell? ⟨(p.add (i * 3)).block, (p.add (i * 3)).off + 1, none⟩ = some (.int .i64 (f : Int)) ∧ w'.cell? ⟨(p.add (i * 3)).block, (p.add (i * 3)).off + 2, none⟩ = some (.int .i64 (t : Int))) := fun w' hb => HSPW.out w' (HB4W.out w' hb)
        have HBB : Hid (∀ w', Below w4.heap.size w4 w' → w'.heap[w.heap.size]? = some (.cells (cells8 B).toArray 36 (0, 0))) := fun w' hb => HBB1.out.below (HB4W.out w' hb)
        have HME : Hid (∀ W, Below w4.heap.size w4 W → Calls Try.prog 15 #[.agg (cells8 B).toArray, .int .i64 (f : Int), .slice AD dd.length cD] W fun e w' => e = .returned (.tuple #[.agg (cells8 M).toArray, .int .i64 0]) ∧ Hid (Below W.heap.size W w')) := fun W hb => HME0.out W AD cD (HMA.out.sd.on hb)
        go_cut [12, 13] (fun p12 v13 w5 => ∃ g12, p12 = .pointer (some ⟨g12, 0, none⟩) ∧ v13 = .int .i64 0 ∧ Hid (Holds8 w5 g12 36 M ∧ Below w4.heap.size w4 w5))
        case first =>
          refine wp_region_noPanic ?_
          refine wp_region_held_drew (S := fun w' => Below w4.heap.size w4 w') (by kernel_rfl) ((Below.refl _ w4).drew) (fun hHeld => ?_)
          refine takeN (i := 0) (oi := _) (v := .agg (cells8 B).toArray) 58 rfl rfl (by kernel_rfl) (by kernel_rfl) (by kernel_rfl) (fun _ _ _ h => h) (yieldsIf_load_mid (by rfl) 36 (.tmp 5) rfl w.heap.size 0 rfl (cells8 B) _ (fun w2 hSw => range_of (HBB.out _ hSw)) Try.underlying36 rfl (blk_sz _ HBL.out)) hHeld ?_
          try simp only [Act.put, List.setIfInBounds_toArray, List.set_cons_zero, List.set_cons_succ]
          refine takeN (i := 1) (oi := _) (v := .slice (some p) (nB a c) cL) 59 rfl rfl (by kernel_rfl) (by kernel_rfl) (by kernel_rfl) (fun _ _ _ h => h) (Or.inl ⟨by rfl, fun w2 hSw => by (go_simp)⟩) hHeld ?_
          try simp only [Act.put, List.setIfInBounds_toArray, List.set_cons_zero, List.set_cons_succ]
          refine takeN (i := 2) (oi := _) (v := .int .i64 (i : Int)) 60 rfl rfl (by kernel_rfl) (by kernel_rfl) (by kernel_rfl) (fun _ _ _ h => h) (Or.inl ⟨by rfl, fun w2 hSw => by (go_simp)⟩) hHeld ?_
          try simp only [Act.put, List.setIfInBounds_toArray, List.set_cons_zero, List.set_cons_succ]
          refine takeN (i := 3) (oi := _) (v := .pointer (some (p.add (i * 3)))) 61 rfl rfl (by kernel_rfl) (by kernel_rfl) (by kernel_rfl) (fun _ _ _ h => h) (Or.inl ⟨by rfl, fun w2 hSw => by (go_simp)⟩) hHeld ?_
          try simp only [Act.put, List.setIfInBounds_toArray, List.set_cons_zero, List.set_cons_succ]
          refine takeN (i := 4) (oi := _) (v := .pointer (some ⟨(p.add (i * 3)).block, (p.add (i * 3)).off + 1, none⟩)) 62 rfl rfl (by kernel_rfl) (by kernel_rfl) (by kernel_rfl) (fun _ _ _ h => h) (Or.inl ⟨by rfl, fun w2 hSw => by (go_simp)⟩) hHeld ?_
          try simp only [Act.put, List.setIfInBounds_toArray, List.set_cons_zero, List.set_cons_succ]
          refine takeN (i := 5) (oi := _) (v := .int .i64 (f : Int)) 63 rfl rfl (by kernel_rfl) (by kernel_rfl) (by kernel_rfl) (fun _ _ _ h => h) (Or.inl ⟨by rfl, fun w2 hSw => by (obtain ⟨hc0, hc1, hc2⟩ := HSP.out _ hSw; go_simp)⟩) hHeld ?_
          try simp only [Act.put, List.setIfInBounds_toArray, List.set_cons_zero, List.set_cons_succ]
          refine takeN (i := 6) (oi := _) (v := .slice AD dd.length cD) 64 rfl rfl (by kernel_rfl) (by kernel_rfl) (by kernel_rfl) (fun _ _ _ h => h) (Or.inl ⟨by rfl, fun w2 hSw => by (go_simp)⟩) hHeld ?_
          try simp only [Act.put, List.setIfInBounds_toArray, List.set_cons_zero, List.set_cons_succ]
          refine wpAnyH_ready (rs := [7, 11]) (by kernel_rfl) (by simp) ?_
          refine AllReadyH.cons rfl (fun K hK => ?_) (AllReadyH.cons rfl (fun K hK => ?_) AllReadyH.nil)
          · go_simp
            go_wp2_with (first
              | (go_at_call 15; (with_reducible refine (HME.out _ hHeld).mono ?_); rintro e wq ⟨rfl, hq⟩)
              | fail)
            have HQ := Lib.hid hq.out
            clear hq
            skip
            have hBQ := hHeld.trans (HQ.out.mono hHeld.size)
            have HBQ := Lib.hid hBQ
            clear hBQ HQ
            refine hK.out _ _ HBQ.out (fun hHeld => ?_)
            clear hK K
            try simp only [Act.put, List.setIfInBounds_toArray, List.set_cons_zero, List.set_cons_succ]
            refine takeN (i := 8) (oi := _) (v := .tuple #[.agg (cells8 M).toArray, .int .i64 0]) 57 rfl rfl (by kernel_rfl) (by kernel_rfl) (by kernel_rfl) (fun _ _ _ h => h) (Or.inl ⟨by rfl, fun w2 hSw => by (go_simp)⟩) hHeld ?_
            try simp only [Act.put, List.setIfInBounds_toArray, List.set_cons_zero, List.set_cons_succ]
            refine takeN (i := 9) (oi := _) (v := .agg (cells8 M).toArray) 66 rfl rfl (by kernel_rfl) (by kernel_rfl) (by kernel_rfl) (fun _ _ _ h => h) (Or.inl ⟨by rfl, fun w2 hSw => by (go_simp)⟩) hHeld ?_
            try simp only [Act.put, List.setIfInBounds_toArray, List.set_cons_zero, List.set_cons_succ]
            refine takeN (i := 10) (oi := _) (v := .int .i64 0) 67 rfl rfl (by kernel_rfl) (by kernel_rfl) (by kernel_rfl) (fun _ _ _ h => h) (Or.inl ⟨by rfl, fun w2 hSw => by (go_simp)⟩) hHeld ?_
            try simp only [Act.put, List.setIfInBounds_toArray, List.set_cons_zero, List.set_cons_succ]
            refine wpAnyH_ready (rs := [11]) (by kernel_rfl) (by simp) ?_
            refine AllReadyH.cons rfl (fun K hK => ?_) AllReadyH.nil
            go_simp
            have HBA := Lib.hid (hHeld.alloc hHeld.size (.cells (cells8 z).toArray 36))
            have HBOX : Hid (Holds8 (wq.alloc (.cells (cells8 z).toArray 36)) wq.heap.size 36 z) := Holds8.new wq _ z _ rfl
            have HGE : Hid (w4.heap.size ≤ wq.heap.size) := hHeld.size
            refine hK.out _ _ HBA.out (fun hHeld => ?_)
            clear hK K
            try simp only [Act.put, List.setIfInBounds_toArray, List.set_cons_zero, List.set_cons_succ]
            refine wpAnyH_ready (rs := [12]) (by kernel_rfl) (by simp) ?_
            refine AllReadyH.cons rfl (fun K hK => ?_) AllReadyH.nil
            rw [if_pos (by rfl)]
            refine wp_store_row 36 (.tmp 12) (.tmp 66) rfl (wq.heap.size) (cells8 M).toArray (by rfl) (by rfl) 36 (cells8 z).toArray HBOX.out (by rw [blk_size, cells8_size, HML.out]) (by rw [cells8_size, cells8_size, HML.out, HZL.out]) (cells8_all _) ?_
            have HB5 := Lib.hid (below_setRow hHeld HGE.out (cells8 M).toArray)
            have HBX5 := Lib.hid (HBOX.out.row M)
            refine hK.out _ _ HB5.out (fun hHeld => ?_)
            clear hK K
            try simp only [Act.put, List.setIfInBounds_toArray, List.set_cons_zero, List.set_cons_succ]
            refine takeN (i := 13) (oi := _) (v := .int .i64 0) 13 rfl rfl (by kernel_rfl) (by kernel_rfl) (by kernel_rfl) (fun _ _ _ h => h) (Or.inl ⟨by rfl, fun w2 hSw => by (go_simp)⟩) hHeld ?_
            try simp only [Act.put, List.setIfInBounds_toArray, List.set_cons_zero, List.set_cons_succ]
            refine wpAnyH_done (by kernel_rfl) ?_ _
            refine NoPanic.normal ?_
            go_wp2_with fail
            go_meet
            exact ⟨_, rfl, rfl, HBX5.out, HB5.out⟩
          · go_simp
            have HBA := Lib.hid (hHeld.alloc hHeld.size (.cells (cells8 z).toArray 36))
            have HBOX : Hid (Holds8 (w4.drew.alloc (.cells (cells8 z).toArray 36)) w4.heap.size 36 z) := Holds8.new w4.drew _ z _ rfl
            have HGE : Hid (w4.heap.size ≤ w4.heap.size) := Nat.le_refl _
            refine hK.out _ _ HBA.out (fun hHeld => ?_)
            clear hK K
            try simp only [Act.put, List.setIfInBounds_toArray, List.set_cons_zero, List.set_cons_succ]
            refine wpAnyH_ready (rs := [7]) (by kernel_rfl) (by simp) ?_
            refine AllReadyH.cons rfl (fun K hK => ?_) AllReadyH.nil
            go_simp
            go_wp2_with (first
              | (go_at_call 15; (with_reducible refine (HME.out _ hHeld).mono ?_); rintro e wq ⟨rfl, hq⟩)
              | fail)
            have HQ := Lib.hid hq.out
            clear hq
            have HBOX := Lib.hid (HBOX.out.below HQ.out)
            have hBQ := hHeld.trans (HQ.out.mono hHeld.size)
            have HBQ := Lib.hid hBQ
            clear hBQ HQ
            refine hK.out _ _ HBQ.out (fun hHeld => ?_)
            clear hK K
            try simp only [Act.put, List.setIfInBounds_toArray, List.set_cons_zero, List.set_cons_succ]
            refine takeN (i := 8) (oi := _) (v := .tuple #[.agg (cells8 M).toArray, .int .i64 0]) 57 rfl rfl (by kernel_rfl) (by kernel_rfl) (by kernel_rfl) (fun _ _ _ h => h) (Or.inl ⟨by rfl, fun w2 hSw => by (go_simp)⟩) hHeld ?_
            try simp only [Act.put, List.setIfInBounds_toArray, List.set_cons_zero, List.set_cons_succ]
            refine takeN (i := 9) (oi := _) (v := .agg (cells8 M).toArray) 66 rfl rfl (by kernel_rfl) (by kernel_rfl) (by kernel_rfl) (fun _ _ _ h => h) (Or.inl ⟨by rfl, fun w2 hSw => by (go_simp)⟩) hHeld ?_
            try simp only [Act.put, List.setIfInBounds_toArray, List.set_cons_zero, List.set_cons_succ]
            refine takeN (i := 10) (oi := _) (v := .int .i64 0) 67 rfl rfl (by kernel_rfl) (by kernel_rfl) (by kernel_rfl) (fun _ _ _ h => h) (Or.inl ⟨by rfl, fun w2 hSw => by (go_simp)⟩) hHeld ?_
            try simp only [Act.put, List.setIfInBounds_toArray, List.set_cons_zero, List.set_cons_succ]
            refine wpAnyH_ready (rs := [12]) (by kernel_rfl) (by simp) ?_
            refine AllReadyH.cons rfl (fun K hK => ?_) AllReadyH.nil
            rw [if_pos (by rfl)]
            refine wp_store_row 36 (.tmp 12) (.tmp 66) rfl (w4.heap.size) (cells8 M).toArray (by rfl) (by rfl) 36 (cells8 z).toArray HBOX.out (by rw [blk_size, cells8_size, HML.out]) (by rw [cells8_size, cells8_size, HML.out, HZL.out]) (cells8_all _) ?_
            have HB5 := Lib.hid (below_setRow hHeld HGE.out (cells8 M).toArray)
            have HBX5 := Lib.hid (HBOX.out.row M)
            refine hK.out _ _ HB5.out (fun hHeld => ?_)
            clear hK K
            try simp only [Act.put, List.setIfInBounds_toArray, List.set_cons_zero, List.set_cons_succ]
            refine takeN (i := 13) (oi := _) (v := .int .i64 0) 13 rfl rfl (by kernel_rfl) (by kernel_rfl) (by kernel_rfl) (fun _ _ _ h => h) (Or.inl ⟨by rfl, fun w2 hSw => by (go_simp)⟩) hHeld ?_
            try simp only [Act.put, List.setIfInBounds_toArray, List.set_cons_zero, List.set_cons_succ]
            refine wpAnyH_done (by kernel_rfl) ?_ _
            refine NoPanic.normal ?_
            go_wp2_with fail
            go_meet
            exact ⟨_, rfl, rfl, HBX5.out, HB5.out⟩
        case rest =>
          obtain ⟨g12, rfl, rfl, HC5⟩ := hcut
          obtain ⟨w5, rfl⟩ : ∃ w5, w5 = wc := ⟨_, rfl⟩
          have HB5W : Hid (∀ w', Below w5.heap.size w5 w' → Below w4.heap.size w4 w') := fun w' hb => HC5.out.2.trans (hb.mono HC5.out.2.size)
          have HBM : Hid (∀ w', Below w5.heap.size w5 w' → w'.heap[g12]? = some (.cells (cells8 M).toArray 36 (0, 0))) := fun w' hb => HC5.out.1.below hb
          replace HSP : Hid (∀ w', Below w5.heap.size w5 w' → w'.cell? (p.add (i * 3)) = some (.int .i64 b) ∧ w'.cell? ⟨(p.add (i * 3)).block, (p.add (i * 3)).off + 1, none⟩ = some (.int .i64 (f : Int)) ∧ w'.cell? ⟨(p.add (i * 3)).block, (p.add (i * 3)).off + 2, none⟩ = some (.int .i64 (t : Int))) := fun w' hb => HSPW.out w' (HB4W.out w' (HB5W.out w' hb))
          replace HBB : Hid (∀ w', Below w5.heap.size w5 w' → w'.heap[w.heap.size]? = some (.cells (cells8 B).toArray 36 (0, 0))) := fun w' hb => HBB1.out.below (HB4W.out w' (HB5W.out w' hb))
          go_upto_region 14 with fail
          go_cut [14, 15] (fun p14 v15 w6 => ∃ g14, p14 = .pointer (some ⟨g14, 0, none⟩) ∧ v15 = .int .i64 0 ∧ Hid (Holds8 w6 g14 36 B ∧ Below w5.heap.size w5 w6))
          case first =>
            refine wp_region_noPanic ?_
            refine wp_region_held_drew (S := fun w' => Below w5.heap.size w5 w') (by kernel_rfl) ((Below.refl _ w5).drew) (fun hHeld => ?_)
            refine takeN (i := 0) (oi := _) (v := .agg (cells8 M).toArray) 69 rfl rfl (by kernel_rfl) (by kernel_rfl) (by kernel_rfl) (fun _ _ _ h => h) (yieldsIf_load_mid (by rfl) 36 (.tmp 12) rfl g12 0 rfl (cells8 M) _ (fun w2 hSw => range_of (HBM.out _ hSw)) Try.underlying36 rfl (blk_sz _ HML.out)) hHeld ?_
            try simp only [Act.put, List.setIfInBounds_toArray, List.set_cons_zero, List.set_cons_succ]
            refine takeN (i := 1) (oi := _) (v := .slice (some p) (nB a c) cL) 70 rfl rfl (by kernel_rfl) (by kernel_rfl) (by kernel_rfl) (fun _ _ _ h => h) (Or.inl ⟨by rfl, fun w2 hSw => by (go_simp)⟩) hHeld ?_
            try simp only [Act.put, List.setIfInBounds_toArray, List.set_cons_zero, List.set_cons_succ]
            refine takeN (i := 2) (oi := _) (v := .int .i64 (i : Int)) 71 rfl rfl (by kernel_rfl) (by kernel_rfl) (by kernel_rfl) (fun _ _ _ h => h) (Or.inl ⟨by rfl, fun w2 hSw => by (go_simp)⟩) hHeld ?_
            try simp only [Act.put, List.setIfInBounds_toArray, List.set_cons_zero, List.set_cons_succ]
            refine takeN (i := 3) (oi := _) (v := .pointer (some (p.add (i * 3)))) 72 rfl rfl (by kernel_rfl) (by kernel_rfl) (by kernel_rfl) (fun _ _ _ h => h) (Or.inl ⟨by rfl, fun w2 hSw => by (go_simp)⟩) hHeld ?_
            try simp only [Act.put, List.setIfInBounds_toArray, List.set_cons_zero, List.set_cons_succ]
            refine takeN (i := 4) (oi := _) (v := .pointer (some ⟨(p.add (i * 3)).block, (p.add (i * 3)).off + 1, none⟩)) 73 rfl rfl (by kernel_rfl) (by kernel_rfl) (by kernel_rfl) (fun _ _ _ h => h) (Or.inl ⟨by rfl, fun w2 hSw => by (go_simp)⟩) hHeld ?_
            try simp only [Act.put, List.setIfInBounds_toArray, List.set_cons_zero, List.set_cons_succ]
            refine takeN (i := 5) (oi := _) (v := .int .i64 (f : Int)) 74 rfl rfl (by kernel_rfl) (by kernel_rfl) (by kernel_rfl) (fun _ _ _ h => h) (Or.inl ⟨by rfl, fun w2 hSw => by (obtain ⟨hc0, hc1, hc2⟩ := HSP.out _ hSw; go_simp)⟩) hHeld ?_
            try simp only [Act.put, List.setIfInBounds_toArray, List.set_cons_zero, List.set_cons_succ]
            refine takeN (i := 6) (oi := _) (v := .agg (cells8 B).toArray) 75 rfl rfl (by kernel_rfl) (by kernel_rfl) (by kernel_rfl) (fun _ _ _ h => h) (yieldsIf_load_mid (by rfl) 36 (.tmp 5) rfl w.heap.size 0 rfl (cells8 B) _ (fun w2 hSw => range_of (HBB.out _ hSw)) Try.underlying36 rfl (blk_sz _ HBL.out)) hHeld ?_
            try simp only [Act.put, List.setIfInBounds_toArray, List.set_cons_zero, List.set_cons_succ]
            refine takeN (i := 7) (oi := _) (v := .slice (some p) (nB a c) cL) 76 rfl rfl (by kernel_rfl) (by kernel_rfl) (by kernel_rfl) (fun _ _ _ h => h) (Or.inl ⟨by rfl, fun w2 hSw => by (go_simp)⟩) hHeld ?_
            try simp only [Act.put, List.setIfInBounds_toArray, List.set_cons_zero, List.set_cons_succ]
            refine takeN (i := 8) (oi := _) (v := .int .i64 (i : Int)) 77 rfl rfl (by kernel_rfl) (by kernel_rfl) (by kernel_rfl) (fun _ _ _ h => h) (Or.inl ⟨by rfl, fun w2 hSw => by (go_simp)⟩) hHeld ?_
            try simp only [Act.put, List.setIfInBounds_toArray, List.set_cons_zero, List.set_cons_succ]
            refine takeN (i := 9) (oi := _) (v := .pointer (some (p.add (i * 3)))) 78 rfl rfl (by kernel_rfl) (by kernel_rfl) (by kernel_rfl) (fun _ _ _ h => h) (Or.inl ⟨by rfl, fun w2 hSw => by (go_simp)⟩) hHeld ?_
            try simp only [Act.put, List.setIfInBounds_toArray, List.set_cons_zero, List.set_cons_succ]
            refine takeN (i := 10) (oi := _) (v := .agg #[.int .i64 b, .int .i64 (f : Int), .int .i64 (t : Int)]) 79 rfl rfl (by kernel_rfl) (by kernel_rfl) (by kernel_rfl) (fun _ _ _ h => h) (Or.inl ⟨by rfl, fun w2 hSw => by (obtain ⟨hc0, hc1, hc2⟩ := HSP.out _ hSw; go_simp)⟩) hHeld ?_
            try simp only [Act.put, List.setIfInBounds_toArray, List.set_cons_zero, List.set_cons_succ]
            refine wpAnyH_ready (rs := [11, 16]) (by kernel_rfl) (by simp) ?_
            refine AllReadyH.cons rfl (fun K hK => ?_) (AllReadyH.cons rfl (fun K hK => ?_) AllReadyH.nil)
            · go_simp
              go_wp2_with (first
                | (go_at_call 16; (with_reducible refine (HCU.out _).mono ?_); rintro e wq ⟨v, rfl, hv⟩)
                | fail)
              obtain ⟨AC, cC, rfl⟩ := own_form hv.out.1
              have HSC := Lib.hid (Shows.owned hv.out.1)
              have HQ := Lib.hid hv.out.2
              clear hv
              skip
              have hBQ := hHeld.trans (HQ.out.mono hHeld.size)
              have HBQ := Lib.hid hBQ
              clear hBQ HQ
              refine hK.out _ _ HBQ.out (fun hHeld => ?_)
              clear hK K
              try simp only [Act.put, List.setIfInBounds_toArray, List.set_cons_zero, List.set_cons_succ]
              refine wpAnyH_ready (rs := [12, 16]) (by kernel_rfl) (by simp) ?_
              refine AllReadyH.cons rfl (fun K hK => ?_) (AllReadyH.cons rfl (fun K hK => ?_) AllReadyH.nil)
              · go_simp
                go_wp2_with (first
                  | (go_at_call 15; (with_reducible refine (HMB.out _ _ _ HSC.out).mono ?_); rintro e wqb ⟨rfl, hq⟩)
                  | fail)
                have HQ := Lib.hid hq.out
                clear hq
                skip
                have hBQ := hHeld.trans (HQ.out.mono hHeld.size)
                have HBQ := Lib.hid hBQ
                clear hBQ HQ
                refine hK.out _ _ HBQ.out (fun hHeld => ?_)
                clear hK K
                try simp only [Act.put, List.setIfInBounds_toArray, List.set_cons_zero, List.set_cons_succ]
                refine takeN (i := 13) (oi := _) (v := .tuple #[.agg (cells8 B).toArray, .int .i64 0]) 68 rfl rfl (by kernel_rfl) (by kernel_rfl) (by kernel_rfl) (fun _ _ _ h => h) (Or.inl ⟨by rfl, fun w2 hSw => by (go_simp)⟩) hHeld ?_
                try simp only [Act.put, List.setIfInBounds_toArray, List.set_cons_zero, List.set_cons_succ]
                refine takeN (i := 14) (oi := _) (v := .agg (cells8 B).toArray) 82 rfl rfl (by kernel_rfl) (by kernel_rfl) (by kernel_rfl) (fun _ _ _ h => h) (Or.inl ⟨by rfl, fun w2 hSw => by (go_simp)⟩) hHeld ?_
                try simp only [Act.put, List.setIfInBounds_toArray, List.set_cons_zero, List.set_cons_succ]
                refine takeN (i := 15) (oi := _) (v := .int .i64 0) 83 rfl rfl (by kernel_rfl) (by kernel_rfl) (by kernel_rfl) (fun _ _ _ h => h) (Or.inl ⟨by rfl, fun w2 hSw => by (go_simp)⟩) hHeld ?_
                try simp only [Act.put, List.setIfInBounds_toArray, List.set_cons_zero, List.set_cons_succ]
                refine wpAnyH_ready (rs := [16]) (by kernel_rfl) (by simp) ?_
                refine AllReadyH.cons rfl (fun K hK => ?_) AllReadyH.nil
                go_simp
                have HBA := Lib.hid (hHeld.alloc hHeld.size (.cells (cells8 z).toArray 36))
                have HBOX : Hid (Holds8 (wqb.alloc (.cells (cells8 z).toArray 36)) wqb.heap.size 36 z) := Holds8.new wqb _ z _ rfl
                have HGE : Hid (w5.heap.size ≤ wqb.heap.size) := hHeld.size
                refine hK.out _ _ HBA.out (fun hHeld => ?_)
                clear hK K
                try simp only [Act.put, List.setIfInBounds_toArray, List.set_cons_zero, List.set_cons_succ]
                refine wpAnyH_ready (rs := [17]) (by kernel_rfl) (by simp) ?_
                refine AllReadyH.cons rfl (fun K hK => ?_) AllReadyH.nil
                rw [if_pos (by rfl)]
                refine wp_store_row 36 (.tmp 14) (.tmp 82) rfl (wqb.heap.size) (cells8 B).toArray (by rfl) (by rfl) 36 (cells8 z).toArray HBOX.out (by rw [blk_size, cells8_size, HBL.out]) (by rw [cells8_size, cells8_size, HBL.out, HZL.out]) (cells8_all _) ?_
                have HB5 := Lib.hid (below_setRow hHeld HGE.out (cells8 B).toArray)
                have HBX5 := Lib.hid (HBOX.out.row B)
                refine hK.out _ _ HB5.out (fun hHeld => ?_)
                clear hK K
                try simp only [Act.put, List.setIfInBounds_toArray, List.set_cons_zero, List.set_cons_succ]
                refine takeN (i := 18) (oi := _) (v := .int .i64 0) 15 rfl rfl (by kernel_rfl) (by kernel_rfl) (by kernel_rfl) (fun _ _ _ h => h) (Or.inl ⟨by rfl, fun w2 hSw => by (go_simp)⟩) hHeld ?_
                try simp only [Act.put, List.setIfInBounds_toArray, List.set_cons_zero, List.set_cons_succ]
                refine wpAnyH_done (by kernel_rfl) ?_ _
                refine NoPanic.normal ?_
                go_wp2_with fail
                go_meet
                exact ⟨_, rfl, rfl, HBX5.out, HB5.out⟩
              · go_simp
                have HBA := Lib.hid (hHeld.alloc hHeld.size (.cells (cells8 z).toArray 36))
                have HBOX : Hid (Holds8 (wq.alloc (.cells (cells8 z).toArray 36)) wq.heap.size 36 z) := Holds8.new wq _ z _ rfl
                have HGE : Hid (w5.heap.size ≤ wq.heap.size) := hHeld.size
                have HSC := Lib.hid (HSC.out.on ((Below.refl _ wq).alloc (Nat.le_refl _) (.cells (cells8 z).toArray 36)))
                refine hK.out _ _ HBA.out (fun hHeld => ?_)
                clear hK K
                try simp only [Act.put, List.setIfInBounds_toArray, List.set_cons_zero, List.set_cons_succ]
                refine wpAnyH_ready (rs := [12]) (by kernel_rfl) (by simp) ?_
                refine AllReadyH.cons rfl (fun K hK => ?_) AllReadyH.nil
                go_simp
                go_wp2_with (first
                  | (go_at_call 15; (with_reducible refine (HMB.out _ _ _ HSC.out).mono ?_); rintro e wqb ⟨rfl, hq⟩)
                  | fail)
                have HQ := Lib.hid hq.out
                clear hq
                have HBOX := Lib.hid (HBOX.out.below HQ.out)
                have hBQ := hHeld.trans (HQ.out.mono hHeld.size)
                have HBQ := Lib.hid hBQ
                clear hBQ HQ
                refine hK.out _ _ HBQ.out (fun hHeld => ?_)
                clear hK K
                try simp only [Act.put, List.setIfInBounds_toArray, List.set_cons_zero, List.set_cons_succ]
                refine takeN (i := 13) (oi := _) (v := .tuple #[.agg (cells8 B).toArray, .int .i64 0]) 68 rfl rfl (by kernel_rfl) (by kernel_rfl) (by kernel_rfl) (fun _ _ _ h => h) (Or.inl ⟨by rfl, fun w2 hSw => by (go_simp)⟩) hHeld ?_
                try simp only [Act.put, List.setIfInBounds_toArray, List.set_cons_zero, List.set_cons_succ]
                refine takeN (i := 14) (oi := _) (v := .agg (cells8 B).toArray) 82 rfl rfl (by kernel_rfl) (by kernel_rfl) (by kernel_rfl) (fun _ _ _ h => h) (Or.inl ⟨by rfl, fun w2 hSw => by (go_simp)⟩) hHeld ?_
                try simp only [Act.put, List.setIfInBounds_toArray, List.set_cons_zero, List.set_cons_succ]
                refine takeN (i := 15) (oi := _) (v := .int .i64 0) 83 rfl rfl (by kernel_rfl) (by kernel_rfl) (by kernel_rfl) (fun _ _ _ h => h) (Or.inl ⟨by rfl, fun w2 hSw => by (go_simp)⟩) hHeld ?_
                try simp only [Act.put, List.setIfInBounds_toArray, List.set_cons_zero, List.set_cons_succ]
                refine wpAnyH_ready (rs := [17]) (by kernel_rfl) (by simp) ?_
                refine AllReadyH.cons rfl (fun K hK => ?_) AllReadyH.nil
                rw [if_pos (by rfl)]
                refine wp_store_row 36 (.tmp 14) (.tmp 82) rfl (wq.heap.size) (cells8 B).toArray (by rfl) (by rfl) 36 (cells8 z).toArray HBOX.out (by rw [blk_size, cells8_size, HBL.out]) (by rw [cells8_size, cells8_size, HBL.out, HZL.out]) (cells8_all _) ?_
                have HB5 := Lib.hid (below_setRow hHeld HGE.out (cells8 B).toArray)
                have HBX5 := Lib.hid (HBOX.out.row B)
                refine hK.out _ _ HB5.out (fun hHeld => ?_)
                clear hK K
                try simp only [Act.put, List.setIfInBounds_toArray, List.set_cons_zero, List.set_cons_succ]
                refine takeN (i := 18) (oi := _) (v := .int .i64 0) 15 rfl rfl (by kernel_rfl) (by kernel_rfl) (by kernel_rfl) (fun _ _ _ h => h) (Or.inl ⟨by rfl, fun w2 hSw => by (go_simp)⟩) hHeld ?_
                try simp only [Act.put, List.setIfInBounds_toArray, List.set_cons_zero, List.set_cons_succ]
                refine wpAnyH_done (by kernel_rfl) ?_ _
                refine NoPanic.normal ?_
                go_wp2_with fail
                go_meet
                exact ⟨_, rfl, rfl, HBX5.out, HB5.out⟩
            · go_simp
              have HBA := Lib.hid (hHeld.alloc hHeld.size (.cells (cells8 z).toArray 36))
              have HBOX : Hid (Holds8 (w5.drew.alloc (.cells (cells8 z).toArray 36)) w5.heap.size 36 z) := Holds8.new w5.drew _ z _ rfl
              have HGE : Hid (w5.heap.size ≤ w5.heap.size) := Nat.le_refl _
              refine hK.out _ _ HBA.out (fun hHeld => ?_)
              clear hK K
              try simp only [Act.put, List.setIfInBounds_toArray, List.set_cons_zero, List.set_cons_succ]
              refine wpAnyH_ready (rs := [11]) (by kernel_rfl) (by simp) ?_
              refine AllReadyH.cons rfl (fun K hK => ?_) AllReadyH.nil
              go_simp
              go_wp2_with (first
                | (go_at_call 16; (with_reducible refine (HCU.out _).mono ?_); rintro e wq ⟨v, rfl, hv⟩)
                | fail)
              obtain ⟨AC, cC, rfl⟩ := own_form hv.out.1
              have HSC := Lib.hid (Shows.owned hv.out.1)
              have HQ := Lib.hid hv.out.2
              clear hv
              have HBOX := Lib.hid (HBOX.out.below HQ.out)
              have hBQ := hHeld.trans (HQ.out.mono hHeld.size)
              have HBQ := Lib.hid hBQ
              clear hBQ HQ
              refine hK.out _ _ HBQ.out (fun hHeld => ?_)
              clear hK K
              try simp only [Act.put, List.setIfInBounds_toArray, List.set_cons_zero, List.set_cons_succ]
              refine wpAnyH_ready (rs := [12]) (by kernel_rfl) (by simp) ?_
              refine AllReadyH.cons rfl (fun K hK => ?_) AllReadyH.nil
              go_simp
              go_wp2_with (first
                | (go_at_call 15; (with_reducible refine (HMB.out _ _ _ HSC.out).mono ?_); rintro e wqb ⟨rfl, hq⟩)
                | fail)
              have HQ := Lib.hid hq.out
              clear hq
              have HBOX := Lib.hid (HBOX.out.below HQ.out)
              have hBQ := hHeld.trans (HQ.out.mono hHeld.size)
              have HBQ := Lib.hid hBQ
              clear hBQ HQ
              refine hK.out _ _ HBQ.out (fun hHeld => ?_)
              clear hK K
              try simp only [Act.put, List.setIfInBounds_toArray, List.set_cons_zero, List.set_cons_succ]
              refine takeN (i := 13) (oi := _) (v := .tuple #[.agg (cells8 B).toArray, .int .i64 0]) 68 rfl rfl (by kernel_rfl) (by kernel_rfl) (by kernel_rfl) (fun _ _ _ h => h) (Or.inl ⟨by rfl, fun w2 hSw => by (go_simp)⟩) hHeld ?_
              try simp only [Act.put, List.setIfInBounds_toArray, List.set_cons_zero, List.set_cons_succ]
              refine takeN (i := 14) (oi := _) (v := .agg (cells8 B).toArray) 82 rfl rfl (by kernel_rfl) (by kernel_rfl) (by kernel_rfl) (fun _ _ _ h => h) (Or.inl ⟨by rfl, fun w2 hSw => by (go_simp)⟩) hHeld ?_
              try simp only [Act.put, List.setIfInBounds_toArray, List.set_cons_zero, List.set_cons_succ]
              refine takeN (i := 15) (oi := _) (v := .int .i64 0) 83 rfl rfl (by kernel_rfl) (by kernel_rfl) (by kernel_rfl) (fun _ _ _ h => h) (Or.inl ⟨by rfl, fun w2 hSw => by (go_simp)⟩) hHeld ?_
              try simp only [Act.put, List.setIfInBounds_toArray, List.set_cons_zero, List.set_cons_succ]
              refine wpAnyH_ready (rs := [17]) (by kernel_rfl) (by simp) ?_
              refine AllReadyH.cons rfl (fun K hK => ?_) AllReadyH.nil
              rw [if_pos (by rfl)]
              refine wp_store_row 36 (.tmp 14) (.tmp 82) rfl (w5.heap.size) (cells8 B).toArray (by rfl) (by rfl) 36 (cells8 z).toArray HBOX.out (by rw [blk_size, cells8_size, HBL.out]) (by rw [cells8_size, cells8_size, HBL.out, HZL.out]) (cells8_all _) ?_
              have HB5 := Lib.hid (below_setRow hHeld HGE.out (cells8 B).toArray)
              have HBX5 := Lib.hid (HBOX.out.row B)
              refine hK.out _ _ HB5.out (fun hHeld => ?_)
              clear hK K
              try simp only [Act.put, List.setIfInBounds_toArray, List.set_cons_zero, List.set_cons_succ]
              refine takeN (i := 18) (oi := _) (v := .int .i64 0) 15 rfl rfl (by kernel_rfl) (by kernel_rfl) (by kernel_rfl) (fun _ _ _ h => h) (Or.inl ⟨by rfl, fun w2 hSw => by (go_simp)⟩) hHeld ?_
              try simp only [Act.put, List.setIfInBounds_toArray, List.set_cons_zero, List.set_cons_succ]
              refine wpAnyH_done (by kernel_rfl) ?_ _
              refine NoPanic.normal ?_
              go_wp2_with fail
              go_meet
              exact ⟨_, rfl, rfl, HBX5.out, HB5.out⟩
          case rest =>
            obtain ⟨g14, rfl, rfl, HC6⟩ := hcut
            obtain ⟨w6, rfl⟩ : ∃ w6, w6 = wc := ⟨_, rfl⟩
            have HB6W : Hid (∀ w', Below w6.heap.size w6 w' → Below w5.heap.size w5 w') := fun w' hb => HC6.out.2.trans (hb.mono HC6.out.2.size)
            replace HBM : Hid (∀ w', Below w6.heap.size w6 w' → w'.heap[g12]? = some (.cells (cells8 M).toArray 36 (0, 0))) := fun w' hb => HC5.out.1.below (HB6W.out w' hb)
            have HBY : Hid (∀ w', Below w6.heap.size w6 w' → w'.heap[g14]? = some (.cells (cells8 B).toArray 36 (0, 0))) := fun w' hb => HC6.out.1.below hb
            have HSD : Hid (∀ w', Below w6.heap.size w6 w' → Shows w' w'.heap.size AD dd.length (cells8 dd)) := fun w' hb => HMA.out.sd.on (HB5W.out w' (HB6W.out w' hb))
            replace HSP : Hid (∀ w', Below w6.heap.size w6 w' → w'.cell? (p.add (i * 3)) = some (.int .i64 b) ∧ w'.cell? ⟨(p.add (i * 3)).block, (p.add (i * 3)).off + 1, none⟩ = some (.int .i64 (f : Int)) ∧ w'.cell? ⟨(p.add (i * 3)).block, (p.add (i * 3)).off + 2, none⟩ = some (.int .i64 (t : Int))) := fun w' hb => HSPW.out w' (HB4W.out w' (HB5W.out w' (HB6W.out w' hb)))
            replace HBB : Hid (∀ w', Below w6.heap.size w6 w' → w'.heap[w.heap.size]? = some (.cells (cells8 B).toArray 36 (0, 0))) := fun w' hb => HBB1.out.below (HB4W.out w' (HB5W.out w' (HB6W.out w' hb)))
            have HSPP : Hid (0 < i → ∀ w', Below w6.heap.size w6 w' → w'.cell? (p.add ((i - 1) * 3)) = some (.int .i64 (b - 1))) := fun h0 w' hb => HSPPW.out h0 w' (HB4W.out w' (HB5W.out w' (HB6W.out w' hb)))
            go_upto_region 15 with fail
            go_cut [144] (fun s w7 => s = .bool false ∧ Hid (Below w6.heap.size w6 w7))
            case first =>
              refine wp_region_noPanic ?_
              refine wp_region_held_drew (S := fun w' => Below w6.heap.size w6 w') (by kernel_rfl) ((Below.refl _ w6).drew) (fun hHeld => ?_)
              by_cases hz : 0 < i
              · have hzI : (0 : Int) < (i : Int) := by omega
                replace HSPP := Lib.hid (HSPP.out hz)
                have hb1 : 1 ≤ b := (HPV.out hz).1
                by_cases hmI : (i : Int) < (nB a c : Int) - 1
                · replace HWH := Lib.hid (HWH.out hz (by omega))
                  refine takeN (i := 0) (oi := _) (v := .int .i64 0) 84 rfl rfl (by kernel_rfl) (by kernel_rfl) (by kernel_rfl) (fun _ _ _ h => h) (Or.inl ⟨by rfl, fun w2 hSw => by (go_simp)⟩) hHeld ?_
                  try simp only [Act.put, List.setIfInBounds_toArray, List.set_cons_zero, List.set_cons_succ]
                  refine takeN (i := 2) (oi := _) (v := .int .i64 0) 86 rfl rfl (by kernel_rfl) (by kernel_rfl) (by kernel_rfl) (fun _ _ _ h => h) (Or.inl ⟨by rfl, fun w2 hSw => by (go_simp)⟩) hHeld ?_
                  try simp only [Act.put, List.setIfInBounds_toArray, List.set_cons_zero, List.set_cons_succ]
                  refine wpAnyH_ready (rs := [1]) (by kernel_rfl) (by simp) ?_
                  refine AllReadyH.cons rfl (fun K hK => ?_) AllReadyH.nil
                  go_simp
                  go_wp2_with (first
                    | (go_at_call 17; (with_reducible refine (num_any _ _).mono ?_); rintro e wq ⟨rfl, rfl⟩)
                    | fail)
                  refine hK.out _ _ hHeld (fun hHeld => ?_)
                  clear hK K
                  try simp only [Act.put, List.setIfInBounds_toArray, List.set_cons_zero, List.set_cons_succ]
                  refine wpAnyH_ready (rs := [3]) (by kernel_rfl) (by simp) ?_
                  refine AllReadyH.cons rfl (fun K hK => ?_) AllReadyH.nil
                  go_simp
                  go_wp2_with (first
                    | (go_at_call 17; (with_reducible refine (num_any _ _).mono ?_); rintro e wq ⟨rfl, rfl⟩)
                    | fail)
                  refine hK.out _ _ hHeld (fun hHeld => ?_)
                  clear hK K
                  try simp only [Act.put, List.setIfInBounds_toArray, List.set_cons_zero, List.set_cons_succ]
                  refine takeN (i := 4) (oi := _) (v := .int .i64 0) 88 rfl rfl (by kernel_rfl) (by kernel_rfl) (by kernel_rfl) (fun _ _ _ h => h) (Or.inl ⟨by rfl, fun w2 hSw => by (have hw0 := HW0.out; go_simp)⟩) hHeld ?_
                  try simp only [Act.put, List.setIfInBounds_toArray, List.set_cons_zero, List.set_cons_succ]
                  refine takeN (i := 5) (oi := _) (v := .bool false) 89 rfl rfl (by kernel_rfl) (by kernel_rfl) (by kernel_rfl) (fun _ _ _ h => h) (Or.inl ⟨by rfl, fun w2 hSw => by (go_simp)⟩) hHeld ?_
                  try simp only [Act.put, List.setIfInBounds_toArray, List.set_cons_zero, List.set_cons_succ]
                  refine takeN (i := 6) (oi := _) (v := .bool false) 90 rfl rfl (by kernel_rfl) (by kernel_rfl) (by kernel_rfl) (fun _ _ _ h => h) (Or.inl ⟨by rfl, fun w2 hSw => by (go_simp)⟩) hHeld ?_
                  try simp only [Act.put, List.setIfInBounds_toArray, List.set_cons_zero, List.set_cons_succ]
                  refine takeN (i := 7) (oi := _) (v := .agg (cells8 M).toArray) 91 rfl rfl (by kernel_rfl) (by kernel_rfl) (by kernel_rfl) (fun _ _ _ h => h) (yieldsIf_load_mid (by rfl) 36 (.tmp 12) rfl g12 0 rfl (cells8 M) _ (fun w2 hSw => range_of (HBM.out _ hSw)) Try.underlying36 rfl (blk_sz _ HML.out)) hHeld ?_
                  try simp only [Act.put, List.setIfInBounds_toArray, List.set_cons_zero, List.set_cons_succ]
                  refine takeN (i := 8) (oi := _) (v := .slice (some p) (nB a c) cL) 92 rfl rfl (by kernel_rfl) (by kernel_rfl) (by kernel_rfl) (fun _ _ _ h => h) (Or.inl ⟨by rfl, fun w2 hSw => by (go_simp)⟩) hHeld ?_
                  try simp only [Act.put, List.setIfInBounds_toArray, List.set_cons_zero, List.set_cons_succ]
                  refine takeN (i := 9) (oi := _) (v := .int .i64 (i : Int)) 93 rfl rfl (by kernel_rfl) (by kernel_rfl) (by kernel_rfl) (fun _ _ _ h => h) (Or.inl ⟨by rfl, fun w2 hSw => by (go_simp)⟩) hHeld ?_
                  try simp only [Act.put, List.setIfInBounds_toArray, List.set_cons_zero, List.set_cons_succ]
                  refine takeN (i := 10) (oi := _) (v := .pointer (some (p.add (i * 3)))) 94 rfl rfl (by kernel_rfl) (by kernel_rfl) (by kernel_rfl) (fun _ _ _ h => h) (Or.inl ⟨by rfl, fun w2 hSw => by (go_simp)⟩) hHeld ?_
                  try simp only [Act.put, List.setIfInBounds_toArray, List.set_cons_zero, List.set_cons_succ]
                  refine takeN (i := 11) (oi := _) (v := .agg #[.int .i64 b, .int .i64 (f : Int), .int .i64 (t : Int)]) 95 rfl rfl (by kernel_rfl) (by kernel_rfl) (by kernel_rfl) (fun _ _ _ h => h) (Or.inl ⟨by rfl, fun w2 hSw => by (obtain ⟨hc0, hc1, hc2⟩ := HSP.out _ hSw; go_simp)⟩) hHeld ?_
                  try simp only [Act.put, List.setIfInBounds_toArray, List.set_cons_zero, List.set_cons_succ]
                  refine takeN (i := 14) (oi := _) (v := .slice AD dd.length cD) 98 rfl rfl (by kernel_rfl) (by kernel_rfl) (by kernel_rfl) (fun _ _ _ h => h) (Or.inl ⟨by rfl, fun w2 hSw => by (go_simp)⟩) hHeld ?_
                  try simp only [Act.put, List.setIfInBounds_toArray, List.set_cons_zero, List.set_cons_succ]
                  refine takeN (i := 15) (oi := _) (v := .string ⟨dd.toArray⟩) 99 rfl rfl (by kernel_rfl) (by kernel_rfl) (by kernel_rfl) (fun _ _ _ h => h) (Or.inl ⟨by rfl, fun w2 hSw => by (have hcv : (convert 32 9 (.slice AD dd.length cD)).run Try.prog w2 = .ok (.string ⟨dd.toArray⟩) w2 := str_bytes (HSD.out _ hSw); go_simp)⟩) hHeld ?_
                  try simp only [Act.put, List.setIfInBounds_toArray, List.set_cons_zero, List.set_cons_succ]
                  refine wpAnyH_ready (rs := [12]) (by kernel_rfl) (by simp) ?_
                  refine AllReadyH.cons rfl (fun K hK => ?_) AllReadyH.nil
                  go_simp
                  go_wp2_with (first
                    | (go_at_call 16; (with_reducible refine (HCM.out _).mono ?_); rintro e wq ⟨v, rfl, hv⟩)
                    | fail)
                  obtain ⟨AC, cC, rfl⟩ := own_form hv.out.1
                  have HSC0 := Lib.hid (Shows.owned hv.out.1)
                  have HQ := Lib.hid hv.out.2
                  clear hv
                  have HSC : Hid (Shows wq wq.heap.size AC (cutD M f t).length (cells8 dd)) := (by have h := HSC0.out; rw [show cells8 (cutD M f t) = cells8 dd by rw [HCD.out]] at h; exact h)
                  have hBQ := hHeld.trans (HQ.out.mono hHeld.size)
                  have HBQ := Lib.hid hBQ
                  clear hBQ HQ
                  refine hK.out _ _ HBQ.out (fun hHeld => ?_)
                  clear hK K
                  try simp only [Act.put, List.setIfInBounds_toArray, List.set_cons_zero, List.set_cons_succ]
                  refine wpAnyH_ready (rs := [13]) (by kernel_rfl) (by simp) ?_
                  refine AllReadyH.cons rfl (fun K hK => ?_) AllReadyH.nil
                  have hcv : (convert 32 9 (.slice AC (cutD M f t).length cC)).run Try.prog wq = .ok (.string ⟨dd.toArray⟩) wq := str_bytes HSC.out
                  go_simp
                  clear hcv
                  refine hK.out _ _ hHeld (fun hHeld => ?_)
                  clear hK K
                  try simp only [Act.put, List.setIfInBounds_toArray, List.set_cons_zero, List.set_cons_succ]
                  refine takeN (i := 16) (oi := _) (v := .bool false) 100 rfl rfl (by kernel_rfl) (by kernel_rfl) (by kernel_rfl) (fun _ _ _ h => h) (Or.inl ⟨by rfl, fun w2 hSw => by (go_simp)⟩) hHeld ?_
                  try simp only [Act.put, List.setIfInBounds_toArray, List.set_cons_zero, List.set_cons_succ]
                  refine takeN (i := 17) (oi := _) (v := .bool false) 101 rfl rfl (by kernel_rfl) (by kernel_rfl) (by kernel_rfl) (fun _ _ _ h => h) (Or.inl ⟨by rfl, fun w2 hSw => by (go_simp)⟩) hHeld ?_
                  try simp only [Act.put, List.setIfInBounds_toArray, List.set_cons_zero, List.set_cons_succ]
                  refine takeN (i := 18) (oi := _) (v := .bool false) 102 rfl rfl (by kernel_rfl) (by kernel_rfl) (by kernel_rfl) (fun _ _ _ h => h) (Or.inl ⟨by rfl, fun w2 hSw => by (go_simp)⟩) hHeld ?_
                  try simp only [Act.put, List.setIfInBounds_toArray, List.set_cons_zero, List.set_cons_succ]
                  refine takeN (i := 19) (oi := _) (v := .agg (cells8 B).toArray) 103 rfl rfl (by kernel_rfl) (by kernel_rfl) (by kernel_rfl) (fun _ _ _ h => h) (yieldsIf_load_mid (by rfl) 36 (.tmp 14) rfl g14 0 rfl (cells8 B) _ (fun w2 hSw => range_of (HBY.out _ hSw)) Try.underlying36 rfl (blk_sz _ HBL.out)) hHeld ?_
                  try simp only [Act.put, List.setIfInBounds_toArray, List.set_cons_zero, List.set_cons_succ]
                  refine takeN (i := 20) (oi := _) (v := .agg (cells8 B).toArray) 104 rfl rfl (by kernel_rfl) (by kernel_rfl) (by kernel_rfl) (fun _ _ _ h => h) (yieldsIf_load_mid (by rfl) 36 (.tmp 5) rfl w.heap.size 0 rfl (cells8 B) _ (fun w2 hSw => range_of (HBB.out _ hSw)) Try.underlying36 rfl (blk_sz _ HBL.out)) hHeld ?_
                  try simp only [Act.put, List.setIfInBounds_toArray, List.set_cons_zero, List.set_cons_succ]
                  refine takeN (i := 21) (oi := _) (v := .bool false) 105 rfl rfl (by kernel_rfl) (by kernel_rfl) (by kernel_rfl) (fun _ _ _ h => h) (Or.inl ⟨by rfl, fun w2 hSw => by (have hnq := HNQ.out w2; go_simp)⟩) hHeld ?_
                  try simp only [Act.put, List.setIfInBounds_toArray, List.set_cons_zero, List.set_cons_succ]
                  refine takeN (i := 22) (oi := _) (v := .bool false) 106 rfl rfl (by kernel_rfl) (by kernel_rfl) (by kernel_rfl) (fun _ _ _ h => h) (Or.inl ⟨by rfl, fun w2 hSw => by (go_simp)⟩) hHeld ?_
                  try simp only [Act.put, List.setIfInBounds_toArray, List.set_cons_zero, List.set_cons_succ]
                  refine takeN (i := 23) (oi := _) (v := .bool false) 107 rfl rfl (by kernel_rfl) (by kernel_rfl) (by kernel_rfl) (fun _ _ _ h => h) (Or.inl ⟨by rfl, fun w2 hSw => by (go_simp)⟩) hHeld ?_
                  try simp only [Act.put, List.setIfInBounds_toArray, List.set_cons_zero, List.set_cons_succ]
                  refine takeN (i := 24) (oi := _) (v := .int .i64 (i : Int)) 108 rfl rfl (by kernel_rfl) (by kernel_rfl) (by kernel_rfl) (fun _ _ _ h => h) (Or.inl ⟨by rfl, fun w2 hSw => by (go_simp)⟩) hHeld ?_
                  try simp only [Act.put, List.setIfInBounds_toArray, List.set_cons_zero, List.set_cons_succ]
                  refine takeN (i := 25) (oi := _) (v := .bool true) 109 rfl rfl (by kernel_rfl) (by kernel_rfl) (by kernel_rfl) (fun _ _ _ h => h) (Or.inl ⟨by rfl, fun w2 hSw => by (go_simp)⟩) hHeld ?_
                  try simp only [Act.put, List.setIfInBounds_toArray, List.set_cons_zero, List.set_cons_succ]
                  refine takeN (i := 26) (oi := _) (v := .bool true) 110 rfl rfl (by kernel_rfl) (by kernel_rfl) (by kernel_rfl) (fun _ _ _ h => h) (Or.inl ⟨by rfl, fun w2 hSw => by (go_simp)⟩) hHeld ?_
                  try simp only [Act.put, List.setIfInBounds_toArray, List.set_cons_zero, List.set_cons_succ]
                  refine takeN (i := 27) (oi := _) (v := .slice (some p) (nB a c) cL) 111 rfl rfl (by kernel_rfl) (by kernel_rfl) (by kernel_rfl) (fun _ _ _ h => h) (Or.inl ⟨by rfl, fun w2 hSw => by (go_simp)⟩) hHeld ?_
                  try simp only [Act.put, List.setIfInBounds_toArray, List.set_cons_zero, List.set_cons_succ]
                  refine takeN (i := 28) (oi := _) (v := .int .i64 (i : Int)) 112 rfl rfl (by kernel_rfl) (by kernel_rfl) (by kernel_rfl) (fun _ _ _ h => h) (Or.inl ⟨by rfl, fun w2 hSw => by (go_simp)⟩) hHeld ?_
                  try simp only [Act.put, List.setIfInBounds_toArray, List.set_cons_zero, List.set_cons_succ]
                  refine takeN (i := 29) (oi := _) (v := .pointer (some (p.add (i * 3)))) 113 rfl rfl (by kernel_rfl) (by kernel_rfl) (by kernel_rfl) (fun _ _ _ h => h) (Or.inl ⟨by rfl, fun w2 hSw => by (go_simp)⟩) hHeld ?_
                  try simp only [Act.put, List.setIfInBounds_toArray, List.set_cons_zero, List.set_cons_succ]
                  refine takeN (i := 30) (oi := _) (v := .pointer (some (p.add (i * 3)))) 114 rfl rfl (by kernel_rfl) (by kernel_rfl) (by kernel_rfl) (fun _ _ _ h => h) (Or.inl ⟨by rfl, fun w2 hSw => by (go_simp)⟩) hHeld ?_
                  try simp only [Act.put, List.setIfInBounds_toArray, List.set_cons_zero, List.set_cons_succ]
                  refine takeN (i := 31) (oi := _) (v := .int .i64 b) 115 rfl rfl (by kernel_rfl) (by kernel_rfl) (by kernel_rfl) (fun _ _ _ h => h) (Or.inl ⟨by rfl, fun w2 hSw => by (obtain ⟨hc0, hc1, hc2⟩ := HSP.out _ hSw; go_simp)⟩) hHeld ?_
                  try simp only [Act.put, List.setIfInBounds_toArray, List.set_cons_zero, List.set_cons_succ]
                  refine takeN (i := 32) (oi := _) (v := .slice (some p) (nB a c) cL) 116 rfl rfl (by kernel_rfl) (by kernel_rfl) (by kernel_rfl) (fun _ _ _ h => h) (Or.inl ⟨by rfl, fun w2 hSw => by (go_simp)⟩) hHeld ?_
                  try simp only [Act.put, List.setIfInBounds_toArray, List.set_cons_zero, List.set_cons_succ]
                  refine takeN (i := 33) (oi := _) (v := .int .i64 (i : Int)) 117 rfl rfl (by kernel_rfl) (by kernel_rfl) (by kernel_rfl) (fun _ _ _ h => h) (Or.inl ⟨by rfl, fun w2 hSw => by (go_simp)⟩) hHeld ?_
                  try simp only [Act.put, List.setIfInBounds_toArray, List.set_cons_zero, List.set_cons_succ]
                  refine takeN (i := 34) (oi := _) (v := .int .i64 ((i : Int) - 1)) 118 rfl rfl (by kernel_rfl) (by kernel_rfl) (by kernel_rfl) (fun _ _ _ h => h) (Or.inl ⟨by rfl, fun w2 hSw => by (have hw1 := HW1.out; go_simp)⟩) hHeld ?_
                  try simp only [Act.put, List.setIfInBounds_toArray, List.set_cons_zero, List.set_cons_succ]
                  refine takeN (i := 35) (oi := _) (v := .pointer (some (p.add ((i - 1) * 3)))) 119 rfl rfl (by kernel_rfl) (by kernel_rfl) (by kernel_rfl) (fun _ _ _ h => h) (Or.inl ⟨by rfl, fun w2 hSw => by (have hi1 : (1 : Int) ≤ (i : Int) := hzI; have hi2 := HI2.out; go_simp)⟩) hHeld ?_
                  try simp only [Act.put, List.setIfInBounds_toArray, List.set_cons_zero, List.set_cons_succ]
                  refine takeN (i := 36) (oi := _) (v := .pointer (some (p.add ((i - 1) * 3)))) 120 rfl rfl (by kernel_rfl) (by kernel_rfl) (by kernel_rfl) (fun _ _ _ h => h) (Or.inl ⟨by rfl, fun w2 hSw => by (go_simp)⟩) hHeld ?_
                  try simp only [Act.put, List.setIfInBounds_toArray, List.set_cons_zero, List.set_cons_succ]
                  refine takeN (i := 37) (oi := _) (v := .int .i64 (b - 1)) 121 rfl rfl (by kernel_rfl) (by kernel_rfl) (by kernel_rfl) (fun _ _ _ h => h) (Or.inl ⟨by rfl, fun w2 hSw => by (have hc0 := HSPP.out _ hSw; go_simp)⟩) hHeld ?_
                  try simp only [Act.put, List.setIfInBounds_toArray, List.set_cons_zero, List.set_cons_succ]
                  refine takeN (i := 38) (oi := _) (v := .int .i64 b) 122 rfl rfl (by kernel_rfl) (by kernel_rfl) (by kernel_rfl) (fun _ _ _ h => h) (Or.inl ⟨by rfl, fun w2 hSw => by (have hwb := HWB.out; go_simp)⟩) hHeld ?_
                  try simp only [Act.put, List.setIfInBounds_toArray, List.set_cons_zero, List.set_cons_succ]
                  refine takeN (i := 39) (oi := _) (v := .bool false) 123 rfl rfl (by kernel_rfl) (by kernel_rfl) (by kernel_rfl) (fun _ _ _ h => h) (Or.inl ⟨by rfl, fun w2 hSw => by (go_simp)⟩) hHeld ?_
                  try simp only [Act.put, List.setIfInBounds_toArray, List.set_cons_zero, List.set_cons_succ]
                  refine takeN (i := 40) (oi := _) (v := .bool false) 124 rfl rfl (by kernel_rfl) (by kernel_rfl) (by kernel_rfl) (fun _ _ _ h => h) (Or.inl ⟨by rfl, fun w2 hSw => by (go_simp)⟩) hHeld ?_
                  try simp only [Act.put, List.setIfInBounds_toArray, List.set_cons_zero, List.set_cons_succ]
                  refine takeN (i := 41) (oi := _) (v := .bool false) 125 rfl rfl (by kernel_rfl) (by kernel_rfl) (by kernel_rfl) (fun _ _ _ h => h) (Or.inl ⟨by rfl, fun w2 hSw => by (go_simp)⟩) hHeld ?_
                  try simp only [Act.put, List.setIfInBounds_toArray, List.set_cons_zero, List.set_cons_succ]
                  refine takeN (i := 42) (oi := _) (v := .bool false) 126 rfl rfl (by kernel_rfl) (by kernel_rfl) (by kernel_rfl) (fun _ _ _ h => h) (Or.inl ⟨by rfl, fun w2 hSw => by (go_simp)⟩) hHeld ?_
                  try simp only [Act.put, List.setIfInBounds_toArray, List.set_cons_zero, List.set_cons_succ]
                  refine takeN (i := 43) (oi := _) (v := .int .i64 (i : Int)) 127 rfl rfl (by kernel_rfl) (by kernel_rfl) (by kernel_rfl) (fun _ _ _ h => h) (Or.inl ⟨by rfl, fun w2 hSw => by (go_simp)⟩) hHeld ?_
                  try simp only [Act.put, List.setIfInBounds_toArray, List.set_cons_zero, List.set_cons_succ]
                  refine takeN (i := 44) (oi := _) (v := .bool true) 128 rfl rfl (by kernel_rfl) (by kernel_rfl) (by kernel_rfl) (fun _ _ _ h => h) (Or.inl ⟨by rfl, fun w2 hSw => by (go_simp)⟩) hHeld ?_
                  try simp only [Act.put, List.setIfInBounds_toArray, List.set_cons_zero, List.set_cons_succ]
                  refine takeN (i := 45) (oi := _) (v := .bool true) 129 rfl rfl (by kernel_rfl) (by kernel_rfl) (by kernel_rfl) (fun _ _ _ h => h) (Or.inl ⟨by rfl, fun w2 hSw => by (go_simp)⟩) hHeld ?_
                  try simp only [Act.put, List.setIfInBounds_toArray, List.set_cons_zero, List.set_cons_succ]
                  refine takeN (i := 46) (oi := _) (v := .int .i64 (i : Int)) 130 rfl rfl (by kernel_rfl) (by kernel_rfl) (by kernel_rfl) (fun _ _ _ h => h) (Or.inl ⟨by rfl, fun w2 hSw => by (go_simp)⟩) hHeld ?_
                  try simp only [Act.put, List.setIfInBounds_toArray, List.set_cons_zero, List.set_cons_succ]
                  refine takeN (i := 47) (oi := _) (v := .slice (some p) (nB a c) cL) 131 rfl rfl (by kernel_rfl) (by kernel_rfl) (by kernel_rfl) (fun _ _ _ h => h) (Or.inl ⟨by rfl, fun w2 hSw => by (go_simp)⟩) hHeld ?_
                  try simp only [Act.put, List.setIfInBounds_toArray, List.set_cons_zero, List.set_cons_succ]
                  refine takeN (i := 48) (oi := _) (v := .int .i64 (nB a c : Int)) 132 rfl rfl (by kernel_rfl) (by kernel_rfl) (by kernel_rfl) (fun _ _ _ h => h) (Or.inl ⟨by rfl, fun w2 hSw => by (go_simp)⟩) hHeld ?_
                  try simp only [Act.put, List.setIfInBounds_toArray, List.set_cons_zero, List.set_cons_succ]
                  refine takeN (i := 49) (oi := _) (v := .int .i64 ((nB a c : Int) - 1)) 133 rfl rfl (by kernel_rfl) (by kernel_rfl) (by kernel_rfl) (fun _ _ _ h => h) (Or.inl ⟨by rfl, fun w2 hSw => by (have hwn := HWN.out; go_simp)⟩) hHeld ?_
                  try simp only [Act.put, List.setIfInBounds_toArray, List.set_cons_zero, List.set_cons_succ]
                  refine takeN (i := 50) (oi := _) (v := .bool true) 134 rfl rfl (by kernel_rfl) (by kernel_rfl) (by kernel_rfl) (fun _ _ _ h => h) (Or.inl ⟨by rfl, fun w2 hSw => by (go_simp)⟩) hHeld ?_
                  try simp only [Act.put, List.setIfInBounds_toArray, List.set_cons_zero, List.set_cons_succ]
                  refine takeN (i := 51) (oi := _) (v := .bool true) 135 rfl rfl (by kernel_rfl) (by kernel_rfl) (by kernel_rfl) (fun _ _ _ h => h) (Or.inl ⟨by rfl, fun w2 hSw => by (go_simp)⟩) hHeld ?_
                  try simp only [Act.put, List.setIfInBounds_toArray, List.set_cons_zero, List.set_cons_succ]
                  refine takeN (i := 52) (oi := _) (v := .bool true) 136 rfl rfl (by kernel_rfl) (by kernel_rfl) (by kernel_rfl) (fun _ _ _ h => h) (Or.inl ⟨by rfl, fun w2 hSw => by (go_simp)⟩) hHeld ?_
                  try simp only [Act.put, List.setIfInBounds_toArray, List.set_cons_zero, List.set_cons_succ]
                  refine takeN (i := 53) (oi := _) (v := .slice (some p) (nB a c) cL) 137 rfl rfl (by kernel_rfl) (by kernel_rfl) (by kernel_rfl) (fun _ _ _ h => h) (Or.inl ⟨by rfl, fun w2 hSw => by (go_simp)⟩) hHeld ?_
                  try simp only [Act.put, List.setIfInBounds_toArray, List.set_cons_zero, List.set_cons_succ]
                  refine takeN (i := 54) (oi := _) (v := .int .i64 (i : Int)) 138 rfl rfl (by kernel_rfl) (by kernel_rfl) (by kernel_rfl) (fun _ _ _ h => h) (Or.inl ⟨by rfl, fun w2 hSw => by (go_simp)⟩) hHeld ?_
                  try simp only [Act.put, List.setIfInBounds_toArray, List.set_cons_zero, List.set_cons_succ]
                  refine takeN (i := 55) (oi := _) (v := .pointer (some (p.add (i * 3)))) 139 rfl rfl (by kernel_rfl) (by kernel_rfl) (by kernel_rfl) (fun _ _ _ h => h) (Or.inl ⟨by rfl, fun w2 hSw => by (go_simp)⟩) hHeld ?_
                  try simp only [Act.put, List.setIfInBounds_toArray, List.set_cons_zero, List.set_cons_succ]
                  refine takeN (i := 56) (oi := _) (v := .agg #[.int .i64 b, .int .i64 (f : Int), .int .i64 (t : Int)]) 140 rfl rfl (by kernel_rfl) (by kernel_rfl) (by kernel_rfl) (fun _ _ _ h => h) (Or.inl ⟨by rfl, fun w2 hSw => by (obtain ⟨hc0, hc1, hc2⟩ := HSP.out _ hSw; go_simp)⟩) hHeld ?_
                  try simp only [Act.put, List.setIfInBounds_toArray, List.set_cons_zero, List.set_cons_succ]
                  refine wpAnyH_ready (rs := [57]) (by kernel_rfl) (by simp) ?_
                  refine AllReadyH.cons rfl (fun K hK => ?_) AllReadyH.nil
                  go_simp
                  go_wp2_with (first
                    | (go_at_call 12; (with_reducible refine (HWH.out _).mono ?_); rintro e wq ⟨rfl, hq⟩)
                    | fail)
                  have HQ := Lib.hid hq
                  clear hq
                  have hBQ := hHeld.trans (HQ.out.mono hHeld.size)
                  have HBQ := Lib.hid hBQ
                  clear hBQ HQ
                  refine hK.out _ _ HBQ.out (fun hHeld => ?_)
                  clear hK K
                  try simp only [Act.put, List.setIfInBounds_toArray, List.set_cons_zero, List.set_cons_succ]
                  refine takeN (i := 58) (oi := _) (v := .bool false) 142 rfl rfl (by kernel_rfl) (by kernel_rfl) (by kernel_rfl) (fun _ _ _ h => h) (Or.inl ⟨by rfl, fun w2 hSw => by (go_simp)⟩) hHeld ?_
                  try simp only [Act.put, List.setIfInBounds_toArray, List.set_cons_zero, List.set_cons_succ]
                  refine takeN (i := 59) (oi := _) (v := .bool false) 143 rfl rfl (by kernel_rfl) (by kernel_rfl) (by kernel_rfl) (fun _ _ _ h => h) (Or.inl ⟨by rfl, fun w2 hSw => by (go_simp)⟩) hHeld ?_
                  try simp only [Act.put, List.setIfInBounds_toArray, List.set_cons_zero, List.set_cons_succ]
                  refine takeN (i := 60) (oi := _) (v := .bool false) 144 rfl rfl (by kernel_rfl) (by kernel_rfl) (by kernel_rfl) (fun _ _ _ h => h) (Or.inl ⟨by rfl, fun w2 hSw => by (go_simp)⟩) hHeld ?_
                  try simp only [Act.put, List.setIfInBounds_toArray, List.set_cons_zero, List.set_cons_succ]
                  refine wpAnyH_done (by kernel_rfl) ?_ _
                  refine NoPanic.normal ?_
                  go_wp2_with fail
                  go_meet
                  exact ⟨rfl, hHeld⟩
                · skip
                  refine takeN (i := 0) (oi := _) (v := .int .i64 0) 84 rfl rfl (by kernel_rfl) (by kernel_rfl) (by kernel_rfl) (fun _ _ _ h => h) (Or.inl ⟨by rfl, fun w2 hSw => by (go_simp)⟩) hHeld ?_
                  try simp only [Act.put, List.setIfInBounds_toArray, List.set_cons_zero, List.set_cons_succ]
                  refine takeN (i := 2) (oi := _) (v := .int .i64 0) 86 rfl rfl (by kernel_rfl) (by kernel_rfl) (by kernel_rfl) (fun _ _ _ h => h) (Or.inl ⟨by rfl, fun w2 hSw => by (go_simp)⟩) hHeld ?_
                  try simp only [Act.put, List.setIfInBounds_toArray, List.set_cons_zero, List.set_cons_succ]
                  refine wpAnyH_ready (rs := [1]) (by kernel_rfl) (by simp) ?_
                  refine AllReadyH.cons rfl (fun K hK => ?_) AllReadyH.nil
                  go_simp
                  go_wp2_with (first
                    | (go_at_call 17; (with_reducible refine (num_any _ _).mono ?_); rintro e wq ⟨rfl, rfl⟩)
                    | fail)
                  refine hK.out _ _ hHeld (fun hHeld => ?_)
                  clear hK K
                  try simp only [Act.put, List.setIfInBounds_toArray, List.set_cons_zero, List.set_cons_succ]
                  refine wpAnyH_ready (rs := [3]) (by kernel_rfl) (by simp) ?_
                  refine AllReadyH.cons rfl (fun K hK => ?_) AllReadyH.nil
                  go_simp
                  go_wp2_with (first
                    | (go_at_call 17; (with_reducible refine (num_any _ _).mono ?_); rintro e wq ⟨rfl, rfl⟩)
                    | fail)
                  refine hK.out _ _ hHeld (fun hHeld => ?_)
                  clear hK K
                  try simp only [Act.put, List.setIfInBounds_toArray, List.set_cons_zero, List.set_cons_succ]
                  refine takeN (i := 4) (oi := _) (v := .int .i64 0) 88 rfl rfl (by kernel_rfl) (by kernel_rfl) (by kernel_rfl) (fun _ _ _ h => h) (Or.inl ⟨by rfl, fun w2 hSw => by (have hw0 := HW0.out; go_simp)⟩) hHeld ?_
                  try simp only [Act.put, List.setIfInBounds_toArray, List.set_cons_zero, List.set_cons_succ]
                  refine takeN (i := 5) (oi := _) (v := .bool false) 89 rfl rfl (by kernel_rfl) (by kernel_rfl) (by kernel_rfl) (fun _ _ _ h => h) (Or.inl ⟨by rfl, fun w2 hSw => by (go_simp)⟩) hHeld ?_
                  try simp only [Act.put, List.setIfInBounds_toArray, List.set_cons_zero, List.set_cons_succ]
                  refine takeN (i := 6) (oi := _) (v := .bool false) 90 rfl rfl (by kernel_rfl) (by kernel_rfl) (by kernel_rfl) (fun _ _ _ h => h) (Or.inl ⟨by rfl, fun w2 hSw => by (go_simp)⟩) hHeld ?_
                  try simp only [Act.put, List.setIfInBounds_toArray, List.set_cons_zero, List.set_cons_succ]
                  refine takeN (i := 7) (oi := _) (v := .agg (cells8 M).toArray) 91 rfl rfl (by kernel_rfl) (by kernel_rfl) (by kernel_rfl) (fun _ _ _ h => h) (yieldsIf_load_mid (by rfl) 36 (.tmp 12) rfl g12 0 rfl (cells8 M) _ (fun w2 hSw => range_of (HBM.out _ hSw)) Try.underlying36 rfl (blk_sz _ HML.out)) hHeld ?_
                  try simp only [Act.put, List.setIfInBounds_toArray, List.set_cons_zero, List.set_cons_succ]
                  refine takeN (i := 8) (oi := _) (v := .slice (some p) (nB a c) cL) 92 rfl rfl (by kernel_rfl) (by kernel_rfl) (by kernel_rfl) (fun _ _ _ h => h) (Or.inl ⟨by rfl, fun w2 hSw => by (go_simp)⟩) hHeld ?_
                  try simp only [Act.put, List.setIfInBounds_toArray, List.set_cons_zero, List.set_cons_succ]
                  refine takeN (i := 9) (oi := _) (v := .int .i64 (i : Int)) 93 rfl rfl (by kernel_rfl) (by kernel_rfl) (by kernel_rfl) (fun _ _ _ h => h) (Or.inl ⟨by rfl, fun w2 hSw => by (go_simp)⟩) hHeld ?_
                  try simp only [Act.put, List.setIfInBounds_toArray, List.set_cons_zero, List.set_cons_succ]
                  refine takeN (i := 10) (oi := _) (v := .pointer (some (p.add (i * 3)))) 94 rfl rfl (by kernel_rfl) (by kernel_rfl) (by kernel_rfl) (fun _ _ _ h => h) (Or.inl ⟨by rfl, fun w2 hSw => by (go_simp)⟩) hHeld ?_
                  try simp only [Act.put, List.setIfInBounds_toArray, List.set_cons_zero, List.set_cons_succ]
                  refine takeN (i := 11) (oi := _) (v := .agg #[.int .i64 b, .int .i64 (f : Int), .int .i64 (t : Int)]) 95 rfl rfl (by kernel_rfl) (by kernel_rfl) (by kernel_rfl) (fun _ _ _ h => h) (Or.inl ⟨by rfl, fun w2 hSw => by (obtain ⟨hc0, hc1, hc2⟩ := HSP.out _ hSw; go_simp)⟩) hHeld ?_
                  try simp only [Act.put, List.setIfInBounds_toArray, List.set_cons_zero, List.set_cons_succ]
                  refine takeN (i := 14) (oi := _) (v := .slice AD dd.length cD) 98 rfl rfl (by kernel_rfl) (by kernel_rfl) (by kernel_rfl) (fun _ _ _ h => h) (Or.inl ⟨by rfl, fun w2 hSw => by (go_simp)⟩) hHeld ?_
                  try simp only [Act.put, List.setIfInBounds_toArray, List.set_cons_zero, List.set_cons_succ]
                  refine takeN (i := 15) (oi := _) (v := .string ⟨dd.toArray⟩) 99 rfl rfl (by kernel_rfl) (by kernel_rfl) (by kernel_rfl) (fun _ _ _ h => h) (Or.inl ⟨by rfl, fun w2 hSw => by (have hcv : (convert 32 9 (.slice AD dd.length cD)).run Try.prog w2 = .ok (.string ⟨dd.toArray⟩) w2 := str_bytes (HSD.out _ hSw); go_simp)⟩) hHeld ?_
                  try simp only [Act.put, List.setIfInBounds_toArray, List.set_cons_zero, List.set_cons_succ]
                  refine wpAnyH_ready (rs := [12]) (by kernel_rfl) (by simp) ?_
                  refine AllReadyH.cons rfl (fun K hK => ?_) AllReadyH.nil
                  go_simp
                  go_wp2_with (first
                    | (go_at_call 16; (with_reducible refine (HCM.out _).mono ?_); rintro e wq ⟨v, rfl, hv⟩)
                    | fail)
                  obtain ⟨AC, cC, rfl⟩ := own_form hv.out.1
                  have HSC0 := Lib.hid (Shows.owned hv.out.1)
                  have HQ := Lib.hid hv.out.2
                  clear hv
                  have HSC : Hid (Shows wq wq.heap.size AC (cutD M f t).length (cells8 dd)) := (by have h := HSC0.out; rw [show cells8 (cutD M f t) = cells8 dd by rw [HCD.out]] at h; exact h)
                  have hBQ := hHeld.trans (HQ.out.mono hHeld.size)
                  have HBQ := Lib.hid hBQ
                  clear hBQ HQ
                  refine hK.out _ _ HBQ.out (fun hHeld => ?_)
                  clear hK K
                  try simp only [Act.put, List.setIfInBounds_toArray, List.set_cons_zero, List.set_cons_succ]
                  refine wpAnyH_ready (rs := [13]) (by kernel_rfl) (by simp) ?_
                  refine AllReadyH.cons rfl (fun K hK => ?_) AllReadyH.nil
                  have hcv : (convert 32 9 (.slice AC (cutD M f t).length cC)).run Try.prog wq = .ok (.string ⟨dd.toArray⟩) wq := str_bytes HSC.out
                  go_simp
                  clear hcv
                  refine hK.out _ _ hHeld (fun hHeld => ?_)
                  clear hK K
                  try simp only [Act.put, List.setIfInBounds_toArray, List.set_cons_zero, List.set_cons_succ]
                  refine takeN (i := 16) (oi := _) (v := .bool false) 100 rfl rfl (by kernel_rfl) (by kernel_rfl) (by kernel_rfl) (fun _ _ _ h => h) (Or.inl ⟨by rfl, fun w2 hSw => by (go_simp)⟩) hHeld ?_
                  try simp only [Act.put, List.setIfInBounds_toArray, List.set_cons_zero, List.set_cons_succ]
                  refine takeN (i := 17) (oi := _) (v := .bool false) 101 rfl rfl (by kernel_rfl) (by kernel_rfl) (by kernel_rfl) (fun _ _ _ h => h) (Or.inl ⟨by rfl, fun w2 hSw => by (go_simp)⟩) hHeld ?_
                  try simp only [Act.put, List.setIfInBounds_toArray, List.set_cons_zero, List.set_cons_succ]
                  refine takeN (i := 18) (oi := _) (v := .bool false) 102 rfl rfl (by kernel_rfl) (by kernel_rfl) (by kernel_rfl) (fun _ _ _ h => h) (Or.inl ⟨by rfl, fun w2 hSw => by (go_simp)⟩) hHeld ?_
                  try simp only [Act.put, List.setIfInBounds_toArray, List.set_cons_zero, List.set_cons_succ]
                  refine takeN (i := 19) (oi := _) (v := .agg (cells8 B).toArray) 103 rfl rfl (by kernel_rfl) (by kernel_rfl) (by kernel_rfl) (fun _ _ _ h => h) (yieldsIf_load_mid (by rfl) 36 (.tmp 14) rfl g14 0 rfl (cells8 B) _ (fun w2 hSw => range_of (HBY.out _ hSw)) Try.underlying36 rfl (blk_sz _ HBL.out)) hHeld ?_
                  try simp only [Act.put, List.setIfInBounds_toArray, List.set_cons_zero, List.set_cons_succ]
                  refine takeN (i := 20) (oi := _) (v := .agg (cells8 B).toArray) 104 rfl rfl (by kernel_rfl) (by kernel_rfl) (by kernel_rfl) (fun _ _ _ h => h) (yieldsIf_load_mid (by rfl) 36 (.tmp 5) rfl w.heap.size 0 rfl (cells8 B) _ (fun w2 hSw => range_of (HBB.out _ hSw)) Try.underlying36 rfl (blk_sz _ HBL.out)) hHeld ?_
                  try simp only [Act.put, List.setIfInBounds_toArray, List.set_cons_zero, List.set_cons_succ]
                  refine takeN (i := 21) (oi := _) (v := .bool false) 105 rfl rfl (by kernel_rfl) (by kernel_rfl) (by kernel_rfl) (fun _ _ _ h => h) (Or.inl ⟨by rfl, fun w2 hSw => by (have hnq := HNQ.out w2; go_simp)⟩) hHeld ?_
                  try simp only [Act.put, List.setIfInBounds_toArray, List.set_cons_zero, List.set_cons_succ]
                  refine takeN (i := 22) (oi := _) (v := .bool false) 106 rfl rfl (by kernel_rfl) (by kernel_rfl) (by kernel_rfl) (fun _ _ _ h => h) (Or.inl ⟨by rfl, fun w2 hSw => by (go_simp)⟩) hHeld ?_
                  try simp only [Act.put, List.setIfInBounds_toArray, List.set_cons_zero, List.set_cons_succ]
                  refine takeN (i := 23) (oi := _) (v := .bool false) 107 rfl rfl (by kernel_rfl) (by kernel_rfl) (by kernel_rfl) (fun _ _ _ h => h) (Or.inl ⟨by rfl, fun w2 hSw => by (go_simp)⟩) hHeld ?_
                  try simp only [Act.put, List.setIfInBounds_toArray, List.set_cons_zero, List.set_cons_succ]
                  refine takeN (i := 24) (oi := _) (v := .int .i64 (i : Int)) 108 rfl rfl (by kernel_rfl) (by kernel_rfl) (by kernel_rfl) (fun _ _ _ h => h) (Or.inl ⟨by rfl, fun w2 hSw => by (go_simp)⟩) hHeld ?_
                  try simp only [Act.put, List.setIfInBounds_toArray, List.set_cons_zero, List.set_cons_succ]
                  refine takeN (i := 25) (oi := _) (v := .bool true) 109 rfl rfl (by kernel_rfl) (by kernel_rfl) (by kernel_rfl) (fun _ _ _ h => h) (Or.inl ⟨by rfl, fun w2 hSw => by (go_simp)⟩) hHeld ?_
                  try simp only [Act.put, List.setIfInBounds_toArray, List.set_cons_zero, List.set_cons_succ]
                  refine takeN (i := 26) (oi := _) (v := .bool true) 110 rfl rfl (by kernel_rfl) (by kernel_rfl) (by kernel_rfl) (fun _ _ _ h => h) (Or.inl ⟨by rfl, fun w2 hSw => by (go_simp)⟩) hHeld ?_
                  try simp only [Act.put, List.setIfInBounds_toArray, List.set_cons_zero, List.set_cons_succ]
                  refine takeN (i := 27) (oi := _) (v := .slice (some p) (nB a c) cL) 111 rfl rfl (by kernel_rfl) (by kernel_rfl) (by kernel_rfl) (fun _ _ _ h => h) (Or.inl ⟨by rfl, fun w2 hSw => by (go_simp)⟩) hHeld ?_
                  try simp only [Act.put, List.setIfInBounds_toArray, List.set_cons_zero, List.set_cons_succ]
                  refine takeN (i := 28) (oi := _) (v := .int .i64 (i : Int)) 112 rfl rfl (by kernel_rfl) (by kernel_rfl) (by kernel_rfl) (fun _ _ _ h => h) (Or.inl ⟨by rfl, fun w2 hSw => by (go_simp)⟩) hHeld ?_
                  try simp only [Act.put, List.setIfInBounds_toArray, List.set_cons_zero, List.set_cons_succ]
                  refine takeN (i := 29) (oi := _) (v := .pointer (some (p.add (i * 3)))) 113 rfl rfl (by kernel_rfl) (by kernel_rfl) (by kernel_rfl) (fun _ _ _ h => h) (Or.inl ⟨by rfl, fun w2 hSw => by (go_simp)⟩) hHeld ?_
                  try simp only [Act.put, List.setIfInBounds_toArray, List.set_cons_zero, List.set_cons_succ]
                  refine takeN (i := 30) (oi := _) (v := .pointer (some (p.add (i * 3)))) 114 rfl rfl (by kernel_rfl) (by kernel_rfl) (by kernel_rfl) (fun _ _ _ h => h) (Or.inl ⟨by rfl, fun w2 hSw => by (go_simp)⟩) hHeld ?_
                  try simp only [Act.put, List.setIfInBounds_toArray, List.set_cons_zero, List.set_cons_succ]
                  refine takeN (i := 31) (oi := _) (v := .int .i64 b) 115 rfl rfl (by kernel_rfl) (by kernel_rfl) (by kernel_rfl) (fun _ _ _ h => h) (Or.inl ⟨by rfl, fun w2 hSw => by (obtain ⟨hc0, hc1, hc2⟩ := HSP.out _ hSw; go_simp)⟩) hHeld ?_
                  try simp only [Act.put, List.setIfInBounds_toArray, List.set_cons_zero, List.set_cons_succ]
                  refine takeN (i := 32) (oi := _) (v := .slice (some p) (nB a c) cL) 116 rfl rfl (by kernel_rfl) (by kernel_rfl) (by kernel_rfl) (fun _ _ _ h => h) (Or.inl ⟨by rfl, fun w2 hSw => by (go_simp)⟩) hHeld ?_
                  try simp only [Act.put, List.setIfInBounds_toArray, List.set_cons_zero, List.set_cons_succ]
                  refine takeN (i := 33) (oi := _) (v := .int .i64 (i : Int)) 117 rfl rfl (by kernel_rfl) (by kernel_rfl) (by kernel_rfl) (fun _ _ _ h => h) (Or.inl ⟨by rfl, fun w2 hSw => by (go_simp)⟩) hHeld ?_
                  try simp only [Act.put, List.setIfInBounds_toArray, List.set_cons_zero, List.set_cons_succ]
                  refine takeN (i := 34) (oi := _) (v := .int .i64 ((i : Int) - 1)) 118 rfl rfl (by kernel_rfl) (by kernel_rfl) (by kernel_rfl) (fun _ _ _ h => h) (Or.inl ⟨by rfl, fun w2 hSw => by (have hw1 := HW1.out; go_simp)⟩) hHeld ?_
                  try simp only [Act.put, List.setIfInBounds_toArray, List.set_cons_zero, List.set_cons_succ]
                  refine takeN (i := 35) (oi := _) (v := .pointer (some (p.add ((i - 1) * 3)))) 119 rfl rfl (by kernel_rfl) (by kernel_rfl) (by kernel_rfl) (fun _ _ _ h => h) (Or.inl ⟨by rfl, fun w2 hSw => by (have hi1 : (1 : Int) ≤ (i : Int) := hzI; have hi2 := HI2.out; go_simp)⟩) hHeld ?_
                  try simp only [Act.put, List.setIfInBounds_toArray, List.set_cons_zero, List.set_cons_succ]
                  refine takeN (i := 36) (oi := _) (v := .pointer (some (p.add ((i - 1) * 3)))) 120 rfl rfl (by kernel_rfl) (by kernel_rfl) (by kernel_rfl) (fun _ _ _ h => h) (Or.inl ⟨by rfl, fun w2 hSw => by (go_simp)⟩) hHeld ?_
                  try simp only [Act.put, List.setIfInBounds_toArray, List.set_cons_zero, List.set_cons_succ]
                  refine takeN (i := 37) (oi := _) (v := .int .i64 (b - 1)) 121 rfl rfl (by kernel_rfl) (by kernel_rfl) (by kernel_rfl) (fun _ _ _ h => h) (Or.inl ⟨by rfl, fun w2 hSw => by (have hc0 := HSPP.out _ hSw; go_simp)⟩) hHeld ?_
                  try simp only [Act.put, List.setIfInBounds_toArray, List.set_cons_zero, List.set_cons_succ]
                  refine takeN (i := 38) (oi := _) (v := .int .i64 b) 122 rfl rfl (by kernel_rfl) (by kernel_rfl) (by kernel_rfl) (fun _ _ _ h => h) (Or.inl ⟨by rfl, fun w2 hSw => by (have hwb := HWB.out; go_simp)⟩) hHeld ?_
                  try simp only [Act.put, List.setIfInBounds_toArray, List.set_cons_zero, List.set_cons_succ]
                  refine takeN (i := 39) (oi := _) (v := .bool false) 123 rfl rfl (by kernel_rfl) (by kernel_rfl) (by kernel_rfl) (fun _ _ _ h => h) (Or.inl ⟨by rfl, fun w2 hSw => by (go_simp)⟩) hHeld ?_
                  try simp only [Act.put, List.setIfInBounds_toArray, List.set_cons_zero, List.set_cons_succ]
                  refine takeN (i := 40) (oi := _) (v := .bool false) 124 rfl rfl (by kernel_rfl) (by kernel_rfl) (by kernel_rfl) (fun _ _ _ h => h) (Or.inl ⟨by rfl, fun w2 hSw => by (go_simp)⟩) hHeld ?_
                  try simp only [Act.put, List.setIfInBounds_toArray, List.set_cons_zero, List.set_cons_succ]
                  refine takeN (i := 41) (oi := _) (v := .bool false) 125 rfl rfl (by kernel_rfl) (by kernel_rfl) (by kernel_rfl) (fun _ _ _ h => h) (Or.inl ⟨by rfl, fun w2 hSw => by (go_simp)⟩) hHeld ?_
                  try simp only [Act.put, List.setIfInBounds_toArray, List.set_cons_zero, List.set_cons_succ]
                  refine takeN (i := 42) (oi := _) (v := .bool false) 126 rfl rfl (by kernel_rfl) (by kernel_rfl) (by kernel_rfl) (fun _ _ _ h => h) (Or.inl ⟨by rfl, fun w2 hSw => by (go_simp)⟩) hHeld ?_
                  try simp only [Act.put, List.setIfInBounds_toArray, List.set_cons_zero, List.set_cons_succ]
                  refine takeN (i := 43) (oi := _) (v := .int .i64 (i : Int)) 127 rfl rfl (by kernel_rfl) (by kernel_rfl) (by kernel_rfl) (fun _ _ _ h => h) (Or.inl ⟨by rfl, fun w2 hSw => by (go_simp)⟩) hHeld ?_
                  try simp only [Act.put, List.setIfInBounds_toArray, List.set_cons_zero, List.set_cons_succ]
                  refine takeN (i := 44) (oi := _) (v := .bool true) 128 rfl rfl (by kernel_rfl) (by kernel_rfl) (by kernel_rfl) (fun _ _ _ h => h) (Or.inl ⟨by rfl, fun w2 hSw => by (go_simp)⟩) hHeld ?_
                  try simp only [Act.put, List.setIfInBounds_toArray, List.set_cons_zero, List.set_cons_succ]
                  refine takeN (i := 45) (oi := _) (v := .bool true) 129 rfl rfl (by kernel_rfl) (by kernel_rfl) (by kernel_rfl) (fun _ _ _ h => h) (Or.inl ⟨by rfl, fun w2 hSw => by (go_simp)⟩) hHeld ?_
                  try simp only [Act.put, List.setIfInBounds_toArray, List.set_cons_zero, List.set_cons_succ]
                  refine takeN (i := 46) (oi := _) (v := .int .i64 (i : Int)) 130 rfl rfl (by kernel_rfl) (by kernel_rfl) (by kernel_rfl) (fun _ _ _ h => h) (Or.inl ⟨by rfl, fun w2 hSw => by (go_simp)⟩) hHeld ?_
                  try simp only [Act.put, List.setIfInBounds_toArray, List.set_cons_zero, List.set_cons_succ]
                  refine takeN (i := 47) (oi := _) (v := .slice (some p) (nB a c) cL) 131 rfl rfl (by kernel_rfl) (by kernel_rfl) (by kernel_rfl) (fun _ _ _ h => h) (Or.inl ⟨by rfl, fun w2 hSw => by (go_simp)⟩) hHeld ?_
                  try simp only [Act.put, List.setIfInBounds_toArray, List.set_cons_zero, List.set_cons_succ]
                  refine takeN (i := 48) (oi := _) (v := .int .i64 (nB a c : Int)) 132 rfl rfl (by kernel_rfl) (by kernel_rfl) (by kernel_rfl) (fun _ _ _ h => h) (Or.inl ⟨by rfl, fun w2 hSw => by (go_simp)⟩) hHeld ?_
                  try simp only [Act.put, List.setIfInBounds_toArray, List.set_cons_zero, List.set_cons_succ]
                  refine takeN (i := 49) (oi := _) (v := .int .i64 ((nB a c : Int) - 1)) 133 rfl rfl (by kernel_rfl) (by kernel_rfl) (by kernel_rfl) (fun _ _ _ h => h) (Or.inl ⟨by rfl, fun w2 hSw => by (have hwn := HWN.out; go_simp)⟩) hHeld ?_
                  try simp only [Act.put, List.setIfInBounds_toArray, List.set_cons_zero, List.set_cons_succ]
                  refine takeN (i := 50) (oi := _) (v := .bool false) 134 rfl rfl (by kernel_rfl) (by kernel_rfl) (by kernel_rfl) (fun _ _ _ h => h) (Or.inl ⟨by rfl, fun w2 hSw => by (go_simp)⟩) hHeld ?_
                  try simp only [Act.put, List.setIfInBounds_toArray, List.set_cons_zero, List.set_cons_succ]
                  refine takeN (i := 51) (oi := _) (v := .bool false) 135 rfl rfl (by kernel_rfl) (by kernel_rfl) (by kernel_rfl) (fun _ _ _ h => h) (Or.inl ⟨by rfl, fun w2 hSw => by (go_simp)⟩) hHeld ?_
                  try simp only [Act.put, List.setIfInBounds_toArray, List.set_cons_zero, List.set_cons_succ]
                  refine takeN (i := 52) (oi := _) (v := .bool false) 136 rfl rfl (by kernel_rfl) (by kernel_rfl) (by kernel_rfl) (fun _ _ _ h => h) (Or.inl ⟨by rfl, fun w2 hSw => by (go_simp)⟩) hHeld ?_
                  try simp only [Act.put, List.setIfInBounds_toArray, List.set_cons_zero, List.set_cons_succ]
                  refine takeN (i := 53) (oi := _) (v := undef) 137 rfl rfl (by kernel_rfl) (by kernel_rfl) (by kernel_rfl) (fun _ _ _ h => h) (Or.inr ⟨by rfl, rfl⟩) hHeld ?_
                  try simp only [Act.put, List.setIfInBounds_toArray, List.set_cons_zero, List.set_cons_succ]
                  refine takeN (i := 54) (oi := _) (v := undef) 138 rfl rfl (by kernel_rfl) (by kernel_rfl) (by kernel_rfl) (fun _ _ _ h => h) (Or.inr ⟨by rfl, rfl⟩) hHeld ?_
                  try simp only [Act.put, List.setIfInBounds_toArray, List.set_cons_zero, List.set_cons_succ]
                  refine takeN (i := 55) (oi := _) (v := undef) 139 rfl rfl (by kernel_rfl) (by kernel_rfl) (by kernel_rfl) (fun _ _ _ h => h) (Or.inr ⟨by rfl, rfl⟩) hHeld ?_
                  try simp only [Act.put, List.setIfInBounds_toArray, List.set_cons_zero, List.set_cons_succ]
                  refine takeN (i := 56) (oi := _) (v := undef) 140 rfl rfl (by kernel_rfl) (by kernel_rfl) (by kernel_rfl) (fun _ _ _ h => h) (Or.inr ⟨by rfl, rfl⟩) hHeld ?_
                  try simp only [Act.put, List.setIfInBounds_toArray, List.set_cons_zero, List.set_cons_succ]
                  refine takeN (i := 57) (oi := _) (v := undef) 141 rfl rfl (by kernel_rfl) (by kernel_rfl) (by kernel_rfl) (fun _ _ _ h => h) (Or.inr ⟨by rfl, rfl⟩) hHeld ?_
                  try simp only [Act.put, List.setIfInBounds_toArray, List.set_cons_zero, List.set_cons_succ]
                  refine takeN (i := 58) (oi := _) (v := undef) 142 rfl rfl (by kernel_rfl) (by kernel_rfl) (by kernel_rfl) (fun _ _ _ h => h) (Or.inr ⟨by rfl, rfl⟩) hHeld ?_
                  try simp only [Act.put, List.setIfInBounds_toArray, List.set_cons_zero, List.set_cons_succ]
                  refine takeN (i := 59) (oi := _) (v := .bool false) 143 rfl rfl (by kernel_rfl) (by kernel_rfl) (by kernel_rfl) (fun _ _ _ h => h) (Or.inl ⟨by rfl, fun w2 hSw => by (go_simp)⟩) hHeld ?_
                  try simp only [Act.put, List.setIfInBounds_toArray, List.set_cons_zero, List.set_cons_succ]
                  refine takeN (i := 60) (oi := _) (v := .bool false) 144 rfl rfl (by kernel_rfl) (by kernel_rfl) (by kernel_rfl) (fun _ _ _ h => h) (Or.inl ⟨by rfl, fun w2 hSw => by (go_simp)⟩) hHeld ?_
                  try simp only [Act.put, List.setIfInBounds_toArray, List.set_cons_zero, List.set_cons_succ]
                  refine wpAnyH_done (by kernel_rfl) ?_ _
                  refine NoPanic.normal ?_
                  go_wp2_with fail
                  go_meet
                  exact ⟨rfl, hHeld⟩
              · have hzI : ¬ (0 : Int) < (i : Int) := by omega
                refine takeN (i := 0) (oi := _) (v := .int .i64 0) 84 rfl rfl (by kernel_rfl) (by kernel_rfl) (by kernel_rfl) (fun _ _ _ h => h) (Or.inl ⟨by rfl, fun w2 hSw => by (go_simp)⟩) hHeld ?_
                try simp only [Act.put, List.setIfInBounds_toArray, List.set_cons_zero, List.set_cons_succ]
                refine takeN (i := 2) (oi := _) (v := .int .i64 0) 86 rfl rfl (by kernel_rfl) (by kernel_rfl) (by kernel_rfl) (fun _ _ _ h => h) (Or.inl ⟨by rfl, fun w2 hSw => by (go_simp)⟩) hHeld ?_
                try simp only [Act.put, List.setIfInBounds_toArray, List.set_cons_zero, List.set_cons_succ]
                refine wpAnyH_ready (rs := [1]) (by kernel_rfl) (by simp) ?_
                refine AllReadyH.cons rfl (fun K hK => ?_) AllReadyH.nil
                go_simp
                go_wp2_with (first
                  | (go_at_call 17; (with_reducible refine (num_any _ _).mono ?_); rintro e wq ⟨rfl, rfl⟩)
                  | fail)
                refine hK.out _ _ hHeld (fun hHeld => ?_)
                clear hK K
                try simp only [Act.put, List.setIfInBounds_toArray, List.set_cons_zero, List.set_cons_succ]
                refine wpAnyH_ready (rs := [3]) (by kernel_rfl) (by simp) ?_
                refine AllReadyH.cons rfl (fun K hK => ?_) AllReadyH.nil
                go_simp
                go_wp2_with (first
                  | (go_at_call 17; (with_reducible refine (num_any _ _).mono ?_); rintro e wq ⟨rfl, rfl⟩)
                  | fail)
                refine hK.out _ _ hHeld (fun hHeld => ?_)
                clear hK K
                try simp only [Act.put, List.setIfInBounds_toArray, List.set_cons_zero, List.set_cons_succ]
                refine takeN (i := 4) (oi := _) (v := .int .i64 0) 88 rfl rfl (by kernel_rfl) (by kernel_rfl) (by kernel_rfl) (fun _ _ _ h => h) (Or.inl ⟨by rfl, fun w2 hSw => by (have hw0 := HW0.out; go_simp)⟩) hHeld ?_
                try simp only [Act.put, List.setIfInBounds_toArray, List.set_cons_zero, List.set_cons_succ]
                refine takeN (i := 5) (oi := _) (v := .bool false) 89 rfl rfl (by kernel_rfl) (by kernel_rfl) (by kernel_rfl) (fun _ _ _ h => h) (Or.inl ⟨by rfl, fun w2 hSw => by (go_simp)⟩) hHeld ?_
                try simp only [Act.put, List.setIfInBounds_toArray, List.set_cons_zero, List.set_cons_succ]
                refine takeN (i := 6) (oi := _) (v := .bool false) 90 rfl rfl (by kernel_rfl) (by kernel_rfl) (by kernel_rfl) (fun _ _ _ h => h) (Or.inl ⟨by rfl, fun w2 hSw => by (go_simp)⟩) hHeld ?_
                try simp only [Act.put, List.setIfInBounds_toArray, List.set_cons_zero, List.set_cons_succ]
                refine takeN (i := 7) (oi := _) (v := .agg (cells8 M).toArray) 91 rfl rfl (by kernel_rfl) (by kernel_rfl) (by kernel_rfl) (fun _ _ _ h => h) (yieldsIf_load_mid (by rfl) 36 (.tmp 12) rfl g12 0 rfl (cells8 M) _ (fun w2 hSw => range_of (HBM.out _ hSw)) Try.underlying36 rfl (blk_sz _ HML.out)) hHeld ?_
                try simp only [Act.put, List.setIfInBounds_toArray, List.set_cons_zero, List.set_cons_succ]
                refine takeN (i := 8) (oi := _) (v := .slice (some p) (nB a c) cL) 92 rfl rfl (by kernel_rfl) (by kernel_rfl) (by kernel_rfl) (fun _ _ _ h => h) (Or.inl ⟨by rfl, fun w2 hSw => by (go_simp)⟩) hHeld ?_
                try simp only [Act.put, List.setIfInBounds_toArray, List.set_cons_zero, List.set_cons_succ]
                refine takeN (i := 9) (oi := _) (v := .int .i64 (i : Int)) 93 rfl rfl (by kernel_rfl) (by kernel_rfl) (by kernel_rfl) (fun _ _ _ h => h) (Or.inl ⟨by rfl, fun w2 hSw => by (go_simp)⟩) hHeld ?_
                try simp only [Act.put, List.setIfInBounds_toArray, List.set_cons_zero, List.set_cons_succ]
                refine takeN (i := 10) (oi := _) (v := .pointer (some (p.add (i * 3)))) 94 rfl rfl (by kernel_rfl) (by kernel_rfl) (by kernel_rfl) (fun _ _ _ h => h) (Or.inl ⟨by rfl, fun w2 hSw => by (go_simp)⟩) hHeld ?_
                try simp only [Act.put, List.setIfInBounds_toArray, List.set_cons_zero, List.set_cons_succ]
                refine takeN (i := 11) (oi := _) (v := .agg #[.int .i64 b, .int .i64 (f : Int), .int .i64 (t : Int)]) 95 rfl rfl (by kernel_rfl) (by kernel_rfl) (by kernel_rfl) (fun _ _ _ h => h) (Or.inl ⟨by rfl, fun w2 hSw => by (obtain ⟨hc0, hc1, hc2⟩ := HSP.out _ hSw; go_simp)⟩) hHeld ?_
                try simp only [Act.put, List.setIfInBounds_toArray, List.set_cons_zero, List.set_cons_succ]
                refine takeN (i := 14) (oi := _) (v := .slice AD dd.length cD) 98 rfl rfl (by kernel_rfl) (by kernel_rfl) (by kernel_rfl) (fun _ _ _ h => h) (Or.inl ⟨by rfl, fun w2 hSw => by (go_simp)⟩) hHeld ?_
                try simp only [Act.put, List.setIfInBounds_toArray, List.set_cons_zero, List.set_cons_succ]
                refine takeN (i := 15) (oi := _) (v := .string ⟨dd.toArray⟩) 99 rfl rfl (by kernel_rfl) (by kernel_rfl) (by kernel_rfl) (fun _ _ _ h => h) (Or.inl ⟨by rfl, fun w2 hSw => by (have hcv : (convert 32 9 (.slice AD dd.length cD)).run Try.prog w2 = .ok (.string ⟨dd.toArray⟩) w2 := str_bytes (HSD.out _ hSw); go_simp)⟩) hHeld ?_
                try simp only [Act.put, List.setIfInBounds_toArray, List.set_cons_zero, List.set_cons_succ]
                refine wpAnyH_ready (rs := [12]) (by kernel_rfl) (by simp) ?_
                refine AllReadyH.cons rfl (fun K hK => ?_) AllReadyH.nil
                go_simp
                go_wp2_with (first
                  | (go_at_call 16; (with_reducible refine (HCM.out _).mono ?_); rintro e wq ⟨v, rfl, hv⟩)
                  | fail)
                obtain ⟨AC, cC, rfl⟩ := own_form hv.out.1
                have HSC0 := Lib.hid (Shows.owned hv.out.1)
                have HQ := Lib.hid hv.out.2
                clear hv
                have HSC : Hid (Shows wq wq.heap.size AC (cutD M f t).length (cells8 dd)) := (by have h := HSC0.out; rw [show cells8 (cutD M f t) = cells8 dd by rw [HCD.out]] at h; exact h)
                have hBQ := hHeld.trans (HQ.out.mono hHeld.size)
                have HBQ := Lib.hid hBQ
                clear hBQ HQ
                refine hK.out _ _ HBQ.out (fun hHeld => ?_)
                clear hK K
                try simp only [Act.put, List.setIfInBounds_toArray, List.set_cons_zero, List.set_cons_succ]
                refine wpAnyH_ready (rs := [13]) (by kernel_rfl) (by simp) ?_
                refine AllReadyH.cons rfl (fun K hK => ?_) AllReadyH.nil
                have hcv : (convert 32 9 (.slice AC (cutD M f t).length cC)).run Try.prog wq = .ok (.string ⟨dd.toArray⟩) wq := str_bytes HSC.out
                go_simp
                clear hcv
                refine hK.out _ _ hHeld (fun hHeld => ?_)
                clear hK K
                try simp only [Act.put, List.setIfInBounds_toArray, List.set_cons_zero, List.set_cons_succ]
                refine takeN (i := 16) (oi := _) (v := .bool false) 100 rfl rfl (by kernel_rfl) (by kernel_rfl) (by kernel_rfl) (fun _ _ _ h => h) (Or.inl ⟨by rfl, fun w2 hSw => by (go_simp)⟩) hHeld ?_
                try simp only [Act.put, List.setIfInBounds_toArray, List.set_cons_zero, List.set_cons_succ]
                refine takeN (i := 17) (oi := _) (v := .bool false) 101 rfl rfl (by kernel_rfl) (by kernel_rfl) (by kernel_rfl) (fun _ _ _ h => h) (Or.inl ⟨by rfl, fun w2 hSw => by (go_simp)⟩) hHeld ?_
                try simp only [Act.put, List.setIfInBounds_toArray, List.set_cons_zero, List.set_cons_succ]
                refine takeN (i := 18) (oi := _) (v := .bool false) 102 rfl rfl (by kernel_rfl) (by kernel_rfl) (by kernel_rfl) (fun _ _ _ h => h) (Or.inl ⟨by rfl, fun w2 hSw => by (go_simp)⟩) hHeld ?_
                try simp only [Act.put, List.setIfInBounds_toArray, List.set_cons_zero, List.set_cons_succ]
                refine takeN (i := 19) (oi := _) (v := .agg (cells8 B).toArray) 103 rfl rfl (by kernel_rfl) (by kernel_rfl) (by kernel_rfl) (fun _ _ _ h => h) (yieldsIf_load_mid (by rfl) 36 (.tmp 14) rfl g14 0 rfl (cells8 B) _ (fun w2 hSw => range_of (HBY.out _ hSw)) Try.underlying36 rfl (blk_sz _ HBL.out)) hHeld ?_
                try simp only [Act.put, List.setIfInBounds_toArray, List.set_cons_zero, List.set_cons_succ]
                refine takeN (i := 20) (oi := _) (v := .agg (cells8 B).toArray) 104 rfl rfl (by kernel_rfl) (by kernel_rfl) (by kernel_rfl) (fun _ _ _ h => h) (yieldsIf_load_mid (by rfl) 36 (.tmp 5) rfl w.heap.size 0 rfl (cells8 B) _ (fun w2 hSw => range_of (HBB.out _ hSw)) Try.underlying36 rfl (blk_sz _ HBL.out)) hHeld ?_
                try simp only [Act.put, List.setIfInBounds_toArray, List.set_cons_zero, List.set_cons_succ]
                refine takeN (i := 21) (oi := _) (v := .bool false) 105 rfl rfl (by kernel_rfl) (by kernel_rfl) (by kernel_rfl) (fun _ _ _ h => h) (Or.inl ⟨by rfl, fun w2 hSw => by (have hnq := HNQ.out w2; go_simp)⟩) hHeld ?_
                try simp only [Act.put, List.setIfInBounds_toArray, List.set_cons_zero, List.set_cons_succ]
                refine takeN (i := 22) (oi := _) (v := .bool false) 106 rfl rfl (by kernel_rfl) (by kernel_rfl) (by kernel_rfl) (fun _ _ _ h => h) (Or.inl ⟨by rfl, fun w2 hSw => by (go_simp)⟩) hHeld ?_
                try simp only [Act.put, List.setIfInBounds_toArray, List.set_cons_zero, List.set_cons_succ]
                refine takeN (i := 23) (oi := _) (v := .bool false) 107 rfl rfl (by kernel_rfl) (by kernel_rfl) (by kernel_rfl) (fun _ _ _ h => h) (Or.inl ⟨by rfl, fun w2 hSw => by (go_simp)⟩) hHeld ?_
                try simp only [Act.put, List.setIfInBounds_toArray, List.set_cons_zero, List.set_cons_succ]
                refine takeN (i := 24) (oi := _) (v := .int .i64 (i : Int)) 108 rfl rfl (by kernel_rfl) (by kernel_rfl) (by kernel_rfl) (fun _ _ _ h => h) (Or.inl ⟨by rfl, fun w2 hSw => by (go_simp)⟩) hHeld ?_
                try simp only [Act.put, List.setIfInBounds_toArray, List.set_cons_zero, List.set_cons_succ]
                refine takeN (i := 25) (oi := _) (v := .bool false) 109 rfl rfl (by kernel_rfl) (by kernel_rfl) (by kernel_rfl) (fun _ _ _ h => h) (Or.inl ⟨by rfl, fun w2 hSw => by (go_simp)⟩) hHeld ?_
                try simp only [Act.put, List.setIfInBounds_toArray, List.set_cons_zero, List.set_cons_succ]
                refine takeN (i := 26) (oi := _) (v := .bool false) 110 rfl rfl (by kernel_rfl) (by kernel_rfl) (by kernel_rfl) (fun _ _ _ h => h) (Or.inl ⟨by rfl, fun w2 hSw => by (go_simp)⟩) hHeld ?_
                try simp only [Act.put, List.setIfInBounds_toArray, List.set_cons_zero, List.set_cons_succ]
                refine takeN (i := 27) (oi := _) (v := undef) 111 rfl rfl (by kernel_rfl) (by kernel_rfl) (by kernel_rfl) (fun _ _ _ h => h) (Or.inr ⟨by rfl, rfl⟩) hHeld ?_
                try simp only [Act.put, List.setIfInBounds_toArray, List.set_cons_zero, List.set_cons_succ]
                refine takeN (i := 28) (oi := _) (v := undef) 112 rfl rfl (by kernel_rfl) (by kernel_rfl) (by kernel_rfl) (fun _ _ _ h => h) (Or.inr ⟨by rfl, rfl⟩) hHeld ?_
                try simp only [Act.put, List.setIfInBounds_toArray, List.set_cons_zero, List.set_cons_succ]
                refine takeN (i := 29) (oi := _) (v := undef) 113 rfl rfl (by kernel_rfl) (by kernel_rfl) (by kernel_rfl) (fun _ _ _ h => h) (Or.inr ⟨by rfl, rfl⟩) hHeld ?_
                try simp only [Act.put, List.setIfInBounds_toArray, List.set_cons_zero, List.set_cons_succ]
                refine takeN (i := 30) (oi := _) (v := undef) 114 rfl rfl (by kernel_rfl) (by kernel_rfl) (by kernel_rfl) (fun _ _ _ h => h) (Or.inr ⟨by rfl, rfl⟩) hHeld ?_
                try simp only [Act.put, List.setIfInBounds_toArray, List.set_cons_zero, List.set_cons_succ]
                refine takeN (i := 31) (oi := _) (v := undef) 115 rfl rfl (by kernel_rfl) (by kernel_rfl) (by kernel_rfl) (fun _ _ _ h => h) (Or.inr ⟨by rfl, rfl⟩) hHeld ?_
                try simp only [Act.put, List.setIfInBounds_toArray, List.set_cons_zero, List.set_cons_succ]
                refine takeN (i := 32) (oi := _) (v := undef) 116 rfl rfl (by kernel_rfl) (by kernel_rfl) (by kernel_rfl) (fun _ _ _ h => h) (Or.inr ⟨by rfl, rfl⟩) hHeld ?_
                try simp only [Act.put, List.setIfInBounds_toArray, List.set_cons_zero, List.set_cons_succ]
                refine takeN (i := 33) (oi := _) (v := undef) 117 rfl rfl (by kernel_rfl) (by kernel_rfl) (by kernel_rfl) (fun _ _ _ h => h) (Or.inr ⟨by rfl, rfl⟩) hHeld ?_
                try simp only [Act.put, List.setIfInBounds_toArray, List.set_cons_zero, List.set_cons_succ]
                refine takeN (i := 34) (oi := _) (v := undef) 118 rfl rfl (by kernel_rfl) (by kernel_rfl) (by kernel_rfl) (fun _ _ _ h => h) (Or.inr ⟨by rfl, rfl⟩) hHeld ?_
                try simp only [Act.put, List.setIfInBounds_toArray, List.set_cons_zero, List.set_cons_succ]
                refine takeN (i := 35) (oi := _) (v := undef) 119 rfl rfl (by kernel_rfl) (by kernel_rfl) (by kernel_rfl) (fun _ _ _ h => h) (Or.inr ⟨by rfl, rfl⟩) hHeld ?_
                try simp only [Act.put, List.setIfInBounds_toArray, List.set_cons_zero, List.set_cons_succ]
                refine takeN (i := 36) (oi := _) (v := undef) 120 rfl rfl (by kernel_rfl) (by kernel_rfl) (by kernel_rfl) (fun _ _ _ h => h) (Or.inr ⟨by rfl, rfl⟩) hHeld ?_
                try simp only [Act.put, List.setIfInBounds_toArray, List.set_cons_zero, List.set_cons_succ]
                refine takeN (i := 37) (oi := _) (v := undef) 121 rfl rfl (by kernel_rfl) (by kernel_rfl) (by kernel_rfl) (fun _ _ _ h => h) (Or.inr ⟨by rfl, rfl⟩) hHeld ?_
                try simp only [Act.put, List.setIfInBounds_toArray, List.set_cons_zero, List.set_cons_succ]
                refine takeN (i := 38) (oi := _) (v := undef) 122 rfl rfl (by kernel_rfl) (by kernel_rfl) (by kernel_rfl) (fun _ _ _ h => h) (Or.inr ⟨by rfl, rfl⟩) hHeld ?_
                try simp only [Act.put, List.setIfInBounds_toArray, List.set_cons_zero, List.set_cons_succ]
                refine takeN (i := 39) (oi := _) (v := undef) 123 rfl rfl (by kernel_rfl) (by kernel_rfl) (by kernel_rfl) (fun _ _ _ h => h) (Or.inr ⟨by rfl, rfl⟩) hHeld ?_
                try simp only [Act.put, List.setIfInBounds_toArray, List.set_cons_zero, List.set_cons_succ]
                refine takeN (i := 40) (oi := _) (v := .bool false) 124 rfl rfl (by kernel_rfl) (by kernel_rfl) (by kernel_rfl) (fun _ _ _ h => h) (Or.inl ⟨by rfl, fun w2 hSw => by (go_simp)⟩) hHeld ?_
                try simp only [Act.put, List.setIfInBounds_toArray, List.set_cons_zero, List.set_cons_succ]
                refine takeN (i := 41) (oi := _) (v := .bool false) 125 rfl rfl (by kernel_rfl) (by kernel_rfl) (by kernel_rfl) (fun _ _ _ h => h) (Or.inl ⟨by rfl, fun w2 hSw => by (go_simp)⟩) hHeld ?_
                try simp only [Act.put, List.setIfInBounds_toArray, List.set_cons_zero, List.set_cons_succ]
                refine takeN (i := 42) (oi := _) (v := .bool false) 126 rfl rfl (by kernel_rfl) (by kernel_rfl) (by kernel_rfl) (fun _ _ _ h => h) (Or.inl ⟨by rfl, fun w2 hSw => by (go_simp)⟩) hHeld ?_
                try simp only [Act.put, List.setIfInBounds_toArray, List.set_cons_zero, List.set_cons_succ]
                refine takeN (i := 43) (oi := _) (v := .int .i64 (i : Int)) 127 rfl rfl (by kernel_rfl) (by kernel_rfl) (by kernel_rfl) (fun _ _ _ h => h) (Or.inl ⟨by rfl, fun w2 hSw => by (go_simp)⟩) hHeld ?_
                try simp only [Act.put, List.setIfInBounds_toArray, List.set_cons_zero, List.set_cons_succ]
                refine takeN (i := 44) (oi := _) (v := .bool false) 128 rfl rfl (by kernel_rfl) (by kernel_rfl) (by kernel_rfl) (fun _ _ _ h => h) (Or.inl ⟨by rfl, fun w2 hSw => by (go_simp)⟩) hHeld ?_
                try simp only [Act.put, List.setIfInBounds_toArray, List.set_cons_zero, List.set_cons_succ]
                refine takeN (i := 45) (oi := _) (v := .bool false) 129 rfl rfl (by kernel_rfl) (by kernel_rfl) (by kernel_rfl) (fun _ _ _ h => h) (Or.inl ⟨by rfl, fun w2 hSw => by (go_simp)⟩) hHeld ?_
                try simp only [Act.put, List.setIfInBounds_toArray, List.set_cons_zero, List.set_cons_succ]
                refine takeN (i := 46) (oi := _) (v := undef) 130 rfl rfl (by kernel_rfl) (by kernel_rfl) (by kernel_rfl) (fun _ _ _ h => h) (Or.inr ⟨by rfl, rfl⟩) hHeld ?_
                try simp only [Act.put, List.setIfInBounds_toArray, List.set_cons_zero, List.set_cons_succ]
                refine takeN (i := 47) (oi := _) (v := undef) 131 rfl rfl (by kernel_rfl) (by kernel_rfl) (by kernel_rfl) (fun _ _ _ h => h) (Or.inr ⟨by rfl, rfl⟩) hHeld ?_
                try simp only [Act.put, List.setIfInBounds_toArray, List.set_cons_zero, List.set_cons_succ]
                refine takeN (i := 48) (oi := _) (v := undef) 132 rfl rfl (by kernel_rfl) (by kernel_rfl) (by kernel_rfl) (fun _ _ _ h => h) (Or.inr ⟨by rfl, rfl⟩) hHeld ?_
                try simp only [Act.put, List.setIfInBounds_toArray, List.set_cons_zero, List.set_cons_succ]
                refine takeN (i := 49) (oi := _) (v := undef) 133 rfl rfl (by kernel_rfl) (by kernel_rfl) (by kernel_rfl) (fun _ _ _ h => h) (Or.inr ⟨by rfl, rfl⟩) hHeld ?_
                try simp only [Act.put, List.setIfInBounds_toArray, List.set_cons_zero, List.set_cons_succ]
                refine takeN (i := 50) (oi := _) (v := undef) 134 rfl rfl (by kernel_rfl) (by kernel_rfl) (by kernel_rfl) (fun _ _ _ h => h) (Or.inr ⟨by rfl, rfl⟩) hHeld ?_
                try simp only [Act.put, List.setIfInBounds_toArray, List.set_cons_zero, List.set_cons_succ]
                refine takeN (i := 51) (oi := _) (v := .bool false) 135 rfl rfl (by kernel_rfl) (by kernel_rfl) (by kernel_rfl) (fun _ _ _ h => h) (Or.inl ⟨by rfl, fun w2 hSw => by (go_simp)⟩) hHeld ?_
                try simp only [Act.put, List.setIfInBounds_toArray, List.set_cons_zero, List.set_cons_succ]
                refine takeN (i := 52) (oi := _) (v := .bool false) 136 rfl rfl (by kernel_rfl) (by kernel_rfl) (by kernel_rfl) (fun _ _ _ h => h) (Or.inl ⟨by rfl, fun w2 hSw => by (go_simp)⟩) hHeld ?_
                try simp only [Act.put, List.setIfInBounds_toArray, List.set_cons_zero, List.set_cons_succ]
                refine takeN (i := 53) (oi := _) (v := undef) 137 rfl rfl (by kernel_rfl) (by kernel_rfl) (by kernel_rfl) (fun _ _ _ h => h) (Or.inr ⟨by rfl, rfl⟩) hHeld ?_
                try simp only [Act.put, List.setIfInBounds_toArray, List.set_cons_zero, List.set_cons_succ]
                refine takeN (i := 54) (oi := _) (v := undef) 138 rfl rfl (by kernel_rfl) (by kernel_rfl) (by kernel_rfl) (fun _ _ _ h => h) (Or.inr ⟨by rfl, rfl⟩) hHeld ?_
                try simp only [Act.put, List.setIfInBounds_toArray, List.set_cons_zero, List.set_cons_succ]
                refine takeN (i := 55) (oi := _) (v := undef) 139 rfl rfl (by kernel_rfl) (by kernel_rfl) (by kernel_rfl) (fun _ _ _ h => h) (Or.inr ⟨by rfl, rfl⟩) hHeld ?_
                try simp only [Act.put, List.setIfInBounds_toArray, List.set_cons_zero, List.set_cons_succ]
                refine takeN (i := 56) (oi := _) (v := undef) 140 rfl rfl (by kernel_rfl) (by kernel_rfl) (by kernel_rfl) (fun _ _ _ h => h) (Or.inr ⟨by rfl, rfl⟩) hHeld ?_
                try simp only [Act.put, List.setIfInBounds_toArray, List.set_cons_zero, List.set_cons_succ]
                refine takeN (i := 57) (oi := _) (v := undef) 141 rfl rfl (by kernel_rfl) (by kernel_rfl) (by kernel_rfl) (fun _ _ _ h => h) (Or.inr ⟨by rfl, rfl⟩) hHeld ?_
                try simp only [Act.put, List.setIfInBounds_toArray, List.set_cons_zero, List.set_cons_succ]
                refine takeN (i := 58) (oi := _) (v := undef) 142 rfl rfl (by kernel_rfl) (by kernel_rfl) (by kernel_rfl) (fun _ _ _ h => h) (Or.inr ⟨by rfl, rfl⟩) hHeld ?_
                try simp only [Act.put, List.setIfInBounds_toArray, List.set_cons_zero, List.set_cons_succ]
                refine takeN (i := 59) (oi := _) (v := .bool false) 143 rfl rfl (by kernel_rfl) (by kernel_rfl) (by kernel_rfl) (fun _ _ _ h => h) (Or.inl ⟨by rfl, fun w2 hSw => by (go_simp)⟩) hHeld ?_
                try simp only [Act.put, List.setIfInBounds_toArray, List.set_cons_zero, List.set_cons_succ]
                refine takeN (i := 60) (oi := _) (v := .bool false) 144 rfl rfl (by kernel_rfl) (by kernel_rfl) (by kernel_rfl) (fun _ _ _ h => h) (Or.inl ⟨by rfl, fun w2 hSw => by (go_simp)⟩) hHeld ?_
                try simp only [Act.put, List.setIfInBounds_toArray, List.set_cons_zero, List.set_cons_succ]
                refine wpAnyH_done (by kernel_rfl) ?_ _
                refine NoPanic.normal ?_
                go_wp2_with fail
                go_meet
                exact ⟨rfl, hHeld⟩
            case rest =>
              obtain ⟨rfl, HB7⟩ := hcut
              obtain ⟨w7, rfl⟩ : ∃ w7, w7 = wc := ⟨_, rfl⟩
              have HB47 : Hid (Below w4.heap.size w4 w7) := HB5W.out _ (HB6W.out _ HB7.out)
              go_wp2_with fail
              go_roundw
              case rel => exact ⟨i + 1, hlt, by go_num, ⟨own_below HMA.out.own HB47.out, HB4W.out _ HB47.out⟩⟩
              case measure => simp [intOf]; omega
      · obtain rfl : i = nB a c := by omega
        have hltI : ¬ (nB a c : Int) < (nB a c : Int) := by omega
        have hown := HR.out.own
        have HBR := Lib.hid HR.out.bel
        rw [HALL.out] at hown
        obtain ⟨AV, cV, rfl⟩ : ∃ A c, u9 = .slice A d.length c := by
          rcases hown.2 with ⟨rfl, h0⟩ | ⟨g, cap, cur, rfl, _⟩
          · exact ⟨none, 0, by rw [h0]⟩
          · exact ⟨_, cap, rfl⟩
        have hcv1 : (convert 32 9 (.slice AV d.length cV)).run Try.prog wr = .ok (.string ⟨d.toArray⟩) wr := str_bytes (Shows.owned hown)
        have hcv2 : (convert 32 9 (.slice A d.length cap)).run Try.prog wr = .ok (.string ⟨d.toArray⟩) wr := str_bytes (HSD1.out.on HBR.out)
        clear hown HR
        go_wp2_with (first
          | (go_at_call 11; (with_reducible refine (HBLK.out _).mono ?_); rintro e w5 ⟨rfl, rfl⟩)
          | fail)
        go_ret
        exact ⟨rfl, HBW.out.trans (HBR.out.mono HBW.out.size)⟩
  · exact means_else w x A cap d HCAP.out HS.out B HBL.out hg
end Go.Proofs.Ytbencgjihoiieaa
