/- The law's 'shows'. -/
import Derived.Test.YtdcfplfeagpcdaaFd
set_option linter.unusedVariables false
namespace Go.Proofs.Ytdcfplfeagpcdaa
open Go.RowKit

theorem pd_open {w : World} {F : Nat → Prop} {b : Nat} {d : RD} (h : PD w F b d) : Calls Try.prog 13 #[.pointer (some ⟨b, 0, none⟩)] w fun e w' => ∃ u, e = .returned u ∧ w'.ownsRow w.heap.size 3 1 u (openL d).length (ints (openL d)) ∧ Below w.heap.size w w' := by
  obtain ⟨L, m, D, X, hp, _⟩ := h; exact popen_any w b m L D X d hp
theorem pd_sectors {w : World} {F : Nat → Prop} {b : Nat} {d : RD} (h : PD w F b d) : Calls Try.prog 15 #[.pointer (some ⟨b, 0, none⟩)] w fun e w' => e = .returned (.int .i64 (d.s.length : Int)) ∧ w' = w := by
  obtain ⟨L, m, D, X, hp, _⟩ := h; exact (sectors_any w b m L D X d hp).mono fun e w' ⟨h1, h2⟩ => ⟨h1, h2.symm⟩
theorem pd_dead {w : World} {F : Nat → Prop} {b : Nat} {d : RD} (h : PD w F b d) : Calls Try.prog 35 #[.pointer (some ⟨b, 0, none⟩)] w fun e w' => e = .returned (.bool d.dead) ∧ w' = w := by
  obtain ⟨L, m, D, X, hp, _⟩ := h; exact (dead_any w b m L D X d hp).mono fun e w' ⟨h1, h2⟩ => ⟨h1, h2.symm⟩

set_option maxRecDepth 10000 in
set_option maxHeartbeats 2000000 in
theorem shows_any (w : World) (F : Nat → Prop) (b : Nat) (d : RD) (h : PD w F b d) (base br : Nat) (v : Value) (hr : RDisk w base br v d) :
    Calls Try.prog 14 #[.pointer (some ⟨b, 0, none⟩), .pointer (some ⟨br, 0, none⟩)] w fun e w' => e = .returned (.bool true) ∧ Below w.heap.size w w' := by
  have hzv := zero_sector
  have HO := Lib.hid (pd_open h)
  have H := Lib.hid h
  have HR := Lib.hid hr
  have hn1 := h.n1
  obtain ⟨AR, cR, rfl⟩ := hr.form
  clear h hr
  go_enter Try.func14, Try.ntmps14
  go_wp2_with fail
  refine HO.out.mono ?_
  rintro e w1 ⟨u1, rfl, hu1, hb1⟩
  have HRO := Lib.hid (ropen_any w1 base br _ d (HR.out.on hb1) (by omega))
  have HU1 := Lib.hid hu1
  have HB1 := Lib.hid hb1
  obtain ⟨A1, c1, rfl⟩ := row_form hu1
  clear hu1 hb1 HO
  go_wp2_with fail
  refine HRO.out.mono ?_
  rintro e w2 ⟨u2, rfl, hu2, hb2⟩
  obtain ⟨A2, c2, rfl⟩ := row_form hu2
  have hB2 := HB1.out.trans (hb2.mono HB1.out.size)
  have hU1 : w2.ownsRow w.heap.size 3 1 (.slice A1 (openL d).length c1) (openL d).length (ints (openL d)) := row_on HU1.out (fun k cur _ hc => (hb2.block k (Array.getElem?_eq_some_iff.1 hc).1).trans hc)
  have HU1' := Lib.hid hU1
  have HU2 := Lib.hid hu2
  have HB2 := Lib.hid hB2
  have HP2 := Lib.hid (H.out.below hB2)
  have HR2 := Lib.hid (HR.out.on hB2)
  clear hu2 hb2 hB2 hU1 HU1 HRO HB1 H HR
  have r0 := HR2.out.c0
  have r2 := HR2.out.c2
  have hne : ((d.s.length : Int) != (d.s.length : Int)) = false := by simp
  have hdd : (d.dead != d.dead) = false := by simp
  have hno : (((openL d).length : Int) != ((openL d).length : Int)) = false := by simp
  have HQ := Lib.hid (fun n => HP2.out.below (below_drewN (Below.refl w2.heap.size w2) n))
  go_wp2_with fail
  go_quiet ((first | (go_at_call 15; exact Calls.quiet_of_same (pd_sectors (HQ.out _))) | (go_at_call 35; exact Calls.quiet_of_same (pd_dead (HQ.out _)))))
  have hb3 := below_drewN (Below.refl w2.heap.size w2) nq
  have HB3 := Lib.hid (HB2.out.trans (hb3.mono HB2.out.size))
  have HP3 := Lib.hid (HP2.out.below hb3)
  have HR3 := Lib.hid (HR2.out.on hb3)
  have HU13 : Hid ((w2.drewN nq).ownsRow w.heap.size 3 1 (.slice A1 (openL d).length c1) (openL d).length (ints (openL d))) := HU1'.out
  have HU23 : Hid ((w2.drewN nq).ownsRow w1.heap.size 3 1 (.slice A2 (openL d).length c2) (openL d).length (ints (openL d))) := HU2.out
  clear hb3 HP2 HR2 HU1' HU2 HQ r0 r2 hdd hno hne HB2
  generalize w2.drewN nq = w3 at *
  have HOL := Lib.hid (openN_le d d.s.length)
  go_wp2
  go_loopw [7] (fun j wr => ∃ i : Nat, i ≤ (openL d).length ∧ j = .int .i64 (i : Int) ∧ Hid (Below w3.heap.size w3 wr)) (fun j _ => (openL d).length - (intOf j).toNat)
  case atStart => exact ⟨0, Nat.zero_le _, rfl, Below.refl _ _⟩
  case round =>
    obtain ⟨i, hi, rfl, HB⟩ := hrel
    by_cases hlt : i < (openL d).length
    · rcases HU13.out.2 with ⟨_, hz⟩ | ⟨g1, cc1, cur1, hv1, _, hg1, _⟩
      · omega
      rcases HU23.out.2 with ⟨_, hz⟩ | ⟨g2, cc2, cur2, hv2, _, hg2, _⟩
      · omega
      injection hv1 with e1 e2 e3
      injection hv2 with e4 e5 e6
      subst e1
      subst e4
      subst e3
      subst e6
      have q1 := own_int (row_on HU13.out (fun k cur _ hc => (HB.out.block k (Array.getElem?_eq_some_iff.1 hc).1).trans hc)) i hlt
      have q2 := own_int (row_on HU23.out (fun k cur _ hc => (HB.out.block k (Array.getElem?_eq_some_iff.1 hc).1).trans hc)) i hlt
      have hii : (((openL d)[i] : Nat) : Int) = (((openL d)[i] : Nat) : Int) := rfl
      generalize (((openL d)[i]'hlt : Nat) : Int) = kk at *
      have hkk : (kk != kk) = false := by simp
      have hiI : (i : Int) < ((openL d).length : Int) := by omega
      have hoB : (openL d).length ≤ 9223372036854775807 := by have := HOL.out; show (openN d d.s.length).length ≤ _; omega
      clear hii hg1 hg2
      go_wp2_with fail
      go_quiet (fail)
      have hbn := HB.out.trans ((below_drewN (Below.refl wr.heap.size wr) nq).mono HB.out.size)
      have HBN := Lib.hid hbn
      clear hbn q1 q2 hkk
      go_wp2
      go_roundw
      case rel => exact ⟨i + 1, hlt, by go_num, HBN⟩
      case measure => simp [intOf]; omega
    · obtain rfl : i = (openL d).length := by omega
      have HBW := Lib.hid (HB3.out.trans (HB.out.mono HB3.out.size))
      have HPW := Lib.hid (HP3.out.below HB.out)
      have HRW := Lib.hid (HR3.out.on HB.out)
      have r0 := HRW.out.c0
      clear HB HB3 HP3 HR3 HU13 HU23
      generalize wr = w4 at *
      go_wp2
      go_loopw [8] (fun j wr => ∃ i : Nat, i ≤ d.s.length ∧ j = .int .i64 (i : Int) ∧ Hid (Below w4.heap.size w4 wr)) (fun j _ => d.s.length - (intOf j).toNat)
      case atStart => exact ⟨0, Nat.zero_le _, rfl, Below.refl _ _⟩
      case round =>
        obtain ⟨i, hi, rfl, HB⟩ := hrel
        clear r0
        have HP := Lib.hid (HPW.out.below HB.out)
        have HR := Lib.hid (HRW.out.on HB.out)
        have r0 := HR.out.c0
        by_cases hlt : i < d.s.length
        · have hth : thereN d (i : Int) := ⟨by omega, by omega⟩
          have hrd := pd_read wr F b d HP.out (i : Int)
          have e1 : rdR d (i : Int) = 0 := by unfold rdR; rw [if_pos hth]
          have e2 : rdC d (i : Int) = d.s[i].getLastD 0 := by
            unfold rdC
            rw [if_pos hth]
            show (d.s.getD i []).getLastD 0 = _
            rw [getD_get _ i hlt]
          rw [e1, e2] at hrd
          have HRD := Lib.hid hrd
          have HNOW := Lib.hid (fun W hW => now_any W base br _ d (HR.out.on hW) i hlt)
          clear hrd e1 e2 hth
          generalize d.s[i].getLastD 0 = c at *
          have hiI : (i : Int) < (d.s.length : Int) := by omega
          go_wp2_with (first
            | (go_at_call 16; (with_reducible refine HRD.out.mono ?_); rintro e w5 ⟨rfl, hb5⟩)
            | refine wpList_store_row rfl 38 (.tmp 9) (.tmp 69) rfl w5.heap.size (sec c).toArray rfl rfl 38 (cells8 (fullN 0 0)).toArray (heap_alloc_new w5 _) (by rw [sector_sz c]; simp) (by rw [size8, fullN_len 0 0 (by omega), List.size_toArray, sec_len]) (all_oneCell_toArray (sec_one _)) ?_
            | fail)
          rw [World.setRow_alloc_new]
          have hb6 := hb5.alloc hb5.size (.cells (sec c).toArray 38)
          have hnew := heap_alloc_new w5 (.cells (sec c).toArray 38)
          have hqlt : w5.heap.size < (w5.alloc (.cells (sec c).toArray 38)).heap.size := by simp
          have HB6 := Lib.hid hb6
          have HNEW := Lib.hid hnew
          clear hb6 hnew hb5 HRD
          generalize w5.alloc (.cells (sec c).toArray 38) = w6 at *
          generalize w5.heap.size = q at *
          have hkeep : ∀ W, Below w6.heap.size w6 W → W.rangeAt q 0 (sec c) := fun W hW j u hu => by
            rw [cell_of_row _ _ _ _ _ _ ((hW.block q hqlt).trans HNEW.out), Nat.zero_add, List.getElem?_toArray]
            exact hu
          have hbd : Below w6.heap.size w6 w6.drew := (Below.refl _ _).drew
          have HS0 := Lib.hid (hkeep _ hbd)
          have hnw : Calls Try.prog 26 #[.pointer (some ⟨br, 0, none⟩), .int .i64 (i : Int)] w6.drew fun e w' => e = .returned (.int .u8 (c.toNat : Int)) ∧ w'.rangeAt q 0 (sec c) ∧ Hid (Below w6.heap.size w6 w') :=
            (HNOW.out w6.drew (HB6.out.trans (hbd.mono HB6.out.size))).mono fun e w' ⟨he, k, hk⟩ => by
              have hb := hbd.trans (below_drewN (Below.refl w6.drew.heap.size w6.drew) k)
              rw [← hk] at hb
              exact ⟨he, hkeep _ hb, hb⟩
          have hfu : ∀ W, Below w6.heap.size w6 W → Calls Try.prog 24 #[.int .u8 (c.toNat : Int)] W fun e w' => e = .returned (.agg (sec c).toArray) ∧ w'.rangeAt q 0 (sec c) ∧ Hid (Below w6.heap.size w6 w') := fun W hW =>
            (full_sec c W).mono fun e w' ⟨he, hb⟩ => ⟨he, hkeep _ (hW.trans (hb.mono hW.size)), hW.trans (hb.mono hW.size)⟩
          have HNW := Lib.hid hnw
          have HFU := Lib.hid hfu
          clear hkeep hbd hfu hnw HNOW
          have hu := sector_u
          have z1 := sector_sz c
          have n1 : ∀ w : World, (binOp .neq 38 (.agg (sec c).toArray) (.agg (sec c).toArray)).run Try.prog w = .ok (.bool false) w := fun w => by rw [neq_sec]; simp
          go_wp2_with fail
          go_region_held_law (fun w' => w'.rangeAt q 0 (sec c))
            (first | with_reducible exact HS0.out | with_reducible exact hSb | with_reducible exact hSa)
            (first
              | (go_at_call 26; (with_reducible refine HNW.out.mono ?_); rintro e wa ⟨rfl, hSa, hba⟩)
              | (go_at_call 24; (with_reducible refine (HFU.out _ hba.out).mono ?_); rintro e wb ⟨rfl, hSb, hbb⟩)
              | (go_at_call 19; (with_reducible refine (num_any _ _).mono ?_); rintro e wc ⟨rfl, rfl⟩))
          have HBN := Lib.hid (HB.out.trans ((HB6.out.trans (hbb.out.mono HB6.out.size)).mono HB.out.size))
          clear hSa hSb hba hbb
          go_wp2
          go_roundw
          case rel => exact ⟨i + 1, hlt, by go_num, HBN⟩
          case measure => simp [intOf]; omega
        · obtain rfl : i = d.s.length := by omega
          have hth : ¬ thereN d (d.s.length : Int) := fun h => by have := h.2; omega
          have hrd := pd_read wr F b d HP.out (d.s.length : Int)
          have e1 : rdR d (d.s.length : Int) = 2 := by unfold rdR; rw [if_neg hth]
          rw [e1] at hrd
          have HRD := Lib.hid hrd
          clear hrd e1 hth
          generalize rdC d (d.s.length : Int) = c at *
          go_wp2_with (first
            | (go_at_call 16; (with_reducible refine HRD.out.mono ?_); rintro e w5 ⟨rfl, hb5⟩)
            | refine wpList_store_row rfl 38 (.tmp 11) (.tmp 90) rfl w5.heap.size (sec c).toArray rfl rfl 38 (cells8 (fullN 0 0)).toArray (heap_alloc_new w5 _) (by rw [sector_sz c]; simp) (by rw [size8, fullN_len 0 0 (by omega), List.size_toArray, sec_len]) (all_oneCell_toArray (sec_one _)) ?_
            | (go_at_call 19; (with_reducible refine (num_any _ _).mono ?_); rintro e wc ⟨rfl, rfl⟩))
          go_ret
          have h1 := HBW.out.trans (HB.out.mono HBW.out.size)
          have h2 := h1.trans (hb5.mono h1.size)
          exact ⟨rfl, below_setRow (h2.alloc h2.size _) h2.size _⟩
end Go.Proofs.Ytdcfplfeagpcdaa
