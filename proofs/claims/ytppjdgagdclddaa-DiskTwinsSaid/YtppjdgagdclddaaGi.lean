/- DiskTwins, walked. -/
import Derived.Test.YtppjdgagdclddaaGh
set_option linter.unusedVariables false
namespace Go.Proofs.Ytppjdgagdclddaa
open Go.RowKit

theorem runD_fine2 {d : RD} {k : Nat} (h : Fine d k) (hk : 1 ≤ k) (l : List ST) (hl : ∀ s ∈ l, s.ok) : ∀ i, i ≤ l.length → Fine (runD d (l.take i)) (k + i)
  | 0, _ => by rw [List.take_zero]; exact h
  | i + 1, hi => by
    rw [runD_take _ _ i hi]
    exact (runD_fine2 h hk l hl i (by omega)).step (by omega) _ (hl _ (List.getElem_mem hi)).2

set_option maxRecDepth 10000 in
set_option maxHeartbeats 8000000 in
theorem twins_law (w : World) (n : Int) (A : Option Addr) (cap : Nat) (l : List ST) (A2 : Option Addr) (cap2 : Nat) (l2 : List ST) (hv : SRow w w.heap.size A l) (hl : ∀ s ∈ l, s.ok) (hlen : l.length ≤ 9223372036854775807) (hv2 : SRow w w.heap.size A2 l2) (hl2 : ∀ s ∈ l2, s.ok) (hlen2 : l2.length ≤ 9223372036854775807) :
    Calls Try.prog 5 #[.int .i64 n, .slice A l.length cap, .slice A2 l2.length cap2] w fun e w' => e = .returned (.bool true) ∧ Below w.heap.size w w' := by
  have hK := Lib.hid (known_b w w (Below.refl _ _))
  have hM : Hid (Calls Try.prog 6 #[.slice A l.length cap, .int .i64 30] w fun e w' => e = .returned (.bool (muchS l 30)) ∧ w = w') := much_any A cap l 30 w w.heap.size hv hlen
  have hM2 : Hid (Calls Try.prog 6 #[.slice A2 l2.length cap2, .int .i64 30] w fun e w' => e = .returned (.bool (muchS l2 30)) ∧ w = w') := much_any A2 cap2 l2 30 w w.heap.size hv2 hlen2
  by_cases h1 : n < 1
  · clear hv hl hv2 hl2
    go_enter Try.func5, Try.ntmps5
    go_wp2_with (first
      | (go_at_call 6; first | ((with_reducible refine hM.out.mono ?_); rintro e wc ⟨rfl, rfl⟩) | ((with_reducible refine hM2.out.mono ?_); rintro e wc ⟨rfl, rfl⟩))
      | (go_at_call 7; (with_reducible refine hK.out.mono ?_); rintro e wc ⟨rfl, hb⟩))
    go_ret
    exact ⟨rfl, hb⟩
  by_cases h2 : 12 < n
  · clear hv hl hv2 hl2
    go_enter Try.func5, Try.ntmps5
    go_wp2_with (first
      | (go_at_call 6; first | ((with_reducible refine hM.out.mono ?_); rintro e wc ⟨rfl, rfl⟩) | ((with_reducible refine hM2.out.mono ?_); rintro e wc ⟨rfl, rfl⟩))
      | (go_at_call 7; (with_reducible refine hK.out.mono ?_); rintro e wc ⟨rfl, hb⟩))
    go_ret
    exact ⟨rfl, hb⟩
  by_cases hm : muchS l 30 = true
  · rw [hm] at hM
    clear hv hl hv2 hl2 hm
    go_enter Try.func5, Try.ntmps5
    go_wp2_with (first
      | (go_at_call 6; first | ((with_reducible refine hM.out.mono ?_); rintro e wc ⟨rfl, rfl⟩) | ((with_reducible refine hM2.out.mono ?_); rintro e wc ⟨rfl, rfl⟩))
      | (go_at_call 7; (with_reducible refine hK.out.mono ?_); rintro e wc ⟨rfl, hb⟩))
    go_ret
    exact ⟨rfl, hb⟩
  obtain ⟨hl30, hbad⟩ := muchS_no (by simpa using hm)
  have hm : muchS l 30 = false := by simpa using hm
  rw [hm] at hM
  by_cases hm2 : muchS l2 30 = true
  · rw [hm2] at hM2
    clear hv hl hv2 hl2 hm hm2 hbad
    go_enter Try.func5, Try.ntmps5
    go_wp2_with (first
      | (go_at_call 6; first | ((with_reducible refine hM.out.mono ?_); rintro e wc ⟨rfl, rfl⟩) | ((with_reducible refine hM2.out.mono ?_); rintro e wc ⟨rfl, rfl⟩))
      | (go_at_call 7; (with_reducible refine hK.out.mono ?_); rintro e wc ⟨rfl, hb⟩))
    go_ret
    exact ⟨rfl, hb⟩
  obtain ⟨hl230, hbad2⟩ := muchS_no (by simpa using hm2)
  have hm2 : muchS l2 30 = false := by simpa using hm2
  rw [hm2] at hM2
  obtain ⟨m, rfl⟩ := Int.eq_ofNat_of_zero_le (show 0 ≤ n by omega)
  have hm12 : 1 ≤ m ∧ m ≤ 8192 := by omega
  have HP := Lib.hid (pair_any w m A cap l hm12 hv hl (by omega) hbad)
  have HP2 := Lib.hid (fun (w1 : World) (hb : Below w.heap.size w w1) => pair_any w1 m A cap l hm12 (hv.on hb) hl (by omega) hbad)
  have HF : Hid (Fine (runD (newD m) l) (l.length + 1)) := by
    have := runD_fine m hm12 l hl l.length (Nat.le_refl _)
    rw [List.take_length] at this
    exact this
  have HV := Lib.hid hv2
  have HL := Lib.hid hl2
  have HBD := Lib.hid hbad2
  clear hm hm2 hv hl hbad hv2 hl2 hbad2
  generalize runD (newD m) l = d at *
  go_enter Try.func5, Try.ntmps5
  go_wp2_with (first
    | (go_at_call 6; first | ((with_reducible refine hM.out.mono ?_); rintro e wc ⟨rfl, rfl⟩) | ((with_reducible refine hM2.out.mono ?_); rintro e wc ⟨rfl, rfl⟩))
    | (go_at_call 8; first | ((with_reducible refine HP.out.mono ?_); rintro e w1 ⟨b, br, rfl, h5⟩) | ((with_reducible refine (HP2.out _ h5.b).mono ?_); rintro e w2 ⟨bo, bv, rfl, h6⟩; obtain ⟨F1, hp1⟩ := (h5.below h6.b).pd))
    | (go_at_call 10; (with_reducible refine (TT.new h6 hp1).mono ?_); rintro e w3 ⟨bt, rfl, h7⟩)
    | fail)
  have HB1 := Lib.hid h5
  have HT := Lib.hid h7
  clear h6 hp1 HP HP2 hM hM2 hK h5 h7
  have HFI := Lib.hid (runD_fine2 HF.out (by omega) l2 HL.out)
  go_wp2
  go_loopw [12] (fun j wr => ∃ i : Nat, i ≤ l2.length ∧ j = .int .i64 (i : Int) ∧ Hid (TT w1 w2 wr bo bv bt d (runD d (l2.take i)) (runD d (l2.take i)))) (fun j _ => l2.length - (intOf j).toNat)
  case atStart => exact ⟨0, Nat.zero_le _, rfl, HT.out⟩
  case round =>
    obtain ⟨i, hi, rfl, HB⟩ := hrel
    by_cases hlt : i < l2.length
    · obtain ⟨p, rfl, AP, cP, hsp, HAT⟩ := HV.out.at2 i hlt
      have hok := HL.out _ (List.getElem_mem hlt)
      have hbd := HBD.out _ (List.getElem_mem hlt)
      have hpc : l2[i].picks.length ≤ 1000000 := by
        simp only [badS, Bool.or_eq_false_iff, decide_eq_false_iff_not] at hbd
        omega
      have hfi := HFI.out i hi
      have hst := runD_take d l2 i hlt
      have HST := Lib.hid hst
      have HOK := Lib.hid hok
      have HSP := Lib.hid ((hsp.below HB1.out.b).wide HB1.out.b.size)
      have HPC := Lib.hid hpc
      have HFX := Lib.hid hfi
      have hiI : (i : Int) < (l2.length : Int) := by omega
      clear hst hok hsp hpc hfi hbd
      generalize l2[i] = x at *
      generalize runD d (l2.take i) = dk at *
      have hbd0 : Below wr.heap.size wr wr.drew := (Below.refl _ _).drew
      have hT0 := HB.out.below hbd0
      have hkeep : ∀ W dt dv, TT w1 w2 W bo bv bt d dt dv → SCells W (p.add (i * 4)) x AP cP := fun W dt dv h => HAT.out W (HB1.out.b.trans (h.b.mono HB1.out.b.size))
      have HS0 := Lib.hid (hkeep _ _ _ hT0)
      have hdo1 : Calls Try.prog 21 #[.pointer (some ⟨bt, 0, none⟩), .agg #[.int .i64 x.kind, .int .i64 x.n, .int .u8 (x.fill.toNat : Int), .slice AP x.picks.length cP]] wr.drew fun e w' => e = .returned (.int .i64 (stR dk x)) ∧ SCells w' (p.add (i * 4)) x AP cP ∧ Hid (TT w1 w2 w' bo bv bt d (stD dk x) dk) := (hT0.do1 x AP cP HOK.out HFX.out (by omega) HSP.out HPC.out).mono fun e w' hp => ⟨hp.1, hkeep _ _ _ hp.2, hp.2⟩
      have HDO1 := Lib.hid hdo1
      have hdo2 : ∀ W, TT w1 w2 W bo bv bt d (stD dk x) dk → Calls Try.prog 25 #[.pointer (some ⟨bv, 0, none⟩), .agg #[.int .i64 x.kind, .int .i64 x.n, .int .u8 (x.fill.toNat : Int), .slice AP x.picks.length cP]] W fun e w' => e = .returned (.int .i64 (stR dk x)) ∧ SCells w' (p.add (i * 4)) x AP cP ∧ Hid (TT w1 w2 w' bo bv bt d (stD dk x) (stD dk x)) := fun W h => (h.do2 x AP cP HFX.out (by omega) HSP.out HPC.out).mono fun e w' hp => ⟨hp.1, hkeep _ _ _ hp.2, hp.2⟩
      have HDO2 := Lib.hid hdo2
      clear hdo1 hdo2 hkeep hbd0 hT0 HAT
      have hrr : (stR dk x != stR dk x) = false := by simp
      go_wp2_with fail
      go_region_held_law (fun w' => w'.cell? (p.add (i * 4)) = some (.int .i64 x.kind) ∧ w'.cell? ⟨(p.add (i * 4)).block, (p.add (i * 4)).off + 1, none⟩ = some (.int .i64 x.n) ∧ w'.cell? ⟨(p.add (i * 4)).block, (p.add (i * 4)).off + 2, none⟩ = some (.int .u8 (x.fill.toNat : Int)) ∧ w'.cell? ⟨(p.add (i * 4)).block, (p.add (i * 4)).off + 3, none⟩ = some (.slice AP x.picks.length cP))
        (first | with_reducible exact HS0.out | with_reducible exact hSb | with_reducible exact hSa)
        (first
          | (go_at_call 21; (with_reducible refine HDO1.out.mono ?_); rintro e wa ⟨rfl, hSa, hba⟩)
          | (go_at_call 25; (with_reducible refine (HDO2.out _ hba.out).mono ?_); rintro e wb ⟨rfl, hSb, hbb⟩))
      have HN : Hid (TT w1 w2 wb bo bv bt d (runD d (l2.take (i + 1))) (runD d (l2.take (i + 1)))) := by rw [HST.out]; exact hbb.out
      clear hSa hSb hba hbb HDO1 HDO2 HS0 HB HST HSP HOK HPC HFX hrr
      generalize hdn : runD d (l2.take (i + 1)) = dn at *
      have HDN := Lib.hid hdn
      clear hdn
      have hBW := HB1.out.below HN.out.b
      obtain ⟨AS, cS, r0⟩ := hBW.rc0
      obtain ⟨AV, cV, r1⟩ := HN.out.rc0
      clear hBW
      have hle : ((d.s.length : Int) == (dn.s.length : Int)) = sameTo d dn 0 := by
        rw [sameTo_zero]
        by_cases h : d.s.length = dn.s.length
        · simp [h]
        · rw [decide_eq_false h]
          simpa using (show ¬ (d.s.length : Int) = (dn.s.length : Int) by omega)
      go_wp2_with fail
      go_quiet (fail)
      have HN2 := Lib.hid (HN.out.below (below_drewN (Below.refl wb.heap.size wb) nq))
      clear r0 r1 HN hle
      have hsm : ∀ W, TT w1 w2 W bo bv bt d dn dn → Calls Try.prog 12 #[.pointer (some ⟨bt, 0, none⟩), .pointer (some ⟨b, 0, none⟩)] W fun e w' => e = .returned (.bool (sameB d dn)) ∧ Hid (TT w1 w2 w' bo bv bt d dn dn) := fun W h => by
        obtain ⟨G, hG⟩ := (HB1.out.below h.b).pd
        exact (h.sameT hG).mono fun e w' hp => ⟨by rw [sameB_comm d dn]; exact hp.1, h.below hp.2⟩
      have hsm2 : ∀ W, TT w1 w2 W bo bv bt d dn dn → Calls Try.prog 12 #[.pointer (some ⟨b, 0, none⟩), .pointer (some ⟨bt, 0, none⟩)] W fun e w' => e = .returned (.bool (sameB d dn)) ∧ Hid (TT w1 w2 w' bo bv bt d dn dn) := fun W h => by
        obtain ⟨G, hG⟩ := (HB1.out.below h.b).pd
        exact (h.tsame hG).mono fun e w' hp => ⟨hp.1, h.below hp.2⟩
      have hso : ∀ W, TT w1 w2 W bo bv bt d dn dn → Calls Try.prog 12 #[.pointer (some ⟨b, 0, none⟩), .pointer (some ⟨bo, 0, none⟩)] W fun e w' => e = .returned (.bool true) ∧ Hid (TT w1 w2 w' bo bv bt d dn dn) := fun W h => by
        obtain ⟨G, hG⟩ := (HB1.out.below h.b).pd
        exact (h.osame hG).mono fun e w' hp => ⟨by rw [← sameB_self d]; exact hp.1, h.below hp.2⟩
      have HSM := Lib.hid hsm
      have HSM2 := Lib.hid hsm2
      have HSO := Lib.hid hso
      clear hsm hsm2 hso
      generalize wb.drewN nq = w5 at *
      go_wp2
      go_loopw [13, 14] (fun s j wq => ∃ k : Nat, k ≤ d.s.length ∧ j = .int .i64 (k : Int) ∧ s = .bool (sameTo d dn k) ∧ Hid (TT w1 w2 wq bo bv bt d dn dn)) (fun _ j _ => d.s.length - (intOf j).toNat)
      case atStart => exact ⟨0, Nat.zero_le _, rfl, rfl, HN2.out⟩
      case round =>
        obtain ⟨k, hk, rfl, rfl, HQ⟩ := hrel
        have hBW := HB1.out.below HQ.out.b
        obtain ⟨AS, cS, r0⟩ := hBW.rc0
        clear hBW
        have hd8 : d.s.length ≤ 8192 := HF.out.n1
        by_cases hkl : k < d.s.length
        · have hkI : (k : Int) < (d.s.length : Int) := by omega
          cases hs : sameTo d dn k with
          | true =>
            have hk2 : k < dn.s.length := by
              have hln : d.s.length = dn.s.length := by
                have hs2 := hs
                unfold sameTo at hs2
                exact (of_decide_eq_true hs2).1
              omega
            have hsucc := sameTo_succ hs
            have hat : sameAt d dn k ↔ d.s[k].headD 0 = dn.s[k].headD 0 ∧ d.s[k].getLastD 0 = dn.s[k].getLastD 0 := by
              unfold sameAt
              rw [getD_get _ k hkl, getD_get _ k hk2]
            have hn1 : ∀ W, TT w1 w2 W bo bv bt d dn dn → Calls Try.prog 26 #[.pointer (some ⟨br, 0, none⟩), .int .i64 (k : Int)] W fun e w' => e = .returned (.int .u8 (((d.s[k]).getLastD 0).toNat : Int)) ∧ True ∧ Hid (TT w1 w2 w' bo bv bt d dn dn) := fun W h => ((HB1.out.below h.b).now k hkl).mono fun e w' hp => ⟨hp.1, trivial, by obtain ⟨n, e2⟩ := hp.2; rw [e2]; exact h.below (below_drewN (Below.refl W.heap.size W) n)⟩
            have hn2 : ∀ W, TT w1 w2 W bo bv bt d dn dn → Calls Try.prog 26 #[.pointer (some ⟨bv, 0, none⟩), .int .i64 (k : Int)] W fun e w' => e = .returned (.int .u8 (((dn.s[k]).getLastD 0).toNat : Int)) ∧ True ∧ Hid (TT w1 w2 w' bo bv bt d dn dn) := fun W h => (h.now k hk2).mono fun e w' hp => ⟨hp.1, trivial, by obtain ⟨n, e2⟩ := hp.2; rw [e2]; exact h.below (below_drewN (Below.refl W.heap.size W) n)⟩
            have hl1 : ∀ W, TT w1 w2 W bo bv bt d dn dn → Calls Try.prog 27 #[.pointer (some ⟨br, 0, none⟩), .int .i64 (k : Int)] W fun e w' => e = .returned (.int .u8 (((d.s[k]).headD 0).toNat : Int)) ∧ True ∧ Hid (TT w1 w2 w' bo bv bt d dn dn) := fun W h => ((HB1.out.below h.b).lasts k hkl).mono fun e w' hp => ⟨hp.1, trivial, by rw [hp.2]; exact h⟩
            have hl2 : ∀ W, TT w1 w2 W bo bv bt d dn dn → Calls Try.prog 27 #[.pointer (some ⟨bv, 0, none⟩), .int .i64 (k : Int)] W fun e w' => e = .returned (.int .u8 (((dn.s[k]).headD 0).toNat : Int)) ∧ True ∧ Hid (TT w1 w2 w' bo bv bt d dn dn) := fun W h => (h.lasts k hk2).mono fun e w' hp => ⟨hp.1, trivial, by rw [hp.2]; exact h⟩
            have HN1 := Lib.hid hn1
            have HN2' := Lib.hid hn2
            have HL1 := Lib.hid hl1
            have HL2 := Lib.hid hl2
            have HSU := Lib.hid hsucc
            have HAT := Lib.hid hat
            have HT0 := Lib.hid HQ.out
            clear hn1 hn2 hl1 hl2 hsucc hat
            generalize d.s[k].getLastD 0 = a1 at *
            generalize dn.s[k].getLastD 0 = a2 at *
            generalize d.s[k].headD 0 = c1 at *
            generalize dn.s[k].headD 0 = c2 at *
            by_cases ea : a1 = a2
            · by_cases ec : c1 = c2
              · have hA : ((a1.toNat : Int) == (a2.toNat : Int)) = true := by simp [ea]
                have hC : ((c1.toNat : Int) == (c2.toNat : Int)) = true := by simp [ec]
                have HV1 : Hid (sameTo d dn (k + 1) = true) := HSU.out.trans (decide_eq_true (HAT.out.2 ⟨ec, ea⟩))
                clear HSU HAT ea ec
                go_wp2_with (first
                    | (go_at_call 26; first | ((with_reducible refine (HN1.out _ HT0.out).mono ?_); rintro e wa ⟨rfl, hSa, hba⟩) | ((with_reducible refine (HN2'.out _ hba.out).mono ?_); rintro e wb ⟨rfl, hSb, hbb⟩))
                    | (go_at_call 27; first | ((with_reducible refine (HL1.out _ hbb.out).mono ?_); rintro e wc ⟨rfl, hSc, hbc⟩) | ((with_reducible refine (HL2.out _ hbc.out).mono ?_); rintro e we ⟨rfl, hSd, hbd⟩))
                    | fail)
                go_wp2
                go_roundw
                case rel => exact ⟨k + 1, hkl, by go_num, by rw [HV1.out], by first | exact hbd | exact hbb⟩
                case measure => simp [intOf]; omega
              · have hA : ((a1.toNat : Int) == (a2.toNat : Int)) = true := by simp [ea]
                have hC : ((c1.toNat : Int) == (c2.toNat : Int)) = false := by
                  have : c1.toNat ≠ c2.toNat := fun h => ec (UInt8.toNat_inj.1 h)
                  simpa using (show ¬ (c1.toNat : Int) = (c2.toNat : Int) by omega)
                have HV1 : Hid (sameTo d dn (k + 1) = false) := HSU.out.trans (decide_eq_false (fun h => ec (HAT.out.1 h).1))
                clear HSU HAT ea ec
                go_wp2_with (first
                    | (go_at_call 26; first | ((with_reducible refine (HN1.out _ HT0.out).mono ?_); rintro e wa ⟨rfl, hSa, hba⟩) | ((with_reducible refine (HN2'.out _ hba.out).mono ?_); rintro e wb ⟨rfl, hSb, hbb⟩))
                    | (go_at_call 27; first | ((with_reducible refine (HL1.out _ hbb.out).mono ?_); rintro e wc ⟨rfl, hSc, hbc⟩) | ((with_reducible refine (HL2.out _ hbc.out).mono ?_); rintro e we ⟨rfl, hSd, hbd⟩))
                    | fail)
                go_wp2
                go_roundw
                case rel => exact ⟨k + 1, hkl, by go_num, by rw [HV1.out], by first | exact hbd | exact hbb⟩
                case measure => simp [intOf]; omega
            · have hA : ((a1.toNat : Int) == (a2.toNat : Int)) = false := by
                have : a1.toNat ≠ a2.toNat := fun h => ea (UInt8.toNat_inj.1 h)
                simpa using (show ¬ (a1.toNat : Int) = (a2.toNat : Int) by omega)
              have HV1 : Hid (sameTo d dn (k + 1) = false) := HSU.out.trans (decide_eq_false (fun h => ea (HAT.out.1 h).2))
              clear HSU HAT ea
              go_wp2_with (first
                  | (go_at_call 26; first | ((with_reducible refine (HN1.out _ HT0.out).mono ?_); rintro e wa ⟨rfl, hSa, hba⟩) | ((with_reducible refine (HN2'.out _ hba.out).mono ?_); rintro e wb ⟨rfl, hSb, hbb⟩))
                  | (go_at_call 27; first | ((with_reducible refine (HL1.out _ hbb.out).mono ?_); rintro e wc ⟨rfl, hSc, hbc⟩) | ((with_reducible refine (HL2.out _ hbc.out).mono ?_); rintro e we ⟨rfl, hSd, hbd⟩))
                  | fail)
              go_wp2
              go_roundw
              case rel => exact ⟨k + 1, hkl, by go_num, by rw [HV1.out], by first | exact hbd | exact hbb⟩
              case measure => simp [intOf]; omega
          | false =>
            rw [sameTo_no hs hk] at HSM HSM2
            go_wp2_with (go_at_call 12; first | ((with_reducible refine (HSM.out _ HQ.out).mono ?_); rintro e wa ⟨rfl, hba⟩) | ((with_reducible refine (HSM2.out _ hba.out).mono ?_); rintro e wb ⟨rfl, hbb⟩) | ((with_reducible refine (HSO.out _ hbb.out).mono ?_); rintro e wc ⟨rfl, hbc⟩))
            have HEND : Hid (TT w1 w2 wc bo bv bt d (runD d (l2.take (i + 1))) (runD d (l2.take (i + 1)))) := by rw [HDN.out]; exact hbc.out
            clear hba hbb hbc HQ HSM HSM2 HSO
            go_wp2
            go_roundw
            case rel => exact ⟨i + 1, hlt, by go_num, HEND⟩
            case measure => simp [intOf]; omega
        · obtain rfl : k = d.s.length := by omega
          have hkI : ¬ (d.s.length : Int) < (d.s.length : Int) := by omega
          have hsa : sameTo d dn d.s.length = sameB d dn := sameTo_all d dn
          cases hs : sameB d dn with
          | true =>
            rw [hs] at HSM HSM2 hsa
            go_wp2_with (go_at_call 12; first | ((with_reducible refine (HSM.out _ HQ.out).mono ?_); rintro e wa ⟨rfl, hba⟩) | ((with_reducible refine (HSM2.out _ hba.out).mono ?_); rintro e wb ⟨rfl, hbb⟩) | ((with_reducible refine (HSO.out _ hbb.out).mono ?_); rintro e wc ⟨rfl, hbc⟩))
            have HEND : Hid (TT w1 w2 wc bo bv bt d (runD d (l2.take (i + 1))) (runD d (l2.take (i + 1)))) := by rw [HDN.out]; exact hbc.out
            clear hba hbb hbc HQ HSM HSM2 HSO
            go_wp2
            go_roundw
            case rel => exact ⟨i + 1, hlt, by go_num, HEND⟩
            case measure => simp [intOf]; omega
          | false =>
            rw [hs] at HSM HSM2 hsa
            go_wp2_with (go_at_call 12; first | ((with_reducible refine (HSM.out _ HQ.out).mono ?_); rintro e wa ⟨rfl, hba⟩) | ((with_reducible refine (HSM2.out _ hba.out).mono ?_); rintro e wb ⟨rfl, hbb⟩) | ((with_reducible refine (HSO.out _ hbb.out).mono ?_); rintro e wc ⟨rfl, hbc⟩))
            have HEND : Hid (TT w1 w2 wc bo bv bt d (runD d (l2.take (i + 1))) (runD d (l2.take (i + 1)))) := by rw [HDN.out]; exact hbc.out
            clear hba hbb hbc HQ HSM HSM2 HSO
            go_wp2
            go_roundw
            case rel => exact ⟨i + 1, hlt, by go_num, HEND⟩
            case measure => simp [intOf]; omega
    · obtain rfl : i = l2.length := by omega
      have hiI : ¬ (l2.length : Int) < (l2.length : Int) := by omega
      have hBW := HB1.out.below HB.out.b
      go_wp2_with (first
        | (go_at_call 14; (with_reducible refine hBW.shows.mono ?_); rintro e w4 ⟨rfl, h8⟩)
        | (go_at_call 7; (with_reducible refine (known_b _ _ h8.b).mono ?_); rintro e wc ⟨rfl, hb⟩))
      go_ret
      exact ⟨rfl, hb⟩
end Go.Proofs.Ytppjdgagdclddaa
