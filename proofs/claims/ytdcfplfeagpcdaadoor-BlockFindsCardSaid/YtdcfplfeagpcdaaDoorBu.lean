/- BlockFinds, walked. -/
import Derived.Test.YtdcfplfeagpcdaaDoorBt
import Derived.Deep.DeepCutAuto
import Derived.Deep.CutBlock
set_option linter.unusedVariables false
namespace Go.Proofs.YtdcfplfeagpcdaaDoor
open Go.RowKit

theorem no_new (b : Bool) : (b != b) = false := by cases b <;> rfl

set_option maxRecDepth 10000 in
set_option maxHeartbeats 4000000 in
theorem finds_law (w : World) (hT : Tabs w) (kind kind2 : Int) (birth birth2 : Nat) (keys vals keys2 vals2 : List Nat) (A A' X X' : Option Addr) (ck cv cx cy : Nat) (hs : Shows w w.heap.size A keys.length (nums64 keys)) (hv : Shows w w.heap.size A' vals.length (nums64 vals)) (hs2 : Shows w w.heap.size X keys2.length (nums64 keys2)) (hv2 : Shows w w.heap.size X' vals2.length (nums64 vals2)) (key : Nat) :
    Calls Tryd.prog 4 #[.agg #[.int .i64 kind, .int .u64 (birth : Int), .slice A keys.length ck, .slice A' vals.length cv], .agg #[.int .i64 kind2, .int .u64 (birth2 : Int), .slice X keys2.length cx, .slice X' vals2.length cy], .int .u64 (key : Int)] w fun e w' => e = .returned (.bool true) ∧ Below w.heap.size w w' := by
  have H0 := Lib.hid (FW.start w #[.int .i64 kind, .int .u64 (birth : Int), .slice A keys.length ck, .slice A' vals.length cv] #[.int .i64 kind2, .int .u64 (birth2 : Int), .slice X keys2.length cx, .slice X' vals2.length cy])
  have hK : Hid (∀ W, Below w.heap.size w W → Calls Tryd.prog 9 #[] W fun e w' => e = .returned (.bool true) ∧ Below w.heap.size w w') := fun W hW => (known_any W (hT.below hW hT.size)).mono fun e w' hp => ⟨hp.1, hW.trans (hp.2.mono hW.size)⟩
  by_cases hk : 20 < keys.length
  · have hkI : (20 : Int) < (keys.length : Int) := by omega
    clear hs hv hs2 hv2
    go_enter Tryd.func4, Tryd.ntmps4
    go_wp2_with (go_at_call 9; (with_reducible refine (hK.out _ H0.out.bel).mono ?_); rintro e w1 ⟨rfl, hb1⟩)
    go_ret
    exact ⟨rfl, hb1⟩
  by_cases hv_ : 20 < vals.length
  · have hv_I : (20 : Int) < (vals.length : Int) := by omega
    have hkI : (keys.length : Int) ≤ 20 := by omega
    clear hs hv hs2 hv2
    go_enter Tryd.func4, Tryd.ntmps4
    go_wp2_with (go_at_call 9; (with_reducible refine (hK.out _ H0.out.bel).mono ?_); rintro e w1 ⟨rfl, hb1⟩)
    go_ret
    exact ⟨rfl, hb1⟩
  by_cases hk2_ : 20 < keys2.length
  · have hk2_I : (20 : Int) < (keys2.length : Int) := by omega
    have hkI : (keys.length : Int) ≤ 20 := by omega
    have hv_I : (vals.length : Int) ≤ 20 := by omega
    clear hs hv hs2 hv2
    go_enter Tryd.func4, Tryd.ntmps4
    go_wp2_with (go_at_call 9; (with_reducible refine (hK.out _ H0.out.bel).mono ?_); rintro e w1 ⟨rfl, hb1⟩)
    go_ret
    exact ⟨rfl, hb1⟩
  by_cases hv2_ : 20 < vals2.length
  · have hv2_I : (20 : Int) < (vals2.length : Int) := by omega
    have hkI : (keys.length : Int) ≤ 20 := by omega
    have hv_I : (vals.length : Int) ≤ 20 := by omega
    have hk2_I : (keys2.length : Int) ≤ 20 := by omega
    clear hs hv hs2 hv2
    go_enter Tryd.func4, Tryd.ntmps4
    go_wp2_with (go_at_call 9; (with_reducible refine (hK.out _ H0.out.bel).mono ?_); rintro e w1 ⟨rfl, hb1⟩)
    go_ret
    exact ⟨rfl, hb1⟩
  have hkI : (keys.length : Int) ≤ 20 := by omega
  have hv_I : (vals.length : Int) ≤ 20 := by omega
  have hk2_I : (keys2.length : Int) ≤ 20 := by omega
  have hv2_I : (vals2.length : Int) ≤ 20 := by omega
  have hk1m : keys.length ≤ 1000000 := by omega
  have hv1m : vals.length ≤ 1000000 := by omega
  have HK1M := Lib.hid hk1m
  have HV1M := Lib.hid hv1m
  have HS := Lib.hid hs
  have HV := Lib.hid hv
  have HS2 := Lib.hid hs2
  have HV2 := Lib.hid hv2
  clear hs hv hs2 hv2 hk hv_ hk2_ hv2_ hk1m hv1m
  have HSA : Hid (∀ W, FW w W #[.int .i64 kind, .int .u64 (birth : Int), .slice A keys.length ck, .slice A' vals.length cv] #[.int .i64 kind2, .int .u64 (birth2 : Int), .slice X keys2.length cx, .slice X' vals2.length cy] → Calls Tryd.prog 17 #[.agg #[.int .i64 kind, .int .u64 (birth : Int), .slice A keys.length ck, .slice A' vals.length cv], .agg #[.int .i64 kind2, .int .u64 (birth2 : Int), .slice X keys2.length cx, .slice X' vals2.length cy]] W fun e w' => e = .returned (.bool (sameND ⟨kind, birth, keys, vals⟩ ⟨kind2, birth2, keys2, vals2⟩)) ∧ ((w'.cell? ⟨w.heap.size, 0, none⟩ = some (.int .i64 kind) ∧ w'.cell? ⟨w.heap.size, 1, none⟩ = some (.int .u64 (birth : Int)) ∧ w'.cell? ⟨w.heap.size, 2, none⟩ = some (.slice A keys.length ck) ∧ w'.cell? ⟨w.heap.size, 3, none⟩ = some (.slice A' vals.length cv)) ∧ w'.cell? ⟨w.heap.size + 1, 0, none⟩ = some (.int .i64 kind2) ∧ w'.cell? ⟨w.heap.size + 1, 1, none⟩ = some (.int .u64 (birth2 : Int)) ∧ w'.cell? ⟨w.heap.size + 1, 2, none⟩ = some (.slice X keys2.length cx) ∧ w'.cell? ⟨w.heap.size + 1, 3, none⟩ = some (.slice X' vals2.length cy)) ∧ Hid (FW w w' #[.int .i64 kind, .int .u64 (birth : Int), .slice A keys.length ck, .slice A' vals.length cv] #[.int .i64 kind2, .int .u64 (birth2 : Int), .slice X keys2.length cx, .slice X' vals2.length cy])) := fun W h => (same_any W kind kind2 birth birth2 keys vals keys2 vals2 A A' X X' ck cv cx cy (HS.out.on h.bel) (HV.out.on h.bel) (HS2.out.on h.bel) (HV2.out.on h.bel) HK1M.out HV1M.out).mono fun e w' hp => ⟨hp.1, (h.on hp.2).ss, h.on hp.2⟩
  have HRS : Hid (∀ W, FW w W #[.int .i64 kind, .int .u64 (birth : Int), .slice A keys.length ck, .slice A' vals.length cv] #[.int .i64 kind2, .int .u64 (birth2 : Int), .slice X keys2.length cx, .slice X' vals2.length cy] → Calls Tryd.prog 15 #[.agg #[.int .i64 kind, .int .u64 (birth : Int), .slice A keys.length ck, .slice A' vals.length cv], .agg #[.int .i64 kind2, .int .u64 (birth2 : Int), .slice X keys2.length cx, .slice X' vals2.length cy]] W fun e w' => e = .returned (.bool (sameND ⟨kind, birth, keys, vals⟩ ⟨kind2, birth2, keys2, vals2⟩)) ∧ ((w'.cell? ⟨w.heap.size, 0, none⟩ = some (.int .i64 kind) ∧ w'.cell? ⟨w.heap.size, 1, none⟩ = some (.int .u64 (birth : Int)) ∧ w'.cell? ⟨w.heap.size, 2, none⟩ = some (.slice A keys.length ck) ∧ w'.cell? ⟨w.heap.size, 3, none⟩ = some (.slice A' vals.length cv)) ∧ w'.cell? ⟨w.heap.size + 1, 0, none⟩ = some (.int .i64 kind2) ∧ w'.cell? ⟨w.heap.size + 1, 1, none⟩ = some (.int .u64 (birth2 : Int)) ∧ w'.cell? ⟨w.heap.size + 1, 2, none⟩ = some (.slice X keys2.length cx) ∧ w'.cell? ⟨w.heap.size + 1, 3, none⟩ = some (.slice X' vals2.length cy)) ∧ Hid (FW w w' #[.int .i64 kind, .int .u64 (birth : Int), .slice A keys.length ck, .slice A' vals.length cv] #[.int .i64 kind2, .int .u64 (birth2 : Int), .slice X keys2.length cx, .slice X' vals2.length cy])) := fun W h => (rsame_any W kind kind2 birth birth2 keys vals keys2 vals2 A A' X X' ck cv cx cy (HS.out.on h.bel) (HV.out.on h.bel) (HS2.out.on h.bel) (HV2.out.on h.bel) HK1M.out HV1M.out).mono fun e w' hp => ⟨hp.1, (h.on hp.2).ss, h.on hp.2⟩
  have HSS : Hid (∀ W, FW w W #[.int .i64 kind, .int .u64 (birth : Int), .slice A keys.length ck, .slice A' vals.length cv] #[.int .i64 kind2, .int .u64 (birth2 : Int), .slice X keys2.length cx, .slice X' vals2.length cy] → Calls Tryd.prog 17 #[.agg #[.int .i64 kind, .int .u64 (birth : Int), .slice A keys.length ck, .slice A' vals.length cv], .agg #[.int .i64 kind, .int .u64 (birth : Int), .slice A keys.length ck, .slice A' vals.length cv]] W fun e w' => e = .returned (.bool true) ∧ ((w'.cell? ⟨w.heap.size, 0, none⟩ = some (.int .i64 kind) ∧ w'.cell? ⟨w.heap.size, 1, none⟩ = some (.int .u64 (birth : Int)) ∧ w'.cell? ⟨w.heap.size, 2, none⟩ = some (.slice A keys.length ck) ∧ w'.cell? ⟨w.heap.size, 3, none⟩ = some (.slice A' vals.length cv)) ∧ w'.cell? ⟨w.heap.size + 1, 0, none⟩ = some (.int .i64 kind2) ∧ w'.cell? ⟨w.heap.size + 1, 1, none⟩ = some (.int .u64 (birth2 : Int)) ∧ w'.cell? ⟨w.heap.size + 1, 2, none⟩ = some (.slice X keys2.length cx) ∧ w'.cell? ⟨w.heap.size + 1, 3, none⟩ = some (.slice X' vals2.length cy)) ∧ Hid (FW w w' #[.int .i64 kind, .int .u64 (birth : Int), .slice A keys.length ck, .slice A' vals.length cv] #[.int .i64 kind2, .int .u64 (birth2 : Int), .slice X keys2.length cx, .slice X' vals2.length cy])) := fun W h => (same_any W kind kind birth birth keys vals keys vals A A' A A' ck cv ck cv (HS.out.on h.bel) (HV.out.on h.bel) (HS.out.on h.bel) (HV.out.on h.bel) HK1M.out HV1M.out).mono fun e w' hp => ⟨by rw [hp.1, (sameND_iff ⟨kind, birth, keys, vals⟩ ⟨kind, birth, keys, vals⟩).2 rfl], (h.on hp.2).ss, h.on hp.2⟩
  generalize hr : sameND ⟨kind, birth, keys, vals⟩ ⟨kind2, birth2, keys2, vals2⟩ = r at *
  have hrr := no_new r
  clear hr
  go_enter Tryd.func4, Tryd.ntmps4
  go_upto_region 3 with fail
  go_cut [51] (fun s wx => s = .bool false ∧ Hid (FW w wx #[.int .i64 kind, .int .u64 (birth : Int), .slice A keys.length ck, .slice A' vals.length cv] #[.int .i64 kind2, .int .u64 (birth2 : Int), .slice X keys2.length cx, .slice X' vals2.length cy]))
  case first =>
    have HS0 := Lib.hid (H0.out.on (Below.refl _ _).drew).ss
    have H0d := Lib.hid (H0.out.on (Below.refl _ _).drew)
    first | go_region_held3 (fun w' => (w'.cell? ⟨w.heap.size, 0, none⟩ = some (.int .i64 kind) ∧ w'.cell? ⟨w.heap.size, 1, none⟩ = some (.int .u64 (birth : Int)) ∧ w'.cell? ⟨w.heap.size, 2, none⟩ = some (.slice A keys.length ck) ∧ w'.cell? ⟨w.heap.size, 3, none⟩ = some (.slice A' vals.length cv)) ∧ w'.cell? ⟨w.heap.size + 1, 0, none⟩ = some (.int .i64 kind2) ∧ w'.cell? ⟨w.heap.size + 1, 1, none⟩ = some (.int .u64 (birth2 : Int)) ∧ w'.cell? ⟨w.heap.size + 1, 2, none⟩ = some (.slice X keys2.length cx) ∧ w'.cell? ⟨w.heap.size + 1, 3, none⟩ = some (.slice X' vals2.length cy))
      (first | with_reducible exact HS0.out | with_reducible exact hSc | with_reducible exact hSb | with_reducible exact hSa)
      (first
        | (go_at_call 17; first
            | ((with_reducible refine (HSA.out _ H0d.out).mono ?_); rintro e wa ⟨rfl, hSa, hba⟩)
            | ((with_reducible refine (HSA.out _ hbb.out).mono ?_); rintro e wa ⟨rfl, hSa, hba⟩)
            | ((with_reducible refine (HSS.out _ hbb.out).mono ?_); rintro e wc ⟨rfl, hSc, hbc⟩)
            | ((with_reducible refine (HSS.out _ hba.out).mono ?_); rintro e wc ⟨rfl, hSc, hbc⟩))
        | (go_at_call 15; first
            | ((with_reducible refine (HRS.out _ H0d.out).mono ?_); rintro e wb ⟨rfl, hSb, hbb⟩)
            | ((with_reducible refine (HRS.out _ hba.out).mono ?_); rintro e wb ⟨rfl, hSb, hbb⟩))) | fail
    all_goals (go_wp2_with fail; go_meet; exact ⟨rfl, hbc⟩)
  case rest =>
    obtain ⟨rfl, H1⟩ := hcut
    have hcp := copy_any wc kind birth keys vals A A' ck cv (HS.out.on H1.out.bel) (HV.out.on H1.out.bel) HK1M.out HV1M.out
    have HCP := Lib.hid hcp
    clear hcp HSA HRS HSS HS2 HV2 hrr
    go_wp2_with (first
      | refine wpList_load_row rfl 27 (.tmp 3) rfl w.heap.size rfl 27 #[.int .i64 kind, .int .u64 (birth : Int), .slice A keys.length ck, .slice A' vals.length cv] (0, 0) _ H1.out.n1 Tryd.underlying27 rfl (by rw [node_size]; rfl) ?_
      | fail)
    (with_reducible refine HCP.out.mono ?_)
    rintro e w3 ⟨K, V, rfl, hok, hov, hap, hb3⟩
    have hg0 := GS.start (kind := kind) (birth := (birth : Int)) H1.out hb3 hok hov hap
    have hbn := (Below.refl w3.heap.size w3).alloc (Nat.le_refl _) (.cells #[.int .i64 kind, .int .u64 (birth : Int), K, V] 27)
    have hsk : ∃ A1 c1, K = .slice A1 keys.length c1 := (own_form4 hok).imp fun _ h => h.imp fun _ h => h.1
    have hsv : ∃ A1 c1, V = .slice A1 vals.length c1 := (own_form4 hov).imp fun _ h => h.imp fun _ h => h.1
    obtain ⟨A1, c1, rfl⟩ := hsk
    obtain ⟨A2, c2, rfl⟩ := hsv
    have HRQ := Lib.hid (rsame_any (w3.alloc (.cells #[.int .i64 kind, .int .u64 (birth : Int), .slice A1 keys.length c1, .slice A2 vals.length c2] 27)) kind kind birth birth keys vals keys vals A1 A2 A A' c1 c2 ck cv (Shows.owned hg0.ok) (Shows.owned hg0.ov) (HS.out.on hg0.bel) (HV.out.on hg0.bel) HK1M.out HV1M.out)
    have HG := Lib.hid hg0
    clear hg0 hok hov hap hb3 hbn HCP
    rw [(sameND_iff ⟨kind, birth, keys, vals⟩ ⟨kind, birth, keys, vals⟩).2 rfl] at HRQ
    go_wp2_with (first
      | refine wpList_load_row rfl 27 (.tmp 7) rfl w3.heap.size rfl 27 #[.int .i64 kind, .int .u64 (birth : Int), .slice A1 keys.length c1, .slice A2 vals.length c2] (0, 0) _ HG.out.cnode Tryd.underlying27 rfl (by rw [node_size]; rfl) ?_
      | refine wpList_load_row rfl 27 (.tmp 3) rfl w.heap.size rfl 27 #[.int .i64 kind, .int .u64 (birth : Int), .slice A keys.length ck, .slice A' vals.length cv] (0, 0) _ HG.out.node Tryd.underlying27 rfl (by rw [node_size]; rfl) ?_
      | fail)
    (with_reducible refine HRQ.out.mono ?_)
    rintro e w5 ⟨rfl, hb5⟩
    have HG5 := Lib.hid (HG.out.on hb5)
    clear hb5 HRQ HG H1
    generalize w3.heap.size = bc at *
    go_upto_block 0 with fail
    go_cut [8, 9] (fun r j wx => ∃ b, r = .bool b ∧ Hid (GS w wx bc #[.int .i64 kind, .int .u64 (birth : Int), .slice A keys.length ck, .slice A' vals.length cv] kind (birth : Int) (.slice A1 keys.length c1) (.slice A2 vals.length c2) keys vals))
    case first =>
      go_wp2_with fail
      go_loopw [8, 9] (fun r j wr => ∃ (b : Bool) (i : Nat), 1 ≤ i ∧ (i ≤ keys.length ∨ i = 1) ∧ r = .bool b ∧ j = .int .i64 (i : Int) ∧ Hid (GS w wr bc #[.int .i64 kind, .int .u64 (birth : Int), .slice A keys.length ck, .slice A' vals.length cv] kind (birth : Int) (.slice A1 keys.length c1) (.slice A2 vals.length c2) keys vals)) (fun r j _ => keys.length - (intOf j).toNat)
      case atStart => exact ⟨true, 1, Nat.le_refl _, .inr rfl, rfl, rfl, HG5⟩
      case round =>
        obtain ⟨b, i, h1, h2, rfl, rfl, HR⟩ := hrel
        have hn2 : wr.cell? ⟨w.heap.size, 2, none⟩ = some (.slice A keys.length ck) := by rw [cell_of_row wr _ 2 _ _ _ HR.out.node]; rfl
        by_cases hlt : i < keys.length
        · have hltI : (i : Int) < (keys.length : Int) := by omega
          obtain ⟨p, rfl, hp, hc0⟩ := (HS.out.on HR.out.bel).num (i - 1) (by omega)
          obtain ⟨p', e', _, hc1⟩ := (HS.out.on HR.out.bel).num i hlt
          injection e' with e'
          subst e'
          generalize keys.getD (i - 1) 0 = x at *
          generalize keys.getD i 0 = y at *
          have hs1 : (i : Int) - 1 = ((i - 1 : Nat) : Int) := by omega
          have h10 : ((i - 1 : Nat) : Int) < (keys.length : Int) := by omega
          generalize hm : i - 1 = m at *
          clear hm
          cases b with
          | true =>
            go_wp2_with fail
            go_quiet (fail)
            go_wp2
            go_roundw
            case rel => exact ⟨_, i + 1, by omega, by omega, rfl, by go_num, HR.out.drewN nq⟩
            case measure => simp [intOf]; omega
          | false =>
            go_wp2_with fail
            go_quiet (fail)
            go_wp2
            go_roundw
            case rel => exact ⟨_, i + 1, by omega, by omega, rfl, by go_num, HR.out.drewN nq⟩
            case measure => simp [intOf]; omega
        · have hltI : ¬ (i : Int) < (keys.length : Int) := by omega
          go_wp2_with fail
          go_meet
          exact ⟨b, rfl, HR⟩
    case rest =>
      obtain ⟨b, rfl, HG6⟩ := hcut
      clear HG5
      generalize wc = wr at *
      have hn2 : wr.cell? ⟨w.heap.size, 2, none⟩ = some (.slice A keys.length ck) := by rw [cell_of_row wr _ 2 _ _ _ HG6.out.node]; rfl
      have HSW := Lib.hid (HS.out.on HG6.out.bel)
      go_upto_block 2 with fail
      go_cut [10] (fun r wx => ∃ a : Nat, a ≤ keys.length ∧ r = .int .i64 (a : Int) ∧ Hid (belowTo keys key a = true ∧ (a < keys.length → ¬ keys.getD a 0 < key)) ∧ wx = wr)
      case first =>
        go_wp2_with fail
        go_loopw [10] (fun j wr2 => ∃ (i : Nat), i ≤ keys.length ∧ j = .int .i64 (i : Int) ∧ Hid (belowTo keys key i = true) ∧ wr2 = wr) (fun j _ => keys.length - (intOf j).toNat)
        case atStart => exact ⟨0, Nat.zero_le _, rfl, Lib.hid rfl, rfl⟩
        case round =>
          obtain ⟨a, ha, rfl, HB, rfl⟩ := hrel
          by_cases hla : a < keys.length
          · have hlaI : (a : Int) < (keys.length : Int) := by omega
            obtain ⟨p, rfl, hp, hc0⟩ := HSW.out.num a hla
            have hsu := belowTo_succ keys key a
            rw [HB.out, Bool.true_and] at hsu
            generalize hx : keys.getD a 0 = x at *
            have HX := Lib.hid hx
            by_cases hb : x < key
            · have hd : decide ((x : Int) < (key : Int)) = true := by simp; omega
              have hdI : (x : Int) < (key : Int) := by omega
              have HN : Hid (belowTo keys key (a + 1) = true) := (show belowTo keys key (a + 1) = true by rw [hsu]; simpa using hb)
              clear hb hx hsu
              go_wp2_with fail
              go_roundw
              case rel => exact ⟨a + 1, hla, by go_num, HN, trivial⟩
              case measure => simp [intOf]; omega
            · have hd : decide ((x : Int) < (key : Int)) = false := by simp; omega
              have hdI : ¬ (x : Int) < (key : Int) := by omega
              have HE : Hid (belowTo keys key a = true ∧ (a < keys.length → ¬ keys.getD a 0 < key)) := ⟨HB.out, fun _ => by rw [HX.out]; exact hb⟩
              clear hb hx hsu
              go_wp2_with fail
              go_meet
              exact ⟨a, ha, rfl, HE, rfl⟩
          · have hlaI : ¬ (a : Int) < (keys.length : Int) := by omega
            have HE : Hid (belowTo keys key a = true ∧ (a < keys.length → ¬ keys.getD a 0 < key)) := ⟨HB.out, fun h => absurd h hla⟩
            go_wp2_with fail
            go_meet
            exact ⟨a, ha, rfl, HE, rfl⟩
      case rest =>
        obtain ⟨a, ha, rfl, HA, rfl⟩ := hcut
        generalize wc = wr at *
        go_upto_region 16 with fail
        go_cut [11] (fun r wx => r = .bool (decide (a < keys.length ∧ keys.getD a 0 = key)) ∧ wx = wr)
        case first =>
          by_cases hla : a < keys.length
          · have hlaI : (a : Int) < (keys.length : Int) := by omega
            obtain ⟨p, rfl, hp, hc0⟩ := HSW.out.num a hla
            have HE : Hid ((((keys.getD a 0 : Nat) : Int) == (key : Int)) = decide (a < keys.length ∧ keys.getD a 0 = key)) := (show (((keys.getD a 0 : Nat) : Int) == (key : Int)) = decide (a < keys.length ∧ keys.getD a 0 = key) by
              rw [Bool.eq_iff_iff]
              simp only [beq_iff_eq, decide_eq_true_eq]
              constructor
              · intro h; exact ⟨hla, by omega⟩
              · intro h; omega)
            generalize hc : decide (a < keys.length ∧ keys.getD a 0 = key) = c at *
            generalize keys.getD a 0 = x at *
            go_wp2_with fail
            go_meet
            exact ⟨by rw [← HE.out], rfl⟩
          · have hlaI : ¬ (a : Int) < (keys.length : Int) := by omega
            have hc : decide (a < keys.length ∧ keys.getD a 0 = key) = false := by simp [hla]
            go_wp2_with fail
            go_meet
            exact ⟨congrArg Value.bool hc.symm, rfl⟩
        case rest =>
          obtain ⟨rfl, rfl⟩ := hcut
          generalize wc = wr at *
          have hf : ∀ W, Below w.heap.size w W → Calls Tryd.prog 19 #[.agg #[.int .i64 kind, .int .u64 (birth : Int), .slice A keys.length ck, .slice A' vals.length cv], .int .u64 (key : Int)] W fun e w' => e = .returned (.tuple #[.int .i64 (a : Int), .bool (decide (a < keys.length ∧ keys.getD a 0 = key))]) ∧ Below W.heap.size W w' := fun W hW => (find_any W kind birth keys vals A A' ck cv (HS.out.on hW) HK1M.out key).mono fun e w' hp => by
            obtain ⟨⟨i, hi, h1, h2, rfl⟩, hb⟩ := hp
            obtain rfl := find_one h1 hi h2 HA.out.1 ha HA.out.2
            exact ⟨rfl, hb⟩
          generalize decide (a < keys.length ∧ keys.getD a 0 = key) = c at *
          have HF := Lib.hid hf
          have hcc := no_new c
          clear hf
          go_upto_if 110 with fail
          go_cut [6] (fun r wx => r = .bool false ∧ Hid (GS w wx bc #[.int .i64 kind, .int .u64 (birth : Int), .slice A keys.length ck, .slice A' vals.length cv] kind (birth : Int) (.slice A1 keys.length c1) (.slice A2 vals.length c2) keys vals))
          case first =>
            cases b with
            | true =>
              go_wp2_with (first
                | refine wpList_load_row rfl 27 (.tmp 3) rfl w.heap.size rfl 27 #[.int .i64 kind, .int .u64 (birth : Int), .slice A keys.length ck, .slice A' vals.length cv] (0, 0) _ HG6.out.node Tryd.underlying27 rfl (by rw [node_size]; rfl) ?_
                | fail)
              (with_reducible refine (HF.out _ HG6.out.bel).mono ?_)
              rintro e w7 ⟨rfl, hb7⟩
              have HG7 := Lib.hid (HG6.out.on hb7)
              go_wp2_with fail
              go_meet
              exact ⟨rfl, HG7⟩
            | false =>
              go_wp2_with fail
              go_meet
              exact ⟨rfl, HG6⟩
          case rest =>
            obtain ⟨rfl, HG8⟩ := hcut
            clear HG6 hn2 HSW HF hcc HA
            generalize wc = wr9 at *
            go_wp2_with fail
            go_loopw [14] (fun j wr => ∃ (i : Nat), i ≤ keys.length ∧ j = .int .i64 (i : Int) ∧ Hid (GS w wr bc #[.int .i64 kind, .int .u64 (birth : Int), .slice A keys.length ck, .slice A' vals.length cv] kind (birth : Int) (.slice A1 keys.length c1) (.slice A2 vals.length c2) (incTo keys i) vals)) (fun j _ => keys.length - (intOf j).toNat)
            case atStart => exact ⟨0, Nat.zero_le _, rfl, by rw [incTo_zero]; exact HG8⟩
            case round =>
              obtain ⟨i, hi, rfl, HR⟩ := hrel
              have hn2 : wr.cell? ⟨bc, 2, none⟩ = some (.slice A1 keys.length c1) := by rw [cell_of_row wr _ 2 _ _ _ HR.out.cnode]; rfl
              by_cases hlt : i < keys.length
              · have hltI : (i : Int) < (keys.length : Int) := by omega
                obtain ⟨g, rfl, hcell, hfz, hset⟩ := HR.out.atK (incTo_length _ _) i hlt
                rw [incTo_get _ _ hlt] at hcell
                have HST := Lib.hid (hset _ _ (incTo_set keys i hlt) (incTo_length _ _))
                clear hset
                have hw := inc_wrap (keys.getD i 0)
                generalize keys.getD i 0 = x at *
                generalize inc64 x = x' at *
                go_wp2_with fail
                go_roundw
                case rel => exact ⟨i + 1, hlt, by go_num, HST⟩
                case measure => simp [intOf]; omega
              · obtain rfl : i = keys.length := by omega
                have hltI : ¬ (keys.length : Int) < (keys.length : Int) := by omega
                clear HG8
                go_wp2_with fail
                go_loopw [15] (fun j wr => ∃ (i : Nat), i ≤ vals.length ∧ j = .int .i64 (i : Int) ∧ Hid (GS w wr bc #[.int .i64 kind, .int .u64 (birth : Int), .slice A keys.length ck, .slice A' vals.length cv] kind (birth : Int) (.slice A1 keys.length c1) (.slice A2 vals.length c2) (incTo keys keys.length) (incTo vals i))) (fun j _ => vals.length - (intOf j).toNat)
                case atStart => exact ⟨0, Nat.zero_le _, rfl, by rw [incTo_zero]; exact HR⟩
                case round =>
                  clear hn2 HR
                  obtain ⟨i, hi, rfl, HR⟩ := hrel
                  have hn3 : wr.cell? ⟨bc, 3, none⟩ = some (.slice A2 vals.length c2) := by rw [cell_of_row wr _ 3 _ _ _ HR.out.cnode]; rfl
                  by_cases hlt : i < vals.length
                  · have hltI : (i : Int) < (vals.length : Int) := by omega
                    obtain ⟨g, rfl, hcell, hfz, hset⟩ := HR.out.atV (incTo_length _ _) i hlt
                    rw [incTo_get _ _ hlt] at hcell
                    have HST := Lib.hid (hset _ _ (incTo_set vals i hlt) (incTo_length _ _))
                    clear hset
                    have hw := inc_wrap (vals.getD i 0)
                    generalize vals.getD i 0 = x at *
                    generalize inc64 x = x' at *
                    go_wp2_with fail
                    go_roundw
                    case rel => exact ⟨i + 1, hlt, by go_num, HST⟩
                    case measure => simp [intOf]; omega
                  · obtain rfl : i = vals.length := by omega
                    have hltI2 : ¬ (vals.length : Int) < (vals.length : Int) := by omega
                    have hm0 : wr.cell? ⟨w.heap.size, 0, none⟩ = some (.int .i64 kind) := by rw [cell_of_row wr _ 0 _ _ _ HR.out.node]; rfl
                    have hm1 : wr.cell? ⟨w.heap.size, 1, none⟩ = some (.int .u64 (birth : Int)) := by rw [cell_of_row wr _ 1 _ _ _ HR.out.node]; rfl
                    have hn0 : wr.cell? ⟨bc, 0, none⟩ = some (.int .i64 kind) := by rw [cell_of_row wr _ 0 _ _ _ HR.out.cnode]; rfl
                    have hn1 : wr.cell? ⟨bc, 1, none⟩ = some (.int .u64 (birth : Int)) := by rw [cell_of_row wr _ 1 _ _ _ HR.out.cnode]; rfl
                    have hn2 : wr.cell? ⟨bc, 2, none⟩ = some (.slice A1 keys.length c1) := by rw [cell_of_row wr _ 2 _ _ _ HR.out.cnode]; rfl
                    have hm2 : wr.cell? ⟨w.heap.size, 2, none⟩ = some (.slice A keys.length ck) := by rw [cell_of_row wr _ 2 _ _ _ HR.out.node]; rfl
                    have hm3 : wr.cell? ⟨w.heap.size, 3, none⟩ = some (.slice A' vals.length cv) := by rw [cell_of_row wr _ 3 _ _ _ HR.out.node]; rfl
                    obtain ⟨hx1, hx2⟩ := HR.out.same (incTo_length _ _) (incTo_length _ _)
                    have hq := same_any wr kind kind birth birth (incTo keys keys.length) (incTo vals vals.length) keys vals A1 A2 A A' c1 c2 ck cv hx1 hx2 (HS.out.on HR.out.bel) (HV.out.on HR.out.bel) (by rw [incTo_length]; exact HK1M.out) (by rw [incTo_length]; exact HV1M.out)
                    rw [incTo_length, incTo_length, same_inc] at hq
                    clear hx1 hx2
                    by_cases hz : keys.length + vals.length = 0
                    · have hd : decide (keys.length + vals.length = 0) = true := decide_eq_true hz
                      rw [hd] at hq
                      have HQ := Lib.hid hq
                      have hzI : (keys.length : Int) + (vals.length : Int) = 0 := by omega
                      have hzb : ((keys.length : Int) + (vals.length : Int) == 0) = true := by simp; omega
                      clear hq hd hz
                      go_wp2_with fail
                      (with_reducible refine HQ.out.mono ?_)
                      rintro e w11 ⟨rfl, hb11⟩
                      have HKN := Lib.hid (hK.out _ (HR.out.on hb11).bel)
                      clear hb11
                      go_wp2_with fail
                      (with_reducible refine HKN.out.mono ?_)
                      rintro e w12 ⟨rfl, hb12⟩
                      go_wp2_with fail
                      go_ret
                      exact ⟨rfl, hb12⟩
                    · have hd : decide (keys.length + vals.length = 0) = false := decide_eq_false hz
                      rw [hd] at hq
                      have HQ := Lib.hid hq
                      have hzI : 0 < (keys.length : Int) + (vals.length : Int) := by omega
                      have hzb : ((keys.length : Int) + (vals.length : Int) == 0) = false := by simp; omega
                      clear hq hd hz
                      go_wp2_with fail
                      (with_reducible refine HQ.out.mono ?_)
                      rintro e w11 ⟨rfl, hb11⟩
                      have HKN := Lib.hid (hK.out _ (HR.out.on hb11).bel)
                      clear hb11
                      go_wp2_with fail
                      (with_reducible refine HKN.out.mono ?_)
                      rintro e w12 ⟨rfl, hb12⟩
                      go_wp2_with fail
                      go_ret
                      exact ⟨rfl, hb12⟩
end Go.Proofs.YtdcfplfeagpcdaaDoor
