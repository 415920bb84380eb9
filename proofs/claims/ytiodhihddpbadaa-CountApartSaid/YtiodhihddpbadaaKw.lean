/- CountApart, walked. -/
import Derived.Test.YtiodhihddpbadaaKu
import Derived.Deep.RegionHeld3
import Derived.Deep.DeepCutAuto
set_option linter.unusedVariables false
namespace Go.Proofs.Ytiodhihddpbadaa
open Go.RowKit

set_option maxRecDepth 20000 in
set_option maxHeartbeats 4000000 in
theorem apart_law (w : World) (A0 A1 A2 A3 : Option Addr) (cap0 cap1 cap2 cap3 : Nat) (k : List Nat) (l x y : List (Int × Int)) (hs : Shows w w.heap.size A0 k.length (nz .u16 k)) (h16 : ∀ x ∈ k, x ≤ 65535) (hl : ARow w w.heap.size A1 l) (hx : ARow w w.heap.size A2 x) (hy : ARow w w.heap.size A3 y)
    (hk63 : k.length ≤ 9223372036854775807) (hl63 : l.length ≤ 9223372036854775807) (hx63 : x.length ≤ 9223372036854775807) (hy63 : y.length ≤ 9223372036854775807) :
    Calls Try.prog 4 #[.slice A0 k.length cap0, .slice A1 l.length cap1, .slice A2 x.length cap2, .slice A3 y.length cap3] w fun e w' => e = .returned (.bool true) ∧ Below w.heap.size w w' := by
  have HK := Lib.hid (known_any w w (Below.refl _ _))
  by_cases hb0 : k.length < 1
  · have hb0I : (k.length : Int) < 1 := by omega
    clear hs h16 hl hx hy
    go_enter Try.func4, Try.ntmps4
    go_wp2_with (first
      | (go_at_call 6; (with_reducible refine HK.out.mono ?_); rintro e wc ⟨rfl, hb⟩)
      | fail)
    go_ret
    exact ⟨rfl, hb⟩
  have hb0I : ¬ (k.length : Int) < 1 := by omega
  by_cases hb1 : 50 < k.length
  · have hb1I : (50 : Int) < (k.length : Int) := by omega
    clear hs h16 hl hx hy
    go_enter Try.func4, Try.ntmps4
    go_wp2_with (first
      | (go_at_call 6; (with_reducible refine HK.out.mono ?_); rintro e wc ⟨rfl, hb⟩)
      | fail)
    go_ret
    exact ⟨rfl, hb⟩
  have hb1I : ¬ (50 : Int) < (k.length : Int) := by omega
  by_cases hb2 : 30 < l.length
  · have hb2I : (30 : Int) < (l.length : Int) := by omega
    clear hs h16 hl hx hy
    go_enter Try.func4, Try.ntmps4
    go_wp2_with (first
      | (go_at_call 6; (with_reducible refine HK.out.mono ?_); rintro e wc ⟨rfl, hb⟩)
      | fail)
    go_ret
    exact ⟨rfl, hb⟩
  have hb2I : ¬ (30 : Int) < (l.length : Int) := by omega
  by_cases hb3 : 30 < x.length
  · have hb3I : (30 : Int) < (x.length : Int) := by omega
    clear hs h16 hl hx hy
    go_enter Try.func4, Try.ntmps4
    go_wp2_with (first
      | (go_at_call 6; (with_reducible refine HK.out.mono ?_); rintro e wc ⟨rfl, hb⟩)
      | fail)
    go_ret
    exact ⟨rfl, hb⟩
  have hb3I : ¬ (30 : Int) < (x.length : Int) := by omega
  by_cases hb4 : 30 < y.length
  · have hb4I : (30 : Int) < (y.length : Int) := by omega
    clear hs h16 hl hx hy
    go_enter Try.func4, Try.ntmps4
    go_wp2_with (first
      | (go_at_call 6; (with_reducible refine HK.out.mono ?_); rintro e wc ⟨rfl, hb⟩)
      | fail)
    go_ret
    exact ⟨rfl, hb⟩
  have hb4I : ¬ (30 : Int) < (y.length : Int) := by omega
  have HB := Lib.hid (BC.begin_ (cap := cap0) hs ⟨by omega, by omega⟩ h16)
  have HL := Lib.hid hl
  have HX := Lib.hid hx
  have HY := Lib.hid hy
  clear hs h16 hl hx hy HK
  go_enter Try.func4, Try.ntmps4
  go_wp2_with (first
    | (go_at_call 7; (with_reducible refine HB.out.mono ?_); rintro e w1 ⟨b, br, rfl, HB1⟩)
    | fail)
  clear HB
  go_loopw [11] (fun j wr => ∃ i : Nat, i ≤ l.length ∧ j = .int .i64 (i : Int) ∧ Hid (BC w wr b br (actsD ⟨k, k, 0, 0⟩ (l.take i)))) (fun j _ => l.length - (intOf j).toNat)
  case atStart => exact ⟨0, Nat.zero_le _, rfl, by rw [List.take_zero]; exact HB1⟩
  case round =>
    obtain ⟨i, hi, rfl, HR⟩ := hrel
    rename_i wr
    clear HB1
    by_cases hlt : i < l.length
    · have hltI : (i : Int) < (l.length : Int) := by omega
      obtain ⟨p, rfl, hat⟩ := HL.out.at2 i hlt
      obtain ⟨d0, d1⟩ := hat wr HR.out.b
      have HE := Lib.hid (actsD_take ⟨k, k, 0, 0⟩ l i hlt)
      have HA := Lib.hid (HR.out.act l[i].1 l[i].2)
      clear hat HR
      generalize l[i].1 = kd at *
      generalize l[i].2 = kn at *
      go_wp2_with (first
        | (go_at_call 10; (with_reducible refine HA.out.mono ?_); rintro e w3 ⟨rfl, H3⟩)
        | fail)
      go_roundw
      case rel => exact ⟨i + 1, hlt, by go_num, by rw [HE.out]; exact H3⟩
      case measure => simp [intOf]; omega
    · obtain rfl : i = l.length := by omega
      have hltI : ¬ (l.length : Int) < (l.length : Int) := by omega
      obtain ⟨F, hP, hF, hW⟩ := HR.out
      clear HR
      generalize actsD ⟨k, k, 0, 0⟩ (l.take l.length) = c at *
      have hP0 := hP
      obtain ⟨g0, p0, g1, p1, h0, q0, h1, q1, hA, hR, hFF⟩ := hP
      have hok := hA.ok
      have hlw : c.was.length = c.now.length := hok.len
      have hw2 : c.now.length ≤ 1000 := hok.n1
      have HS0 : Hid (Cells4 wr.drew br h0 q0 h1 q1 c) := hR.drew.cells4
      have HCP : Hid (∀ W, Below wr.heap.size wr W → Calls Try.prog 11 #[.pointer (some ⟨b, 0, none⟩)] W fun e w' => ∃ b2, e = .returned (.pointer (some ⟨b2, 0, none⟩)) ∧ Cells4 w' br h0 q0 h1 q1 c ∧ Hid (Below wr.heap.size wr w' ∧ ∃ x0 y0 x1 y1, AX w' b2 x0 y0 x1 y1 c ∧ (∀ j, foot b2 x0 x1 j → wr.heap.size ≤ j))) := fun W hb => (copy_any W b g0 p0 g1 p1 c (hA.below hb)).mono (by
        rintro e w' ⟨b2, x0, y0, x1, y1, rfl, h2, h3, h4⟩
        have hs := hb.size
        exact ⟨b2, rfl, (hR.below (hb.trans (h4.mono hs))).cells4, hb.trans (h4.mono hs), x0, y0, x1, y1, h2, fun j hj => Nat.le_trans hs (h3 j hj)⟩)
      have HC0 : Hid (∀ W, Below wr.heap.size wr W → Calls Try.prog 12 #[.slice (some ⟨h0, 0, none⟩) c.now.length q0] W fun e w' => ∃ g q, e = .returned (.slice (some ⟨g, 0, none⟩) c.now.length q) ∧ Cells4 w' br h0 q0 h1 q1 c ∧ Hid (Below wr.heap.size wr w' ∧ w'.ownsRow 0 3 1 (.slice (some ⟨g, 0, none⟩) c.now.length q) c.now.length (nz .i64 c.now) ∧ W.heap.size ≤ g ∧ g < w'.heap.size ∧ Below W.heap.size W w')) := fun W hb => (rclone_any W W.heap.size ⟨h0, 0, none⟩ c.now q0 hok.n0 (by omega) (row_shows (hR.below hb).now)).mono (by
        rintro e w' ⟨g, q, rfl, h2, h3, h4, h5⟩
        have hs := hb.size
        exact ⟨g, q, rfl, (hR.below (hb.trans (h5.mono hs))).cells4, hb.trans (h5.mono hs), h2, h3, h4, h5⟩)
      have HC1 : Hid (∀ W, Below wr.heap.size wr W → Calls Try.prog 12 #[.slice (some ⟨h1, 0, none⟩) c.now.length q1] W fun e w' => ∃ g q, e = .returned (.slice (some ⟨g, 0, none⟩) c.now.length q) ∧ Cells4 w' br h0 q0 h1 q1 c ∧ Hid (Below wr.heap.size wr w' ∧ w'.ownsRow 0 3 1 (.slice (some ⟨g, 0, none⟩) c.was.length q) c.was.length (nz .i64 c.was) ∧ W.heap.size ≤ g ∧ g < w'.heap.size ∧ Below W.heap.size W w')) := fun W hb => by
        have h := rclone_any W W.heap.size ⟨h1, 0, none⟩ c.was q1 (by rw [hlw]; exact hok.n0) (by omega) (by rw [hlw]; exact row_shows (hR.below hb).was)
        rw [hlw] at h
        refine h.mono ?_
        rintro e w' ⟨g, q, rfl, h2, h3, h4, h5⟩
        have hs := hb.size
        exact ⟨g, q, rfl, (hR.below (hb.trans (h5.mono hs))).cells4, hb.trans (h5.mono hs), by rw [hlw]; exact h2, h3, h4, h5⟩
      have HP := Lib.hid hP0
      have HF := Lib.hid hF
      have HW := Lib.hid hW
      have HOK := Lib.hid hok
      clear hP0 hF hW hA hR hFF hok hlw
      go_wp2_with fail
      first | go_region_held3 (fun w' => Cells4 w' br h0 q0 h1 q1 c)
        (first | with_reducible exact HS0.out | with_reducible exact hSa | with_reducible exact hSb | with_reducible exact hSc | exact Cells4.alloc hSc _)
        (first
          | (go_at_call 11; (with_reducible refine (HCP.out _ (Below.refl _ _).drew).mono ?_); rintro e wa ⟨b2, rfl, hSa, HQa⟩)
          | (go_at_call 12; first
              | ((with_reducible refine (HC0.out _ HQa.out.1).mono ?_); rintro e wb ⟨ga, qa, rfl, hSb, HQb⟩)
              | ((with_reducible refine (HC1.out _ HQb.out.1).mono ?_); rintro e wc ⟨gb, qb, rfl, hSc, HQc⟩))) | fail
      all_goals
        obtain ⟨hqa, x0, y0, x1, y1, hqa2, hqa3⟩ := HQa.out
        obtain ⟨_, hb1, hb2, hb3, hb4⟩ := HQb.out
        obtain ⟨_, hc1, hc2, hc3, hc4⟩ := HQc.out
        have HM := Lib.hid (pair_made HP.out HF.out HW.out hqa2 hqa3 hqa hb1 hb2 hb3 hb4 hc1 hc2 hc4 HOK.out)
        clear HP HF HW HOK hqa hqa2 hqa3 hb1 hb2 hb3 hb4 hc1 hc2 hc3 hc4 HQa HQb HQc hSa hSb hSc HCP HC0 HC1 HS0
        generalize wc.alloc (.cells #[.slice (some ⟨ga, 0, none⟩) c.now.length qa, .slice (some ⟨gb, 0, none⟩) c.now.length qb, .int .i64 (c.at_ : Int), .int .i64 (c.kept : Int)] 41) = W4 at *
        generalize wc.heap.size = br2 at *
        have HC := Lib.hid HM.out.counts
        clear HM
        go_wp2_with (first
          | (go_at_call 13; (with_reducible refine HC.out.mono ?_); rintro e w5 ⟨g, q, rfl, H5⟩)
          | fail)
        clear HC
        go_loopw [15] (fun j wr => ∃ i : Nat, i ≤ c.now.length ∧ j = .int .i64 (i : Int) ∧ Hid (B3 w wr b br c b2 br2 c g c.now.length q)) (fun j _ => c.now.length - (intOf j).toNat)
        case atStart => exact ⟨0, Nat.zero_le _, rfl, H5⟩
        case round =>
          obtain ⟨i, hi, rfl, HR⟩ := hrel
          rename_i wr
          clear H5
          by_cases hlt : i < c.now.length
          · have hltI : (i : Int) < (c.now.length : Int) := by omega
            obtain ⟨⟨u, hu⟩, hfr, HS⟩ := HR.out.store i hlt 77
            clear HR
            go_wp2
            go_roundw
            case rel => exact ⟨i + 1, hlt, by go_num, HS⟩
            case measure => simp [intOf]; omega
          · obtain rfl : i = c.now.length := by omega
            have hltI : ¬ (c.now.length : Int) < (c.now.length : Int) := by omega
            have H6 := Lib.hid HR.out.b2
            clear HR
            go_wp2
            go_loopw [16] (fun j wr => ∃ i : Nat, i ≤ x.length ∧ j = .int .i64 (i : Int) ∧ Hid (B2 w wr b br (actsD c (x.take i)) b2 br2 c)) (fun j _ => x.length - (intOf j).toNat)
            case atStart => exact ⟨0, Nat.zero_le _, rfl, by rw [List.take_zero]; exact H6⟩
            case round =>
              obtain ⟨i, hi, rfl, HR⟩ := hrel
              rename_i wr
              clear H6
              by_cases hlt : i < x.length
              · have hltI : (i : Int) < (x.length : Int) := by omega
                obtain ⟨p, rfl, hat⟩ := HX.out.at2 i hlt
                obtain ⟨d0, d1⟩ := hat wr HR.out.b
                have HE := Lib.hid (actsD_take c x i hlt)
                have HA := Lib.hid (HR.out.act x[i].1 x[i].2)
                clear hat HR
                generalize x[i].1 = kd at *
                generalize x[i].2 = kn at *
                go_wp2_with (first
                  | (go_at_call 10; (with_reducible refine HA.out.mono ?_); rintro e w3 ⟨rfl, H3⟩)
                  | fail)
                go_roundw
                case rel => exact ⟨i + 1, hlt, by go_num, by rw [HE.out]; exact H3⟩
                case measure => simp [intOf]; omega
              · obtain rfl : i = x.length := by omega
                have hltI : ¬ (x.length : Int) < (x.length : Int) := by omega
                have H7 := Lib.hid HR.out
                clear HR
                generalize actsD c (x.take x.length) = cx at *
                go_wp2
                go_loopw [17] (fun j wr => ∃ i : Nat, i ≤ y.length ∧ j = .int .i64 (i : Int) ∧ Hid (B2 w wr b br cx b2 br2 (actsD c (y.take i)))) (fun j _ => y.length - (intOf j).toNat)
                case atStart => exact ⟨0, Nat.zero_le _, rfl, by rw [List.take_zero]; exact H7⟩
                case round =>
                  obtain ⟨i, hi, rfl, HR⟩ := hrel
                  rename_i wr
                  clear H7
                  by_cases hlt : i < y.length
                  · have hltI : (i : Int) < (y.length : Int) := by omega
                    obtain ⟨p, rfl, hat⟩ := HY.out.at2 i hlt
                    obtain ⟨d0, d1⟩ := hat wr HR.out.b
                    have HE := Lib.hid (actsD_take c y i hlt)
                    have HA := Lib.hid (HR.out.act2 y[i].1 y[i].2)
                    clear hat HR
                    generalize y[i].1 = kd at *
                    generalize y[i].2 = kn at *
                    go_wp2_with (first
                      | (go_at_call 10; (with_reducible refine HA.out.mono ?_); rintro e w3 ⟨rfl, H3⟩)
                      | fail)
                    go_roundw
                    case rel => exact ⟨i + 1, hlt, by go_num, by rw [HE.out]; exact H3⟩
                    case measure => simp [intOf]; omega
                  · obtain rfl : i = y.length := by omega
                    have hltI : ¬ (y.length : Int) < (y.length : Int) := by omega
                    have H8 := Lib.hid HR.out.same
                    clear HR
                    go_wp2_with fail
                    (with_reducible refine H8.out.mono ?_)
                    rintro e w8 ⟨rfl, H9⟩
                    have H10 := Lib.hid H9.out.same2
                    clear H8 H9
                    go_wp2_with fail
                    (with_reducible refine H10.out.mono ?_)
                    rintro e w9 ⟨rfl, H11⟩
                    go_wp2_with (first
                      | (go_at_call 6; (with_reducible refine (known_any w _ H11.out.b).mono ?_); rintro e wk ⟨rfl, hb⟩)
                      | fail)
                    go_ret
                    exact ⟨rfl, hb⟩
end Go.Proofs.Ytiodhihddpbadaa
