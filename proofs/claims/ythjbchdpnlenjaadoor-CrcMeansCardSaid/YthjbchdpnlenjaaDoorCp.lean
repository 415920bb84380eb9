/- The walk of the law CrcMeans. -/
import Derived.Test.YthjbchdpnlenjaaDoorCo
namespace Go.Proofs.YthjbchdpnlenjaaDoor
open Go.RowKit

set_option maxRecDepth 10000 in
set_option maxHeartbeats 8000000 in
theorem means_walk (A A' : Option Addr) (cap cap' : Nat) (l l' : List UInt8) (at_ : Int) (u : Nat) (w : World) (hT : Tabs w) (hs : Shows w w.heap.size A l.length (cells8 l)) (hs' : Shows w w.heap.size A' l'.length (cells8 l')) (hu : u < 4294967296) :
    Calls Tryd.prog 5 #[.slice A l.length cap, .slice A' l'.length cap', .int .i64 at_, .int .u32 u] w fun e w' => e = .returned (.bool true) ∧ Below w.heap.size w w' := by
  obtain ⟨i0, hi, hz0, hz1, hz2⟩ := info_parts u8_info
  have hTs := hT.size
  by_cases hl : l.length ≤ 3000 ∧ l'.length ≤ 3000
  · obtain ⟨h1, h2⟩ := hl
    have d1 : decide (3000 < (l.length : Int)) = false := by simp; omega
    have d2 : decide (3000 < (l'.length : Int)) = false := by simp; omega
    go_enter Tryd.func5, Tryd.ntmps5
    go_wp2_with fail
    refine (known_any w hT).mono ?_
    rintro e w1 ⟨rfl, hb1⟩
    have hsz1 := hb1.size
    have hT1 := hT.below hb1 hTs
    have hs1 := shows_on hs (Nat.le_refl _) hb1
    have hs1' := shows_on hs' (Nat.le_refl _) hb1
    clear hT hs hs'
    go_wp2_with (at_builtin; first
      | (refine wpList_append_shows w1 rfl (.const (.slice none 0 0)) (.tmp 24) 22 rfl w1.heap.size 5 i0 (.int .u8 0) 1 Tryd.underlying22 hi hz0 hz1 hz2 rfl _ 0 [] rfl (nil_own w1) w.heap.size A l.length cap (cells8 l) rfl hs1 (cells8_one l) (by unfold maxLen; omega) (by omega) (Nat.le_refl _) ?_; intro v2 w2 hown2 hg2; replace hg2 : Grew w1 w2 (.slice none 0 0) v2 := hg2; have hb2 : Below w1.heap.size w1 w2 := hg2.below (nil_own w1) (Nat.le_refl _) (Nat.le_refl _); have hs2' := shows_on hs1' hsz1 hb2; have hsz2 := hb2.size)
      | (refine wpList_append_shows w2 rfl (.tmp 25) (.tmp 26) 22 rfl w1.heap.size 5 i0 (.int .u8 0) 1 Tryd.underlying22 hi hz0 hz1 hz2 rfl v2 _ _ rfl hown2 w.heap.size A' l'.length cap' (cells8 l') rfl hs2' (cells8_one l') (by unfold maxLen; omega) (by omega) hsz2 ?_; intro v3 w3 hown3 hg3; replace hg3 : Grew w2 w3 v2 v3 := hg3)
      | fail)
    have hg13 := hg2.trans hg3
    have hb13 : Below w1.heap.size w1 w3 := hg13.below (nil_own w1) (Nat.le_refl _) (Nat.le_refl _)
    have hsz3 := hb13.size
    have hT3 := hT1.below hb13 (by omega)
    have hs3 := shows_on hs1 hsz1 hb13
    have hs3' := shows_on hs1' hsz1 hb13
    have hB3 := hb1.trans (hb13.mono hsz1)
    rw [Nat.zero_add, List.nil_append, ← cells8_append] at hown3
    clear hown2 hg2 hg3 hg13 hs2' hb2 hsz2 hs1 hs1' hT1 hb13
    have hbl : l.length + l'.length = (l ++ l').length := by simp
    rw [hbl] at hown3
    have hsa := sumB_append l l'
    have hb0 := addB_zero l'
    obtain ⟨A3, c3, rfl, hc3, hm3⟩ := own_form hown3
    have ho3 := Shows.owned hown3
    have hn6 : (l ++ l').length ≤ 6000 := by omega
    clear hown3 hbl
    generalize hbo : l ++ l' = bo at *
    clear hbo
    refine (sum_any w3.heap.size A3 c3 bo w3 hT3 ho3 (Nat.le_refl _) (by omega)).mono ?_
    rintro e w4 ⟨rfl, hb4⟩
    have hsz4 := hb4.size
    have ho4 := shows_on ho3 (Nat.le_refl _) hb4
    have hT4 := hT3.below hb4 (by omega)
    have hs4 := shows_on hs3 (by omega) hb4
    have hs4' := shows_on hs3' (by omega) hb4
    have hB4 := hB3.trans (hb4.mono (by omega))
    clear ho3 hT3 hs3 hs3' hB3 hb4
    go_wp2_with fail
    refine (sum_any w.heap.size A cap l w4 hT4 hs4 (by omega) (by omega)).mono ?_
    rintro e w5 ⟨rfl, hb5⟩
    have hsz5 := hb5.size
    have ho5 := shows_on ho4 (by omega) hb5
    have hT5 := hT4.below hb5 (by omega)
    have hs5' := shows_on hs4' (by omega) hb5
    have hB5 := hB4.trans (hb5.mono (by omega))
    clear ho4 hT4 hs4 hs4' hB4 hb5
    go_wp2_with fail
    refine (add_any w.heap.size A' cap' l' (sumB l) w5 hT5 hs5' (by omega) (sumB_lt l) (by omega)).mono ?_
    rintro e w6 ⟨rfl, hb6⟩
    have hsz6 := hb6.size
    have ho6 := shows_on ho5 (by omega) hb6
    have hT6 := hT5.below hb6 (by omega)
    have hs6' := shows_on hs5' (by omega) hb6
    have hB6 := hB5.trans (hb6.mono (by omega))
    clear ho5 hT5 hs5' hB5 hb6
    rw [← hsa]
    go_wp2_with fail
    refine (add_any w.heap.size A' cap' l' 0 w6 hT6 hs6' (by omega) (by omega) (by omega)).mono ?_
    rintro e w7 ⟨rfl, hb7⟩
    have hsz7 := hb7.size
    have ho7 := shows_on ho6 (by omega) hb7
    have hT7 := hT6.below hb7 (by omega)
    have hs7' := shows_on hs6' (by omega) hb7
    have hB7 := hB6.trans (hb7.mono (by omega))
    clear ho6 hT6 hs6' hB6 hb7
    rw [hb0]
    go_wp2_with fail
    refine (sum_any w.heap.size A' cap' l' w7 hT7 hs7' (by omega) (by omega)).mono ?_
    rintro e w8 ⟨rfl, hb8⟩
    have hsz8 := hb8.size
    have ho8 := shows_on ho7 (by omega) hb8
    have hT8 := hT7.below hb8 (by omega)
    have hB8 := hB7.trans (hb8.mono (by omega))
    clear ho7 hT7 hs7' hB7 hb8 hsa hb0
    by_cases hgood : 0 ≤ at_ ∧ at_ + 4 ≤ (bo.length : Int) ∧ ¬ u = 0
    · obtain ⟨g1, g2, g3⟩ := hgood
      obtain ⟨k, rfl⟩ := Int.eq_ofNat_of_zero_le g1
      have t1 : decide ((k : Int) < 0) = false := by simp
      have t2 : decide ((bo.length : Int) - 4 < (k : Int)) = false := by simp; omega
      have t3 : ((u : Int) == 0) = false := by simp; omega
      obtain ⟨pre, suf, ba, bb, bc, bd, hpre, hcut⟩ := cut4 bo k (by omega)
      have HPRE := Lib.hid hpre
      have HCUT := Lib.hid hcut
      clear hpre hcut
      have hse := sealed_any w3.heap.size A3 c3 bo w8 hT8 ho8 (by omega) hc3 (by omega)
      have HSE := Lib.hid hse
      have HG3 := Lib.hid g3
      clear hse g3
      go_wp2_with fail
      refine HSE.out.mono ?_
      rintro e w9 ⟨v9, rfl, hown9, hb9⟩
      obtain ⟨g, c9, rfl, hg9, hc9, hm9⟩ := own_some hown9 (by omega)
      have hsz9 := hb9.size
      have ho9 := shows_on ho8 (by omega) hb9
      have hT9 := hT8.below hb9 (by omega)
      have hB9 := hB8.trans (hb9.mono (by omega))
      clear ho8 hT8 hB8 hb9 HSE
      have htu : sealB bo = turned pre (suf ++ le4 (sumB (pre ++ [ba, bb, bc, bd] ++ suf))) ba bb bc bd u 0 := by
        unfold sealB
        rw [HCUT.out]
        simp [turned, quad]
      rw [htu] at hown9
      clear htu
      generalize hsf : suf ++ le4 (sumB (pre ++ [ba, bb, bc, bd] ++ suf)) = suf2 at *
      have HSF := Lib.hid hsf
      clear hsf t1 t2 t3 g1
      have hm9' : c9 ≤ 9223372036854775807 := hm9
      have hg2 : k + 4 ≤ bo.length := by omega
      clear g2
      go_wp2_with fail
      go_loopw [11] (fun j wr => ∃ i : Nat, i ≤ 4 ∧ j = .int .i64 (i : Int) ∧ wr.ownsRow w8.heap.size 5 1 (.slice (some ⟨g, 0, none⟩) (bo.length + 4) c9) (bo.length + 4) (cells8 (turned pre suf2 ba bb bc bd u i)) ∧ Below w8.heap.size w9 wr) (fun j _ => 4 - (intOf j).toNat)
      case atStart => exact ⟨0, Nat.zero_le _, rfl, hown9, Below.refl _ _⟩
      case round =>
        obtain ⟨i, hi4, rfl, hownr, hbr⟩ := hrel
        by_cases hlt : i < 4
        · have hget := turned_get pre suf2 ba bb bc bd u i hlt
          rw [HPRE.out] at hget
          have hcl : (cells8 (turned pre suf2 ba bb bc bd u i))[k + i]? = some (.int .u8 ((nth4 ba bb bc bd i).toNat : Int)) := by
            unfold cells8
            rw [List.getElem?_map, hget]
            rfl
          obtain ⟨hc1, hf1⟩ := own_cell hownr (k + i) _ hcl
          have hset := own_set hownr (k + i) (.int .u8 (((nth4 ba bb bc bd i ^^^ xb u i).toNat : Nat) : Int))
          rw [cells8_set, ← HPRE.out, turned_set pre suf2 ba bb bc bd u i hlt, HPRE.out] at hset
          have HSET := Lib.hid hset
          have hxb := xor_byte (nth4 ba bb bc bd i) u i
          clear hset hget hcl hown9 hownr
          generalize (nth4 ba bb bc bd i ^^^ xb u i).toNat = z at *
          generalize (nth4 ba bb bc bd i).toNat = y at *
          have hyl : (0 : Int) ≤ y := by omega
          rcases (show i = 0 ∨ i = 1 ∨ i = 2 ∨ i = 3 by omega) with rfl | rfl | rfl | rfl
          · rw [show ((u / 256 ^ 0 : Nat) : Int) = (u : Int) by omega] at hxb
            rw [Nat.add_zero] at hc1 hf1 HSET
            rw [show ((0 : Nat) : Int) = (0 : Int) from rfl]
            go_wp2
            go_roundw
            case rel => exact ⟨0 + 1, by omega, rfl, HSET.out, hbr.setCell hg9 _⟩
            case measure => simp [intOf]
          · rw [show ((u / 256 ^ 1 : Nat) : Int) = (u : Int) / 256 by omega] at hxb
            rw [show ((1 : Nat) : Int) = (1 : Int) from rfl]
            go_wp2
            go_roundw
            case rel => exact ⟨1 + 1, by omega, rfl, HSET.out, hbr.setCell hg9 _⟩
            case measure => simp [intOf]
          · rw [show ((u / 256 ^ 2 : Nat) : Int) = (u : Int) / 65536 by omega] at hxb
            rw [show ((2 : Nat) : Int) = (2 : Int) from rfl]
            go_wp2
            go_roundw
            case rel => exact ⟨2 + 1, by omega, rfl, HSET.out, hbr.setCell hg9 _⟩
            case measure => simp [intOf]
          · rw [show ((u / 256 ^ 3 : Nat) : Int) = (u : Int) / 16777216 by omega] at hxb
            have hx3 : (u : Int) / 16777216 % 256 = (u : Int) / 16777216 := by omega
            rw [hx3] at hxb
            rw [show ((3 : Nat) : Int) = (3 : Int) from rfl]
            go_wp2
            go_roundw
            case rel => exact ⟨3 + 1, by omega, rfl, HSET.out, hbr.setCell hg9 _⟩
            case measure => simp [intOf]
        · have : i = 4 := by omega
          subst this
          have hTL : (turned pre suf2 ba bb bc bd u 4).length = bo.length + 4 := by
            have := hownr.1
            rw [cells8_length] at this
            omega
          have hop : openB (turned pre suf2 ba bb bc bd u 4) = none := by
            rw [← HSF.out]
            exact turned_open pre suf ba bb bc bd u hu HG3.out
          have hsn : ¬ sumB ((turned pre suf2 ba bb bc bd u 4).take bo.length) = sumB bo := by
            have hl2 : bo.length = (turned pre suf ba bb bc bd u 4).length := by
              rw [turned_len, HCUT.out]
              simp
              omega
            rw [hl2, ← HSF.out, turned_app, List.take_left, HCUT.out]
            exact turned_sum pre suf ba bb bc bd u hu HG3.out
          have hox := Shows.owned hownr
          have hszr := hbr.size
          have hTr := hT9.below (hbr.mono (show 2 ≤ w8.heap.size by omega)) (by omega)
          have hor : Shows wr w3.heap.size A3 bo.length (cells8 bo) := ho9.moved fun p hp => hbr.cell (by omega)
          have hBr := hB9.trans (hbr.mono (by omega))
          generalize turned pre suf2 ba bb bc bd u 4 = tl at *
          have hopn := open_any wr.heap.size (some ⟨g, 0, none⟩) c9 tl wr hTr (by rw [hTL]; exact hox) (Nat.le_refl _) (by rw [hTL]; exact hc9) (by omega)
          rw [hop, hTL] at hopn
          have HOPN := Lib.hid hopn
          have HSN := Lib.hid hsn
          have HTL := Lib.hid hTL
          clear hopn hop hsn hownr hown9 hT9 hB9 ho9 HSF HCUT HPRE hTL
          go_wp2_with fail
          refine HOPN.out.mono ?_
          rintro e w10 ⟨hb10, rfl⟩
          have hsz10 := hb10.size
          have ho10 := shows_on hor (by omega) hb10
          have hx10 := shows_on hox (Nat.le_refl _) hb10
          have hx10' := hx10.upto (k := bo.length) (by omega)
          rw [← cells8_take] at hx10'
          have hT10 := hTr.below hb10 (by omega)
          have hB10 := hBr.trans (hb10.mono (by omega))
          have hlen : (tl.take bo.length).length = bo.length := by rw [List.length_take, HTL.out]; omega
          have hsm := sum_any wr.heap.size (some ⟨g, 0, none⟩) c9 (tl.take bo.length) w10 hT10 (by rw [hlen]; exact hx10') hsz10 (by omega)
          rw [hlen] at hsm
          have HSM := Lib.hid hsm
          clear hsm hlen hx10 hx10' hox hor hTr hBr HOPN hb10
          go_wp2_with fail
          refine HSM.out.mono ?_
          rintro e w11 ⟨rfl, hb11⟩
          have hsz11 := hb11.size
          have ho11 := shows_on ho10 (by omega) hb11
          have hT11 := hT10.below hb11 (by omega)
          have hB11 := hB10.trans (hb11.mono (by omega))
          clear ho10 hT10 hB10 hb11 HSM
          go_wp2_with fail
          refine (sum_any w3.heap.size A3 c3 bo w11 hT11 ho11 (by omega) (by omega)).mono ?_
          rintro e w12 ⟨rfl, hb12⟩
          have hne : (((sumB (tl.take bo.length) : Nat) : Int) != ((sumB bo : Nat) : Int)) = true := by have := HSN.out; simp; omega
          go_wp2
          go_ret
          exact ⟨rfl, hB11.trans (hb12.mono (by omega))⟩
    · by_cases b1 : at_ < 0
      · have t1 : decide (at_ < 0) = true := by simpa using b1
        clear hgood
        go_wp2
        go_ret
        exact ⟨rfl, hB8⟩
      · have t1 : decide (at_ < 0) = false := by simpa using b1
        by_cases b2 : (bo.length : Int) - 4 < at_
        · have t2 : decide ((bo.length : Int) - 4 < at_) = true := by simpa using b2
          clear hgood
          go_wp2
          go_ret
          exact ⟨rfl, hB8⟩
        · have t2 : decide ((bo.length : Int) - 4 < at_) = false := by simpa using b2
          have b3 : u = 0 := by
            rcases Nat.eq_zero_or_pos u with h | h
            · exact h
            · exact absurd ⟨by omega, by omega, by omega⟩ hgood
          subst b3
          clear hgood
          go_wp2
          go_ret
          exact ⟨rfl, hB8⟩
  · by_cases h1 : l.length ≤ 3000
    · have d1 : decide (3000 < (l.length : Int)) = false := by simp; omega
      have d2 : decide (3000 < (l'.length : Int)) = true := by simp; omega
      go_enter Tryd.func5, Tryd.ntmps5
      go_wp2_with (go_at_call 6; refine (known_any w hT).mono ?_; rintro e w1 ⟨rfl, hb1⟩)
      go_ret
      exact ⟨rfl, hb1⟩
    · have d1 : decide (3000 < (l.length : Int)) = true := by simp; omega
      go_enter Tryd.func5, Tryd.ntmps5
      go_wp2_with (go_at_call 6; refine (known_any w hT).mono ?_; rintro e w1 ⟨rfl, hb1⟩)
      go_ret
      exact ⟨rfl, hb1⟩
end Go.Proofs.YthjbchdpnlenjaaDoor
