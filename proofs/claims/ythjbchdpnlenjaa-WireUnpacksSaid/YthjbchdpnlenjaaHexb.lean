/- The walk of Unhex of package wire. -/
import Derived.Test.YthjbchdpnlenjaaHexa
namespace Go.Proofs.Ythjbchdpnlenjaa
open Go.RowKit

theorem range_okP (s : ByteArray) (k : Nat) (h : (List.range k).all (okP s) = true) (hk : okP s k = true) : (List.range (k + 1)).all (okP s) = true := by
  rw [List.range_succ, List.all_append, h]
  simp [hk]
theorem range_byP (s : ByteArray) (k : Nat) : (List.range (k + 1)).map (byP s) = (List.range k).map (byP s) ++ [byP s k] := by
  rw [List.range_succ, List.map_append]
  rfl
theorem unhex_odd (s : ByteArray) (h : ¬ s.size % 2 = 0) : unhexR s = none := by rw [unhexR, if_neg (fun x => h x.1)]
theorem unhex_bad (s : ByteArray) (k : Nat) (hk : k < s.size / 2) (h : okP s k = false) : unhexR s = none := by
  rw [unhexR, if_neg]
  rintro ⟨_, ha⟩
  rw [List.all_eq_true] at ha
  have := ha k (List.mem_range.2 hk)
  rw [h] at this
  cases this
theorem unhex_good (s : ByteArray) (h : s.size % 2 = 0) (ha : (List.range (s.size / 2)).all (okP s) = true) : unhexR s = some ((List.range (s.size / 2)).map (byP s)) := by
  rw [unhexR, if_pos ⟨h, ha⟩]
theorem okP_at (s : ByteArray) (k : Nat) (h1 : 2 * k < s.size) (h2 : 2 * k + 1 < s.size) : okP s k = (decide (hexV ((s[2 * k]'h1).toNat : Int) < 16) && decide (hexV ((s[2 * k + 1]'h2).toNat : Int) < 16)) := by
  rw [okP, bs_getD s _ h1, bs_getD s _ h2]
theorem byP_at (s : ByteArray) (k : Nat) (h1 : 2 * k < s.size) (h2 : 2 * k + 1 < s.size) (hok : okP s k = true) : ((byP s k).toNat : Int) = 16 * hexV ((s[2 * k]'h1).toNat : Int) + hexV ((s[2 * k + 1]'h2).toNat : Int) := by
  rw [okP_at s k h1 h2] at hok
  simp only [Bool.and_eq_true, decide_eq_true_eq] at hok
  have b1 := hexV_bounds ((s[2 * k]'h1).toNat : Int)
  have b2 := hexV_bounds ((s[2 * k + 1]'h2).toNat : Int)
  rw [byP, bs_getD s _ h1, bs_getD s _ h2]
  generalize hexV ((s[2 * k]'h1).toNat : Int) = x at *
  generalize hexV ((s[2 * k + 1]'h2).toNat : Int) = y at *
  simp only [UInt8.toNat_ofNat']
  omega

theorem okP_i (s : ByteArray) (i k : Nat) (hk : i = 2 * k) (h1 : i < s.size) (h2 : i + 1 < s.size) : okP s k = (decide (hexV ((s[i]'h1).toNat : Int) < 16) && decide (hexV ((s[i + 1]'h2).toNat : Int) < 16)) := by
  subst hk
  exact okP_at s k h1 h2
theorem byP_i (s : ByteArray) (i k : Nat) (hk : i = 2 * k) (h1 : i < s.size) (h2 : i + 1 < s.size) (ha : hexV ((s[i]'h1).toNat : Int) < 16) (hb : hexV ((s[i + 1]'h2).toNat : Int) < 16) : ((byP s k).toNat : Int) = 16 * hexV ((s[i]'h1).toNat : Int) + hexV ((s[i + 1]'h2).toNat : Int) := by
  subst hk
  exact byP_at s k h1 h2 (by rw [okP_at s k h1 h2]; simp [ha, hb])
theorem u8_pair (x y : Int) (h1 : 0 ≤ x) (h2 : x < 16) (h3 : 0 ≤ y) (h4 : y < 16) : bits .or .u8 (x * 16) y = 16 * x + y := by
  obtain ⟨a, rfl⟩ := Int.eq_ofNat_of_zero_le h1
  obtain ⟨b, rfl⟩ := Int.eq_ofNat_of_zero_le h3
  have ha : a < 16 := by omega
  have hb : b < 16 := by omega
  have key : ∀ a, a < 16 → ∀ b, b < 16 → bits .or .u8 ((a : Nat) * 16 : Int) ((b : Nat) : Int) = 16 * ((a : Nat) : Int) + ((b : Nat) : Int) := by decide
  exact key a ha b hb
theorem byte_small (c : UInt8) : 0 ≤ (c.toNat : Int) ∧ (c.toNat : Int) ≤ 255 := by have := c.toNat_lt; omega

set_option maxHeartbeats 2000000 in
theorem unhex_any (s : ByteArray) (w : World) (hs : s.size ≤ 1000000) :
    Calls Try.prog 23 #[.string s] w (Unhexed w (unhexR s)) := by
  obtain ⟨i0, hi, hz0, hz1, hz2⟩ := info_parts u8_info
  by_cases ho : s.size % 2 = 0
  · have HO := Lib.hid ho
    have hd : (((s.size : Int) % 2) != 0) = false := by simp; omega
    clear ho
    go_enter Try.func23, Try.ntmps23
    go_wp2_with (at_make; refine wpList_make_own _ rfl _ _ 25 rfl w.heap.size 5 i0 _ 1 Try.underlying25 hi hz0 hz1 _ _ _ (s.size / 2) rfl rfl (by omega) (by rw [hz2]; omega) (by unfold maxLen; omega) (Nat.le_refl _) ?_; intro w3 hown3 hg3)
    have hb3 : Below w.heap.size w w3 := (Below.refl _ _).grown hg3 (Nat.le_refl _) (by simp)
    clear hg3
    go_loopw [4, 5] (fun v j wr => ∃ i k : Nat, Hid (i = 2 * k) ∧ i ≤ s.size ∧ j = .int .i64 (i : Int) ∧ wr.ownsRow w.heap.size 5 1 v k (cells8 ((List.range k).map (byP s))) ∧ Below w.heap.size w wr ∧ Hid ((List.range k).all (okP s) = true)) (fun _ j _ => s.size - (intOf j).toNat)
    case atStart => exact ⟨0, 0, rfl, Nat.zero_le _, rfl, hown3, hb3, rfl⟩
    case round =>
      obtain ⟨i, k, HI, hp, rfl, hown, hbr, HA⟩ := hrel
      have hik : i = 2 * k := HI.out
      have hkb : k ≤ 500000 := by omega
      by_cases hlt : i < s.size
      · have hlt1 : i + 1 < s.size := by have := HO.out; omega
        have hkh : k < s.size / 2 := by omega
        have HKH := Lib.hid hkh
        have b0 := byte_small (s[i]'hlt)
        have b1 := byte_small (s[i + 1]'hlt1)
        have HOK := Lib.hid (okP_i s i k hik hlt hlt1)
        clear hik hkh
        by_cases h1 : hexV ((s[i]'hlt).toNat : Int) < 16
        · by_cases h2 : hexV ((s[i + 1]'hlt1).toNat : Int) < 16
          · have HB := Lib.hid (byP_i s i k HI.out hlt hlt1 h1 h2)
            have v0 := hexV_bounds ((s[i]'hlt).toNat : Int)
            have v1 := hexV_bounds ((s[i + 1]'hlt1).toNat : Int)
            go_wp2_with fail
            refine (hexDigit_yes _ _ b0.1 b0.2 h1).mono ?_
            rintro e w' ⟨rfl, rfl⟩
            go_wp2_with fail
            refine (hexDigit_yes _ _ b1.1 b1.2 h2).mono ?_
            rintro e w' ⟨rfl, rfl⟩
            go_wp2_with (at_builtin; refine wpList_append_shows _ rfl (.tmp 45) (.tmp 50) 25 rfl w.heap.size 5 i0 (.int .u8 0) 1 Try.underlying25 hi hz0 hz1 hz2 rfl _ _ _ rfl (hown.alloc _) (wr.heap.size + 1) _ 1 1 [.int .u8 (bits .or .u8 (hexV ((s[i]'hlt).toNat : Int) * 16) (hexV ((s[i + 1]'hlt1).toNat : Int)))] rfl (shows_new wr _ _) (by simp [Value.oneCell']) (by unfold maxLen; omega) (by omega) (by have := hbr.size; simp; omega) ?_; intro v' w1 hown' hgrow)
            rw [u8_pair _ _ v0.1 h1 v1.1 h2, ← HB.out] at hown'
            have hgr : Grew wr w1 _ v' := ((Grew.refl wr _).alloc _).trans hgrow
            have hb1 : Below w.heap.size w w1 := hbr.trans (hgr.below hown (Nat.le_refl _) hbr.size)
            clear hgr hgrow hown
            go_roundw
            case rel =>
              refine ⟨i + 2, k + 1, ?_, ?_, by go_num, ?_, hb1, ?_⟩
              · have := HI.out; show _ = _; omega
              · omega
              · rw [range_byP, cells8_append]; exact hown'
              · exact range_okP s k HA.out (by rw [HOK.out]; simp [h1, h2])
            case measure => simp [intOf]; omega
          · have HN := Lib.hid (unhex_bad s k HKH.out (by rw [HOK.out]; simp [h2]))
            go_wp2_with fail
            refine (hexDigit_yes _ _ b0.1 b0.2 h1).mono ?_
            rintro e w' ⟨rfl, rfl⟩
            go_wp2_with fail
            refine (hexDigit_no _ _ b1.1 b1.2 (by omega)).mono ?_
            rintro e w' ⟨rfl, rfl⟩
            go_wp2_with fail
            go_ret2
            rw [HN.out]
            exact ⟨hbr, rfl⟩
        · have HN := Lib.hid (unhex_bad s k HKH.out (by rw [HOK.out]; simp [h1]))
          by_cases h2 : hexV ((s[i + 1]'hlt1).toNat : Int) < 16
          · go_wp2_with fail
            refine (hexDigit_no _ _ b0.1 b0.2 (by omega)).mono ?_
            rintro e w' ⟨rfl, rfl⟩
            go_wp2_with fail
            refine (hexDigit_yes _ _ b1.1 b1.2 h2).mono ?_
            rintro e w' ⟨rfl, rfl⟩
            go_wp2_with fail
            go_ret2
            rw [HN.out]
            exact ⟨hbr, rfl⟩
          · go_wp2_with fail
            refine (hexDigit_no _ _ b0.1 b0.2 (by omega)).mono ?_
            rintro e w' ⟨rfl, rfl⟩
            go_wp2_with fail
            refine (hexDigit_no _ _ b1.1 b1.2 (by omega)).mono ?_
            rintro e w' ⟨rfl, rfl⟩
            go_wp2_with fail
            go_ret2
            rw [HN.out]
            exact ⟨hbr, rfl⟩
      · obtain rfl : i = s.size := by omega
        have hk2 : k = s.size / 2 := by omega
        have HG := Lib.hid (unhex_good s HO.out (by rw [← hk2]; exact HA.out))
        have HK2 := Lib.hid hk2
        clear hik hk2
        go_wp2_with fail
        go_ret2
        rw [HG.out]
        refine ⟨hbr, _, rfl, ?_⟩
        rw [← HK2.out, List.length_map, List.length_range]
        exact hown
  · rw [unhex_odd s ho]
    have hd : (((s.size : Int) % 2) != 0) = true := by simp; omega
    clear ho
    go_enter Try.func23, Try.ntmps23
    go_wp2_with fail
    go_ret2
    exact ⟨Below.refl _ _, rfl⟩

end Go.Proofs.Ythjbchdpnlenjaa
