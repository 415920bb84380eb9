/- The walk of the document's Decimal. -/
import Derived.Test.YtfkjgebbaahnmaaDeca
namespace Go.Proofs.Ytfkjgebbaahnmaa
open Go.RowKit

theorem decV_scale (l r : List UInt8) : decV l * 10 ^ r.length ≤ decV (l ++ r) := by
  induction r generalizing l with
  | nil => simp
  | cons b r ih =>
    have h1 := decV_snoc l b
    have h2 := ih (l ++ [b])
    rw [List.append_assoc] at h2
    simp only [List.cons_append, List.nil_append] at h2
    have h3 : decV l * 10 ^ (b :: r).length = 10 * decV l * 10 ^ r.length := by rw [List.length_cons, Nat.pow_succ, Nat.mul_comm (10 ^ r.length) 10, ← Nat.mul_assoc, Nat.mul_comm (decV l) 10]
    have h4 : 10 * decV l * 10 ^ r.length ≤ decV (l ++ [b]) * 10 ^ r.length := Nat.mul_le_mul_right _ (by omega)
    omega
theorem decR_long (s : ByteArray) (most : Nat) (hm : most < 18446744073709551616) (h : 20 < s.size) (hno : nought s = false) : decR s most = none := by
  rw [decR, if_neg]
  rintro ⟨_, _, hd, hv⟩
  rw [nought_at s (by omega)] at hno
  have hne : (s[0]'(by omega)).toNat ≠ 48 := by
    intro e
    rw [e] at hno
    cases hno
  have hg : 48 ≤ (s[0]'(by omega)).toNat ∧ (s[0]'(by omega)).toNat ≤ 57 := by
    rw [digits, List.all_eq_true] at hd
    have := hd _ (List.getElem_mem (l := bs s) (n := 0) (by rw [bs_length]; omega))
    rw [bs_get s 0 (by omega)] at this
    simpa using this
  have h1 : (bs s).take 1 = [s[0]'(by omega)] := by
    have := bs_take s 0 (by omega)
    simpa using this
  have h2 := decV_scale ((bs s).take 1) ((bs s).drop 1)
  rw [List.take_append_drop, h1, List.length_drop, bs_length] at h2
  have h3 : 1 ≤ decV [s[0]'(by omega)] := by simp [decV]; omega
  have h4 : 10 ^ 20 ≤ 10 ^ (s.size - 1) := Nat.pow_le_pow_right (by omega) (by omega)
  have h5 : 1 * 10 ^ (s.size - 1) ≤ decV [s[0]'(by omega)] * 10 ^ (s.size - 1) := Nat.mul_le_mul_right _ h3
  omega

set_option maxHeartbeats 4000000 in
theorem rdecimal_any (s : ByteArray) (most : Nat) (w : World) (hm : most < 18446744073709551616) (hs : s.size ≤ 1000000) :
    Calls Try.prog 26 #[.string s, .int .u64 (most : Int)] w fun e w' => e = decAns (decR s most) ∧ w = w' := by
  by_cases h0 : 0 < s.size
  · have hemp := text_some s h0
    by_cases h1 : 1 < s.size
    · have hna := nought_at s h1
      cases hno : nought s with
      | true =>
        have HR := Lib.hid (decR_nought s most hno)
        rw [hno] at hna
        have hna2 := hna.symm
        clear hno hna
        go_enter Try.func26, Try.ntmps26
        go_wp2
        go_ret2
        rw [HR.out]
        exact ⟨rfl, rfl⟩
      | false =>
        have HN := Lib.hid hno
        rw [hno] at hna
        have hna2 := hna.symm
        clear hno hna
        by_cases h20 : 20 < s.size
        · have HR := Lib.hid (decR_long s most hm h20 HN.out)
          go_enter Try.func26, Try.ntmps26
          go_wp2
          go_ret2
          rw [HR.out]
          exact ⟨rfl, rfl⟩
        · have h20d : decide ((20 : Int) < (s.size : Int)) = false := by simp; omega
          go_enter Try.func26, Try.ntmps26
          go_wp2
          go_loop [6, 7] (fun v j => ∃ i n : Nat, i ≤ s.size ∧ j = .int .i64 (i : Int) ∧ v = .int .u64 (n : Int) ∧ n ≤ 18446744073709551615 ∧ Hid (digits ((bs s).take i) = true) ∧ Hid (decV ((bs s).take i) = n)) (fun _ j => s.size - (intOf j).toNat)
          case atStart => exact ⟨0, 0, Nat.zero_le _, rfl, rfl, Nat.zero_le _, rfl, rfl⟩
          case round =>
            obtain ⟨i, n, hp, rfl, rfl, hnm, HD, HV⟩ := hrel
            by_cases hlt : i < s.size
            · have hil : (i : Int) < (s.size : Int) := by omega
              by_cases hb : 48 ≤ (s[i]'hlt).toNat ∧ (s[i]'hlt).toNat ≤ 57
              · have HD2 := Lib.hid (digits_step s i hlt HD.out hb)
                have hv2 := decV_step s i hlt
                rw [HV.out] at hv2
                have HV2 := Lib.hid hv2
                clear hv2 HD
                have b1 : (48 : Int) ≤ ((s[i]'hlt).toNat : Int) := by omega
                have b2 : ((s[i]'hlt).toNat : Int) ≤ 57 := by omega
                have bd1 : decide (((s[i]'hlt).toNat : Int) < 48) = false := by simp; omega
                have bd2 : decide ((57 : Int) < ((s[i]'hlt).toNat : Int)) = false := by simp; omega
                by_cases h2 : (18446744073709551615 - ((s[i]'hlt).toNat - 48)) / 10 < n
                · have HR := Lib.hid (decR_great s most (i + 1) (by rw [HV2.out]; omega))
                  go_wp2
                  go_ret2
                  rw [HR.out]
                  exact ⟨rfl, rfl⟩
                · have hle : 10 * n + ((s[i]'hlt).toNat - 48) ≤ 18446744073709551615 := by omega
                  go_wp2
                  go_round
                  case rel => exact ⟨i + 1, 10 * n + ((s[i]'hlt).toNat - 48), hlt, by go_num, val_int (by omega), hle, HD2, HV2⟩
                  case measure => simp [intOf]; omega
              · have HR := Lib.hid (decR_letter s most i hlt hb)
                by_cases hl : (s[i]'hlt).toNat < 48
                · clear hb
                  go_wp2
                  go_ret2
                  rw [HR.out]
                  exact ⟨rfl, rfl⟩
                · have hl2 : 57 < (s[i]'hlt).toNat := by omega
                  have bd1 : decide (((s[i]'hlt).toNat : Int) < 48) = false := by simp; omega
                  clear hb
                  go_wp2
                  go_ret2
                  rw [HR.out]
                  exact ⟨rfl, rfl⟩
            · obtain rfl : i = s.size := by omega
              have h5 := HV.out
              have h6 := HD.out
              rw [bs_all] at h5 h6
              by_cases hg : most < n
              · have HR := Lib.hid (decR_great s most s.size (by rw [HV.out]; exact hg))
                clear h5 h6
                go_wp2
                go_ret2
                rw [HR.out]
                exact ⟨rfl, rfl⟩
              · have HR := Lib.hid (decR_good s most h0 HN.out h6 (by rw [h5]; omega))
                have H5 := Lib.hid h5
                clear h5 h6
                go_wp2
                go_ret2
                rw [HR.out, H5.out]
                exact ⟨rfl, rfl⟩
    · have HN := Lib.hid (show nought s = false by simp [nought, h1])
      have h1d : decide ((1 : Int) < (s.size : Int)) = false := by simp; omega
      have h20d : decide ((20 : Int) < (s.size : Int)) = false := by simp; omega
      go_enter Try.func26, Try.ntmps26
      go_wp2
      go_loop [6, 7] (fun v j => ∃ i n : Nat, i ≤ s.size ∧ j = .int .i64 (i : Int) ∧ v = .int .u64 (n : Int) ∧ n ≤ 18446744073709551615 ∧ Hid (digits ((bs s).take i) = true) ∧ Hid (decV ((bs s).take i) = n)) (fun _ j => s.size - (intOf j).toNat)
      case atStart => exact ⟨0, 0, Nat.zero_le _, rfl, rfl, Nat.zero_le _, rfl, rfl⟩
      case round =>
        obtain ⟨i, n, hp, rfl, rfl, hnm, HD, HV⟩ := hrel
        by_cases hlt : i < s.size
        · have hil : (i : Int) < (s.size : Int) := by omega
          by_cases hb : 48 ≤ (s[i]'hlt).toNat ∧ (s[i]'hlt).toNat ≤ 57
          · have HD2 := Lib.hid (digits_step s i hlt HD.out hb)
            have hv2 := decV_step s i hlt
            rw [HV.out] at hv2
            have HV2 := Lib.hid hv2
            clear hv2 HD
            have b1 : (48 : Int) ≤ ((s[i]'hlt).toNat : Int) := by omega
            have b2 : ((s[i]'hlt).toNat : Int) ≤ 57 := by omega
            have bd1 : decide (((s[i]'hlt).toNat : Int) < 48) = false := by simp; omega
            have bd2 : decide ((57 : Int) < ((s[i]'hlt).toNat : Int)) = false := by simp; omega
            by_cases h2 : (18446744073709551615 - ((s[i]'hlt).toNat - 48)) / 10 < n
            · have HR := Lib.hid (decR_great s most (i + 1) (by rw [HV2.out]; omega))
              go_wp2
              go_ret2
              rw [HR.out]
              exact ⟨rfl, rfl⟩
            · have hle : 10 * n + ((s[i]'hlt).toNat - 48) ≤ 18446744073709551615 := by omega
              go_wp2
              go_round
              case rel => exact ⟨i + 1, 10 * n + ((s[i]'hlt).toNat - 48), hlt, by go_num, val_int (by omega), hle, HD2, HV2⟩
              case measure => simp [intOf]; omega
          · have HR := Lib.hid (decR_letter s most i hlt hb)
            by_cases hl : (s[i]'hlt).toNat < 48
            · clear hb
              go_wp2
              go_ret2
              rw [HR.out]
              exact ⟨rfl, rfl⟩
            · have hl2 : 57 < (s[i]'hlt).toNat := by omega
              have bd1 : decide (((s[i]'hlt).toNat : Int) < 48) = false := by simp; omega
              clear hb
              go_wp2
              go_ret2
              rw [HR.out]
              exact ⟨rfl, rfl⟩
        · obtain rfl : i = s.size := by omega
          have h5 := HV.out
          have h6 := HD.out
          rw [bs_all] at h5 h6
          by_cases hg : most < n
          · have HR := Lib.hid (decR_great s most s.size (by rw [HV.out]; exact hg))
            clear h5 h6
            go_wp2
            go_ret2
            rw [HR.out]
            exact ⟨rfl, rfl⟩
          · have HR := Lib.hid (decR_good s most h0 HN.out h6 (by rw [h5]; omega))
            have H5 := Lib.hid h5
            clear h5 h6
            go_wp2
            go_ret2
            rw [HR.out, H5.out]
            exact ⟨rfl, rfl⟩
  · have HR := Lib.hid (decR_empty s most (by omega))
    have hemp := text_none s (by omega)
    go_enter Try.func26, Try.ntmps26
    go_wp2
    go_ret2
    rw [HR.out]
    exact ⟨rfl, rfl⟩

end Go.Proofs.Ytfkjgebbaahnmaa
