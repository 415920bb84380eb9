/- The walk of the document's Unhex. -/
import Derived.Test.YthjbchdpnlenjaaHexb
namespace Go.Proofs.Ythjbchdpnlenjaa
open Go.RowKit

theorem below_drewN {B : Nat} {a w : World} (h : Below B a w) (n : Nat) : Below B a (w.drewN n) := ⟨h.os, h.tape, h.output, h.size, h.block⟩
theorem own_drewN {w : World} {base n : Nat} {e : TypeId} {v : Value} {xs : List Value} (h : w.ownsRow base e 1 v n xs) (k : Nat) : (w.drewN k).ownsRow base e 1 v n xs := h

theorem digit_byte (c : UInt8) (w : World) : Calls Try.prog 43 #[.int .u8 (c.toNat : Int)] w fun e w' => e = .returned (.int .i64 (hexV (c.toNat : Int))) ∧ w' = w :=
  digit_any _ w (byte_small c).1 (byte_small c).2

set_option maxHeartbeats 2000000 in
theorem runhex_any (s : ByteArray) (w : World) (hs : s.size ≤ 1000000) :
    Calls Try.prog 24 #[.string s] w (Unhexed w (unhexR s)) := by
  obtain ⟨i0, hi, hz0, hz1, hz2⟩ := info_parts u8_info
  by_cases ho : s.size % 2 = 0
  · have HO := Lib.hid ho
    have hd : (((s.size : Int) % 2) == 1) = false := by simp; omega
    clear ho
    go_enter Try.func24, Try.ntmps24
    go_wp2_with fail
    go_loopw [4, 5] (fun v j wr => ∃ i k : Nat, Hid (i = 2 * k) ∧ i ≤ s.size ∧ j = .int .i64 (i : Int) ∧ wr.ownsRow w.heap.size 5 1 v k (cells8 ((List.range k).map (byP s))) ∧ Below w.heap.size w wr ∧ Hid ((List.range k).all (okP s) = true)) (fun _ j _ => s.size - (intOf j).toNat)
    case atStart => exact ⟨0, 0, rfl, Nat.zero_le _, rfl, World.ownsRow_nil _ _ _ _, Below.refl _ _, rfl⟩
    case round =>
      obtain ⟨i, k, HI, hp, rfl, hown, hbr, HA⟩ := hrel
      have hik : i = 2 * k := HI.out
      have hkb : k ≤ 500000 := by omega
      by_cases hlt : i < s.size
      · have hlt1 : i + 1 < s.size := by have := HO.out; omega
        have hkh : k < s.size / 2 := by omega
        have HKH := Lib.hid hkh
        have b0 := byte_small (s[i]'hlt)
        have b1 := byte_small (s[i + 1]'hlt1)
        have HOK := Lib.hid (okP_i s i k hik hlt hlt1)
        have hi1 : (i : Int) < (s.size : Int) := by omega
        have hi2 : (i : Int) + 1 < (s.size : Int) := by omega
        have hi3 : IntKind.i64.wrap ((i : Int) + 1) = (i : Int) + 1 := by rw [IntKind.wrap_i64]; omega
        have hi4 : ((i : Int) + 1).toNat = i + 1 := by omega
        have hi5 : (0 : Int) ≤ (i : Int) + 1 := by omega
        clear hik hkh
        go_wp2_with fail
        go_quiet ((go_at_call 43; exact Calls.quiet_of_same (digit_byte _ _)))
        have hown1 := own_drewN hown nq
        have hbr1 := below_drewN hbr nq
        have v0 := hexV_bounds ((s[i]'hlt).toNat : Int)
        have v1 := hexV_bounds ((s[i + 1]'hlt1).toNat : Int)
        generalize wr.drewN nq = W1 at *
        clear hown hbr
        (try clear hi3)
        (try clear hi4)
        by_cases h1 : hexV ((s[i]'hlt).toNat : Int) < 16
        · by_cases h2 : hexV ((s[i + 1]'hlt1).toNat : Int) < 16
          · have HB := Lib.hid (byP_i s i k HI.out hlt hlt1 h1 h2)
            have hd1 : decide (15 < hexV ((s[i]'hlt).toNat : Int)) = false := by simp; omega
            have hd2 : decide (15 < hexV ((s[i + 1]'hlt1).toNat : Int)) = false := by simp; omega
            generalize hexV ((s[i]'hlt).toNat : Int) = x at *
            generalize hexV ((s[i + 1]'hlt1).toNat : Int) = y at *
            go_wp2_with (at_builtin; refine wpList_append_shows _ rfl (.tmp 33) (.tmp 39) 25 rfl w.heap.size 5 i0 (.int .u8 0) 1 Try.underlying25 hi hz0 hz1 hz2 rfl _ _ _ rfl (hown1.alloc _) (W1.heap.size + 1) _ 1 1 [.int .u8 (16 * x + y)] rfl (shows_new W1 _ _) (by simp [Value.oneCell']) (by unfold maxLen; omega) (by omega) (by have := hbr1.size; simp; omega) ?_; intro v' w1 hown' hgrow)
            rw [← HB.out] at hown'
            have hgr : Grew W1 w1 _ v' := ((Grew.refl W1 _).alloc _).trans hgrow
            have hb1 : Below w.heap.size w w1 := hbr1.trans (hgr.below hown1 (Nat.le_refl _) hbr1.size)
            clear hgr hgrow hown1
            go_roundw
            case rel =>
              refine ⟨i + 2, k + 1, ?_, ?_, by go_num, ?_, hb1, ?_⟩
              · have := HI.out; show _ = _; omega
              · omega
              · rw [range_byP, cells8_append]; exact hown'
              · exact range_okP s k HA.out (by rw [HOK.out]; simp [h1, h2])
            case measure => simp [intOf]; omega
          · have HN := Lib.hid (unhex_bad s k HKH.out (by rw [HOK.out]; simp [h2]))
            have hd1 : decide (15 < hexV ((s[i]'hlt).toNat : Int)) = false := by simp; omega
            go_wp2_with fail
            go_ret2
            rw [HN.out]
            exact ⟨hbr1, rfl⟩
        · have HN := Lib.hid (unhex_bad s k HKH.out (by rw [HOK.out]; simp [h1]))
          go_wp2_with fail
          go_ret2
          rw [HN.out]
          exact ⟨hbr1, rfl⟩
      · obtain rfl : i = s.size := by omega
        have hk2 : k = s.size / 2 := by omega
        have HG := Lib.hid (unhex_good s HO.out (by rw [← hk2]; exact HA.out))
        have HK2 := Lib.hid hk2
        clear hik hk2
        go_wp2_with fail
        go_ret2
        rw [HG.out]
        refine ⟨hbr, _, rfl, ?_⟩
        rw [← HK2.out, List.length_map, List.length_range]
        exact hown
  · rw [unhex_odd s ho]
    have hd : (((s.size : Int) % 2) == 1) = true := by simp; omega
    clear ho
    go_enter Try.func24, Try.ntmps24
    go_wp2_with fail
    go_ret2
    exact ⟨Below.refl _ _, rfl⟩

end Go.Proofs.Ythjbchdpnlenjaa
