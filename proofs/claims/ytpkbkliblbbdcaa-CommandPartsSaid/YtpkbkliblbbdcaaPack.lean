/- The walk of Pack of package wire. -/
import Derived.Test.YtpkbkliblbbdcaaPackS
import Derived.Test.YtpkbkliblbbdcaaPutb
namespace Go.Proofs.Ytpkbkliblbbdcaa
open Go.RowKit
set_option maxRecDepth 20000

set_option maxHeartbeats 2000000 in
theorem pack_any (s : ByteArray) (A : Option Addr) (n c : Nat) (vs : List Value) (ps : List PV) (w : World) (hs : s.size ≤ 1000) (hn : n ≤ 1000000)
    (hvs : Shows w w.heap.size A n vs) (hps : ps.length = n) (hiv : ∀ i (h : i < ps.length), ∃ v, vs[i]? = some v ∧ IV w w.heap.size v ps[i]) :
    Calls Try.prog 33 #[.string s, .slice A n c] w (Packed w (packR (bs s) ps)) := by
  obtain ⟨i0, hi, hz0, hz1, hz2⟩ := info_parts u8_info
  cases hm : mayS (bs s) with
  | false =>
    have hE : packR (bs s) ps = none := by simp [packR, hm]
    rw [hE]
    have HM := Lib.hid hm
    clear hm hE
    go_enter Try.func33, Try.ntmps33
    go_wp2_with fail
    refine (may_any s w).mono ?_
    rintro e w1 ⟨rfl, hb1⟩
    rw [HM.out]
    go_wp2_with fail
    go_ret2
    exact ⟨rfl, hb1⟩
  | true =>
    have HM := Lib.hid hm
    clear hm
    by_cases hns : n = s.size
    · subst hns
      have hE : packR (bs s) ps = packZ ((bs s).zip ps) := by rw [packR, if_pos ⟨HM.out, by rw [hps, bs_length]⟩]
      rw [hE]
      have HP := Lib.hid hps
      clear hE hps
      go_enter Try.func33, Try.ntmps33
      go_wp2_with fail
      refine (may_any s w).mono ?_
      rintro e w1 ⟨rfl, hb1⟩
      rw [HM.out]
      go_wp2_with fail
      refine (least_any s w1 (by omega)).mono ?_
      rintro e w2 ⟨rfl, hb2⟩
      have hlm : leastM (bs s) ≤ 256000 := by
        have := leastS_le (bs s)
        rw [bs_length] at this
        unfold leastM
        split <;> omega
      have hb12 : Below w.heap.size w w2 := hb1.trans (hb2.mono hb1.size)
      go_wp2_with (at_make; refine wpList_make_own _ rfl _ _ 24 rfl w.heap.size 5 i0 _ 1 Try.underlying24 hi hz0 hz1 _ _ _ (leastM (bs s)) rfl rfl rfl (by rw [hz2]; omega) (by unfold maxLen; omega) hb12.size ?_; intro w3 hown3 hg3)
      have hb3 : Below w.heap.size w w3 := hb12.grown hg3 hb12.size (by simp)
      have hown4 : (w3.iter s 0).ownsRow w.heap.size 5 1 (.slice (some ⟨w2.heap.size, 0, none⟩) 0 (leastM (bs s))) 0 [] := hown3.alloc _
      have hb4 : Below w.heap.size w (w3.iter s 0) := hb3.alloc hb3.size _
      have hit := World.iter_heap w3 s 0
      have hK : w.heap.size ≤ w3.heap.size := hb3.size
      clear hg3 hown3 hb3 hb12 hb1 hb2
      generalize w3.heap.size = K at *
      generalize w3.iter s 0 = w4 at *
      generalize (Value.slice (some ⟨w2.heap.size, 0, none⟩) 0 (leastM (bs s))) = v0 at *
      go_loopw [6] (fun v wr => ∃ (pos : Nat) (acc : List UInt8), pos ≤ s.size ∧ wr.heap[K]? = some (.stringIter s pos) ∧ wr.ownsRow w.heap.size 5 1 v acc.length (cells8 acc) ∧ Below w.heap.size w wr ∧ Hid (packZ (((bs s).zip ps).take pos) = some acc)) (fun _ wr => s.size - wr.iterPos K)
      case atStart => exact ⟨0, [], Nat.zero_le _, hit, hown4, hb4, rfl⟩
      case round =>
        obtain ⟨pos, acc, hp, hitr, hown, hbr, HA⟩ := hrel
        have hpos0 := iterPos_at hitr
        have HP0 := Lib.hid hpos0
        clear hpos0 hit hown4 hb4
        by_cases hlt : pos < s.size
        · have hpl : pos < ps.length := by rw [HP.out]; exact hlt
          have hnx : ∀ ty, (Instr.next (.pointer (some ⟨K, 0, none⟩)) true ty).run Try.prog wr = _ := fun ty => Lib.run_next_any_at wr K s pos ty hitr hlt
          have hd := rune_of s pos hlt (mayS_at s pos hlt HM.out)
          simp only [hd] at hnx
          clear hd
          have hit2 := Lib.iterAt_heap wr K s pos (pos + 1) hitr
          have hbr2 := Lib.below_iterAt hbr (k := K) hK s (pos + 1)
          have hown2 := row_iterAt hown hitr (pos + 1)
          have hacc := packZ_bound s ps pos HA.out (by omega)
          generalize wr.iterAt K s (pos + 1) = W1 at *
          obtain ⟨u, hu, hiu⟩ := hiv pos hpl
          have hiu2 := hiu.below hbr2
          obtain ⟨p, u', rfl, hpb, hu', hcell⟩ := (hvs.below hbr2).cell hlt
          have hcell2 : W1.cell? (p.add pos) = some u := by rw [hcell, ← hu', hu]
          have HIV := Lib.hid hiu2
          clear hitr hown hbr hu hiu hu' hcell hiu2 hiv
          cases he : enc1 ((s[pos]'hlt).toNat : Int) ps[pos] with
          | none =>
            have HE := Lib.hid he
            clear he
            go_wp2_with fail
            refine (appendValue_any w.heap.size _ acc.length (cells8 acc) _ u ps[pos] W1 hown2 hbr2.size (by omega) HIV.out).mono ?_
            rw [HE.out]
            rintro e w5 ⟨rfl, hb5⟩
            go_wp2_with fail
            go_ret2
            rw [packZ_stop s ps pos hlt hpl HA.out HE.out]
            exact ⟨rfl, hbr2.trans (hb5.mono hbr2.size)⟩
          | some a =>
            have HE := Lib.hid he
            clear he
            go_wp2_with fail
            refine (appendValue_any w.heap.size _ acc.length (cells8 acc) _ u ps[pos] W1 hown2 hbr2.size (by omega) HIV.out).mono ?_
            rw [HE.out]
            rintro e w5 ⟨v5, rfl, hown5, hg5⟩
            have hit5 := grew_iter hg5 hown2 hit2
            have hb5 : Below w.heap.size w w5 := hbr2.trans (hg5.below hown2 (Nat.le_refl _) hbr2.size)
            rw [← cells8_append, ← List.length_append] at hown5
            clear hg5 hown2 hit2 hbr2 hnx hcell2
            go_wp2_with fail
            go_roundw
            case rel => exact ⟨pos + 1, acc ++ a, hlt, hit5, hown5, hb5, packZ_go s ps pos hlt hpl HA.out HE.out⟩
            case measure => rw [iterPos_at hit5, HP0.out]; omega
        · have hnx : ∀ ty, (Instr.next (.pointer (some ⟨K, 0, none⟩)) true ty).run Try.prog wr = _ := fun ty => Lib.run_next_end_at wr K s pos ty hitr hlt
          obtain rfl : pos = s.size := by omega
          go_wp2_with fail
          go_ret2
          rw [packZ_all s ps HA.out]
          exact ⟨_, rfl, hown, hbr⟩
    · have hE : packR (bs s) ps = none := by rw [packR, if_neg]; rintro ⟨_, h⟩; rw [hps, bs_length] at h; exact hns h
      rw [hE]
      clear hE hps
      have hd : ((n : Int) != (s.size : Int)) = true := by simpa using (by omega : ¬ (n : Int) = (s.size : Int))
      go_enter Try.func33, Try.ntmps33
      go_wp2_with fail
      refine (may_any s w).mono ?_
      rintro e w1 ⟨rfl, hb1⟩
      rw [HM.out]
      go_wp2_with fail
      go_ret2
      exact ⟨rfl, hb1⟩

end Go.Proofs.Ytpkbkliblbbdcaa
