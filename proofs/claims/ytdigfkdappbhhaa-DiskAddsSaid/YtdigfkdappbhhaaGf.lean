/- DiskAdds, walked. -/
import Derived.Test.YtdigfkdappbhhaaGe
set_option linter.unusedVariables false
namespace Go.Proofs.Ytdigfkdappbhhaa
open Go.RowKit

set_option maxRecDepth 10000 in
set_option maxHeartbeats 4000000 in
theorem adds_law (w : World) (n : Int) (A : Option Addr) (cap : Nat) (l : List ST) (to : Int) (c : UInt8) (hv : SRow w w.heap.size A l) (hl : ∀ s ∈ l, s.ok) (hlen : l.length ≤ 9223372036854775807) :
    Calls Try.prog 7 #[.int .i64 n, .slice A l.length cap, .int .i64 to, .int .u8 (c.toNat : Int)] w fun e w' => e = .returned (.bool true) ∧ Below w.heap.size w w' := by
  have hK := Lib.hid (known_b w w (Below.refl _ _))
  have hM : Hid (Calls Try.prog 10 #[.slice A l.length cap, .int .i64 30] w fun e w' => e = .returned (.bool (muchS l 30)) ∧ w = w') := much_any A cap l 30 w w.heap.size hv hlen
  by_cases h1 : n < 1
  · clear hv hl
    go_enter Try.func7, Try.ntmps7
    go_wp2_with (first
      | (go_at_call 10; (with_reducible refine hM.out.mono ?_); rintro e wc ⟨rfl, rfl⟩)
      | (go_at_call 11; (with_reducible refine hK.out.mono ?_); rintro e wc ⟨rfl, hb⟩))
    go_ret
    exact ⟨rfl, hb⟩
  by_cases h2 : 12 < n
  · clear hv hl
    go_enter Try.func7, Try.ntmps7
    go_wp2_with (first
      | (go_at_call 10; (with_reducible refine hM.out.mono ?_); rintro e wc ⟨rfl, rfl⟩)
      | (go_at_call 11; (with_reducible refine hK.out.mono ?_); rintro e wc ⟨rfl, hb⟩))
    go_ret
    exact ⟨rfl, hb⟩
  by_cases hm : muchS l 30 = true
  · rw [hm] at hM
    clear hv hl hm
    go_enter Try.func7, Try.ntmps7
    go_wp2_with (first
      | (go_at_call 10; (with_reducible refine hM.out.mono ?_); rintro e wc ⟨rfl, rfl⟩)
      | (go_at_call 11; (with_reducible refine hK.out.mono ?_); rintro e wc ⟨rfl, hb⟩))
    go_ret
    exact ⟨rfl, hb⟩
  obtain ⟨hl30, hbad⟩ := muchS_no (by simpa using hm)
  have hm : muchS l 30 = false := by simpa using hm
  rw [hm] at hM
  by_cases h3 : 60 < to ∧ to ≤ 8192
  · obtain ⟨h3, h4⟩ := h3
    clear hv hl hm hbad
    go_enter Try.func7, Try.ntmps7
    go_wp2_with (first
      | (go_at_call 10; (with_reducible refine hM.out.mono ?_); rintro e wc ⟨rfl, rfl⟩)
      | (go_at_call 11; (with_reducible refine hK.out.mono ?_); rintro e wc ⟨rfl, hb⟩))
    go_ret
    exact ⟨rfl, hb⟩
  obtain ⟨m, rfl⟩ := Int.eq_ofNat_of_zero_le (show 0 ≤ n by omega)
  have hm12 : 1 ≤ m ∧ m ≤ 8192 := by omega
  have HP := Lib.hid (pair_any w m A cap l hm12 hv hl (by omega) hbad)
  have HF : Hid (Fine (runD (newD m) l) (l.length + 1)) := by
    have := runD_fine m hm12 l hl l.length (Nat.le_refl _)
    rw [List.take_length] at this
    exact this
  clear hm hv hl hbad
  generalize runD (newD m) l = d at *
  have hrr : (grR d to != grR d to) = false := by simp
  by_cases hr : grR d to = 0
  · have hto : (d.s.length : Int) ≤ to ∧ to ≤ 60 ∧ d.dead = false := by
      unfold grR at hr
      split at hr
      · cases hr
      · rename_i h
        split at hr
        · cases hr
        · rename_i h7
          exact ⟨by omega, by omega, by simpa using h7⟩
    obtain ⟨hto1, hto2, hdd⟩ := hto
    have hz : (grR d to != 0) = false := by simp [hr]
    by_cases he : to = (d.s.length : Int)
    · have hee : (to == (d.s.length : Int)) = true := by simpa using he
      clear he hr
      go_enter Try.func7, Try.ntmps7
      go_wp2_with (first
        | (go_at_call 10; (with_reducible refine hM.out.mono ?_); rintro e wc ⟨rfl, rfl⟩)
        | (go_at_call 18; (with_reducible refine HP.out.mono ?_); rintro e w1 ⟨b, br, rfl, h5⟩; obtain ⟨AS, cS, hs0⟩ := h5.rc0)
        | (go_at_call 33; (with_reducible refine (h5.grow to).mono ?_); rintro e w2 ⟨rfl, h6⟩)
        | (go_at_call 17; (with_reducible refine (h6.rgrow to HF.out (by omega)).mono ?_); rintro e w3 ⟨rfl, h7⟩)
        | (go_at_call 15; (with_reducible refine h7.shows.mono ?_); rintro e w4 ⟨rfl, h8⟩)
        | (go_at_call 14; (with_reducible refine (num_any _ _).mono ?_); rintro e wc ⟨rfl, rfl⟩)
        | (go_at_call 11; (with_reducible refine (known_b _ _ h8.b).mono ?_); rintro e wc ⟨rfl, hb⟩))
      go_ret
      exact ⟨rfl, hb⟩
    · have hee : (to == (d.s.length : Int)) = false := by simpa using he
      obtain ⟨i, hi⟩ := Int.eq_ofNat_of_zero_le (show 0 ≤ to - 1 by omega)
      have F0 := HF.out
      have F1 := F0.step (by omega) ⟨5, to, 0, []⟩ (by show to ≤ _; omega)
      have F1' : Fine (grD d to) (l.length + 1 + 1) := F1
      have F2 := F1'.step (by omega) ⟨4, 0, 0, []⟩ (by show (0 : Int) ≤ _; omega)
      have F2' : Fine (crashD (grD d to) []) (l.length + 1 + 1 + 1) := F2
      have hgd : grD d to = moreD d (to.toNat - d.s.length) := by
        unfold grD
        rw [if_neg (by omega), if_neg (by simp [hdd])]
      have hat : At (crashD (grD d to) []) (to.toNat) i [0] := by
        have h := crash_at (d := grD d to) (i := i) (l := [0]) (by rw [hgd]; exact more_last d _ i (by omega) (by omega)) rfl []
        have hll : (grD d to).s.length = to.toNat := by rw [hgd, moreD_len]; omega
        rw [hll] at h
        exact h
      have hw := hat.wr c
      have hfl := hw.2.fl
      have hcr := hfl.2.cr rfl []
      have HR1 : Hid (rdR (crashD (grD d to) []) (i : Int) = 0 ∧ rdC (crashD (grD d to) []) (i : Int) = 0) := ⟨hat.rr, hat.rc⟩
      have HW := Lib.hid hw.1
      have HL := Lib.hid hfl.1
      have HR2 : Hid (rdR (crashD (flD (wrD (crashD (grD d to) []) (i : Int) c)) []) (i : Int) = 0 ∧ rdC (crashD (flD (wrD (crashD (grD d to) []) (i : Int) c)) []) (i : Int) = c) := ⟨hcr.rr, by rw [hcr.rc]; rfl⟩
      have HLN := Lib.hid (show ((crashD (flD (wrD (crashD (grD d to) []) (i : Int) c)) []).s.length : Int) = to by rw [hcr.len]; omega)
      have HFX := Lib.hid F2'
      clear he hr hgd hat hw hfl hcr F0 F1 F1' F2 F2' hdd
      have hzv := zero_sector
      have n1 : ∀ w : World, (binOp .neq 49 (.agg (sec 0).toArray) (.agg (cells8 (fullN 0 0)).toArray)).run Try.prog w = .ok (.bool false) w := fun w => by
        rw [zero_sec]
        exact (neq_sec 0 0 w).trans (by simp)
      go_enter Try.func7, Try.ntmps7
      go_wp2_with (first
        | (go_at_call 10; (with_reducible refine hM.out.mono ?_); rintro e wc ⟨rfl, rfl⟩)
        | (go_at_call 18; (with_reducible refine HP.out.mono ?_); rintro e w1 ⟨b, br, rfl, h5⟩; obtain ⟨AS, cS, hs0⟩ := h5.rc0)
        | (go_at_call 33; (with_reducible refine (h5.grow to).mono ?_); rintro e w2 ⟨rfl, h6⟩)
        | (go_at_call 17; (with_reducible refine (h6.rgrow to HF.out (by omega)).mono ?_); rintro e w3 ⟨rfl, h7⟩)
        | (go_at_call 15; (with_reducible refine h7.shows.mono ?_); rintro e w4 ⟨rfl, h8⟩)
        | (go_at_call 14; (with_reducible refine (num_any _ _).mono ?_); rintro e wc ⟨rfl, rfl⟩)
        | (go_at_call 21; (with_reducible refine h8.kn.crash0.mono ?_); rintro e w5 ⟨rfl, h9⟩)
        | (go_at_call 25; (with_reducible refine (h9.read (i : Int) 0 HR1.out.1 HR1.out.2).mono ?_); rintro e w6 ⟨rfl, h10⟩)
        | (refine wpList_store_row rfl 49 (.tmp 14) (.tmp 80) rfl w6.heap.size (sec 0).toArray rfl rfl 49 (cells8 (fullN 0 0)).toArray (heap_alloc_new w6 _) (by rw [sector_sz 0]; simp) (by rw [size8, fullN_len 0 0 (by omega), List.size_toArray, sec_len]) (all_oneCell_toArray (sec_one _)) ?_; rw [World.setRow_alloc_new])
        | refine wpList_load_mid rfl 49 (.tmp 14) rfl w6.heap.size 0 rfl (sec 0) _ (h10.kq 0).range sector_u rfl (sector_sz 0) ?_
        | (go_at_call 30; (with_reducible refine ((h10.kq 0).full c).mono ?_); rintro e wa ⟨rfl, hSa, hba⟩)
        | (go_at_call 29; (with_reducible refine (hba.out.write (i : Int) c HFX.out (by omega) HW.out).mono ?_); rintro e wb ⟨rfl, hSb, hbb⟩)
        | (go_at_call 28; (with_reducible refine (hbb.out.flush HL.out).mono ?_); rintro e wc ⟨rfl, hSc, hbc⟩)
        | (go_at_call 21; (with_reducible refine hbc.out.crash0.mono ?_); rintro e wd ⟨rfl, hSd, hbd⟩)
        | (go_at_call 25; (with_reducible refine (hbd.out.read (i : Int) c HR2.out.1 HR2.out.2).mono ?_); rintro e w8 ⟨rfl, hSe, hbe⟩)
        | refine wpList_store_row rfl 49 (.tmp 14) (.tmp 113) rfl w6.heap.size (sec c).toArray rfl rfl 49 (sec 0).toArray hbe.out.row (by rw [sector_sz c]; simp) (by rw [List.size_toArray, List.size_toArray, sec_len, sec_len]) (all_oneCell_toArray (sec_one _)) ?_
        | fail)
      have h9 := hbe.out.set c
      generalize w8.setRow w6.heap.size (sec c).toArray = w9 at *
      generalize w6.heap.size = q at *
      have H9 := Lib.hid (h9.below (Below.refl w9.heap.size w9).drew)
      have HS0 := Lib.hid (h9.below (Below.refl w9.heap.size w9).drew).range
      have hlt : ((crashD (flD (wrD (crashD (grD d to) []) (i : Int) c)) []).s.length : Int) = to := HLN.out
      clear h5 h6 h7 h8 h9 h10 hSa hSb hSc hSd hSe hba hbb hbc hbd hbe HP hM hK n1 HLN HR1 HR2 HW HL HFX
      generalize crashD (flD (wrD (crashD (grD d to) []) (i : Int) c)) [] = dd at *
      have hte : (((dd.s.length : Nat) : Int) == to) = true := by simp [hlt]
      have hu := sector_u
      have z1 := sector_sz c
      have n1 : ∀ w : World, (binOp .eql 49 (.agg (sec c).toArray) (.agg (sec c).toArray)).run Try.prog w = .ok (.bool true) w := fun w => by rw [eql_sec]; simp
      go_wp2_with fail
      go_region_held_law (fun w' => w'.rangeAt q 0 (sec c))
        (first | with_reducible exact HS0.out | with_reducible exact hSc | with_reducible exact hSb | with_reducible exact hSa)
        (first
          | (go_at_call 30; (with_reducible refine (H9.out.full c).mono ?_); rintro e wa ⟨rfl, hSa, hba⟩)
          | (go_at_call 24; (with_reducible refine hba.out.secs.mono ?_); rintro e wb ⟨rfl, hSb, hbb⟩)
          | (go_at_call 11; (with_reducible refine hbb.out.known.mono ?_); rintro e wc ⟨rfl, hSc, hbc⟩)
          | (go_at_call 14; (with_reducible refine (num_any _ _).mono ?_); rintro e wn ⟨rfl, rfl⟩))
      have hend := hbc.out.b
      go_wp2
      go_ret
      exact ⟨rfl, hend⟩
  · have hz : (grR d to != 0) = true := by simpa using hr
    have ht : decide ((60 : Int) < to) = false ∨ (decide ((60 : Int) < to) = true ∧ decide (to ≤ 8192) = false) := by
      by_cases h : 60 < to
      · exact .inr ⟨by simpa using h, by simp; omega⟩
      · exact .inl (by simpa using h)
    clear hr h3
    rcases ht with ht | ⟨ht, ht2⟩
    all_goals (
      go_enter Try.func7, Try.ntmps7
      go_wp2_with (first
        | (go_at_call 10; (with_reducible refine hM.out.mono ?_); rintro e wc ⟨rfl, rfl⟩)
        | (go_at_call 18; (with_reducible refine HP.out.mono ?_); rintro e w1 ⟨b, br, rfl, h5⟩; obtain ⟨AS, cS, hs0⟩ := h5.rc0)
        | (go_at_call 33; (with_reducible refine (h5.grow to).mono ?_); rintro e w2 ⟨rfl, h6⟩)
        | (go_at_call 17; (with_reducible refine (h6.rgrow to HF.out (by omega)).mono ?_); rintro e w3 ⟨rfl, h7⟩)
        | (go_at_call 15; (with_reducible refine h7.shows.mono ?_); rintro e w4 ⟨rfl, h8⟩)
        | (go_at_call 14; (with_reducible refine (num_any _ _).mono ?_); rintro e wc ⟨rfl, rfl⟩)
        | (go_at_call 11; (with_reducible refine (known_b _ _ h8.b).mono ?_); rintro e wc ⟨rfl, hb⟩))
      go_ret
      exact ⟨rfl, hb⟩)
end Go.Proofs.Ytdigfkdappbhhaa
