/- The walk of the law WireMeans where the values are packed. -/
import Derived.Test.YthjbchdpnlenjaaMeansW
namespace Go.Proofs.Ythjbchdpnlenjaa
open Go.RowKit

theorem packZ_other {l : List (UInt8 × PV)} {x : List UInt8} (h : packZ l = some x) : ∀ q ∈ l, q.2 ≠ .other := by
  induction l generalizing x with
  | nil => intro q hq; simp at hq
  | cons a l ih =>
    obtain ⟨c, p⟩ := a
    simp only [packZ] at h
    cases he : enc1 (c.toNat : Int) p with
    | none => rw [he] at h; cases h
    | some y =>
      rw [he] at h
      simp only [Option.map_eq_some_iff] at h
      obtain ⟨z, hz, _⟩ := h
      intro q hq
      rcases List.mem_cons.1 hq with rfl | hq
      · intro e
        simp only at e
        rw [e] at he
        simp [enc1] at he
      · exact ih hz q hq
theorem packR_other {s : List UInt8} {ps : List PV} {x : List UInt8} (h : packR s ps = some x) : ∀ p ∈ ps, p ≠ .other := by
  unfold packR at h
  split at h
  · rename_i hc
    intro p hp
    obtain ⟨i, hi, rfl⟩ := List.getElem_of_mem hp
    have hm : (s[i]'(by omega), ps[i]) ∈ s.zip ps := by
      rw [List.mem_iff_getElem]
      exact ⟨i, by rw [List.length_zip]; omega, by rw [List.getElem_zip]⟩
    exact packZ_other h _ hm
  · cases h
theorem told_iv {w : World} {B : Nat} {us : List Value} {vals : List LVal} (h : AllOV w B us (vals.map toldP)) : ∀ i (hi : i < vals.length), ∃ x, us[i]? = some x ∧ IV w w.heap.size x (toldP vals[i]) := by
  intro i hi
  obtain ⟨x, hx, ho⟩ := h.iv i (by rw [List.length_map]; exact hi)
  rw [List.getElem_map] at ho
  exact ⟨x, hx, ho⟩

set_option maxRecDepth 100000 in
set_option maxHeartbeats 2000000 in
theorem means_empty (s : ByteArray) (A : Option Addr) (cap : Nat) (vals : List LVal) (Ar : Option Addr) (capr : Nat) (r : List UInt8) (Ab : Option Addr) (capb : Nat) (l : List UInt8) (w : World)
    (hv : VRow w w.heap.size A vals) (hr : Shows w w.heap.size Ar r.length (cells8 r)) (hl : Shows w w.heap.size Ab l.length (cells8 l)) (_hrc : r.length ≤ capr) (hlc : l.length ≤ capb) (hlm : capb ≤ 9223372036854775807)
    (hM : muchB s vals = false) (hr3 : r.length ≤ 3000) (hl3 : l.length ≤ 3000) (X : List UInt8) (hP : packR (bs s) (vals.map toldP) = some X) (h0 : X.length = 0) :
    Calls Try.prog 7 #[.string s, .slice A vals.length cap, .slice Ar r.length capr, .slice Ab l.length capb] w fun e w' => e = .returned (.bool true) ∧ Below w.heap.size w w' := by
  obtain ⟨i0, hi, hz0, hz1, hz2⟩ := info_parts u8_info
  have hXb : X.length ≤ 16777476000 := by
    have h1 := muchB_no hM
    unfold packR at hP
    split at hP
    · have h2 := packZ_length hP
      rw [List.length_zip, List.length_map] at h2
      omega
    · cases hP
  obtain ⟨hma, hux⟩ := packR_unpZ r hP
  have HMA := Lib.hid hma
  have HUX := Lib.hid hux
  have hno : ∀ v ∈ vals, toldP v ≠ .other := fun v hv => packR_other hP _ (List.mem_map_of_mem hv)
  have HNO := Lib.hid hno
  have HF0 := Lib.hid h0
  clear h0
  have HP := Lib.hid hP
  clear hP hma hux hno
  obtain ⟨hs40, hv40, hvb⟩ := muchB_no hM
  have HMU := Lib.hid hM
  have hvb2 : ∀ v ∈ vals, v.b.length ≤ 16777216 := fun v hv => Nat.le_trans (hvb v hv) (by omega)
  have HVB := Lib.hid hvb2
  clear hM hvb hvb2
  go_enter Try.func7, Try.ntmps7
  go_wp2_with fail
  refine (known_any w).mono ?_
  rintro e w1 ⟨rfl, hb1⟩
  go_wp2_with fail
  refine (much_any s A cap vals w1 w.heap.size (hv.below hb1) (by unfold maxLen; omega) (by omega)).mono ?_
  rintro e w' ⟨rfl, rfl⟩
  rw [HMU.out]
  go_wp2_with fail
  refine (all_any A cap vals w1 (vrow_wide (hv.below hb1) hb1.size) (by omega) HVB.out).mono ?_
  rintro e w2 ⟨u2, us2, rfl, ho2, hv2, hb2⟩
  obtain ⟨A2, c2, hu2, -⟩ := own_form ho2
  subst hu2
  have hbb2 := hb1.trans (hb2.mono hb1.size)
  clear hb2
  go_wp2_with fail
  refine (pack_any s A2 vals.length c2 us2 (vals.map toldP) w2 (by omega) (by omega) (Shows.owned ho2) (List.length_map _) hv2.iv).mono ?_
  rw [HP.out]
  rintro e w3 hp
  obtain ⟨A3, c3, rfl, ho3, hb3, hc3, hm3⟩ := packed_ok hp
  clear hp
  have hbb3 := hbb2.trans (hb3.mono hbb2.size)
  clear hb3 ho2 hv2 hbb2 hb1
  go_wp2_with fail
  refine (num_any _ _).mono ?_
  rintro e w' ⟨rfl, rfl⟩
  go_wp2_with (first
    | (at_builtin; refine wpList_append_shows _ rfl (.const (.slice none 0 0)) (.tmp 49) 25 rfl w3.heap.size 5 i0 (.int .u8 0) 1 Try.underlying25 hi hz0 hz1 hz2 rfl (.slice none 0 0) 0 [] rfl (World.ownsRow_nil _ _ _ _) w3.heap.size A3 X.length c3 (cells8 X) rfl (Shows.owned ho3) (cells8_one _) (by unfold maxLen; omega) (by omega) (Nat.le_refl _) ?_; intro v4 w4 hown4 hgrow4; simp only [Nat.zero_add, List.nil_append] at hown4)
    | (at_builtin; refine wpList_append_shows _ rfl (.tmp 50) (.tmp 51) 25 rfl w3.heap.size 5 i0 (.int .u8 0) 1 Try.underlying25 hi hz0 hz1 hz2 rfl v4 _ _ rfl hown4 w.heap.size Ar r.length capr (cells8 r) rfl (hr.below (hbb3.trans (hgrow4.below_from hbb3.size (by simp [Value.ownBlock])))) (cells8_one _) (by unfold maxLen; omega) (by omega) hgrow4.by_.size ?_; intro v5 w5 hown5 hgrow5))
  rw [← cells8_append] at hown5
  obtain ⟨A5, c5, hv5, hc5, hm5⟩ := own_form hown5
  subst hv5
  have hb35 : Below w3.heap.size w3 w5 := (hgrow4.trans hgrow5).below_from (Nat.le_refl _) (by simp [Value.ownBlock])
  have ho3b := own_below ho3 hb35
  have hbb5 := hbb3.trans (hb35.mono hbb3.size)
  have hsh5 := Shows.owned hown5
  clear hown4 hgrow4 hgrow5 hown5 ho3 hb35 hbb3
  refine (unpack_at s w5.heap.size A5 (X.length + r.length) c5 (X ++ r) w5 (by omega) hsh5 (Nat.le_refl _) hc5 hm5).mono ?_
  rintro e w6 hu
  obtain ⟨A6, c6, vs6, rfl, ho6, hv6, hb6⟩ := unpacked_ok hu HMA.out HUX.out
  rw [List.length_map] at ho6 ⊢
  clear hu hsh5
  have ho3c := own_below ho3b hb6
  have hbb6 := hbb5.trans (hb6.mono hbb5.size)
  clear ho3b hb6 hbb5
  go_wp2_with fail
  refine (num_any _ _).mono ?_
  rintro e w' ⟨rfl, rfl⟩
  go_wp2_with fail
  refine (are_any A6 c6 vs6 A cap vals w6 (Shows.owned ho6) (told_iv hv6) HNO.out (vrow_wide (hv.below hbb6) hbb6.size) (by omega)).mono ?_
  rintro e w7 ⟨rfl, hb7⟩
  have ho3d := own_below ho3c hb7
  have hbb7 := hbb6.trans (hb7.mono hbb6.size)
  clear ho3c hb7 hbb6 ho6 hv6
  have hd0 : X.length < 1 := by rw [HF0.out]; omega
  go_wp2_with fail
  by_cases hE : unpE (bs s) l = 0
  · obtain ⟨hm, ps, n, hu⟩ := unpE_zero hE
    obtain ⟨L, HT, HLn⟩ : ∃ L, Hid (packR (bs s) ps = some L) ∧ Hid (L = l.take n) := ⟨_, Lib.hid (unpZ_packR hm hu), Lib.hid rfl⟩
    have hnl := (unpZ_bounds hu).2.1
    have hpl : ps.length ≤ 40 := by rw [(unpZ_bounds hu).2.2, bs_length]; exact hs40
    have HM := Lib.hid hm
    have HU := Lib.hid hu
    clear hE hm hu
    go_wp2_with fail
    refine (unpack_any s w.heap.size Ab capb l w7 (by omega) (hl.below hbb7) hbb7.size hlc hlm).mono ?_
    rintro e wa hu
    obtain ⟨Aa, ca, vsa, rfl, hoa, hva, hba⟩ := unpacked_ok hu HM.out HU.out
    clear hu
    have hbba := hbb7.trans (hba.mono hbb7.size)
    clear hba
    go_wp2_with fail
    refine (num_any _ _).mono ?_
    rintro e w' ⟨rfl, rfl⟩
    go_wp2_with fail
    refine (pack_any s Aa ps.length ca vsa ps wa (by omega) (by omega) (Shows.owned hoa) rfl hva.iv).mono ?_
    rw [HT.out]
    rintro e wb hp
    obtain ⟨Ax, cx, rfl, hox, hbx, -, -⟩ := packed_ok hp
    clear hp hoa hva
    have hbbx := hbba.trans (hbx.mono hbba.size)
    clear hbx hbba
    have hs1 := fun k => str_own (own_drewN hox k)
    have hup := (hl.below hbbx).upto (k := n) hnl
    rw [← cells8_take, ← HLn.out] at hup
    have hs2 := fun k => str_shows 25 9 5 Try.underlying25 Try.underlying5 Try.underlying9 (c := capb) (hup.drewN k)
    have hnc : (n : Int) ≤ (capb : Int) := by omega
    have hn0 : (0 : Int) ≤ (n : Int) := by omega
    clear hup hox
    go_wp2_with fail
    go_quiet ((go_at_call 15; exact Calls.quiet_of_same (num_q _ _)))
    go_wp2
    go_ret
    exact ⟨rfl, below_drewN hbbx _⟩
  · have hE2 : (unpE (bs s) l != 0) = true := by simpa using hE
    clear hE
    go_wp2_with fail
    refine (unpack_any s w.heap.size Ab capb l w7 (by omega) (hl.below hbb7) hbb7.size hlc hlm).mono ?_
    rintro e wa hu
    obtain ⟨va, na, rfl, -⟩ := unpacked_shape hu
    have hbba := hbb7.trans (hu.1.mono hbb7.size)
    clear hu
    go_wp2_with fail
    refine (num_any _ _).mono ?_
    rintro e w' ⟨rfl, rfl⟩
    go_wp2_with fail
    go_ret
    exact ⟨rfl, hbba⟩

set_option maxRecDepth 100000 in
set_option maxHeartbeats 2000000 in
theorem means_some (s : ByteArray) (A : Option Addr) (cap : Nat) (vals : List LVal) (Ar : Option Addr) (capr : Nat) (r : List UInt8) (Ab : Option Addr) (capb : Nat) (l : List UInt8) (w : World)
    (hv : VRow w w.heap.size A vals) (hr : Shows w w.heap.size Ar r.length (cells8 r)) (hl : Shows w w.heap.size Ab l.length (cells8 l)) (_hrc : r.length ≤ capr) (hlc : l.length ≤ capb) (hlm : capb ≤ 9223372036854775807)
    (hM : muchB s vals = false) (hr3 : r.length ≤ 3000) (hl3 : l.length ≤ 3000) (X : List UInt8) (hP : packR (bs s) (vals.map toldP) = some X) (h0 : 0 < X.length) :
    Calls Try.prog 7 #[.string s, .slice A vals.length cap, .slice Ar r.length capr, .slice Ab l.length capb] w fun e w' => e = .returned (.bool true) ∧ Below w.heap.size w w' := by
  obtain ⟨i0, hi, hz0, hz1, hz2⟩ := info_parts u8_info
  have hXb : X.length ≤ 16777476000 := by
    have h1 := muchB_no hM
    unfold packR at hP
    split at hP
    · have h2 := packZ_length hP
      rw [List.length_zip, List.length_map] at h2
      omega
    · cases hP
  obtain ⟨hma, hux⟩ := packR_unpZ r hP
  have HMA := Lib.hid hma
  have HUX := Lib.hid hux
  have hno : ∀ v ∈ vals, toldP v ≠ .other := fun v hv => packR_other hP _ (List.mem_map_of_mem hv)
  have HNO := Lib.hid hno
  have HF := Lib.hid (show unpE (bs s) (X.take (X.length - 1)) = 4 by rw [unpE, if_pos hma, unpZ_fewer hP (X.length - 1) (by omega)]; rfl)
  have HP := Lib.hid hP
  clear hP hma hux hno
  obtain ⟨hs40, hv40, hvb⟩ := muchB_no hM
  have HMU := Lib.hid hM
  have hvb2 : ∀ v ∈ vals, v.b.length ≤ 16777216 := fun v hv => Nat.le_trans (hvb v hv) (by omega)
  have HVB := Lib.hid hvb2
  clear hM hvb hvb2
  go_enter Try.func7, Try.ntmps7
  go_wp2_with fail
  refine (known_any w).mono ?_
  rintro e w1 ⟨rfl, hb1⟩
  go_wp2_with fail
  refine (much_any s A cap vals w1 w.heap.size (hv.below hb1) (by unfold maxLen; omega) (by omega)).mono ?_
  rintro e w' ⟨rfl, rfl⟩
  rw [HMU.out]
  go_wp2_with fail
  refine (all_any A cap vals w1 (vrow_wide (hv.below hb1) hb1.size) (by omega) HVB.out).mono ?_
  rintro e w2 ⟨u2, us2, rfl, ho2, hv2, hb2⟩
  obtain ⟨A2, c2, hu2, -⟩ := own_form ho2
  subst hu2
  have hbb2 := hb1.trans (hb2.mono hb1.size)
  clear hb2
  go_wp2_with fail
  refine (pack_any s A2 vals.length c2 us2 (vals.map toldP) w2 (by omega) (by omega) (Shows.owned ho2) (List.length_map _) hv2.iv).mono ?_
  rw [HP.out]
  rintro e w3 hp
  obtain ⟨A3, c3, rfl, ho3, hb3, hc3, hm3⟩ := packed_ok hp
  clear hp
  have hbb3 := hbb2.trans (hb3.mono hbb2.size)
  clear hb3 ho2 hv2 hbb2 hb1
  go_wp2_with fail
  refine (num_any _ _).mono ?_
  rintro e w' ⟨rfl, rfl⟩
  go_wp2_with (first
    | (at_builtin; refine wpList_append_shows _ rfl (.const (.slice none 0 0)) (.tmp 49) 25 rfl w3.heap.size 5 i0 (.int .u8 0) 1 Try.underlying25 hi hz0 hz1 hz2 rfl (.slice none 0 0) 0 [] rfl (World.ownsRow_nil _ _ _ _) w3.heap.size A3 X.length c3 (cells8 X) rfl (Shows.owned ho3) (cells8_one _) (by unfold maxLen; omega) (by omega) (Nat.le_refl _) ?_; intro v4 w4 hown4 hgrow4; simp only [Nat.zero_add, List.nil_append] at hown4)
    | (at_builtin; refine wpList_append_shows _ rfl (.tmp 50) (.tmp 51) 25 rfl w3.heap.size 5 i0 (.int .u8 0) 1 Try.underlying25 hi hz0 hz1 hz2 rfl v4 _ _ rfl hown4 w.heap.size Ar r.length capr (cells8 r) rfl (hr.below (hbb3.trans (hgrow4.below_from hbb3.size (by simp [Value.ownBlock])))) (cells8_one _) (by unfold maxLen; omega) (by omega) hgrow4.by_.size ?_; intro v5 w5 hown5 hgrow5))
  rw [← cells8_append] at hown5
  obtain ⟨A5, c5, hv5, hc5, hm5⟩ := own_form hown5
  subst hv5
  have hb35 : Below w3.heap.size w3 w5 := (hgrow4.trans hgrow5).below_from (Nat.le_refl _) (by simp [Value.ownBlock])
  have ho3b := own_below ho3 hb35
  have hbb5 := hbb3.trans (hb35.mono hbb3.size)
  have hsh5 := Shows.owned hown5
  clear hown4 hgrow4 hgrow5 hown5 ho3 hb35 hbb3
  refine (unpack_at s w5.heap.size A5 (X.length + r.length) c5 (X ++ r) w5 (by omega) hsh5 (Nat.le_refl _) hc5 hm5).mono ?_
  rintro e w6 hu
  obtain ⟨A6, c6, vs6, rfl, ho6, hv6, hb6⟩ := unpacked_ok hu HMA.out HUX.out
  rw [List.length_map] at ho6 ⊢
  clear hu hsh5
  have ho3c := own_below ho3b hb6
  have hbb6 := hbb5.trans (hb6.mono hbb5.size)
  clear ho3b hb6 hbb5
  go_wp2_with fail
  refine (num_any _ _).mono ?_
  rintro e w' ⟨rfl, rfl⟩
  go_wp2_with fail
  refine (are_any A6 c6 vs6 A cap vals w6 (Shows.owned ho6) (told_iv hv6) HNO.out (vrow_wide (hv.below hbb6) hbb6.size) (by omega)).mono ?_
  rintro e w7 ⟨rfl, hb7⟩
  have ho3d := own_below ho3c hb7
  have hbb7 := hbb6.trans (hb7.mono hbb6.size)
  clear ho3c hb7 hbb6 ho6 hv6
  go_wp2_with fail
  refine (unpack_at s w7.heap.size A3 (X.length - 1) c3 (X.take (X.length - 1)) w7 (by omega) (by rw [cells8_take]; exact (Shows.owned ho3d).upto (by omega)) (Nat.le_refl _) (by omega) hm3).mono ?_
  rintro e w8 hu
  obtain ⟨v8, n8, rfl, -⟩ := unpacked_shape hu
  have hbb8 := hbb7.trans (hu.1.mono hbb7.size)
  rw [HF.out]
  clear hu ho3d hbb7
  go_wp2_with fail
  refine (num_any _ _).mono ?_
  rintro e w' ⟨rfl, rfl⟩
  by_cases hE : unpE (bs s) l = 0
  · obtain ⟨hm, ps, n, hu⟩ := unpE_zero hE
    obtain ⟨L, HT, HLn⟩ : ∃ L, Hid (packR (bs s) ps = some L) ∧ Hid (L = l.take n) := ⟨_, Lib.hid (unpZ_packR hm hu), Lib.hid rfl⟩
    have hnl := (unpZ_bounds hu).2.1
    have hpl : ps.length ≤ 40 := by rw [(unpZ_bounds hu).2.2, bs_length]; exact hs40
    have HM := Lib.hid hm
    have HU := Lib.hid hu
    clear hE hm hu
    go_wp2_with fail
    refine (unpack_any s w.heap.size Ab capb l w8 (by omega) (hl.below hbb8) hbb8.size hlc hlm).mono ?_
    rintro e wa hu
    obtain ⟨Aa, ca, vsa, rfl, hoa, hva, hba⟩ := unpacked_ok hu HM.out HU.out
    clear hu
    have hbba := hbb8.trans (hba.mono hbb8.size)
    clear hba
    go_wp2_with fail
    refine (num_any _ _).mono ?_
    rintro e w' ⟨rfl, rfl⟩
    go_wp2_with fail
    refine (pack_any s Aa ps.length ca vsa ps wa (by omega) (by omega) (Shows.owned hoa) rfl hva.iv).mono ?_
    rw [HT.out]
    rintro e wb hp
    obtain ⟨Ax, cx, rfl, hox, hbx, -, -⟩ := packed_ok hp
    clear hp hoa hva
    have hbbx := hbba.trans (hbx.mono hbba.size)
    clear hbx hbba
    have hs1 := fun k => str_own (own_drewN hox k)
    have hup := (hl.below hbbx).upto (k := n) hnl
    rw [← cells8_take, ← HLn.out] at hup
    have hs2 := fun k => str_shows 25 9 5 Try.underlying25 Try.underlying5 Try.underlying9 (c := capb) (hup.drewN k)
    have hnc : (n : Int) ≤ (capb : Int) := by omega
    have hn0 : (0 : Int) ≤ (n : Int) := by omega
    clear hup hox
    go_wp2_with fail
    go_quiet ((go_at_call 15; exact Calls.quiet_of_same (num_q _ _)))
    go_wp2
    go_ret
    exact ⟨rfl, below_drewN hbbx _⟩
  · have hE2 : (unpE (bs s) l != 0) = true := by simpa using hE
    clear hE
    go_wp2_with fail
    refine (unpack_any s w.heap.size Ab capb l w8 (by omega) (hl.below hbb8) hbb8.size hlc hlm).mono ?_
    rintro e wa hu
    obtain ⟨va, na, rfl, -⟩ := unpacked_shape hu
    have hbba := hbb8.trans (hu.1.mono hbb8.size)
    clear hu
    go_wp2_with fail
    refine (num_any _ _).mono ?_
    rintro e w' ⟨rfl, rfl⟩
    go_wp2_with fail
    go_ret
    exact ⟨rfl, hbba⟩

end Go.Proofs.Ythjbchdpnlenjaa
