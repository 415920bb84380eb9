/- The walk of the law WireJoins where both shapes are met. -/
import Derived.Test.YtfkjgebbaahnmaaBack
namespace Go.Proofs.Ytfkjgebbaahnmaa
open Go.RowKit

set_option maxRecDepth 100000 in
set_option maxHeartbeats 2000000 in
theorem joins_good1 (a c : ByteArray) (A : Option Addr) (cap : Nat) (l : List UInt8) (w : World) (ha : a.size ≤ 20) (hc : c.size ≤ 20) (hll : l.length ≤ 3000)
    (hl : Shows w w.heap.size A l.length (cells8 l)) (hlc : l.length ≤ cap) (hcm : cap ≤ 9223372036854775807) (ps1 ps2 q : List PV) (n1 n2 n12 : Nat) (hm1 : mayS (bs a) = true) (hu1 : unpZ (bs a) l = some (ps1, n1))
    (hm2 : mayS (bs c) = true) (hu2 : unpZ (bs c) (l.drop n1) = some (ps2, n2)) (hm12 : mayS (bs (a ++ c)) = true) (hu12 : unpZ (bs (a ++ c)) l = some (q, n12)) (hq : q = ps1 ++ ps2) (hn12 : n12 = n1 + n2) (hcn : ¬ cap = n1) :
    Calls Try.prog 8 #[.string a, .string c, .slice A l.length cap] w fun e w' => e = .returned (.bool true) ∧ Below w.heap.size w w' := by
  obtain ⟨i0, hi, hz0, hz1, hz2⟩ := info_parts any_info
  have HSZ := Lib.hid (show (a ++ c).size = a.size + c.size from ByteArray.size_append)
  have d1 : ((n12 : Int) != (n1 : Int) + (n2 : Int)) = false := by simp; omega
  have d2 : ((q.length : Int) != (ps1.length : Int) + (ps2.length : Int)) = false := by rw [hq, List.length_append]; simp
  obtain ⟨L, HT⟩ : ∃ L, Hid (packR (bs (a ++ c)) q = some L) := ⟨_, Lib.hid (unpZ_packR hm12 hu12)⟩
  have hn1 := (unpZ_bounds hu1).2.1
  have hn2 := (unpZ_bounds hu2).2.1
  rw [List.length_drop] at hn2
  have hp1 : ps1.length ≤ 20 := by rw [(unpZ_bounds hu1).2.2, bs_length]; exact ha
  have hp2 : ps2.length ≤ 20 := by rw [(unpZ_bounds hu2).2.2, bs_length]; exact hc
  have HQL := Lib.hid (show q.length = ps1.length + ps2.length by rw [hq, List.length_append])
  have HM1 := Lib.hid hm1
  have HU1 := Lib.hid hu1
  have HM2 := Lib.hid hm2
  have HU2 := Lib.hid hu2
  have HM12 := Lib.hid hm12
  have HU12 := Lib.hid hu12
  have HQ := Lib.hid hq
  clear hm1 hu1 hm2 hu2 hm12 hu12 hq hn12
  have HCN := Lib.hid hcn
  go_enter Try.func8, Try.ntmps8
  go_wp2_with fail
  refine (unpack_any a w.heap.size A cap l w (by omega) hl (Nat.le_refl _) hlc hcm).mono ?_
  rintro e w1 hu
  obtain ⟨A1, c1, vs1, rfl, ho1, hv1, hb1⟩ := unpacked_ok hu HM1.out HU1.out
  clear hu
  have hl1 := hl.below hb1
  go_wp2_with fail
  refine (unpack_any (a ++ c) w.heap.size A cap l w1 (by rw [HSZ.out]; omega) hl1 hb1.size hlc hcm).mono ?_
  rintro e w2 hu
  obtain ⟨A2, c2, vs2, rfl, ho2, hv2, hb2⟩ := unpacked_ok hu HM12.out HU12.out
  clear hu
  have ho1b := own_below ho1 hb2
  have hv1b := hv1.kept (BytesKept.below hb2)
  have hbb2 := hb1.trans (hb2.mono hb1.size)
  clear ho1 hv1 hb2
  go_wp2_with fail
  refine (num_any _ _).mono ?_
  rintro e w' ⟨rfl, rfl⟩
  go_wp2_with fail
  refine (unpack_at c w.heap.size (A.map fun x => x.add n1) (l.length - n1) (cap - n1) (l.drop n1) w2 (by omega) (by have h5 := (hl.below hbb2).from_ hn1 hlc; rw [if_neg HCN.out, ← cells8_drop] at h5; exact h5) hbb2.size (by omega) (by omega)).mono ?_
  rintro e w3 hu
  obtain ⟨A3, c3, vs3, rfl, ho3, hv3, hb3⟩ := unpacked_ok hu HM2.out HU2.out
  clear hu
  have ho1c := own_below ho1b hb3
  have hv1c := hv1b.kept (BytesKept.below hb3)
  have ho2c := own_below ho2 hb3
  have hv2c := hv2.kept (BytesKept.below hb3)
  have hbb3 := hbb2.trans (hb3.mono hbb2.size)
  clear ho1b hv1b ho2 hv2 hb3
  go_wp2_with fail
  refine (num_any _ _).mono ?_
  rintro e w' ⟨rfl, rfl⟩
  go_wp2_with fail
  refine (num_any _ _).mono ?_
  rintro e w' ⟨rfl, rfl⟩
  go_wp2_with (first
    | (at_builtin; refine wpList_append_shows _ rfl (.const (.slice none 0 0)) (.tmp 103) 29 rfl w3.heap.size 20 i0 .nilIface 16 Try.underlying29 hi hz0 hz1 hz2 rfl (.slice none 0 0) 0 [] rfl (World.ownsRow_nil _ _ _ _) w3.heap.size A1 ps1.length c1 vs1 rfl (Shows.owned ho1c) hv1c.one (by unfold maxLen; omega) (by omega) (Nat.le_refl _) ?_; intro v4 w4 hown4 hgrow4; simp only [Nat.zero_add, List.nil_append] at hown4)
    | (at_builtin; refine wpList_append_shows _ rfl (.tmp 104) (.tmp 105) 29 rfl w3.heap.size 20 i0 .nilIface 16 Try.underlying29 hi hz0 hz1 hz2 rfl v4 _ _ rfl hown4 w3.heap.size A3 ps2.length c3 vs3 rfl ((Shows.owned ho3).below (hgrow4.below_from (Nat.le_refl _) (by simp [Value.ownBlock]))) hv3.one (by unfold maxLen; omega) (by omega) hgrow4.by_.size ?_; intro v5 w5 hown5 hgrow5))
  obtain ⟨A5, c5, hv5, hc5, hm5⟩ := own_form hown5
  subst hv5
  have hb35 : Below w3.heap.size w3 w5 := (hgrow4.trans hgrow5).below_from (Nat.le_refl _) (by simp [Value.ownBlock])
  have hk35 : BytesKept w3 w5 := BytesKept.below hb35
  have hall5 : AllOV w5 w.heap.size (vs1 ++ vs3) q := by
    rw [HQ.out]
    exact (hv1c.kept hk35).append ((hv3.kept hk35).mono hbb2.size)
  have hsh5 := Shows.owned hown5
  have ho2d := own_below ho2c hb35
  have hv2d := hv2c.kept hk35
  have hbb5 := hbb3.trans (hb35.mono hbb3.size)
  clear hown4 hgrow4 hgrow5 hown5 ho3 hv3 ho1c hv1c ho2c hv2c hk35
  refine (pack_any (a ++ c) A5 (ps1.length + ps2.length) c5 (vs1 ++ vs3) q w5 (by rw [HSZ.out]; omega) (by omega) hsh5 HQL.out hall5.iv).mono ?_
  rw [HT.out]
  rintro e w6 hp
  obtain ⟨A6, c6, rfl, ho6, hb6, -, -⟩ := packed_ok hp
  clear hp
  have ho2e := own_below ho2d hb6
  have hv2e := hv2d.kept (BytesKept.below hb6)
  have hbb6 := hbb5.trans (hb6.mono hbb5.size)
  clear ho2d hv2d hb6 hb35 hall5 hsh5
  go_wp2_with fail
  refine (pack_any (a ++ c) A2 q.length c2 vs2 q w6 (by rw [HSZ.out]; omega) (by rw [HQL.out]; omega) (Shows.owned ho2e) rfl hv2e.iv).mono ?_
  rw [HT.out]
  rintro e w7 hp
  obtain ⟨A7, c7, rfl, ho7, hb7, -, -⟩ := packed_ok hp
  clear hp
  have hs6 := str_own (own_below ho6 hb7)
  have hs7 := str_own ho7
  have hbb7 := hbb6.trans (hb7.mono hbb6.size)
  clear ho6 ho7 hb7 ho2e hv2e
  go_wp2_with (go_at_call 15; refine (num_any _ _).mono ?_; rintro e w' ⟨rfl, rfl⟩)
  refine (known_any w7).mono ?_
  rintro e w8 ⟨rfl, hb8⟩
  go_wp2_with fail
  go_ret
  exact ⟨rfl, hbb7.trans (hb8.mono hbb7.size)⟩

set_option maxRecDepth 100000 in
set_option maxHeartbeats 2000000 in
theorem joins_good0 (a c : ByteArray) (A : Option Addr) (cap : Nat) (l : List UInt8) (w : World) (ha : a.size ≤ 20) (hc : c.size ≤ 20) (hll : l.length ≤ 3000)
    (hl : Shows w w.heap.size A l.length (cells8 l)) (hlc : l.length ≤ cap) (hcm : cap ≤ 9223372036854775807) (ps1 ps2 q : List PV) (n1 n2 n12 : Nat) (hm1 : mayS (bs a) = true) (hu1 : unpZ (bs a) l = some (ps1, n1))
    (hm2 : mayS (bs c) = true) (hu2 : unpZ (bs c) (l.drop n1) = some (ps2, n2)) (hm12 : mayS (bs (a ++ c)) = true) (hu12 : unpZ (bs (a ++ c)) l = some (q, n12)) (hq : q = ps1 ++ ps2) (hn12 : n12 = n1 + n2) (hcn : cap = n1) :
    Calls Try.prog 8 #[.string a, .string c, .slice A l.length cap] w fun e w' => e = .returned (.bool true) ∧ Below w.heap.size w w' := by
  obtain ⟨i0, hi, hz0, hz1, hz2⟩ := info_parts any_info
  have HSZ := Lib.hid (show (a ++ c).size = a.size + c.size from ByteArray.size_append)
  have d1 : ((n12 : Int) != (n1 : Int) + (n2 : Int)) = false := by simp; omega
  have d2 : ((q.length : Int) != (ps1.length : Int) + (ps2.length : Int)) = false := by rw [hq, List.length_append]; simp
  obtain ⟨L, HT⟩ : ∃ L, Hid (packR (bs (a ++ c)) q = some L) := ⟨_, Lib.hid (unpZ_packR hm12 hu12)⟩
  have hn1 := (unpZ_bounds hu1).2.1
  have hn2 := (unpZ_bounds hu2).2.1
  rw [List.length_drop] at hn2
  have hp1 : ps1.length ≤ 20 := by rw [(unpZ_bounds hu1).2.2, bs_length]; exact ha
  have hp2 : ps2.length ≤ 20 := by rw [(unpZ_bounds hu2).2.2, bs_length]; exact hc
  have HQL := Lib.hid (show q.length = ps1.length + ps2.length by rw [hq, List.length_append])
  have HM1 := Lib.hid hm1
  have HU1 := Lib.hid hu1
  have HM2 := Lib.hid hm2
  have HU2 := Lib.hid hu2
  have HM12 := Lib.hid hm12
  have HU12 := Lib.hid hu12
  have HQ := Lib.hid hq
  clear hm1 hu1 hm2 hu2 hm12 hu12 hq hn12
  obtain rfl : n1 = cap := hcn.symm
  clear hcn
  go_enter Try.func8, Try.ntmps8
  go_wp2_with fail
  refine (unpack_any a w.heap.size A n1 l w (by omega) hl (Nat.le_refl _) hlc hcm).mono ?_
  rintro e w1 hu
  obtain ⟨A1, c1, vs1, rfl, ho1, hv1, hb1⟩ := unpacked_ok hu HM1.out HU1.out
  clear hu
  have hl1 := hl.below hb1
  go_wp2_with fail
  refine (unpack_any (a ++ c) w.heap.size A n1 l w1 (by rw [HSZ.out]; omega) hl1 hb1.size hlc hcm).mono ?_
  rintro e w2 hu
  obtain ⟨A2, c2, vs2, rfl, ho2, hv2, hb2⟩ := unpacked_ok hu HM12.out HU12.out
  clear hu
  have ho1b := own_below ho1 hb2
  have hv1b := hv1.kept (BytesKept.below hb2)
  have hbb2 := hb1.trans (hb2.mono hb1.size)
  clear ho1 hv1 hb2
  go_wp2_with fail
  refine (num_any _ _).mono ?_
  rintro e w' ⟨rfl, rfl⟩
  go_wp2_with fail
  refine (unpack_at c w.heap.size A 0 0 (l.drop n1) w2 (by omega) (by rw [List.drop_of_length_le (by omega)]; exact Shows.empty _ _ _) hbb2.size (by omega) (by omega)).mono ?_
  rintro e w3 hu
  obtain ⟨A3, c3, vs3, rfl, ho3, hv3, hb3⟩ := unpacked_ok hu HM2.out HU2.out
  clear hu
  have ho1c := own_below ho1b hb3
  have hv1c := hv1b.kept (BytesKept.below hb3)
  have ho2c := own_below ho2 hb3
  have hv2c := hv2.kept (BytesKept.below hb3)
  have hbb3 := hbb2.trans (hb3.mono hbb2.size)
  clear ho1b hv1b ho2 hv2 hb3
  go_wp2_with fail
  refine (num_any _ _).mono ?_
  rintro e w' ⟨rfl, rfl⟩
  go_wp2_with fail
  refine (num_any _ _).mono ?_
  rintro e w' ⟨rfl, rfl⟩
  go_wp2_with (first
    | (at_builtin; refine wpList_append_shows _ rfl (.const (.slice none 0 0)) (.tmp 103) 29 rfl w3.heap.size 20 i0 .nilIface 16 Try.underlying29 hi hz0 hz1 hz2 rfl (.slice none 0 0) 0 [] rfl (World.ownsRow_nil _ _ _ _) w3.heap.size A1 ps1.length c1 vs1 rfl (Shows.owned ho1c) hv1c.one (by unfold maxLen; omega) (by omega) (Nat.le_refl _) ?_; intro v4 w4 hown4 hgrow4; simp only [Nat.zero_add, List.nil_append] at hown4)
    | (at_builtin; refine wpList_append_shows _ rfl (.tmp 104) (.tmp 105) 29 rfl w3.heap.size 20 i0 .nilIface 16 Try.underlying29 hi hz0 hz1 hz2 rfl v4 _ _ rfl hown4 w3.heap.size A3 ps2.length c3 vs3 rfl ((Shows.owned ho3).below (hgrow4.below_from (Nat.le_refl _) (by simp [Value.ownBlock]))) hv3.one (by unfold maxLen; omega) (by omega) hgrow4.by_.size ?_; intro v5 w5 hown5 hgrow5))
  obtain ⟨A5, c5, hv5, hc5, hm5⟩ := own_form hown5
  subst hv5
  have hb35 : Below w3.heap.size w3 w5 := (hgrow4.trans hgrow5).below_from (Nat.le_refl _) (by simp [Value.ownBlock])
  have hk35 : BytesKept w3 w5 := BytesKept.below hb35
  have hall5 : AllOV w5 w.heap.size (vs1 ++ vs3) q := by
    rw [HQ.out]
    exact (hv1c.kept hk35).append ((hv3.kept hk35).mono hbb2.size)
  have hsh5 := Shows.owned hown5
  have ho2d := own_below ho2c hb35
  have hv2d := hv2c.kept hk35
  have hbb5 := hbb3.trans (hb35.mono hbb3.size)
  clear hown4 hgrow4 hgrow5 hown5 ho3 hv3 ho1c hv1c ho2c hv2c hk35
  refine (pack_any (a ++ c) A5 (ps1.length + ps2.length) c5 (vs1 ++ vs3) q w5 (by rw [HSZ.out]; omega) (by omega) hsh5 HQL.out hall5.iv).mono ?_
  rw [HT.out]
  rintro e w6 hp
  obtain ⟨A6, c6, rfl, ho6, hb6, -, -⟩ := packed_ok hp
  clear hp
  have ho2e := own_below ho2d hb6
  have hv2e := hv2d.kept (BytesKept.below hb6)
  have hbb6 := hbb5.trans (hb6.mono hbb5.size)
  clear ho2d hv2d hb6 hb35 hall5 hsh5
  go_wp2_with fail
  refine (pack_any (a ++ c) A2 q.length c2 vs2 q w6 (by rw [HSZ.out]; omega) (by rw [HQL.out]; omega) (Shows.owned ho2e) rfl hv2e.iv).mono ?_
  rw [HT.out]
  rintro e w7 hp
  obtain ⟨A7, c7, rfl, ho7, hb7, -, -⟩ := packed_ok hp
  clear hp
  have hs6 := str_own (own_below ho6 hb7)
  have hs7 := str_own ho7
  have hbb7 := hbb6.trans (hb7.mono hbb6.size)
  clear ho6 ho7 hb7 ho2e hv2e
  go_wp2_with (go_at_call 15; refine (num_any _ _).mono ?_; rintro e w' ⟨rfl, rfl⟩)
  refine (known_any w7).mono ?_
  rintro e w8 ⟨rfl, hb8⟩
  go_wp2_with fail
  go_ret
  exact ⟨rfl, hbb7.trans (hb8.mono hbb7.size)⟩

end Go.Proofs.Ytfkjgebbaahnmaa
