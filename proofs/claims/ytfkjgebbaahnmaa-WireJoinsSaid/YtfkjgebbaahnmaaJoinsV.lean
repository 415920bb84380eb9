/- The walk of the law WireJoins where the second shape is refused. -/
import Derived.Test.YtfkjgebbaahnmaaBack
namespace Go.Proofs.Ytfkjgebbaahnmaa
open Go.RowKit

set_option maxRecDepth 100000 in
set_option maxHeartbeats 400000 in
theorem joins_second (a c : ByteArray) (A : Option Addr) (cap : Nat) (l : List UInt8) (w : World) (ha : a.size ≤ 20) (hc : c.size ≤ 20) (hll : l.length ≤ 3000)
    (hl : Shows w w.heap.size A l.length (cells8 l)) (hlc : l.length ≤ cap) (hcm : cap ≤ 9223372036854775807) (ps1 : List PV) (n1 : Nat) (hm1 : mayS (bs a) = true) (hu1 : unpZ (bs a) l = some (ps1, n1)) (hE : ¬ unpE (bs c) (l.drop n1) = 0) :
    Calls Try.prog 8 #[.string a, .string c, .slice A l.length cap] w fun e w' => e = .returned (.bool true) ∧ Below w.heap.size w w' := by
  have HE := Lib.hid (show unpE (bs (a ++ c)) l = unpE (bs c) (l.drop n1) by rw [bs_app]; exact unpE_app hm1 hu1)
  have hE2 : (unpE (bs c) (l.drop n1) != 0) = true := by simpa using hE
  have HSZ := Lib.hid (show (a ++ c).size = a.size + c.size from ByteArray.size_append)
  have HM1 := Lib.hid hm1
  have HU1 := Lib.hid hu1
  have hn1 := (unpZ_bounds hu1).2.1
  have HPL := Lib.hid (unpZ_bounds hu1).2.2
  clear hm1 hu1
  clear hE
  by_cases hcn : cap = n1
  · obtain rfl : n1 = cap := hcn.symm
    clear hcn
    go_enter Try.func8, Try.ntmps8
    go_wp2_with fail
    refine (unpack_any a w.heap.size A n1 l w (by omega) hl (Nat.le_refl _) hlc hcm).mono ?_
    rintro e w1 hu
    obtain ⟨A1, c1, vs1, rfl, ho1, hv1, hb1⟩ := unpacked_ok hu HM1.out HU1.out
    clear hu
    have hl1 := hl.below hb1
    go_wp2_with fail
    refine (unpack_any (a ++ c) w.heap.size A n1 l w1 (by rw [HSZ.out]; omega) hl1 hb1.size hlc hcm).mono ?_
    rintro e w2 hu
    obtain ⟨v2, n2, rfl, -⟩ := unpacked_shape hu
    have hb2 := hb1.trans (hu.1.mono hb1.size)
    clear hu
    rw [HE.out]
    go_wp2_with fail
    refine (num_any _ _).mono ?_
    rintro e w' ⟨rfl, rfl⟩
    go_wp2_with fail
    refine (unpack_at c w.heap.size A 0 0 (l.drop n1) w2 (by omega) (by rw [List.drop_of_length_le (by omega)]; exact Shows.empty _ _ _) hb2.size (by omega) (by omega)).mono ?_
    rintro e w3 hu
    obtain ⟨v3, n3, rfl, -⟩ := unpacked_shape hu
    have hb3 := hb2.trans (hu.1.mono hb2.size)
    clear hu
    go_wp2_with fail
    refine (num_any _ _).mono ?_
    rintro e w' ⟨rfl, rfl⟩
    go_wp2_with fail
    refine (num_any _ _).mono ?_
    rintro e w' ⟨rfl, rfl⟩
    go_wp2_with fail
    refine (num_any _ _).mono ?_
    rintro e w' ⟨rfl, rfl⟩
    go_wp2_with fail
    refine (known_any w3).mono ?_
    rintro e w4 ⟨rfl, hb4⟩
    go_wp2_with fail
    go_ret
    exact ⟨rfl, hb3.trans (hb4.mono hb3.size)⟩
  · have HCN := Lib.hid hcn
    go_enter Try.func8, Try.ntmps8
    go_wp2_with fail
    refine (unpack_any a w.heap.size A cap l w (by omega) hl (Nat.le_refl _) hlc hcm).mono ?_
    rintro e w1 hu
    obtain ⟨A1, c1, vs1, rfl, ho1, hv1, hb1⟩ := unpacked_ok hu HM1.out HU1.out
    clear hu
    have hl1 := hl.below hb1
    go_wp2_with fail
    refine (unpack_any (a ++ c) w.heap.size A cap l w1 (by rw [HSZ.out]; omega) hl1 hb1.size hlc hcm).mono ?_
    rintro e w2 hu
    obtain ⟨v2, n2, rfl, -⟩ := unpacked_shape hu
    have hb2 := hb1.trans (hu.1.mono hb1.size)
    clear hu
    rw [HE.out]
    go_wp2_with fail
    refine (num_any _ _).mono ?_
    rintro e w' ⟨rfl, rfl⟩
    go_wp2_with fail
    refine (unpack_at c w.heap.size (A.map fun x => x.add n1) (l.length - n1) (cap - n1) (l.drop n1) w2 (by omega) (by have h5 := (hl.below hb2).from_ hn1 hlc; rw [if_neg HCN.out, ← cells8_drop] at h5; exact h5) hb2.size (by omega) (by omega)).mono ?_
    rintro e w3 hu
    obtain ⟨v3, n3, rfl, -⟩ := unpacked_shape hu
    have hb3 := hb2.trans (hu.1.mono hb2.size)
    clear hu
    go_wp2_with fail
    refine (num_any _ _).mono ?_
    rintro e w' ⟨rfl, rfl⟩
    go_wp2_with fail
    refine (num_any _ _).mono ?_
    rintro e w' ⟨rfl, rfl⟩
    go_wp2_with fail
    refine (num_any _ _).mono ?_
    rintro e w' ⟨rfl, rfl⟩
    go_wp2_with fail
    refine (known_any w3).mono ?_
    rintro e w4 ⟨rfl, hb4⟩
    go_wp2_with fail
    go_ret
    exact ⟨rfl, hb3.trans (hb4.mono hb3.size)⟩

end Go.Proofs.Ytfkjgebbaahnmaa
