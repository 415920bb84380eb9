/- The walk of the law WireMeans. -/
import Derived.Test.YthjbchdpnlenjaaAre
import Derived.Test.YthjbchdpnlenjaaMuch
namespace Go.Proofs.Ythjbchdpnlenjaa
open Go.RowKit

theorem num_q (n : Int) (w : World) : Calls Try.prog 15 #[.int .i64 n] w fun e w' => e = .returned (.int .i64 n) ∧ w' = w := (num_any n w).mono fun _ _ h => ⟨h.1, h.2.symm⟩
theorem vrow_wide {w : World} {B C : Nat} {A : Option Addr} {vals : List LVal} (h : VRow w B A vals) (hC : B ≤ C) : VRow w C A vals := by
  intro hp
  obtain ⟨p, e, hpb, hx⟩ := h hp
  refine ⟨p, e, by omega, fun i hi => ?_⟩
  obtain ⟨cs, hl, hc⟩ := hx i hi
  exact ⟨cs, hl.wide hC, hc⟩

set_option maxRecDepth 100000 in
set_option maxHeartbeats 2000000 in
theorem means_none (s : ByteArray) (A : Option Addr) (cap : Nat) (vals : List LVal) (Ar : Option Addr) (capr : Nat) (r : List UInt8) (Ab : Option Addr) (capb : Nat) (l : List UInt8) (w : World)
    (hv : VRow w w.heap.size A vals) (_hr : Shows w w.heap.size Ar r.length (cells8 r)) (hl : Shows w w.heap.size Ab l.length (cells8 l)) (_hrc : r.length ≤ capr) (hlc : l.length ≤ capb) (hlm : capb ≤ 9223372036854775807)
    (hM : muchB s vals = false) (hr3 : r.length ≤ 3000) (hl3 : l.length ≤ 3000) (hP : packR (bs s) (vals.map toldP) = none) :
    Calls Try.prog 7 #[.string s, .slice A vals.length cap, .slice Ar r.length capr, .slice Ab l.length capb] w fun e w' => e = .returned (.bool true) ∧ Below w.heap.size w w' := by
  have HP := Lib.hid hP
  clear hP
  obtain ⟨hs40, hv40, hvb⟩ := muchB_no hM
  have HMU := Lib.hid hM
  have hvb2 : ∀ v ∈ vals, v.b.length ≤ 16777216 := fun v hv => Nat.le_trans (hvb v hv) (by omega)
  have HVB := Lib.hid hvb2
  clear hM hvb hvb2
  go_enter Try.func7, Try.ntmps7
  go_wp2_with fail
  refine (known_any w).mono ?_
  rintro e w1 ⟨rfl, hb1⟩
  go_wp2_with fail
  refine (much_any s A cap vals w1 w.heap.size (hv.below hb1) (by unfold maxLen; omega) (by omega)).mono ?_
  rintro e w' ⟨rfl, rfl⟩
  rw [HMU.out]
  go_wp2_with fail
  refine (all_any A cap vals w1 (vrow_wide (hv.below hb1) hb1.size) (by omega) HVB.out).mono ?_
  rintro e w2 ⟨u2, us2, rfl, ho2, hv2, hb2⟩
  obtain ⟨A2, c2, hu2, -⟩ := own_form ho2
  subst hu2
  have hbb2 := hb1.trans (hb2.mono hb1.size)
  clear hb2
  go_wp2_with fail
  refine (pack_any s A2 vals.length c2 us2 (vals.map toldP) w2 (by omega) (by omega) (Shows.owned ho2) (List.length_map _) hv2.iv).mono ?_
  rw [HP.out]
  rintro e w3 ⟨rfl, hb3⟩
  have hbb3 := hbb2.trans (hb3.mono hbb2.size)
  clear hb3 ho2 hv2 hbb2 hb1
  go_wp2_with fail
  refine (num_any _ _).mono ?_
  rintro e w' ⟨rfl, rfl⟩
  by_cases hE : unpE (bs s) l = 0
  · obtain ⟨hm, ps, n, hu⟩ := unpE_zero hE
    obtain ⟨L, HT, HLn⟩ : ∃ L, Hid (packR (bs s) ps = some L) ∧ Hid (L = l.take n) := ⟨_, Lib.hid (unpZ_packR hm hu), Lib.hid rfl⟩
    have hnl := (unpZ_bounds hu).2.1
    have hpl : ps.length ≤ 40 := by rw [(unpZ_bounds hu).2.2, bs_length]; exact hs40
    have HM := Lib.hid hm
    have HU := Lib.hid hu
    clear hE hm hu
    go_wp2_with fail
    refine (unpack_any s w.heap.size Ab capb l w3 (by omega) (hl.below hbb3) hbb3.size hlc hlm).mono ?_
    rintro e wa hu
    obtain ⟨Aa, ca, vsa, rfl, hoa, hva, hba⟩ := unpacked_ok hu HM.out HU.out
    clear hu
    have hbba := hbb3.trans (hba.mono hbb3.size)
    clear hba
    go_wp2_with fail
    refine (num_any _ _).mono ?_
    rintro e w' ⟨rfl, rfl⟩
    go_wp2_with fail
    refine (pack_any s Aa ps.length ca vsa ps wa (by omega) (by omega) (Shows.owned hoa) rfl hva.iv).mono ?_
    rw [HT.out]
    rintro e wb hp
    obtain ⟨Ax, cx, rfl, hox, hbx, -, -⟩ := packed_ok hp
    clear hp hoa hva
    have hbbx := hbba.trans (hbx.mono hbba.size)
    clear hbx hbba
    have hs1 := fun k => str_own (own_drewN hox k)
    have hup := (hl.below hbbx).upto (k := n) hnl
    rw [← cells8_take, ← HLn.out] at hup
    have hs2 := fun k => str_shows 25 9 5 Try.underlying25 Try.underlying5 Try.underlying9 (c := capb) (hup.drewN k)
    have hnc : (n : Int) ≤ (capb : Int) := by omega
    have hn0 : (0 : Int) ≤ (n : Int) := by omega
    clear hup hox
    go_wp2_with fail
    go_quiet ((go_at_call 15; exact Calls.quiet_of_same (num_q _ _)))
    go_wp2
    go_ret
    exact ⟨rfl, below_drewN hbbx _⟩
  · have hE2 : (unpE (bs s) l != 0) = true := by simpa using hE
    clear hE
    go_wp2_with fail
    refine (unpack_any s w.heap.size Ab capb l w3 (by omega) (hl.below hbb3) hbb3.size hlc hlm).mono ?_
    rintro e wa hu
    obtain ⟨va, na, rfl, -⟩ := unpacked_shape hu
    have hbba := hbb3.trans (hu.1.mono hbb3.size)
    clear hu
    go_wp2_with fail
    refine (num_any _ _).mono ?_
    rintro e w' ⟨rfl, rfl⟩
    go_wp2_with fail
    go_ret
    exact ⟨rfl, hbba⟩

end Go.Proofs.Ythjbchdpnlenjaa
