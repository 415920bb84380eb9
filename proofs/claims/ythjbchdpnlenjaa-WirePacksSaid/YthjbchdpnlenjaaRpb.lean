/- The document's Pack, for any shape and any values; the walk of the law WirePacks. -/
import Derived.Test.YthjbchdpnlenjaaRpa
import Derived.Test.YthjbchdpnlenjaaMuch
import Derived.Test.YthjbchdpnlenjaaMeansV
namespace Go.Proofs.Ythjbchdpnlenjaa
open Go.RowKit

set_option maxHeartbeats 2000000 in
theorem rpack_any (s : ByteArray) (A : Option Addr) (cap : Nat) (vals : List LVal) (w : World) (hs : s.size ≤ 1000) (hv : VRow w w.heap.size A vals) :
    Calls Try.prog 14 #[.string s, .slice A vals.length cap] w (Packed w (packR (bs s) (vals.map toldP))) := by
  cases hm : mayS (bs s) with
  | false =>
    have hE : packR (bs s) (vals.map toldP) = none := by simp [packR, hm]
    rw [hE]
    have HM := Lib.hid hm
    clear hm hE
    go_enter Try.func14, Try.ntmps14
    go_wp2_with fail
    refine (rmay_any s w (by omega)).mono ?_
    rintro e w1 ⟨rfl, rfl⟩
    rw [HM.out]
    go_wp2_with fail
    go_ret2
    exact ⟨rfl, Below.refl _ _⟩
  | true =>
    by_cases hns : vals.length = s.size
    · have hE : packR (bs s) (vals.map toldP) = packZ ((bs s).zip (vals.map toldP)) := by rw [packR, if_pos ⟨hm, by rw [List.length_map, bs_length]; exact hns⟩]
      rw [hE]
      exact rpack_loop s A cap vals w hs hv hns hm
    · have hE : packR (bs s) (vals.map toldP) = none := by
        rw [packR, if_neg]
        rintro ⟨_, h⟩
        rw [List.length_map, bs_length] at h
        exact hns h
      rw [hE]
      have HM := Lib.hid hm
      clear hm hE
      have hd : ((vals.length : Int) != (s.size : Int)) = true := by simpa using (by omega : ¬ (vals.length : Int) = (s.size : Int))
      go_enter Try.func14, Try.ntmps14
      go_wp2_with fail
      refine (rmay_any s w (by omega)).mono ?_
      rintro e w1 ⟨rfl, rfl⟩
      rw [HM.out]
      go_wp2_with fail
      go_ret2
      exact ⟨rfl, Below.refl _ _⟩

def packE (r : Option (List UInt8)) : Int := if r.isSome then 0 else 2
/-- what a Pack hands back, as the law reads it -/
theorem Packed.s {w w' : World} {r : Option (List UInt8)} {e : Ending} (h : Packed w r e w') :
    ∃ A n c, e = .returned (.tuple #[.slice A n c, .int .i64 (packE r)]) ∧ Shows w' w'.heap.size A n (cells8 (r.getD [])) ∧ Below w.heap.size w w' := by
  cases r with
  | none => exact ⟨none, 0, 0, h.1, Shows.empty _ _ _, h.2⟩
  | some l =>
    obtain ⟨A, c, rfl, ho, hb, _⟩ := packed_ok h
    exact ⟨A, l.length, c, rfl, Shows.owned ho, hb⟩

set_option maxRecDepth 10000 in
set_option maxHeartbeats 2000000 in
theorem packs_walk (s : ByteArray) (A : Option Addr) (cap : Nat) (vals : List LVal) (w : World) (hv : VRow w w.heap.size A vals) (hs : s.size ≤ maxLen) (hn : vals.length ≤ 9223372036854775807) :
    Calls Try.prog 3 #[.string s, .slice A vals.length cap] w fun e w' => e = .returned (.bool true) ∧ Below w.heap.size w w' := by
  have HMU := Lib.hid (much_any s A cap vals w w.heap.size hv hs hn)
  cases hM : muchB s vals with
  | true =>
    rw [hM] at HMU
    clear hM
    go_enter Try.func3, Try.ntmps3
    go_wp2_with fail
    refine HMU.out.mono ?_
    rintro e w1 ⟨rfl, rfl⟩
    go_wp2_with fail
    refine (known_any w).mono ?_
    rintro e w1 ⟨rfl, hb1⟩
    go_wp2
    go_ret
    exact ⟨rfl, hb1⟩
  | false =>
    obtain ⟨h40, hv40, hvb⟩ := muchB_no hM
    rw [hM] at HMU
    have HVB := Lib.hid hvb
    clear hM hvb
    go_enter Try.func3, Try.ntmps3
    go_wp2_with fail
    refine HMU.out.mono ?_
    rintro e w1 ⟨rfl, rfl⟩
    go_wp2_with fail
    refine (all_any A cap vals w hv (by omega) (fun v hv' => Nat.le_trans (HVB.out v hv') (by omega))).mono ?_
    rintro e w2 ⟨u2, us2, rfl, ho2, hv2, hb2⟩
    obtain ⟨A2, c2, hu2, -⟩ := own_form ho2
    subst hu2
    go_wp2_with fail
    refine (pack_any s A2 vals.length c2 us2 (vals.map toldP) w2 (by omega) (by omega) (Shows.owned ho2) (List.length_map _) hv2.iv).mono ?_
    rintro e w3 hp
    obtain ⟨A3, n3, c3, rfl, hx3, hb3⟩ := hp.s
    have hb23 := hb2.trans (hb3.mono hb2.size)
    clear hp hb3 ho2 hv2 hb2
    go_wp2_with fail
    refine (rpack_any s A cap vals w3 (by omega) (vrow_wide (hv.below hb23) hb23.size)).mono ?_
    rintro e w4 hp
    obtain ⟨A4, n4, c4, rfl, hx4, hb4⟩ := hp.s
    have hx3' := hx3.below hb4
    have hb24 := hb23.trans (hb4.mono hb23.size)
    clear hp hx3 hb23 hb4 hv HMU
    have st1 := str_shows 25 9 5 Try.underlying25 Try.underlying5 Try.underlying9 (c := c3) hx3'
    have st2 := str_shows 25 9 5 Try.underlying25 Try.underlying5 Try.underlying9 (c := c4) hx4
    generalize (packR (bs s) (vals.map toldP)).getD [] = xl at *
    go_wp2_with fail
    refine (num_any _ _).mono ?_
    rintro e w' ⟨rfl, rfl⟩
    go_wp2_with fail
    refine (known_any _).mono ?_
    rintro e w5 ⟨rfl, hb5⟩
    go_wp2
    go_ret
    exact ⟨rfl, hb24.trans (hb5.mono hb24.size)⟩
end Go.Proofs.Ythjbchdpnlenjaa
