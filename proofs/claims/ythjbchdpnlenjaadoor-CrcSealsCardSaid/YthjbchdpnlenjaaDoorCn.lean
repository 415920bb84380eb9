/- The walk of the law CrcSeals. -/
import Derived.Test.YthjbchdpnlenjaaDoorCl
namespace Go.Proofs.YthjbchdpnlenjaaDoor
open Go.RowKit

set_option maxRecDepth 10000 in
set_option maxHeartbeats 4000000 in
theorem seals_walk (A A' : Option Addr) (cap cap' : Nat) (l l' : List UInt8) (w : World) (hT : Tabs w) (hs : Shows w w.heap.size A l.length (cells8 l)) (hs' : Shows w w.heap.size A' l'.length (cells8 l')) (hc : l.length ≤ cap) (hc' : l'.length ≤ cap') :
    Calls Tryd.prog 4 #[.slice A l.length cap, .slice A' l'.length cap'] w fun e w' => e = .returned (.bool true) ∧ Below w.heap.size w w' := by
  have hTs := hT.size
  by_cases hl : l.length ≤ 5000 ∧ l'.length ≤ 5000
  · obtain ⟨h1, h2⟩ := hl
    have d1 : decide (5000 < (l.length : Int)) = false := by simp; omega
    have d2 : decide (5000 < (l'.length : Int)) = false := by simp; omega
    go_enter Tryd.func4, Tryd.ntmps4
    go_wp2_with fail
    refine (open_any w.heap.size A' cap' l' w hT hs' (Nat.le_refl _) hc' (by omega)).mono ?_
    intro e w1 ho
    obtain ⟨hb1, A1, n1, c1, rfl, hx1⟩ := ho.s
    clear ho
    have hz1 := hb1.size
    go_wp2_with fail
    refine (ropen_any w.heap.size A' cap' l' w1 (shows_on hs' (Nat.le_refl _) hb1) hz1 hc' (by omega)).mono ?_
    rintro e w2 ⟨hb2, A2, n2, c2, rfl, hx2⟩
    have hz2 := hb2.size
    have hx1' := shows_on hx1 (Nat.le_refl _) hb2
    have hB2 := hb1.trans (hb2.mono hz1)
    have hT2 := hT.below hB2 hTs
    have hs2 := shows_on hs (Nat.le_refl _) hB2
    clear hx1 hb1 hb2 hT hs hs'
    have hst1 : ∀ w', Below w2.heap.size w2 w' → (convert 22 9 (.slice A1 n1 c1)).run Tryd.prog w' = .ok (.string ⟨((openB l').getD []).toArray⟩) w' := fun w' hb => str_bytes (shows_on hx1' hz2 hb)
    have hst2 : ∀ w', Below w2.heap.size w2 w' → (convert 22 9 (.slice A2 n2 c2)).run Tryd.prog w' = .ok (.string ⟨((openB l').getD []).toArray⟩) w' := fun w' hb => str_bytes (shows_on hx2 (Nat.le_refl _) hb)
    have hse : ∀ w', Below w2.heap.size w2 w' → Calls Tryd.prog 15 #[.slice A l.length cap] w' fun e w3 => ∃ v, e = .returned v ∧ Hid (∀ w4, Below w3.heap.size w3 w4 → (convert 22 9 v).run Tryd.prog w4 = .ok (.string ⟨(sealB l).toArray⟩) w4) ∧ Below w2.heap.size w2 w3 := by
      intro w' hb
      refine (sealed_any w.heap.size A cap l w' (hT2.below hb (by omega)) (shows_on hs2 (by omega) hb) (by have := hb.size; omega) hc (by omega)).mono fun e w3 ⟨v, he, hv, hb3⟩ => ⟨v, he, fun w4 hb4 => ?_, hb.trans (hb3.mono hb.size)⟩
      obtain ⟨A3, c3, rfl, _⟩ := own_form hv
      exact str_bytes (shows_on (Shows.owned hv) (Nat.le_refl _) hb4)
    have hrs : ∀ w', Below w2.heap.size w2 w' → Calls Tryd.prog 16 #[.slice A l.length cap] w' fun e w3 => ∃ v, e = .returned v ∧ (convert 22 9 v).run Tryd.prog w3 = .ok (.string ⟨(sealB l).toArray⟩) w3 ∧ Below w'.heap.size w' w3 ∧ Below w2.heap.size w2 w3 := by
      intro w' hb
      exact (rsealed_any w.heap.size A cap l w' (shows_on hs2 (by omega) hb) (by have := hb.size; omega) (by omega)).mono fun e w3 ⟨v, he, hv, hb3⟩ => ⟨v, he, str_own hv, hb3, hb.trans (hb3.mono hb.size)⟩
    have hkn : ∀ w', Below w2.heap.size w2 w' → Calls Tryd.prog 6 #[] w' fun e w3 => e = .returned (.bool true) ∧ Below w2.heap.size w2 w3 := by
      intro w' hb
      exact (known_any w' (hT2.below hb (by omega))).mono fun e w3 ⟨he, hb3⟩ => ⟨he, hb.trans (hb3.mono hb.size)⟩
    have HST1 := Lib.hid hst1
    have HST2 := Lib.hid hst2
    have HSE := Lib.hid hse
    have HRS := Lib.hid hrs
    have HKN := Lib.hid hkn
    clear hst1 hst2 hse hrs hkn hx1' hx2 hT2 hs2
    generalize sealB l = sl at *
    generalize (openB l').getD [] = ol at *
    generalize (openB l').isSome = ob at *
    go_wp2_with fail
    go_region_held_law (fun w' => Below w2.heap.size w2 w' ∧ (convert 22 9 (.slice A1 n1 c1)).run Tryd.prog w' = .ok (.string ⟨ol.toArray⟩) w' ∧ (convert 22 9 (.slice A2 n2 c2)).run Tryd.prog w' = .ok (.string ⟨ol.toArray⟩) w')
      (first | exact ⟨Below.refl _ _, HST1.out _ (Below.refl _ _), HST2.out _ (Below.refl _ _)⟩ | exact ⟨by assumption, HST1.out _ (by assumption), HST2.out _ (by assumption)⟩ | assumption | exact ⟨(Below.refl _ _).drew, HST1.out _ (Below.refl _ _).drew, HST2.out _ (Below.refl _ _).drew⟩)
      (first
        | (go_at_call 15; refine (HSE.out _ (by first | assumption | exact (‹Below w2.heap.size w2 _ ∧ _›).1)).mono ?_; rintro e w3 ⟨v3, rfl, HC3, hb3⟩; have hc3 := HC3.out _ (Below.refl _ _))
        | (go_at_call 16; refine (HRS.out _ (by first | assumption | exact (‹Below w2.heap.size w2 _ ∧ _›).1)).mono ?_; rintro e w5 ⟨v5, rfl, hc5, hbn, hb5⟩; have hc6 := HC3.out _ hbn)
        | (go_at_call 6; refine (HKN.out _ (by first | assumption | exact (‹Below w2.heap.size w2 _ ∧ _›).1)).mono ?_; rintro e w7 ⟨rfl, hb7⟩))
    all_goals (clear HST1 HST2 HSE HRS HKN; go_wp2)
    all_goals go_ret
    all_goals exact ⟨rfl, hB2.trans (hb7.mono (by omega))⟩
  · by_cases h1 : l.length ≤ 5000
    · have d1 : decide (5000 < (l.length : Int)) = false := by simp; omega
      have d2 : decide (5000 < (l'.length : Int)) = true := by simp; omega
      go_enter Tryd.func4, Tryd.ntmps4
      go_wp2_with (go_at_call 6; refine (known_any w hT).mono ?_; rintro e w1 ⟨rfl, hb1⟩)
      go_ret
      exact ⟨rfl, hb1⟩
    · have d1 : decide (5000 < (l.length : Int)) = true := by simp; omega
      go_enter Tryd.func4, Tryd.ntmps4
      go_wp2_with (go_at_call 6; refine (known_any w hT).mono ?_; rintro e w1 ⟨rfl, hb1⟩)
      go_ret
      exact ⟨rfl, hb1⟩
end Go.Proofs.YthjbchdpnlenjaaDoor
