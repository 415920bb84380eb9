/- Walks: the document's Open; what both hand back, as texts. -/
import Derived.Test.YthjbchdpnlenjaaDoorCk
import Derived.Deep.RegionHeldLaw
namespace Go.Proofs.YthjbchdpnlenjaaDoor
open Go.RowKit

/-- what an Open hands back, as the law reads it -/
def OpenedS (w : World) (o : Option (List UInt8)) (e : Ending) (w' : World) : Prop :=
  Below w.heap.size w w' ∧ ∃ A n c, e = .returned (.tuple #[.slice A n c, .bool o.isSome]) ∧ Shows w' w'.heap.size A n (cells8 (o.getD []))
theorem Opened.s {w : World} {o : Option (List UInt8)} {e : Ending} {w' : World} (h : Opened w o e w') : OpenedS w o e w' := by
  obtain ⟨hb, h⟩ := h
  refine ⟨hb, ?_⟩
  cases o with
  | none => exact ⟨none, 0, 0, h, Shows.empty _ _ _⟩
  | some m =>
    obtain ⟨v, he, hv⟩ := h
    obtain ⟨A, c, rfl, _⟩ := own_form hv
    exact ⟨A, m.length, c, he, Shows.owned hv⟩
theorem str_own {w : World} {base n : Nat} {v : Value} {l : List UInt8} (h : w.ownsRow base 5 1 v n (cells8 l)) : (convert 22 9 v).run Tryd.prog w = .ok (.string ⟨l.toArray⟩) w := by
  obtain ⟨A, c, rfl, _⟩ := own_form h
  exact str_bytes (Shows.owned h)

set_option maxRecDepth 10000 in
set_option maxHeartbeats 4000000 in
theorem ropen_any (B : Nat) (A : Option Addr) (cap : Nat) (l : List UInt8) (w : World) (hs : Shows w B A l.length (cells8 l)) (hB : B ≤ w.heap.size) (hc : l.length ≤ cap) (hl : l.length ≤ 1000000) :
    Calls Tryd.prog 14 #[.slice A l.length cap] w (OpenedS w (openB l)) := by
  by_cases h4 : 4 ≤ l.length
  · obtain ⟨n, hn⟩ : ∃ n, n + 4 = l.length := ⟨l.length - 4, by omega⟩
    have hs1 := hs.upto (k := n) (by omega)
    rw [← cells8_take] at hs1
    obtain ⟨p, rfl, _, _⟩ := hs.lies (by omega)
    have hlen : (l.take n).length = n := by rw [List.length_take]; omega
    have hsub : (l.length : Int) - 4 = (n : Int) := by omega
    have hwn : IntKind.i64.wrap (n : Int) = (n : Int) := IntWalk.i64_in _ (by omega)
    have hwr : IntKind.i64.wrap ((l.length : Int) - 4) = (n : Int) := by rw [hsub]; exact IntWalk.i64_in _ (by omega)
    have hsl : ∀ w', Below w.heap.size w w' → Calls Tryd.prog 16 #[.slice (some p) n cap] w' fun e w1 => ∃ v, e = .returned v ∧ (convert 22 9 v).run Tryd.prog w1 = .ok (.string ⟨(sealB (l.take n)).toArray⟩) w1 ∧ Below w.heap.size w w1 := by
      intro w' hb
      have h1 := rsealed_any B (some p) cap (l.take n) w' (by rw [hlen]; exact shows_on hs1 hB hb) (Nat.le_trans hB hb.size) (by omega)
      rw [hlen] at h1
      refine h1.mono fun e w1 ⟨v, he, hv, hb1⟩ => ⟨v, he, str_own hv, hb.trans (hb1.mono hb.size)⟩
    have hst : ∀ w', Below w.heap.size w w' → (convert 22 9 (.slice (some p) l.length cap)).run Tryd.prog w' = .ok (.string ⟨l.toArray⟩) w' := fun w' hb => str_bytes (shows_on hs hB hb)
    have HSL := Lib.hid hsl
    have HST := Lib.hid hst
    clear hsl hst
    have hneg : decide ((l.length : Int) < 4) = false := by simp; omega
    have hnl : n ≤ l.length := by omega
    have hnc : n ≤ cap := by omega
    have hn0 : (0 : Int) ≤ (n : Int) := by omega
    have hn1 : (n : Int) ≤ (cap : Int) := by omega
    go_enter Tryd.func14, Tryd.ntmps14
    go_wp2_with fail
    go_region_held_law (fun w' => Below w.heap.size w w' ∧ (convert 22 9 (.slice (some p) l.length cap)).run Tryd.prog w' = .ok (.string ⟨l.toArray⟩) w')
      (first | exact ⟨Below.refl _ _, HST.out _ (Below.refl _ _)⟩ | exact ⟨by assumption, HST.out _ (by assumption)⟩ | assumption | exact ⟨(Below.refl _ _).drew, HST.out _ (Below.refl _ _).drew⟩)
      (first
        | (go_at_call 16; refine (HSL.out _ (by first | assumption | exact (‹Below w.heap.size w _ ∧ _›).1)).mono ?_; rintro e w1 ⟨v, rfl, hcv, hb1⟩))
    clear HSL HST
    have hz1 := hb1.size
    by_cases he : sealB (l.take n) = l
    · have hop : openB l = some (l.take n) := by
        unfold openB
        rw [show l.length - 4 = n by omega, if_pos ⟨h4, he⟩]
      have HOP := Lib.hid hop
      have hsn := (shows_on hs1 hB hb1).wide (Nat.le_trans hB hz1)
      have hbq : (sealB (l.take n) == l) = true := by simpa using he
      rw [hbq]
      clear he hop hbq hs hs1 hlen
      go_wp2
      go_ret2
      unfold OpenedS
      rw [HOP.out]
      exact ⟨hb1, some p, n, cap, rfl, hsn⟩
    · have hop : openB l = none := by
        unfold openB
        rw [show l.length - 4 = n by omega, if_neg (fun h => he h.2)]
      have HOP := Lib.hid hop
      have hbq : (sealB (l.take n) == l) = false := by simpa using he
      rw [hbq]
      clear he hop hbq hs hs1 hlen
      go_wp2
      go_ret2
      unfold OpenedS
      rw [HOP.out]
      exact ⟨hb1, none, 0, 0, rfl, Shows.empty _ _ _⟩
  · have hop : openB l = none := by
      unfold openB
      rw [if_neg (fun h => h4 h.1)]
    have HOP := Lib.hid hop
    clear hop
    have hneg : decide ((l.length : Int) < 4) = true := by simp; omega
    go_enter Tryd.func14, Tryd.ntmps14
    go_wp2_with fail
    go_quiet (fail)
    go_wp2
    go_ret2
    unfold OpenedS
    rw [HOP.out]
    exact ⟨below_drewN (Below.refl _ _) _, none, 0, 0, rfl, Shows.empty _ _ _⟩
end Go.Proofs.YthjbchdpnlenjaaDoor
