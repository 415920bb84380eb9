/- Walks: Open of package crc. -/
import Derived.Test.YthjbchdpnlenjaaDoorCj
namespace Go.Proofs.YthjbchdpnlenjaaDoor
open Go.RowKit

/-- what bytes with their sum behind them open as -/
def openB (l : List UInt8) : Option (List UInt8) := if 4 ≤ l.length ∧ sealB (l.take (l.length - 4)) = l then some (l.take (l.length - 4)) else none
def Opened (w : World) (o : Option (List UInt8)) (e : Ending) (w' : World) : Prop :=
  Below w.heap.size w w' ∧ match o with
    | none => e = .returned (.tuple #[.slice none 0 0, .bool false])
    | some m => ∃ v, e = .returned (.tuple #[v, .bool true]) ∧ w'.ownsRow w.heap.size 5 1 v m.length (cells8 m)

theorem le4_num (a b c d : UInt8) (s : Nat) (h : s < 4294967296) : (num4 a b c d = s) ↔ le4 s = [a, b, c, d] := by
  have ha := a.toNat_lt
  have hb := b.toNat_lt
  have hc := c.toNat_lt
  have hd := d.toNat_lt
  unfold num4 le4
  constructor
  · intro e
    subst e
    have e1 : UInt8.ofNat (a.toNat + 256 * b.toNat + 65536 * c.toNat + 16777216 * d.toNat) = a := UInt8.toNat.inj (by rw [UInt8.toNat_ofNat']; omega)
    have e2 : UInt8.ofNat ((a.toNat + 256 * b.toNat + 65536 * c.toNat + 16777216 * d.toNat) / 256) = b := UInt8.toNat.inj (by simp; omega)
    have e3 : UInt8.ofNat ((a.toNat + 256 * b.toNat + 65536 * c.toNat + 16777216 * d.toNat) / 65536) = c := UInt8.toNat.inj (by simp; omega)
    have e4 : UInt8.ofNat ((a.toNat + 256 * b.toNat + 65536 * c.toNat + 16777216 * d.toNat) / 16777216) = d := UInt8.toNat.inj (by simp; omega)
    rw [e1, e2, e3, e4]
  · intro e
    simp only [List.cons.injEq, and_true] at e
    obtain ⟨e1, e2, e3, e4⟩ := e
    have f1 := congrArg UInt8.toNat e1
    have f2 := congrArg UInt8.toNat e2
    have f3 := congrArg UInt8.toNat e3
    have f4 := congrArg UInt8.toNat e4
    simp at f1 f2 f3 f4
    omega
theorem four_of (l : List UInt8) (h : l.length = 4) : ∃ a b c d, l = [a, b, c, d] := by
  match l, h with
  | [a, b, c, d], _ => exact ⟨a, b, c, d, rfl⟩
theorem seal_iff (l : List UInt8) (n : Nat) (hn : n + 4 = l.length) (a b c d : UInt8) (hd : l.drop n = [a, b, c, d]) : sealB (l.take n) = l ↔ num4 a b c d = sumB (l.take n) := by
  rw [le4_num a b c d _ (sumB_lt _), ← hd]
  unfold sealB
  constructor
  · intro e
    have := congrArg (List.drop n) e
    rw [List.drop_append_of_le_length (by simp; omega)] at this
    simpa using this
  · intro e
    rw [e, List.take_append_drop]

set_option maxRecDepth 10000 in
set_option maxHeartbeats 4000000 in
theorem open_any (B : Nat) (A : Option Addr) (cap : Nat) (l : List UInt8) (w : World) (hT : Tabs w) (hs : Shows w B A l.length (cells8 l)) (hB : B ≤ w.heap.size) (hc : l.length ≤ cap) (hl : l.length ≤ 1000000) :
    Calls Tryd.prog 13 #[.slice A l.length cap] w (Opened w (openB l)) := by
  by_cases h4 : 4 ≤ l.length
  · obtain ⟨n, hn⟩ : ∃ n, n + 4 = l.length := ⟨l.length - 4, by omega⟩
    obtain ⟨a, b, c, d, hd⟩ := four_of (l.drop n) (by simp; omega)
    have hsi := seal_iff l n hn a b c d hd
    have hs1 := hs.upto (k := n) (by omega)
    rw [← cells8_take] at hs1
    have hlen : (l.take n).length = n := by rw [List.length_take]; omega
    obtain ⟨p, rfl, hp, hx⟩ := hs.lies (by omega)
    have hs2 : Shows w B (some (p.add n)) 4 (cells8 [a, b, c, d]) := by
      refine ⟨rfl, fun _ => ⟨_, rfl, by rw [addr_block]; exact hp, fun j u hj => ?_⟩⟩
      rw [addr_twice]
      rw [← hd, cells8_drop] at hj
      exact hx _ u (by simpa [List.getElem?_drop] using hj)
    have hsub : (l.length : Int) - 4 = (n : Int) := by omega
    have hTs := hT.size
    clear hx
    have hsum : ∀ w', Below w.heap.size w w' → Calls Tryd.prog 7 #[.slice (some p) n n] w' fun e w1 => e = .returned (.int .u32 ((sumB (l.take n) : Nat) : Int)) ∧ Below w.heap.size w w1 := by
      intro w' hb
      have h1 := sum_any B (some p) n (l.take n) w' (hT.below hb hTs) (by rw [hlen]; exact shows_on hs1 hB hb) (Nat.le_trans hB hb.size) (by omega)
      rw [hlen] at h1
      exact h1.mono fun e w1 ⟨he, hb1⟩ => ⟨he, hb.trans (hb1.mono hb.size)⟩
    have hlast : ∀ w', Below w.heap.size w w' → Calls Tryd.prog 20 #[.slice (some (p.add n)) 4 (cap - n)] w' fun e w1 => e = .returned (.int .u32 ((num4 a b c d : Nat) : Int)) ∧ Below w.heap.size w w1 := by
      intro w' hb
      refine (last_any B (some (p.add n)) (cap - n) a b c d w' (shows_on hs2 hB hb)).mono ?_
      rintro e w1 ⟨he, k, rfl⟩
      exact ⟨he, below_drewN hb k⟩
    have HSUM := Lib.hid hsum
    have HLAST := Lib.hid hlast
    clear hsum hlast
    have hneg : decide ((n : Int) < 0) = false := by simp
    have hcn : ¬ cap = n := by omega
    have hl4 : l.length - n = 4 := by omega
    have hnl : n ≤ l.length := by omega
    have hnc : n ≤ cap := by omega
    go_enter Tryd.func13, Tryd.ntmps13
    go_wp2_with fail
    go_region_held3 (fun w' => Below w.heap.size w w') (first | exact Below.refl _ _ | assumption | exact (Below.refl _ _).drew)
      (first
        | (go_at_call 7; refine (HSUM.out _ (by assumption)).mono ?_; rintro e w1 ⟨rfl, hb1⟩)
        | (go_at_call 20; refine (HLAST.out _ (by assumption)).mono ?_; rintro e w2 ⟨rfl, hb2⟩))
    clear HSUM HLAST
    by_cases he : num4 a b c d = sumB (l.take n)
    · have hop : openB l = some (l.take n) := by
        unfold openB
        rw [show l.length - 4 = n by omega, if_pos ⟨h4, hsi.2 he⟩]
      have HOP := Lib.hid hop
      clear hop
      have hcl := clone_any B (some p) (l.take n) w2 (by rw [hlen]; exact shows_on hs1 hB hb2) (Nat.le_trans hB hb2.size) (by omega)
      rw [hlen] at hcl
      have HCL := Lib.hid hcl
      have hz2 := hb2.size
      have HLEN := Lib.hid hlen
      rw [he]
      clear he hcl hsi hs hs1 hs2 hlen hd
      go_wp2_with (go_at_call 21; refine HCL.out.mono ?_; rintro e w3 ⟨v, rfl, hv, hb3⟩)
      go_ret2
      unfold Opened
      rw [HOP.out]
      refine ⟨hb2.trans (hb3.mono hz2), v, rfl, ?_⟩
      rw [HLEN.out]
      exact own_base hv hz2
    · have hop : openB l = none := by
        unfold openB
        rw [show l.length - 4 = n by omega, if_neg (fun h => he (hsi.1 h.2))]
      have HOP := Lib.hid hop
      clear hop
      have hne : (((sumB (l.take n) : Nat) : Int) != ((num4 a b c d : Nat) : Int)) = true := by simp; omega
      clear he hsi hs hs1 hs2 hlen hd
      go_wp2
      go_ret2
      unfold Opened
      rw [HOP.out]
      exact ⟨hb2, rfl⟩
  · have hop : openB l = none := by
      unfold openB
      rw [if_neg (fun h => h4 h.1)]
    have HOP := Lib.hid hop
    clear hop
    have hneg : decide ((l.length : Int) - 4 < 0) = true := by simp; omega
    go_enter Tryd.func13, Tryd.ntmps13
    go_wp2_with fail
    go_quiet (fail)
    go_wp2
    go_ret2
    unfold Opened
    rw [HOP.out]
    exact ⟨below_drewN (Below.refl _ _) _, rfl⟩
end Go.Proofs.YthjbchdpnlenjaaDoor
