/- An answer's bytes: the program's and the document's walks. -/
import Derived.Test.YtpkbkliblbbdcaaCx
set_option linter.unusedVariables false
namespace Go.Proofs.Ytpkbkliblbbdcaa
open Go.RowKit
set_option maxRecDepth 20000

def valsA (a : AN) : List PV := [.num a.k.toNat, .num a.s.toNat, .blob a.d]
def packA (a : AN) : Option (List UInt8) := packR [49, 52, 42] (valsA a)
/-- an answer's box -/
def BoxA (w : World) (g : Nat) (a : AN) (A : Option Addr) (cap : Nat) : Prop := w.heap[g]? = some (.cells #[.int .i64 a.k, .int .i64 a.s, .slice A a.d.length cap] 41 (0, 0))
theorem BoxA.below {w w' : World} {B g : Nat} {o : AN} {A : Option Addr} {cap : Nat} (h : BoxA w g o A cap) (hb : Below B w w') (hg : g < B) : BoxA w' g o A cap := (hb.block g hg).trans h
theorem BoxA.cells {w : World} {g : Nat} {o : AN} {A : Option Addr} {cap : Nat} (h : BoxA w g o A cap) : w.cell? ⟨g, 0, none⟩ = some (.int .i64 o.k) ∧ w.cell? ⟨g, 1, none⟩ = some (.int .i64 o.s) ∧ w.cell? ⟨g, 2, none⟩ = some (.slice A o.d.length cap) :=
  ⟨cell_of_row w g 0 _ _ (0, 0) h, cell_of_row w g 1 _ _ (0, 0) h, cell_of_row w g 2 _ _ (0, 0) h⟩

theorem packA_some {a : AN} (h : mayA a = true) (hd : a.d.length ≤ 16777216) : ∃ l, packA a = some l ∧ l.length ≤ a.d.length + 9 := by
  obtain ⟨k, s, d⟩ := a
  obtain ⟨⟨h1, h2⟩, ⟨h3, h4⟩, _⟩ := mayA_iff.1 h
  refine ⟨low k.toNat 1 ++ (low s.toNat 4 ++ (low d.length 4 ++ d)), ?_, by simp [low_length]; omega⟩
  unfold packA valsA
  rw [packR, if_pos ⟨by decide, rfl⟩]
  have e1 : enc1 49 (.num k.toNat) = some (low k.toNat 1) := by rw [enc1_num 49 _ 1 (by decide) (by omega), if_pos (by omega)]
  have e2 : enc1 52 (.num s.toNat) = some (low s.toNat 4) := by rw [enc1_num 52 _ 4 (by decide) (by omega), if_pos (by omega)]
  have e3 : enc1 42 (.blob d) = some (low d.length 4 ++ d) := by
    show (if (42 : Int) = 42 ∧ d.length ≤ 16777216 then _ else _) = _
    rw [if_pos ⟨rfl, hd⟩]
  show (match enc1 49 (.num k.toNat) with | none => none | some x => (match enc1 52 (.num s.toNat) with | none => none | some y => (match enc1 42 (.blob d) with | none => none | some z => (some []).map (z ++ ·)).map (y ++ ·)).map (x ++ ·)) = _
  rw [e1, e2, e3]
  simp

section
variable (k s : Int) (d : List UInt8) (A : Option Addr) (cap : Nat) (w : World)

set_option maxHeartbeats 4000000 in
theorem bytesA_any (hd : d.length ≤ 16777216) (hcap : d.length ≤ cap) (hs : Shows w w.heap.size A d.length (cells8 d)) :
    Calls Try.prog 24 #[.agg #[.int .i64 k, .int .i64 s, .slice A d.length cap]] w (Packed w (if mayA ⟨k, s, d⟩ = true then packA ⟨k, s, d⟩ else none)) := by
  have HM0 := fun W => mayA_any k s d A cap W (by omega)
  cases hM : mayA ⟨k, s, d⟩ with
  | false =>
    rw [if_neg (by decide)]
    rw [hM] at HM0
    have HM := Lib.hid HM0
    clear hM HM0 hs
    go_enter Try.func24, Try.ntmps24
    go_wp2_with (go_at_call 27; refine (HM.out _).mono ?_; rintro e w1 ⟨rfl, hb1⟩)
    go_ret2
    exact ⟨rfl, ((Below.refl _ _).alloc (Nat.le_refl _) _).trans (hb1.mono (by simp))⟩
  | true =>
    rw [if_pos rfl]
    rw [hM] at HM0
    have HM := Lib.hid HM0
    obtain ⟨⟨h1, h2⟩, ⟨h3, h4⟩, _⟩ := mayA_iff.1 hM
    obtain ⟨kn, rfl⟩ := int_nat h1
    obtain ⟨sn, rfl⟩ := int_nat h3
    have hkw := wrap_u kn (by omega)
    have hsw := wrap_u sn (by omega)
    have HS := Lib.hid hs
    have HPP : Hid (packR (bs ⟨#[49, 52, 42]⟩) [.num kn, .num sn, .blob d] = packA ⟨kn, sn, d⟩) := rfl
    generalize packA ⟨kn, sn, d⟩ = rr at *
    clear hM HM0 h1 h3 hs
    go_enter Try.func24, Try.ntmps24
    go_wp2_with fail
    refine (HM.out _).mono ?_
    rintro e w1 ⟨rfl, hb1⟩
    have hbx : BoxA w1 w.heap.size ⟨kn, sn, d⟩ A cap := (hb1.block _ (by simp)).trans (heap_alloc_new _ _)
    have hb01 : Below w.heap.size w w1 := ((Below.refl _ _).alloc (Nat.le_refl _) _).trans (hb1.mono (by simp))
    obtain ⟨l0, l1, l2⟩ := hbx.cells
    have HB01 := Lib.hid hb01
    clear hb1 hbx hb01
    go_wp2_with fail
    have hsh := shows_new w1 #[.iface 23 (.int .u64 (kn : Int)), .iface 23 (.int .u64 (sn : Int)), .iface 24 (.slice A d.length cap)] 20
    have hB2 : Below w.heap.size w (w1.alloc (.cells #[.iface 23 (.int .u64 (kn : Int)), .iface 23 (.int .u64 (sn : Int)), .iface 24 (.slice A d.length cap)] 20)) := HB01.out.alloc HB01.out.size _
    refine (pack_any ⟨#[49, 52, 42]⟩ (some ⟨w1.heap.size, 0, none⟩) 3 3 [.iface 23 (.int .u64 (kn : Int)), .iface 23 (.int .u64 (sn : Int)), .iface 24 (.slice A d.length cap)] [.num kn, .num sn, .blob d] _ (by decide) (by decide) (by simpa using hsh) rfl ?_).mono ?_
    · intro i hi
      have h3 : i = 0 ∨ i = 1 ∨ i = 2 := by simp at hi; omega
      rcases h3 with rfl | rfl | rfl
      · exact ⟨_, rfl, rfl, by omega⟩
      · exact ⟨_, rfl, rfl, by omega⟩
      · exact ⟨_, rfl, A, cap, rfl, (HS.out.below hB2).wide hB2.size, hcap, by omega⟩
    rw [HPP.out]
    intro e w5 hpk
    clear hsh HPP
    have HB2 := Lib.hid hB2
    clear hB2
    cases rr with
    | none =>
      obtain ⟨rfl, hb5⟩ := hpk
      go_wp2_with fail
      go_ret2
      exact ⟨rfl, HB2.out.trans (hb5.mono HB2.out.size)⟩
    | some l =>
      obtain ⟨v5, rfl, ho5, hb5⟩ := hpk
      go_wp2_with fail
      go_ret2
      exact ⟨v5, rfl, own_lo ho5 HB2.out.size, HB2.out.trans (hb5.mono HB2.out.size)⟩
end

end Go.Proofs.Ytpkbkliblbbdcaa
