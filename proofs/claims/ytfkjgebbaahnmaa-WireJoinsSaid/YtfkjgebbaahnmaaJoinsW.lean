/- The walk of the law WireJoins. -/
import Derived.Test.YtfkjgebbaahnmaaBack
namespace Go.Proofs.Ytfkjgebbaahnmaa
open Go.RowKit

set_option maxRecDepth 100000 in
set_option maxHeartbeats 4000000 in
theorem joins_big (a c : ByteArray) (A : Option Addr) (cap : Nat) (l : List UInt8) (w : World) (h : 20 < a.size ∨ 20 < c.size ∨ 3000 < l.length) (ha : a.size ≤ maxLen) (hc : c.size ≤ maxLen) (hl : l.length ≤ 9223372036854775807) :
    Calls Try.prog 8 #[.string a, .string c, .slice A l.length cap] w fun e w' => e = .returned (.bool true) ∧ Below w.heap.size w w' := by
  unfold maxLen at ha hc
  by_cases h1 : 20 < a.size
  · clear h
    go_enter Try.func8, Try.ntmps8
    go_wp2_with fail
    refine (known_any w).mono ?_
    rintro e w1 ⟨rfl, hb1⟩
    go_wp2_with fail
    go_ret
    exact ⟨rfl, hb1⟩
  · have d1 : decide ((20 : Int) < (a.size : Int)) = false := by simp; omega
    by_cases h2 : 20 < c.size
    · clear h
      go_enter Try.func8, Try.ntmps8
      go_wp2_with fail
      refine (known_any w).mono ?_
      rintro e w1 ⟨rfl, hb1⟩
      go_wp2_with fail
      go_ret
      exact ⟨rfl, hb1⟩
    · have d2 : decide ((20 : Int) < (c.size : Int)) = false := by simp; omega
      have h3 : 3000 < l.length := by omega
      clear h
      go_enter Try.func8, Try.ntmps8
      go_wp2_with fail
      refine (known_any w).mono ?_
      rintro e w1 ⟨rfl, hb1⟩
      go_wp2_with fail
      go_ret
      exact ⟨rfl, hb1⟩

set_option maxRecDepth 100000 in
set_option maxHeartbeats 4000000 in
theorem joins_bad (a c : ByteArray) (A : Option Addr) (cap : Nat) (l : List UInt8) (w : World) (ha : a.size ≤ 20) (hc : c.size ≤ 20) (hll : l.length ≤ 3000)
    (hl : Shows w w.heap.size A l.length (cells8 l)) (hlc : l.length ≤ cap) (hcm : cap ≤ 9223372036854775807) (hE : ¬ unpE (bs a) l = 0) :
    Calls Try.prog 8 #[.string a, .string c, .slice A l.length cap] w fun e w' => e = .returned (.bool true) ∧ Below w.heap.size w w' := by
  have hE2 : (unpE (bs a) l != 0) = true := by simpa using hE
  have hE3 : (unpE (bs (a ++ c)) l != 0) = true := by rw [bs_app]; simpa using unpE_app_bad hE
  have hsz : (a ++ c).size = a.size + c.size := ByteArray.size_append
  have HSZ := Lib.hid hsz
  clear hE hsz
  go_enter Try.func8, Try.ntmps8
  go_wp2_with fail
  refine (unpack_any a w.heap.size A cap l w (by omega) hl (Nat.le_refl _) hlc hcm).mono ?_
  rintro e w1 hu
  obtain ⟨v1, n1, rfl, -⟩ := unpacked_shape hu
  have hb1 := hu.1
  clear hu
  have hl1 := hl.below hb1
  go_wp2_with fail
  refine (unpack_any (a ++ c) w.heap.size A cap l w1 (by rw [HSZ.out]; omega) hl1 hb1.size hlc hcm).mono ?_
  rintro e w2 hu
  obtain ⟨v2, n2, rfl, -⟩ := unpacked_shape hu
  have hb2 := hb1.trans (hu.1.mono hb1.size)
  clear hu
  go_wp2_with fail
  refine (num_any _ _).mono ?_
  rintro e w' ⟨rfl, rfl⟩
  go_wp2_with fail
  refine (num_any _ _).mono ?_
  rintro e w' ⟨rfl, rfl⟩
  go_wp2_with fail
  refine (known_any w2).mono ?_
  rintro e w3 ⟨rfl, hb3⟩
  go_wp2_with fail
  go_ret
  exact ⟨rfl, hb2.trans (hb3.mono hb2.size)⟩

end Go.Proofs.Ytfkjgebbaahnmaa
