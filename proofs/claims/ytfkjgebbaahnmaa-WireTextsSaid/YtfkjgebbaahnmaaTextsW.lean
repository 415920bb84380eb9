/- The walk of the law WireTexts. -/
import Derived.Test.YtfkjgebbaahnmaaDecb
namespace Go.Proofs.Ytfkjgebbaahnmaa
open Go.RowKit

theorem unhexed_shape {w w' : World} {s : ByteArray} {e : Ending} (h : Unhexed w (unhexR s) e w') :
    ∃ v, e = .returned (.tuple #[v, .bool (unhexR s).isSome]) ∧ w'.ownsRow w.heap.size 5 1 v ((unhexR s).getD []).length (cells8 ((unhexR s).getD [])) ∧ Below w.heap.size w w' := by
  obtain ⟨hb, h⟩ := h
  cases hu : unhexR s with
  | none => rw [hu] at h; exact ⟨_, h, World.ownsRow_nil _ _ _ _, hb⟩
  | some l => rw [hu] at h; obtain ⟨v, he, ho⟩ := h; exact ⟨v, he, ho, hb⟩
theorem decAns_shape (r : Option Nat) : decAns r = .returned (.tuple #[.int .u64 ((r.getD 0 : Nat) : Int), .bool r.isSome]) := by cases r <;> rfl

set_option maxRecDepth 100000 in
set_option maxHeartbeats 2000000 in
theorem texts_walk (A : Option Addr) (cap : Nat) (l : List UInt8) (s : ByteArray) (most : Nat) (w : World) (hl : Shows w w.heap.size A l.length (cells8 l)) (hll : l.length ≤ 9223372036854775807) (hs : s.size ≤ maxLen) (hm : most < 18446744073709551616) :
    Calls Try.prog 6 #[.slice A l.length cap, .string s, .int .u64 (most : Int)] w fun e w' => e = .returned (.bool true) ∧ Below w.heap.size w w' := by
  unfold maxLen at hs
  by_cases h1 : 5000 < l.length
  · go_enter Try.func6, Try.ntmps6
    go_wp2_with fail
    refine (known_any w).mono ?_
    rintro e w1 ⟨rfl, hb1⟩
    go_wp2_with fail
    go_ret
    exact ⟨rfl, hb1⟩
  · have d1 : decide ((5000 : Int) < (l.length : Int)) = false := by simp; omega
    by_cases h2 : 5000 < s.size
    · go_enter Try.func6, Try.ntmps6
      go_wp2_with fail
      refine (known_any w).mono ?_
      rintro e w1 ⟨rfl, hb1⟩
      go_wp2_with fail
      go_ret
      exact ⟨rfl, hb1⟩
    · have d2 : decide ((5000 : Int) < (s.size : Int)) = false := by simp; omega
      go_enter Try.func6, Try.ntmps6
      go_wp2_with fail
      refine (unhex_any s w (by omega)).mono ?_
      rintro e w1 hu
      obtain ⟨v1, rfl, ho1, hb1⟩ := unhexed_shape hu
      clear hu
      go_wp2_with fail
      refine (runhex_any s w1 (by omega)).mono ?_
      rintro e w2 hu
      obtain ⟨v2, rfl, ho2, hb2⟩ := unhexed_shape hu
      clear hu
      have ho1b := own_below ho1 hb2
      have hbb2 := hb1.trans (hb2.mono hb1.size)
      clear ho1 hb2
      go_wp2_with fail
      refine (decimal_any s most w2 hm (by omega)).mono ?_
      rintro e w3 ⟨he, hb3⟩
      rw [decAns_shape] at he
      subst he
      have ho1c := own_below ho1b hb3
      have ho2c := own_below ho2 hb3
      have hbb3 := hbb2.trans (hb3.mono hbb2.size)
      clear ho1b ho2 hb3
      go_wp2_with fail
      refine (rdecimal_any s most w3 hm (by omega)).mono ?_
      rintro e w' ⟨he, rfl⟩
      rw [decAns_shape] at he
      subst he
      go_wp2_with fail
      refine (hex_any w.heap.size A cap l w3 (hl.below hbb3) hbb3.size (by omega)).mono ?_
      rintro e w4 ⟨rfl, hb4⟩
      have ho1d := own_below ho1c hb4
      have ho2d := own_below ho2c hb4
      have hbb4 := hbb3.trans (hb4.mono hbb3.size)
      clear ho1c ho2c hb4
      go_wp2_with fail
      refine (rhex_any w.heap.size A cap l w4 (hl.below hbb4) (by omega)).mono ?_
      rintro e w5 ⟨rfl, hb5⟩
      have hs1 := str_own (own_below ho1d hb5)
      have hs2 := str_own (own_below ho2d hb5)
      have hbb5 := hbb4.trans (hb5.mono hbb4.size)
      clear ho1d ho2d hb5
      generalize (unhexR s).getD [] = L at *
      generalize (unhexR s).isSome = P at *
      generalize (decR s most).getD 0 = N at *
      generalize (decR s most).isSome = Q at *
      go_wp2_with fail
      refine (known_any w5).mono ?_
      rintro e w6 ⟨rfl, hb6⟩
      go_wp2_with fail
      go_ret
      exact ⟨rfl, hbb5.trans (hb6.mono hbb5.size)⟩

end Go.Proofs.Ytfkjgebbaahnmaa
