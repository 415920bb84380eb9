/- The walk of the law WireShapes. -/
import Derived.Test.YtfkjgebbaahnmaaRefb
namespace Go.Proofs.Ytfkjgebbaahnmaa
open Go.RowKit

theorem unpacked_facts {w w' : World} {s l : List UInt8} {e : Ending} (h : Unpacked w s l e w') :
    ∃ (v : Value) (n : Nat) (en : Int), e = .returned (.tuple #[v, .int .i64 (n : Int), .int .i64 en]) ∧ ((en != 0) = true ∨ en = 0 ∧ leastM s ≤ n ∧ n ≤ l.length) := by
  obtain ⟨_, h⟩ := h
  split at h
  · rename_i hm
    cases hu : unpZ s l with
    | none => rw [hu] at h; exact ⟨_, 0, 4, h, .inl rfl⟩
    | some r =>
      obtain ⟨ps, n⟩ := r
      rw [hu] at h
      obtain ⟨v, vs, he, _, _⟩ := h
      have hb := unpZ_bounds hu
      refine ⟨v, n, 0, he, .inr ⟨rfl, ?_, hb.2.1⟩⟩
      rw [leastM, if_pos hm]
      exact hb.1
  · exact ⟨_, 0, 2, h, .inl rfl⟩

set_option maxHeartbeats 2000000 in
theorem shapes_walk (s : ByteArray) (A : Option Addr) (cap : Nat) (l : List UInt8) (w : World) (hl : Shows w w.heap.size A l.length (cells8 l)) (hc : l.length ≤ cap) (hcm : cap ≤ 9223372036854775807) :
    Calls Try.prog 5 #[.string s, .slice A l.length cap] w fun e w' => e = .returned (.bool true) ∧ Below w.heap.size w w' := by
  by_cases hs : 40 < s.size
  · have hd : decide (40 < s.size) = true := by simpa using hs
    have HD := Lib.hid hd
    clear hd
    go_enter Try.func5, Try.ntmps5
    go_wp2_with fail
    refine (much_nil s w).mono ?_
    rintro e w' ⟨rfl, rfl⟩
    rw [HD.out]
    go_wp2_with fail
    refine (known_any w).mono ?_
    rintro e w1 ⟨rfl, hb1⟩
    go_wp2_with fail
    go_ret
    exact ⟨rfl, hb1⟩
  · have hd : decide (40 < s.size) = false := by simpa using hs
    have HD := Lib.hid hd
    clear hd
    by_cases hb : 20000 < l.length
    · go_enter Try.func5, Try.ntmps5
      go_wp2_with fail
      refine (much_nil s w).mono ?_
      rintro e w' ⟨rfl, rfl⟩
      rw [HD.out]
      go_wp2_with fail
      refine (known_any w).mono ?_
      rintro e w1 ⟨rfl, hb1⟩
      go_wp2_with fail
      go_ret
      exact ⟨rfl, hb1⟩
    · go_enter Try.func5, Try.ntmps5
      go_wp2_with fail
      refine (much_nil s w).mono ?_
      rintro e w' ⟨rfl, rfl⟩
      rw [HD.out]
      go_wp2_with fail
      refine (unpack_any s w.heap.size A cap l w (by omega) hl (Nat.le_refl _) hc hcm).mono ?_
      rintro e w1 hu
      obtain ⟨v, n, en, rfl, hf⟩ := unpacked_facts hu
      have hb1 := hu.1
      clear hu
      go_wp2_with fail
      refine (least_any s w1 (by omega)).mono ?_
      rintro e w2 ⟨rfl, hb2⟩
      have hb12 := hb1.trans (hb2.mono hb1.size)
      go_wp2_with fail
      refine (may_any s w2).mono ?_
      rintro e w3 ⟨rfl, hb3⟩
      have hb13 := hb12.trans (hb3.mono hb12.size)
      go_wp2_with fail
      refine (rmay_any s w3 (by omega)).mono ?_
      rintro e w' ⟨rfl, rfl⟩
      go_wp2_with fail
      refine (rleast_any s w3 (by omega)).mono ?_
      rintro e w' ⟨rfl, rfl⟩
      go_wp2_with fail
      refine (num_any _ _).mono ?_
      rintro e w' ⟨rfl, rfl⟩
      rcases hf with hf | ⟨rfl, hf1, hf2⟩
      · go_wp2_with fail
        refine (known_any w3).mono ?_
        rintro e w4 ⟨rfl, hb4⟩
        go_wp2_with fail
        go_ret
        exact ⟨rfl, hb13.trans (hb4.mono hb13.size)⟩
      · go_wp2_with fail
        refine (known_any w3).mono ?_
        rintro e w4 ⟨rfl, hb4⟩
        go_wp2_with fail
        go_ret
        exact ⟨rfl, hb13.trans (hb4.mono hb13.size)⟩

end Go.Proofs.Ytfkjgebbaahnmaa
