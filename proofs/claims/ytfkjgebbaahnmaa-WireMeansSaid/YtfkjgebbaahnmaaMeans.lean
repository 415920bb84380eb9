/- The walk of the law WireMeans, whatever it is handed. -/
import Derived.Test.YtfkjgebbaahnmaaMeansV
namespace Go.Proofs.Ytfkjgebbaahnmaa
open Go.RowKit

set_option maxRecDepth 100000 in
set_option maxHeartbeats 2000000 in
theorem means_big (s : ByteArray) (A : Option Addr) (cap : Nat) (vals : List LVal) (Ar : Option Addr) (capr : Nat) (r : List UInt8) (Ab : Option Addr) (capb : Nat) (l : List UInt8) (w : World)
    (hv : VRow w w.heap.size A vals) (hs : s.size ≤ maxLen) (hn : vals.length ≤ 9223372036854775807) (hrl : r.length ≤ 9223372036854775807) (hll : l.length ≤ 9223372036854775807)
    (h : muchB s vals = true ∨ 3000 < r.length ∨ 3000 < l.length) :
    Calls Try.prog 7 #[.string s, .slice A vals.length cap, .slice Ar r.length capr, .slice Ab l.length capb] w fun e w' => e = .returned (.bool true) ∧ Below w.heap.size w w' := by
  cases hM : muchB s vals with
  | true =>
    have HMU := Lib.hid hM
    clear hM h
    go_enter Try.func7, Try.ntmps7
    go_wp2_with fail
    refine (known_any w).mono ?_
    rintro e w1 ⟨rfl, hb1⟩
    go_wp2_with fail
    refine (much_any s A cap vals w1 w.heap.size (hv.below hb1) hs hn).mono ?_
    rintro e w' ⟨rfl, rfl⟩
    rw [HMU.out]
    go_wp2_with fail
    go_ret
    exact ⟨rfl, hb1⟩
  | false =>
    rw [hM] at h
    have HMU := Lib.hid hM
    clear hM
    by_cases h1 : 3000 < r.length
    · clear h
      go_enter Try.func7, Try.ntmps7
      go_wp2_with fail
      refine (known_any w).mono ?_
      rintro e w1 ⟨rfl, hb1⟩
      go_wp2_with fail
      refine (much_any s A cap vals w1 w.heap.size (hv.below hb1) hs hn).mono ?_
      rintro e w' ⟨rfl, rfl⟩
      rw [HMU.out]
      go_wp2_with fail
      go_ret
      exact ⟨rfl, hb1⟩
    · have h2 : 3000 < l.length := by rcases h with h | h | h; cases h; exact absurd h h1; exact h
      have d1 : decide ((3000 : Int) < (r.length : Int)) = false := by simp; omega
      clear h
      go_enter Try.func7, Try.ntmps7
      go_wp2_with fail
      refine (known_any w).mono ?_
      rintro e w1 ⟨rfl, hb1⟩
      go_wp2_with fail
      refine (much_any s A cap vals w1 w.heap.size (hv.below hb1) hs hn).mono ?_
      rintro e w' ⟨rfl, rfl⟩
      rw [HMU.out]
      go_wp2_with fail
      go_ret
      exact ⟨rfl, hb1⟩

theorem means_walk (s : ByteArray) (A : Option Addr) (cap : Nat) (vals : List LVal) (Ar : Option Addr) (capr : Nat) (r : List UInt8) (Ab : Option Addr) (capb : Nat) (l : List UInt8) (w : World)
    (hs : s.size ≤ maxLen) (hv : VRow w w.heap.size A vals) (hn : vals.length ≤ 9223372036854775807) (hr : Shows w w.heap.size Ar r.length (cells8 r)) (hl : Shows w w.heap.size Ab l.length (cells8 l)) (hrc : r.length ≤ capr) (hrm : capr ≤ 9223372036854775807) (hlc : l.length ≤ capb) (hlm : capb ≤ 9223372036854775807) :
    Calls Try.prog 7 #[.string s, .slice A vals.length cap, .slice Ar r.length capr, .slice Ab l.length capb] w fun e w' => e = .returned (.bool true) ∧ Below w.heap.size w w' := by
  by_cases h : muchB s vals = true ∨ 3000 < r.length ∨ 3000 < l.length
  · exact means_big s A cap vals Ar capr r Ab capb l w hv hs hn (by omega) (by omega) h
  · have hM : muchB s vals = false := by cases hm : muchB s vals with | true => exact absurd (.inl hm) h | false => rfl
    have h2 : r.length ≤ 3000 := by omega
    have h3 : l.length ≤ 3000 := by omega
    cases hP : packR (bs s) (vals.map toldP) with
    | none => exact means_none s A cap vals Ar capr r Ab capb l w hv hr hl hrc hlc hlm hM h2 h3 hP
    | some X =>
      by_cases h0 : 0 < X.length
      · exact means_some s A cap vals Ar capr r Ab capb l w hv hr hl hrc hlc hlm hM h2 h3 X hP h0
      · exact means_empty s A cap vals Ar capr r Ab capb l w hv hr hl hrc hlc hlm hM h2 h3 X hP (by omega)

end Go.Proofs.Ytfkjgebbaahnmaa
