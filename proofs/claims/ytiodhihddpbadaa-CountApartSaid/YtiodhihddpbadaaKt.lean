/- CountPlays, walked. -/
import Derived.Test.YtiodhihddpbadaaKs
import Derived.Test.YtiodhihddpbadaaKr
set_option linter.unusedVariables false
namespace Go.Proofs.Ytiodhihddpbadaa
open Go.RowKit
/-- what acts make of an area -/
def actsD (c : CS) (l : List (Int × Int)) : CS := l.foldl (fun c x => actD c x.1 x.2) c
theorem actsD_take (c : CS) (l : List (Int × Int)) (i : Nat) (h : i < l.length) : actsD c (l.take (i + 1)) = actD (actsD c (l.take i)) l[i].1 l[i].2 := by
  unfold actsD
  rw [List.take_succ_eq_append_getElem h, List.foldl_append]
  rfl
theorem BC.begin_ {w : World} {A : Option Addr} {k : List Nat} {cap : Nat} (hs : Shows w w.heap.size A k.length (nz .u16 k)) (h0 : 1 ≤ k.length ∧ k.length ≤ 1000) (h16 : ∀ x ∈ k, x ≤ 65535) :
    Calls Try.prog 7 #[.slice A k.length cap] w fun e w' => ∃ b br, e = .returned (.tuple #[.pointer (some ⟨b, 0, none⟩), .pointer (some ⟨br, 0, none⟩)]) ∧ Hid (BC w w' b br ⟨k, k, 0, 0⟩) := by
  refine (begin_any w w.heap.size A k cap hs h0 (Nat.le_refl _) h16).mono ?_
  rintro e w' ⟨b, g0, p0, g1, p1, br, h0, q0, h1, q1, rfl, hA, hR, hf, hf2, hb⟩
  exact ⟨b, br, rfl, _, ⟨g0, p0, g1, p1, h0, q0, h1, q1, hA, hR, fun j => Iff.rfl⟩, fun j hj => hj.elim (hf j) (hf2 j), hb⟩
set_option maxRecDepth 20000 in
set_option maxHeartbeats 4000000 in
theorem plays_law (w : World) (A1 A2 : Option Addr) (cap1 cap2 : Nat) (k : List Nat) (l : List (Int × Int)) (hs : Shows w w.heap.size A1 k.length (nz .u16 k)) (h16 : ∀ x ∈ k, x ≤ 65535) (hv : ARow w w.heap.size A2 l)
    (hk63 : k.length ≤ 9223372036854775807) (hl63 : l.length ≤ 9223372036854775807) :
    Calls Try.prog 3 #[.slice A1 k.length cap1, .slice A2 l.length cap2] w fun e w' => e = .returned (.bool true) ∧ Below w.heap.size w w' := by
  have HK := Lib.hid (known_any w w (Below.refl _ _))
  by_cases hbig : 1010 < k.length ∨ 60 < l.length
  · clear hs h16 hv
    by_cases hb1 : 1010 < k.length
    · have hb1I : (1010 : Int) < (k.length : Int) := by omega
      clear hbig
      go_enter Try.func3, Try.ntmps3
      go_wp2_with (first
        | (go_at_call 6; (with_reducible refine HK.out.mono ?_); rintro e wc ⟨rfl, hb⟩)
        | fail)
      go_ret
      exact ⟨rfl, hb⟩
    · have hb1I : ¬ (1010 : Int) < (k.length : Int) := by omega
      have hb2I : (60 : Int) < (l.length : Int) := by omega
      clear hbig
      go_enter Try.func3, Try.ntmps3
      go_wp2_with (first
        | (go_at_call 6; (with_reducible refine HK.out.mono ?_); rintro e wc ⟨rfl, hb⟩)
        | fail)
      go_ret
      exact ⟨rfl, hb⟩
  have hb1I : ¬ (1010 : Int) < (k.length : Int) := by omega
  have hb2I : ¬ (60 : Int) < (l.length : Int) := by omega
  by_cases hc : 1 ≤ k.length ∧ k.length ≤ 1000
  · have HB := Lib.hid (BC.begin_ (cap := cap1) hs hc h16)
    have HV := Lib.hid hv
    have c1I : ¬ (k.length : Int) < 1 := by omega
    have c2I : ¬ (1000 : Int) < (k.length : Int) := by omega
    clear hs h16 hv hbig
    go_enter Try.func3, Try.ntmps3
    go_wp2_with (first
      | (go_at_call 7; (with_reducible refine HB.out.mono ?_); rintro e w1 ⟨b, br, rfl, HB1⟩)
      | (go_at_call 9; (with_reducible refine HB1.out.same.mono ?_); rintro e w2 ⟨rfl, HB2⟩)
      | fail)
    clear HB HB1
    go_wp2
    go_loopw [9] (fun j wr => ∃ i : Nat, i ≤ l.length ∧ j = .int .i64 (i : Int) ∧ Hid (BC w wr b br (actsD ⟨k, k, 0, 0⟩ (l.take i)))) (fun j _ => l.length - (intOf j).toNat)
    case atStart => exact ⟨0, Nat.zero_le _, rfl, by rw [List.take_zero]; exact HB2⟩
    case round =>
      obtain ⟨i, hi, rfl, HR⟩ := hrel
      rename_i wr
      clear HB2
      by_cases hlt : i < l.length
      · have hltI : (i : Int) < (l.length : Int) := by omega
        obtain ⟨p, rfl, hat⟩ := HV.out.at2 i hlt
        obtain ⟨d0, d1⟩ := hat wr HR.out.b
        have HE := Lib.hid (actsD_take ⟨k, k, 0, 0⟩ l i hlt)
        have HA := Lib.hid (HR.out.act l[i].1 l[i].2)
        clear hat HR
        generalize l[i].1 = kd at *
        generalize l[i].2 = kn at *
        go_wp2_with (first
          | (go_at_call 10; (with_reducible refine HA.out.mono ?_); rintro e w3 ⟨rfl, H3⟩)
          | (go_at_call 9; (with_reducible refine H3.out.same.mono ?_); rintro e w4 ⟨rfl, H4⟩)
          | fail)
        go_roundw
        case rel => exact ⟨i + 1, hlt, by go_num, by rw [HE.out]; exact H4⟩
        case measure => simp [intOf]; omega
      · obtain rfl : i = l.length := by omega
        have hltI : ¬ (l.length : Int) < (l.length : Int) := by omega
        go_wp2_with (first
          | (go_at_call 6; (with_reducible refine (known_any w _ HR.out.b).mono ?_); rintro e wc ⟨rfl, hb⟩)
          | fail)
        go_ret
        exact ⟨rfl, hb⟩
  · have HB := Lib.hid (begin_no w A1 k.length cap1 hc)
    have HN := Lib.hid (new_no w A1 k.length cap1 hc)
    clear hs h16 hv hbig
    by_cases hc1 : k.length < 1
    · have c1I : (k.length : Int) < 1 := by omega
      clear hc
      go_enter Try.func3, Try.ntmps3
      go_wp2_with (first
        | (go_at_call 7; (with_reducible refine HB.out.mono ?_); rintro e w1 ⟨rfl, rfl⟩)
        | (go_at_call 8; (with_reducible refine HN.out.mono ?_); rintro e w1 ⟨rfl, rfl⟩)
        | (go_at_call 6; (with_reducible refine HK.out.mono ?_); rintro e wc ⟨rfl, hb⟩)
        | fail)
      go_ret
      exact ⟨rfl, hb⟩
    · have c1I : ¬ (k.length : Int) < 1 := by omega
      have c2I : (1000 : Int) < (k.length : Int) := by omega
      clear hc
      go_enter Try.func3, Try.ntmps3
      go_wp2_with (first
        | (go_at_call 7; (with_reducible refine HB.out.mono ?_); rintro e w1 ⟨rfl, rfl⟩)
        | (go_at_call 8; (with_reducible refine HN.out.mono ?_); rintro e w1 ⟨rfl, rfl⟩)
        | (go_at_call 6; (with_reducible refine HK.out.mono ?_); rintro e wc ⟨rfl, hb⟩)
        | fail)
      go_ret
      exact ⟨rfl, hb⟩
end Go.Proofs.Ytiodhihddpbadaa
