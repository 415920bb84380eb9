/- DiskHistory, walked. -/
import Derived.Test.YtdigfkdappbhhaaGb
set_option linter.unusedVariables false
namespace Go.Proofs.Ytdigfkdappbhhaa
open Go.RowKit
theorem small_any (n : Int) (w : World) : Calls Try.prog 9 #[.int .i64 n] w fun e w' => e = .returned (.bool (decide (n ≤ 12) || decide (8192 < n))) ∧ w = w' := by
  cases h1 : decide (n ≤ 12) with
  | true =>
    go_enter Try.func9, Try.ntmps9
    go_wp2
    go_ret
    exact ⟨rfl, rfl⟩
  | false =>
    go_enter Try.func9, Try.ntmps9
    go_wp2
    go_ret
    exact ⟨by simp, rfl⟩
theorem known_b (w w1 : World) (hb : Below w.heap.size w w1) : Calls Try.prog 11 #[] w1 fun e w' => e = .returned (.bool true) ∧ Below w.heap.size w w' :=
  (known_any w1).mono fun e w' hp => ⟨hp.1, hb.trans (hp.2.mono hb.size)⟩

set_option maxRecDepth 10000 in
set_option maxHeartbeats 4000000 in
theorem history_law (w : World) (n : Int) (A : Option Addr) (cap : Nat) (l : List ST) (hv : SRow w w.heap.size A l) (hl : ∀ s ∈ l, s.ok) (hlen : l.length ≤ 9223372036854775807) :
    Calls Try.prog 3 #[.int .i64 n, .slice A l.length cap] w fun e w' => e = .returned (.bool true) ∧ Below w.heap.size w w' := by
  have hK := Lib.hid (known_b w w (Below.refl _ _))
  have hM : Hid (Calls Try.prog 10 #[.slice A l.length cap, .int .i64 50] w fun e w' => e = .returned (.bool (muchS l 50)) ∧ w = w') := much_any A cap l 50 w w.heap.size hv hlen
  by_cases hs : (decide (n ≤ 12) || decide (8192 < n)) = true
  · by_cases hm : muchS l 50 = true
    · rw [hm] at hM
      have hS := Lib.hid (small_any n w)
      rw [hs] at hS
      clear hs hm hv hl
      go_enter Try.func3, Try.ntmps3
      go_wp2_with (first
        | (go_at_call 9; (with_reducible refine hS.out.mono ?_); rintro e wc ⟨rfl, rfl⟩)
        | (go_at_call 10; (with_reducible refine hM.out.mono ?_); rintro e wc ⟨rfl, rfl⟩)
        | (go_at_call 11; (with_reducible refine hK.out.mono ?_); rintro e wc ⟨rfl, hb⟩))
      go_ret
      exact ⟨rfl, hb⟩
    · obtain ⟨hl50, hbad⟩ := muchS_no (by simpa using hm)
      have hm : muchS l 50 = false := by simpa using hm
      rw [hm] at hM
      have hS := Lib.hid (small_any n w)
      rw [hs] at hS
      by_cases hn : n < 1 ∨ 8192 < n
      · have HN1 := Lib.hid (pnew_no n w hn)
        have HN2 := Lib.hid (new_no n w hn)
        clear hs hm hv hl hn hbad
        go_enter Try.func3, Try.ntmps3
        go_wp2_with (first
          | (go_at_call 9; (with_reducible refine hS.out.mono ?_); rintro e wc ⟨rfl, rfl⟩)
          | (go_at_call 10; (with_reducible refine hM.out.mono ?_); rintro e wc ⟨rfl, rfl⟩)
          | (go_at_call 12; (with_reducible refine HN1.out.mono ?_); rintro e wc ⟨rfl, rfl⟩)
          | (go_at_call 13; (with_reducible refine HN2.out.mono ?_); rintro e wc ⟨rfl, rfl⟩)
          | (go_at_call 14; (with_reducible refine (num_any _ _).mono ?_); rintro e wc ⟨rfl, rfl⟩)
          | (go_at_call 11; (with_reducible refine hK.out.mono ?_); rintro e wc ⟨rfl, hb⟩))
        go_ret
        exact ⟨rfl, hb⟩
      · obtain ⟨m, rfl⟩ := Int.eq_ofNat_of_zero_le (show 0 ≤ n by omega)
        have hm12 : 1 ≤ m ∧ m ≤ 8192 := by omega
        have HN1 := Lib.hid (Kn.new m w hm12)
        have HFI := Lib.hid (runD_fine m hm12 l hl)
        have HV := Lib.hid hv
        have HL := Lib.hid hl
        have HBD := Lib.hid hbad
        clear hs hm hv hl hn hbad
        go_enter Try.func3, Try.ntmps3
        go_wp2_with (first
          | (go_at_call 9; (with_reducible refine hS.out.mono ?_); rintro e wc ⟨rfl, rfl⟩)
          | (go_at_call 10; (with_reducible refine hM.out.mono ?_); rintro e wc ⟨rfl, rfl⟩)
          | (go_at_call 12; (with_reducible refine HN1.out.mono ?_); rintro e w1 ⟨b, rfl, h1⟩)
          | (go_at_call 13; (with_reducible refine (h1.bb m hm12).mono ?_); rintro e w2 ⟨br, rfl, h2⟩)
          | (go_at_call 15; (with_reducible refine h2.shows.mono ?_); rintro e w3 ⟨rfl, h3⟩)
          | fail)
        have H3 := Lib.hid h3
        clear h1 h2 h3 HN1 hS hM
        go_wp2
        go_loopw [9] (fun j wr => ∃ i : Nat, i ≤ l.length ∧ j = .int .i64 (i : Int) ∧ Hid (BB w wr b br (runD (newD m) (l.take i)) (runD (newD m) (l.take i)))) (fun j _ => l.length - (intOf j).toNat)
        case atStart => exact ⟨0, Nat.zero_le _, rfl, H3.out⟩
        case round =>
          obtain ⟨i, hi, rfl, HB⟩ := hrel
          by_cases hlt : i < l.length
          · have hb1 := HB.out.b
            obtain ⟨p, rfl, AP, cP, hsp, HAT⟩ := HV.out.at2 i hlt
            have hok := HL.out _ (List.getElem_mem hlt)
            have hbd := HBD.out _ (List.getElem_mem hlt)
            have hpc : l[i].picks.length ≤ 1000000 := by
              simp only [badS, Bool.or_eq_false_iff, decide_eq_false_iff_not] at hbd
              omega
            have hfi := HFI.out i hi
            have hst := runD_take (newD m) l i hlt
            have HST := Lib.hid hst
            have HOK := Lib.hid hok
            have HSP := Lib.hid hsp
            have HPC := Lib.hid hpc
            have HFX := Lib.hid hfi
            have HPL := Lib.hid (show l[i].picks.length ≤ 9223372036854775807 by omega)
            have hiI : (i : Int) < (l.length : Int) := by omega
            clear hst hok hsp hpc hfi hbd hb1
            generalize l[i] = x at *
            generalize runD (newD m) (l.take i) = d at *
            have hbd0 : Below wr.heap.size wr wr.drew := (Below.refl _ _).drew
            have hBB0 := HB.out.below hbd0
            have hkeep : ∀ W d1 d2, BB w W b br d1 d2 → SCells W (p.add (i * 4)) x AP cP := fun W d1 d2 h => HAT.out W h.b
            have HS0 := Lib.hid (hkeep _ _ _ hBB0)
            have hdo1 : Calls Try.prog 16 #[.pointer (some ⟨b, 0, none⟩), .agg #[.int .i64 x.kind, .int .i64 x.n, .int .u8 (x.fill.toNat : Int), .slice AP x.picks.length cP]] wr.drew fun e w' => e = .returned (.int .i64 (stR d x)) ∧ SCells w' (p.add (i * 4)) x AP cP ∧ Hid (BB w w' b br (stD d x) d) := (hBB0.do1 x AP cP HOK.out HFX.out (by omega) HSP.out HPC.out).mono fun e w' hp => ⟨hp.1, hkeep _ _ _ hp.2, hp.2⟩
            have HDO1 := Lib.hid hdo1
            have hdo2 : ∀ W, BB w W b br (stD d x) d → Calls Try.prog 17 #[.pointer (some ⟨br, 0, none⟩), .agg #[.int .i64 x.kind, .int .i64 x.n, .int .u8 (x.fill.toNat : Int), .slice AP x.picks.length cP]] W fun e w' => e = .returned (.int .i64 (stR d x)) ∧ SCells w' (p.add (i * 4)) x AP cP ∧ Hid (BB w w' b br (stD d x) (stD d x)) := fun W h => (h.do2 x AP cP HFX.out (by omega) HSP.out HPC.out).mono fun e w' hp => ⟨hp.1, hkeep _ _ _ hp.2, hp.2⟩
            have HDO2 := Lib.hid hdo2
            have hshw : ∀ W, BB w W b br (stD d x) (stD d x) → Calls Try.prog 15 #[.pointer (some ⟨b, 0, none⟩), .pointer (some ⟨br, 0, none⟩)] W fun e w' => e = .returned (.bool true) ∧ SCells w' (p.add (i * 4)) x AP cP ∧ Hid (BB w w' b br (stD d x) (stD d x)) := fun W h => h.shows.mono fun e w' hp => ⟨hp.1, hkeep _ _ _ hp.2, hp.2⟩
            have HSHW := Lib.hid hshw
            clear hdo1 hdo2 hshw hkeep hbd0 hBB0 HAT
            have hrr : (stR d x != stR d x) = false := by simp
            go_wp2_with fail
            go_region_held_law (fun w' => w'.cell? (p.add (i * 4)) = some (.int .i64 x.kind) ∧ w'.cell? ⟨(p.add (i * 4)).block, (p.add (i * 4)).off + 1, none⟩ = some (.int .i64 x.n) ∧ w'.cell? ⟨(p.add (i * 4)).block, (p.add (i * 4)).off + 2, none⟩ = some (.int .u8 (x.fill.toNat : Int)) ∧ w'.cell? ⟨(p.add (i * 4)).block, (p.add (i * 4)).off + 3, none⟩ = some (.slice AP x.picks.length cP))
              (first | with_reducible exact HS0.out | with_reducible exact hSc | with_reducible exact hSb | with_reducible exact hSa)
              (first
                | (go_at_call 16; (with_reducible refine HDO1.out.mono ?_); rintro e wa ⟨rfl, hSa, hba⟩)
                | (go_at_call 17; (with_reducible refine (HDO2.out _ hba.out).mono ?_); rintro e wb ⟨rfl, hSb, hbb⟩)
                | (go_at_call 15; (with_reducible refine (HSHW.out _ hbb.out).mono ?_); rintro e wc ⟨rfl, hSc, hbc⟩))
            have HBN : Hid (BB w wc b br (runD (newD m) (l.take (i + 1))) (runD (newD m) (l.take (i + 1)))) := by rw [HST.out]; exact hbc.out
            clear hSa hSb hSc hba hbb hbc HDO1 HDO2 HSHW HS0 HB
            go_wp2
            go_roundw
            case rel => exact ⟨i + 1, hlt, by go_num, HBN⟩
            case measure => simp [intOf]; omega
          · obtain rfl : i = l.length := by omega
            have hKB := Lib.hid (known_b w wr HB.out.b)
            have hiI : ¬ (l.length : Int) < (l.length : Int) := by omega
            go_wp2_with (first
              | (go_at_call 11; (with_reducible refine hKB.out.mono ?_); rintro e wc ⟨rfl, hb⟩))
            go_ret
            exact ⟨rfl, hb⟩
  · have hS := Lib.hid (small_any n w)
    rw [show (decide (n ≤ 12) || decide (8192 < n)) = false by simpa using hs] at hS
    clear hs hv hl
    go_enter Try.func3, Try.ntmps3
    go_wp2_with (first
      | (go_at_call 9; (with_reducible refine hS.out.mono ?_); rintro e wc ⟨rfl, rfl⟩)
      | (go_at_call 11; (with_reducible refine hK.out.mono ?_); rintro e wc ⟨rfl, hb⟩))
    go_ret
    exact ⟨rfl, hb⟩
end Go.Proofs.Ytdigfkdappbhhaa
