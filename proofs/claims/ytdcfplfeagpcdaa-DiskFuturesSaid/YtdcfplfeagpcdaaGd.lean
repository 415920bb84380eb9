/- The law's 'pair'. -/
import Derived.Test.YtdcfplfeagpcdaaGk
set_option linter.unusedVariables false
namespace Go.Proofs.Ytdcfplfeagpcdaa
open Go.RowKit

theorem SRow.on {w W : World} {A : Option Addr} {l : List ST} (h : SRow w w.heap.size A l) (hb : Below w.heap.size w W) : SRow W W.heap.size A l := by
  intro hp
  obtain ⟨p, e, hpb, hx⟩ := h hp
  refine ⟨p, e, Nat.lt_of_lt_of_le hpb hb.size, fun i hi => ?_⟩
  obtain ⟨cs, ⟨A1, c1, hc1, hs, h2⟩, hc⟩ := hx i hi
  exact ⟨cs, ⟨A1, c1, hc1, (hs.below hb).wide hb.size, h2⟩, fun j u hu => by rw [hb.cell (by rw [addr_block]; exact hpb)]; exact hc j u hu⟩

set_option maxRecDepth 10000 in
set_option maxHeartbeats 4000000 in
theorem pair_any (w : World) (m : Nat) (A : Option Addr) (cap : Nat) (l : List ST) (hm12 : 1 ≤ m ∧ m ≤ 8192) (hv : SRow w w.heap.size A l) (hl : ∀ s ∈ l, s.ok) (hl50 : l.length ≤ 50) (hbad : ∀ x ∈ l, badS x = false) :
    Calls Try.prog 8 #[.int .i64 m, .slice A l.length cap] w fun e w' => ∃ b br, e = .returned (.tuple #[.pointer (some ⟨b, 0, none⟩), .pointer (some ⟨br, 0, none⟩)]) ∧ BB w w' b br (runD (newD m) l) (runD (newD m) l) := by
  have HN1 := Lib.hid (Kn.new m w hm12)
  have HFI := Lib.hid (runD_fine m hm12 l hl)
  have HV := Lib.hid hv
  have HL := Lib.hid hl
  have HBD := Lib.hid hbad
  clear hv hl hbad
  go_enter Try.func8, Try.ntmps8
  go_wp2_with (first
    | (go_at_call 18; (with_reducible refine HN1.out.mono ?_); rintro e w1 ⟨b, rfl, h1⟩)
    | (go_at_call 28; (with_reducible refine (h1.bb m hm12).mono ?_); rintro e w2 ⟨br, rfl, h2⟩)
    | (go_at_call 19; (with_reducible refine (num_any _ _).mono ?_); rintro e wc ⟨rfl, rfl⟩)
    | fail)
  have H3 := Lib.hid h2
  clear h1 h2 HN1
  go_wp2
  go_loopw [10] (fun j wr => ∃ i : Nat, i ≤ l.length ∧ j = .int .i64 (i : Int) ∧ Hid (BB w wr b br (runD (newD m) (l.take i)) (runD (newD m) (l.take i)))) (fun j _ => l.length - (intOf j).toNat)
  case atStart => exact ⟨0, Nat.zero_le _, rfl, H3.out⟩
  case round =>
    obtain ⟨i, hi, rfl, HB⟩ := hrel
    by_cases hlt : i < l.length
    · have hb1 := HB.out.b
      obtain ⟨p, rfl, AP, cP, hsp, HAT⟩ := HV.out.at2 i hlt
      have hok := HL.out _ (List.getElem_mem hlt)
      have hbd := HBD.out _ (List.getElem_mem hlt)
      have hpc : l[i].picks.length ≤ 1000000 := by
        simp only [badS, Bool.or_eq_false_iff, decide_eq_false_iff_not] at hbd
        omega
      have hfi := HFI.out i hi
      have hst := runD_take (newD m) l i hlt
      have HST := Lib.hid hst
      have HOK := Lib.hid hok
      have HSP := Lib.hid hsp
      have HPC := Lib.hid hpc
      have HFX := Lib.hid hfi
      have hiI : (i : Int) < (l.length : Int) := by omega
      clear hst hok hsp hpc hfi hbd hb1
      generalize l[i] = x at *
      generalize runD (newD m) (l.take i) = d at *
      have hbd0 : Below wr.heap.size wr wr.drew := (Below.refl _ _).drew
      have hBB0 := HB.out.below hbd0
      have hkeep : ∀ W d1 d2, BB w W b br d1 d2 → SCells W (p.add (i * 4)) x AP cP := fun W d1 d2 h => HAT.out W h.b
      have HS0 := Lib.hid (hkeep _ _ _ hBB0)
      have hdo1 : Calls Try.prog 21 #[.pointer (some ⟨b, 0, none⟩), .agg #[.int .i64 x.kind, .int .i64 x.n, .int .u8 (x.fill.toNat : Int), .slice AP x.picks.length cP]] wr.drew fun e w' => e = .returned (.int .i64 (stR d x)) ∧ SCells w' (p.add (i * 4)) x AP cP ∧ Hid (BB w w' b br (stD d x) d) := (hBB0.do1 x AP cP HOK.out HFX.out (by omega) HSP.out HPC.out).mono fun e w' hp => ⟨hp.1, hkeep _ _ _ hp.2, hp.2⟩
      have HDO1 := Lib.hid hdo1
      have hdo2 : ∀ W, BB w W b br (stD d x) d → Calls Try.prog 25 #[.pointer (some ⟨br, 0, none⟩), .agg #[.int .i64 x.kind, .int .i64 x.n, .int .u8 (x.fill.toNat : Int), .slice AP x.picks.length cP]] W fun e w' => e = .returned (.int .i64 (stR d x)) ∧ SCells w' (p.add (i * 4)) x AP cP ∧ Hid (BB w w' b br (stD d x) (stD d x)) := fun W h => (h.do2 x AP cP HFX.out (by omega) HSP.out HPC.out).mono fun e w' hp => ⟨hp.1, hkeep _ _ _ hp.2, hp.2⟩
      have HDO2 := Lib.hid hdo2
      clear hdo1 hdo2 hkeep hbd0 hBB0 HAT
      have hrr : (stR d x != stR d x) = false := by simp
      go_wp2_with fail
      go_region_held_law (fun w' => w'.cell? (p.add (i * 4)) = some (.int .i64 x.kind) ∧ w'.cell? ⟨(p.add (i * 4)).block, (p.add (i * 4)).off + 1, none⟩ = some (.int .i64 x.n) ∧ w'.cell? ⟨(p.add (i * 4)).block, (p.add (i * 4)).off + 2, none⟩ = some (.int .u8 (x.fill.toNat : Int)) ∧ w'.cell? ⟨(p.add (i * 4)).block, (p.add (i * 4)).off + 3, none⟩ = some (.slice AP x.picks.length cP))
        (first | with_reducible exact HS0.out | with_reducible exact hSb | with_reducible exact hSa)
        (first
          | (go_at_call 21; (with_reducible refine HDO1.out.mono ?_); rintro e wa ⟨rfl, hSa, hba⟩)
          | (go_at_call 25; (with_reducible refine (HDO2.out _ hba.out).mono ?_); rintro e wb ⟨rfl, hSb, hbb⟩))
      have HBN : Hid (BB w wb b br (runD (newD m) (l.take (i + 1))) (runD (newD m) (l.take (i + 1)))) := by rw [HST.out]; exact hbb.out
      clear hSa hSb hba hbb HDO1 HDO2 HS0 HB
      go_wp2
      go_roundw
      case rel => exact ⟨i + 1, hlt, by go_num, HBN⟩
      case measure => simp [intOf]; omega
    · obtain rfl : i = l.length := by omega
      have HE : Hid (BB w wr b br (runD (newD m) l) (runD (newD m) l)) := by
        have := HB.out
        rw [List.take_length] at this
        exact this
      have hiI : ¬ (l.length : Int) < (l.length : Int) := by omega
      go_wp2_with fail
      go_ret2
      exact ⟨b, br, rfl, HE.out⟩
end Go.Proofs.Ytdcfplfeagpcdaa
