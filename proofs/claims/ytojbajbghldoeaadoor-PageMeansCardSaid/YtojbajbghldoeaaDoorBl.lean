/- The document's Summed. -/
import Derived.Test.YtojbajbghldoeaaDoorBk
import Derived.Test.YtojbajbghldoeaaDoorBi
set_option linter.unusedVariables false
namespace Go.Proofs.YtojbajbghldoeaaDoor
open Go.RowKit

/-- some of the bytes laid -/
def laidTo (l : List UInt8) (i : Nat) : List UInt8 := [0, 0, 0, 0] ++ (l.take i ++ List.replicate (252 - i) 0)
theorem laidTo_zero (l : List UInt8) : laidTo l 0 = noughts := by unfold laidTo noughts; rfl
theorem laidTo_len (l : List UInt8) (h : l.length ≤ 252) (i : Nat) (hi : i ≤ l.length) : (laidTo l i).length = 256 := by simp [laidTo]; omega
theorem laidTo_set (l : List UInt8) (h : l.length ≤ 252) (i : Nat) (hi : i < l.length) : (laidTo l i).set (4 + i) (l[i]'hi) = laidTo l (i + 1) := by
  have e : List.replicate (252 - i) (0 : UInt8) = (List.replicate 252 0).drop i ++ [] := by rw [List.drop_replicate, List.append_nil]
  have e2 : List.replicate (252 - (i + 1)) (0 : UInt8) = (List.replicate 252 0).drop (i + 1) ++ [] := by rw [List.drop_replicate, List.append_nil]
  unfold laidTo
  rw [e, e2]
  have := set_mid [0, 0, 0, 0] (l.take i) (List.replicate 252 0) [] i (l[i]'hi) (by rw [List.length_take]; omega) (by rw [List.length_replicate]; omega)
  rw [List.take_succ_eq_append_getElem hi]
  exact this
theorem laidTo_all (l : List UInt8) : laidTo l l.length = [0, 0, 0, 0] ++ padB l := by unfold laidTo padB; rw [List.take_length]
/-- the sum laid ahead -/
def headTo (s : Nat) (p : List UInt8) (i : Nat) : List UInt8 := (leN 4 s).take i ++ (([0, 0, 0, 0] : List UInt8).drop i ++ p)
theorem headTo_set (s : Nat) (p : List UInt8) (i : Nat) (hi : i < 4) : (headTo s p i).set i ((leN 4 s)[i]'(by rw [leN_length]; exact hi)) = headTo s p (i + 1) := by
  unfold headTo
  have := set_mid [] ((leN 4 s).take i) [0, 0, 0, 0] p i ((leN 4 s)[i]'(by rw [leN_length]; exact hi)) (by simp [leN_length]; omega) (by simp; omega)
  rw [List.take_succ_eq_append_getElem (by rw [leN_length]; exact hi)]
  simpa using this
theorem headTo_all (s : Nat) (p : List UInt8) : headTo s p 4 = leN 4 s ++ p := by unfold headTo; rw [List.take_of_length_le (by rw [leN_length]; omega)]; rfl
theorem headTo_len (s : Nat) (p : List UInt8) (i : Nat) (hi : i ≤ 4) : (headTo s p i).length = 4 + p.length := by simp [headTo, leN_length]; omega

set_option maxRecDepth 10000 in
set_option maxHeartbeats 2000000 in
theorem rsummed_any (w : World) (A : Option Addr) (c : Nat) (l : List UInt8) (hs : Shows w w.heap.size A l.length (cells8 l)) (h252 : l.length ≤ 252) :
    Calls Tryd.prog 48 #[.slice A l.length c] w fun e w' => e = .returned (.agg (cells8 (summed (padB l))).toArray) ∧ Below w.heap.size w w' := by
  have hz := blk_zero
  have hcs : (cells8 noughts).toArray.size = 256 := (cells8_size _).trans noughts_len
  have hb0 := ((Below.refl w.heap.size w).alloc (Nat.le_refl _) (.cells (cells8 noughts).toArray 29)).alloc (by simp) (.cells (cells8 noughts).toArray 29)
  have hr0 : Holds8 ((w.alloc (.cells (cells8 noughts).toArray 29)).alloc (.cells (cells8 noughts).toArray 29)) w.heap.size 29 noughts := (Holds8.new w _ noughts _ rfl).alloc _
  have hx0 : Holds8 ((w.alloc (.cells (cells8 noughts).toArray 29)).alloc (.cells (cells8 noughts).toArray 29)) (w.heap.size + 1) 29 noughts := by
    have := Holds8.new (w.alloc (.cells (cells8 noughts).toArray 29)) 29 noughts _ rfl
    simpa using this
  have HB0 := Lib.hid hb0
  have HR0 := Lib.hid hr0
  have HX0 := Lib.hid hx0
  have HL0 := Lib.hid (laidTo_zero l)
  have HS := Lib.hid hs
  have HCS := Lib.hid hcs
  clear hb0 hr0 hx0 hs
  go_enter Tryd.func48, Tryd.ntmps48
  go_wp2
  go_loopw [4] (fun j wr => ∃ i : Nat, i ≤ l.length ∧ j = .int .i64 (i : Int) ∧ Holds8 wr (w.heap.size + 1) 29 (laidTo l i) ∧ Holds8 wr w.heap.size 29 noughts ∧ Below w.heap.size w wr) (fun j _ => l.length - (intOf j).toNat)
  case atStart => exact ⟨0, Nat.zero_le _, rfl, by rw [HL0.out]; exact HX0.out, HR0.out, HB0.out⟩
  case round =>
    obtain ⟨i, hi, rfl, hx, hr, hbr⟩ := hrel
    by_cases hlt : i < l.length
    · obtain ⟨p, u, rfl, hp, hu, hcl⟩ := (HS.out.below hbr).cell hlt
      rw [cells8_get l i hlt] at hu
      injection hu with hu
      subst hu
      have hlen := laidTo_len l h252 i hi
      obtain ⟨q, hc⟩ : ∃ q, wr.cell? ⟨w.heap.size + 1, 4 + i, none⟩ = some q := ⟨_, hx.cell (4 + i) (by omega)⟩
      have hf := hx.frozen (4 + i)
      have hst := hx.set (4 + i) (l[i]'hlt)
      rw [laidTo_set l h252 i hlt] at hst
      have HST := Lib.hid hst
      have HR := Lib.hid hr
      clear hst hx hr hlen
      generalize l[i]'hlt = b at *
      have hltI : (i : Int) < (l.length : Int) := by omega
      have hltJ : (i : Int) < 252 := by omega
      clear hz hcs
      go_wp2
      go_roundw
      case rel => exact ⟨i + 1, hlt, by go_num, HST.out, HR.out.other (by simp) _, hbr.setCell (by simp) _⟩
      case measure => simp [intOf]; omega
    · obtain rfl : i = l.length := by omega
      have hltI : ¬ (l.length : Int) < (l.length : Int) := by omega
      rw [laidTo_all] at hx
      have hpl := padB_length l h252
      have hsh : Shows wr wr.heap.size (some ⟨w.heap.size + 1, 4, none⟩) (padB l).length (cells8 (padB l)) := by
        have := hx.shows.from_ (k := 4) (cap := 256) (by simp) (by simp [hpl])
        rw [if_neg (by omega), ← cells8_drop] at this
        simpa [Addr.add] using this
      have hsum := rsum_any wr.heap.size (some ⟨w.heap.size + 1, 4, none⟩) 252 (padB l) wr hsh (by omega)
      rw [hpl] at hsum
      have HSUM := Lib.hid hsum
      have hs32 := sumB_lt (padB l)
      have HX := Lib.hid hx
      have HR := Lib.hid hr
      have HPL := Lib.hid hpl
      clear hsum hx hr hpl hsh
      have HSD : Hid (summed (padB l) = leN 4 (sumB (padB l)) ++ padB l) := rfl
      generalize sumB (padB l) = s at *
      generalize hpd : padB l = pd at *
      have HPD := Lib.hid hpd
      clear hpd
      have HLW := Lib.hid (rlow_any s 4 wr (by omega) (by omega))
      go_wp2_with (first
        | (go_at_call 74; (with_reducible refine HSUM.out.mono ?_); rintro e w1 ⟨rfl, rfl⟩)
        | fail)
      refine HLW.out.mono ?_
      rintro e w2 ⟨v, rfl, hown, hb2⟩
      obtain ⟨A2, c2, rfl, hc24, _⟩ := own_form4 hown
      have hx2 := HX.out.below hb2
      have hr2 := HR.out.below hb2
      have HB2 := Lib.hid (hbr.trans (hb2.mono hbr.size))
      have hsz : w.heap.size + 1 < w2.heap.size := hx2.lt
      have hlw : w.heap.size + 1 < w1.heap.size := HX.out.lt
      have HOW := Lib.hid hown
      clear HSUM HLW HX HR hb2 hown hbr
      go_wp2
      go_loopw [6] (fun j wr => ∃ i : Nat, i ≤ 4 ∧ j = .int .i64 (i : Int) ∧ Holds8 wr (w.heap.size + 1) 29 (headTo s pd i) ∧ Holds8 wr w.heap.size 29 noughts ∧ wr.ownsRow w1.heap.size 5 1 (.slice A2 4 c2) 4 (cells8 (leN 4 s)) ∧ Below w.heap.size w wr) (fun j _ => 4 - (intOf j).toNat)
      case atStart => exact ⟨0, Nat.zero_le _, rfl, hx2, hr2, HOW.out, HB2.out⟩
      case round =>
        obtain ⟨i, hi, rfl, hx, hr, ho, hbr⟩ := hrel
        by_cases hlt : i < 4
        · have hsh4 := Shows.owned ho
          obtain ⟨p, u, rfl, hp, hu, hcl⟩ := hsh4.cell hlt
          rw [cells8_get (leN 4 s) i (by rw [leN_length]; exact hlt)] at hu
          injection hu with hu
          subst hu
          have hlen := headTo_len s pd i hi
          rw [HPL.out] at hlen
          obtain ⟨q, hc⟩ : ∃ q, wr.cell? ⟨w.heap.size + 1, i, none⟩ = some q := ⟨_, hx.cell i (by omega)⟩
          have hf := hx.frozen i
          have hst := hx.set i ((leN 4 s)[i]'(by rw [leN_length]; exact hlt))
          rw [headTo_set s pd i hlt] at hst
          have HST := Lib.hid hst
          have HR := Lib.hid hr
          have HO := Lib.hid ho
          clear hst hx hr hlen hsh4 ho hz hcs hx2 hr2
          generalize (leN 4 s)[i]'_ = b at hcl HST
          go_wp2
          go_roundw
          case rel => exact ⟨i + 1, hlt, by go_num, HST.out, HR.out.other (by simp) _, HO.out.kept (grown_set _ _ _) (.inr fun e => by have := (HO.out.lt _ e).1; simp at this; omega), hbr.setCell (by simp) _⟩
          case measure => simp [intOf]; omega
        · obtain rfl : i = 4 := by omega
          rw [headTo_all, ← HSD.out, ← HPD.out] at hx
          have HX := Lib.hid hx
          have HR := Lib.hid hr
          have HIS : Hid ((cells8 (summed (padB l))).toArray.size = 256) := (cells8_size _).trans (by rw [summed_length, padB_length l h252])
          clear hx hr hx2 hr2 ho
          go_wp2_with (first
            | refine wpList_load_row rfl 29 (.tmp 3) rfl (w.heap.size + 1) rfl 29 (cells8 (summed (padB l))).toArray (0, 0) _ HX.out Tryd.underlying29 rfl (by rw [blk_size, HIS.out]) ?_
            | refine wpList_store_row rfl 29 (.tmp 2) (.tmp 38) rfl w.heap.size (cells8 (summed (padB l))).toArray rfl rfl 29 (cells8 noughts).toArray HR.out (by rw [blk_size, HIS.out]) (by rw [HCS.out, HIS.out]) (cells8_all _) ?_
            | fail)
          exact bodyPost_ret (results_cell_row rfl _ _ w.heap.size 29 (cells8 (summed (padB l))).toArray (0, 0) _ rfl (HR.out.row (summed (padB l))) Tryd.underlying29 rfl (by rw [blk_size, HIS.out])) rfl ⟨rfl, below_setRow hbr (Nat.le_refl _) _⟩
end Go.Proofs.YtojbajbghldoeaaDoor
