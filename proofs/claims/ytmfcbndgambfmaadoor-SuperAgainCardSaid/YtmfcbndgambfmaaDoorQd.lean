/- The program's disk: the version of a sector at a pick. -/
import Derived.Test.YtmfcbndgambfmaaDoorQc
import Derived.Test.YtmfcbndgambfmaaDoorQ0
namespace Go.Proofs.YtmfcbndgambfmaaDoor.Q
open Go.RowKit

set_option maxRecDepth 10000 in
set_option maxHeartbeats 2000000 in
theorem version_any (w : World) (b m : Nat) (L : Value) (D : DataW Value) (X : Nat → Value) (d : RD) (h : PDisk w b L m D X d) (i : Nat) (hi : i < d.s.length) (pick : Int) :
    Calls Tryd.prog 21 #[.pointer (some ⟨b, 0, none⟩), .int .i64 (i : Int), .int .i64 pick] w fun e w' => e = .returned (.agg (sec ((d.s[i]).getD (pickAt pick d.s[i].length) 0)).toArray) ∧ Below w.heap.size w w' := by
  have hzv := zero_sector
  have hb1 := (Below.refl w.heap.size w).alloc (Nat.le_refl _) (.cells (cells8 (fullN 0 0)).toArray 64)
  have hnew := heap_alloc_new w (.cells (cells8 (fullN 0 0)).toArray 64)
  have ha := h.below hb1
  have c0 := ha.c0
  have c1 := ha.c1
  have hm := ha.map
  have h8 := ha.n1
  obtain ⟨g, cap, cur, hL, hg, hnc, hcm, hcs, ht⟩ := ha.form
  subst hL
  have hpos := (hm.pos i hi)
  have HNEW := Lib.hid hnew
  have hlk := hm.look i hi h8
  have hrow := hm.row i hi
  obtain ⟨A, cx, hXi⟩ : ∃ A cx, X i = .slice A (d.s[i].length - 1) cx := by
    rcases hrow.2 with ⟨hv, h0⟩ | ⟨gi, ci, cui, hv, _⟩
    · exact ⟨none, 0, by rw [hv, h0]⟩
    · exact ⟨_, _, hv⟩
  obtain ⟨q, hq⟩ : ∃ q, d.s[i].length = q + 1 := ⟨d.s[i].length - 1, by omega⟩
  obtain ⟨hat, hpe⟩ := pickAt_lt pick (q + 1) (by omega)
  have hget : (d.s[i]).getD (pickAt pick (q + 1)) 0 = (d.s[i])[pickAt pick (q + 1)]'(by omega) := getB_get _ _ (by omega)
  have hr0 := ha.last.range i (by simpa using hi)
  have hr1 : 0 < pickAt pick (q + 1) → ∃ gi, A = some ⟨gi, 0, none⟩ ∧ (w.alloc (.cells (cells8 (fullN 0 0)).toArray 64)).rangeAt gi ((pickAt pick (q + 1) - 1) * 64) (sec ((d.s[i]).getD (pickAt pick (q + 1)) 0)) := by
    intro hp
    rcases hrow.2 with ⟨_, h0⟩ | ⟨gi, ci, cui, hv, _, hgi, _⟩
    · omega
    rw [hv] at hXi hrow
    injection hXi with e1 e2 e3
    refine ⟨gi, e1.symm, ?_⟩
    have hr := row_range hrow (pickAt pick (q + 1) - 1) (by rw [List.length_tail]; omega)
    rw [List.getElem_tail] at hr
    rw [hget]
    have e : pickAt pick (q + 1) - 1 + 1 = pickAt pick (q + 1) := by omega
    simp only [e] at hr
    exact hr
  have hz0 : pickAt pick (q + 1) = 0 → (d.s[i]).getD (pickAt pick (q + 1)) 0 = (d.s.map (·.headD 0))[i]'(by simpa using hi) := by
    intro hp
    rw [hp, List.getElem_map]
    cases hd : d.s[i] with
    | nil => rw [hd] at hq; simp at hq
    | cons x t => rfl
  rw [hXi, hq, Nat.add_sub_cancel] at hlk
  rw [hq]
  have HLK := Lib.hid hlk
  have htm1 : -((q : Int) + 1) < pick.tmod ((q : Int) + 1) := by
    have := Int.lt_tmod_of_pos pick (show (0 : Int) < (q : Int) + 1 by omega)
    omega
  have htm2 : pick.tmod ((q : Int) + 1) < (q : Int) + 1 := Int.tmod_lt_of_pos _ (by omega)
  have hL00 : ¬ ((q : Int) + 1) = 0 := by omega
  have hLz : (((q : Int) + 1) == 0) = false := by simpa using hL00
  have hpe2 : (pick.tmod ((q : Int) + 1) + ((q : Int) + 1)).tmod ((q : Int) + 1) = ((pickAt pick (q + 1) : Nat) : Int) := by
    rw [← hpe]; push_cast; rfl
  have hqb : q ≤ 1000000 := by omega
  clear hget
  generalize hc : (d.s[i]).getD (pickAt pick (q + 1)) 0 = c at *
  generalize pickAt pick (q + 1) = at_ at *
  generalize hT : pick.tmod ((q : Int) + 1) = tm at *
  have HT := Lib.hid hT
  have HPE := Lib.hid hpe2
  clear hc hT hpe hpe2 hlk hrow hXi ha h hg hcs ht hpos hm hnew
  by_cases h0 : at_ = 0
  · subst h0
    rw [← hz0 rfl] at hr0
    have HR := Lib.hid hr0
    have hwrap : IntKind.i64.wrap (tm + ((q : Int) + 1)) = tm + ((q : Int) + 1) := IntWalk.i64_in _ (by omega)
    have hT := HT.out
    have hpe2 := HPE.out
    clear hz0 hr0 hr1
    go_enter Tryd.func21, Tryd.ntmps21
    go_wp2_with (first
      | (at_lookup; refine wpList_lookup_run _ rfl (.tmp 13) (.tmp 14) 52 rfl _ _ _ rfl rfl HLK.out ?_)
      | refine wpList_load_mid rfl 64 (.tmp 33) rfl g (i * 64) rfl (sec c) _ HR.out sector_u rfl (sector_sz c) ?_
      | refine wpList_store_row rfl 64 (.tmp 6) (.tmp 34) rfl w.heap.size (sec c).toArray rfl rfl 64 (cells8 (fullN 0 0)).toArray HNEW.out (by rw [sector_sz c]; simp) (by rw [size8, fullN_len 0 0 (by omega), List.size_toArray, sec_len]) (all_oneCell_toArray (sec_one c)) ?_
      | fail)
    exact bodyPost_ret (results_cell_row rfl _ _ w.heap.size 64 (sec c).toArray (0, 0) _ rfl (setRow_heap _ _ _ _ _ _ HNEW.out) sector_u rfl (by rw [sector_sz c]; simp)) rfl ⟨rfl, below_setRow hb1 (Nat.le_refl _) _⟩
  · obtain ⟨p, rfl⟩ : ∃ p, at_ = p + 1 := ⟨at_ - 1, by omega⟩
    obtain ⟨gi, rfl, hr⟩ := hr1 (by omega)
    rw [Nat.add_sub_cancel] at hr
    have HR := Lib.hid hr
    have hwrap : IntKind.i64.wrap (tm + ((q : Int) + 1)) = tm + ((q : Int) + 1) := IntWalk.i64_in _ (by omega)
    have hT := HT.out
    have hpe2 := HPE.out
    have t0 : (((p + 1 : Nat) : Int) == 0) = false := by rw [beq_eq_false_iff_ne]; omega
    have hsub : IntKind.i64.wrap (((p + 1 : Nat) : Int) - 1) = (p : Int) := by
      rw [show (((p + 1 : Nat) : Int) - 1) = (p : Int) by omega]
      exact IntWalk.i64_in _ (by omega)
    have hpq : p < q := by omega
    clear hz0 hr0 hr1 hr hat
    go_enter Tryd.func21, Tryd.ntmps21
    go_wp2_with (first
      | (at_lookup; refine wpList_lookup_run _ rfl (.tmp 13) (.tmp 14) 52 rfl _ _ _ rfl rfl HLK.out ?_)
      | refine wpList_load_mid rfl 64 (.tmp 38) rfl gi (p * 64) rfl (sec c) _ HR.out sector_u rfl (sector_sz c) ?_
      | refine wpList_store_row rfl 64 (.tmp 6) (.tmp 39) rfl w.heap.size (sec c).toArray rfl rfl 64 (cells8 (fullN 0 0)).toArray HNEW.out (by rw [sector_sz c]; simp) (by rw [size8, fullN_len 0 0 (by omega), List.size_toArray, sec_len]) (all_oneCell_toArray (sec_one c)) ?_
      | fail)
    exact bodyPost_ret (results_cell_row rfl _ _ w.heap.size 64 (sec c).toArray (0, 0) _ rfl (setRow_heap _ _ _ _ _ _ HNEW.out) sector_u rfl (by rw [sector_sz c]; simp)) rfl ⟨rfl, below_setRow hb1 (Nat.le_refl _) _⟩
end Go.Proofs.YtmfcbndgambfmaaDoor.Q
