/- The program's disk: what is read of a sector, its version at a pick. -/
import Derived.Test.YtmfcbndgambfmaaDoorQb
namespace Go.Proofs.YtmfcbndgambfmaaDoor.Q
open Go.RowKit

theorem row_range {w : World} {g n cap : Nat} {l : List SB} (h : w.ownsRow 0 64 64 (.slice (some ⟨g, 0, none⟩) n cap) n (secs l)) (i : Nat) (hi : i < l.length) : w.rangeAt g (i * 64) (sec l[i]) := by
  intro j v hv
  have hj : j < 64 := by
    have := (List.getElem?_eq_some_iff.1 hv).1
    rwa [sec_len] at this
  have := h.cells (g := g) rfl (i * 64 + j) v (by rw [secs_get l i j hi hj]; exact hv)
  rwa [Addr.add_mid, Nat.zero_add] at this
theorem row_there {w : World} {g n cap : Nat} {l : List SB} (h : w.ownsRow 0 64 64 (.slice (some ⟨g, 0, none⟩) n cap) n (secs l)) (i : Nat) (hi : i < l.length) : w.there g (i * 64) 64 := by
  intro j hj
  have hr := row_range h i hi j ((sec l[i])[j]'(by rw [sec_len]; exact hj)) (List.getElem?_eq_getElem _)
  refine ⟨by rw [hr]; rfl, ?_⟩
  rcases h.2 with ⟨hv, _⟩ | ⟨g', cap', cur, hv, _, hg, _⟩
  · cases hv
  · injection hv with hv
    injection hv with hv
    injection hv with hv
    subst hv
    exact frozen_of_row w g _ cur _ hg
theorem LRow.range {w : World} {g n cap : Nat} {l : List SB} (h : LRow w (.slice (some ⟨g, 0, none⟩) n cap) l) (i : Nat) (hi : i < l.length) : w.rangeAt g (i * 64) (sec l[i]) := by
  intro j v hv
  have hj : j < 64 := by
    have := (List.getElem?_eq_some_iff.1 hv).1
    rwa [sec_len] at this
  obtain ⟨g', cap', cur, hL, hg, _, _, hs, ht⟩ := h
  injection hL with e1
  injection e1 with e1
  injection e1 with e1
  subst e1
  rw [cell_of_row w g _ _ _ _ hg, ← Array.getElem?_toList]
  have h1 : (secs l)[i * 64 + j]? = some v := by rw [secs_get l i j hi hj]; exact hv
  rw [← ht, List.getElem?_take] at h1
  split at h1
  · exact h1
  · cases h1
theorem LRow.there {w : World} {g n cap : Nat} {l : List SB} (h : LRow w (.slice (some ⟨g, 0, none⟩) n cap) l) (i : Nat) (hi : i < l.length) : w.there g (i * 64) 64 := by
  intro j hj
  have hr := h.range i hi j ((sec l[i])[j]'(by rw [sec_len]; exact hj)) (List.getElem?_eq_getElem _)
  refine ⟨by rw [hr]; rfl, ?_⟩
  obtain ⟨g', cap', cur, hL, hg, _⟩ := h
  injection hL with e1
  injection e1 with e1
  injection e1 with e1
  subst e1
  exact frozen_of_row w g _ cur _ hg
theorem row_len {w : World} {v : Value} {n : Nat} {l : List SB} (h : w.ownsRow 0 64 64 v n (secs l)) : l.length = n := by
  have := h.1
  rw [secs_len] at this
  omega
theorem zero_secs (w : World) : (zeroValue 51).run Tryd.prog w = .ok nilS w := by kernel_rfl

section
variable {w : World} {b m : Nat} {L : Value} {D : DataW Value} {X : Nat → Value} {d : RD}
theorem PMap.look {s : List (List SB)} (h : PMap w m s D X) (i : Nat) (hi : i < s.length) (h8 : s.length ≤ 8192) : (Instr.lookup 52 (.map (some m)) (.int .i64 (i : Int)) false).run Tryd.prog w = .ok (X i) w := by
  obtain ⟨v, ps, hrun, hv⟩ := h.own.lookup (t := 52) (e := 51) (key := .int .i64 (i : Int)) (zd := .held nilS) (zp := []) lawI Tryd.underlying52 (zero_secs w) rfl (key_of i (by omega))
  have hv' : some (DataW.held v, ([] : List MemPlace)) = some (D.atKey (key i) (.held nilS), ps) := hv
  rw [h.at_ i hi] at hv'
  obtain rfl : v = X i := by simpa using congrArg (fun o => o.map (·.1)) hv'
  exact hrun
end
theorem wpList_lookup_run {P : Program} (w : World) {ops : Array Oper} {rest : List Oper} {o : Oper} {a : Act} {Q : Exit → Act → World → Prop}
    (hg : o.guard = none) (mo x : Operand) (t : TypeId) (hop : o.op = Op.lookup t mo x false) (mv k v : Value) (hm : a.eval mo = mv) (hx : a.eval x = k) (hrun : (Instr.lookup t mv k false).run P w = .ok v w)
    (hK : wpList P ops Q rest (a.put o.dst v) w) : wpList P ops Q (o :: rest) a w := by
  refine wpList_plain hg fun K' hK' => ?_
  unfold Oper.wp
  simp [execOp, hop, hm, hx, hrun, Result.andThen]
  exact hK' _ _ hK

theorem PMap.nilX {w : World} {m : Nat} {s : List (List SB)} {D : DataW Value} {X : Nat → Value} (h : PMap w m s D X) (i : Nat) (hi : i < s.length) (h1 : ¬ 1 < s[i].length) : s[i].length = 1 ∧ X i = nilS := by
  have hp := (h.pos i hi).1
  have hn := h.has_ i hi
  rw [decide_eq_false h1] at hn
  have ha := h.at_ i hi
  rw [Maps.atKey_of_not_has hn] at ha
  refine ⟨by omega, ?_⟩
  injection ha with ha
  exact ha.symm

set_option maxRecDepth 10000 in
set_option maxHeartbeats 2000000 in
theorem last_any (w : World) (b m : Nat) (L : Value) (D : DataW Value) (X : Nat → Value) (d : RD) (h : PDisk w b L m D X d) (i : Nat) (hi : i < d.s.length) :
    Calls Tryd.prog 32 #[.pointer (some ⟨b, 0, none⟩), .int .i64 (i : Int)] w fun e w' => e = .returned (.agg (sec ((d.s[i]).getLastD 0)).toArray) ∧ Below w.heap.size w w' := by
  have hzv := zero_sector
  have hb1 := (Below.refl w.heap.size w).alloc (Nat.le_refl _) (.cells (cells8 (fullN 0 0)).toArray 64)
  have hnew := heap_alloc_new w (.cells (cells8 (fullN 0 0)).toArray 64)
  have ha := h.below hb1
  have c0 := ha.c0
  have c1 := ha.c1
  have hm := ha.map
  have h8 := ha.n1
  obtain ⟨g, cap, cur, hL, hg, hnc, hcm, hcs, ht⟩ := ha.form
  subst hL
  have hpos := (hm.pos i hi)
  have HNEW := Lib.hid hnew
  by_cases h1 : 1 < d.s[i].length
  · have hrow := hm.row i hi
    have hlk := hm.look i hi h8
    rcases hrow.2 with ⟨_, h0⟩ | ⟨gi, ci, cui, hXi, _, hgi, _⟩
    · omega
    have hlast : (d.s[i]).getLastD 0 = (d.s[i].tail)[d.s[i].length - 1 - 1]'(by rw [List.length_tail]; omega) := by
      rw [List.getElem_tail, List.getLastD_eq_getLast?, List.getLast?_eq_some_getLast (by intro e; rw [e] at h1; simp at h1), List.getLast_eq_getElem]
      simp only [Option.getD_some]
      congr 1
      omega
    have hrg := row_range (by rw [hXi] at hrow; exact hrow) (d.s[i].length - 1 - 1) (by rw [List.length_tail]; omega)
    rw [← hlast] at hrg
    have HR := Lib.hid hrg
    rw [hXi] at hlk
    have HLK := Lib.hid hlk
    generalize (d.s[i]).getLastD 0 = c at *
    have hsub : IntKind.i64.wrap (((d.s[i].length - 1 : Nat) : Int) - 1) = ((d.s[i].length - 1 - 1 : Nat) : Int) := by
      rw [show (((d.s[i].length - 1 : Nat) : Int) - 1) = ((d.s[i].length - 1 - 1 : Nat) : Int) by omega]
      exact IntWalk.i64_in _ (by omega)
    have t1 : (((d.s[i].length - 1 : Nat) : Int) == 0) = false := by rw [beq_eq_false_iff_ne]; omega
    have hlt2 : d.s[i].length - 1 - 1 < d.s[i].length - 1 := by omega
    clear hlast hrow hrg hlk hXi hgi ha h hg hcs ht hpos h1 hm hnew
    generalize d.s[i].length - 1 = n at *
    go_enter Tryd.func32, Tryd.ntmps32
    go_wp2_with (first
      | (at_lookup; refine wpList_lookup_run _ rfl (.tmp 9) (.tmp 10) 52 rfl _ _ _ rfl rfl HLK.out ?_)
      | refine wpList_load_mid rfl 64 (.tmp 26) rfl gi ((n - 1) * 64) rfl (sec c) _ HR.out sector_u rfl (sector_sz c) ?_
      | refine wpList_store_row rfl 64 (.tmp 4) (.tmp 27) rfl w.heap.size (sec c).toArray rfl rfl 64 (cells8 (fullN 0 0)).toArray HNEW.out (by rw [sector_sz c]; simp) (by rw [size8, fullN_len 0 0 (by omega), List.size_toArray, sec_len]) (all_oneCell_toArray (sec_one c)) ?_
      | fail)
    exact bodyPost_ret (results_cell_row rfl _ _ w.heap.size 64 (sec c).toArray (0, 0) _ rfl (setRow_heap _ _ _ _ _ _ HNEW.out) sector_u rfl (by rw [sector_sz c]; simp)) rfl ⟨rfl, below_setRow hb1 (Nat.le_refl _) _⟩
  · obtain ⟨hlen, hXi⟩ := hm.nilX i hi h1
    have hlk := hm.look i hi h8
    rw [hXi] at hlk
    have HLK := Lib.hid hlk
    have hlast : (d.s[i]).getLastD 0 = (d.s.map (·.headD 0))[i]'(by simpa using hi) := by
      rw [List.getElem_map]
      obtain ⟨x, hx⟩ := List.length_eq_one_iff.1 hlen
      rw [hx]
      rfl
    have hrg := ha.last.range i (by simpa using hi)
    rw [← hlast] at hrg
    have HR := Lib.hid hrg
    generalize (d.s[i]).getLastD 0 = c at *
    clear hlast hrg hlk hXi ha h hg hcs ht hpos h1 hm hnew hlen
    go_enter Tryd.func32, Tryd.ntmps32
    go_wp2_with (first
      | (at_lookup; refine wpList_lookup_run _ rfl (.tmp 9) (.tmp 10) 52 rfl _ _ _ rfl rfl HLK.out ?_)
      | refine wpList_load_mid rfl 64 (.tmp 20) rfl g (i * 64) rfl (sec c) _ HR.out sector_u rfl (sector_sz c) ?_
      | refine wpList_store_row rfl 64 (.tmp 4) (.tmp 21) rfl w.heap.size (sec c).toArray rfl rfl 64 (cells8 (fullN 0 0)).toArray HNEW.out (by rw [sector_sz c]; simp) (by rw [size8, fullN_len 0 0 (by omega), List.size_toArray, sec_len]) (all_oneCell_toArray (sec_one c)) ?_
      | fail)
    exact bodyPost_ret (results_cell_row rfl _ _ w.heap.size 64 (sec c).toArray (0, 0) _ rfl (setRow_heap _ _ _ _ _ _ HNEW.out) sector_u rfl (by rw [sector_sz c]; simp)) rfl ⟨rfl, below_setRow hb1 (Nat.le_refl _) _⟩
end Go.Proofs.YtmfcbndgambfmaaDoor.Q
