/- The document's disk: Full, Now, Lasts, settle. -/
import Derived.Test.YtdcfplfeagpcdaaDa
namespace Go.Proofs.Ytdcfplfeagpcdaa
open Go.RowKit

/-- the row's slice, its cell for a sector, that sector's past -/
theorem RDisk.at_ {w : World} {base b : Nat} {v : Value} {d : RD} (h : RDisk w base b v d) (i : Nat) (hi : i < d.s.length) :
    ∃ g cap gi ci, v = .slice (some ⟨g, 0, none⟩) d.s.length cap ∧ d.s.length ≤ cap ∧ base ≤ g ∧ w.cell? ⟨g, i, none⟩ = some (.slice (some ⟨gi, 0, none⟩) d.s[i].length ci) ∧ w.frozen? ⟨g, i, none⟩ = false ∧
      0 < d.s[i].length ∧ d.s[i].length ≤ 1000000 ∧ w.ownsRow base 5 1 (.slice (some ⟨gi, 0, none⟩) d.s[i].length ci) d.s[i].length (cells8 d.s[i]) := by
  obtain ⟨_, _, xs, ho, hp⟩ := h
  rcases ho.2 with ⟨_, h0⟩ | ⟨g, cap, cur, hv, hg, hh, hnc, hcm, hcs, ht⟩
  · omega
  · obtain ⟨x, hx, hox, h1, h2⟩ := hp.2 i hi
    rcases hox.2 with ⟨_, h0⟩ | ⟨gi, ci, cu, hxi, _⟩
    · omega
    · subst hxi
      refine ⟨g, cap, gi, ci, hv, hnc, hg, ?_, Joins.unfrozen_of_block hh i, h1, h2, hox⟩
      rw [cell_of_row w g i _ _ _ hh, ← Array.getElem?_toList]
      rw [← ht, List.getElem?_take] at hx
      split at hx
      · exact hx
      · cases hx
theorem own_byte {w : World} {base n g cap : Nat} {l : List UInt8} (h : w.ownsRow base 5 1 (.slice (some ⟨g, 0, none⟩) n cap) n (cells8 l)) (k : Nat) (hk : k < l.length) : w.cell? ⟨g, k, none⟩ = some (.int .u8 ((l[k]'hk).toNat : Int)) := by
  have := h.cells (g := g) rfl k _ (cells8_get l k hk)
  have ha : (⟨g, 0, none⟩ : Addr).add k = ⟨g, k, none⟩ := by
    unfold Addr.add
    by_cases hj0 : k = 0 <;> simp [hj0]
  rw [ha] at this
  exact this

theorem headD_get (l : List UInt8) (h : 0 < l.length) : l.headD 0 = l[0]'h := by
  cases l with
  | nil => simp at h
  | cons a t => rfl

set_option maxHeartbeats 1000000 in
theorem lasts_any (w : World) (base b : Nat) (v : Value) (d : RD) (h : RDisk w base b v d) (i : Nat) (hi : i < d.s.length) :
    Calls Try.prog 27 #[.pointer (some ⟨b, 0, none⟩), .int .i64 i] w fun e w' => e = .returned (.int .u8 (((d.s[i]).headD 0).toNat : Int)) ∧ w' = w := by
  have c0 := h.c0
  obtain ⟨g, cap, gi, ci, rfl, hc, hg, hcell, _, h1, h2, hox⟩ := h.at_ i hi
  have hb := own_byte hox 0 h1
  have he := headD_get d.s[i] h1
  rw [he]
  clear he hox h
  go_enter Try.func27, Try.ntmps27
  go_wp2
  go_ret
  exact ⟨rfl, rfl⟩

set_option maxHeartbeats 2000000 in
theorem now_any (w : World) (base b : Nat) (v : Value) (d : RD) (h : RDisk w base b v d) (i : Nat) (hi : i < d.s.length) :
    Calls Try.prog 26 #[.pointer (some ⟨b, 0, none⟩), .int .i64 i] w fun e w' => e = .returned (.int .u8 (((d.s[i]).getLastD 0).toNat : Int)) ∧ ∃ k, w' = w.drewN k := by
  have c0 := h.c0
  obtain ⟨g, cap, gi, ci, rfl, hc, hg, hcell, _, h1, h2, hox⟩ := h.at_ i hi
  have hb := own_byte hox (d.s[i].length - 1) (by omega)
  have he : (d.s[i]).getLastD 0 = (d.s[i])[d.s[i].length - 1]'(by omega) := by
    rw [← List.getLast_eq_getElem (by intro e; rw [e] at h1; simp at h1), List.getLastD_eq_getLast?, List.getLast?_eq_some_getLast (by intro e; rw [e] at h1; simp at h1)]
    rfl
  rw [he]
  have hsub : IntKind.i64.wrap ((d.s[i].length : Int) - 1) = ((d.s[i].length - 1 : Nat) : Int) := by
    rw [show ((d.s[i].length : Int) - 1) = ((d.s[i].length - 1 : Nat) : Int) by omega]
    exact IntWalk.i64_in _ (by omega)
  have hlt : d.s[i].length - 1 < d.s[i].length := by omega
  clear he hox h
  generalize ((d.s[i])[d.s[i].length - 1]'hlt).toNat = y at *
  generalize hL : d.s[i].length - 1 = m at *
  generalize d.s[i].length = L at *
  generalize d.s.length = S at *
  clear hL
  go_enter Try.func26, Try.ntmps26
  go_wp2
  go_quiet (fail)
  go_wp2
  go_ret
  exact ⟨rfl, _, rfl⟩

/-- a sector's past is set: the row's cell is another slice -/
theorem RDisk.setS {w : World} {base b g cap : Nat} {d : RD} (h : RDisk w base b (.slice (some ⟨g, 0, none⟩) d.s.length cap) d) (i : Nat) (x : Value) (l : List UInt8) (hx : w.ownsRow base 5 1 x l.length (cells8 l)) (h0 : 0 < l.length) (hl : l.length ≤ 1000000) :
    RDisk (w.setCell ⟨g, i, none⟩ x) base b (.slice (some ⟨g, 0, none⟩) d.s.length cap) { d with s := d.s.set i l } := by
  obtain ⟨h1, h2, xs, ho, hp⟩ := h
  rcases ho.2 with ⟨hv, _⟩ | ⟨g', cap', cur, hv, hg, hh, hnc, hcm, hcs, ht⟩
  · cases hv
  · injection hv with e1 e2 e3
    injection e1 with e1
    injection e1 with e1
    subst e1
    subst e3
    have hk : BytesKept w (w.setCell ⟨g, i, none⟩ x) := BytesKept.setCell (a := ⟨g, i, none⟩) hh ne_types.2.1 x
    refine ⟨h1, ?_, xs.set i x, ⟨by rw [List.length_set, List.length_set]; exact ho.1, .inr ⟨g, cap, cur.setIfInBounds i x, by rw [List.length_set], hg, Joins.block_setCell hh x, by rw [List.length_set]; exact hnc, hcm, by rw [Array.size_setIfInBounds]; exact hcs, ?_⟩⟩, ?_⟩
    · rw [Below.heap_setCell _ _ _ _ (fun e => by subst e; rw [h2] at hh; injection hh with hh; injection hh with _ h3; exact ne_types.2.2 h3)]
      exact h2
    · rw [List.length_set, Array.toList_setIfInBounds, List.take_set, ht]
    · refine ⟨by rw [List.length_set, List.length_set]; exact hp.1, fun j hj => ?_⟩
      have hj' : j < d.s.length := by simpa using hj
      by_cases hij : i = j
      · subst hij
        refine ⟨x, by rw [List.getElem?_set_self (by rw [hp.1]; exact hj')], ?_⟩
        simp only [List.getElem_set_self]
        exact ⟨row_on hx (fun k c _ hc => hk k c hc), h0, hl⟩
      · obtain ⟨y, hy, hoy, hr⟩ := hp.2 j hj'
        refine ⟨y, by rw [List.getElem?_set_ne hij]; exact hy, ?_⟩
        simp only [List.getElem_set_ne hij]
        exact ⟨row_on hoy (fun k c _ hc => hk k c hc), hr⟩

set_option maxHeartbeats 1000000 in
theorem settle_any (w : World) (base b : Nat) (v : Value) (d : RD) (h : RDisk w base b v d) (i : Nat) (hi : i < d.s.length) (c : UInt8) (hbase : base ≤ w.heap.size) :
    Calls Try.prog 40 #[.pointer (some ⟨b, 0, none⟩), .int .i64 i, .int .u8 (c.toNat : Int)] w fun e w' => e = .returned (.tuple #[]) ∧ RDisk w' base b v { d with s := d.s.set i [c] } ∧ Own2 w w' b v ∧ BytesKept w w' := by
  have hg2 := h.at_ i hi
  have c0w := h.c0
  obtain ⟨g, cap, gi, ci, rfl, hc, hg, hcell, hfro, h1, h2, hox⟩ := hg2
  have ha := h.on ((Below.refl w.heap.size w).alloc (Nat.le_refl _) (.cells #[.int .u8 (c.toNat : Int)] 5))
  have c0 := ha.c0
  obtain ⟨g', cap', gi', ci', hv', _, _, hcell', hfro', _⟩ := ha.at_ i hi
  injection hv' with e1 e2 e3
  injection e1 with e1
  injection e1 with e1
  subst e1
  subst e3
  have hnew : (w.alloc (.cells #[.int .u8 (c.toNat : Int)] 5)).ownsRow base 5 1 (.slice (some ⟨w.heap.size, 0, none⟩) 1 1) [c].length (cells8 [c]) :=
    ⟨rfl, .inr ⟨w.heap.size, 1, #[.int .u8 (c.toNat : Int)], rfl, hbase, heap_alloc_new w _, Nat.le_refl _, by unfold maxLen; omega, rfl, rfl⟩⟩
  have hset := ha.setS i _ [c] hnew (by simp) (by simp)
  have HSET := Lib.hid hset
  have hk1 : BytesKept w (w.alloc (.cells #[.int .u8 (c.toNat : Int)] 5)) := BytesKept.alloc w _
  have hbk : BytesKept w ((w.alloc (.cells #[.int .u8 (c.toNat : Int)] 5)).setCell ⟨g, i, none⟩ (.slice (some ⟨w.heap.size, 0, none⟩) 1 1)) := by
    obtain ⟨_, _, xs, ho, _⟩ := ha
    rcases ho.2 with ⟨hv, _⟩ | ⟨g2, cap2, cur, hv, _, hh, _⟩
    · cases hv
    · injection hv with e1
      injection e1 with e1
      injection e1 with e1
      subst e1
      exact hk1.trans (BytesKept.setCell (a := ⟨g, i, none⟩) hh ne_types.2.1 _)
  have HBK := Lib.hid hbk
  have hO : Own2 w ((w.alloc (.cells #[.int .u8 (c.toNat : Int)] 5)).setCell ⟨g, i, none⟩ (.slice (some ⟨w.heap.size, 0, none⟩) 1 1)) b (.slice (some ⟨g, 0, none⟩) d.s.length cap) := (Own2.of_below ((Below.refl w.heap.size w).alloc (Nat.le_refl _) _) _ _).setV _ rfl _
  have HO := Lib.hid hO
  clear hset hbk hO hnew ha hox hk1
  go_enter Try.func40, Try.ntmps40
  go_wp2
  go_end0
  exact ⟨rfl, HSET.out, HO.out, HBK.out⟩
end Go.Proofs.Ytdcfplfeagpcdaa
