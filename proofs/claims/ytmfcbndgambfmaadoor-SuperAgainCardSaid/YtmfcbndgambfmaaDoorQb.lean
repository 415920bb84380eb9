/- The program's disk: is there one, is there a sector, a step of the fuse. -/
import Derived.Test.YtmfcbndgambfmaaDoorQa
namespace Go.Proofs.YtmfcbndgambfmaaDoor.Q
open Go.RowKit

section
variable {w : World} {b m : Nat} {L : Value} {D : DataW Value} {X : Nat → Value} {d : RD}
theorem PDisk.form (h : PDisk w b L m D X d) : ∃ g cap cur, L = .slice (some ⟨g, 0, none⟩) d.s.length cap ∧ w.heap[g]? = some (.cells cur 64 (0, 0)) ∧ d.s.length ≤ cap ∧ cap ≤ maxLen ∧ d.s.length * 64 ≤ cur.size ∧ cur.toList.take (d.s.length * 64) = secs (d.s.map (·.headD 0)) := by
  obtain ⟨g, cap, cur, hv, r⟩ := h.last
  rw [List.length_map] at hv r
  exact ⟨g, cap, cur, hv, r⟩
theorem PDisk.c0 (h : PDisk w b L m D X d) : w.cell? ⟨b, 0, none⟩ = some L := by rw [cell_of_row w b 0 _ _ _ h.disk]; rfl
theorem PDisk.c1 (h : PDisk w b L m D X d) : w.cell? ⟨b, 1, none⟩ = some (.map (some m)) := by rw [cell_of_row w b 1 _ _ _ h.disk]; rfl
theorem PDisk.c2 (h : PDisk w b L m D X d) : w.cell? ⟨b, 2, none⟩ = some (.bool (decide (0 ≤ d.fuse))) := by rw [cell_of_row w b 2 _ _ _ h.disk]; rfl
theorem PDisk.c3 (h : PDisk w b L m D X d) : w.cell? ⟨b, 3, none⟩ = some (.int .i64 (leftN d.fuse)) := by rw [cell_of_row w b 3 _ _ _ h.disk]; rfl
theorem PDisk.c4 (h : PDisk w b L m D X d) : w.cell? ⟨b, 4, none⟩ = some (.bool d.dead) := by rw [cell_of_row w b 4 _ _ _ h.disk]; rfl
theorem PDisk.fr (h : PDisk w b L m D X d) (i : Nat) : w.frozen? ⟨b, i, none⟩ = false := Joins.unfrozen_of_block h.disk i
theorem PDisk.lt (h : PDisk w b L m D X d) : b < w.heap.size := (Array.getElem?_eq_some_iff.1 h.disk).1
theorem ptypes : 56 ≠ 64 := by decide
theorem PDisk.b_m (h : PDisk w b L m D X d) : m ≠ b := by
  intro e
  obtain ⟨es, c, hm⟩ := map_kind h.map.own
  rw [e, h.disk] at hm
  cases hm
theorem PDisk.b_row (h : PDisk w b L m D X d) {v : Value} {n : Nat} {xs : List Value} (hv : w.ownsRow 0 64 64 v n xs) : v.ownBlock ≠ some b := by
  intro e
  obtain ⟨cs, hc⟩ := row_kind hv e
  rw [h.disk] at hc
  injection hc with hc
  injection hc with _ hc
  exact ptypes hc
theorem PDisk.b_last (h : PDisk w b L m D X d) : L.ownBlock ≠ some b := by
  intro e
  obtain ⟨cs, hc⟩ := h.last.kind e
  rw [h.disk] at hc
  injection hc with hc
  injection hc with _ hc
  exact ptypes hc
theorem PDisk.m_last (h : PDisk w b L m D X d) : L.ownBlock ≠ some m := by
  intro e
  obtain ⟨cs, hc⟩ := h.last.kind e
  obtain ⟨es, c, hm⟩ := map_kind h.map.own
  rw [hm] at hc
  cases hc
theorem PDisk.m_row (h : PDisk w b L m D X d) {v : Value} {n : Nat} {xs : List Value} (hv : w.ownsRow 0 64 64 v n xs) : v.ownBlock ≠ some m := by
  intro e
  obtain ⟨cs, hc⟩ := row_kind hv e
  obtain ⟨es, c, hm⟩ := map_kind h.map.own
  rw [hm] at hc
  cases hc
/-- a field of the disk is set -/
theorem PDisk.setF (h : PDisk w b L m D X d) (i : Nat) (u : Value) (d' : RD) (hs : d'.s = d.s) (hf : -1 ≤ d'.fuse ∧ d'.fuse ≤ 9223372036854775807) (hc : (diskCells L m d).setIfInBounds i u = diskCells L m d') : PDisk (w.setCell ⟨b, i, none⟩ u) b L m D X d' := by
  have hb : ∀ k, k ≠ b → (w.setCell ⟨b, i, none⟩ u).heap[k]? = w.heap[k]? := fun k hk => Below.heap_setCell _ _ _ _ hk
  refine ⟨by rw [Joins.block_setCell h.disk, hc], ?_, ?_, by rw [hs]; exact h.off, by rw [hs]; exact h.n0, by rw [hs]; exact h.n1, hf⟩
  · rw [hs]; exact h.last.on (fun k hk => hb k (fun e => h.b_last (by rw [hk, e])))
  · rw [hs]; exact h.map.on (hb m h.b_m) (fun j hj k hk => hb k (fun e => h.b_row (h.map.row j hj) (by rw [hk, e])))
end

theorem none_any (w : World) (b m : Nat) (L : Value) (D : DataW Value) (X : Nat → Value) (d : RD) (h : PDisk w b L m D X d) :
    Calls Tryd.prog 19 #[.pointer (some ⟨b, 0, none⟩)] w fun e w' => e = .returned (.bool false) ∧ w = w' := by
  have c0 := h.c0
  obtain ⟨g, cap, cur, rfl, _⟩ := h.form
  have h0 : ((d.s.length : Int) == 0) = false := by have := h.n0; rw [beq_eq_false_iff_ne]; omega
  clear h
  go_enter Tryd.func19, Tryd.ntmps19
  go_wp2
  go_ret
  exact ⟨rfl, rfl⟩
theorem none_nil (w : World) : Calls Tryd.prog 19 #[.pointer none] w fun e w' => e = .returned (.bool true) ∧ w = w' := by
  go_enter Tryd.func19, Tryd.ntmps19
  go_wp2
  go_ret
  exact ⟨rfl, rfl⟩
theorem none_zero (w : World) (b : Nat) (h : w.cell? ⟨b, 0, none⟩ = some (.slice none 0 0)) : Calls Tryd.prog 19 #[.pointer (some ⟨b, 0, none⟩)] w fun e w' => e = .returned (.bool true) ∧ w = w' := by
  go_enter Tryd.func19, Tryd.ntmps19
  go_wp2
  go_ret
  exact ⟨rfl, rfl⟩

def placeE (n : Nat) (i : Int) : Int := if 0 ≤ i ∧ i < (n : Int) then 0 else 2
theorem place_any (w : World) (b m : Nat) (L : Value) (D : DataW Value) (X : Nat → Value) (d : RD) (h : PDisk w b L m D X d) (i : Int) :
    Calls Tryd.prog 37 #[.pointer (some ⟨b, 0, none⟩), .int .i64 i] w fun e w' => e = .returned (.int .i64 (placeE d.s.length i)) ∧ w = w' := by
  have HN := Lib.hid (none_any w b m L D X d h)
  have c0 := h.c0
  obtain ⟨g, cap, cur, rfl, _⟩ := h.form
  clear h
  by_cases h1 : i < 0
  · have e1 : placeE d.s.length i = 2 := by unfold placeE; rw [if_neg (by omega)]
    rw [e1]
    have t1 : decide (i < 0) = true := by simpa using h1
    clear e1
    go_enter Tryd.func37, Tryd.ntmps37
    go_wp2_with (go_at_call 19; refine HN.out.mono ?_; rintro e w' ⟨rfl, rfl⟩)
    go_ret
    exact ⟨rfl, rfl⟩
  · have t1 : decide (i < 0) = false := by simpa using h1
    by_cases h2 : i < (d.s.length : Int)
    · have e1 : placeE d.s.length i = 0 := by unfold placeE; rw [if_pos (by omega)]
      rw [e1]
      have t2 : decide ((d.s.length : Int) ≤ i) = false := by simpa using h2
      clear e1
      go_enter Tryd.func37, Tryd.ntmps37
      go_wp2_with (go_at_call 19; refine HN.out.mono ?_; rintro e w' ⟨rfl, rfl⟩)
      go_ret
      exact ⟨rfl, rfl⟩
    · have e1 : placeE d.s.length i = 2 := by unfold placeE; rw [if_neg (by omega)]
      rw [e1]
      have t2 : decide ((d.s.length : Int) ≤ i) = true := by simp; omega
      clear e1
      go_enter Tryd.func37, Tryd.ntmps37
      go_wp2_with (go_at_call 19; refine HN.out.mono ?_; rintro e w' ⟨rfl, rfl⟩)
      go_ret
      exact ⟨rfl, rfl⟩

theorem sectors_any (w : World) (b m : Nat) (L : Value) (D : DataW Value) (X : Nat → Value) (d : RD) (h : PDisk w b L m D X d) :
    Calls Tryd.prog 14 #[.pointer (some ⟨b, 0, none⟩)] w fun e w' => e = .returned (.int .i64 (d.s.length : Int)) ∧ w = w' := by
  have HN := Lib.hid (none_any w b m L D X d h)
  have c0 := h.c0
  obtain ⟨g, cap, cur, rfl, _⟩ := h.form
  clear h
  go_enter Tryd.func14, Tryd.ntmps14
  go_wp2_with (go_at_call 19; refine HN.out.mono ?_; rintro e w' ⟨rfl, rfl⟩)
  go_ret
  exact ⟨rfl, rfl⟩
def stepE (d : RD) : Int := if movesB d = true then 0 else 10
theorem movesD_fuse (d : RD) (h : -1 ≤ d.fuse ∧ d.fuse ≤ 9223372036854775807) : -1 ≤ (movesD d).fuse ∧ (movesD d).fuse ≤ 9223372036854775807 := by
  unfold movesD
  split
  · exact h
  · split
    · refine ⟨?_, ?_⟩ <;> simp only <;> omega
    · exact h
set_option maxHeartbeats 1000000 in
theorem step_any (w : World) (b m : Nat) (L : Value) (D : DataW Value) (X : Nat → Value) (d : RD) (h : PDisk w b L m D X d) :
    Calls Tryd.prog 31 #[.pointer (some ⟨b, 0, none⟩)] w fun e w' => e = .returned (.int .i64 (stepE d)) ∧ PDisk w' b L m D X (movesD d) ∧ (∀ k, k ≠ b → w'.heap[k]? = w.heap[k]?) ∧ Stays w w' (· = b) := by
  have c2 := h.c2
  have c3 := h.c3
  have c4 := h.c4
  have f3 := h.fr 3
  have f4 := h.fr 4
  have hf := h.fz
  have hset : ∀ i u, (∀ k, k ≠ b → (w.setCell ⟨b, i, none⟩ u).heap[k]? = w.heap[k]?) ∧ Stays w (w.setCell ⟨b, i, none⟩ u) (· = b) := fun i u => ⟨fun k hk => Below.heap_setCell _ _ _ _ hk, (Stays.refl w (· = b)).set ⟨b, i, none⟩ (.inl rfl) u⟩
  have HSET := Lib.hid hset
  clear hset
  by_cases h0 : d.fuse = 0
  · have e1 : stepE d = 10 := by simp [stepE, movesB, h0]
    have e2 : movesD d = { d with dead := true } := by simp [movesD, h0]
    have h3 : PDisk (w.setCell ⟨b, 4, none⟩ (.bool true)) b L m D X (movesD d) := by rw [e2]; exact h.setF 4 _ _ rfl hf rfl
    have H3 := Lib.hid h3
    rw [e1]
    rw [h0] at c2 c3
    have cc2 : w.cell? ⟨b, 2, none⟩ = some (.bool true) := c2
    have cc3 : w.cell? ⟨b, 3, none⟩ = some (.int .i64 0) := c3
    clear c2 c3 h3 e1 e2 h
    go_enter Tryd.func31, Tryd.ntmps31
    go_wp2
    go_ret
    exact ⟨rfl, H3.out, HSET.out _ _⟩
  · cases hd : d.dead with
    | true =>
      have e1 : stepE d = 10 := by simp [stepE, movesB, hd]
      have e2 : movesD d = d := by cases d; simp_all [movesD]
      rw [e1, e2]
      rw [hd] at c4
      have H := Lib.hid h
      clear e1 e2 h hd
      by_cases hp : 0 ≤ d.fuse
      · have t1 : decide (0 ≤ d.fuse) = true := by simpa using hp
        have t2 : (leftN d.fuse == 0) = false := by unfold leftN; rw [if_pos hp]; simpa using h0
        rw [t1] at c2
        generalize leftN d.fuse = lf at *
        clear t1
        go_enter Tryd.func31, Tryd.ntmps31
        go_wp2
        go_ret
        exact ⟨rfl, H.out, fun _ _ => rfl, Stays.refl _ _⟩
      · have t1 : decide (0 ≤ d.fuse) = false := by simpa using hp
        rw [t1] at c2
        clear t1
        go_enter Tryd.func31, Tryd.ntmps31
        go_wp2
        go_ret
        exact ⟨rfl, H.out, fun _ _ => rfl, Stays.refl _ _⟩
    | false =>
      have e1 : stepE d = 0 := by simp [stepE, movesB, hd, h0]
      rw [e1]
      rw [hd] at c4
      by_cases hp : 0 ≤ d.fuse
      · have hlf : leftN d.fuse = d.fuse := by unfold leftN; rw [if_pos hp]
        have e2 : movesD d = { d with fuse := d.fuse - 1 } := by unfold movesD; rw [if_neg (by simp [hd, h0]), if_pos (by omega)]
        have h3 : PDisk (w.setCell ⟨b, 3, none⟩ (.int .i64 (d.fuse - 1))) b L m D X (movesD d) := by
          rw [e2]
          refine h.setF 3 _ _ rfl (by simp only; omega) ?_
          have q1 : decide (0 ≤ d.fuse) = true := by simpa using hp
          have q2 : decide (0 ≤ d.fuse - 1) = true := by simp; omega
          have q3 : leftN (d.fuse - 1) = d.fuse - 1 := by unfold leftN; rw [if_pos (by omega)]
          simp only [diskCells, q1, q2, q3]
          rfl
        have t1 : decide (0 ≤ d.fuse) = true := by simpa using hp
        have t2 : (d.fuse == 0) = false := by simpa using h0
        rw [t1] at c2
        rw [hlf] at c3
        have H3 := Lib.hid h3
        clear t1 e1 e2 h hd h3 hlf
        go_enter Tryd.func31, Tryd.ntmps31
        go_wp2
        go_ret
        exact ⟨rfl, H3.out, HSET.out _ _⟩
      · have e2 : movesD d = d := by unfold movesD; rw [if_neg (by simp [hd, h0]), if_neg (by omega)]
        rw [e2]
        have t1 : decide (0 ≤ d.fuse) = false := by simpa using hp
        rw [t1] at c2
        have H := Lib.hid h
        clear t1 e1 e2 h hd
        go_enter Tryd.func31, Tryd.ntmps31
        go_wp2
        go_ret
        exact ⟨rfl, H.out, fun _ _ => rfl, Stays.refl _ _⟩
end Go.Proofs.YtmfcbndgambfmaaDoor.Q
