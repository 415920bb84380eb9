/- The law's own pages. -/
import Derived.Test.YtojbajbghldoeaaPe
set_option linter.unusedVariables false
namespace Go.Proofs.Ytojbajbghldoeaa
open Go.RowKit

theorem rowS_on {w w' : World} {base n size : Nat} {e : TypeId} {v : Value} {xs : List Value} (h : w.ownsRow base e size v n xs) (hb : ∀ k, v.ownBlock = some k → w'.heap[k]? = w.heap[k]?) : w'.ownsRow base e size v n xs := by
  refine ⟨h.1, ?_⟩
  rcases h.2 with h2 | ⟨g, cap, cur, hv, hg, hh, hr⟩
  · exact .inl h2
  · exact .inr ⟨g, cap, cur, hv, hg, (hb g (by rw [hv]; rfl)).trans hh, hr⟩
/-- a page's block is not the row's -/
theorem not_row {w : World} {base n b : Nat} {e t : TypeId} {v : Value} {xs : List Value} {l : List Nat} (h : w.ownsRow base e 1 v n xs) (hb : Holds16 w b t l) (ht : t ≠ e) : v.ownBlock ≠ some b := by
  intro hv
  rcases h.2 with ⟨rfl, _⟩ | ⟨g, cap, cur, rfl, _, hh, _⟩
  · cases hv
  · injection hv with hv
    have hv' : g = b := hv
    subst hv'
    unfold Holds16 at hb
    rw [hh] at hb
    injection hb with hb
    injection hb with _ hb
    exact ht hb.symm
theorem tPS : 34 ≠ 22 := by decide
/-- the pages told so far, in a row of the law's own -/
structure PG (w wr : World) (v : Value) (ps : List (Addr × List Nat)) : Prop where
  own : wr.ownsRow w.heap.size 22 1 v ps.length (ps.map slV)
  pg : ∀ i (h : i < ps.length), (ps[i]).1 = ⟨(ps[i]).1.block, 0, none⟩ ∧ Holds16 wr (ps[i]).1.block 34 (ps[i]).2 ∧ (ps[i]).2.length = 120 ∧ w.heap.size ≤ (ps[i]).1.block
  nd : ∀ i j (h : i < ps.length) (k : j < ps.length), (ps[i]).1.block = (ps[j]).1.block → i = j
  bel : Below w.heap.size w wr
theorem own_below {w w' : World} {base n : Nat} {e : TypeId} {v : Value} {xs : List Value} (h : w.ownsRow base e 1 v n xs) (hb : Below w.heap.size w w') : w'.ownsRow base e 1 v n xs := rowS_on h fun k hk => hb.block k (h.lt k hk).2
theorem PG.below {w wr w2 : World} {v : Value} {ps : List (Addr × List Nat)} (h : PG w wr v ps) (hb : Below wr.heap.size wr w2) : PG w w2 v ps :=
  ⟨own_below h.own hb, fun i hi => ⟨(h.pg i hi).1, (h.pg i hi).2.1.below hb, (h.pg i hi).2.2⟩, h.nd, h.bel.trans (hb.mono h.bel.size)⟩
theorem PG.start (w : World) : PG w w (.slice none 0 0) [] := ⟨⟨rfl, .inl ⟨rfl, rfl⟩⟩, fun i hi => absurd hi (by simp), fun i j hi => absurd hi (by simp), Below.refl _ _⟩
theorem PG.begin_ {w wr : World} (hb : Below w.heap.size w wr) : PG w wr (.slice none 0 0) [] := ⟨⟨rfl, .inl ⟨rfl, rfl⟩⟩, fun i hi => absurd hi (by simp), fun i j hi => absurd hi (by simp), hb⟩
/-- one more -/
theorem PG.app {w wr w1 w2 : World} {v v2 : Value} {ps : List (Addr × List Nat)} {L : List Nat} (h : PG w wr v ps) (hL : Holds16 w1 wr.heap.size 34 L) (hl : L.length = 120) (hb : Below wr.heap.size wr w1) (o : Obj)
    (ho : w2.ownsRow w.heap.size 22 1 v2 (ps.length + 1) (ps.map slV ++ [.slice (some ⟨wr.heap.size, 0, none⟩) 120 120])) (hg : Grew (w1.alloc o) w2 v v2) : PG w w2 v2 (ps ++ [(⟨wr.heap.size, 0, none⟩, L)]) := by
  have h1 := (h.below hb).below ((Below.refl _ _).alloc (Nat.le_refl _) o)
  have hL1 := hL.alloc o
  have hs := h.bel.size
  have keep : ∀ k l, Holds16 (w1.alloc o) k 34 l → Holds16 w2 k 34 l := fun k l hk => (hg.by_.block k hk.lt (fun e => not_row h1.own hk tPS e.symm)).trans hk
  have hlt : ∀ i (hi : i < ps.length), (ps[i]).1.block < wr.heap.size := fun i hi => (h.pg i hi).2.1.lt
  refine ⟨?_, ?_, ?_, ?_⟩
  · rw [List.length_append, List.map_append]
    exact ho
  · intro i hi
    rcases Nat.lt_or_ge i ps.length with h2 | h2
    · rw [List.getElem_append_left h2]
      exact ⟨(h1.pg i h2).1, keep _ _ (h1.pg i h2).2.1, (h1.pg i h2).2.2⟩
    · obtain rfl : i = ps.length := by simp at hi; omega
      rw [List.getElem_append_right (Nat.le_refl _)]
      simp only [Nat.sub_self, List.getElem_cons_zero]
      exact ⟨by first | rfl | trivial, keep _ _ hL1, hl, hs⟩
  · intro i j hi hj e
    rcases Nat.lt_or_ge i ps.length with h2 | h2
    · rcases Nat.lt_or_ge j ps.length with h3 | h3
      · rw [List.getElem_append_left h2, List.getElem_append_left h3] at e
        exact h.nd i j h2 h3 e
      · obtain rfl : j = ps.length := by simp at hj; omega
        rw [List.getElem_append_left h2, List.getElem_append_right (Nat.le_refl _)] at e
        simp only [Nat.sub_self, List.getElem_cons_zero] at e
        have := hlt i h2
        omega
    · obtain rfl : i = ps.length := by simp at hi; omega
      rcases Nat.lt_or_ge j ps.length with h3 | h3
      · rw [List.getElem_append_left h3, List.getElem_append_right (Nat.le_refl _)] at e
        simp only [Nat.sub_self, List.getElem_cons_zero] at e
        have := hlt j h3
        omega
      · simp at hj; omega
  · exact h1.bel.trans (hg.below_from (B := w.heap.size) (by have := h1.bel.size; omega) (fun k hk => (h1.own.lt k hk).1))
theorem PG.shows {w wr : World} {A : Option Addr} {c : Nat} {ps : List (Addr × List Nat)} (h : PG w wr (.slice A ps.length c) ps) : Shows wr wr.heap.size A ps.length (ps.map slV) := Shows.owned h.own
theorem PG.h120 {w wr : World} {v : Value} {ps : List (Addr × List Nat)} (h : PG w wr v ps) : ∀ p ∈ ps, p.2.length = 120 := fun p hp => by
  obtain ⟨i, hi, rfl⟩ := List.getElem_of_mem hp
  exact (h.pg i hi).2.2.1
theorem PG.told {w wr : World} {v : Value} {ps : List (Addr × List Nat)} (h : PG w wr v ps) : ∀ p ∈ ps, Shows wr wr.heap.size (some p.1) 120 (nums16 p.2) := fun p hp => by
  obtain ⟨i, hi, rfl⟩ := List.getElem_of_mem hp
  obtain ⟨h1, h2, h3, _⟩ := h.pg i hi
  have := h2.shows
  rw [h3] at this
  rw [h1]
  exact this
theorem PG.join {w wr : World} {A : Option Addr} {c n : Nat} {ps : List (Addr × List Nat)} (h : PG w wr (.slice A ps.length c) ps) (h1 : 1 ≤ n) (h2 : n ≤ 1000) (hm : ps.length = pagesN n) :
    Calls Try.prog 10 #[.int .i64 (n : Int), .slice A ps.length c] wr (JoinAs wr n (anyN ((flatP ps).drop n)) (flatP ps)) := join_any wr n A c ps h1 h2 hm h.shows h.h120 h.told
theorem PG.at2 {w wr : World} {A : Option Addr} {c : Nat} {ps : List (Addr × List Nat)} (h : PG w wr (.slice A ps.length c) ps) (i : Nat) (hi : i < ps.length) :
    ∃ (p : Addr) (b : Nat), A = some p ∧ (ps[i]).1 = ⟨b, 0, none⟩ ∧ wr.cell? (p.add i) = some (.slice (some ⟨b, 0, none⟩) 120 120) ∧ Holds16 wr b 34 (ps[i]).2 ∧ (ps[i]).2.length = 120 := by
  obtain ⟨p, u, hA, _, hu, hc⟩ := h.shows.cell hi
  rw [List.getElem?_map, List.getElem?_eq_getElem hi] at hu
  injection hu with hu
  obtain ⟨h1, h2, h3, _⟩ := h.pg i hi
  refine ⟨p, (ps[i]).1.block, hA, h1, ?_, h2, h3⟩
  rw [hc, ← hu, slV, ← h1]
/-- a count of a page is another -/
theorem PG.set {w wr : World} {v : Value} {ps : List (Addr × List Nat)} (h : PG w wr v ps) (i : Nat) (hi : i < ps.length) (b j x : Nat) (hb : (ps[i]).1 = ⟨b, 0, none⟩) :
    PG w (wr.setCell ⟨b, j, none⟩ (.int .u16 (x : Int))) v (ps.set i (⟨b, 0, none⟩, (ps[i]).2.set j x)) := by
  have hbb : (ps[i]).1.block = b := by rw [hb]
  have h0 := h.pg i hi
  rw [hbb] at h0
  have hn := not_row h.own h0.2.1 tPS
  have hm : (ps.set i (⟨b, 0, none⟩, (ps[i]).2.set j x)).map slV = ps.map slV := by
    rw [List.map_set]
    have : slV (⟨b, 0, none⟩, (ps[i]).2.set j x) = (ps.map slV)[i]'(by simpa using hi) := by rw [List.getElem_map, slV, slV, hb]
    rw [this, List.set_getElem_self]
  have hbk : ∀ k (hk : k < ps.length), ((ps.set i (⟨b, 0, none⟩, (ps[i]).2.set j x))[k]'(by simpa using hk)).1.block = (ps[k]).1.block := fun k hk => by
    rw [List.getElem_set]
    split
    · rename_i e; subst e; exact hbb.symm
    · rfl
  refine ⟨?_, ?_, ?_, h.bel.setCell h0.2.2.2 _⟩
  · rw [List.length_set, hm]
    exact rowS_on h.own fun k hk => Below.heap_setCell _ _ _ _ (fun e => hn (by rw [hk, e]))
  · intro k hk
    have hk' : k < ps.length := by simpa using hk
    rw [List.getElem_set]
    split
    · exact ⟨rfl, h0.2.1.set j x, by rw [List.length_set]; exact h0.2.2.1, h0.2.2.2⟩
    · rename_i hne
      obtain ⟨g1, g2, g3, g4⟩ := h.pg k hk'
      refine ⟨g1, g2.other (fun e => hne ?_) _, g3, g4⟩
      exact (h.nd k i hk' hi (by rw [hbb]; exact e)).symm
  · intro k m hk hm' e
    have hk' : k < ps.length := by simpa using hk
    have hm2 : m < ps.length := by simpa using hm'
    rw [hbk k hk', hbk m hm2] at e
    exact h.nd k m hk' hm2 e
theorem flatP_set (ps : List (Addr × List Nat)) (h : ∀ p ∈ ps, p.2.length = 120) (i j x : Nat) (a : Addr) (hi : i < ps.length) (hj : j < 120) : flatP (ps.set i (a, (ps[i]).2.set j x)) = (flatP ps).set (i * 120 + j) x := by
  unfold flatP
  have e : (ps.set i (a, (ps[i]).2.set j x)).map (·.2) = (ps.map (·.2)).set i (((ps.map (·.2)).getD i []).set j x) := by
    rw [List.map_set]
    congr 2
    simp [List.getD, hi]
  rw [e, flat_set _ i j x (fun q hq => by obtain ⟨p, hp, rfl⟩ := List.mem_map.1 hq; exact h p hp) (by simpa using hi) hj]
/-- all of an area's -/
theorem flat_all (l : List Nat) (ps : List (Addr × List Nat)) (h : ps.map (·.2) = pagesL l (pagesN l.length)) : flatP ps = l ++ List.replicate (pagesN l.length * 120 - l.length) 0 := by
  rw [flatP, h, pagesL_flat, rowL_all l _ (pages_cover _)]
end Go.Proofs.Ytojbajbghldoeaa
