/- SuperAgain: what torn saves leave (Wa, Wb), Torn (Wc), the call's disk and its row (Wd), the calls one by one (Wg), the scene (Wh): one text (a claim has at most 60 files). -/
import Derived.Test.YtmfcbndgambfmaaDoorTg
import Derived.Test.YtmfcbndgambfmaaDoorTh
import Derived.Laws.BytesString
import Derived.Laws.IdiomStrings
section
/- What a torn save leaves of a slot. -/
set_option linter.unusedVariables false
namespace Go.Proofs.YtmfcbndgambfmaaDoor.Q
open Go.RowKit

/-- each version that a sector has is such -/
def Vers (d : RD) (P : Nat → SB → Prop) : Prop := ∀ i, i < d.s.length → d.s.getD i [] ≠ [] ∧ ∀ v ∈ d.s.getD i [], P i v
def Settled (d : RD) : Prop := ∀ i, i < d.s.length → ∃ c, d.s.getD i [] = [c]
theorem getLastD_mem {l : List SB} (h : l ≠ []) : l.getLastD 0 ∈ l := by
  rw [List.getLastD_eq_getLast?, List.getLast?_eq_some_getLast h]
  exact List.getLast_mem h
theorem Vers.last {d : RD} {P : Nat → SB → Prop} (h : Vers d P) (i : Nat) (hi : i < d.s.length) : P i (lastD d i) := (h i hi).2 _ (getLastD_mem (h i hi).1)
theorem Vers.mono {d : RD} {P P' : Nat → SB → Prop} (h : Vers d P) (hp : ∀ i v, P i v → P' i v) : Vers d P' := fun i hi => ⟨(h i hi).1, fun v hv => hp i v ((h i hi).2 v hv)⟩
theorem Settled.vers {d : RD} (h : Settled d) : Vers d (fun i v => v = lastD d i) := fun i hi => by
  obtain ⟨c, hc⟩ := h i hi
  refine ⟨by rw [hc]; simp, fun v hv => ?_⟩
  unfold lastD
  rw [hc] at hv ⊢
  simpa using hv
theorem Vers.moves {d : RD} {P : Nat → SB → Prop} (h : Vers d P) : Vers (movesD d) P := fun i hi => by rw [movesD_s] at hi ⊢; exact h i hi
theorem Vers.write {d : RD} {P : Nat → SB → Prop} (h : Vers d P) (n : Nat) (c : SB) (hp : P n c) : Vers (writeD d n c) P := fun i hi => by
  have hi' : i < d.s.length := by simpa [writeD] using hi
  show (d.s.set n (d.s.getD n [] ++ [c])).getD i [] ≠ [] ∧ ∀ v ∈ (d.s.set n (d.s.getD n [] ++ [c])).getD i [], P i v
  by_cases e : i = n
  · subst e
    rw [show (d.s.set i (d.s.getD i [] ++ [c])).getD i [] = d.s.getD i [] ++ [c] by rw [List.getD_eq_getElem?_getD, List.getElem?_set_self hi']; rfl]
    refine ⟨by simp, fun v hv => ?_⟩
    rcases List.mem_append.1 hv with hv | hv
    · exact (h i hi').2 v hv
    · rw [List.mem_singleton.1 hv]; exact hp
  · rw [show (d.s.set n (d.s.getD n [] ++ [c])).getD i [] = d.s.getD i [] by rw [List.getD_eq_getElem?_getD, List.getElem?_set_ne (fun x => e x.symm), ← List.getD_eq_getElem?_getD]]
    exact h i hi'
theorem Vers.wr {d : RD} {P : Nat → SB → Prop} (h : Vers d P) (n : Nat) (c : SB) (hp : P n c) : Vers (wrD d (n : Int) c) P := by
  unfold wrD
  split
  · split
    · exact h.moves.write n c hp
    · exact h.moves
  · exact h
theorem flushD_get (d : RD) (i : Nat) (hi : i < d.s.length) : (flushD d).s.getD i [] = [lastD d i] := by
  unfold flushD lastD
  rw [List.getD_eq_getElem?_getD, List.getElem?_map, List.getD_eq_getElem?_getD, List.getElem?_eq_getElem hi]
  rfl
theorem Vers.fl {d : RD} {P : Nat → SB → Prop} (h : Vers d P) : Vers (flD d) P := by
  unfold flD
  split
  · intro i hi
    have hi' : i < (movesD d).s.length := by simpa [flushD] using hi
    rw [flushD_get _ i hi']
    exact ⟨by simp, fun v hv => by rw [List.mem_singleton.1 hv]; exact h.moves.last i hi'⟩
  · exact h.moves
theorem Vers.wrK {d : RD} {P : Nat → SB → Prop} (h : Vers d P) (k : Nat) (l : List UInt8) : ∀ (n i : Nat), (∀ j, i ≤ j → j < i + n → P (k * 4 + j) (partS l j)) → Vers (Q.wrK d k l n i).2 P := by
  intro n
  induction n generalizing d with
  | zero => intro i _; exact h
  | succ n ih =>
    intro i hp
    rw [Q.wrK]
    split
    · have e : ((k : Int) * 4 + (i : Int)) = ((k * 4 + i : Nat) : Int) := by push_cast; rfl
      rw [e]
      exact ih (h.wr _ _ (hp i (Nat.le_refl _) (by omega))) (i + 1) (fun j h1 h2 => hp j (by omega) (by omega))
    · exact h.moves
theorem crash_mem (s : List (List SB)) (l : List Nat) (picks : List Int) : ∀ j, (∀ i, i < s.length → s.getD i [] ≠ []) → ∀ i, i < s.length → (crashS s l picks j).getD i [] ≠ [] ∧ ∀ v ∈ (crashS s l picks j).getD i [], v ∈ s.getD i [] := by
  intro j hs
  induction j with
  | zero => intro i hi; exact ⟨hs i hi, fun v hv => hv⟩
  | succ j ih =>
    intro i hi
    simp only [crashS]
    by_cases e : i = l.getD j 0
    · obtain ⟨h1, h2⟩ := ih i hi
      rw [← e]
      rw [show ((crashS s l picks j).set i [((crashS s l picks j).getD i []).getD (pickN picks j ((crashS s l picks j).getD i []).length) 0]).getD i [] = [((crashS s l picks j).getD i []).getD (pickN picks j ((crashS s l picks j).getD i []).length) 0] by
        rw [List.getD_eq_getElem?_getD, List.getElem?_set_self (by rw [crashS_len]; exact hi)]; rfl]
      refine ⟨by simp, fun v hv => ?_⟩
      rw [List.mem_singleton.1 hv]
      have hl : 0 < ((crashS s l picks j).getD i []).length := List.length_pos_iff.2 h1
      have := pickN_lt picks j _ hl
      rw [getB_get _ _ this]
      exact h2 _ (List.getElem_mem _)
    · rw [show ∀ x, ((crashS s l picks j).set (l.getD j 0) x).getD i [] = (crashS s l picks j).getD i [] from fun x => by rw [List.getD_eq_getElem?_getD, List.getElem?_set_ne (fun x => e x.symm), ← List.getD_eq_getElem?_getD]]
      exact ih i hi
theorem Vers.crash {d : RD} {P : Nat → SB → Prop} (h : Vers d P) (picks : List Int) : Vers (crashD d picks) P ∧ Settled (crashD d picks) ∧ Live (crashD d picks) ∧ (crashD d picks).s.length = d.s.length := by
  have hl : (crashD d picks).s.length = d.s.length := crashS_len _ _ _ _
  have h1 : Vers (crashD d picks) P := fun i hi => by
    rw [hl] at hi
    obtain ⟨a1, a2⟩ := crash_mem d.s (openL d) picks (openL d).length (fun i hi => (h i hi).1) i hi
    exact ⟨a1, fun v hv => (h i hi).2 v (a2 v hv)⟩
  refine ⟨h1, fun i hi => ?_, ⟨by show (-1 : Int) < 0; omega, rfl⟩, hl⟩
  rw [hl] at hi
  have hn : (openL d).Nodup := (openL_lts d).imp (fun h => Nat.ne_of_lt h)
  obtain ⟨ha, hb⟩ := crash_rel d.s (openL d) picks hn (openL_lt d) _ (Nat.le_refl _) i hi
  rw [List.take_length] at ha hb
  by_cases hm : i ∈ openL d
  · obtain ⟨c, e1, _⟩ := ha hm
    exact ⟨c, e1⟩
  · obtain ⟨e1, _⟩ := hb hm
    have h3 : ¬ 1 < (d.s.getD i []).length := fun h4 => hm ((openL_mem d i).2 ⟨hi, by rw [getD_get _ i hi] at h4; exact h4⟩)
    have h4 : 0 < (d.s.getD i []).length := List.length_pos_iff.2 (h i hi).1
    obtain ⟨x, hx⟩ := List.length_eq_one_iff.1 (show (d.s.getD i []).length = 1 by omega)
    exact ⟨x, e1.trans hx⟩
theorem Live.settled {d : RD} (h : Live d) : Settled (flD d) := by
  have e : flD d = flushD d := by unfold flD; rw [if_pos h.moves.1, h.moves.2]
  rw [e]
  intro i hi
  exact ⟨_, flushD_get d i (by simpa [flushD] using hi)⟩
theorem newD_settled (n : Nat) : Settled (newD n) := fun i hi => ⟨0, by
  have : i < n := by simpa [newD] using hi
  show (List.replicate n [(0 : SB)]).getD i [] = [0]
  rw [List.getD_eq_getElem?_getD, List.getElem?_replicate, if_pos this]
  rfl⟩
/-- what a save, wherever the power goes, leaves of a slot -/
def TornS (d : RD) (k : Nat) (l : List UInt8) (c : RD) : Prop :=
  (wipeB d k = true ∧ ∀ i, i < 4 → lastD c (k * 4 + i) = lastD d (k * 4 + i) ∨ lastD c (k * 4 + i) = partS l i) ∨
  (wipeB d k = false ∧ (lastD c (k * 4) = lastD d (k * 4) ∨ lastD c (k * 4) = 0) ∧ ∀ i, 1 ≤ i → i < 4 → lastD c (k * 4 + i) = lastD d (k * 4 + i)) ∨
  (wipeB d k = false ∧ (lastD c (k * 4) = 0 ∨ lastD c (k * 4) = partS l 0) ∧ ∀ i, 1 ≤ i → i < 4 → lastD c (k * 4 + i) = lastD d (k * 4 + i) ∨ lastD c (k * 4 + i) = partS l i)
def apart (k i : Nat) : Prop := i < k * 4 ∨ k * 4 + 4 ≤ i
theorem save_cases (d : RD) (s : SU) : (saveK d s).2 = d ∨ (saveK d s).2 = (wipeK d (s.tx % 2)).2 ∨ ((wipeK d (s.tx % 2)).1 = 0 ∧ ((saveK d s).2 = (wrK (wipeK d (s.tx % 2)).2 (s.tx % 2) s.img 4 0).2 ∨ (saveK d s).2 = flD (wrK (wipeK d (s.tx % 2)).2 (s.tx % 2) s.img 4 0).2)) := by
  unfold saveK
  split
  · split
    · next h =>
      split
      · exact .inr (.inr ⟨h, .inr rfl⟩)
      · exact .inr (.inr ⟨h, .inl rfl⟩)
    · exact .inr (.inl rfl)
  · exact .inl rfl
theorem torn_save {d : RD} (hs : Settled d) (f : Int) (s : SU) (h8 : 8 ≤ d.s.length) (picks : List Int) {k : Nat} (hk : s.tx % 2 = k) :
    Settled (crashD (saveK (fuseD d f) s).2 picks) ∧ Live (crashD (saveK (fuseD d f) s).2 picks) ∧ (crashD (saveK (fuseD d f) s).2 picks).s.length = d.s.length ∧
    (∀ i, i < d.s.length → apart k i → lastD (crashD (saveK (fuseD d f) s).2 picks) i = lastD d i) ∧ TornS d k s.img (crashD (saveK (fuseD d f) s).2 picks) := by
  have hk2 : k < 2 := by omega
  have hv : Vers (fuseD d f) (fun i v => v = lastD d i) := hs.vers
  have hlast : ∀ i, lastD (fuseD d f) i = lastD d i := fun i => rfl
  have hwb : wipeB (fuseD d f) k = wipeB d k := by
    rw [wipeB, wipeB, blkAt_last _ _ (show k * 4 + 4 ≤ (fuseD d f).s.length by show k * 4 + 4 ≤ d.s.length; omega), blkAt_last _ _ (show k * 4 + 4 ≤ d.s.length by omega), hlast, hlast, hlast, hlast]
  have hc := save_cases (fuseD d f) s
  rw [hk] at hc
  have hlen : (saveK (fuseD d f) s).2.s.length = d.s.length := by
    rcases hc with h | h | ⟨_, h | h⟩
    · rw [h]; rfl
    · rw [h, wipeK_len]; rfl
    · rw [h, wrK_len, wipeK_len]; rfl
    · rw [h, flD_len, wrK_len, wipeK_len]; rfl
  obtain ⟨r, hr⟩ : ∃ r, (saveK (fuseD d f) s).2 = r := ⟨_, rfl⟩
  rw [hr] at hc hlen ⊢
  have fin : ∀ P : Nat → SB → Prop, Vers r P → (∀ i v, i < d.s.length → apart k i → P i v → v = lastD d i) →
      (∀ c : RD, c.s.length = d.s.length → (∀ i, i < d.s.length → P i (lastD c i)) → TornS d k s.img c) →
      Settled (crashD r picks) ∧ Live (crashD r picks) ∧ (crashD r picks).s.length = d.s.length ∧
      (∀ i, i < d.s.length → apart k i → lastD (crashD r picks) i = lastD d i) ∧ TornS d k s.img (crashD r picks) := fun P hP h1 h2 => by
    obtain ⟨c1, c2, c3, c4⟩ := hP.crash picks
    rw [hlen] at c4
    have c5 : ∀ i, i < d.s.length → P i (lastD (crashD r picks) i) := fun i hi => c1.last i (by rw [c4]; exact hi)
    exact ⟨c2, c3, c4, fun i hi ha => h1 i _ hi ha (c5 i hi), h2 _ c4 c5⟩
  by_cases hw : wipeB d k = true
  · -- no wipe
    have ew : wipeK (fuseD d f) k = (0, fuseD d f) := by unfold wipeK; rw [if_pos (by rw [hwb]; exact hw)]
    rw [ew] at hc
    refine fin (fun i v => v = lastD d i ∨ ∃ j, j < 4 ∧ i = k * 4 + j ∧ v = partS s.img j) ?_ ?_ ?_
    · have h0 : Vers (fuseD d f) (fun i v => v = lastD d i ∨ ∃ j, j < 4 ∧ i = k * 4 + j ∧ v = partS s.img j) := hv.mono (fun i v h => .inl h)
      have h1 := h0.wrK k s.img 4 0 (fun j _ hj => .inr ⟨j, by omega, rfl, rfl⟩)
      rcases hc with h | h | ⟨_, h | h⟩
      · rw [h]; exact h0
      · rw [h]; exact h0
      · rw [h]; exact h1
      · rw [h]; exact h1.fl
    · rintro i v hi ha (h | ⟨j, hj, he, _⟩)
      · exact h
      · exfalso; rcases ha with ha | ha <;> omega
    · intro c hcl hP
      refine .inl ⟨hw, fun i hi => ?_⟩
      rcases hP (k * 4 + i) (by omega) with h | ⟨j, hj, he, h⟩
      · exact .inl h
      · obtain rfl : j = i := by omega
        exact .inr h
  · have hw' : wipeB d k = false := by simpa using hw
    have e4 : ((k : Int) * 4) = ((k * 4 : Nat) : Int) := by push_cast; rfl
    have ew : wipeK (fuseD d f) k = if movesB (fuseD d f) = true then (flR (wrD (fuseD d f) ((k * 4 : Nat) : Int) 0), flD (wrD (fuseD d f) ((k * 4 : Nat) : Int) 0)) else (10, movesD (fuseD d f)) := by
      unfold wipeK; rw [if_neg (by rw [hwb]; exact hw), e4]
    obtain ⟨d', hd'⟩ : ∃ d', wrD (fuseD d f) ((k * 4 : Nat) : Int) 0 = d' := ⟨_, rfl⟩
    have v1 : Vers d' (fun i v => v = lastD d i ∨ (i = k * 4 ∧ v = 0)) := by rw [← hd']; exact (hv.mono (fun i v h => .inl h)).wr _ _ (.inr ⟨rfl, rfl⟩)
    rw [hd'] at ew
    have early : Vers r (fun i v => v = lastD d i ∨ (i = k * 4 ∧ v = 0)) → Settled (crashD r picks) ∧ Live (crashD r picks) ∧ (crashD r picks).s.length = d.s.length ∧
      (∀ i, i < d.s.length → apart k i → lastD (crashD r picks) i = lastD d i) ∧ TornS d k s.img (crashD r picks) := fun hP => by
      refine fin _ hP ?_ ?_
      · rintro i v hi ha (h | ⟨he, _⟩)
        · exact h
        · exfalso; rcases ha with ha | ha <;> omega
      · intro c hcl h
        refine .inr (.inl ⟨hw', ?_, fun i h1 h2 => ?_⟩)
        · rcases h (k * 4) (by omega) with h | ⟨_, h⟩
          · exact .inl h
          · exact .inr h
        · rcases h (k * 4 + i) (by omega) with h | ⟨he, _⟩
          · exact h
          · omega
    have wv : Vers (wipeK (fuseD d f) k).2 (fun i v => v = lastD d i ∨ (i = k * 4 ∧ v = 0)) := by
      rw [ew]
      split
      · exact v1.fl
      · exact (hv.mono (fun i v h => .inl h)).moves
    by_cases hz : (wipeK (fuseD d f) k).1 = 0
    · -- wiped
      have hm1 : movesB (fuseD d f) = true := by
        by_cases hm : movesB (fuseD d f) = true
        · exact hm
        · rw [ew, if_neg hm] at hz; exact absurd (show (10 : Int) = 0 from hz) (by decide)
      rw [ew, if_pos hm1] at hz
      have hm2 : movesB d' = true := by
        by_cases hm : movesB d' = true
        · exact hm
        · have : flR d' = 10 := if_neg hm
          rw [this] at hz; exact absurd (show (10 : Int) = 0 from hz) (by decide)
      have hdl : d'.s.length = d.s.length := by rw [← hd', wrD_len]; rfl
      have e0 : lastD d' (k * 4) = 0 := by
        rw [← hd']
        have e : wrD (fuseD d f) ((k * 4 : Nat) : Int) 0 = writeD (movesD (fuseD d f)) (k * 4) 0 := by
          unfold wrD
          rw [if_pos ⟨by omega, by show ((k * 4 : Nat) : Int) < (d.s.length : Int); omega⟩, if_pos hm1]
          rfl
        rw [e]
        unfold writeD lastD
        simp only [movesD_s]
        rw [show ((fuseD d f).s.set (k * 4) ((fuseD d f).s.getD (k * 4) [] ++ [0])).getD (k * 4) [] = (fuseD d f).s.getD (k * 4) [] ++ [0] by
          rw [List.getD_eq_getElem?_getD, List.getElem?_set_self (show k * 4 < (fuseD d f).s.length by show k * 4 < d.s.length; omega)]; rfl]
        simp
      have wd : (wipeK (fuseD d f) k).2 = flushD (movesD d') := by
        rw [ew, if_pos hm1]
        show flD d' = _
        unfold flD
        rw [if_pos hm2]
      have w2 : Vers (wipeK (fuseD d f) k).2 (fun i v => (i = k * 4 ∧ v = 0) ∨ (i ≠ k * 4 ∧ v = lastD d i)) := by
        rw [wd]
        intro i hi
        have hi' : i < (movesD d').s.length := by simpa [flushD] using hi
        rw [flushD_get _ i hi']
        refine ⟨by simp, fun v hv => ?_⟩
        rw [List.mem_singleton.1 hv]
        have el : lastD (movesD d') i = lastD d' i := by unfold lastD; rw [movesD_s]
        rw [el]
        by_cases e : i = k * 4
        · exact .inl ⟨e, by rw [e]; exact e0⟩
        · refine .inr ⟨e, ?_⟩
          rcases v1.last i (by rw [movesD_s] at hi'; exact hi') with h | ⟨h, _⟩
          · exact h
          · exact absurd h e
      have h0 := w2.mono (P' := fun i v => (i = k * 4 ∧ (v = 0 ∨ v = partS s.img 0)) ∨ (i ≠ k * 4 ∧ (v = lastD d i ∨ ∃ j, j < 4 ∧ i = k * 4 + j ∧ v = partS s.img j))) (fun i v h => h.imp (fun h => ⟨h.1, .inl h.2⟩) (fun h => ⟨h.1, .inl h.2⟩))
      have h1 := h0.wrK k s.img 4 0 (fun j _ hj => by
        by_cases e : j = 0
        · subst e; exact .inl ⟨rfl, .inr rfl⟩
        · exact .inr ⟨by omega, .inr ⟨j, by omega, rfl, rfl⟩⟩)
      rcases hc with h | h | ⟨_, h | h⟩
      · refine early ?_
        rw [h]; exact hv.mono (fun i v h => .inl h)
      · refine early ?_
        rw [h]; exact wv
      all_goals
        refine fin (fun i v => (i = k * 4 ∧ (v = 0 ∨ v = partS s.img 0)) ∨ (i ≠ k * 4 ∧ (v = lastD d i ∨ ∃ j, j < 4 ∧ i = k * 4 + j ∧ v = partS s.img j))) (by rw [h]; first | exact h1 | exact h1.fl) ?_ ?_
        · rintro i v hi ha (⟨he, _⟩ | ⟨_, h | ⟨j, hj, he, _⟩⟩)
          · exfalso; rcases ha with ha | ha <;> omega
          · exact h
          · exfalso; rcases ha with ha | ha <;> omega
        · intro c hcl hP
          refine .inr (.inr ⟨hw', ?_, fun i h1 h2 => ?_⟩)
          · rcases hP (k * 4) (by omega) with ⟨_, h⟩ | ⟨h, _⟩
            · exact h
            · exact absurd rfl h
          · rcases hP (k * 4 + i) (by omega) with ⟨he, _⟩ | ⟨_, h | ⟨j, hj, he, h⟩⟩
            · omega
            · exact .inl h
            · obtain rfl : j = i := by omega
              exact .inr h
    · refine early ?_
      rcases hc with h | h | ⟨h0, _⟩
      · rw [h]; exact hv.mono (fun i v h => .inl h)
      · rw [h]; exact wv
      · exact absurd h0 hz
end Go.Proofs.YtmfcbndgambfmaaDoor.Q
end

section
/- What counts behind two torn saves: SuperAgain, without a program. -/
set_option linter.unusedVariables false
namespace Go.Proofs.YtmfcbndgambfmaaDoor.Q
open Go.RowKit

theorem parts_of (a b c e : SB) : partS (a.1 ++ b.1 ++ c.1 ++ e.1) 0 = a ∧ partS (a.1 ++ b.1 ++ c.1 ++ e.1) 1 = b ∧ partS (a.1 ++ b.1 ++ c.1 ++ e.1) 2 = c ∧ partS (a.1 ++ b.1 ++ c.1 ++ e.1) 3 = e := by
  have ha := a.2
  have hb := b.2
  have hc := c.2
  have he := e.2
  have hl : (a.1 ++ b.1 ++ c.1 ++ e.1).length = 256 := by simp [ha, hb, hc, he]
  refine ⟨Subtype.ext ?_, Subtype.ext ?_, Subtype.ext ?_, Subtype.ext ?_⟩
  · rw [partS_eq _ hl _ (by omega), part]
    simp [List.drop_append, ha, hb, hc]
  · rw [partS_eq _ hl _ (by omega), part]
    simp [ha, hb]
  · rw [partS_eq _ hl _ (by omega), part]
    simp [List.drop_append, List.take_append, ha, hb, hc]
  · rw [partS_eq _ hl _ (by omega), part]
    simp [List.drop_append, List.take_append, ha, hb, hc]
    rw [List.drop_eq_nil_of_le (show a.1.length ≤ 192 by omega), List.drop_eq_nil_of_le (show b.1.length ≤ 128 by omega), List.take_of_length_le (show e.1.length ≤ 64 by omega)]
    rfl
theorem blkS_tx (l : List UInt8) : (blkS l).tx = numAt l 0 := rfl
theorem blkS_tp (l : List UInt8) : (blkS l).tp = numAt l 9 := rfl
theorem partS_blk (d : RD) (k : Nat) (hk : k * 4 + 4 ≤ d.s.length) (i : Nat) (hi : i < 4) : partS (blkAt d k) i = lastD d (k * 4 + i) := by
  rw [blkAt_last d k hk]
  obtain ⟨h0, h1, h2, h3⟩ := parts_of (lastD d (k * 4)) (lastD d (k * 4 + 1)) (lastD d (k * 4 + 2)) (lastD d (k * 4 + 3))
  rcases i with _ | _ | _ | _ | i
  · exact h0
  · exact h1
  · exact h2
  · exact h3
  · omega
theorem parts_ext {l m : List UInt8} (hl : l.length = 256) (hm : m.length = 256) (h : ∀ i, i < 4 → partS l i = partS m i) : l = m := by
  rw [← parts_all l hl, ← parts_all m hm, h 0 (by omega), h 1 (by omega), h 2 (by omega), h 3 (by omega)]
theorem take_part {l : List UInt8} (hl : l.length = 256) : (partS l 0).1 = l.take 64 := by
  rw [partS_eq l hl 0 (by omega), part]
  simp
theorem numAt_sec {l m : List UInt8} (hl : l.length = 256) (hm : m.length = 256) (h : partS l 0 = partS m 0) (j : Nat) (hj : 8 + offTo j + widL.getD j 0 ≤ 64) : numAt l j = numAt m j := by
  have e : l.take 64 = m.take 64 := by rw [← take_part hl, ← take_part hm, h]
  have g : ∀ x : List UInt8, (x.drop (8 + offTo j)).take (widL.getD j 0) = ((x.take 64).drop (8 + offTo j)).take (widL.getD j 0) := fun x => by
    rw [List.drop_take, List.take_take]
    congr 1
    omega
  unfold numAt
  rw [g l, g m, e]
theorem of_sec0 {l : List UInt8} (hl : l.length = 256) (h : superOfB l = true) : partS l 0 ≠ 0 := by
  intro e
  have e1 : l.take 64 = (0 : SB).1 := by rw [← take_part hl, e]
  have e2 : (l.take 64)[4]? = some 0 := by rw [e1]; rfl
  rw [List.getElem?_take_of_lt (by omega)] at e2
  have e3 := (ofB_img h).2
  rw [← e3] at e2
  unfold SU.img imgS bodyS at e2
  rw [List.getElem?_append_right (by simp [leN_length])] at e2
  simp [leN_length] at e2
theorem Live.save_settled {d : RD} (h : Live d) (h8 : 8 ≤ d.s.length) (s : SU) (hm : s.may = true) : Settled (saveK d s).2 := by
  have hk : s.tx % 2 < 2 := by omega
  obtain ⟨k, hkk⟩ : ∃ k, s.tx % 2 = k := ⟨_, rfl⟩
  have hs : saveK d s = if (wipeK d k).1 = 0 then if (writeK (wipeK d k).2 k s.img).1 = 0 then (flR (writeK (wipeK d k).2 k s.img).2, flD (writeK (wipeK d k).2 k s.img).2) else writeK (wipeK d k).2 k s.img else wipeK d k := by
    unfold saveK; rw [if_pos hm, hkk]
  rw [hs]
  rw [hkk] at hk
  have hw : (wipeK d k).1 = 0 ∧ Live (wipeK d k).2 := by
    unfold wipeK
    split
    · exact ⟨rfl, h⟩
    · rw [if_pos h.moves.1]
      have e : ((k : Int) * 4) = ((k * 4 : Nat) : Int) := by push_cast; rfl
      rw [e]
      obtain ⟨h1, h2⟩ := h.wr (k * 4) (by omega) 0
      obtain ⟨f1, f2, f3⟩ := h1.fl
      exact ⟨f1, f2⟩
  obtain ⟨w1, w2⟩ := hw
  have wl := wipeK_len d k
  obtain ⟨v1, v2, v3⟩ := w2.wrK k s.img 4 0 (by omega)
  have hv : (writeK (wipeK d k).2 k s.img).1 = 0 := v1
  rw [if_pos w1, if_pos hv]
  exact v2.settled
theorem Settled.short {d : RD} (h : Settled d) (m : Nat) (hm : m < 999999) : Short d m := fun i => by
  by_cases hi : i < d.s.length
  · obtain ⟨c, hc⟩ := h i hi
    rw [hc]
    simp; omega
  · rw [List.getD_eq_getElem?_getD, List.getElem?_eq_none (by omega)]
    simp; omega
/-- does a slot's block count more than another slot's superblock? -/
def ahead (s : SU) (l : List UInt8) (k : Nat) : Prop := superOfB l = true ∧ numAt l 0 % 2 = k ∧ s.tx < numAt l 0
theorem takeS_iff (best : SU) (l : List UInt8) (k : Nat) : takeS best l k = true ↔ superOfB l = true ∧ numAt l 0 % 2 = k ∧ best.tx < numAt l 0 := by
  simp [takeS, and_assoc]
theorem nextS_yes {best : SU} {l : List UInt8} {k : Nat} (h : takeS best l k = true) : nextS best l k = blkS l := by rw [nextS, h]
theorem nextS_no {best : SU} {l : List UInt8} {k : Nat} (h : ¬ takeS best l k = true) : nextS best l k = best := by
  rw [nextS]
  rw [show takeS best l k = false by simpa using h]
theorem load_two {d : RD} {s : SU} (hf : s.fits) (hm : s.may = true) (h1 : 1 ≤ s.tx) {k : Nat} (hk : (s.tx + 1) % 2 = k) (hb : blkAt d (s.tx % 2) = s.img) :
    (ahead s (blkAt d k) k ∧ loadS d = blkS (blkAt d k)) ∨ (¬ ahead s (blkAt d k) k ∧ loadS d = s) := by
  have o1 := SU.of_img hf hm
  have k1 : blkS s.img = s := SU.back hf hm
  have n1 : numAt s.img 0 = s.tx := by rw [← blkS_tx, k1]
  have hu : loadS d = nextS (nextS zeroSU (blkAt d 0) 0) (blkAt d 1) 1 := rfl
  rw [hu]
  obtain ⟨u, hu⟩ : ∃ u, blkAt d k = u := ⟨_, rfl⟩
  rw [hu]
  have hk2 : k = 0 ∨ k = 1 := by omega
  rcases hk2 with rfl | rfl
  · have e1 : s.tx % 2 = 1 := by omega
    rw [e1] at hb
    rw [hu, hb]
    have t1 : ∀ best : SU, takeS best s.img 1 = true ↔ best.tx < s.tx := fun best => by
      rw [takeS_iff, n1]; exact ⟨fun h => h.2.2, fun h => ⟨o1, e1, h⟩⟩
    by_cases P : ahead s u 0
    · refine .inl ⟨P, ?_⟩
      have t0 : takeS zeroSU u 0 = true := (takeS_iff _ _ _).2 ⟨P.1, P.2.1, by have := P.2.2; show 0 < numAt u 0; omega⟩
      rw [nextS_yes t0, nextS_no]
      rw [t1]
      have := P.2.2
      rw [blkS_tx]
      omega
    · refine .inr ⟨P, ?_⟩
      by_cases t0 : takeS zeroSU u 0 = true
      · rw [nextS_yes t0, nextS_yes ((t1 _).2 ?_)]
        · exact k1
        · obtain ⟨a1, a2, a3⟩ := (takeS_iff _ _ _).1 t0
          rw [blkS_tx]
          have : ¬ s.tx < numAt u 0 := fun h => P ⟨a1, a2, h⟩
          omega
      · rw [nextS_no t0, nextS_yes ((t1 _).2 (by show 0 < s.tx; omega))]
        exact k1
  · have e1 : s.tx % 2 = 0 := by omega
    rw [e1] at hb
    rw [hu, hb]
    have t0 : takeS zeroSU s.img 0 = true := (takeS_iff _ _ _).2 ⟨o1, by rw [n1]; exact e1, by rw [n1]; show 0 < s.tx; omega⟩
    rw [nextS_yes t0, k1]
    by_cases P : ahead s u 1
    · exact .inl ⟨P, nextS_yes ((takeS_iff _ _ _).2 P)⟩
    · exact .inr ⟨P, nextS_no (fun h => P ((takeS_iff _ _ _).1 h))⟩
/-- the four superblocks -/
structure Four (f : Nat) (s0 s1 s2 s3 : SU) : Prop where
  f1 : 1 ≤ f
  t0 : s0.tx = f
  t1 : s1.tx = f + 1
  t2 : s2.tx = f + 2
  t3 : s3.tx = f + 2
  p2 : s2.tp = 2
  p3 : s3.tp = 3
  m0 : s0.may = true
  m1 : s1.may = true
  m2 : s2.may = true
  m3 : s3.may = true
  i0 : s0.fits
  i1 : s1.fits
  i2 : s2.fits
  i3 : s3.fits
def ad1 (s0 : SU) : RD := (saveK (newD 40) s0).2
def ad2 (s0 s1 : SU) : RD := (saveK (ad1 s0) s1).2
def ad3 (s0 s1 s2 : SU) (f : Int) (a : List Int) : RD := crashD (saveK (fuseD (ad2 s0 s1) f) s2).2 a
def ad4 (s0 s1 s2 s3 : SU) (f g : Int) (a b : List Int) : RD := crashD (saveK (fuseD (ad3 s0 s1 s2 f a) g) s3).2 b
/-- each sector of a block is one of another block, or of a third -/
def tornB (old now b : List UInt8) : Prop := ∀ i, i < 4 → part b i = part old i ∨ part b i = part now i
theorem again_two {f : Nat} {s0 s1 s2 s3 : SU} (h : Four f s0 s1 s2 s3) :
    (saveK (newD 40) s0).1 = 0 ∧ (saveK (ad1 s0) s1).1 = 0 ∧ Short (newD 40) 5 ∧ Short (ad1 s0) 5 ∧ (ad1 s0).s.length = 40 ∧ (ad2 s0 s1).s.length = 40 ∧
    Settled (ad2 s0 s1) ∧ blkAt (ad2 s0 s1) (f % 2) = s0.img ∧ blkAt (ad2 s0 s1) ((f + 1) % 2) = s1.img := by
  have l0 : (newD 40).s.length = 40 := by simp [newD]
  have v0 : Live (newD 40) := ⟨by decide, rfl⟩
  obtain ⟨a1, a2, a3, _⟩ := v0.save (by omega) s0 h.m0
  obtain ⟨b1, b2⟩ := v0.saved (by omega) s0 h.m0
  have l1 : (ad1 s0).s.length = 40 := a3.trans l0
  have v1 : Live (ad1 s0) := a2
  have z1 : Settled (ad1 s0) := v0.save_settled (by omega) s0 h.m0
  obtain ⟨c1, c2, c3, _⟩ := v1.save (by omega) s1 h.m1
  obtain ⟨d1, d2⟩ := v1.saved (by omega) s1 h.m1
  have z2 : Settled (ad2 s0 s1) := v1.save_settled (by omega) s1 h.m1
  rw [h.t0] at b1
  rw [h.t1] at d1 d2
  refine ⟨a1, c1, (newD_settled 40).short 5 (by omega), z1.short 5 (by omega), l1, c3.trans l1, z2, ?_, d1⟩
  exact (d2 (f % 2) (by omega) (by omega)).trans b1
theorem other_slot {d c : RD} (hl : c.s.length = d.s.length) (h8 : 8 ≤ d.s.length) {k j : Nat} (hk : k < 2) (hj : j < 2) (hne : j ≠ k) (h : ∀ i, i < d.s.length → apart k i → lastD c i = lastD d i) : blkAt c j = blkAt d j := by
  have h2 : ∀ i, i < 4 → lastD c (j * 4 + i) = lastD d (j * 4 + i) := fun i hi => h _ (by omega) (by unfold apart; omega)
  rw [blkAt_last c j (by omega), blkAt_last d j (by omega), h2 1 (by omega), h2 2 (by omega), h2 3 (by omega), show lastD c (j * 4) = lastD d (j * 4) from h2 0 (by omega)]
theorem again_math {f : Nat} {s0 s1 s2 s3 : SU} (h : Four f s0 s1 s2 s3) (f0 f1 : Int) (a b : List Int) :
    Short (fuseD (ad2 s0 s1) f0) 5 ∧ (saveK (fuseD (ad2 s0 s1) f0) s2).2.s.length = 40 ∧ (ad3 s0 s1 s2 f0 a).s.length = 40 ∧ ldE (ad3 s0 s1 s2 f0 a) = 0 ∧
    (loadS (ad3 s0 s1 s2 f0 a) ≠ s1 → (loadS (ad3 s0 s1 s2 f0 a)).tx = s2.tx) ∧
    (loadS (ad3 s0 s1 s2 f0 a) = s1 → Short (fuseD (ad3 s0 s1 s2 f0 a) f1) 5 ∧ (ad4 s0 s1 s2 s3 f0 f1 a b).s.length = 40 ∧ ldE (ad4 s0 s1 s2 s3 f0 f1 a b) = 0 ∧
      (loadS (ad4 s0 s1 s2 s3 f0 f1 a b) ≠ s1 → loadS (ad4 s0 s1 s2 s3 f0 f1 a b) ≠ s3 → loadS (ad4 s0 s1 s2 s3 f0 f1 a b) ≠ s2 ∧ (loadS (ad4 s0 s1 s2 s3 f0 f1 a b)).may = true ∧
        tornB (blkAt (ad3 s0 s1 s2 f0 a) (f % 2)) s3.img (loadS (ad4 s0 s1 s2 s3 f0 f1 a b)).img)) := by
  obtain ⟨_, _, _, _, _, l2, z2, k0, k1⟩ := again_two h
  have hf1 := h.f1
  have hp1 : (s1.tx + 1) % 2 = f % 2 := by rw [h.t1]; omega
  have hs2 : s2.tx % 2 = f % 2 := by rw [h.t2]; omega
  have hs3 : s3.tx % 2 = f % 2 := by rw [h.t3]; omega
  have hk : f % 2 < 2 := by omega
  have hk' : (f + 1) % 2 < 2 := by omega
  have hne : (f + 1) % 2 ≠ f % 2 := by omega
  have n2 : numAt s2.img 0 = f + 2 := by rw [← blkS_tx, SU.back h.i2 h.m2, h.t2]
  have n0 : numAt s0.img 0 = f := by rw [← blkS_tx, SU.back h.i0 h.m0, h.t0]
  have q2 : numAt s2.img 9 = 2 := by rw [← blkS_tp, SU.back h.i2 h.m2, h.p2]
  have q3 : numAt s3.img 9 = 3 := by rw [← blkS_tp, SU.back h.i3 h.m3, h.p3]
  have o2 := SU.of_img h.i2 h.m2
  have len : ∀ s : SU, s.img.length = 256 := fun s => s.img_len
  -- the first torn save
  obtain ⟨z3, v3, l3, c3, t3⟩ := torn_save z2 f0 s2 (by omega) a hs2
  rw [l2] at l3
  have hA : crashD (saveK (fuseD (ad2 s0 s1) f0) s2).2 a = ad3 s0 s1 s2 f0 a := rfl
  rw [hA] at z3 v3 l3 c3 t3
  obtain ⟨d3, hd3⟩ : ∃ d3, ad3 s0 s1 s2 f0 a = d3 := ⟨_, rfl⟩
  have hD : ad4 s0 s1 s2 s3 f0 f1 a b = crashD (saveK (fuseD d3 f1) s3).2 b := by rw [← hd3]; rfl
  rw [hd3] at z3 v3 l3 c3 t3 ⊢
  have w2 : wipeB (ad2 s0 s1) (f % 2) = true := by rw [wipeB, k0, SU.of_img h.i0 h.m0]; rfl
  have u3 : ∀ i, i < 4 → partS (blkAt d3 (f % 2)) i = partS s0.img i ∨ partS (blkAt d3 (f % 2)) i = partS s2.img i := by
    rcases t3 with ⟨_, ht⟩ | ⟨hw, _⟩ | ⟨hw, _⟩
    · intro i hi
      rw [partS_blk d3 _ (by omega) i hi]
      rcases ht i hi with e | e
      · left; rw [e, ← partS_blk _ _ (by omega) i hi, k0]
      · exact .inr e
    · rw [w2] at hw; cases hw
    · rw [w2] at hw; cases hw
  have k3 : blkAt d3 ((f + 1) % 2) = s1.img := (other_slot (by rw [l3, l2]) (by omega) hk hk' hne c3).trans k1
  have hb3 : blkAt d3 (s1.tx % 2) = s1.img := by rw [h.t1]; exact k3
  have x3 := load_two h.i1 h.m1 (by rw [h.t1]; omega) hp1 hb3
  have bl3 := blkAt_len d3 (f % 2)
  have nx : numAt (blkAt d3 (f % 2)) 0 = f ∨ numAt (blkAt d3 (f % 2)) 0 = f + 2 := by
    rcases u3 0 (by omega) with e | e
    · left; rw [numAt_sec bl3 (len _) e 0 (by decide), n0]
    · right; rw [numAt_sec bl3 (len _) e 0 (by decide), n2]
  have hlen : (saveK (fuseD (ad2 s0 s1) f0) s2).2.s.length = 40 := by
    have := crashS_len (saveK (fuseD (ad2 s0 s1) f0) s2).2.s (openL (saveK (fuseD (ad2 s0 s1) f0) s2).2) a (openL (saveK (fuseD (ad2 s0 s1) f0) s2).2).length
    rw [← this]
    rw [← hd3] at l3
    exact l3
  refine ⟨z2.short 5 (by omega), hlen, l3, ?_, ?_, ?_⟩
  · rw [ldE]
    rcases x3 with ⟨hx, e⟩ | ⟨hx, e⟩
    · rw [e, if_neg]
      have := hx.2.2
      rw [blkS_tx]
      omega
    · rw [e, if_neg]
      rw [h.t1]; omega
  · intro hn
    rcases x3 with ⟨hx, e⟩ | ⟨hx, e⟩
    · rw [e, h.t2]
      have := hx.2.2
      rw [h.t1] at this
      rw [blkS_tx]
      omega
    · exact absurd e hn
  · intro hx
    -- the second torn save
    have nah : ¬ (superOfB (blkAt d3 (f % 2)) = true ∧ numAt (blkAt d3 (f % 2)) 0 = f + 2) := by
      rintro ⟨g1, g2⟩
      rcases x3 with ⟨_, e⟩ | ⟨hna, e⟩
      · rw [hx] at e
        have : s1.tx = numAt (blkAt d3 (f % 2)) 0 := by rw [← blkS_tx, ← e]
        rw [h.t1] at this
        omega
      · exact hna ⟨g1, by rw [g2]; omega, by rw [g2, h.t1]; omega⟩
    obtain ⟨z4, v4, l4, c4, t4⟩ := torn_save z3 f1 s3 (by omega) b hs3
    rw [← hD] at z4 v4 l4 c4 t4
    obtain ⟨d4, hd4⟩ : ∃ d4, ad4 s0 s1 s2 s3 f0 f1 a b = d4 := ⟨_, rfl⟩
    rw [hd4] at z4 v4 l4 c4 t4 ⊢
    have k4 : blkAt d4 ((f + 1) % 2) = s1.img := (other_slot l4 (by omega) hk hk' hne c4).trans k3
    have hb4 : blkAt d4 (s1.tx % 2) = s1.img := by rw [h.t1]; exact k4
    have x4 := load_two h.i1 h.m1 (by rw [h.t1]; omega) hp1 hb4
    have bl4 := blkAt_len d4 (f % 2)
    refine ⟨z3.short 5 (by omega), l4.trans l3, ?_, ?_⟩
    · rw [ldE]
      rcases x4 with ⟨hx, e⟩ | ⟨hx, e⟩
      · rw [e, if_neg]
        have := hx.2.2
        rw [blkS_tx]
        omega
      · rw [e, if_neg]
        rw [h.t1]; omega
    · intro hn1 hn3
      rcases x4 with ⟨hah, e⟩ | ⟨_, e⟩
      · rw [e]
        obtain ⟨hmay, himg⟩ := ofB_img hah.1
        rw [himg]
        have p3 : ∀ i, i < 4 → partS (blkAt d3 (f % 2)) i = lastD d3 (f % 2 * 4 + i) := fun i hi => partS_blk d3 _ (by omega) i hi
        have p4 : ∀ i, i < 4 → partS (blkAt d4 (f % 2)) i = lastD d4 (f % 2 * 4 + i) := fun i hi => partS_blk d4 _ (by omega) i hi
        have s00 := of_sec0 bl4 hah.1
        have p40 : partS (blkAt d4 (f % 2)) 0 = lastD d4 (f % 2 * 4) := p4 0 (by omega)
        have p30 : partS (blkAt d3 (f % 2)) 0 = lastD d3 (f % 2 * 4) := p3 0 (by omega)
        have ne23 : partS s2.img 0 ≠ partS s3.img 0 := fun e => by
          have := numAt_sec (len _) (len _) e 9 (by decide)
          rw [q2, q3] at this
          omega
        -- what the block's sectors are
        have key : (∀ i, i < 4 → partS (blkAt d4 (f % 2)) i = partS (blkAt d3 (f % 2)) i ∨ partS (blkAt d4 (f % 2)) i = partS s3.img i) ∧ partS (blkAt d4 (f % 2)) 0 ≠ partS s2.img 0 := by
          rcases t4 with ⟨hw, ht⟩ | ⟨hw, h0, ht⟩ | ⟨hw, h0, ht⟩
          · refine ⟨fun i hi => ?_, fun e2 => ?_⟩
            · rw [p3 i hi, p4 i hi]; exact ht i hi
            · have g : partS (blkAt d3 (f % 2)) 0 = partS s2.img 0 := by
                rcases ht 0 (by omega) with g | g
                · rw [p30, ← e2, p40]; exact g.symm
                · exact absurd (by rw [← e2, p40]; exact g) ne23
              rw [wipeB, Bool.or_eq_true] at hw
              rcases hw with hw | hw
              · exact nah ⟨hw, by rw [numAt_sec bl3 (len _) g 0 (by decide), n2]⟩
              · rw [g] at hw
                exact of_sec0 (len s2) o2 (Subtype.ext (by simpa using hw))
          · exfalso
            rcases h0 with h0 | h0
            · -- nothing has changed
              have : blkAt d4 (f % 2) = blkAt d3 (f % 2) := parts_ext bl4 bl3 (fun i hi => by
                rw [p3 i hi, p4 i hi]
                rcases Nat.eq_zero_or_pos i with rfl | hp
                · exact h0
                · exact ht i hp hi)
              rw [wipeB, ← this, hah.1] at hw
              cases hw
            · exact s00 (p40.trans h0)
          · have g : partS (blkAt d4 (f % 2)) 0 = partS s3.img 0 := by
              rcases h0 with h0 | h0
              · exact absurd (p40.trans h0) s00
              · exact p40.trans h0
            refine ⟨fun i hi => ?_, fun e2 => ne23 (e2.symm.trans g)⟩
            rcases Nat.eq_zero_or_pos i with rfl | hp
            · exact .inr g
            · rw [p3 i hi, p4 i hi]; exact ht i hp hi
        refine ⟨fun e2 => ?_, hmay, fun i hi => ?_⟩
        · apply key.2
          have : blkAt d4 (f % 2) = s2.img := by rw [← himg, e2]
          rw [this]
        · rw [← partS_eq _ bl4 i hi, ← partS_eq _ bl3 i hi, ← partS_eq _ (len _) i hi]
          exact (key.1 i hi).imp (congrArg Subtype.val) (congrArg Subtype.val)
      · exact absurd e hn1
end Go.Proofs.YtmfcbndgambfmaaDoor.Q
end

section
/- Torn: each sector of a block is one of another block, or of a third. -/
set_option linter.unusedVariables false
namespace Go.Proofs.YtmfcbndgambfmaaDoor.Q
open Go.RowKit

theorem str_shows {P : Program} (src dst e : TypeId) (hs : P.underlying src = some (.slice e)) (he : P.underlying e = some (.int .u8)) (hd : P.underlying dst = some .string)
    {w : World} {B : Nat} {A : Option Addr} {n c : Nat} {l : List UInt8} (h : Shows w B A n (cells8 l)) : (convert src dst (.slice A n c)).run P w = .ok (.string ⟨l.toArray⟩) w := by
  rw [run_convert_bytes_string w src dst e A n c hs he hd]
  have hn : n = l.length := by rw [← h.len, cells8_length]
  cases A with
  | none =>
    have hl : l = [] := by
      rcases Nat.eq_zero_or_pos n with h0 | h0
      · exact List.eq_nil_of_length_eq_zero (by omega)
      · obtain ⟨p, hp, _⟩ := h.lies h0
        cases hp
    subst hl
    simp [Conv.bytesToString]
    rfl
  | some p =>
    have hload : (loadCells p (cells8 l).length).run P w = .ok (cells8 l).toArray w := by
      refine run_loadCells_list (P := P) w p (cells8 l) fun j v hv => ?_
      have hj : j < (cells8 l).length := by
        rcases Nat.lt_or_ge j (cells8 l).length with h1 | h1
        · exact h1
        · rw [List.getElem?_eq_none h1] at hv; cases hv
      obtain ⟨q, hq, _, hx⟩ := h.lies (by rw [← h.len]; omega)
      injection hq with hq
      subst hq
      exact hx j v hv
    rw [cells8_length, ← hn] at hload
    have hc : cells8 l = (l.map fun b => (b.toNat : Int)).map (Value.int .u8) := by simp [cells8]
    rw [hc] at hload
    rw [run_bytesToString w p n c _ hload, foldl_push_byteCells]
    simp
theorem slice_64 (q i : Nat) (hi : i < 4) (W : World) : (Instr.sliceAt 45 (.pointer (some ⟨q, 0, none⟩)) (some (.int .i64 (64 * (i : Int)))) (some (.int .i64 (64 * (i : Int) + 64))) none).run Tryd.prog W = .ok (.slice (some ⟨q, i * 64, none⟩) 64 (256 - i * 64)) W := by
  rcases i with _ | _ | _ | _ | i
  · kernel_rfl
  · kernel_rfl
  · kernel_rfl
  · kernel_rfl
  · exfalso; omega
theorem str_part {W : World} {q : Nat} {l : List UInt8} (hl : l.length = 256) (h : W.heap[q]? = some (.cells (cells8 l).toArray 45 (0, 0))) (i : Nat) (hi : i < 4) :
    (convert 69 9 (.slice (some ⟨q, i * 64, none⟩) 64 (256 - i * 64))).run Tryd.prog W = .ok (.string ⟨(part l i).toArray⟩) W := by
  refine str_shows 69 9 5 Tryd.underlying69 Tryd.underlying5 Tryd.underlying9 (B := q + 1) ⟨by rw [cells8_length, part_len l hl i hi], fun _ => ⟨_, rfl, Nat.lt_succ_self q, fun j u hu => ?_⟩⟩
  have hj : j < 64 := by
    have := (List.getElem?_eq_some_iff.1 hu).1
    rwa [cells8_length, part_len l hl i hi] at this
  have ha : (⟨q, i * 64, none⟩ : Addr).add j = ⟨q, i * 64 + j, none⟩ := by
    unfold Addr.add
    by_cases hj0 : j = 0 <;> simp [hj0]
  rw [ha, Joins.cell_of_block h, List.getElem?_toArray]
  rw [part, cells8_take, cells8_drop, List.getElem?_take_of_lt hj, List.getElem?_drop] at hu
  exact hu
set_option maxRecDepth 20000 in
set_option maxHeartbeats 2000000 in
theorem torn_any (w : World) (o n m : List UInt8) (ho : o.length = 256) (hn : n.length = 256) (hm : m.length = 256) (h : tornB o n m) :
    Calls Tryd.prog 13 #[.agg (cells8 o).toArray, .agg (cells8 n).toArray, .agg (cells8 m).toArray] w fun e w' => e = .returned (.int .i64 1) ∧ Below w.heap.size w w' := by
  obtain ⟨W3, hW3⟩ : ∃ W3, ((w.alloc (.cells (cells8 o).toArray 45)).alloc (.cells (cells8 n).toArray 45)).alloc (.cells (cells8 m).toArray 45) = W3 := ⟨_, rfl⟩
  have b1 := (Below.refl _ w).alloc (Nat.le_refl _) (.cells (cells8 o).toArray 45)
  have b2 := b1.alloc (by simp) (.cells (cells8 n).toArray 45)
  have b3 := b2.alloc (by simp; omega) (.cells (cells8 m).toArray 45)
  have g0 : W3.heap[w.heap.size]? = some (.cells (cells8 o).toArray 45 (0, 0)) := by
    rw [← hW3, Below.heap_alloc _ _ _ (by simp; omega), Below.heap_alloc _ _ _ (by simp)]
    exact heap_alloc_new w _
  have g1 : W3.heap[w.heap.size + 1]? = some (.cells (cells8 n).toArray 45 (0, 0)) := by
    have := heap_alloc_new (w.alloc (.cells (cells8 o).toArray 45)) (.cells (cells8 n).toArray 45)
    rw [World.size_alloc] at this
    rw [← hW3, Below.heap_alloc _ _ _ (by simp)]
    exact this
  have g2 : W3.heap[w.heap.size + 2]? = some (.cells (cells8 m).toArray 45 (0, 0)) := by
    have := heap_alloc_new ((w.alloc (.cells (cells8 o).toArray 45)).alloc (.cells (cells8 n).toArray 45)) (.cells (cells8 m).toArray 45)
    rw [World.size_alloc, World.size_alloc] at this
    rw [← hW3]
    exact this
  rw [hW3] at b3
  have HB := Lib.hid b3
  have HC0 := Lib.hid (fun i hi => str_part ho g0 i hi)
  have HC1 := Lib.hid (fun i hi => str_part hn g1 i hi)
  have HC2 := Lib.hid (fun i hi => str_part hm g2 i hi)
  have HSL := Lib.hid slice_64
  have HT := Lib.hid h
  have cs0 := cells8_size o
  have cs1 := cells8_size n
  have cs2 := cells8_size m
  clear b1 b2 b3 g0 g1 g2 h
  go_enter Tryd.func13, Tryd.ntmps13
  go_wp2
  go_loopw [7] (fun j wr => ∃ i : Nat, i ≤ 4 ∧ j = .int .i64 (i : Int) ∧ wr = W3) (fun j _ => 4 - (intOf j).toNat)
  case atStart => exact ⟨0, by omega, rfl, rfl⟩
  case round =>
    obtain ⟨i, hi, rfl, rfl⟩ := hrel
    by_cases hlt : i < 4
    · have hltI : (i : Int) < 4 := by omega
      have hc0 := HC0.out i hlt
      have hc1 := HC1.out i hlt
      have hc2 := HC2.out i hlt
      have hs0 := HSL.out w.heap.size i hlt
      have hs1 := HSL.out (w.heap.size + 1) i hlt
      have hs2 := HSL.out (w.heap.size + 2) i hlt
      have ht := HT.out i hlt
      have hx : part m i = part o i ∨ ((⟨(part m i).toArray⟩ : ByteArray) ≠ ⟨(part o i).toArray⟩ ∧ part m i = part n i) := by
        by_cases e : part m i = part o i
        · exact .inl e
        · refine .inr ⟨fun e2 => e ?_, ht.resolve_left e⟩
          injection e2 with e2
          exact congrArg Array.toList e2
      clear ht
      generalize hpm : (⟨(part m i).toArray⟩ : ByteArray) = sm at *
      generalize hpo : (⟨(part o i).toArray⟩ : ByteArray) = so at *
      generalize hpn : (⟨(part n i).toArray⟩ : ByteArray) = sn at *
      have hy : sm = so ∨ (sm ≠ so ∧ sm = sn) := hx.imp (fun e => by rw [← hpm, ← hpo, e]) (fun e => ⟨e.1, by rw [← hpm, ← hpn, e.2]⟩)
      clear hx hpm hpo hpn
      rcases hy with rfl | ⟨hne, rfl⟩
      · go_wp2
        exact ⟨⟨i + 1, hlt, by go_num, trivial⟩, by simp [intOf]; omega⟩
      · go_wp2
        all_goals exact ⟨⟨i + 1, hlt, by go_num, trivial⟩, by simp [intOf]; omega⟩
    · obtain rfl : i = 4 := by omega
      go_wp2_with fail
      go_ret
      exact ⟨rfl, HB.out⟩
end Go.Proofs.YtmfcbndgambfmaaDoor.Q
end

section
/- The call's own disk, and blocks that are kept beside it; the row of four superblocks. -/
set_option linter.unusedVariables false
namespace Go.Proofs.YtmfcbndgambfmaaDoor.Q
open Go.RowKit

/-- the disk of the call's own, and blocks of memory that are none of its -/
def GS (w W : World) (b : Nat) (d : RD) (K : List (Nat × Obj)) : Prop := ∃ F, PD W F b d ∧ (∀ k, F k → w.heap.size ≤ k) ∧ Below w.heap.size w W ∧ ∀ p ∈ K, W.heap[p.1]? = some p.2 ∧ ¬ F p.1 ∧ w.heap.size ≤ p.1
section
variable {w W W' : World} {b : Nat} {d : RD} {K : List (Nat × Obj)}
theorem GS.bel (h : GS w W b d K) : Below w.heap.size w W := h.elim fun _ h => h.2.2.1
theorem GS.of (h : KS w W b d) : GS w W b d [] := by
  obtain ⟨F, h1, h2, h3⟩ := h
  exact ⟨F, h1, h2, h3, fun p hp => by cases hp⟩
theorem GS.at (h : GS w W b d K) {q : Nat} {o : Obj} (hm : (q, o) ∈ K) : W.heap[q]? = some o := by
  obtain ⟨F, h1, h2, h3, h4⟩ := h
  exact (h4 _ hm).1
theorem GS.below (h : GS w W b d K) (hb : Below W.heap.size W W') : GS w W' b d K := by
  obtain ⟨F, h1, h2, h3, h4⟩ := h
  refine ⟨F, h1.below hb, h2, h3.trans (hb.mono h3.size), fun p hp => ⟨(hb.block p.1 ?_).trans (h4 p hp).1, (h4 p hp).2⟩⟩
  exact (Array.getElem?_eq_some_iff.1 (h4 p hp).1).1
theorem GS.done {er : Int} {d' : RD} {e : Ending} {F : Nat → Prop} (h1 : PD W F b d) (h2 : ∀ k, F k → w.heap.size ≤ k) (h3 : Below w.heap.size w W) (h4 : ∀ p ∈ K, W.heap[p.1]? = some p.2 ∧ ¬ F p.1 ∧ w.heap.size ≤ p.1) (hp : PDone W F b er d' e W') : GS w W' b d' K := by
  obtain ⟨_, F', g1, g2, g3⟩ := hp
  refine ⟨F', g1, fun k hk => (g2 k hk).elim (h2 k) (fun h => Nat.le_trans h3.size h), h3.trans (g3.below h3.size h2), fun p hp => ?_⟩
  have hlt := (Array.getElem?_eq_some_iff.1 (h4 p hp).1).1
  exact ⟨(g3.block p.1 hlt (h4 p hp).2.1).trans (h4 p hp).1, fun hf => (g2 p.1 hf).elim (h4 p hp).2.1 (fun h => by omega), (h4 p hp).2.2⟩
theorem GS.box (h : GS w W b d K) (o : Obj) : GS w (W.alloc o) b d ((W.heap.size, o) :: K) := by
  have h0 := h
  obtain ⟨F, h1, h2, h3, h4⟩ := h
  have ha := (Below.refl W.heap.size W).alloc (Nat.le_refl _) o
  obtain ⟨F2, _⟩ := h0.below ha
  refine ⟨F, h1.below ha, h2, h3.trans (ha.mono h3.size), fun p hp => ?_⟩
  rcases List.mem_cons.1 hp with rfl | hp
  · exact ⟨heap_alloc_new W o, fun hf => by have := h1.lt hf; simp at this, h3.size⟩
  · have hlt := (Array.getElem?_eq_some_iff.1 (h4 p hp).1).1
    exact ⟨(ha.block p.1 hlt).trans (h4 p hp).1, (h4 p hp).2⟩
theorem GS.set {q : Nat} {cs cs' : Array Value} {t : TypeId} (h : GS w W b d ((q, .cells cs t (0, 0)) :: K)) (hK : ∀ p ∈ K, p.1 ≠ q) : GS w (W.setRow q cs') b d ((q, .cells cs' t (0, 0)) :: K) := by
  obtain ⟨F, h1, h2, h3, h4⟩ := h
  have ho : ∀ j, j ≠ q → (W.setRow q cs').heap[j]? = W.heap[j]? := fun j hj => setRow_other _ _ _ _ hj
  have hq := h4 _ (List.mem_cons_self ..)
  refine ⟨F, h1.on (fun j hj => ho j (fun e => hq.2.1 (e ▸ hj))), h2, below_setRow h3 hq.2.2 _, fun p hp => ?_⟩
  rcases List.mem_cons.1 hp with rfl | hp
  · exact ⟨setRow_heap _ _ _ _ _ _ hq.1, hq.2⟩
  · exact ⟨(ho _ (hK p hp)).trans (h4 p (List.mem_cons_of_mem _ hp)).1, (h4 p (List.mem_cons_of_mem _ hp)).2⟩
theorem GS.save (h : GS w W b d K) (hT : Tabs W) (hW : Wids W) (h8 : 8 ≤ d.s.length) (s : SU) (hf : s.fits) (hs : Short d 5) :
    Calls Tryd.prog 7 #[.pointer (some ⟨b, 0, none⟩), .agg s.cells] W fun e w' => e = .returned (.int .i64 (saveK d s).1) ∧ Hid (GS w w' b (saveK d s).2 K) := by
  obtain ⟨F, h1, h2, h3, h4⟩ := h
  exact (save_any hT hW h1 h8 s hf hs).mono fun e w' hp => ⟨hp.1, GS.done h1 h2 h3 h4 hp⟩
theorem GS.load (h : GS w W b d K) (hT : Tabs W) (hW : Wids W) (h8 : 8 ≤ d.s.length) :
    Calls Tryd.prog 10 #[.pointer (some ⟨b, 0, none⟩)] W fun e w' => e = .returned (.tuple #[.agg (loadS d).cells, .int .i64 (ldE d)]) ∧ Hid (GS w w' b d K) := by
  have h0 := h
  obtain ⟨F, h1, h2, h3, h4⟩ := h
  exact (load_any hT hW h1 h8).mono fun e w' hp => ⟨hp.1, h0.below hp.2⟩
theorem GS.fuse (h : GS w W b d K) (n : Int) (hn : 0 ≤ n ∧ n ≤ 9223372036854775807) :
    Calls Tryd.prog 8 #[.pointer (some ⟨b, 0, none⟩), .int .i64 n] W fun e w' => e = .returned (.int .i64 0) ∧ Hid (GS w w' b (fuseD d n) K) := by
  obtain ⟨F, h1, h2, h3, h4⟩ := h
  have e1 : fuR n = 0 := if_neg (by omega)
  have e2 : fuD d n = fuseD d n := if_neg (by omega)
  have hp := pd_fuse W F b d h1 n hn.2
  rw [e1, e2] at hp
  exact hp.mono fun e w' hp => ⟨hp.1, GS.done h1 h2 h3 h4 hp⟩
theorem GS.crash (h : GS w W b d K) (A : Option Addr) (cap : Nat) (picks : List Int) (hs : Shows w w.heap.size A picks.length (nums picks)) (hpc : picks.length ≤ 9223372036854775807) :
    Calls Tryd.prog 9 #[.pointer (some ⟨b, 0, none⟩), .slice A picks.length cap] W fun e w' => e = .returned (.int .i64 0) ∧ Hid (GS w w' b (crashD d picks) K) := by
  obtain ⟨F, h1, h2, h3, h4⟩ := h
  have hs' : Shows W W.heap.size A picks.length (nums picks) := ⟨hs.len, fun hp => by
    obtain ⟨p, e1, e2, e3⟩ := hs.lies hp
    refine ⟨p, e1, Nat.lt_of_lt_of_le e2 h3.size, fun j u hu => ?_⟩
    rw [← e3 j u hu]
    exact h3.cell (p := p.add j) (by rw [addr_block]; exact e2)⟩
  exact (pd_crash W F b d h1 A cap picks hs' hpc (fun p hA h0 hf => by
    obtain ⟨q, e1, e2, _⟩ := hs.lies h0
    rw [hA] at e1
    injection e1 with e1
    subst e1
    have := h2 _ hf
    omega)).mono fun e w' hp => ⟨hp.1, GS.done h1 h2 h3 h4 hp⟩
theorem GS.read (h : GS w W b d K) (k : Nat) (hk : hasK d (k : Int)) :
    Calls Tryd.prog 11 #[.pointer (some ⟨b, 0, none⟩), .int .i64 (k : Int)] W fun e w' => e = .returned (.tuple #[.agg (cells8 (blkAt d k)).toArray, .int .i64 0]) ∧ Hid (GS w w' b d K) := by
  have h0 := h
  obtain ⟨F, h1, h2, h3, h4⟩ := h
  exact (read_any' h1 k hk).mono fun e w' hp => ⟨hp.1, h0.below hp.2⟩
end
/-- the cells of four superblocks -/
def row4 (A : Nat → SU) : List Value := (A 0).cells.toList ++ ((A 1).cells.toList ++ ((A 2).cells.toList ++ (A 3).cells.toList))
def upd (A : Nat → SU) (i : Nat) (s : SU) : Nat → SU := fun j => if j = i then s else A j
theorem cells_len (s : SU) : s.cells.toList.length = 19 := rfl
theorem row4_len (A : Nat → SU) : (row4 A).length = 76 := by rw [row4, List.length_append, List.length_append, List.length_append, cells_len, cells_len, cells_len, cells_len]
theorem row4_split (A : Nat → SU) (i : Nat) (hi : i < 4) : ∃ L1 L2 : List Value, L1.length = i * 19 ∧ row4 A = L1 ++ ((A i).cells.toList ++ L2) ∧ ∀ s, row4 (upd A i s) = L1 ++ (s.cells.toList ++ L2) := by
  rcases i with _ | _ | _ | _ | i
  · exact ⟨[], _, rfl, rfl, fun s => rfl⟩
  · exact ⟨(A 0).cells.toList, _, rfl, rfl, fun s => rfl⟩
  · refine ⟨(A 0).cells.toList ++ (A 1).cells.toList, (A 3).cells.toList, by rw [List.length_append, cells_len, cells_len], by simp [row4], fun s => by simp [row4, upd]⟩
  · refine ⟨(A 0).cells.toList ++ ((A 1).cells.toList ++ (A 2).cells.toList), [], by rw [List.length_append, List.length_append, cells_len, cells_len, cells_len], by simp [row4], fun s => by simp [row4, upd]⟩
  · omega
theorem row4_set (A : Nat → SU) (i : Nat) (hi : i < 4) (o : Nat) (vs : List Value) (s : SU) (ho : o + vs.length ≤ 19) (h : s.cells.toList = (A i).cells.toList.take o ++ (vs ++ (A i).cells.toList.drop (o + vs.length))) :
    (row4 A).take (i * 19 + o) ++ vs ++ (row4 A).drop (i * 19 + o + vs.length) = row4 (upd A i s) := by
  obtain ⟨L1, L2, h1, h2, h3⟩ := row4_split A i hi
  have hc := cells_len (A i)
  rw [h2, h3 s, h]
  generalize (A i).cells.toList = C at *
  rw [List.take_append, List.drop_append, List.take_append, List.drop_append, h1]
  rw [List.take_of_length_le (show L1.length ≤ i * 19 + o by omega), List.drop_eq_nil_of_le (show L1.length ≤ i * 19 + o + vs.length by omega)]
  rw [show i * 19 + o - i * 19 = o by omega, show i * 19 + o + vs.length - i * 19 = o + vs.length by omega, hc, show o - 19 = 0 by omega, show o + vs.length - 19 = 0 by omega]
  simp
theorem row4_range {W : World} {q : Nat} (A : Nat → SU) {t : TypeId} (h : W.heap[q]? = some (.cells (row4 A).toArray t (0, 0))) (i : Nat) (hi : i < 4) : W.rangeAt q (i * 19) (A i).cells.toList := fun j u hu => by
  obtain ⟨L1, L2, h1, h2, _⟩ := row4_split A i hi
  have hj : j < 19 := (List.getElem?_eq_some_iff.1 hu).1
  rw [Joins.cell_of_block h, List.getElem?_toArray, h2, List.getElem?_append_right (by omega), h1, show i * 19 + j - i * 19 = j by omega, List.getElem?_append_left (by rw [cells_len]; exact hj)]
  exact hu
/-- a run of cells of the row is stored -/
theorem row4_store {W : World} {q : Nat} (A : Nat → SU) (h : W.heap[q]? = some (.cells (row4 A).toArray 37 (0, 0))) (i : Nat) (hi : i < 4) (o : Nat) (vs : List Value) (s : SU) (ho : o + vs.length ≤ 19)
    (hs : s.cells.toList = (A i).cells.toList.take o ++ (vs ++ (A i).cells.toList.drop (o + vs.length))) (h1 : ∀ v ∈ vs, v.oneCell' = true) :
    (storeCells ⟨q, i * 19 + o, none⟩ vs).run Tryd.prog W = .ok () (W.setRow q (row4 (upd A i s)).toArray) := by
  have hst := run_storeCells_at (P := Tryd.prog) q (i * 19 + o) 37 vs 0 (row4 A).toArray W h (by simp [row4_len]; omega) h1
  rw [List.toList_toArray, Nat.add_zero, row4_set A i hi o vs s ho hs] at hst
  exact hst
theorem storeVar_agg {W W' : World} {p : Addr} {ty : TypeId} (cs : Array Value) (hi : (Tryd.prog.info? ty).map (·.size) = some cs.size) (h : (storeCells p cs.toList).run Tryd.prog W = .ok () W') : (storeVar ty p (.agg cs)).run Tryd.prog W = .ok () W' := by
  obtain ⟨i, hq, hzz⟩ := Option.map_eq_some_iff.1 hi
  simp [storeVar, sizeOf, typeInfo, hq, Value.cells, hzz, h]
theorem storeVar_u32 {W W' : World} {p : Addr} {z : Int} (h : (storeCells p [.int .u32 z]).run Tryd.prog W = .ok () W') : (storeVar 33 p (.int .u32 z)).run Tryd.prog W = .ok () W' := by
  have hi : (Tryd.prog.info? 33).map (·.size) = some 1 := by kernel_rfl
  obtain ⟨i, hq, hzz⟩ := Option.map_eq_some_iff.1 hi
  simp [storeVar, sizeOf, typeInfo, hq, Value.cells, hzz, h]
theorem wpList_store_run {P : Program} {ops : Array Oper} {rest : List Oper} {op : Oper} {a : Act} {w : World} {Q : Exit → Act → World → Prop} (hgd : op.guard = none) (ty : TypeId) (x y : Operand) (ho : op.op = .store ty x y)
    (b o : Nat) (v : Value) (w' : World) (hx : a.eval x = .pointer (some ⟨b, o, none⟩)) (hy : a.eval y = v) (hs : (storeVar ty ⟨b, o, none⟩ v).run P w = .ok () w')
    (h : wpList P ops Q rest (a.put op.dst undef) w') : wpList P ops Q (op :: rest) a w :=
  wpList_plain hgd fun _ hK => by
    unfold Oper.wp execOp
    simp only [ho, hx, hy, Instr.storeAt, Instr.sureAddr, Sem.run_bind, Sem.run_pure, Result.andThen_ok, hs]
    exact hK _ _ h
/-- a state's numbers -/
structure ST where
  ep : Nat
  la : Nat
  sq : Nat
  bl : Nat
  bs : Nat
  mkd : Bool
def ST.fits (s : ST) : Prop := s.ep < 18446744073709551616 ∧ s.la < 18446744073709551616 ∧ s.sq < 18446744073709551616 ∧ s.bl < 18446744073709551616 ∧ s.bs < 18446744073709551616
def ST.cells (s : ST) : List Value := [.int .u64 (s.ep : Int), .int .u64 (s.la : Int), .int .u64 (s.sq : Int), .int .u64 (s.bl : Int), .int .u64 (s.bs : Int), .bool s.mkd]
def row6 (T : Nat → ST) : List Value := (T 0).cells ++ ((T 1).cells ++ ((T 2).cells ++ (T 3).cells))
theorem row6_range {W : World} {q : Nat} (T : Nat → ST) {t : TypeId} (h : W.heap[q]? = some (.cells (row6 T).toArray t (0, 0))) (i : Nat) (hi : i < 4) : W.rangeAt q (i * 6) (T i).cells := fun j u hu => by
  have hj : j < 6 := (List.getElem?_eq_some_iff.1 hu).1
  rw [Joins.cell_of_block h, List.getElem?_toArray]
  have h2 : (row6 T)[i * 6 + j]? = (T i).cells[j]? := by
    rcases i with _ | _ | _ | _ | i
    all_goals first | omega | skip
    all_goals
      rcases j with _ | _ | _ | _ | _ | _ | j
      all_goals first | omega | rfl
  rw [h2]; exact hu
/-- the superblock that the law makes -/
def lawS (f : Nat) (T : Nat → ST) (i : Nat) : SU := ⟨f + min i 2, 16, 8, 0, 0, 0, 0, 0, 0, i, 0, 0, 0, (T i).ep, (T i).la, (T i).sq, (T i).bl, (T i).bs, (T i).mkd⟩
def lawT (f : Nat) (T : Nat → ST) (i : Nat) : SU := ⟨f + min i 2, 16, 8, 0, 0, 0, 0, 0, 0, 0, 0, 0, 0, (T i).ep, (T i).la, (T i).sq, (T i).bl, (T i).bs, (T i).mkd⟩
def upTo (f : Nat) (T : Nat → ST) (n : Nat) : Nat → SU := fun j => if j < n then lawS f T j else zeroSU
theorem upTo_next (f : Nat) (T : Nat → ST) (n : Nat) : upd (upTo f T n) n (lawS f T n) = upTo f T (n + 1) := by
  funext j
  unfold upd upTo
  by_cases e : j = n
  · subst e; rw [if_pos rfl, if_pos (Nat.lt_succ_self _)]
  · rw [if_neg e]
    by_cases h : j < n
    · rw [if_pos h, if_pos (by omega)]
    · rw [if_neg h, if_neg (by omega)]
theorem upd_upd (A : Nat → SU) (i : Nat) (s t : SU) : upd (upd A i s) i t = upd A i t := by
  funext j; unfold upd; split <;> rfl
theorem upd_at (A : Nat → SU) (i : Nat) (s : SU) : upd A i s i = s := if_pos rfl
theorem row4_ext {A B : Nat → SU} (h : ∀ i, i < 4 → A i = B i) : row4 A = row4 B := by unfold row4; rw [h 0 (by omega), h 1 (by omega), h 2 (by omega), h 3 (by omega)]
theorem row4_all (f : Nat) (T : Nat → ST) : row4 (upTo f T 4) = row4 (lawS f T) := row4_ext (fun i hi => if_pos hi)
theorem lawS_four {f : Nat} {T : Nat → ST} (h1 : 1 ≤ f) (h2 : f ≤ 1099511627776) (hT : ∀ i, i < 4 → (T i).fits) : Four f (lawS f T 0) (lawS f T 1) (lawS f T 2) (lawS f T 3) := by
  have hfit : ∀ i, i < 4 → (lawS f T i).fits := fun i hi => by
    refine ⟨?_, ?_, hT i hi⟩
    · show f + min i 2 < 18446744073709551616; omega
    · show 0 < 4294967296 ∧ 0 < 4294967296 ∧ 0 < 4294967296 ∧ 0 < 4294967296 ∧ 0 < 4294967296 ∧ 0 < 4294967296 ∧ i < 4294967296 ∧ 0 < 4294967296 ∧ 0 < 4294967296
      omega
  have hmay : ∀ i, i < 4 → (lawS f T i).may = true := fun i hi => by
    unfold SU.may mayS
    apply decide_eq_true
    unfold mayP
    simp [lawS]
    omega
  exact ⟨h1, rfl, rfl, rfl, rfl, rfl, rfl, hmay 0 (by omega), hmay 1 (by omega), hmay 2 (by omega), hmay 3 (by omega), hfit 0 (by omega), hfit 1 (by omega), hfit 2 (by omega), hfit 3 (by omega)⟩
end Go.Proofs.YtmfcbndgambfmaaDoor.Q
end

section
/- SuperAgain: the calls on the law's disk, one by one. -/
set_option linter.unusedVariables false
namespace Go.Proofs.YtmfcbndgambfmaaDoor.Q
open Go.RowKit

theorem neq_sup (a b : SU) (W : World) : (binOp .neq 36 (.agg a.cells) (.agg b.cells)).run Tryd.prog W = .ok (.bool (!eqS a b)) W := by
  have h := eql_sup a b W
  rw [run_eql_struct] at h
  rw [run_neq_struct]
  generalize (Op.equalIn 10000 36 (.agg a.cells) (.agg b.cells)).run Tryd.prog W = r at h ⊢
  cases r <;> simp_all [Result.andThen]
theorem Shows_up {w W : World} {A : Option Addr} {n : Nat} {xs : List Value} (hs : Shows w w.heap.size A n xs) (hb : Below w.heap.size w W) : Shows W W.heap.size A n xs := ⟨hs.len, fun hp => by
  obtain ⟨p, e1, e2, e3⟩ := hs.lies hp
  refine ⟨p, e1, Nat.lt_of_lt_of_le e2 hb.size, fun j u hu => ?_⟩
  rw [← e3 j u hu]
  exact hb.cell (p := p.add j) (by rw [addr_block]; exact e2)⟩
/-- till the first look -/
structure Sc1 (w1 : World) (bd : Nat) (u0 : Int) (A : Option Addr) (n cap : Nat) (D0 D1 D2 D3 D4 D5 : RD) (c0 c1 c2 cX : List Value) (e2 : Int) : Prop where
  s0 : ∀ W K, GS w1 W bd D0 K → Calls Tryd.prog 7 #[.pointer (some ⟨bd, 0, none⟩), .agg c0.toArray] W fun e w' => e = .returned (.int .i64 0) ∧ Hid (GS w1 w' bd D1 K)
  s1 : ∀ W K, GS w1 W bd D1 K → Calls Tryd.prog 7 #[.pointer (some ⟨bd, 0, none⟩), .agg c1.toArray] W fun e w' => e = .returned (.int .i64 0) ∧ Hid (GS w1 w' bd D2 K)
  fu : ∀ W K, GS w1 W bd D2 K → Calls Tryd.prog 8 #[.pointer (some ⟨bd, 0, none⟩), .int .i64 u0] W fun e w' => e = .returned (.int .i64 0) ∧ Hid (GS w1 w' bd D3 K)
  s2 : ∀ W K, GS w1 W bd D3 K → Calls Tryd.prog 7 #[.pointer (some ⟨bd, 0, none⟩), .agg c2.toArray] W fun e w' => e = .returned (.int .i64 e2) ∧ Hid (GS w1 w' bd D4 K)
  cr : ∀ W K, GS w1 W bd D4 K → Calls Tryd.prog 9 #[.pointer (some ⟨bd, 0, none⟩), .slice A n cap] W fun e w' => e = .returned (.int .i64 0) ∧ Hid (GS w1 w' bd D5 K)
  ld : ∀ W K, GS w1 W bd D5 K → Calls Tryd.prog 10 #[.pointer (some ⟨bd, 0, none⟩)] W fun e w' => e = .returned (.tuple #[.agg cX.toArray, .int .i64 0]) ∧ Hid (GS w1 w' bd D5 K)
/-- behind it -/
structure Sc2 (w1 : World) (bd k : Nat) (u1 : Int) (A : Option Addr) (n cap : Nat) (D5 D6 D7 D8 : RD) (old : List UInt8) (c3 cY : List Value) (e3 : Int) : Prop where
  rd : ∀ W K, GS w1 W bd D5 K → Calls Tryd.prog 11 #[.pointer (some ⟨bd, 0, none⟩), .int .i64 (k : Int)] W fun e w' => e = .returned (.tuple #[.agg (cells8 old).toArray, .int .i64 0]) ∧ Hid (GS w1 w' bd D5 K)
  fu : ∀ W K, GS w1 W bd D5 K → Calls Tryd.prog 8 #[.pointer (some ⟨bd, 0, none⟩), .int .i64 u1] W fun e w' => e = .returned (.int .i64 0) ∧ Hid (GS w1 w' bd D6 K)
  s3 : ∀ W K, GS w1 W bd D6 K → Calls Tryd.prog 7 #[.pointer (some ⟨bd, 0, none⟩), .agg c3.toArray] W fun e w' => e = .returned (.int .i64 e3) ∧ Hid (GS w1 w' bd D7 K)
  cr : ∀ W K, GS w1 W bd D7 K → Calls Tryd.prog 9 #[.pointer (some ⟨bd, 0, none⟩), .slice A n cap] W fun e w' => e = .returned (.int .i64 0) ∧ Hid (GS w1 w' bd D8 K)
  ld : ∀ W K, GS w1 W bd D8 K → Calls Tryd.prog 10 #[.pointer (some ⟨bd, 0, none⟩)] W fun e w' => e = .returned (.tuple #[.agg cY.toArray, .int .i64 0]) ∧ Hid (GS w1 w' bd D8 K)
section
variable {w1 : World} {bd f : Nat} {s0 s1 s2 s3 : SU}
theorem sc1_make (hTW : ∀ W, Below w1.heap.size w1 W → Tabs W ∧ Wids W) (h : Four f s0 s1 s2 s3) (u0 : Int) (hu : 0 ≤ u0 ∧ u0 ≤ 20) (a b : List Int) (A : Option Addr) (cap : Nat) (ha : Shows w1 w1.heap.size A a.length (nums a)) (hca : a.length ≤ 9223372036854775807) :
    Sc1 w1 bd u0 A a.length cap (newD 40) (ad1 s0) (ad2 s0 s1) (fuseD (ad2 s0 s1) u0) (saveK (fuseD (ad2 s0 s1) u0) s2).2 (ad3 s0 s1 s2 u0 a) s0.cells.toList s1.cells.toList s2.cells.toList (loadS (ad3 s0 s1 s2 u0 a)).cells.toList (saveK (fuseD (ad2 s0 s1) u0) s2).1 := by
  obtain ⟨a1, a2, a3, a4, a5, a6, a7, a8, a9⟩ := again_two h
  obtain ⟨m1, m2, m3, m4, m5, m6⟩ := again_math h u0 u0 a b
  have l0 : (newD 40).s.length = 40 := by simp [newD]
  refine ⟨fun W K hG => ?_, fun W K hG => ?_, fun W K hG => ?_, fun W K hG => ?_, fun W K hG => ?_, fun W K hG => ?_⟩
  · have := hG.save (hTW W hG.bel).1 (hTW W hG.bel).2 (by omega) s0 h.i0 a3
    rw [a1] at this
    rw [Array.toArray_toList]; exact this
  · have := hG.save (hTW W hG.bel).1 (hTW W hG.bel).2 (by omega) s1 h.i1 a4
    rw [a2] at this
    rw [Array.toArray_toList]; exact this
  · exact hG.fuse u0 (by omega)
  · rw [Array.toArray_toList]
    exact hG.save (hTW W hG.bel).1 (hTW W hG.bel).2 (show 8 ≤ (ad2 s0 s1).s.length by omega) s2 h.i2 m1
  · exact hG.crash A cap a ha hca
  · have := hG.load (hTW W hG.bel).1 (hTW W hG.bel).2 (by omega)
    rw [m4] at this
    rw [Array.toArray_toList]; exact this
theorem sc2_make (hTW : ∀ W, Below w1.heap.size w1 W → Tabs W ∧ Wids W) (h : Four f s0 s1 s2 s3) (u0 u1 : Int) (hu : 0 ≤ u1 ∧ u1 ≤ 20) (a b : List Int) (A : Option Addr) (cap : Nat) (hb : Shows w1 w1.heap.size A b.length (nums b)) (hcb : b.length ≤ 9223372036854775807)
    (hx : loadS (ad3 s0 s1 s2 u0 a) = s1) :
    Sc2 w1 bd (f % 2) u1 A b.length cap (ad3 s0 s1 s2 u0 a) (fuseD (ad3 s0 s1 s2 u0 a) u1) (saveK (fuseD (ad3 s0 s1 s2 u0 a) u1) s3).2 (ad4 s0 s1 s2 s3 u0 u1 a b) (blkAt (ad3 s0 s1 s2 u0 a) (f % 2)) s3.cells.toList (loadS (ad4 s0 s1 s2 s3 u0 u1 a b)).cells.toList (saveK (fuseD (ad3 s0 s1 s2 u0 a) u1) s3).1 := by
  obtain ⟨m1, m2, m3, m4, m5, m6⟩ := again_math h u0 u1 a b
  obtain ⟨n1, n2, n3, n4⟩ := m6 hx
  refine ⟨fun W K hG => ?_, fun W K hG => ?_, fun W K hG => ?_, fun W K hG => ?_, fun W K hG => ?_⟩
  · exact hG.read (f % 2) ⟨by omega, by rw [m3]; omega⟩
  · exact hG.fuse u1 (by omega)
  · rw [Array.toArray_toList]
    exact hG.save (hTW W hG.bel).1 (hTW W hG.bel).2 (show 8 ≤ (ad3 s0 s1 s2 u0 a).s.length by omega) s3 h.i3 n1
  · exact hG.crash A cap b hb hcb
  · have := hG.load (hTW W hG.bel).1 (hTW W hG.bel).2 (by omega)
    rw [n3] at this
    rw [Array.toArray_toList]; exact this
end
/-- the compares of two of the law's superblocks -/
def Cmp (a b : SU) (ca cb : List Value) : Prop := (∀ W : World, (binOp .eql 36 (.agg ca.toArray) (.agg cb.toArray)).run Tryd.prog W = .ok (.bool (eqS a b)) W) ∧ ∀ W : World, (binOp .neq 36 (.agg ca.toArray) (.agg cb.toArray)).run Tryd.prog W = .ok (.bool (!eqS a b)) W
theorem cmp_make (a b : SU) : Cmp a b a.cells.toList b.cells.toList := ⟨fun W => by rw [Array.toArray_toList, Array.toArray_toList]; exact eql_sup a b W, fun W => by rw [Array.toArray_toList, Array.toArray_toList]; exact neq_sup a b W⟩
theorem eqS_no {a b : SU} (h : a ≠ b) : eqS a b = false := by
  cases he : eqS a b with
  | false => rfl
  | true => exact absurd ((eqS_iff a b).1 he) h
end Go.Proofs.YtmfcbndgambfmaaDoor.Q
end

section
/- SuperAgain: the scene. -/
set_option linter.unusedVariables false
namespace Go.Proofs.YtmfcbndgambfmaaDoor.Q
open Go.RowKit

theorem wp_bin_agg {P : Program} {op : Oper} {a : Act} {w : World} {K : Act → World → Prop} {Q : Exit → Act → World → Prop} (o : BinOp) (ty : TypeId) (x y : Operand) (rt : TypeId) (ho : op.op = .binOp o ty x y rt) (xs ys : Array Value) (hx : a.eval x = .agg xs) (hy : a.eval y = .agg ys)
    (hm : P.eqGuardType P.depth ty = false) (v : Value) (hr : (binOp o ty (.agg xs) (.agg ys)).run P w = .ok v w) (h : K (a.put op.dst v) w) : op.wp P a w K Q := by
  unfold Oper.wp execOp
  simp only [ho, hx, hy, Sem.run_bind, run_eqGuard_agg (P := P) (w := w) (hm := hm), Result.andThen_ok, hr, Sem.run_pure]
  exact h
theorem wpList_bin {P : Program} {ops : Array Oper} {rest : List Oper} {op : Oper} {a : Act} {w : World} {Q : Exit → Act → World → Prop} (hgd : op.guard = none) (o : BinOp) (ty : TypeId) (x y : Operand) (rt : TypeId) (ho : op.op = .binOp o ty x y rt) (xs ys : Array Value) (hx : a.eval x = .agg xs) (hy : a.eval y = .agg ys)
    (hm : P.eqGuardType P.depth ty = false) (v : Value) (hr : (binOp o ty (.agg xs) (.agg ys)).run P w = .ok v w) (h : wpList P ops Q rest (a.put op.dst v) w) : wpList P ops Q (op :: rest) a w :=
  wpList_plain hgd fun _ hK => wp_bin_agg o ty x y rt ho xs ys hx hy hm v hr (hK _ _ h)
theorem wpList_bin_g {P : Program} {ops : Array Oper} {rest : List Oper} {op : Oper} {a : Act} {w : World} {Q : Exit → Act → World → Prop} (hw : Region.wanted op (yielded ops a.tmps) = true) (o : BinOp) (ty : TypeId) (x y : Operand) (rt : TypeId) (ho : op.op = .binOp o ty x y rt) (xs ys : Array Value) (hx : a.eval x = .agg xs) (hy : a.eval y = .agg ys)
    (hm : P.eqGuardType P.depth ty = false) (v : Value) (hr : (binOp o ty (.agg xs) (.agg ys)).run P w = .ok v w) (h : wpList P ops Q rest (a.put op.dst v) w) : wpList P ops Q (op :: rest) a w := by
  refine wpList_step ?_
  intro K hK
  rw [if_pos hw]
  exact wp_bin_agg o ty x y rt ho xs ys hx hy hm v hr (hK _ _ h)
theorem sup_noguard : Tryd.prog.eqGuardType Tryd.prog.depth 36 = false := by kernel_rfl
theorem range_arr {W : World} {q : Nat} {l : List Value} {t : TypeId} (h : W.heap[q]? = some (.cells l.toArray t (0, 0))) : W.rangeAt q 0 l := by
  have := range_of h
  simpa using this
theorem store_cl (w : World) (s : SU) : (storeCells ⟨w.heap.size, 0, none⟩ s.cells.toList).run Tryd.prog (w.alloc (.cells zeroSC 36)) = .ok () (w.alloc (.cells s.cells.toList.toArray 36)) := by
  rw [Array.toArray_toList]; exact store_sup w s.cells rfl (cellsS_all s)
theorem hx0_make (s : SU) : ∀ (W : World) (q : Nat), W.heap[q]? = some (.cells s.cells.toList.toArray 36 (0, 0)) → W.cell? ⟨q, 0, none⟩ = some (.int .u64 (s.tx : Int)) := fun W q h => by
  rw [Joins.cell_of_block h]; rfl
theorem loadS_fits (d : RD) : (loadS d).fits := bestN_fits d 2
theorem rd_at {w1 : World} {bd k : Nat} {u1 : Int} {A : Option Addr} {n cap : Nat} {D5 D6 D7 D8 : RD} {old : List UInt8} {c3 cY : List Value} {e3 : Int} (h : Sc2 w1 bd k u1 A n cap D5 D6 D7 D8 old c3 cY e3) (W : World) (K : List (Nat × Obj)) (hG : GS w1 W bd D5 K) (z : Int) (hz : z = (k : Int)) :
    Calls Tryd.prog 11 #[.pointer (some ⟨bd, 0, none⟩), .int .i64 z] W fun e w' => e = .returned (.tuple #[.agg (cells8 old).toArray, .int .i64 0]) ∧ Hid (GS w1 w' bd D5 K) := by
  subst hz; exact h.rd W K hG
theorem cmp_eql {a b : SU} {ca cb : List Value} (h : Cmp a b ca cb) (e : a = b) : ∀ W : World, (binOp .eql 36 (.agg ca.toArray) (.agg cb.toArray)).run Tryd.prog W = .ok (.bool true) W := by
  have := h.1
  rw [(eqS_iff a b).2 e] at this; exact this
theorem cmp_neql {a b : SU} {ca cb : List Value} (h : Cmp a b ca cb) (e : a ≠ b) : ∀ W : World, (binOp .eql 36 (.agg ca.toArray) (.agg cb.toArray)).run Tryd.prog W = .ok (.bool false) W := by
  have := h.1
  rw [eqS_no e] at this; exact this
theorem cmp_neq {a b : SU} {ca cb : List Value} (h : Cmp a b ca cb) (e : a ≠ b) : ∀ W : World, (binOp .neq 36 (.agg ca.toArray) (.agg cb.toArray)).run Tryd.prog W = .ok (.bool true) W := by
  have := h.2
  rw [eqS_no e] at this; exact this
theorem cmp_nneq {a b : SU} {ca cb : List Value} (h : Cmp a b ca cb) (e : a = b) : ∀ W : World, (binOp .neq 36 (.agg ca.toArray) (.agg cb.toArray)).run Tryd.prog W = .ok (.bool false) W := by
  have := h.2
  rw [(eqS_iff a b).2 e] at this; exact this
/-- all that the law's walk wants behind its loop -/
theorem scene {w1 : World} {bd f : Nat} {s0 s1 s2 s3 : SU} (hTW : ∀ W, Below w1.heap.size w1 W → Tabs W ∧ Wids W) (h : Four f s0 s1 s2 s3) (u0 u1 : Int) (hu : 0 ≤ u0 ∧ u0 ≤ 20) (hv : 0 ≤ u1 ∧ u1 ≤ 20) (a b : List Int) (A1 A2 : Option Addr) (cap1 cap2 : Nat)
    (ha : Shows w1 w1.heap.size A1 a.length (nums a)) (hb : Shows w1 w1.heap.size A2 b.length (nums b)) (hca : a.length ≤ 9223372036854775807) (hcb : b.length ≤ 9223372036854775807) {S : Nat → SU} (q0 : S 0 = s0) (q1 : S 1 = s1) (q2 : S 2 = s2) (q3 : S 3 = s3) (q : Nat) (R : List Value)
    (hR : ∀ W : World, W.heap[q]? = some (.cells R.toArray 37 (0, 0)) → ∀ k, k < 4 → W.rangeAt q (k * 19) (S k).cells.toList) :
    ∃ (D0 D1 D2 D3 D4 D5 D6 D7 D8 : RD) (er2 er3 : Int) (old i3 iY : List UInt8) (cl0 cl1 cl2 cl3 clX clY : List Value),
      newD 40 = D0 ∧ Hid (Sc1 w1 bd u0 A1 a.length cap1 D0 D1 D2 D3 D4 D5 cl0 cl1 cl2 clX er2) ∧
      Hid ((cl0.length = 19 ∧ cl1.length = 19 ∧ cl2.length = 19 ∧ cl3.length = 19 ∧ clX.length = 19 ∧ clY.length = 19) ∧ old.length = 256 ∧ i3.length = 256 ∧ iY.length = 256) ∧
      Hid ((∀ W : World, W.heap[q]? = some (.cells R.toArray 37 (0, 0)) → W.rangeAt q 0 cl0) ∧ (∀ W : World, W.heap[q]? = some (.cells R.toArray 37 (0, 0)) → W.rangeAt q 19 cl1) ∧ (∀ W : World, W.heap[q]? = some (.cells R.toArray 37 (0, 0)) → W.rangeAt q 38 cl2) ∧ (∀ W : World, W.heap[q]? = some (.cells R.toArray 37 (0, 0)) → W.rangeAt q 57 cl3)) ∧
      Hid ((∀ w : World, (storeCells ⟨w.heap.size, 0, none⟩ clX).run Tryd.prog (w.alloc (.cells zeroSC 36)) = .ok () (w.alloc (.cells clX.toArray 36))) ∧ (∀ w : World, (storeCells ⟨w.heap.size, 0, none⟩ clY).run Tryd.prog (w.alloc (.cells zeroSC 36)) = .ok () (w.alloc (.cells clY.toArray 36))) ∧ True) ∧
      Hid (((∀ W : World, (binOp .neq 36 (.agg clX.toArray) (.agg cl1.toArray)).run Tryd.prog W = .ok (.bool false) W) ∧ Hid (Sc2 w1 bd (f % 2) u1 A2 b.length cap2 D5 D6 D7 D8 old cl3 clY er3) ∧
            Hid (((∀ W : World, (binOp .eql 36 (.agg clY.toArray) (.agg cl1.toArray)).run Tryd.prog W = .ok (.bool true) W) ∧ True) ∨ ((∀ W : World, (binOp .eql 36 (.agg clY.toArray) (.agg cl1.toArray)).run Tryd.prog W = .ok (.bool false) W) ∧ (∀ W : World, (binOp .eql 36 (.agg clY.toArray) (.agg cl3.toArray)).run Tryd.prog W = .ok (.bool true) W)) ∨ ((∀ W : World, (binOp .eql 36 (.agg clY.toArray) (.agg cl1.toArray)).run Tryd.prog W = .ok (.bool false) W) ∧ (∀ W : World, (binOp .eql 36 (.agg clY.toArray) (.agg cl3.toArray)).run Tryd.prog W = .ok (.bool false) W) ∧ (∀ W : World, (binOp .neq 36 (.agg clY.toArray) (.agg cl2.toArray)).run Tryd.prog W = .ok (.bool true) W) ∧
              Hid (∀ W, Below w1.heap.size w1 W → Calls Tryd.prog 12 #[.agg clY.toArray] W fun e w' => e = .returned (.tuple #[.agg (cells8 iY).toArray, .int .i64 0]) ∧ Below W.heap.size W w') ∧
              Hid (∀ W, Calls Tryd.prog 13 #[.agg (cells8 old).toArray, .agg (cells8 i3).toArray, .agg (cells8 iY).toArray] W fun e w' => e = .returned (.int .i64 1) ∧ Below W.heap.size W w')))) ∨
           ((∀ W : World, (binOp .neq 36 (.agg clX.toArray) (.agg cl1.toArray)).run Tryd.prog W = .ok (.bool true) W) ∧ (∀ W : World, (binOp .eql 36 (.agg clX.toArray) (.agg cl2.toArray)).run Tryd.prog W = .ok (.bool true) W)) ∨
           ((∀ W : World, (binOp .neq 36 (.agg clX.toArray) (.agg cl1.toArray)).run Tryd.prog W = .ok (.bool true) W) ∧ (∀ W : World, (binOp .eql 36 (.agg clX.toArray) (.agg cl2.toArray)).run Tryd.prog W = .ok (.bool false) W) ∧ Hid (∀ (W : World) (q : Nat), W.heap[q]? = some (.cells clX.toArray 36 (0, 0)) → W.cell? ⟨q, 0, none⟩ = some (.int .u64 ((f : Int) + 2))))) ∧
      Hid (∀ W, Below w1.heap.size w1 W → Calls Tryd.prog 12 #[.agg cl3.toArray] W fun e w' => e = .returned (.tuple #[.agg (cells8 i3).toArray, .int .i64 0]) ∧ Below W.heap.size W w') := by
  have hbs : ∀ s : SU, s.fits → s.may = true → ∀ W, Below w1.heap.size w1 W → Calls Tryd.prog 12 #[.agg s.cells.toList.toArray] W fun e w' => e = .returned (.tuple #[.agg (cells8 s.img).toArray, .int .i64 0]) ∧ Below W.heap.size W w' := fun s hf hm W hb => by
    have := SU.block W (hTW W hb).1 (hTW W hb).2 _ hf
    rw [SU.blk, SU.err, hm] at this
    rw [Array.toArray_toList]; exact this
  obtain ⟨m1, m2, m3, m4, m5, m6⟩ := again_math h u0 u1 a b
  refine ⟨_, _, _, _, _, _, fuseD (ad3 s0 s1 s2 u0 a) u1, (saveK (fuseD (ad3 s0 s1 s2 u0 a) u1) s3).2, ad4 s0 s1 s2 s3 u0 u1 a b, _, (saveK (fuseD (ad3 s0 s1 s2 u0 a) u1) s3).1, blkAt (ad3 s0 s1 s2 u0 a) (f % 2), s3.img, (loadS (ad4 s0 s1 s2 s3 u0 u1 a b)).img, _, _, _, s3.cells.toList, _, (loadS (ad4 s0 s1 s2 s3 u0 u1 a b)).cells.toList, rfl,
    Lib.hid (sc1_make hTW h u0 hu a b A1 cap1 ha hca), Lib.hid ⟨⟨cells_len _, cells_len _, cells_len _, cells_len _, cells_len _, cells_len _⟩, blkAt_len _ _, s3.img_len, SU.img_len _⟩,
    Lib.hid ⟨fun W hw => by rw [← q0]; exact hR W hw 0 (by omega), fun W hw => by rw [← q1]; exact hR W hw 1 (by omega), fun W hw => by rw [← q2]; exact hR W hw 2 (by omega), fun W hw => by rw [← q3]; exact hR W hw 3 (by omega)⟩,
    Lib.hid ⟨fun w => store_cl w _, fun w => store_cl w _, trivial⟩, Lib.hid ?_, Lib.hid (hbs s3 h.i3 h.m3)⟩
  by_cases hx : loadS (ad3 s0 s1 s2 u0 a) = s1
  · obtain ⟨n1, n2, n3, n4⟩ := m6 hx
    refine .inl ⟨cmp_nneq (cmp_make _ _) hx, Lib.hid (sc2_make hTW h u0 u1 hv a b A2 cap2 hb hcb hx), Lib.hid ?_⟩
    by_cases hy1 : loadS (ad4 s0 s1 s2 s3 u0 u1 a b) = s1
    · exact .inl ⟨cmp_eql (cmp_make _ _) hy1, trivial⟩
    · by_cases hy3 : loadS (ad4 s0 s1 s2 s3 u0 u1 a b) = s3
      · exact .inr (.inl ⟨cmp_neql (cmp_make _ _) hy1, cmp_eql (cmp_make _ _) hy3⟩)
      · obtain ⟨p1, p2, p3⟩ := n4 hy1 hy3
        exact .inr (.inr ⟨cmp_neql (cmp_make _ _) hy1, cmp_neql (cmp_make _ _) hy3, cmp_neq (cmp_make _ _) p1, Lib.hid (hbs _ (loadS_fits _) p2), Lib.hid (fun W => torn_any W _ _ _ (blkAt_len _ _) s3.img_len (SU.img_len _) p3)⟩)
  · have htx := m5 hx
    by_cases h2 : loadS (ad3 s0 s1 s2 u0 a) = s2
    · exact .inr (.inl ⟨cmp_neq (cmp_make _ _) hx, cmp_eql (cmp_make _ _) h2⟩)
    · refine .inr (.inr ⟨cmp_neq (cmp_make _ _) hx, cmp_neql (cmp_make _ _) h2, Lib.hid (fun W q hq => ?_)⟩)
      rw [hx0_make _ W q hq, htx, h.t2]
      rfl
end Go.Proofs.YtmfcbndgambfmaaDoor.Q
end
