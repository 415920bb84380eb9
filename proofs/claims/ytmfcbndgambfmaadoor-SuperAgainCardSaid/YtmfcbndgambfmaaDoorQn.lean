/- The program's disk, act by act: what each leaves, in one form. -/
import Derived.Test.YtmfcbndgambfmaaDoorQ0
import Derived.Test.YtmfcbndgambfmaaDoorQm
set_option linter.unusedVariables false
namespace Go.Proofs.YtmfcbndgambfmaaDoor.Q
open Go.RowKit

/-- a call on the disk that answers an error: it leaves the disk d' -/
def PDone (w : World) (F : Nat → Prop) (b : Nat) (er : Int) (d' : RD) (e : Ending) (w' : World) : Prop :=
  e = .returned (.int .i64 er) ∧ ∃ F', PD w' F' b d' ∧ (∀ k, F' k → F k ∨ w.heap.size ≤ k) ∧ Stays w w' F
theorem PDone.mk' {w w' : World} {F G : Nat → Prop} {b m : Nat} {L L' : Value} {D' : DataW Value} {X X' : Nat → Value} {d d' : RD} {er : Int} (hF : ∀ k, F k ↔ foot b m L X d.s.length k) (h' : PDisk w' b L' m D' X' d')
    (hL : L'.ownBlock = L.ownBlock ∨ ∃ g, L'.ownBlock = some g ∧ w.heap.size ≤ g) (hX : ∀ i, i < d'.s.length → ∀ k, (X' i).ownBlock = some k → F k ∨ w.heap.size ≤ k) (hS : Stays w w' G) (hG : ∀ k, G k → F k) : PDone w F b er d' (.returned (.int .i64 er)) w' := by
  refine ⟨rfl, foot b m L' X' d'.s.length, ⟨L', m, D', X', h', fun k => Iff.rfl⟩, ?_, ⟨hS.os, hS.tape, hS.output, hS.size, fun k hk hn => hS.block k hk (fun e => hn (hG k e))⟩⟩
  rintro k (rfl | rfl | hk | ⟨i, hi, hk⟩)
  · exact .inl ((hF _).2 (.inl rfl))
  · exact .inl ((hF _).2 (.inr (.inl rfl)))
  · rcases hL with e | ⟨g, e, hg⟩
    · rw [e] at hk; exact .inl ((hF _).2 (.inr (.inr (.inl hk))))
    · rw [e] at hk; injection hk with hk; exact .inr (by omega)
  · exact hX i hi k hk
theorem PDone.same {w w' : World} {F : Nat → Prop} {b : Nat} {d : RD} {er : Int} (h : PD w F b d) (hb : Below w.heap.size w w') : PDone w F b er d (.returned (.int .i64 er)) w' :=
  ⟨rfl, F, h.below hb, fun k hk => .inl hk, Stays.of_below hb F⟩
theorem PD.n0 {w : World} {F : Nat → Prop} {b : Nat} {d : RD} (h : PD w F b d) : 0 < d.s.length := by obtain ⟨L, m, D, X, hp, _⟩ := h; exact hp.n0
theorem PD.n1 {w : World} {F : Nat → Prop} {b : Nat} {d : RD} (h : PD w F b d) : d.s.length ≤ 8192 := by obtain ⟨L, m, D, X, hp, _⟩ := h; exact hp.n1
theorem PD.fz {w : World} {F : Nat → Prop} {b : Nat} {d : RD} (h : PD w F b d) : -1 ≤ d.fuse ∧ d.fuse ≤ 9223372036854775807 := by obtain ⟨L, m, D, X, hp, _⟩ := h; exact hp.fz
theorem PD.pos {w : World} {F : Nat → Prop} {b : Nat} {d : RD} (h : PD w F b d) (i : Nat) (hi : i < d.s.length) : 0 < d.s[i].length ∧ d.s[i].length ≤ 1000000 := by obtain ⟨L, m, D, X, hp, _⟩ := h; exact hp.map.pos i hi

def thereN (d : RD) (n : Int) : Prop := 0 ≤ n ∧ n < (d.s.length : Int)
instance (d : RD) (n : Int) : Decidable (thereN d n) := by unfold thereN; exact inferInstance
def wrR (d : RD) (n : Int) : Int := if thereN d n then (if movesB d = true then 0 else 10) else 2
def wrD (d : RD) (n : Int) (c : SB) : RD := if thereN d n then (if movesB d = true then writeD (movesD d) n.toNat c else movesD d) else d
def flR (d : RD) : Int := if movesB d = true then 0 else 10
def flD (d : RD) : RD := if movesB d = true then flushD (movesD d) else movesD d
def fuR (n : Int) : Int := if n < 0 then 2 else 0
def fuD (d : RD) (n : Int) : RD := if n < 0 then d else fuseD d n
theorem pd_write (w : World) (F : Nat → Prop) (b : Nat) (d : RD) (h : PD w F b d) (n : Int) (c : SB) (hl : ∀ i (hi : i < d.s.length), d.s[i].length < 1000000) :
    Calls Tryd.prog 30 #[.pointer (some ⟨b, 0, none⟩), .int .i64 n, .agg (sec c).toArray] w (PDone w F b (wrR d n) (wrD d n c)) := by
  have h0 := h
  obtain ⟨L, m, D, X, hp, hF⟩ := h
  by_cases ht : thereN d n
  · obtain ⟨i, rfl⟩ := Int.eq_ofNat_of_zero_le ht.1
    have hi : i < d.s.length := by have := ht.2; omega
    cases hm : movesB d with
    | true =>
      have e1 : wrR d (i : Int) = 0 := by unfold wrR; rw [if_pos ht, if_pos hm]
      have e2 : wrD d (i : Int) c = writeD (movesD d) i c := by unfold wrD; rw [if_pos ht, if_pos hm]; rfl
      rw [e1, e2]
      refine (pwrite_any w b m L D X d hp i hi c hm (hl i hi)).mono fun e w' ⟨he, v, D', h1, h2, h3⟩ => ?_
      subst he
      refine PDone.mk' hF h1 (.inl rfl) (fun j hj k hk => ?_) h3 (fun k hk => ?_)
      · have hj' : j < d.s.length := by simpa [writeD, movesD_s] using hj
        unfold putX at hk
        by_cases e : j = i
        · rw [if_pos e] at hk
          rcases h2 with e2 | ⟨g, e2, hg⟩
          · rw [e2] at hk; exact .inl ((hF k).2 (.inr (.inr (.inr ⟨i, hi, hk⟩))))
          · rw [e2] at hk; injection hk with hk; exact .inr (by omega)
        · rw [if_neg e] at hk
          exact .inl ((hF k).2 (.inr (.inr (.inr ⟨j, hj', hk⟩))))
      · rcases hk with rfl | rfl | hk
        · exact (hF _).2 (.inl rfl)
        · exact (hF _).2 (.inr (.inl rfl))
        · exact (hF _).2 (.inr (.inr (.inr ⟨i, hi, hk⟩)))
    | false =>
      have hm' : ¬ movesB d = true := by rw [hm]; simp
      have e1 : wrR d (i : Int) = 10 := by unfold wrR; rw [if_pos ht, if_neg hm']
      have e2 : wrD d (i : Int) c = movesD d := by unfold wrD; rw [if_pos ht, if_neg hm']
      rw [e1, e2]
      refine (pwrite_dead w b m L D X d hp i hi c hm).mono fun e w' ⟨he, h1, h3⟩ => ?_
      subst he
      exact PDone.mk' hF h1 (.inl rfl) (fun j hj k hk => .inl ((hF k).2 (.inr (.inr (.inr ⟨j, by rw [movesD_s] at hj; exact hj, hk⟩))))) h3 (fun k hk => by subst hk; exact (hF _).2 (.inl rfl))
  · have e1 : wrR d n = 2 := by unfold wrR; rw [if_neg ht]
    have e2 : wrD d n c = d := by unfold wrD; rw [if_neg ht]
    rw [e1, e2]
    refine (pwrite_no w _ n 2 c rfl (fun W hW => ?_)).mono fun e w' ⟨he, hb⟩ => ?_
    · have hq := place_any W b m L D X d (hp.below hW) n
      have he : placeE d.s.length n = 2 := if_neg ht
      rw [he] at hq
      exact hq
    · subst he
      exact PDone.same h0 hb

theorem pd_flush (w : World) (F : Nat → Prop) (b : Nat) (d : RD) (h : PD w F b d) : Calls Tryd.prog 18 #[.pointer (some ⟨b, 0, none⟩)] w (PDone w F b (flR d) (flD d)) := by
  obtain ⟨L, m, D, X, hp, hF⟩ := h
  cases hm : movesB d with
  | true =>
    have e1 : flR d = 0 := by unfold flR; rw [if_pos hm]
    have e2 : flD d = flushD (movesD d) := by unfold flD; rw [if_pos hm]
    rw [e1, e2]
    refine (pflush_any w b m L D X d hp hm).mono fun e w' ⟨he, h1, h3⟩ => ?_
    subst he
    refine PDone.mk' hF h1 (.inl rfl) (fun j hj k hk => by cases hk) h3 (fun k hk => ?_)
    rcases hk with rfl | rfl | hk
    · exact (hF _).2 (.inl rfl)
    · exact (hF _).2 (.inr (.inl rfl))
    · exact (hF _).2 (.inr (.inr (.inl hk)))
  | false =>
    have hm' : ¬ movesB d = true := by rw [hm]; simp
    have e1 : flR d = 10 := by unfold flR; rw [if_neg hm']
    have e2 : flD d = movesD d := by unfold flD; rw [if_neg hm']
    rw [e1, e2]
    refine (pflush_dead w b m L D X d hp hm).mono fun e w' ⟨he, h1, h3⟩ => ?_
    subst he
    exact PDone.mk' hF h1 (.inl rfl) (fun j hj k hk => .inl ((hF k).2 (.inr (.inr (.inr ⟨j, by rw [movesD_s] at hj; exact hj, hk⟩))))) h3 (fun k hk => by subst hk; exact (hF _).2 (.inl rfl))

theorem pd_fuse (w : World) (F : Nat → Prop) (b : Nat) (d : RD) (h : PD w F b d) (n : Int) (hn : n ≤ 9223372036854775807) : Calls Tryd.prog 8 #[.pointer (some ⟨b, 0, none⟩), .int .i64 n] w (PDone w F b (fuR n) (fuD d n)) := by
  have h0 := h
  obtain ⟨L, m, D, X, hp, hF⟩ := h
  by_cases h1 : n < 0
  · have e1 : fuR n = 2 := by unfold fuR; rw [if_pos h1]
    have e2 : fuD d n = d := by unfold fuD; rw [if_pos h1]
    rw [e1, e2]
    refine (pfuse_no w b m L D X d hp n h1).mono fun e w' ⟨he, hw⟩ => ?_
    subst he; subst hw
    exact PDone.same h0 (Below.refl _ _)
  · have e1 : fuR n = 0 := by unfold fuR; rw [if_neg h1]
    have e2 : fuD d n = fuseD d n := by unfold fuD; rw [if_neg h1]
    rw [e1, e2]
    refine (pfuse_any w b m L D X d hp n (by omega) hn).mono fun e w' ⟨he, h2, h3⟩ => ?_
    subst he
    exact PDone.mk' hF h2 (.inl rfl) (fun j hj k hk => .inl ((hF k).2 (.inr (.inr (.inr ⟨j, hj, hk⟩))))) h3 (fun k hk => by subst hk; exact (hF _).2 (.inl rfl))

theorem pd_crash (w : World) (F : Nat → Prop) (b : Nat) (d : RD) (h : PD w F b d) (A : Option Addr) (cap : Nat) (picks : List Int) (hs : Shows w w.heap.size A picks.length (nums picks)) (hpc : picks.length ≤ 9223372036854775807) (hpk : ∀ p : Addr, A = some p → 0 < picks.length → ¬ F p.block) :
    Calls Tryd.prog 9 #[.pointer (some ⟨b, 0, none⟩), .slice A picks.length cap] w (PDone w F b 0 (crashD d picks)) := by
  obtain ⟨L, m, D, X, hp, hF⟩ := h
  refine (pcrash_any w b m L D X d hp A cap picks hs hpc (fun p hA h0 hf => hpk p hA h0 ((hF _).2 hf))).mono fun e w' ⟨he, h1, h3⟩ => ?_
  subst he
  refine PDone.mk' hF h1 (.inl rfl) (fun j hj k hk => by cases hk) h3 (fun k hk => ?_)
  rcases hk with rfl | rfl | hk
  · exact (hF _).2 (.inl rfl)
  · exact (hF _).2 (.inr (.inl rfl))
  · exact (hF _).2 (.inr (.inr (.inl hk)))

/-- Read: the sector, and the error -/
def rdR (d : RD) (n : Int) : Int := if thereN d n then 0 else 2
def rdC (d : RD) (n : Int) : SB := if thereN d n then (d.s.getD n.toNat []).getLastD 0 else 0
theorem pd_read (w : World) (F : Nat → Prop) (b : Nat) (d : RD) (h : PD w F b d) (n : Int) : Calls Tryd.prog 24 #[.pointer (some ⟨b, 0, none⟩), .int .i64 n] w fun e w' => e = .returned (.tuple #[.agg (sec (rdC d n)).toArray, .int .i64 (rdR d n)]) ∧ Below w.heap.size w w' := by
  obtain ⟨L, m, D, X, hp, hF⟩ := h
  by_cases ht : thereN d n
  · obtain ⟨i, rfl⟩ := Int.eq_ofNat_of_zero_le ht.1
    have hi : i < d.s.length := by have := ht.2; omega
    have e1 : rdR d (i : Int) = 0 := by unfold rdR; rw [if_pos ht]
    have e2 : rdC d (i : Int) = d.s[i].getLastD 0 := by
      unfold rdC
      rw [if_pos ht]
      show (d.s.getD i []).getLastD 0 = _
      rw [getD_get _ i hi]
    rw [e1, e2]
    exact read_any w b m L D X d hp i hi
  · have e1 : rdR d n = 2 := by unfold rdR; rw [if_neg ht]
    have e2 : rdC d n = 0 := by unfold rdC; rw [if_neg ht]
    rw [e1, e2]
    refine read_no w _ n 2 rfl (fun W hW => ?_)
    have hq := place_any W b m L D X d (hp.below hW) n
    have he : placeE d.s.length n = 2 := if_neg ht
    rw [he] at hq
    exact hq
end Go.Proofs.YtmfcbndgambfmaaDoor.Q
