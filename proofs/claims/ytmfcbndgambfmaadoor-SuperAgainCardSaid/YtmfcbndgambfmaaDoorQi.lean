/- The program's disk: what a write leaves. -/
import Derived.Test.YtmfcbndgambfmaaDoorQh
namespace Go.Proofs.YtmfcbndgambfmaaDoor.Q
open Go.RowKit

theorem keys_perm {w : World} {m n : Nat} {D : DataW Value} {s : List (List SB)} (own : w.ownsMap Tryd.prog 3 rawE m n D) (hd : ∀ kl, Maps.has D kl = true → ∃ i, i < s.length ∧ kl = key i) (hh : ∀ i (h : i < s.length), Maps.has D (key i) = decide (1 < s[i].length)) (f : Int) (g : Bool) : (natsI (openL ⟨s, f, g⟩)).Perm (intKeys D) := by
  obtain ⟨es, hD, hpw, _⟩ := own.entries lawI
  obtain ⟨es', hD', hko⟩ := own.keysOf
  obtain rfl : es = es' := by rw [hD] at hD'; simpa using hD'
  subst hD
  refine perm_intKeys hpw (fun p hp => ?_) ?_ (fun x => ?_)
  · obtain ⟨v, hv⟩ := hko p hp
    obtain ⟨x, _, hx, _⟩ := Maps.keyOf_i64 Tryd.underlying3 hv
    exact ⟨x, hx⟩
  · refine List.Pairwise.map _ (fun a b (hab : a < b) => ?_) (openL_lts _)
    omega
  · rw [natsI_mem]
    constructor
    · rintro ⟨k, hk, rfl⟩
      obtain ⟨h1, h2⟩ := (openL_mem _ k).1 hk
      have := hh k h1
      rw [decide_eq_true h2] at this
      exact this
    · intro hx
      obtain ⟨i, hi, e⟩ := hd _ hx
      have e2 : x = (i : Int) := by injection e
      subst e2
      have := hh i hi
      rw [hx] at this
      exact ⟨i, (openL_mem _ i).2 ⟨hi, by simpa using this.symm⟩, rfl⟩
/-- as many entries as there are open sectors: no more than there are sectors -/
theorem own_shrink {w : World} {m n : Nat} {D : DataW Value} {s : List (List SB)} (own : w.ownsMap Tryd.prog 3 rawE m n D) (hd : ∀ kl, Maps.has D kl = true → ∃ i, i < s.length ∧ kl = key i) (hh : ∀ i (h : i < s.length), Maps.has D (key i) = decide (1 < s[i].length)) : w.ownsMap Tryd.prog 3 rawE m s.length D := by
  have hl := (keys_perm own hd hh 0 false).length_eq
  have h1 : (natsI (openL ⟨s, 0, false⟩)).length ≤ s.length := by
    have := openN_le ⟨s, 0, false⟩ s.length
    simp only [natsI, List.length_map]
    exact this
  obtain ⟨es, clock, hb, F, hs, hD⟩ := own
  refine ⟨es, clock, hb, F, ?_, hD⟩
  have h2 : (intKeys D).length = es.size := by
    rw [hD]
    simp only [intKeys, List.length_map]
    exact length_read es
  omega

def putX (X : Nat → Value) (i : Nat) (v : Value) (j : Nat) : Value := if j = i then v else X j
theorem set_at (s : List (List SB)) (i j : Nat) (l : List SB) (hj : j < (s.set i l).length) (hi : i < s.length) : (j = i ∧ (s.set i l)[j] = l) ∨ (j ≠ i ∧ ∃ h : j < s.length, (s.set i l)[j] = s[j]) := by
  by_cases h : j = i
  · subst h
    exact .inl ⟨rfl, by simp⟩
  · refine .inr ⟨h, by simpa using hj, ?_⟩
    rw [List.getElem_set_ne (fun e => h e.symm)]

/-- sector i has one version more -/
theorem PMap.put {w : World} {m n : Nat} {s : List (List SB)} {D : DataW Value} {X : Nat → Value} (h : PMap w m s D X) {w5 : World} (i : Nat) (hi : i < s.length) (c : SB) (v : Value) (hl : s[i].length < 1000000)
    (own : w5.ownsMap Tryd.prog 3 rawE m n (D.put (key i) (.held v))) (hrow : w5.ownsRow 0 64 64 v s[i].length (secs (s[i].tail ++ [c])))
    (hold : ∀ j (hj : j < s.length), j ≠ i → w5.ownsRow 0 64 64 (X j) (s[j].length - 1) (secs s[j].tail)) (hap : ∀ j, j < s.length → j ≠ i → ∀ k, (X j).ownBlock = some k → v.ownBlock ≠ some k) :
    PMap w5 m (s.set i (s[i] ++ [c])) (D.put (key i) (.held v)) (putX X i v) := by
  have hK : WideAt.IsKeyLit (key i) := trivial
  have hM := h.own.isMap
  have hne : ∀ j, j ≠ i → key j ≠ key i := fun j hj e => hj (key_inj e)
  have hp := (h.pos i hi).1
  have hdom : ∀ kl, Maps.has (D.put (key i) (.held v)) kl = true → ∃ j, j < (s.set i (s[i] ++ [c])).length ∧ kl = key j := by
    intro kl hk
    by_cases e : kl = key i
    · exact ⟨i, by simpa using hi, e⟩
    · rw [Maps.has_put_other e] at hk
      obtain ⟨j, hj, e⟩ := h.dom kl hk
      exact ⟨j, by simpa using hj, e⟩
  have hhas : ∀ j (hj : j < (s.set i (s[i] ++ [c])).length), Maps.has (D.put (key i) (.held v)) (key j) = decide (1 < (s.set i (s[i] ++ [c]))[j].length) := by
    intro j hj
    rcases set_at s i j _ hj hi with ⟨rfl, e⟩ | ⟨hji, h1, e⟩
    · rw [e, Maps.has_put_same hM hK]
      have : 1 < (s[j] ++ [c]).length := by rw [List.length_append, List.length_singleton]; omega
      rw [decide_eq_true this]
    · rw [e, Maps.has_put_other (hne j hji)]
      exact h.has_ j h1
  refine ⟨own_shrink own hdom hhas, hdom, hhas, fun j hj => ?_, fun j hj => ?_, fun j hj => ?_, fun j k hj hk hjk g hg => ?_⟩
  · unfold putX
    by_cases e : j = i
    · subst e
      rw [if_pos rfl, Maps.atKey_put_same hM hK]
    · rw [if_neg e, Maps.atKey_put_other (hne j e)]
      exact h.at_ j (by simpa using hj)
  · rcases set_at s i j _ hj hi with ⟨rfl, e⟩ | ⟨_, h1, e⟩
    · rw [e, List.length_append, List.length_singleton]; omega
    · rw [e]; exact h.pos j h1
  · unfold putX
    rcases set_at s i j _ hj hi with ⟨rfl, e⟩ | ⟨hji, h1, e⟩
    · rw [if_pos rfl, e, List.length_append, List.length_singleton, Nat.add_sub_cancel, List.tail_append_of_ne_nil (by intro e0; rw [e0] at hp; simp at hp)]
      exact hrow
    · rw [if_neg hji, e]
      exact hold j h1 hji
  · have hj' : j < s.length := by simpa using hj
    have hk' : k < s.length := by simpa using hk
    unfold putX at hg ⊢
    by_cases e : j = i
    · subst e
      rw [if_pos rfl] at hg
      rw [if_neg (fun e => hjk e.symm)]
      intro hg2
      exact hap k hk' (fun e => hjk e.symm) g hg2 hg
    · rw [if_neg e] at hg
      by_cases e2 : k = i
      · subst e2
        rw [if_pos rfl]
        exact hap j hj' e g hg
      · rw [if_neg e2]
        exact h.apart j k hj' hk' hjk g hg

def writeD (d : RD) (i : Nat) (c : SB) : RD := { d with s := d.s.set i (d.s.getD i [] ++ [c]) }

/-- the append, and the store of its slice into the map -/
theorem PDisk.write {w : World} {b m : Nat} {L : Value} {D : DataW Value} {X : Nat → Value} {d : RD} (h : PDisk w b L m D X d) (i : Nat) (hi : i < d.s.length) (c : SB) (hl : d.s[i].length < 1000000) (q : Nat) (hq : w.rangeAt q 0 (sec c)) (ty : TypeId) :
    ∃ v w4 w5, (Builtin.append_ #[51, 51] ty #[X i, .slice (some ⟨q, 0, none⟩) 1 1]).run Tryd.prog w = .ok v w4 ∧
      (Instr.mapUpdate 52 (.map (some m)) (.int .i64 (i : Int)) v).run Tryd.prog w4 = .ok () w5 ∧
      PDisk w5 b L m (D.put (key i) (.held v)) (putX X i v) (writeD d i c) ∧ (v.ownBlock = (X i).ownBlock ∨ v.ownBlock = some w.heap.size) ∧
      w.grownBy w4 (X i).ownBlock ∧ w4.grownBy w5 (some m) := by
  obtain ⟨i0, hi0, hz0, hz1, hz2⟩ := info_parts sector_info
  have hM := h.map
  have hri := hM.row i hi
  have hp := (hM.pos i hi).1
  obtain ⟨v, w4, hrun, hown4, hg4, _, hat⟩ := run_append_own_at (P := Tryd.prog) w 0 51 ty 64 i0 (.agg (sec 0).toArray) 64 64 Tryd.underlying51 hi0 hz0 hz1 hz2 (by show (sec 0).toArray.size = 64; rw [List.size_toArray, sec_len]) (by omega) (X i) _ _ hri ⟨q, 0, none⟩ 1 1 (sec c) (by rw [sec_len]) (fun j u hu => by rw [Addr.add_mid]; exact hq j u hu) (sec_one c) (by unfold maxLen; omega) (by omega) (Nat.zero_le _)
  have hmne : (X i).ownBlock ≠ some m := h.m_row hri
  have hm4 : w4.heap[m]? = w.heap[m]? := hg4.block m hM.own.lt (fun e => hmne e.symm)
  have hown := map_on hM.own hm4
  have h8 := h.n1
  obtain ⟨w5, hupd, hown5, hg5⟩ := hown.update lawI Tryd.underlying52 (by unfold maxLen; omega) (key_of i (by omega)) (show rawE v = some (.held v, []) from rfl)
  have hsz := hg4.size
  have hblk : ∀ k, k < w.heap.size → (X i).ownBlock ≠ some k → k ≠ m → w5.heap[k]? = w.heap[k]? := by
    intro k hk h1 h2
    rw [hg5.block k (by omega) (fun e => h2 (by injection e)), hg4.block k hk (fun e => h1 e.symm)]
  have hvm : v.ownBlock ≠ some m := by
    rcases hat with e | e
    · rw [e]; exact hmne
    · rw [e]; intro e2; injection e2 with e2; have := hM.own.lt; omega
  have hrow5 : w5.ownsRow 0 64 64 v d.s[i].length (secs (d.s[i].tail ++ [c])) := by
    have h1 : w4.ownsRow 0 64 64 v d.s[i].length (secs (d.s[i].tail ++ [c])) := by
      rw [secs_append, show d.s[i].length = d.s[i].length - 1 + 1 by omega]
      simpa [secs] using hown4
    exact h1.kept hg5 (.inr hvm)
  have hget : d.s.getD i [] = d.s[i] := by simp [List.getD, hi]
  have hmap : PMap w5 m (d.s.set i (d.s[i] ++ [c])) (D.put (key i) (.held v)) (putX X i v) := by
    refine hM.put i hi c v hl hown5 hrow5 (fun j hj hji => rowS_on (hM.row j hj) (fun k hk => ?_)) (fun j hj hji k hk => ?_)
    · exact hblk k (h.kind (.inr (.inr (.inr ⟨j, hj, hk⟩)))).lt (fun e => hM.apart i j hi hj (fun e => hji e.symm) k e hk) (fun e => h.m_row (hM.row j hj) (by rw [hk, e]))
    · rcases hat with e | e
      · rw [e]; intro e2; exact hM.apart i j hi hj (fun e => hji e.symm) k e2 hk
      · rw [e]; intro e2; injection e2 with e2
        have := (h.kind (.inr (.inr (.inr ⟨j, hj, hk⟩)))).lt
        omega
  refine ⟨v, w4, w5, hrun, hupd, ⟨?_, ?_, ?_, ?_, ?_, ?_, h.fz⟩, hat, hg4, hg5⟩
  · rw [hblk b h.lt (fun e => h.b_row hri e) (fun e => h.b_m e.symm)]
    exact h.disk
  · have e : (writeD d i c).s.map (·.headD 0) = d.s.map (·.headD 0) := by
      simp only [writeD, hget]
      apply List.ext_getElem (by simp)
      intro j h1 h2
      have h1' : j < (d.s.set i (d.s[i] ++ [c])).length := by simpa using h1
      rw [List.getElem_map, List.getElem_map]
      rcases set_at d.s i j _ h1' hi with ⟨rfl, e⟩ | ⟨_, h3, e⟩
      · rw [e]
        cases hd : d.s[j] with
        | nil => rw [hd] at hp; simp at hp
        | cons x t => rfl
      · rw [e]
    rw [e]
    exact h.last.on (fun k hk => hblk k (h.kind (.inr (.inr (.inl hk)))).lt (fun e => h.off i hi k e hk) (fun e => h.m_last (by rw [hk, e])))
  · simp only [writeD, hget]
    exact hmap
  · intro j hj k hk
    have hj' : j < d.s.length := by simpa [writeD] using hj
    unfold putX at hk
    by_cases e : j = i
    · rw [if_pos e] at hk
      rcases hat with e2 | e2
      · rw [e2] at hk; exact h.off i hi k hk
      · rw [e2] at hk
        injection hk with hk
        intro e3
        have := (h.kind (.inr (.inr (.inl e3)))).lt
        omega
    · rw [if_neg e] at hk
      exact h.off j hj' k hk
  · simp only [writeD, List.length_set]; exact h.n0
  · simp only [writeD, List.length_set]; exact h8
end Go.Proofs.YtmfcbndgambfmaaDoor.Q
