/- The program's disk: slices.Clone of sectors; a sector's past put whole into a map. -/
import Derived.Test.YtdcfplfeagpcdaaEm
import Derived.Stop.BytesEq
namespace Go.Proofs.Ytdcfplfeagpcdaa
open Go.RowKit

set_option maxRecDepth 10000 in
set_option maxHeartbeats 1000000 in
/-- slices.Clone of sectors: new memory -/
theorem clone_any (w : World) (p : Addr) (l : List UInt8) (c : Nat) (h0 : 0 < l.length) (h8 : l.length ≤ 1000000) (hs : ∀ j u, (secs l)[j]? = some u → w.cell? (p.add j) = some u) :
    Calls Try.prog 30 #[.slice (some p) l.length c] w fun e w' => ∃ v g, e = .returned v ∧ w'.ownsRow w.heap.size 38 64 v l.length (secs l) ∧ v.ownBlock = some g ∧ w.heap.size ≤ g ∧ Below w.heap.size w w' := by
  obtain ⟨i0, hi0, hz0, hz1, hz2⟩ := info_parts sector_info
  have hb1 := (Below.refl w.heap.size w).alloc (Nat.le_refl _) (.cells #[] 38)
  have hown0 : (w.alloc (.cells #[] 38)).ownsRow w.heap.size 38 64 (.slice (some ⟨w.heap.size, 0, none⟩) 0 0) 0 [] := World.ownsRow_made w #[] 0 (Nat.le_refl _) (Nat.zero_le _) rfl
  have hb : ∀ j u, (secs l)[j]? = some u → (w.alloc (.cells #[] 38)).cell? (p.add j) = some u := fun j u hu => by
    have h1 := hs j u hu
    rw [World.cell?_alloc_lt _ _ _ (World.block_lt_of_cell? w _ h1)]
    exact h1
  obtain ⟨v, w4, hrun, hown4, hg4, _, hat⟩ := run_append_own_at (P := Try.prog) (w.alloc (.cells #[] 38)) w.heap.size 66 66 38 i0 (.agg (sec 0).toArray) 64 64 Try.underlying66 hi0 hz0 hz1 hz2 (by show (sec 0).toArray.size = 64; rw [List.size_toArray, sec_len]) (by omega) _ 0 [] hown0 p l.length c (secs l) (by rw [secs_len]) hb (secs_one l) (by unfold maxLen; omega) (by omega) (by simp)
  rw [Nat.zero_add, List.nil_append] at hown4
  have hb4 : Below w.heap.size w w4 := hb1.grown hg4 (by simp) (fun k hk => by injection hk with hk; have hk' : w.heap.size = k := hk; omega)
  have hbk : ∃ g, v.ownBlock = some g ∧ w.heap.size ≤ g := by
    rcases hat with e | e
    · exact ⟨w.heap.size, by rw [e]; rfl, Nat.le_refl _⟩
    · exact ⟨_, e, by simp⟩
  obtain ⟨g, hvg, hgg⟩ := hbk
  have hnil : ∀ w : World, (binOp .eql 66 (.slice (some p) l.length c) (.slice none 0 0)).run Try.prog w = .ok (.bool false) w := fun w => Lib.run_eql_slice_nil w _ _ _ _ _ _ _ Try.underlying66
  have HRUN := Lib.hid hrun
  have HEND : Hid (∃ v' g, v = v' ∧ w4.ownsRow w.heap.size 38 64 v' l.length (secs l) ∧ v'.ownBlock = some g ∧ w.heap.size ≤ g ∧ Below w.heap.size w w4) := Lib.hid ⟨v, g, rfl, hown4, hvg, hgg, hb4⟩
  clear hrun hown4 hg4 hat hb4 hvg hgg hb hown0 hb1 hs
  go_enter Try.func30, Try.ntmps30
  go_wp2_with (first
    | (at_builtin; refine Lib.wpList_append_run _ rfl (.tmp 5) (.tmp 6) 66 66 rfl _ _ rfl rfl _ _ HRUN.out ?_)
    | fail)
  go_ret
  obtain ⟨v', g', rfl, h1, h2, h3, h4⟩ := HEND.out
  exact ⟨v, g', rfl, h1, h2, h3, h4⟩

/-- sector i's past is put whole -/
theorem PMap.puts {w : World} {m n : Nat} {s : List (List UInt8)} {D : DataW Value} {X : Nat → Value} (h : PMap w m s D X) {w5 : World} (i : Nat) (hi : i < s.length) (l : List UInt8) (v : Value) (h1 : 1 < l.length) (hl : l.length ≤ 1000000)
    (own : w5.ownsMap Try.prog 3 rawE m n (D.put (key i) (.held v))) (hrow : w5.ownsRow 0 38 64 v (l.length - 1) (secs l.tail))
    (hold : ∀ j (hj : j < s.length), j ≠ i → w5.ownsRow 0 38 64 (X j) (s[j].length - 1) (secs s[j].tail)) (hap : ∀ j, j < s.length → j ≠ i → ∀ k, (X j).ownBlock = some k → v.ownBlock ≠ some k) :
    PMap w5 m (s.set i l) (D.put (key i) (.held v)) (putX X i v) := by
  have hK : WideAt.IsKeyLit (key i) := trivial
  have hM := h.own.isMap
  have hne : ∀ j, j ≠ i → key j ≠ key i := fun j hj e => hj (key_inj e)
  have hdom : ∀ kl, Maps.has (D.put (key i) (.held v)) kl = true → ∃ j, j < (s.set i l).length ∧ kl = key j := by
    intro kl hk
    by_cases e : kl = key i
    · exact ⟨i, by simpa using hi, e⟩
    · rw [Maps.has_put_other e] at hk
      obtain ⟨j, hj, e⟩ := h.dom kl hk
      exact ⟨j, by simpa using hj, e⟩
  have hhas : ∀ j (hj : j < (s.set i l).length), Maps.has (D.put (key i) (.held v)) (key j) = decide (1 < (s.set i l)[j].length) := by
    intro j hj
    rcases set_at s i j _ hj hi with ⟨rfl, e⟩ | ⟨hji, h2, e⟩
    · rw [e, Maps.has_put_same hM hK, decide_eq_true h1]
    · rw [e, Maps.has_put_other (hne j hji)]
      exact h.has_ j h2
  refine ⟨own_shrink own hdom hhas, hdom, hhas, fun j hj => ?_, fun j hj => ?_, fun j hj => ?_, fun j k hj hk hjk g hg => ?_⟩
  · unfold putX
    by_cases e : j = i
    · subst e
      rw [if_pos rfl, Maps.atKey_put_same hM hK]
    · rw [if_neg e, Maps.atKey_put_other (hne j e)]
      exact h.at_ j (by simpa using hj)
  · rcases set_at s i j _ hj hi with ⟨rfl, e⟩ | ⟨_, h2, e⟩
    · rw [e]; omega
    · rw [e]; exact h.pos j h2
  · unfold putX
    rcases set_at s i j _ hj hi with ⟨rfl, e⟩ | ⟨hji, h2, e⟩
    · rw [if_pos rfl, e]
      exact hrow
    · rw [if_neg hji, e]
      exact hold j h2 hji
  · have hj' : j < s.length := by simpa using hj
    have hk' : k < s.length := by simpa using hk
    unfold putX at hg ⊢
    by_cases e : j = i
    · subst e
      rw [if_pos rfl] at hg
      rw [if_neg (fun e => hjk e.symm)]
      intro hg2
      exact hap k hk' (fun e => hjk e.symm) g hg2 hg
    · rw [if_neg e] at hg
      by_cases e2 : k = i
      · subst e2
        rw [if_pos rfl]
        exact hap j hj' e g hg
      · rw [if_neg e2]
        exact h.apart j k hj' hk' hjk g hg

/-- what the copy's map holds while the disk's is gone over -/
def partS (s : List (List UInt8)) (left : Lit → Bool) : List (List UInt8) := s.mapIdx fun i p => if left (key i) = true then [p.headD 0] else p
theorem part_len (s : List (List UInt8)) (left : Lit → Bool) : (partS s left).length = s.length := by simp [partS]
theorem part_get (s : List (List UInt8)) (left : Lit → Bool) (i : Nat) (h : i < s.length) : (partS s left)[i]'(by rw [part_len]; exact h) = if left (key i) = true then [s[i].headD 0] else s[i] := by simp [partS]
theorem part_start {w : World} {m : Nat} {s : List (List UInt8)} {D : DataW Value} {X : Nat → Value} (h : PMap w m s D X) (i : Nat) (hi : i < (partS s (Maps.has D)).length) : (partS s (Maps.has D))[i].length = 1 := by
  have hi' : i < s.length := by rw [part_len] at hi; exact hi
  rw [part_get s _ i hi', h.has_ i hi']
  by_cases h3 : 1 < s[i].length
  · rw [decide_eq_true h3, if_pos rfl]; rfl
  · rw [decide_eq_false h3, if_neg (by simp)]
    have := (h.pos i hi').1
    omega
theorem part_step (s : List (List UInt8)) (left : Lit → Bool) (i : Nat) (hi : i < s.length) : (partS s left).set i s[i] = partS s (fun z => left z && !z.sameKey (key i)) := by
  have hi' : i < (partS s left).length := by rw [part_len]; exact hi
  apply List.ext_getElem (by rw [List.length_set, part_len, part_len])
  intro j h1 h2
  have hj : j < s.length := by rw [part_len] at h2; exact h2
  rw [part_get s _ j hj]
  rcases set_at _ i j _ h1 hi' with ⟨rfl, e⟩ | ⟨hji, h3, e⟩
  · rw [e, key_same, decide_eq_true rfl]
    simp
  · rw [e, part_get s left j hj, key_same, decide_eq_false hji]
    simp
theorem part_end (s : List (List UInt8)) (left : Lit → Bool) (hl : ∀ kl, left kl = false) : partS s left = s := by
  apply List.ext_getElem (part_len _ _)
  intro i h1 h2
  rw [part_get s left i h2, if_neg (by rw [hl]; simp)]
theorem run_makeMap_hint (n : Int) (w : World) : (Instr.makeMap 65 (some (.int .i64 n))).run Try.prog w = .ok (.map (some w.heap.size)) (w.alloc (.map #[] 0)) := by
  simp [Instr.makeMap, run_underlying Try.underlying65, asInt, asIntOf, Result.andThen]
end Go.Proofs.Ytdcfplfeagpcdaa
