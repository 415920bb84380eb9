/- DiskCommits: what the disk is, behind so many of its writes; and behind the flushes and the loss of power. -/
import Derived.Test.YtdcfplfeagpcdaaGe
set_option linter.unusedVariables false
namespace Go.Proofs.Ytdcfplfeagpcdaa
open Go.RowKit

/-- sector i's past -/
abbrev pastN (d : RD) (i : Nat) : List UInt8 := d.s.getD i []

/-- behind k of its writes: the fuse held for all, or the disk is dead -/
structure Inv (n : Nat) (fuse : Int) (k : Nat) (want : List UInt8) (d : RD) : Prop where
  len : d.s.length = n
  wl : want.length = n
  fine : Fine d (k + 1)
  first : pastN d 0 = [0]
  on : (k : Int) ≤ fuse → d.dead = false ∧ d.fuse = fuse - k ∧ ∀ i, i < n → pastN d i ≠ [] ∧ (pastN d i).getLastD 0 = want.getD i 0
  off : fuse < (k : Int) → d.dead = true
theorem Inv.start (n : Nat) (fuse : Int) (h : 1 ≤ n ∧ n ≤ 8192) (hf : 0 ≤ fuse) (hf2 : fuse ≤ 9223372036854775807) : Inv n fuse 0 (List.replicate n 0) (fuD (newD n) fuse) := by
  have e : fuD (newD n) fuse = ⟨List.replicate n [0], fuse, false⟩ := by
    unfold fuD
    rw [if_neg (by omega)]
    rfl
  have hp : ∀ i, i < n → pastN ⟨List.replicate n [0], fuse, false⟩ i = [0] := fun i hi => by simp [pastN, List.getD, hi]
  rw [e]
  refine ⟨by simp, by simp, ⟨by simp; omega, by simp; omega, by simp; omega, fun i hi => by simp⟩, hp 0 (by omega), fun _ => ⟨rfl, by simp, fun i hi => ⟨by rw [hp i hi]; simp, by rw [hp i hi]; simp [List.getD, hi]⟩⟩, fun h => by omega⟩
theorem moves_yes {d : RD} (h : d.dead = false) (hf : 0 < d.fuse) : movesB d = true ∧ movesD d = { d with fuse := d.fuse - 1 } := by
  constructor
  · simp only [movesB, h]
    have : (d.fuse == 0) = false := by simp; omega
    simp [this]
  · unfold movesD
    rw [if_neg (by simp [h]; omega), if_pos hf]
theorem moves_no {d : RD} (h : d.dead = true ∨ d.fuse = 0) : movesB d = false ∧ movesD d = { d with dead := true } := by
  constructor
  · unfold movesB
    rcases h with h | h <;> simp [h]
  · unfold movesD
    rw [if_pos h]
theorem past_set (d : RD) (i j : Nat) (l : List UInt8) : (d.s.set i l).getD j [] = if i = j ∧ i < d.s.length then l else pastN d j := by
  unfold pastN
  by_cases h : i = j
  · subst h
    by_cases hl : i < d.s.length
    · rw [if_pos ⟨rfl, hl⟩]; simp [List.getD, hl]
    · rw [if_neg (fun h => hl h.2), List.set_eq_of_length_le (by omega)]
  · rw [if_neg (fun hh => h hh.1)]; simp [List.getD, List.getElem?_set_ne h]
theorem Inv.step {n : Nat} {fuse : Int} {k : Nat} {want : List UInt8} {d : RD} (h : Inv n fuse k want d) (x : ST) (hk : x.kind = 1) (i : Nat) (hx : x.n = (i : Int)) (h0 : 0 < i) (hi : i < n) (hb : x.n ≤ 9223372036854775807) :
    Inv n fuse (k + 1) (want.set i x.fill) (stD d x) := by
  have hfn := h.fine.step (by omega) x hb
  have hst : stD d x = if movesB d = true then writeD (movesD d) i x.fill else movesD d := by
    unfold stD
    rw [if_pos hk]
    unfold wrD
    rw [hx, if_pos ⟨by omega, by have := h.len; omega⟩]
    rfl
  rw [hst] at hfn ⊢
  by_cases hf : (k : Int) + 1 ≤ fuse
  · obtain ⟨o1, o2, o3⟩ := h.on (by omega)
    obtain ⟨m1, m2⟩ := moves_yes o1 (by omega)
    rw [if_pos m1, m2] at hfn ⊢
    have hp : ∀ j, pastN (writeD { d with fuse := d.fuse - 1 } i x.fill) j = if i = j ∧ i < d.s.length then pastN d i ++ [x.fill] else pastN d j := fun j => past_set d i j _
    refine ⟨by simp [writeD, h.len], by simp [h.wl], hfn, ?_, fun _ => ⟨o1, ?_, fun j hj => ?_⟩, fun h => by push_cast at h; omega⟩
    · rw [hp, if_neg (by omega)]; exact h.first
    · show d.fuse - 1 = _
      push_cast
      omega
    · rw [hp]
      obtain ⟨p1, p2⟩ := o3 j hj
      by_cases e : i = j
      · subst e
        rw [if_pos ⟨rfl, by have := h.len; omega⟩]
        exact ⟨by simp, by simp [List.getD, h.wl, hj]⟩
      · rw [if_neg (fun hh => e hh.1)]
        refine ⟨p1, p2.trans ?_⟩
        simp [List.getD, List.getElem?_set_ne e]
  · have hm : d.dead = true ∨ d.fuse = 0 := by
      by_cases hf2 : fuse < (k : Int)
      · exact .inl (h.off hf2)
      · obtain ⟨o1, o2, o3⟩ := h.on (by omega)
        exact .inr (by omega)
    obtain ⟨m1, m2⟩ := moves_no hm
    have m1' : ¬ movesB d = true := by rw [m1]; simp
    rw [if_neg m1', m2] at hfn ⊢
    exact ⟨h.len, by simp [h.wl], hfn, h.first, fun hh => by push_cast at hh; omega, fun _ => rfl⟩

/-- behind all: flushed, the first sector written, flushed, the power lost -/
def endD (d : RD) (last : UInt8) (picks : List Int) : RD := crashD (flD (wrD (flD d) 0 last)) picks
theorem flush_past (d : RD) (i : Nat) (hi : i < d.s.length) : pastN (flushD d) i = [(pastN d i).getLastD 0] := by
  simp [pastN, flushD, List.getD, hi]
theorem single_keep (d : RD) (picks : List Int) (i : Nat) (c : UInt8) (hi : i < d.s.length) (h : pastN d i = [c]) : pastN (crashD d picks) i = [c] := by
  have e : d.s[i]? = some [c] := by
    have : d.s[i]? = some d.s[i] := List.getElem?_eq_getElem hi
    simp only [pastN, List.getD, this, Option.getD_some] at h
    rw [this, h]
  have := crash_keep d picks i (not_open d i [c] e rfl)
  simp only [pastN, List.getD, this, e, Option.getD_some]
theorem flD_dead {d : RD} (h : d.dead = true) : flD d = d := by
  unfold flD
  obtain ⟨m1, m2⟩ := moves_no (.inl h)
  rw [if_neg (by rw [m1]; simp), m2]
  cases d
  simp_all
theorem wrD_dead {d : RD} (h : d.dead = true) (n : Int) (c : UInt8) : wrD d n c = d := by
  unfold wrD
  obtain ⟨m1, m2⟩ := moves_no (.inl h)
  rw [if_neg (show ¬ movesB d = true by rw [m1]; simp), m2]
  have : ({ d with dead := true } : RD) = d := by cases d; simp_all
  rw [this]
  simp
theorem flD_off {d : RD} (h : d.fuse = 0) : flD d = { d with dead := true } := by
  unfold flD
  obtain ⟨m1, m2⟩ := moves_no (.inr h)
  rw [if_neg (by rw [m1]; simp), m2]
theorem flD_on {d : RD} (h : d.dead = false) (hf : 0 < d.fuse) : flD d = flushD { d with fuse := d.fuse - 1 } := by
  unfold flD
  obtain ⟨m1, m2⟩ := moves_yes h hf
  rw [if_pos m1, m2]
theorem wrD_off {d : RD} (h : d.fuse = 0) (hn : 0 < d.s.length) (c : UInt8) : wrD d 0 c = { d with dead := true } := by
  unfold wrD
  obtain ⟨m1, m2⟩ := moves_no (.inr h)
  rw [if_pos ⟨by omega, by omega⟩, if_neg (by rw [m1]; simp), m2]
theorem wrD_on {d : RD} (h : d.dead = false) (hf : 0 < d.fuse) (hn : 0 < d.s.length) (c : UInt8) : wrD d 0 c = writeD { d with fuse := d.fuse - 1 } 0 c := by
  unfold wrD
  obtain ⟨m1, m2⟩ := moves_yes h hf
  rw [if_pos ⟨by omega, by omega⟩, if_pos m1, m2]
  rfl
theorem getD_mem (l : List UInt8) (k : Nat) (h : k < l.length) : l.getD k 0 ∈ l := by
  simp [List.getD, h]
/-- a sector that was gone over has one version, one of those that it had -/
theorem crashS_one (s : List (List UInt8)) (l : List Nat) (picks : List Int) (i : Nat) (hi : i < s.length) (h0 : 0 < (s.getD i []).length) : ∀ j, (∃ k, k < j ∧ l.getD k 0 = i) → ∃ x, x ∈ s.getD i [] ∧ (crashS s l picks j).getD i [] = [x]
  | 0, h => by obtain ⟨k, hk, _⟩ := h; omega
  | j + 1, h => by
    simp only [crashS]
    have hl : i < (crashS s l picks j).length := by rw [crashS_len]; exact hi
    by_cases he : l.getD j 0 = i
    · rw [he]
      have hg : ((crashS s l picks j).set i [((crashS s l picks j).getD i []).getD (pickN picks j ((crashS s l picks j).getD i []).length) 0]).getD i [] = [((crashS s l picks j).getD i []).getD (pickN picks j ((crashS s l picks j).getD i []).length) 0] := by simp [List.getD, hl]
      rw [hg]
      by_cases hk : ∃ k, k < j ∧ l.getD k 0 = i
      · obtain ⟨x, hx, e⟩ := crashS_one s l picks i hi h0 j hk
        refine ⟨x, hx, ?_⟩
        rw [e]
        have := pickN_lt picks j 1 (by omega)
        have hz : pickN picks j [x].length = 0 := by simp only [List.length_singleton]; omega
        rw [hz]
        rfl
      · have e : (crashS s l picks j).getD i [] = s.getD i [] := by
          have := crashS_at s l picks i j (fun k hk' e => hk ⟨k, hk', e⟩)
          simp only [List.getD, this]
        rw [e]
        exact ⟨_, getD_mem _ _ (pickN_lt picks j _ h0), rfl⟩
    · obtain ⟨k, hk, e⟩ := h
      have hkj : k ≠ j := fun e2 => he (by rw [← e2]; exact e)
      obtain ⟨x, hx, e2⟩ := crashS_one s l picks i hi h0 j ⟨k, by omega, e⟩
      refine ⟨x, hx, ?_⟩
      rw [← e2]
      show (List.set _ _ _)[i]?.getD [] = _
      rw [List.getElem?_set_ne he]
      rfl
theorem crash_first (d : RD) (picks : List Int) (a b : UInt8) (hn : 0 < d.s.length) (h : pastN d 0 = [a, b]) : pastN (crashD d picks) 0 = [a] ∨ pastN (crashD d picks) 0 = [b] := by
  have hm : 0 ∈ openL d := (openL_mem d 0).2 ⟨hn, by
    have : d.s.getD 0 [] = [a, b] := h
    simp [List.getD, hn] at this
    rw [this]; simp⟩
  obtain ⟨k, hk, e⟩ := List.getElem_of_mem hm
  obtain ⟨x, hx, e2⟩ := crashS_one d.s (openL d) picks 0 hn (by rw [show d.s.getD 0 [] = [a, b] from h]; simp) (openL d).length ⟨k, hk, by simp [List.getD, hk, e]⟩
  rw [show d.s.getD 0 [] = [a, b] from h] at hx
  simp at hx
  rcases hx with rfl | rfl
  · exact .inl e2
  · exact .inr e2

theorem Inv.last {n : Nat} {fuse : Int} {k : Nat} {want : List UInt8} {d : RD} (h : Inv n fuse k want d) (last : UInt8) (picks : List Int) (hn : 0 < n) :
    (endD d last picks).s.length = n ∧ ∃ c : UInt8, rdC (endD d last picks) 0 = c ∧ (c = 0 ∨ c = last) ∧ ((k : Int) + 3 ≤ fuse → c = last) ∧ (((k : Int) + 1 ≤ fuse ∨ (c = last ∧ last ≠ 0)) → ∀ i, 0 < i → i < n → rdC (endD d last picks) (i : Int) = want.getD i 0) := by
  have hlen := h.len
  have hr : ∀ (e : RD) (i : Nat) (c : UInt8), i < e.s.length → pastN e i = [c] → rdC e (i : Int) = c := fun e i c hi hp => by
    unfold rdC
    rw [if_pos ⟨by omega, by omega⟩]
    show (pastN e i).getLastD 0 = c
    rw [hp]
    rfl
  have hend : (endD d last picks).s.length = (flD (wrD (flD d) 0 last)).s.length := crash_len _ _
  by_cases hf : (k : Int) + 1 ≤ fuse
  · obtain ⟨o1, o2, o3⟩ := h.on (by omega)
    have e1 := flD_on o1 (by omega)
    have p1 : ∀ i, i < n → pastN (flushD { d with fuse := d.fuse - 1 }) i = [want.getD i 0] := fun i hi => by
      rw [flush_past _ _ (by rw [hlen]; exact hi)]
      show [(pastN d i).getLastD 0] = _
      rw [(o3 i hi).2]
    have w0 : want.getD 0 0 = 0 := by rw [← (o3 0 hn).2, h.first]; rfl
    have l1 : (flushD { d with fuse := d.fuse - 1 }).s.length = n := by simp [flushD, hlen]
    by_cases hf2 : (k : Int) + 2 ≤ fuse
    · have e2 : wrD (flD d) 0 last = writeD { flushD { d with fuse := d.fuse - 1 } with fuse := d.fuse - 1 - 1 } 0 last := by
        rw [e1]
        exact wrD_on (d := flushD { d with fuse := d.fuse - 1 }) o1 (by show 0 < d.fuse - 1; omega) (by omega) last
      have l2 : (writeD { flushD { d with fuse := d.fuse - 1 } with fuse := d.fuse - 1 - 1 } 0 last).s.length = n := by simp [writeD, flushD, hlen]
      have p2 : ∀ i, 0 < i → i < n → pastN (writeD { flushD { d with fuse := d.fuse - 1 } with fuse := d.fuse - 1 - 1 } 0 last) i = [want.getD i 0] := fun i h0 hi => by
        have := past_set (flushD { d with fuse := d.fuse - 1 }) 0 i (pastN (flushD { d with fuse := d.fuse - 1 }) 0 ++ [last])
        rw [if_neg (by omega), p1 i hi] at this
        exact this
      have p20 : pastN (writeD { flushD { d with fuse := d.fuse - 1 } with fuse := d.fuse - 1 - 1 } 0 last) 0 = [0, last] := by
        have := past_set (flushD { d with fuse := d.fuse - 1 }) 0 0 (pastN (flushD { d with fuse := d.fuse - 1 }) 0 ++ [last])
        rw [if_pos ⟨rfl, by omega⟩] at this
        exact this.trans (by rw [p1 0 hn, w0]; rfl)
      by_cases hf3 : (k : Int) + 3 ≤ fuse
      · have e3 := flD_on (d := writeD { flushD { d with fuse := d.fuse - 1 } with fuse := d.fuse - 1 - 1 } 0 last) o1 (by show 0 < d.fuse - 1 - 1; omega)
        have hE : endD d last picks = crashD (flushD { writeD { flushD { d with fuse := d.fuse - 1 } with fuse := d.fuse - 1 - 1 } 0 last with fuse := d.fuse - 1 - 1 - 1 }) picks := by
          unfold endD
          rw [e2, e3]
          rfl
        have l3 : (flushD { writeD { flushD { d with fuse := d.fuse - 1 } with fuse := d.fuse - 1 - 1 } 0 last with fuse := d.fuse - 1 - 1 - 1 }).s.length = n := by rw [← l2]; simp [flushD]
        have p3 : ∀ i, i < n → pastN (flushD { writeD { flushD { d with fuse := d.fuse - 1 } with fuse := d.fuse - 1 - 1 } 0 last with fuse := d.fuse - 1 - 1 - 1 }) i = [(pastN (writeD { flushD { d with fuse := d.fuse - 1 } with fuse := d.fuse - 1 - 1 } 0 last) i).getLastD 0] := fun i hi => flush_past _ _ (by rw [← l2] at hi; exact hi)
        rw [hE]
        have q : ∀ i, i < n → rdC (crashD (flushD { writeD { flushD { d with fuse := d.fuse - 1 } with fuse := d.fuse - 1 - 1 } 0 last with fuse := d.fuse - 1 - 1 - 1 }) picks) (i : Int) = (pastN (writeD { flushD { d with fuse := d.fuse - 1 } with fuse := d.fuse - 1 - 1 } 0 last) i).getLastD 0 := fun i hi => hr _ _ _ (by rw [crash_len, l3]; exact hi) (single_keep _ _ _ _ (by rw [l3]; exact hi) (p3 i hi))
        have q0 := q 0 hn
        rw [p20] at q0
        refine ⟨by rw [crash_len, l3], last, q0, .inr rfl, fun _ => rfl, fun _ i h0 hi => ?_⟩
        rw [q i hi, p2 i h0 hi]
        rfl
      · have e3 := flD_off (d := writeD { flushD { d with fuse := d.fuse - 1 } with fuse := d.fuse - 1 - 1 } 0 last) (by show d.fuse - 1 - 1 = 0; omega)
        have hE : endD d last picks = crashD { writeD { flushD { d with fuse := d.fuse - 1 } with fuse := d.fuse - 1 - 1 } 0 last with dead := true } picks := by
          unfold endD
          rw [e2, e3]
        rw [hE]
        refine ⟨by rw [crash_len]; exact l2, ?_⟩
        have hp0 := crash_first { writeD { flushD { d with fuse := d.fuse - 1 } with fuse := d.fuse - 1 - 1 } 0 last with dead := true } picks 0 last (by show 0 < (writeD _ _ _).s.length; rw [l2]; exact hn) p20
        have hq : ∀ i, 0 < i → i < n → rdC (crashD { writeD { flushD { d with fuse := d.fuse - 1 } with fuse := d.fuse - 1 - 1 } 0 last with dead := true } picks) (i : Int) = want.getD i 0 := fun i h0 hi => hr _ _ _ (by rw [crash_len]; show i < (writeD _ _ _).s.length; rw [l2]; exact hi) (single_keep _ _ _ _ (by show i < (writeD _ _ _).s.length; rw [l2]; exact hi) (p2 i h0 hi))
        have hl0 : 0 < (crashD { writeD { flushD { d with fuse := d.fuse - 1 } with fuse := d.fuse - 1 - 1 } 0 last with dead := true } picks).s.length := by rw [crash_len]; show 0 < (writeD _ _ _).s.length; rw [l2]; exact hn
        rcases hp0 with hp0 | hp0
        · exact ⟨0, hr _ 0 _ hl0 hp0, .inl rfl, fun h => by omega, fun _ => hq⟩
        · exact ⟨last, hr _ 0 _ hl0 hp0, .inr rfl, fun h => by omega, fun _ => hq⟩
    · have e2 : wrD (flD d) 0 last = { flushD { d with fuse := d.fuse - 1 } with dead := true } := by
        rw [e1]
        exact wrD_off (d := flushD { d with fuse := d.fuse - 1 }) (by show d.fuse - 1 = 0; omega) (by omega) last
      have hE : endD d last picks = crashD { flushD { d with fuse := d.fuse - 1 } with dead := true } picks := by
        unfold endD
        rw [e2, flD_dead rfl]
      rw [hE]
      have hq : ∀ i, i < n → rdC (crashD { flushD { d with fuse := d.fuse - 1 } with dead := true } picks) (i : Int) = want.getD i 0 := fun i hi => hr _ _ _ (by rw [crash_len]; show i < (flushD _).s.length; rw [l1]; exact hi) (single_keep _ _ _ _ (by show i < (flushD _).s.length; rw [l1]; exact hi) (p1 i hi))
      have q0 := hq 0 hn
      rw [w0] at q0
      exact ⟨by rw [crash_len]; exact l1, 0, q0, .inl rfl, fun h => by omega, fun _ i h0 hi => hq i hi⟩
  · have e1 : (flD d).dead = true ∧ (flD d).s = d.s := by
      by_cases hf2 : fuse < (k : Int)
      · rw [flD_dead (h.off hf2)]; exact ⟨h.off hf2, rfl⟩
      · obtain ⟨o1, o2, o3⟩ := h.on (by omega)
        rw [flD_off (by omega)]; exact ⟨rfl, rfl⟩
    have hE : endD d last picks = crashD (flD d) picks := by
      unfold endD
      rw [wrD_dead e1.1, flD_dead e1.1]
    rw [hE]
    have hl : (flD d).s.length = n := by rw [e1.2]; exact hlen
    have hp : pastN (flD d) 0 = [0] := by unfold pastN; rw [e1.2]; exact h.first
    have q0 := hr _ 0 _ (by rw [crash_len, hl]; exact hn) (single_keep (flD d) picks 0 0 (by rw [hl]; exact hn) hp)
    refine ⟨by rw [crash_len, hl], 0, q0, .inl rfl, fun h => by omega, fun hh => ?_⟩
    rcases hh with hh | ⟨h1, h2⟩
    · exact absurd hh hf
    · exact absurd h1.symm h2
end Go.Proofs.Ytdcfplfeagpcdaa
