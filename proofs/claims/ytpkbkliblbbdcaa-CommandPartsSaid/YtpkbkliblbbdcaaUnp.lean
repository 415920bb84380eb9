/- What Unpack comes to, in plain mathematics; what is kept of unpacked values while memory grows. -/
import Derived.Test.YtpkbkliblbbdcaaCutv
namespace Go.Proofs.Ytpkbkliblbbdcaa
open Go.RowKit
set_option maxRecDepth 20000

def unpZ : List UInt8 → List UInt8 → Option (List PV × Nat)
  | [], _ => some ([], 0)
  | c :: s, l => match dec1 (c.toNat : Int) l with
    | none => none
    | some (p, k) => (unpZ s (l.drop k)).map fun r => (p :: r.1, k + r.2)

theorem unpZ_snoc (s : List UInt8) (c : UInt8) (l : List UInt8) : unpZ (s ++ [c]) l = (unpZ s l).bind fun r => (dec1 (c.toNat : Int) (l.drop r.2)).map fun q => (r.1 ++ [q.1], r.2 + q.2) := by
  induction s generalizing l with
  | nil =>
    simp only [List.nil_append, unpZ, Option.bind_some, List.drop_zero]
    cases dec1 (c.toNat : Int) l with
    | none => rfl
    | some q => simp
  | cons d s ih =>
    simp only [List.cons_append, unpZ]
    cases dec1 (d.toNat : Int) l with
    | none => rfl
    | some q =>
      simp only [ih]
      cases unpZ s (l.drop q.2) with
      | none => rfl
      | some r =>
        simp only [Option.bind_some, Option.map_some, List.drop_drop]
        cases dec1 (c.toNat : Int) (l.drop (q.2 + r.2)) with
        | none => rfl
        | some t => simp [Nat.add_assoc]
theorem unpZ_none (s r l : List UInt8) (h : unpZ s l = none) : unpZ (s ++ r) l = none := by
  induction s generalizing l with
  | nil => simp [unpZ] at h
  | cons d s ih =>
    simp only [List.cons_append, unpZ] at h ⊢
    cases hd : dec1 (d.toNat : Int) l with
    | none => rfl
    | some q => rw [hd] at h; simp only [Option.map_eq_none_iff] at h; simp [ih _ h]
theorem dec1_bounds {c : Int} {l : List UInt8} {p : PV} {k : Nat} (h : dec1 c l = some (p, k)) : lst c ≤ k ∧ k ≤ l.length := by
  unfold dec1 at h
  split at h
  · cases h
  · rename_i hs
    split at h
    · subst c; rw [lst_63] at hs ⊢
      split at h
      · cases h
      · injection h with h; injection h with _ h; omega
    · split at h
      · subst c; rw [lst_42] at hs ⊢
        split at h
        · cases h
        · injection h with h; injection h with _ h; omega
      · split at h
        · subst c; rw [lst_35] at hs ⊢
          injection h with h; injection h with _ h; omega
        · have hw := wid_le c
          rw [lst_num c (by assumption) (by assumption) (by assumption)] at hs ⊢
          injection h with h; injection h with _ h; omega
theorem unpZ_bounds {s l : List UInt8} {ps : List PV} {n : Nat} (h : unpZ s l = some (ps, n)) : leastS s ≤ n ∧ n ≤ l.length ∧ ps.length = s.length := by
  induction s generalizing l ps n with
  | nil => simp only [unpZ, Option.some.injEq, Prod.mk.injEq] at h; obtain ⟨rfl, rfl⟩ := h; simp [leastS]
  | cons c s ih =>
    simp only [unpZ] at h
    cases hd : dec1 (c.toNat : Int) l with
    | none => rw [hd] at h; cases h
    | some q =>
      obtain ⟨p, k⟩ := q
      rw [hd] at h
      simp only [Option.map_eq_some_iff] at h
      obtain ⟨⟨r1, r2⟩, hr, he⟩ := h
      simp only [Prod.mk.injEq] at he
      obtain ⟨rfl, rfl⟩ := he
      have h1 := dec1_bounds hd
      have h2 := ih hr
      rw [List.length_drop] at h2
      simp only [leastS, List.length_cons]
      omega

/-- what is kept of values: blocks of bytes stay -/
def BytesKept (w w' : World) : Prop := ∀ (g : Nat) (cur : Array Value), w.heap[g]? = some (.cells cur 5 (0, 0)) → w'.heap[g]? = some (.cells cur 5 (0, 0))
theorem BytesKept.refl (w : World) : BytesKept w w := fun _ _ h => h
theorem BytesKept.trans {a b c : World} (h : BytesKept a b) (k : BytesKept b c) : BytesKept a c := fun g cur hg => k g cur (h g cur hg)
theorem BytesKept.below {w w' : World} (h : Below w.heap.size w w') : BytesKept w w' := fun g _ hg => by
  rw [h.block g (Array.getElem?_eq_some_iff.1 hg).1]; exact hg
theorem BytesKept.alloc (w : World) (o : Obj) : BytesKept w (w.alloc o) := fun g _ hg => by
  rw [Below.heap_alloc w o g (Array.getElem?_eq_some_iff.1 hg).1]; exact hg
theorem BytesKept.iterAt {w : World} {k : Nat} {s : ByteArray} {pos : Nat} (hk : w.heap[k]? = some (.stringIter s pos)) (q : Nat) : BytesKept w (w.iterAt k s q) := fun g cur hg => by
  rw [Lib.iterAt_other _ _ _ _ _ (fun e => by subst e; rw [hg] at hk; cases hk)]; exact hg
theorem BytesKept.grew {w w' : World} {v v' : Value} {base n : Nat} {e : TypeId} {xs : List Value} (hg : Grew w w' v v') (ho : w.ownsRow base e 1 v n xs) (he : e ≠ 5) : BytesKept w w' := fun g cur hh => by
  rw [hg.by_.block g (Array.getElem?_eq_some_iff.1 hh).1 ?_]
  · exact hh
  · intro heq
    rcases ho.2 with ⟨rfl, _⟩ | ⟨g', cap, cur', rfl, _, hh', _⟩
    · simp [Value.ownBlock] at heq
    · have : g = g' := by simpa [Value.ownBlock] using heq
      subst this
      rw [hh] at hh'
      injection hh' with hh'
      injection hh' with _ ht
      exact he ht.symm
theorem OV.kept {w w' : World} {B : Nat} {v : Value} {p : PV} (h : OV w B v p) (hk : BytesKept w w') : OV w' B v p := by
  cases p with
  | blob l =>
    obtain ⟨A, c, e, ho, hl⟩ := h
    refine ⟨A, c, e, ⟨ho.1, ?_⟩, hl⟩
    rcases ho.2 with h2 | ⟨g, cap, cur, hv, hb, hh, hr⟩
    · exact .inl h2
    · exact .inr ⟨g, cap, cur, hv, hb, hk g cur hh, hr⟩
  | num n => exact h
  | flag b => exact h
  | block l => exact h
  | other => exact h
theorem OV.mono {w : World} {B C : Nat} {v : Value} {p : PV} (h : OV w B v p) (hC : C ≤ B) : OV w C v p := by
  cases p with
  | blob l =>
    obtain ⟨A, c, e, ho, hl⟩ := h
    refine ⟨A, c, e, ⟨ho.1, ?_⟩, hl⟩
    rcases ho.2 with h2 | ⟨g, cap, cur, hv, hb, hh, hr⟩
    · exact .inl h2
    · exact .inr ⟨g, cap, cur, hv, Nat.le_trans hC hb, hh, hr⟩
  | num n => exact h
  | flag b => exact h
  | block l => exact h
  | other => exact h
theorem OV.one {w : World} {B : Nat} {v : Value} {p : PV} (h : OV w B v p) : v.oneCell' = true := by
  cases p with
  | blob l => obtain ⟨A, c, rfl, _⟩ := h; rfl
  | num n => obtain ⟨rfl, _⟩ := h; rfl
  | flag b => obtain rfl := h; rfl
  | block l => obtain ⟨rfl, _⟩ := h; rfl
  | other => obtain ⟨n, rfl⟩ := h; rfl

theorem OV.form {w : World} {B : Nat} {v : Value} {p : PV} (h : OV w B v p) : ∃ T x, v = .iface T x := by
  cases p with
  | blob l => obtain ⟨A, c, rfl, _⟩ := h; exact ⟨_, _, rfl⟩
  | num n => obtain ⟨rfl, _⟩ := h; exact ⟨_, _, rfl⟩
  | flag b => obtain rfl := h; exact ⟨_, _, rfl⟩
  | block l => obtain ⟨rfl, _⟩ := h; exact ⟨_, _, rfl⟩
  | other => obtain ⟨n, rfl⟩ := h; exact ⟨_, _, rfl⟩

/-- a list of interface values and what they are -/
def AllOV (w : World) (B : Nat) (vs : List Value) (ps : List PV) : Prop := vs.length = ps.length ∧ ∀ i (h : i < ps.length), ∃ x, vs[i]? = some x ∧ OV w B x ps[i]
theorem AllOV.nil (w : World) (B : Nat) : AllOV w B [] [] := ⟨rfl, fun i h => absurd h (by simp)⟩
theorem AllOV.kept {w w' : World} {B : Nat} {vs : List Value} {ps : List PV} (h : AllOV w B vs ps) (hk : BytesKept w w') : AllOV w' B vs ps :=
  ⟨h.1, fun i hi => by obtain ⟨x, hx, ho⟩ := h.2 i hi; exact ⟨x, hx, ho.kept hk⟩⟩
theorem AllOV.snoc {w : World} {B : Nat} {vs : List Value} {ps : List PV} {v : Value} {p : PV} (h : AllOV w B vs ps) (hv : OV w B v p) : AllOV w B (vs ++ [v]) (ps ++ [p]) := by
  refine ⟨by simp [h.1], fun i hi => ?_⟩
  rcases Nat.lt_or_ge i ps.length with hlt | hge
  · obtain ⟨x, hx, ho⟩ := h.2 i hlt
    refine ⟨x, ?_, ?_⟩
    · rw [List.getElem?_append_left (by rw [h.1]; exact hlt)]; exact hx
    · rw [List.getElem_append_left hlt]; exact ho
  · have : i = ps.length := by simp at hi; omega
    subst this
    refine ⟨v, ?_, ?_⟩
    · rw [← h.1]; simp
    · simpa using hv

/-- what Unpack leaves -/
def Unpacked (w : World) (s l : List UInt8) (e : Ending) (w' : World) : Prop :=
  Below w.heap.size w w' ∧ if mayS s = true then
    match unpZ s l with
    | none => e = .returned (.tuple #[.slice none 0 0, .int .i64 0, .int .i64 4])
    | some (ps, n) => ∃ v vs, e = .returned (.tuple #[v, .int .i64 (n : Int), .int .i64 0]) ∧ w'.ownsRow w.heap.size 20 1 v ps.length vs ∧ AllOV w' w.heap.size vs ps
  else e = .returned (.tuple #[.slice none 0 0, .int .i64 0, .int .i64 2])
theorem unpacked_arg {w w' : World} {s l : List UInt8} {e : Ending} (hb : Below w.heap.size w w') (hm : mayS s = false) (he : e = .returned (.tuple #[.slice none 0 0, .int .i64 0, .int .i64 2])) : Unpacked w s l e w' :=
  ⟨hb, by rw [if_neg (by rw [hm]; decide)]; exact he⟩
theorem unpacked_none {w w' : World} {s l : List UInt8} {e : Ending} (hb : Below w.heap.size w w') (hm : mayS s = true) (hu : unpZ s l = none) (he : e = .returned (.tuple #[.slice none 0 0, .int .i64 0, .int .i64 4])) : Unpacked w s l e w' :=
  ⟨hb, by rw [if_pos hm, hu]; exact he⟩
theorem unpacked_some {w w' : World} {s l : List UInt8} {e : Ending} {ps : List PV} {n : Nat} {v : Value} {vs : List Value} (hb : Below w.heap.size w w') (hm : mayS s = true) (hu : unpZ s l = some (ps, n)) (he : e = .returned (.tuple #[v, .int .i64 (n : Int), .int .i64 0]))
    (ho : w'.ownsRow w.heap.size 20 1 v ps.length vs) (ha : AllOV w' w.heap.size vs ps) : Unpacked w s l e w' :=
  ⟨hb, by rw [if_pos hm, hu]; exact ⟨v, vs, he, ho, ha⟩⟩

end Go.Proofs.Ytpkbkliblbbdcaa
