/- What Pack comes to, in plain mathematics over lists of values; small facts on rows and iterators. -/
import Derived.Test.YtpkbkliblbbdcaaVals
import Derived.Test.YtpkbkliblbbdcaaShape
import Derived.Lib.OthersKept
import Derived.WalkSmall
namespace Go.Proofs.Ytpkbkliblbbdcaa
open Go.RowKit
set_option maxRecDepth 20000

def packZ : List (UInt8 × PV) → Option (List UInt8)
  | [] => some []
  | (c, p) :: l => match enc1 (c.toNat : Int) p with
    | none => none
    | some a => (packZ l).map (a ++ ·)

theorem packZ_snoc (l : List (UInt8 × PV)) (c : UInt8) (p : PV) : packZ (l ++ [(c, p)]) = (packZ l).bind fun a => (enc1 (c.toNat : Int) p).map (a ++ ·) := by
  induction l with
  | nil => simp [packZ]; cases enc1 (c.toNat : Int) p <;> simp
  | cons x l ih =>
    obtain ⟨d, q⟩ := x
    simp only [List.cons_append, packZ]
    cases enc1 (d.toNat : Int) q with
    | none => simp
    | some a => rw [ih]; cases packZ l <;> simp; cases enc1 (c.toNat : Int) p <;> simp
theorem packZ_none (l r : List (UInt8 × PV)) (h : packZ l = none) : packZ (l ++ r) = none := by
  induction l with
  | nil => simp [packZ] at h
  | cons x l ih =>
    obtain ⟨d, q⟩ := x
    simp only [List.cons_append, packZ] at h ⊢
    cases he : enc1 (d.toNat : Int) q with
    | none => rfl
    | some a => rw [he] at h; simp only [Option.map_eq_none_iff] at h; simp [ih h]
theorem enc1_length {c : Int} {p : PV} {a : List UInt8} (h : enc1 c p = some a) : a.length ≤ 16777476 := by
  cases p with
  | num n =>
    have := wid_le c
    simp only [enc1] at h
    split at h
    · injection h with h; subst h; rw [low_length]; omega
    · cases h
  | flag b =>
    simp only [enc1] at h
    split at h
    · injection h with h; subst h; simp
    · cases h
  | blob l =>
    simp only [enc1] at h
    split at h
    · injection h with h; subst h; rw [List.length_append, low_length]; omega
    · cases h
  | block l =>
    simp only [enc1] at h
    split at h
    · injection h with h; subst h; omega
    · cases h
  | other => simp [enc1] at h
theorem packZ_length {l : List (UInt8 × PV)} {a : List UInt8} (h : packZ l = some a) : a.length ≤ 16777476 * l.length := by
  induction l generalizing a with
  | nil => simp [packZ] at h; subst h; simp
  | cons x l ih =>
    obtain ⟨d, q⟩ := x
    simp only [packZ] at h
    cases he : enc1 (d.toNat : Int) q with
    | none => rw [he] at h; cases h
    | some b =>
      rw [he] at h
      simp only [Option.map_eq_some_iff] at h
      obtain ⟨t, ht, rfl⟩ := h
      have := ih ht
      have := enc1_length he
      simp only [List.length_append, List.length_cons]
      omega

/-- what Pack answers: the bytes, or none: refused -/
def packR (s : List UInt8) (ps : List PV) : Option (List UInt8) := if mayS s = true ∧ ps.length = s.length then packZ (s.zip ps) else none

theorem zip_take {α β : Type} (s : List α) (ps : List β) (i : Nat) (h1 : i < s.length) (h2 : i < ps.length) : (s.zip ps).take (i + 1) = (s.zip ps).take i ++ [(s[i], ps[i])] := by
  rw [List.take_succ_eq_append_getElem (by simp; omega), List.getElem_zip]

/-- what Pack leaves -/
def Packed (w : World) (r : Option (List UInt8)) (e : Ending) (w' : World) : Prop :=
  match r with
  | some l => ∃ v, e = .returned (.tuple #[v, .int .i64 0]) ∧ w'.ownsRow w.heap.size 5 1 v l.length (cells8 l) ∧ Below w.heap.size w w'
  | none => e = .returned (.tuple #[.slice none 0 0, .int .i64 2]) ∧ Below w.heap.size w w'

theorem row_iter {w : World} {base n k : Nat} {e : TypeId} {v : Value} {xs : List Value} {s : ByteArray} {pos : Nat} (h : w.ownsRow base e 1 v n xs) (hk : w.heap[k]? = some (.stringIter s pos)) : v.ownBlock ≠ some k := by
  rcases h.2 with ⟨rfl, _⟩ | ⟨g, cap, cur, rfl, _, hh, _⟩
  · simp [Value.ownBlock]
  · intro he
    have : g = k := by simpa [Value.ownBlock] using he
    subst this
    rw [hh] at hk
    cases hk
theorem row_iterAt {w : World} {base n k : Nat} {e : TypeId} {v : Value} {xs : List Value} {s : ByteArray} {pos : Nat} (h : w.ownsRow base e 1 v n xs) (hk : w.heap[k]? = some (.stringIter s pos)) (q : Nat) : (w.iterAt k s q).ownsRow base e 1 v n xs := by
  have hne := row_iter h hk
  refine ⟨h.1, ?_⟩
  rcases h.2 with h2 | ⟨g, cap, cur, rfl, hg, hh, hr⟩
  · exact .inl h2
  · refine .inr ⟨g, cap, cur, rfl, hg, ?_, hr⟩
    rw [Lib.iterAt_other _ _ _ _ _ (fun e => hne (by simp [Value.ownBlock, e]))]
    exact hh
theorem grew_iter {w w' : World} {base n k : Nat} {e : TypeId} {v v' : Value} {xs : List Value} {s : ByteArray} {pos : Nat} (hg : Grew w w' v v') (h : w.ownsRow base e 1 v n xs) (hk : w.heap[k]? = some (.stringIter s pos)) : w'.heap[k]? = some (.stringIter s pos) := by
  rw [hg.by_.block k (Array.getElem?_eq_some_iff.1 hk).1 (fun e => row_iter h hk e.symm)]
  exact hk
theorem IV.below {w w' : World} {B : Nat} {v : Value} {p : PV} (h : IV w B v p) (hb : Below B w w') : IV w' B v p := by
  cases p with
  | blob l => obtain ⟨A, c, e, hs, hc⟩ := h; exact ⟨A, c, e, hs.below hb, hc⟩
  | num n => exact h
  | flag b => exact h
  | block l => exact h
  | other => exact h

theorem mayS_at (s : ByteArray) (pos : Nat) (h : pos < s.size) (hm : mayS (bs s) = true) : ¬ lst ((s[pos]'h).toNat : Int) = 0 := by
  intro h0
  have := mayS_stop (bs s) pos (by rw [bs_length]; exact h) (by rw [bs_get s pos h]; exact h0)
  rw [this] at hm
  cases hm
theorem packZ_at (s : ByteArray) (ps : List PV) (pos : Nat) (h1 : pos < s.size) (h2 : pos < ps.length) : ((bs s).zip ps).take (pos + 1) = ((bs s).zip ps).take pos ++ [(s[pos]'h1, ps[pos])] := by
  rw [zip_take (bs s) ps pos (by rw [bs_length]; exact h1) h2, bs_get s pos h1]
theorem packZ_go (s : ByteArray) (ps : List PV) (pos : Nat) (h1 : pos < s.size) (h2 : pos < ps.length) {acc a : List UInt8} (hp : packZ (((bs s).zip ps).take pos) = some acc) (he : enc1 ((s[pos]'h1).toNat : Int) ps[pos] = some a) :
    packZ (((bs s).zip ps).take (pos + 1)) = some (acc ++ a) := by
  rw [packZ_at s ps pos h1 h2, packZ_snoc, hp]
  simp [he]
theorem packZ_stop (s : ByteArray) (ps : List PV) (pos : Nat) (h1 : pos < s.size) (h2 : pos < ps.length) {acc : List UInt8} (hp : packZ (((bs s).zip ps).take pos) = some acc) (he : enc1 ((s[pos]'h1).toNat : Int) ps[pos] = none) :
    packZ ((bs s).zip ps) = none := by
  rw [← List.take_append_drop (pos + 1) ((bs s).zip ps)]
  apply packZ_none
  rw [packZ_at s ps pos h1 h2, packZ_snoc, hp]
  simp [he]
theorem packZ_bound (s : ByteArray) (ps : List PV) (pos : Nat) {acc : List UInt8} (hp : packZ (((bs s).zip ps).take pos) = some acc) (hs : pos ≤ 1000) : acc.length ≤ 16777476000 := by
  have h := packZ_length hp
  have : (((bs s).zip ps).take pos).length ≤ pos := List.length_take_le _ _
  omega
theorem packZ_all (s : ByteArray) (ps : List PV) {acc : List UInt8} (hp : packZ (((bs s).zip ps).take s.size) = some acc) : packZ ((bs s).zip ps) = some acc := by
  rw [List.take_of_length_le (by simp [bs_length]; omega)] at hp
  exact hp
theorem iterPos_at {w : World} {k : Nat} {s : ByteArray} {p : Nat} (h : w.heap[k]? = some (.stringIter s p)) : w.iterPos k = p := by simp [World.iterPos, h]

end Go.Proofs.Ytpkbkliblbbdcaa
