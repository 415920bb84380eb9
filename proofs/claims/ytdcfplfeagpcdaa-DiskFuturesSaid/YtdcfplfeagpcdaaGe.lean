/- What is read behind steps: facts of numbers for DiskAdds, and the program's disk with the document's at Grow. -/
import Derived.Test.YtdcfplfeagpcdaaGd
set_option linter.unusedVariables false
namespace Go.Proofs.Ytdcfplfeagpcdaa
open Go.RowKit

theorem crashS_at (s : List (List UInt8)) (l : List Nat) (picks : List Int) (i : Nat) : ∀ j, (∀ k, k < j → l.getD k 0 ≠ i) → (crashS s l picks j)[i]? = s[i]?
  | 0, _ => rfl
  | j + 1, h => by
    simp only [crashS]
    rw [List.getElem?_set_ne (h j (by omega))]
    exact crashS_at s l picks i j (fun k hk => h k (by omega))
theorem crash_keep (d : RD) (picks : List Int) (i : Nat) (h : i ∉ openL d) : (crashD d picks).s[i]? = d.s[i]? :=
  crashS_at d.s (openL d) picks i _ fun k hk e => h (by
    rw [← e]
    simp [List.getD, hk])
theorem crash_len (d : RD) (picks : List Int) : (crashD d picks).s.length = d.s.length := crashS_len _ _ _ _
theorem not_open (d : RD) (i : Nat) (l : List UInt8) (h : d.s[i]? = some l) (hl : l.length = 1) : i ∉ openL d := fun ho => by
  obtain ⟨hk, h1⟩ := (openL_mem d i).1 ho
  rw [List.getElem?_eq_getElem hk] at h
  injection h with h
  rw [h] at h1
  omega

/-- a living disk with no fuse; sector i's past -/
structure At (d : RD) (n i : Nat) (l : List UInt8) : Prop where
  len : d.s.length = n
  val : d.s[i]? = some l
  fz : d.fuse = -1
  dd : d.dead = false
theorem At.lt {d : RD} {n i : Nat} {l : List UInt8} (h : At d n i l) : i < d.s.length := (List.getElem?_eq_some_iff.1 h.val).1
theorem At.there {d : RD} {n i : Nat} {l : List UInt8} (h : At d n i l) : thereN d (i : Int) := ⟨by omega, by have := h.lt; omega⟩
theorem At.moves {d : RD} {n i : Nat} {l : List UInt8} (h : At d n i l) : movesB d = true ∧ movesD d = d := by
  constructor
  · simp [movesB, h.fz, h.dd]
  · simp [movesD, h.fz, h.dd]
theorem At.rr {d : RD} {n i : Nat} {l : List UInt8} (h : At d n i l) : rdR d (i : Int) = 0 := by unfold rdR; rw [if_pos h.there]
theorem At.rc {d : RD} {n i : Nat} {l : List UInt8} (h : At d n i l) : rdC d (i : Int) = l.getLastD 0 := by
  unfold rdC
  rw [if_pos h.there]
  show (d.s.getD i []).getLastD 0 = _
  have := h.val
  simp only [List.getD, this, Option.getD_some]
theorem At.wr {d : RD} {n i : Nat} {l : List UInt8} (h : At d n i l) (c : UInt8) : wrR d (i : Int) = 0 ∧ At (wrD d (i : Int) c) n i (l ++ [c]) := by
  unfold wrR wrD
  rw [if_pos h.there, if_pos h.there, if_pos h.moves.1, if_pos h.moves.1, h.moves.2]
  refine ⟨rfl, by simp [writeD, h.len], ?_, h.fz, h.dd⟩
  show (d.s.set i _)[i]? = _
  rw [List.getElem?_set_self h.lt]
  show some (d.s[i]?.getD [] ++ [c]) = _
  rw [h.val]
  rfl
theorem At.fl {d : RD} {n i : Nat} {l : List UInt8} (h : At d n i l) : flR d = 0 ∧ At (flD d) n i [l.getLastD 0] := by
  unfold flR flD
  rw [if_pos h.moves.1, if_pos h.moves.1, h.moves.2]
  refine ⟨rfl, by simp [flushD, h.len], ?_, h.fz, h.dd⟩
  show (d.s.map _)[i]? = _
  rw [List.getElem?_map, h.val]
  rfl
theorem crash_at {d : RD} {i : Nat} {l : List UInt8} (h : d.s[i]? = some l) (hl : l.length = 1) (picks : List Int) : At (crashD d picks) d.s.length i l :=
  ⟨crash_len d picks, by rw [crash_keep d picks i (not_open d i l h hl), h], rfl, rfl⟩
theorem At.cr {d : RD} {n i : Nat} {l : List UInt8} (h : At d n i l) (hl : l.length = 1) (picks : List Int) : At (crashD d picks) n i l := by
  have := crash_at h.val hl picks
  rw [h.len] at this
  exact this
theorem more_last (d : RD) (k : Nat) (i : Nat) (h1 : d.s.length ≤ i) (h2 : i < d.s.length + k) : (moreD d k).s[i]? = some [0] := by
  show (d.s ++ List.replicate k [0])[i]? = _
  rw [List.getElem?_append_right h1, List.getElem?_replicate, if_pos (by omega)]

theorem BB.grow {w W : World} {b br : Nat} {d1 d2 : RD} (h : BB w W b br d1 d2) (n : Int) :
    Calls Try.prog 37 #[.pointer (some ⟨b, 0, none⟩), .int .i64 n] W fun e w' => e = .returned (.int .i64 (grR d1 n)) ∧ BB w w' b br (grD d1 n) d2 := by
  obtain ⟨F, v, h1, h2, h3, h4⟩ := h
  exact (pd_grow W F b d1 h1 n).mono fun e w' hp => ⟨hp.1, BB.pdone h1 h2 h3 h4 hp⟩
theorem BB.rgrow {w W : World} {b br : Nat} {d1 d2 : RD} (h : BB w W b br d1 d2) (n : Int) {k : Nat} (hf : Fine d2 k) (hk : k < 1000000) :
    Calls Try.prog 25 #[.pointer (some ⟨br, 0, none⟩), .agg #[.int .i64 5, .int .i64 n, .int .u8 0, .slice none 0 0]] W fun e w' => e = .returned (.int .i64 (grR d2 n)) ∧ BB w w' b br d1 (grD d2 n) :=
  h.do2 ⟨5, n, 0, []⟩ none 0 hf hk (Shows.empty _ _ _) (by simp)
theorem BB.rc0 {w W : World} {b br : Nat} {d1 d2 : RD} (h : BB w W b br d1 d2) : ∃ A c, W.cell? ⟨br, 0, none⟩ = some (.slice A d2.s.length c) := by
  obtain ⟨F, v, h1, h2, h3, h4⟩ := h
  obtain ⟨A, c, rfl⟩ := h3.form
  exact ⟨A, c, h3.c0⟩
theorem Kn.crash0 {w W : World} {b : Nat} {d : RD} (h : Kn w W b d) :
    Calls Try.prog 11 #[.pointer (some ⟨b, 0, none⟩), .slice none 0 0] W fun e w' => e = .returned (.int .i64 0) ∧ Kn w w' b (crashD d []) :=
  h.crash none 0 [] (Shows.empty _ _ _) (by simp) (fun F hF p hp h0 => by cases hp) rfl
theorem Kn.secs {w W : World} {b : Nat} {d : RD} (h : Kn w W b d) : Calls Try.prog 15 #[.pointer (some ⟨b, 0, none⟩)] W fun e w' => e = .returned (.int .i64 (d.s.length : Int)) ∧ w' = W := by
  obtain ⟨F, h1, _⟩ := h
  exact pd_sectors h1

/-- a disk of the call's own, and a box of its own that holds a sector -/
def KQ (w W : World) (b : Nat) (d : RD) (q : Nat) (c : UInt8) : Prop := ∃ F, PD W F b d ∧ (∀ k, F k → w.heap.size ≤ k) ∧ Below w.heap.size w W ∧ ¬ F q ∧ w.heap.size ≤ q ∧ W.heap[q]? = some (.cells (sec c).toArray 38 (0, 0))
theorem Kn.kq {w W : World} {b : Nat} {d : RD} (h : Kn w W b d) (c : UInt8) : KQ w (W.alloc (.cells (sec c).toArray 38)) b d W.heap.size c := by
  obtain ⟨F, h1, h2, h3⟩ := h
  have hb := (Below.refl W.heap.size W).alloc (Nat.le_refl _) (.cells (sec c).toArray 38)
  exact ⟨F, h1.below hb, h2, h3.trans (hb.mono h3.size), fun hF => by have := h1.lt hF; omega, h3.size, heap_alloc_new W _⟩
theorem KQ.kn {w W : World} {b q : Nat} {d : RD} {c : UInt8} (h : KQ w W b d q c) : Kn w W b d := by obtain ⟨F, h1, h2, h3, _⟩ := h; exact ⟨F, h1, h2, h3⟩
theorem KQ.b {w W : World} {b q : Nat} {d : RD} {c : UInt8} (h : KQ w W b d q c) : Below w.heap.size w W := h.kn.b
theorem KQ.row {w W : World} {b q : Nat} {d : RD} {c : UInt8} (h : KQ w W b d q c) : W.heap[q]? = some (.cells (sec c).toArray 38 (0, 0)) := by obtain ⟨_, _, _, _, _, _, h⟩ := h; exact h
theorem KQ.range {w W : World} {b q : Nat} {d : RD} {c : UInt8} (h : KQ w W b d q c) : W.rangeAt q 0 (sec c) := fun j u hu => by
  rw [cell_of_row _ _ _ _ _ _ h.row, Nat.zero_add, List.getElem?_toArray]
  exact hu
theorem KQ.below {w W W' : World} {b q : Nat} {d : RD} {c : UInt8} (h : KQ w W b d q c) (hb : Below W.heap.size W W') : KQ w W' b d q c := by
  obtain ⟨F, h1, h2, h3, h4, h5, h6⟩ := h
  exact ⟨F, h1.below hb, h2, h3.trans (hb.mono h3.size), h4, h5, (hb.block q (Array.getElem?_eq_some_iff.1 h6).1).trans h6⟩
theorem KQ.set {w W : World} {b q : Nat} {d : RD} {c : UInt8} (h : KQ w W b d q c) (x : UInt8) : KQ w (W.setRow q (sec x).toArray) b d q x := by
  obtain ⟨F, h1, h2, h3, h4, h5, h6⟩ := h
  exact ⟨F, h1.on (fun k hk => setRow_other W q k _ (fun e => h4 (by rw [← e]; exact hk))), h2, below_setRow h3 h5 _, h4, h5, setRow_heap _ _ _ _ _ _ h6⟩
theorem KQ.done {w W W' : World} {b q : Nat} {d d' : RD} {c : UInt8} {er : Int} {e : Ending} {F : Nat → Prop} (h1 : PD W F b d) (h2 : ∀ k, F k → w.heap.size ≤ k) (h3 : Below w.heap.size w W) (h4 : ¬ F q) (h5 : w.heap.size ≤ q) (h6 : W.heap[q]? = some (.cells (sec c).toArray 38 (0, 0))) (hp : PDone W F b er d' e W') : KQ w W' b d' q c := by
  obtain ⟨_, F', g1, g2, g3⟩ := hp
  have hq := (Array.getElem?_eq_some_iff.1 h6).1
  exact ⟨F', g1, fun k hk => (g2 k hk).elim (h2 k) (fun h => Nat.le_trans h3.size h), h3.trans (g3.below h3.size h2), fun hk => (g2 q hk).elim h4 (fun h => by omega), h5, (g3.block q hq h4).trans h6⟩
theorem KQ.write {w W : World} {b q : Nat} {d : RD} {c0 : UInt8} (h : KQ w W b d q c0) (n : Int) (c : UInt8) {k : Nat} (hf : Fine d k) (hk : k < 1000000) (hr : wrR d n = 0) :
    Calls Try.prog 23 #[.pointer (some ⟨b, 0, none⟩), .int .i64 n, .agg (sec c).toArray] W fun e w' => e = .returned (.int .i64 0) ∧ w'.rangeAt q 0 (sec c0) ∧ Hid (KQ w w' b (wrD d n c) q c0) := by
  obtain ⟨F, h1, h2, h3, h4, h5, h6⟩ := h
  have hc := pd_write W F b d h1 n c (fun i hi => by have := hf.ver i hi; omega)
  rw [hr] at hc
  exact hc.mono fun e w' hp => ⟨hp.1, (KQ.done h1 h2 h3 h4 h5 h6 hp).range, KQ.done h1 h2 h3 h4 h5 h6 hp⟩
theorem KQ.flush {w W : World} {b q : Nat} {d : RD} {c0 : UInt8} (h : KQ w W b d q c0) (hr : flR d = 0) :
    Calls Try.prog 22 #[.pointer (some ⟨b, 0, none⟩)] W fun e w' => e = .returned (.int .i64 0) ∧ w'.rangeAt q 0 (sec c0) ∧ Hid (KQ w w' b (flD d) q c0) := by
  obtain ⟨F, h1, h2, h3, h4, h5, h6⟩ := h
  have hc := pd_flush W F b d h1
  rw [hr] at hc
  exact hc.mono fun e w' hp => ⟨hp.1, (KQ.done h1 h2 h3 h4 h5 h6 hp).range, KQ.done h1 h2 h3 h4 h5 h6 hp⟩
theorem KQ.crash0 {w W : World} {b q : Nat} {d : RD} {c0 : UInt8} (h : KQ w W b d q c0) :
    Calls Try.prog 11 #[.pointer (some ⟨b, 0, none⟩), .slice none 0 0] W fun e w' => e = .returned (.int .i64 0) ∧ w'.rangeAt q 0 (sec c0) ∧ Hid (KQ w w' b (crashD d []) q c0) := by
  obtain ⟨F, h1, h2, h3, h4, h5, h6⟩ := h
  exact (pd_crash W F b d h1 none 0 [] (Shows.empty _ _ _) (by simp) (fun p hp h0 => by cases hp)).mono fun e w' hp => ⟨hp.1, (KQ.done h1 h2 h3 h4 h5 h6 hp).range, KQ.done h1 h2 h3 h4 h5 h6 hp⟩
theorem KQ.full {w W : World} {b q : Nat} {d : RD} {c0 : UInt8} (h : KQ w W b d q c0) (c : UInt8) :
    Calls Try.prog 24 #[.int .u8 (c.toNat : Int)] W fun e w' => e = .returned (.agg (sec c).toArray) ∧ w'.rangeAt q 0 (sec c0) ∧ Hid (KQ w w' b d q c0) :=
  (full_sec c W).mono fun e w' hp => ⟨hp.1, (h.below hp.2).range, h.below hp.2⟩
theorem KQ.read {w W : World} {b q : Nat} {d : RD} {c0 : UInt8} (h : KQ w W b d q c0) (n : Int) (c : UInt8) (hr : rdR d n = 0) (hd : rdC d n = c) :
    Calls Try.prog 16 #[.pointer (some ⟨b, 0, none⟩), .int .i64 n] W fun e w' => e = .returned (.tuple #[.agg (sec c).toArray, .int .i64 0]) ∧ w'.rangeAt q 0 (sec c0) ∧ Hid (KQ w w' b d q c0) := by
  have h0 := h
  obtain ⟨F, h1, _⟩ := h
  have hc := pd_read W F b d h1 n
  rw [hr, hd] at hc
  exact hc.mono fun e w' hp => ⟨hp.1, (h0.below hp.2).range, h0.below hp.2⟩
theorem KQ.secs {w W : World} {b q : Nat} {d : RD} {c0 : UInt8} (h : KQ w W b d q c0) : Calls Try.prog 15 #[.pointer (some ⟨b, 0, none⟩)] W fun e w' => e = .returned (.int .i64 (d.s.length : Int)) ∧ w'.rangeAt q 0 (sec c0) ∧ Hid (KQ w w' b d q c0) :=
  h.kn.secs.mono fun e w' hp => ⟨hp.1, by rw [hp.2]; exact h.range, by rw [hp.2]; exact h⟩
theorem KQ.known {w W : World} {b q : Nat} {d : RD} {c0 : UInt8} (h : KQ w W b d q c0) : Calls Try.prog 7 #[] W fun e w' => e = .returned (.bool true) ∧ w'.rangeAt q 0 (sec c0) ∧ Hid (KQ w w' b d q c0) :=
  (known_any W).mono fun e w' hp => ⟨hp.1, (h.below hp.2).range, h.below hp.2⟩
end Go.Proofs.Ytdcfplfeagpcdaa
