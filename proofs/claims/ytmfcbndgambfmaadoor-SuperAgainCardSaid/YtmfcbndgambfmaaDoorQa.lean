/- The program's disk: sectors as cells; how the disk lies in memory; what a call on it may change. -/
import Derived.Test.YtmfcbndgambfmaaDoorQ0
import Derived.Deep.MidRow
import Derived.Maps.OwnSet
import Derived.Maps.Ext
import Derived.Maps.RangeWalk
namespace Go.Proofs.YtmfcbndgambfmaaDoor.Q
open Go.RowKit
open Go.ChangeMaps Go.MapKept
open Go.WideElems (Fit rd rg)

/-- a sector of one byte, as cells -/
def sec (c : SB) : List Value := cells8 c.1
theorem sec_len (c : SB) : (sec c).length = 64 := by rw [sec, cells8_length]; exact c.2
theorem sec_one (c : SB) : ∀ v ∈ sec c, v.oneCell' = true := cells8_one _
def secs (l : List SB) : List Value := l.flatMap sec
theorem secs_nil : secs [] = [] := rfl
theorem secs_cons (c : SB) (l : List SB) : secs (c :: l) = sec c ++ secs l := rfl
theorem secs_append (a b : List SB) : secs (a ++ b) = secs a ++ secs b := by simp [secs]
theorem secs_len (l : List SB) : (secs l).length = l.length * 64 := by
  induction l with
  | nil => rfl
  | cons c t ih => rw [secs_cons, List.length_append, sec_len, ih, List.length_cons]; omega
theorem secs_one (l : List SB) : ∀ v ∈ secs l, v.oneCell' = true := by
  intro v hv
  simp only [secs, List.mem_flatMap] at hv
  obtain ⟨c, _, h⟩ := hv
  exact sec_one c v h
theorem secs_split (l : List SB) (i : Nat) (h : i < l.length) : secs l = secs (l.take i) ++ (sec l[i] ++ secs (l.drop (i + 1))) := by
  rw [← secs_cons, ← secs_append, ← List.drop_eq_getElem_cons h, List.take_append_drop]
theorem secs_get (l : List SB) (i j : Nat) (h : i < l.length) (hj : j < 64) : (secs l)[i * 64 + j]? = (sec l[i])[j]? := by
  have hl : (secs (l.take i)).length = i * 64 := by rw [secs_len, List.length_take]; congr 1; omega
  rw [secs_split l i h, List.getElem?_append_right (by omega), hl, show i * 64 + j - i * 64 = j by omega, List.getElem?_append_left (by rw [sec_len]; exact hj)]
theorem secs_set (l : List SB) (i : Nat) (c : SB) (h : i < l.length) : (secs l).take (i * 64) ++ (sec c ++ (secs l).drop (i * 64 + 64)) = secs (l.set i c) := by
  have hl : (secs (l.take i)).length = i * 64 := by rw [secs_len, List.length_take]; congr 1; omega
  have e1 : (secs l).take (i * 64) = secs (l.take i) := by
    rw [secs_split l i h, ← hl]; exact List.take_left
  have e2 : (secs l).drop (i * 64 + 64) = secs (l.drop (i + 1)) := by
    rw [← List.drop_drop, secs_split l i h, ← hl, List.drop_left, ← sec_len l[i], List.drop_left]
  rw [e1, e2, ← secs_cons, ← secs_append]
  congr 1
  rw [List.set_eq_take_append_cons_drop, if_pos h]

theorem sector_u : Tryd.prog.underlying 64 = some (.array 64 5) := Tryd.underlying64
theorem sector_sz (c : SB) : (Tryd.prog.info? 64).map (·.size) = some (sec c).length := by rw [sec_len]; exact sector_size
theorem zero_sec : fullN 0 0 = (0 : SB).1 := by decide
theorem sector_info : (Tryd.prog.info? 64).map (fun i => (i.zero, i.size, i.bytes)) = some (some (.agg (sec 0).toArray), 64, 64) := by kernel_rfl

/-- which slice a sector's writings are -/
def rawE (v : Value) : Option (DataW Value × List MemPlace) := some (.held v, [])
abbrev key (i : Nat) : Lit := .int .i64 (i : Int)
abbrev nilS : Value := .slice none 0 0
theorem lawI : Maps.Keyed Tryd.prog 3 := Maps.int_keyed Tryd.underlying3
theorem key_of (i : Nat) (h : i ≤ 9223372036854775807) : keyOf Tryd.prog 3 (.int .i64 (i : Int)) = some (key i) := Maps.keyOf_int_mk Tryd.underlying3 (WalkArith.wf_i64 (by omega))
theorem key_inj {i j : Nat} (h : key i = key j) : i = j := by injection h with _ h; omega

/-- block m holds the open sectors' writings: X i is sector i's slice -/
structure PMap (w : World) (m : Nat) (s : List (List SB)) (D : DataW Value) (X : Nat → Value) : Prop where
  own : w.ownsMap Tryd.prog 3 rawE m s.length D
  dom : ∀ kl, Maps.has D kl = true → ∃ i, i < s.length ∧ kl = key i
  has_ : ∀ i (h : i < s.length), Maps.has D (key i) = decide (1 < s[i].length)
  at_ : ∀ i, i < s.length → D.atKey (key i) (.held nilS) = .held (X i)
  pos : ∀ i (h : i < s.length), 0 < s[i].length ∧ s[i].length ≤ 1000000
  row : ∀ i (h : i < s.length), w.ownsRow 0 64 64 (X i) (s[i].length - 1) (secs s[i].tail)
  apart : ∀ i j, i < s.length → j < s.length → i ≠ j → ∀ k, (X i).ownBlock = some k → (X j).ownBlock ≠ some k

/-- what lasts: a slice of sectors, in a block that may be longer -/
def LRow (w : World) (L : Value) (l : List SB) : Prop := ∃ g cap cur, L = .slice (some ⟨g, 0, none⟩) l.length cap ∧ w.heap[g]? = some (.cells cur 64 (0, 0)) ∧ l.length ≤ cap ∧ cap ≤ maxLen ∧ l.length * 64 ≤ cur.size ∧ cur.toList.take (l.length * 64) = secs l
theorem LRow.kind {w : World} {L : Value} {l : List SB} {k : Nat} (h : LRow w L l) (hk : L.ownBlock = some k) : ∃ cs, w.heap[k]? = some (.cells cs 64 (0, 0)) := by
  obtain ⟨g, cap, cur, rfl, hg, _⟩ := h
  injection hk with hk
  have hk' : g = k := hk
  subst hk'
  exact ⟨_, hg⟩
theorem LRow.on {w w' : World} {L : Value} {l : List SB} (h : LRow w L l) (hb : ∀ k, L.ownBlock = some k → w'.heap[k]? = w.heap[k]?) : LRow w' L l := by
  obtain ⟨g, cap, cur, rfl, hg, r⟩ := h
  exact ⟨g, cap, cur, rfl, (hb g rfl).trans hg, r⟩
theorem LRow.of_own {w : World} {L : Value} {l : List SB} (h : w.ownsRow 0 64 64 L l.length (secs l)) (h0 : 0 < l.length) : LRow w L l := by
  rcases h.2 with ⟨_, e⟩ | ⟨g, cap, cur, rfl, _, hg, h1, h2, h3, h4⟩
  · omega
  · exact ⟨g, cap, cur, rfl, hg, h1, h2, by omega, h4⟩
/-- the fuse's cell -/
def leftN (f : Int) : Int := if 0 ≤ f then f else 0
def diskCells (L : Value) (m : Nat) (d : RD) : Array Value := #[L, .map (some m), .bool (decide (0 ≤ d.fuse)), .int .i64 (leftN d.fuse), .bool d.dead]
/-- block b holds the program's disk -/
structure PDisk (w : World) (b : Nat) (L : Value) (m : Nat) (D : DataW Value) (X : Nat → Value) (d : RD) : Prop where
  disk : w.heap[b]? = some (.cells (diskCells L m d) 56 (0, 0))
  last : LRow w L (d.s.map (·.headD 0))
  map : PMap w m d.s D X
  off : ∀ i, i < d.s.length → ∀ k, (X i).ownBlock = some k → L.ownBlock ≠ some k
  n0 : 0 < d.s.length
  n1 : d.s.length ≤ 8192
  fz : -1 ≤ d.fuse ∧ d.fuse ≤ 9223372036854775807

/-- the blocks that are the disk's -/
def foot (b m : Nat) (L : Value) (X : Nat → Value) (n k : Nat) : Prop := k = b ∨ k = m ∨ L.ownBlock = some k ∨ ∃ i, i < n ∧ (X i).ownBlock = some k
/-- block b holds the program's disk, and F are its blocks -/
def PD (w : World) (F : Nat → Prop) (b : Nat) (d : RD) : Prop := ∃ L m D X, PDisk w b L m D X d ∧ ∀ k, F k ↔ foot b m L X d.s.length k

/-- a block of the kinds of which a disk is made -/
def PKind (w : World) (k : Nat) : Prop := (∃ cs, w.heap[k]? = some (.cells cs 56 (0, 0))) ∨ (∃ cs, w.heap[k]? = some (.cells cs 64 (0, 0))) ∨ ∃ es c, w.heap[k]? = some (.map es c)
theorem PKind.lt {w : World} {k : Nat} (h : PKind w k) : k < w.heap.size := by
  rcases h with ⟨_, h⟩ | ⟨_, h⟩ | ⟨_, _, h⟩ <;> exact (Array.getElem?_eq_some_iff.1 h).1
/-- a block of cells of another type is none of those -/
theorem PKind.not {w : World} {k : Nat} {cs : Array Value} {t : TypeId} {fr : Nat × Nat} (h : w.heap[k]? = some (.cells cs t fr)) (h1 : t ≠ 56) (h2 : t ≠ 64) : ¬ PKind w k := by
  rintro (⟨_, e⟩ | ⟨_, e⟩ | ⟨_, _, e⟩) <;> rw [h] at e <;> injection e with e
  · injection e with _ e; exact h1 e
  · injection e with _ e; exact h2 e
  · cases e
theorem row_kind {w : World} {e : TypeId} {size n k : Nat} {v : Value} {xs : List Value} (h : w.ownsRow 0 e size v n xs) (hk : v.ownBlock = some k) : ∃ cs, w.heap[k]? = some (.cells cs e (0, 0)) := by
  rcases h.2 with ⟨rfl, _⟩ | ⟨g, cap, cur, rfl, _, hg, _⟩
  · cases hk
  · injection hk with hk
    have hk' : g = k := hk
    subst hk'
    exact ⟨_, hg⟩
theorem map_kind {w : World} {m n : Nat} {D : DataW Value} (h : w.ownsMap Tryd.prog 3 rawE m n D) : ∃ es c, w.heap[m]? = some (.map es c) := by
  obtain ⟨es, c, hb, _⟩ := h
  exact ⟨es, c, hb⟩
theorem PDisk.kind {w : World} {b m : Nat} {L : Value} {D : DataW Value} {X : Nat → Value} {d : RD} (h : PDisk w b L m D X d) {k : Nat} (hk : foot b m L X d.s.length k) : PKind w k := by
  rcases hk with rfl | rfl | hk | ⟨i, hi, hk⟩
  · exact .inl ⟨_, h.disk⟩
  · exact .inr (.inr (map_kind h.map.own))
  · exact .inr (.inl (h.last.kind hk))
  · exact .inr (.inl (row_kind (h.map.row i hi) hk))
theorem PD.kind {w : World} {F : Nat → Prop} {b : Nat} {d : RD} (h : PD w F b d) {k : Nat} (hk : F k) : PKind w k := by
  obtain ⟨L, m, D, X, hp, hF⟩ := h
  exact hp.kind ((hF k).1 hk)
theorem PD.lt {w : World} {F : Nat → Prop} {b : Nat} {d : RD} (h : PD w F b d) {k : Nat} (hk : F k) : k < w.heap.size := (h.kind hk).lt
theorem PD.fb {w : World} {F : Nat → Prop} {b : Nat} {d : RD} (h : PD w F b d) : F b := by
  obtain ⟨L, m, D, X, _, hF⟩ := h
  exact (hF b).2 (.inl rfl)

theorem rowS_on {w w' : World} {base n size : Nat} {e : TypeId} {v : Value} {xs : List Value} (h : w.ownsRow base e size v n xs) (hb : ∀ k, v.ownBlock = some k → w'.heap[k]? = w.heap[k]?) : w'.ownsRow base e size v n xs := by
  refine ⟨h.1, ?_⟩
  rcases h.2 with h2 | ⟨g, cap, cur, hv, hg, hh, hr⟩
  · exact .inl h2
  · exact .inr ⟨g, cap, cur, hv, hg, (hb g (by rw [hv]; rfl)).trans hh, hr⟩
theorem map_on {w w' : World} {m n : Nat} {D : DataW Value} (h : w.ownsMap Tryd.prog 3 rawE m n D) (hb : w'.heap[m]? = w.heap[m]?) : w'.ownsMap Tryd.prog 3 rawE m n D := by
  obtain ⟨es, c, hh, r⟩ := h
  exact ⟨es, c, hb.trans hh, r⟩
theorem PMap.on {w w' : World} {m : Nat} {s : List (List SB)} {D : DataW Value} {X : Nat → Value} (h : PMap w m s D X) (hm : w'.heap[m]? = w.heap[m]?) (hx : ∀ i, i < s.length → ∀ k, (X i).ownBlock = some k → w'.heap[k]? = w.heap[k]?) : PMap w' m s D X :=
  ⟨map_on h.own hm, h.dom, h.has_, h.at_, h.pos, fun i hi => rowS_on (h.row i hi) (hx i hi), h.apart⟩
theorem PDisk.on {w w' : World} {b m : Nat} {L : Value} {D : DataW Value} {X : Nat → Value} {d : RD} (h : PDisk w b L m D X d) (hk : ∀ k, foot b m L X d.s.length k → w'.heap[k]? = w.heap[k]?) : PDisk w' b L m D X d :=
  ⟨(hk b (.inl rfl)).trans h.disk, h.last.on (fun k e => hk k (.inr (.inr (.inl e)))), h.map.on (hk m (.inr (.inl rfl))) (fun i hi k e => hk k (.inr (.inr (.inr ⟨i, hi, e⟩)))), h.off, h.n0, h.n1, h.fz⟩
theorem PDisk.below {w w' : World} {b m : Nat} {L : Value} {D : DataW Value} {X : Nat → Value} {d : RD} (h : PDisk w b L m D X d) (hb : Below w.heap.size w w') : PDisk w' b L m D X d :=
  h.on fun _ hk => hb.block _ (h.kind hk).lt
theorem PD.on {w w' : World} {F : Nat → Prop} {b : Nat} {d : RD} (h : PD w F b d) (hk : ∀ k, F k → w'.heap[k]? = w.heap[k]?) : PD w' F b d := by
  obtain ⟨L, m, D, X, hp, hF⟩ := h
  exact ⟨L, m, D, X, hp.on (fun k e => hk k ((hF k).2 e)), hF⟩
theorem PD.below {w w' : World} {F : Nat → Prop} {b : Nat} {d : RD} (h : PD w F b d) (hb : Below w.heap.size w w') : PD w' F b d :=
  h.on fun _ hk => hb.block _ (h.lt hk)

/-- only blocks of F, and new ones, may be others -/
structure Stays (w w' : World) (F : Nat → Prop) : Prop where
  os : w'.os = w.os
  tape : w'.tape = w.tape
  output : w'.output = w.output
  size : w.heap.size ≤ w'.heap.size
  block : ∀ k, k < w.heap.size → ¬ F k → w'.heap[k]? = w.heap[k]?
theorem Stays.refl (w : World) (F : Nat → Prop) : Stays w w F := ⟨rfl, rfl, rfl, Nat.le_refl _, fun _ _ _ => rfl⟩
theorem Stays.of_below {w w' : World} (h : Below w.heap.size w w') (F : Nat → Prop) : Stays w w' F := ⟨h.os, h.tape, h.output, h.size, fun k hk _ => h.block k hk⟩
theorem Stays.trans {a b c : World} {F G : Nat → Prop} (h : Stays a b F) (k : Stays b c G) (hG : ∀ i, G i → F i ∨ a.heap.size ≤ i) : Stays a c F := by
  refine ⟨k.os.trans h.os, k.tape.trans h.tape, k.output.trans h.output, Nat.le_trans h.size k.size, fun i hi hF => ?_⟩
  rw [k.block i (Nat.lt_of_lt_of_le hi h.size) (fun e => (hG i e).elim hF (fun e => by omega)), h.block i hi hF]
theorem Stays.below {w w' : World} {F : Nat → Prop} {B : Nat} (h : Stays w w' F) (hB : B ≤ w.heap.size) (hF : ∀ k, F k → B ≤ k) : Below B w w' :=
  ⟨h.os, h.tape, h.output, h.size, fun k hk => h.block k (Nat.lt_of_lt_of_le hk hB) (fun e => by have := hF k e; omega)⟩
theorem Stays.set {w w' : World} {F : Nat → Prop} (h : Stays w w' F) (a : Addr) (ha : F a.block ∨ w.heap.size ≤ a.block) (u : Value) : Stays w (w'.setCell a u) F :=
  ⟨h.os, h.tape, h.output, by have := h.size; simpa [World.setCell] using this, fun k hk hF => by rw [Below.heap_setCell w' a u k (fun e => by subst e; exact ha.elim hF (fun e => by omega))]; exact h.block k hk hF⟩
theorem Stays.grown {w w' w2 : World} {F : Nat → Prop} {row : Option Nat} (h : Stays w w' F) (hg : w'.grownBy w2 row) (hr : ∀ k, row = some k → F k ∨ w.heap.size ≤ k) : Stays w w2 F :=
  ⟨hg.os.trans h.os, hg.tape.trans h.tape, hg.output.trans h.output, Nat.le_trans h.size hg.size, fun k hk hF => by
    rw [hg.block k (Nat.lt_of_lt_of_le hk h.size) (fun e => (hr k e.symm).elim hF (fun e => by omega))]; exact h.block k hk hF⟩
end Go.Proofs.YtmfcbndgambfmaaDoor.Q
