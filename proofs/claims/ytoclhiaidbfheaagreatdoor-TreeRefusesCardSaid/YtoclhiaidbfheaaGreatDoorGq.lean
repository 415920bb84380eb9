/- Sectors of any 64 bytes; a disk as the pasts of its sectors. The program's disk: sectors as cells; how the disk lies in memory; what a call on it may change. The program's disk: is there one, is there a sector, a step of the fuse. The program's disk: what is read of a sector, its version at a pick. The program's disk: Read. The program's disk: the version of a sector at a pick. The program's disk: New, Fuse. The program's disk: Open. The program's disk: what a write leaves. The program's disk: Write. The program's disk: a sector that lasts is stored; the map is cleared. The program's disk: Flush. The program's disk: Crash. The program's disk, act by act: what each leaves, in one form. -/
import Derived.Test.YtoclhiaidbfheaaGreatDoorProg
import Derived.Test.YtoclhiaidbfheaaGreatDoorMem
import Derived.Test.YtoclhiaidbfheaaGreatDoorRow
import Derived.WalkKit
import Derived.WalkSpells
import Derived.WalkLawsBesides
import Derived.Lib.Hide
import Derived.Lib.SmallJoins
import Derived.Deep.QuietTactic
import Derived.Deep.WholeRow
import Derived.Laws.Rows
import Derived.BigQuiet
import Derived.Deep.RegionHeldLaw
import Derived.Deep.MidRow
import Derived.Maps.OwnSet
import Derived.Maps.Ext
import Derived.Maps.RangeWalk
import Derived.Lib.AppendZerosOnto
import Derived.Shelf.SlIterI.Nil
import Derived.Sort.WalkA
import Derived.Deep.RegionHeld
import Derived.Great.FillDense
section
set_option linter.unusedVariables false
namespace Go.Proofs.YtoclhiaidbfheaaGreatDoor.Q
open Go.RowKit

/-- a sector's bytes -/
abbrev SB : Type := { l : List UInt8 // l.length = 64 }
instance : OfNat SB 0 := ⟨⟨List.replicate 64 0, by simp⟩⟩
instance : Inhabited SB := ⟨0⟩
/-- the document's disk: each sector's past, the fuse (below 0: none), is it dead? -/
structure RD where
  s : List (List SB)
  fuse : Int
  dead : Bool
/-- is a step left, and taken? -/
def movesB (d : RD) : Bool := !(d.dead || d.fuse == 0)
def movesD (d : RD) : RD := if d.dead = true ∨ d.fuse = 0 then { d with dead := true } else if 0 < d.fuse then { d with fuse := d.fuse - 1 } else d
/-- a sector of one byte, i of its places made -/
def fullN (c : UInt8) (i : Nat) : List UInt8 := List.replicate i c ++ List.replicate (64 - i) 0
def full (c : UInt8) : List UInt8 := List.replicate 64 c
theorem fullN_len (c : UInt8) (i : Nat) (h : i ≤ 64) : (fullN c i).length = 64 := by simp [fullN]; omega
theorem sector_size : (Tryz.prog.info? 245).map (·.size) = some 64 := by kernel_rfl
theorem zero_sector (w : World) : (zeroValue 245).run Tryz.prog w = .ok (.agg (cells8 (fullN 0 0)).toArray) w := by kernel_rfl
theorem size8 (l : List UInt8) : (cells8 l).toArray.size = l.length := by rw [List.size_toArray, cells8_length]
def newD (n : Nat) : RD := ⟨List.replicate n [0], -1, false⟩
/-- the sectors that are open -/
def openN (d : RD) (i : Nat) : List Nat := (List.range i).filter fun k => 1 < (d.s.getD k []).length
def openL (d : RD) : List Nat := openN d d.s.length
theorem openN_le (d : RD) (i : Nat) : (openN d i).length ≤ i := by
  have := List.length_filter_le (fun k => decide (1 < (d.s.getD k []).length)) (List.range i)
  simpa [openN] using this
def flushD (d : RD) : RD := { d with s := d.s.map fun l => [l.getLastD 0] }
theorem movesD_s (d : RD) : (movesD d).s = d.s := by unfold movesD; split; rfl; split <;> rfl
def nums (l : List Int) : List Value := l.map fun k => Value.int .i64 k
/-- which version a pick names -/
def pickAt (p : Int) (n : Nat) : Nat := ((p.tmod (n : Int) + (n : Int)).tmod (n : Int)).toNat
def pickN (picks : List Int) (j n : Nat) : Nat := if h : j < picks.length then pickAt picks[j] n else 0
theorem getD_get (t : List (List SB)) (k : Nat) (h : k < t.length) : t.getD k [] = t[k] := by simp [List.getD, h]
end Go.Proofs.YtoclhiaidbfheaaGreatDoor.Q
end

section
namespace Go.Proofs.YtoclhiaidbfheaaGreatDoor.Q
open Go.RowKit
open Go.ChangeMaps Go.MapKept
open Go.WideElems (Fit rd rg)

/-- a sector of one byte, as cells -/
def sec (c : SB) : List Value := cells8 c.1
theorem sec_len (c : SB) : (sec c).length = 64 := by rw [sec, cells8_length]; exact c.2
theorem sec_one (c : SB) : ∀ v ∈ sec c, v.oneCell' = true := cells8_one _
def secs (l : List SB) : List Value := l.flatMap sec
theorem secs_cons (c : SB) (l : List SB) : secs (c :: l) = sec c ++ secs l := rfl
theorem secs_append (a b : List SB) : secs (a ++ b) = secs a ++ secs b := by simp [secs]
theorem secs_len (l : List SB) : (secs l).length = l.length * 64 := by
  induction l with
  | nil => rfl
  | cons c t ih => rw [secs_cons, List.length_append, sec_len, ih, List.length_cons]; omega
theorem secs_split (l : List SB) (i : Nat) (h : i < l.length) : secs l = secs (l.take i) ++ (sec l[i] ++ secs (l.drop (i + 1))) := by
  rw [← secs_cons, ← secs_append, ← List.drop_eq_getElem_cons h, List.take_append_drop]
theorem secs_get (l : List SB) (i j : Nat) (h : i < l.length) (hj : j < 64) : (secs l)[i * 64 + j]? = (sec l[i])[j]? := by
  have hl : (secs (l.take i)).length = i * 64 := by rw [secs_len, List.length_take]; congr 1; omega
  rw [secs_split l i h, List.getElem?_append_right (by omega), hl, show i * 64 + j - i * 64 = j by omega, List.getElem?_append_left (by rw [sec_len]; exact hj)]
theorem secs_set (l : List SB) (i : Nat) (c : SB) (h : i < l.length) : (secs l).take (i * 64) ++ (sec c ++ (secs l).drop (i * 64 + 64)) = secs (l.set i c) := by
  have hl : (secs (l.take i)).length = i * 64 := by rw [secs_len, List.length_take]; congr 1; omega
  have e1 : (secs l).take (i * 64) = secs (l.take i) := by
    rw [secs_split l i h, ← hl]; exact List.take_left
  have e2 : (secs l).drop (i * 64 + 64) = secs (l.drop (i + 1)) := by
    rw [← List.drop_drop, secs_split l i h, ← hl, List.drop_left, ← sec_len l[i], List.drop_left]
  rw [e1, e2, ← secs_cons, ← secs_append]
  congr 1
  rw [List.set_eq_take_append_cons_drop, if_pos h]

theorem sector_u : Tryz.prog.underlying 245 = some (.array 64 5) := Tryz.underlying245
theorem sector_sz (c : SB) : (Tryz.prog.info? 245).map (·.size) = some (sec c).length := by rw [sec_len]; exact sector_size
theorem zero_sec : fullN 0 0 = (0 : SB).1 := by decide
theorem sector_info : (Tryz.prog.info? 245).map (fun i => (i.zero, i.size, i.bytes)) = some (some (.agg (sec 0).toArray), 64, 64) := by kernel_rfl

/-- which slice a sector's writings are -/
def rawE (v : Value) : Option (DataW Value × List MemPlace) := some (.held v, [])
abbrev key (i : Nat) : Lit := .int .i64 (i : Int)
abbrev nilS : Value := .slice none 0 0
theorem lawI : Maps.Keyed Tryz.prog 3 := Maps.int_keyed Tryz.underlying3
theorem key_of (i : Nat) (h : i ≤ 9223372036854775807) : keyOf Tryz.prog 3 (.int .i64 (i : Int)) = some (key i) := Maps.keyOf_int_mk Tryz.underlying3 (WalkArith.wf_i64 (by omega))
theorem key_inj {i j : Nat} (h : key i = key j) : i = j := by injection h with _ h; omega

/-- block m holds the open sectors' writings: X i is sector i's slice -/
structure PMap (w : World) (m : Nat) (s : List (List SB)) (D : DataW Value) (X : Nat → Value) : Prop where
  own : w.ownsMap Tryz.prog 3 rawE m s.length D
  dom : ∀ kl, Maps.has D kl = true → ∃ i, i < s.length ∧ kl = key i
  has_ : ∀ i (h : i < s.length), Maps.has D (key i) = decide (1 < s[i].length)
  at_ : ∀ i, i < s.length → D.atKey (key i) (.held nilS) = .held (X i)
  pos : ∀ i (h : i < s.length), 0 < s[i].length ∧ s[i].length ≤ 1000000
  row : ∀ i (h : i < s.length), w.ownsRow 0 245 64 (X i) (s[i].length - 1) (secs s[i].tail)
  apart : ∀ i j, i < s.length → j < s.length → i ≠ j → ∀ k, (X i).ownBlock = some k → (X j).ownBlock ≠ some k

/-- what lasts: a slice of sectors, in a block that may be longer -/
def LRow (w : World) (L : Value) (l : List SB) : Prop := ∃ g cap cur, L = .slice (some ⟨g, 0, none⟩) l.length cap ∧ w.heap[g]? = some (.cells cur 245 (0, 0)) ∧ l.length ≤ cap ∧ cap ≤ maxLen ∧ l.length * 64 ≤ cur.size ∧ cur.toList.take (l.length * 64) = secs l
theorem LRow.kind {w : World} {L : Value} {l : List SB} {k : Nat} (h : LRow w L l) (hk : L.ownBlock = some k) : ∃ cs, w.heap[k]? = some (.cells cs 245 (0, 0)) := by
  obtain ⟨g, cap, cur, rfl, hg, _⟩ := h
  injection hk with hk
  have hk' : g = k := hk
  subst hk'
  exact ⟨_, hg⟩
theorem LRow.on {w w' : World} {L : Value} {l : List SB} (h : LRow w L l) (hb : ∀ k, L.ownBlock = some k → w'.heap[k]? = w.heap[k]?) : LRow w' L l := by
  obtain ⟨g, cap, cur, rfl, hg, r⟩ := h
  exact ⟨g, cap, cur, rfl, (hb g rfl).trans hg, r⟩
theorem LRow.of_own {w : World} {L : Value} {l : List SB} (h : w.ownsRow 0 245 64 L l.length (secs l)) (h0 : 0 < l.length) : LRow w L l := by
  rcases h.2 with ⟨_, e⟩ | ⟨g, cap, cur, rfl, _, hg, h1, h2, h3, h4⟩
  · omega
  · exact ⟨g, cap, cur, rfl, hg, h1, h2, by omega, h4⟩
/-- the fuse's cell -/
def leftN (f : Int) : Int := if 0 ≤ f then f else 0
def diskCells (L : Value) (m : Nat) (d : RD) : Array Value := #[L, .map (some m), .bool (decide (0 ≤ d.fuse)), .int .i64 (leftN d.fuse), .bool d.dead]
/-- block b holds the program's disk -/
structure PDisk (w : World) (b : Nat) (L : Value) (m : Nat) (D : DataW Value) (X : Nat → Value) (d : RD) : Prop where
  disk : w.heap[b]? = some (.cells (diskCells L m d) 157 (0, 0))
  last : LRow w L (d.s.map (·.headD 0))
  map : PMap w m d.s D X
  off : ∀ i, i < d.s.length → ∀ k, (X i).ownBlock = some k → L.ownBlock ≠ some k
  n0 : 0 < d.s.length
  n1 : d.s.length ≤ 8192
  fz : -1 ≤ d.fuse ∧ d.fuse ≤ 9223372036854775807

/-- the blocks that are the disk's -/
def foot (b m : Nat) (L : Value) (X : Nat → Value) (n k : Nat) : Prop := k = b ∨ k = m ∨ L.ownBlock = some k ∨ ∃ i, i < n ∧ (X i).ownBlock = some k
/-- block b holds the program's disk, and F are its blocks -/
def PD (w : World) (F : Nat → Prop) (b : Nat) (d : RD) : Prop := ∃ L m D X, PDisk w b L m D X d ∧ ∀ k, F k ↔ foot b m L X d.s.length k

/-- a block of the kinds of which a disk is made -/
def PKind (w : World) (k : Nat) : Prop := (∃ cs, w.heap[k]? = some (.cells cs 157 (0, 0))) ∨ (∃ cs, w.heap[k]? = some (.cells cs 245 (0, 0))) ∨ ∃ es c, w.heap[k]? = some (.map es c)
theorem PKind.lt {w : World} {k : Nat} (h : PKind w k) : k < w.heap.size := by
  rcases h with ⟨_, h⟩ | ⟨_, h⟩ | ⟨_, _, h⟩ <;> exact (Array.getElem?_eq_some_iff.1 h).1
/-- a block of cells of another type is none of those -/
theorem PKind.not {w : World} {k : Nat} {cs : Array Value} {t : TypeId} {fr : Nat × Nat} (h : w.heap[k]? = some (.cells cs t fr)) (h1 : t ≠ 157) (h2 : t ≠ 245) : ¬ PKind w k := by
  rintro (⟨_, e⟩ | ⟨_, e⟩ | ⟨_, _, e⟩) <;> rw [h] at e <;> injection e with e
  · injection e with _ e; exact h1 e
  · injection e with _ e; exact h2 e
  · cases e
theorem row_kind {w : World} {e : TypeId} {size n k : Nat} {v : Value} {xs : List Value} (h : w.ownsRow 0 e size v n xs) (hk : v.ownBlock = some k) : ∃ cs, w.heap[k]? = some (.cells cs e (0, 0)) := by
  rcases h.2 with ⟨rfl, _⟩ | ⟨g, cap, cur, rfl, _, hg, _⟩
  · cases hk
  · injection hk with hk
    have hk' : g = k := hk
    subst hk'
    exact ⟨_, hg⟩
theorem map_kind {w : World} {m n : Nat} {D : DataW Value} (h : w.ownsMap Tryz.prog 3 rawE m n D) : ∃ es c, w.heap[m]? = some (.map es c) := by
  obtain ⟨es, c, hb, _⟩ := h
  exact ⟨es, c, hb⟩
theorem PDisk.kind {w : World} {b m : Nat} {L : Value} {D : DataW Value} {X : Nat → Value} {d : RD} (h : PDisk w b L m D X d) {k : Nat} (hk : foot b m L X d.s.length k) : PKind w k := by
  rcases hk with rfl | rfl | hk | ⟨i, hi, hk⟩
  · exact .inl ⟨_, h.disk⟩
  · exact .inr (.inr (map_kind h.map.own))
  · exact .inr (.inl (h.last.kind hk))
  · exact .inr (.inl (row_kind (h.map.row i hi) hk))
theorem PD.kind {w : World} {F : Nat → Prop} {b : Nat} {d : RD} (h : PD w F b d) {k : Nat} (hk : F k) : PKind w k := by
  obtain ⟨L, m, D, X, hp, hF⟩ := h
  exact hp.kind ((hF k).1 hk)
theorem PD.lt {w : World} {F : Nat → Prop} {b : Nat} {d : RD} (h : PD w F b d) {k : Nat} (hk : F k) : k < w.heap.size := (h.kind hk).lt
theorem PD.fb {w : World} {F : Nat → Prop} {b : Nat} {d : RD} (h : PD w F b d) : F b := by
  obtain ⟨L, m, D, X, _, hF⟩ := h
  exact (hF b).2 (.inl rfl)

theorem rowS_on {w w' : World} {base n size : Nat} {e : TypeId} {v : Value} {xs : List Value} (h : w.ownsRow base e size v n xs) (hb : ∀ k, v.ownBlock = some k → w'.heap[k]? = w.heap[k]?) : w'.ownsRow base e size v n xs := by
  refine ⟨h.1, ?_⟩
  rcases h.2 with h2 | ⟨g, cap, cur, hv, hg, hh, hr⟩
  · exact .inl h2
  · exact .inr ⟨g, cap, cur, hv, hg, (hb g (by rw [hv]; rfl)).trans hh, hr⟩
theorem map_on {w w' : World} {m n : Nat} {D : DataW Value} (h : w.ownsMap Tryz.prog 3 rawE m n D) (hb : w'.heap[m]? = w.heap[m]?) : w'.ownsMap Tryz.prog 3 rawE m n D := by
  obtain ⟨es, c, hh, r⟩ := h
  exact ⟨es, c, hb.trans hh, r⟩
theorem PMap.on {w w' : World} {m : Nat} {s : List (List SB)} {D : DataW Value} {X : Nat → Value} (h : PMap w m s D X) (hm : w'.heap[m]? = w.heap[m]?) (hx : ∀ i, i < s.length → ∀ k, (X i).ownBlock = some k → w'.heap[k]? = w.heap[k]?) : PMap w' m s D X :=
  ⟨map_on h.own hm, h.dom, h.has_, h.at_, h.pos, fun i hi => rowS_on (h.row i hi) (hx i hi), h.apart⟩
theorem PDisk.on {w w' : World} {b m : Nat} {L : Value} {D : DataW Value} {X : Nat → Value} {d : RD} (h : PDisk w b L m D X d) (hk : ∀ k, foot b m L X d.s.length k → w'.heap[k]? = w.heap[k]?) : PDisk w' b L m D X d :=
  ⟨(hk b (.inl rfl)).trans h.disk, h.last.on (fun k e => hk k (.inr (.inr (.inl e)))), h.map.on (hk m (.inr (.inl rfl))) (fun i hi k e => hk k (.inr (.inr (.inr ⟨i, hi, e⟩)))), h.off, h.n0, h.n1, h.fz⟩
theorem PDisk.below {w w' : World} {b m : Nat} {L : Value} {D : DataW Value} {X : Nat → Value} {d : RD} (h : PDisk w b L m D X d) (hb : Below w.heap.size w w') : PDisk w' b L m D X d :=
  h.on fun _ hk => hb.block _ (h.kind hk).lt
theorem PD.on {w w' : World} {F : Nat → Prop} {b : Nat} {d : RD} (h : PD w F b d) (hk : ∀ k, F k → w'.heap[k]? = w.heap[k]?) : PD w' F b d := by
  obtain ⟨L, m, D, X, hp, hF⟩ := h
  exact ⟨L, m, D, X, hp.on (fun k e => hk k ((hF k).2 e)), hF⟩
theorem PD.below {w w' : World} {F : Nat → Prop} {b : Nat} {d : RD} (h : PD w F b d) (hb : Below w.heap.size w w') : PD w' F b d :=
  h.on fun _ hk => hb.block _ (h.lt hk)

/-- only blocks of F, and new ones, may be others -/
structure Stays (w w' : World) (F : Nat → Prop) : Prop where
  os : w'.os = w.os
  tape : w'.tape = w.tape
  output : w'.output = w.output
  size : w.heap.size ≤ w'.heap.size
  block : ∀ k, k < w.heap.size → ¬ F k → w'.heap[k]? = w.heap[k]?
theorem Stays.refl (w : World) (F : Nat → Prop) : Stays w w F := ⟨rfl, rfl, rfl, Nat.le_refl _, fun _ _ _ => rfl⟩
theorem Stays.of_below {w w' : World} (h : Below w.heap.size w w') (F : Nat → Prop) : Stays w w' F := ⟨h.os, h.tape, h.output, h.size, fun k hk _ => h.block k hk⟩
theorem Stays.trans {a b c : World} {F G : Nat → Prop} (h : Stays a b F) (k : Stays b c G) (hG : ∀ i, G i → F i ∨ a.heap.size ≤ i) : Stays a c F := by
  refine ⟨k.os.trans h.os, k.tape.trans h.tape, k.output.trans h.output, Nat.le_trans h.size k.size, fun i hi hF => ?_⟩
  rw [k.block i (Nat.lt_of_lt_of_le hi h.size) (fun e => (hG i e).elim hF (fun e => by omega)), h.block i hi hF]
theorem Stays.below {w w' : World} {F : Nat → Prop} {B : Nat} (h : Stays w w' F) (hB : B ≤ w.heap.size) (hF : ∀ k, F k → B ≤ k) : Below B w w' :=
  ⟨h.os, h.tape, h.output, h.size, fun k hk => h.block k (Nat.lt_of_lt_of_le hk hB) (fun e => by have := hF k e; omega)⟩
theorem Stays.set {w w' : World} {F : Nat → Prop} (h : Stays w w' F) (a : Addr) (ha : F a.block ∨ w.heap.size ≤ a.block) (u : Value) : Stays w (w'.setCell a u) F :=
  ⟨h.os, h.tape, h.output, by have := h.size; simpa [World.setCell] using this, fun k hk hF => by rw [Below.heap_setCell w' a u k (fun e => by subst e; exact ha.elim hF (fun e => by omega))]; exact h.block k hk hF⟩
theorem Stays.grown {w w' w2 : World} {F : Nat → Prop} {row : Option Nat} (h : Stays w w' F) (hg : w'.grownBy w2 row) (hr : ∀ k, row = some k → F k ∨ w.heap.size ≤ k) : Stays w w2 F :=
  ⟨hg.os.trans h.os, hg.tape.trans h.tape, hg.output.trans h.output, Nat.le_trans h.size hg.size, fun k hk hF => by
    rw [hg.block k (Nat.lt_of_lt_of_le hk h.size) (fun e => (hr k e.symm).elim hF (fun e => by omega))]; exact h.block k hk hF⟩
end Go.Proofs.YtoclhiaidbfheaaGreatDoor.Q
end

section
namespace Go.Proofs.YtoclhiaidbfheaaGreatDoor.Q
open Go.RowKit

section
variable {w : World} {b m : Nat} {L : Value} {D : DataW Value} {X : Nat → Value} {d : RD}
theorem PDisk.form (h : PDisk w b L m D X d) : ∃ g cap cur, L = .slice (some ⟨g, 0, none⟩) d.s.length cap ∧ w.heap[g]? = some (.cells cur 245 (0, 0)) ∧ d.s.length ≤ cap ∧ cap ≤ maxLen ∧ d.s.length * 64 ≤ cur.size ∧ cur.toList.take (d.s.length * 64) = secs (d.s.map (·.headD 0)) := by
  obtain ⟨g, cap, cur, hv, r⟩ := h.last
  rw [List.length_map] at hv r
  exact ⟨g, cap, cur, hv, r⟩
theorem PDisk.c0 (h : PDisk w b L m D X d) : w.cell? ⟨b, 0, none⟩ = some L := by rw [cell_of_row w b 0 _ _ _ h.disk]; rfl
theorem PDisk.c1 (h : PDisk w b L m D X d) : w.cell? ⟨b, 1, none⟩ = some (.map (some m)) := by rw [cell_of_row w b 1 _ _ _ h.disk]; rfl
theorem PDisk.c2 (h : PDisk w b L m D X d) : w.cell? ⟨b, 2, none⟩ = some (.bool (decide (0 ≤ d.fuse))) := by rw [cell_of_row w b 2 _ _ _ h.disk]; rfl
theorem PDisk.c3 (h : PDisk w b L m D X d) : w.cell? ⟨b, 3, none⟩ = some (.int .i64 (leftN d.fuse)) := by rw [cell_of_row w b 3 _ _ _ h.disk]; rfl
theorem PDisk.c4 (h : PDisk w b L m D X d) : w.cell? ⟨b, 4, none⟩ = some (.bool d.dead) := by rw [cell_of_row w b 4 _ _ _ h.disk]; rfl
theorem PDisk.fr (h : PDisk w b L m D X d) (i : Nat) : w.frozen? ⟨b, i, none⟩ = false := Joins.unfrozen_of_block h.disk i
theorem PDisk.lt (h : PDisk w b L m D X d) : b < w.heap.size := (Array.getElem?_eq_some_iff.1 h.disk).1
theorem ptypes : 157 ≠ 245 := by decide
theorem PDisk.b_m (h : PDisk w b L m D X d) : m ≠ b := by
  intro e
  obtain ⟨es, c, hm⟩ := map_kind h.map.own
  rw [e, h.disk] at hm
  cases hm
theorem PDisk.b_row (h : PDisk w b L m D X d) {v : Value} {n : Nat} {xs : List Value} (hv : w.ownsRow 0 245 64 v n xs) : v.ownBlock ≠ some b := by
  intro e
  obtain ⟨cs, hc⟩ := row_kind hv e
  rw [h.disk] at hc
  injection hc with hc
  injection hc with _ hc
  exact ptypes hc
theorem PDisk.b_last (h : PDisk w b L m D X d) : L.ownBlock ≠ some b := by
  intro e
  obtain ⟨cs, hc⟩ := h.last.kind e
  rw [h.disk] at hc
  injection hc with hc
  injection hc with _ hc
  exact ptypes hc
theorem PDisk.m_last (h : PDisk w b L m D X d) : L.ownBlock ≠ some m := by
  intro e
  obtain ⟨cs, hc⟩ := h.last.kind e
  obtain ⟨es, c, hm⟩ := map_kind h.map.own
  rw [hm] at hc
  cases hc
theorem PDisk.m_row (h : PDisk w b L m D X d) {v : Value} {n : Nat} {xs : List Value} (hv : w.ownsRow 0 245 64 v n xs) : v.ownBlock ≠ some m := by
  intro e
  obtain ⟨cs, hc⟩ := row_kind hv e
  obtain ⟨es, c, hm⟩ := map_kind h.map.own
  rw [hm] at hc
  cases hc
/-- a field of the disk is set -/
theorem PDisk.setF (h : PDisk w b L m D X d) (i : Nat) (u : Value) (d' : RD) (hs : d'.s = d.s) (hf : -1 ≤ d'.fuse ∧ d'.fuse ≤ 9223372036854775807) (hc : (diskCells L m d).setIfInBounds i u = diskCells L m d') : PDisk (w.setCell ⟨b, i, none⟩ u) b L m D X d' := by
  have hb : ∀ k, k ≠ b → (w.setCell ⟨b, i, none⟩ u).heap[k]? = w.heap[k]? := fun k hk => Below.heap_setCell _ _ _ _ hk
  refine ⟨by rw [Joins.block_setCell h.disk, hc], ?_, ?_, by rw [hs]; exact h.off, by rw [hs]; exact h.n0, by rw [hs]; exact h.n1, hf⟩
  · rw [hs]; exact h.last.on (fun k hk => hb k (fun e => h.b_last (by rw [hk, e])))
  · rw [hs]; exact h.map.on (hb m h.b_m) (fun j hj k hk => hb k (fun e => h.b_row (h.map.row j hj) (by rw [hk, e])))
end

theorem none_any (w : World) (b m : Nat) (L : Value) (D : DataW Value) (X : Nat → Value) (d : RD) (h : PDisk w b L m D X d) :
    Calls Tryz.prog 135 #[.pointer (some ⟨b, 0, none⟩)] w fun e w' => e = .returned (.bool false) ∧ w = w' := by
  have c0 := h.c0
  obtain ⟨g, cap, cur, rfl, _⟩ := h.form
  have h0 : ((d.s.length : Int) == 0) = false := by have := h.n0; rw [beq_eq_false_iff_ne]; omega
  clear h
  go_enter Tryz.func135, Tryz.ntmps135
  go_wp2
  go_ret
  exact ⟨rfl, rfl⟩
theorem none_nil (w : World) : Calls Tryz.prog 135 #[.pointer none] w fun e w' => e = .returned (.bool true) ∧ w = w' := by
  go_enter Tryz.func135, Tryz.ntmps135
  go_wp2
  go_ret
  exact ⟨rfl, rfl⟩
theorem none_zero (w : World) (b : Nat) (h : w.cell? ⟨b, 0, none⟩ = some (.slice none 0 0)) : Calls Tryz.prog 135 #[.pointer (some ⟨b, 0, none⟩)] w fun e w' => e = .returned (.bool true) ∧ w = w' := by
  go_enter Tryz.func135, Tryz.ntmps135
  go_wp2
  go_ret
  exact ⟨rfl, rfl⟩

def placeE (n : Nat) (i : Int) : Int := if 0 ≤ i ∧ i < (n : Int) then 0 else 2
theorem place_any (w : World) (b m : Nat) (L : Value) (D : DataW Value) (X : Nat → Value) (d : RD) (h : PDisk w b L m D X d) (i : Int) :
    Calls Tryz.prog 196 #[.pointer (some ⟨b, 0, none⟩), .int .i64 i] w fun e w' => e = .returned (.int .i64 (placeE d.s.length i)) ∧ w = w' := by
  have HN := Lib.hid (none_any w b m L D X d h)
  have c0 := h.c0
  obtain ⟨g, cap, cur, rfl, _⟩ := h.form
  clear h
  by_cases h1 : i < 0
  · have e1 : placeE d.s.length i = 2 := by unfold placeE; rw [if_neg (by omega)]
    rw [e1]
    have t1 : decide (i < 0) = true := by simpa using h1
    clear e1
    go_enter Tryz.func196, Tryz.ntmps196
    go_wp2_with (go_at_call 135; refine HN.out.mono ?_; rintro e w' ⟨rfl, rfl⟩)
    go_ret
    exact ⟨rfl, rfl⟩
  · have t1 : decide (i < 0) = false := by simpa using h1
    by_cases h2 : i < (d.s.length : Int)
    · have e1 : placeE d.s.length i = 0 := by unfold placeE; rw [if_pos (by omega)]
      rw [e1]
      have t2 : decide ((d.s.length : Int) ≤ i) = false := by simpa using h2
      clear e1
      go_enter Tryz.func196, Tryz.ntmps196
      go_wp2_with (go_at_call 135; refine HN.out.mono ?_; rintro e w' ⟨rfl, rfl⟩)
      go_ret
      exact ⟨rfl, rfl⟩
    · have e1 : placeE d.s.length i = 2 := by unfold placeE; rw [if_neg (by omega)]
      rw [e1]
      have t2 : decide ((d.s.length : Int) ≤ i) = true := by simp; omega
      clear e1
      go_enter Tryz.func196, Tryz.ntmps196
      go_wp2_with (go_at_call 135; refine HN.out.mono ?_; rintro e w' ⟨rfl, rfl⟩)
      go_ret
      exact ⟨rfl, rfl⟩

theorem sectors_any (w : World) (b m : Nat) (L : Value) (D : DataW Value) (X : Nat → Value) (d : RD) (h : PDisk w b L m D X d) :
    Calls Tryz.prog 74 #[.pointer (some ⟨b, 0, none⟩)] w fun e w' => e = .returned (.int .i64 (d.s.length : Int)) ∧ w = w' := by
  have HN := Lib.hid (none_any w b m L D X d h)
  have c0 := h.c0
  obtain ⟨g, cap, cur, rfl, _⟩ := h.form
  clear h
  go_enter Tryz.func74, Tryz.ntmps74
  go_wp2_with (go_at_call 135; refine HN.out.mono ?_; rintro e w' ⟨rfl, rfl⟩)
  go_ret
  exact ⟨rfl, rfl⟩
def stepE (d : RD) : Int := if movesB d = true then 0 else 10
set_option maxHeartbeats 1000000 in
theorem step_any (w : World) (b m : Nat) (L : Value) (D : DataW Value) (X : Nat → Value) (d : RD) (h : PDisk w b L m D X d) :
    Calls Tryz.prog 146 #[.pointer (some ⟨b, 0, none⟩)] w fun e w' => e = .returned (.int .i64 (stepE d)) ∧ PDisk w' b L m D X (movesD d) ∧ (∀ k, k ≠ b → w'.heap[k]? = w.heap[k]?) ∧ Stays w w' (· = b) := by
  have c2 := h.c2
  have c3 := h.c3
  have c4 := h.c4
  have f3 := h.fr 3
  have f4 := h.fr 4
  have hf := h.fz
  have hset : ∀ i u, (∀ k, k ≠ b → (w.setCell ⟨b, i, none⟩ u).heap[k]? = w.heap[k]?) ∧ Stays w (w.setCell ⟨b, i, none⟩ u) (· = b) := fun i u => ⟨fun k hk => Below.heap_setCell _ _ _ _ hk, (Stays.refl w (· = b)).set ⟨b, i, none⟩ (.inl rfl) u⟩
  have HSET := Lib.hid hset
  clear hset
  by_cases h0 : d.fuse = 0
  · have e1 : stepE d = 10 := by simp [stepE, movesB, h0]
    have e2 : movesD d = { d with dead := true } := by simp [movesD, h0]
    have h3 : PDisk (w.setCell ⟨b, 4, none⟩ (.bool true)) b L m D X (movesD d) := by rw [e2]; exact h.setF 4 _ _ rfl hf rfl
    have H3 := Lib.hid h3
    rw [e1]
    rw [h0] at c2 c3
    have cc2 : w.cell? ⟨b, 2, none⟩ = some (.bool true) := c2
    have cc3 : w.cell? ⟨b, 3, none⟩ = some (.int .i64 0) := c3
    clear c2 c3 h3 e1 e2 h
    go_enter Tryz.func146, Tryz.ntmps146
    go_wp2
    go_ret
    exact ⟨rfl, H3.out, HSET.out _ _⟩
  · cases hd : d.dead with
    | true =>
      have e1 : stepE d = 10 := by simp [stepE, movesB, hd]
      have e2 : movesD d = d := by cases d; simp_all [movesD]
      rw [e1, e2]
      rw [hd] at c4
      have H := Lib.hid h
      clear e1 e2 h hd
      by_cases hp : 0 ≤ d.fuse
      · have t1 : decide (0 ≤ d.fuse) = true := by simpa using hp
        have t2 : (leftN d.fuse == 0) = false := by unfold leftN; rw [if_pos hp]; simpa using h0
        rw [t1] at c2
        generalize leftN d.fuse = lf at *
        clear t1
        go_enter Tryz.func146, Tryz.ntmps146
        go_wp2
        go_ret
        exact ⟨rfl, H.out, fun _ _ => rfl, Stays.refl _ _⟩
      · have t1 : decide (0 ≤ d.fuse) = false := by simpa using hp
        rw [t1] at c2
        clear t1
        go_enter Tryz.func146, Tryz.ntmps146
        go_wp2
        go_ret
        exact ⟨rfl, H.out, fun _ _ => rfl, Stays.refl _ _⟩
    | false =>
      have e1 : stepE d = 0 := by simp [stepE, movesB, hd, h0]
      rw [e1]
      rw [hd] at c4
      by_cases hp : 0 ≤ d.fuse
      · have hlf : leftN d.fuse = d.fuse := by unfold leftN; rw [if_pos hp]
        have e2 : movesD d = { d with fuse := d.fuse - 1 } := by unfold movesD; rw [if_neg (by simp [hd, h0]), if_pos (by omega)]
        have h3 : PDisk (w.setCell ⟨b, 3, none⟩ (.int .i64 (d.fuse - 1))) b L m D X (movesD d) := by
          rw [e2]
          refine h.setF 3 _ _ rfl (by simp only; omega) ?_
          have q1 : decide (0 ≤ d.fuse) = true := by simpa using hp
          have q2 : decide (0 ≤ d.fuse - 1) = true := by simp; omega
          have q3 : leftN (d.fuse - 1) = d.fuse - 1 := by unfold leftN; rw [if_pos (by omega)]
          simp only [diskCells, q1, q2, q3]
          rfl
        have t1 : decide (0 ≤ d.fuse) = true := by simpa using hp
        have t2 : (d.fuse == 0) = false := by simpa using h0
        rw [t1] at c2
        rw [hlf] at c3
        have H3 := Lib.hid h3
        clear t1 e1 e2 h hd h3 hlf
        go_enter Tryz.func146, Tryz.ntmps146
        go_wp2
        go_ret
        exact ⟨rfl, H3.out, HSET.out _ _⟩
      · have e2 : movesD d = d := by unfold movesD; rw [if_neg (by simp [hd, h0]), if_neg (by omega)]
        rw [e2]
        have t1 : decide (0 ≤ d.fuse) = false := by simpa using hp
        rw [t1] at c2
        have H := Lib.hid h
        clear t1 e1 e2 h hd
        go_enter Tryz.func146, Tryz.ntmps146
        go_wp2
        go_ret
        exact ⟨rfl, H.out, fun _ _ => rfl, Stays.refl _ _⟩
end Go.Proofs.YtoclhiaidbfheaaGreatDoor.Q
end

section
namespace Go.Proofs.YtoclhiaidbfheaaGreatDoor.Q
open Go.RowKit

theorem row_range {w : World} {g n cap : Nat} {l : List SB} (h : w.ownsRow 0 245 64 (.slice (some ⟨g, 0, none⟩) n cap) n (secs l)) (i : Nat) (hi : i < l.length) : w.rangeAt g (i * 64) (sec l[i]) := by
  intro j v hv
  have hj : j < 64 := by
    have := (List.getElem?_eq_some_iff.1 hv).1
    rwa [sec_len] at this
  have := h.cells (g := g) rfl (i * 64 + j) v (by rw [secs_get l i j hi hj]; exact hv)
  rwa [Addr.add_mid, Nat.zero_add] at this
theorem LRow.range {w : World} {g n cap : Nat} {l : List SB} (h : LRow w (.slice (some ⟨g, 0, none⟩) n cap) l) (i : Nat) (hi : i < l.length) : w.rangeAt g (i * 64) (sec l[i]) := by
  intro j v hv
  have hj : j < 64 := by
    have := (List.getElem?_eq_some_iff.1 hv).1
    rwa [sec_len] at this
  obtain ⟨g', cap', cur, hL, hg, _, _, hs, ht⟩ := h
  injection hL with e1
  injection e1 with e1
  injection e1 with e1
  subst e1
  rw [cell_of_row w g _ _ _ _ hg, ← Array.getElem?_toList]
  have h1 : (secs l)[i * 64 + j]? = some v := by rw [secs_get l i j hi hj]; exact hv
  rw [← ht, List.getElem?_take] at h1
  split at h1
  · exact h1
  · cases h1
theorem LRow.there {w : World} {g n cap : Nat} {l : List SB} (h : LRow w (.slice (some ⟨g, 0, none⟩) n cap) l) (i : Nat) (hi : i < l.length) : w.there g (i * 64) 64 := by
  intro j hj
  have hr := h.range i hi j ((sec l[i])[j]'(by rw [sec_len]; exact hj)) (List.getElem?_eq_getElem _)
  refine ⟨by rw [hr]; rfl, ?_⟩
  obtain ⟨g', cap', cur, hL, hg, _⟩ := h
  injection hL with e1
  injection e1 with e1
  injection e1 with e1
  subst e1
  exact frozen_of_row w g _ cur _ hg
theorem zero_secs (w : World) : (zeroValue 152).run Tryz.prog w = .ok nilS w := by kernel_rfl

section
variable {w : World} {b m : Nat} {L : Value} {D : DataW Value} {X : Nat → Value} {d : RD}
theorem PMap.look {s : List (List SB)} (h : PMap w m s D X) (i : Nat) (hi : i < s.length) (h8 : s.length ≤ 8192) : (Instr.lookup 153 (.map (some m)) (.int .i64 (i : Int)) false).run Tryz.prog w = .ok (X i) w := by
  obtain ⟨v, ps, hrun, hv⟩ := h.own.lookup (t := 153) (e := 152) (key := .int .i64 (i : Int)) (zd := .held nilS) (zp := []) lawI Tryz.underlying153 (zero_secs w) rfl (key_of i (by omega))
  have hv' : some (DataW.held v, ([] : List MemPlace)) = some (D.atKey (key i) (.held nilS), ps) := hv
  rw [h.at_ i hi] at hv'
  obtain rfl : v = X i := by simpa using congrArg (fun o => o.map (·.1)) hv'
  exact hrun
end
theorem wpList_lookup_run {P : Program} (w : World) {ops : Array Oper} {rest : List Oper} {o : Oper} {a : Act} {Q : Exit → Act → World → Prop}
    (hg : o.guard = none) (mo x : Operand) (t : TypeId) (hop : o.op = Op.lookup t mo x false) (mv k v : Value) (hm : a.eval mo = mv) (hx : a.eval x = k) (hrun : (Instr.lookup t mv k false).run P w = .ok v w)
    (hK : wpList P ops Q rest (a.put o.dst v) w) : wpList P ops Q (o :: rest) a w := by
  refine wpList_plain hg fun K' hK' => ?_
  unfold Oper.wp
  simp [execOp, hop, hm, hx, hrun, Result.andThen]
  exact hK' _ _ hK

theorem PMap.nilX {w : World} {m : Nat} {s : List (List SB)} {D : DataW Value} {X : Nat → Value} (h : PMap w m s D X) (i : Nat) (hi : i < s.length) (h1 : ¬ 1 < s[i].length) : s[i].length = 1 ∧ X i = nilS := by
  have hp := (h.pos i hi).1
  have hn := h.has_ i hi
  rw [decide_eq_false h1] at hn
  have ha := h.at_ i hi
  rw [Maps.atKey_of_not_has hn] at ha
  refine ⟨by omega, ?_⟩
  injection ha with ha
  exact ha.symm

set_option maxRecDepth 10000 in
set_option maxHeartbeats 2000000 in
theorem last_any (w : World) (b m : Nat) (L : Value) (D : DataW Value) (X : Nat → Value) (d : RD) (h : PDisk w b L m D X d) (i : Nat) (hi : i < d.s.length) :
    Calls Tryz.prog 147 #[.pointer (some ⟨b, 0, none⟩), .int .i64 (i : Int)] w fun e w' => e = .returned (.agg (sec ((d.s[i]).getLastD 0)).toArray) ∧ Below w.heap.size w w' := by
  have hzv := zero_sector
  have hb1 := (Below.refl w.heap.size w).alloc (Nat.le_refl _) (.cells (cells8 (fullN 0 0)).toArray 245)
  have hnew := heap_alloc_new w (.cells (cells8 (fullN 0 0)).toArray 245)
  have ha := h.below hb1
  have c0 := ha.c0
  have c1 := ha.c1
  have hm := ha.map
  have h8 := ha.n1
  obtain ⟨g, cap, cur, hL, hg, hnc, hcm, hcs, ht⟩ := ha.form
  subst hL
  have hpos := (hm.pos i hi)
  have HNEW := Lib.hid hnew
  by_cases h1 : 1 < d.s[i].length
  · have hrow := hm.row i hi
    have hlk := hm.look i hi h8
    rcases hrow.2 with ⟨_, h0⟩ | ⟨gi, ci, cui, hXi, _, hgi, _⟩
    · omega
    have hlast : (d.s[i]).getLastD 0 = (d.s[i].tail)[d.s[i].length - 1 - 1]'(by rw [List.length_tail]; omega) := by
      rw [List.getElem_tail, List.getLastD_eq_getLast?, List.getLast?_eq_some_getLast (by intro e; rw [e] at h1; simp at h1), List.getLast_eq_getElem]
      simp only [Option.getD_some]
      congr 1
      omega
    have hrg := row_range (by rw [hXi] at hrow; exact hrow) (d.s[i].length - 1 - 1) (by rw [List.length_tail]; omega)
    rw [← hlast] at hrg
    have HR := Lib.hid hrg
    rw [hXi] at hlk
    have HLK := Lib.hid hlk
    generalize (d.s[i]).getLastD 0 = c at *
    have hsub : IntKind.i64.wrap (((d.s[i].length - 1 : Nat) : Int) - 1) = ((d.s[i].length - 1 - 1 : Nat) : Int) := by
      rw [show (((d.s[i].length - 1 : Nat) : Int) - 1) = ((d.s[i].length - 1 - 1 : Nat) : Int) by omega]
      exact IntWalk.i64_in _ (by omega)
    have t1 : (((d.s[i].length - 1 : Nat) : Int) == 0) = false := by rw [beq_eq_false_iff_ne]; omega
    have hlt2 : d.s[i].length - 1 - 1 < d.s[i].length - 1 := by omega
    clear hlast hrow hrg hlk hXi hgi ha h hg hcs ht hpos h1 hm hnew
    generalize d.s[i].length - 1 = n at *
    go_enter Tryz.func147, Tryz.ntmps147
    go_wp2_with (first
      | (at_lookup; refine wpList_lookup_run _ rfl (.tmp 9) (.tmp 10) 153 rfl _ _ _ rfl rfl HLK.out ?_)
      | refine wpList_load_mid rfl 245 (.tmp 26) rfl gi ((n - 1) * 64) rfl (sec c) _ HR.out sector_u rfl (sector_sz c) ?_
      | refine wpList_store_row rfl 245 (.tmp 4) (.tmp 27) rfl w.heap.size (sec c).toArray rfl rfl 245 (cells8 (fullN 0 0)).toArray HNEW.out (by rw [sector_sz c]; simp) (by rw [size8, fullN_len 0 0 (by omega), List.size_toArray, sec_len]) (all_oneCell_toArray (sec_one c)) ?_
      | fail)
    exact bodyPost_ret (results_cell_row rfl _ _ w.heap.size 245 (sec c).toArray (0, 0) _ rfl (setRow_heap _ _ _ _ _ _ HNEW.out) sector_u rfl (by rw [sector_sz c]; simp)) rfl ⟨rfl, below_setRow hb1 (Nat.le_refl _) _⟩
  · obtain ⟨hlen, hXi⟩ := hm.nilX i hi h1
    have hlk := hm.look i hi h8
    rw [hXi] at hlk
    have HLK := Lib.hid hlk
    have hlast : (d.s[i]).getLastD 0 = (d.s.map (·.headD 0))[i]'(by simpa using hi) := by
      rw [List.getElem_map]
      obtain ⟨x, hx⟩ := List.length_eq_one_iff.1 hlen
      rw [hx]
      rfl
    have hrg := ha.last.range i (by simpa using hi)
    rw [← hlast] at hrg
    have HR := Lib.hid hrg
    generalize (d.s[i]).getLastD 0 = c at *
    clear hlast hrg hlk hXi ha h hg hcs ht hpos h1 hm hnew hlen
    go_enter Tryz.func147, Tryz.ntmps147
    go_wp2_with (first
      | (at_lookup; refine wpList_lookup_run _ rfl (.tmp 9) (.tmp 10) 153 rfl _ _ _ rfl rfl HLK.out ?_)
      | refine wpList_load_mid rfl 245 (.tmp 20) rfl g (i * 64) rfl (sec c) _ HR.out sector_u rfl (sector_sz c) ?_
      | refine wpList_store_row rfl 245 (.tmp 4) (.tmp 21) rfl w.heap.size (sec c).toArray rfl rfl 245 (cells8 (fullN 0 0)).toArray HNEW.out (by rw [sector_sz c]; simp) (by rw [size8, fullN_len 0 0 (by omega), List.size_toArray, sec_len]) (all_oneCell_toArray (sec_one c)) ?_
      | fail)
    exact bodyPost_ret (results_cell_row rfl _ _ w.heap.size 245 (sec c).toArray (0, 0) _ rfl (setRow_heap _ _ _ _ _ _ HNEW.out) sector_u rfl (by rw [sector_sz c]; simp)) rfl ⟨rfl, below_setRow hb1 (Nat.le_refl _) _⟩
end Go.Proofs.YtoclhiaidbfheaaGreatDoor.Q
end

section
namespace Go.Proofs.YtoclhiaidbfheaaGreatDoor.Q
open Go.RowKit

theorem results_cell_tmp {P : Program} {fn : Func} {p q : Tmp} {ty : TypeId} (h : fn.results = #[.cell p ty, .tmp q]) (tmps : Array Value) (w : World) (g : Nat) (t : TypeId) (cs : Array Value) (fr : Nat × Nat) (d : TypeDesc) (u : Value)
    (hp : tmps.getD p undef = .pointer (some ⟨g, 0, none⟩)) (hq : tmps.getD q undef = u) (hg : w.heap[g]? = some (.cells cs t fr))
    (hu : P.underlying ty = some d) (hd : (match d with | .struct _ | .array _ _ => true | _ => false) = true) (hi : (P.info? ty).map (·.size) = some cs.size) :
    (results fn tmps).run P w = .ok (.tuple #[.agg cs, u]) w := by
  have hp' : tmps[p]?.getD undef = .pointer (some ⟨g, 0, none⟩) := by simpa using hp
  have hq' : tmps[q]?.getD undef = u := by simpa using hq
  simp [results, h, hp', hq', asAddr, run_loadVar_row w g t ty cs fr d hg hu hd hi]

set_option maxRecDepth 10000 in
set_option maxHeartbeats 2000000 in
theorem read_any (w : World) (b m : Nat) (L : Value) (D : DataW Value) (X : Nat → Value) (d : RD) (h : PDisk w b L m D X d) (i : Nat) (hi : i < d.s.length) :
    Calls Tryz.prog 229 #[.pointer (some ⟨b, 0, none⟩), .int .i64 (i : Int)] w fun e w' => e = .returned (.tuple #[.agg (sec ((d.s[i]).getLastD 0)).toArray, .int .i64 0]) ∧ Below w.heap.size w w' := by
  have hzv := zero_sector
  have hb1 := (Below.refl w.heap.size w).alloc (Nat.le_refl _) (.cells (cells8 (fullN 0 0)).toArray 245)
  have hnew := heap_alloc_new w (.cells (cells8 (fullN 0 0)).toArray 245)
  have hsz : (w.alloc (.cells (cells8 (fullN 0 0)).toArray 245)).heap.size = w.heap.size + 1 := by simp
  have ha := h.below hb1
  have hp := place_any _ b m L D X d ha i
  have he : placeE d.s.length i = 0 := by unfold placeE; rw [if_pos (by omega)]
  rw [he] at hp
  have HP := Lib.hid hp
  have HL := Lib.hid (last_any _ b m L D X d ha i hi)
  clear hp he ha h
  generalize (d.s[i]).getLastD 0 = c at *
  have HNEW := Lib.hid hnew
  have HB1 := Lib.hid hb1
  have HSZ := Lib.hid hsz
  clear hnew hb1 hsz
  go_enter Tryz.func229, Tryz.ntmps229
  go_wp2_with (first
    | (go_at_call 196; refine HP.out.mono ?_; rintro e w' ⟨rfl, rfl⟩)
    | fail)
  refine HL.out.mono ?_
  rintro e w2 ⟨rfl, hb2⟩
  have hg2 : w2.heap[w.heap.size]? = some (.cells (cells8 (fullN 0 0)).toArray 245 (0, 0)) := (hb2.block _ (by rw [HSZ.out]; omega)).trans HNEW.out
  have HG2 := Lib.hid hg2
  clear hg2
  go_wp2_with (first
    | refine wpList_store_row rfl 245 (.tmp 4) (.tmp 16) rfl w.heap.size (sec c).toArray rfl rfl 245 (cells8 (fullN 0 0)).toArray HG2.out (by rw [sector_sz c]; simp) (by rw [size8, fullN_len 0 0 (by omega), List.size_toArray, sec_len]) (all_oneCell_toArray (sec_one c)) ?_
    | fail)
  exact bodyPost_ret (results_cell_tmp rfl _ _ w.heap.size 245 (sec c).toArray (0, 0) _ (.int .i64 0) rfl rfl (setRow_heap _ _ _ _ _ _ HG2.out) sector_u rfl (by rw [sector_sz c]; simp)) rfl ⟨rfl, below_setRow (HB1.out.trans (hb2.mono (by rw [HSZ.out]; omega))) (Nat.le_refl _) _⟩

set_option maxRecDepth 10000 in
set_option maxHeartbeats 2000000 in
theorem read_no (w : World) (p : Value) (i er : Int) (he0 : (er == 0) = false)
    (hp : ∀ W, Below w.heap.size w W → Calls Tryz.prog 196 #[p, .int .i64 i] W fun e w' => e = .returned (.int .i64 er) ∧ W = w') :
    Calls Tryz.prog 229 #[p, .int .i64 i] w fun e w' => e = .returned (.tuple #[.agg (sec 0).toArray, .int .i64 er]) ∧ Below w.heap.size w w' := by
  have hzv := zero_sector
  have hb1 := (Below.refl w.heap.size w).alloc (Nat.le_refl _) (.cells (cells8 (fullN 0 0)).toArray 245)
  have hnew := heap_alloc_new w (.cells (cells8 (fullN 0 0)).toArray 245)
  have HP := Lib.hid (hp _ hb1)
  have HNEW := Lib.hid hnew
  have HB1 := Lib.hid hb1
  clear hnew hb1 hp
  go_enter Tryz.func229, Tryz.ntmps229
  go_wp2_with (first
    | (go_at_call 196; refine HP.out.mono ?_; rintro e w' ⟨rfl, rfl⟩)
    | refine wpList_store_row rfl 245 (.tmp 4) (.tmp 12) rfl w.heap.size (sec 0).toArray rfl rfl 245 (cells8 (fullN 0 0)).toArray HNEW.out (by rw [sector_sz 0]; simp) (by rw [size8, fullN_len 0 0 (by omega), List.size_toArray, sec_len]) (all_oneCell_toArray (sec_one 0)) ?_
    | fail)
  exact bodyPost_ret (results_cell_tmp rfl _ _ w.heap.size 245 (sec 0).toArray (0, 0) _ (.int .i64 er) rfl rfl (setRow_heap _ _ _ _ _ _ HNEW.out) sector_u rfl (by rw [sector_sz 0]; simp)) rfl ⟨rfl, below_setRow HB1.out (Nat.le_refl _) _⟩
end Go.Proofs.YtoclhiaidbfheaaGreatDoor.Q
end

section
namespace Go.Proofs.YtoclhiaidbfheaaGreatDoor.Q
open Go.RowKit

end Go.Proofs.YtoclhiaidbfheaaGreatDoor.Q
end

section
namespace Go.Proofs.YtoclhiaidbfheaaGreatDoor.Q
open Go.RowKit

def z8 : Value := .int .u8 0
theorem sec_zero : sec 0 = List.replicate 64 z8 := by
  show cells8 (List.replicate 64 0) = _
  simp [cells8, z8]
theorem secs_zero (n : Nat) : secs (List.replicate n 0) = List.replicate (n * 64) z8 := by
  induction n with
  | zero => simp [secs]
  | succ n ih => rw [List.replicate_succ, secs_cons, ih, sec_zero, List.replicate_append_replicate]; congr 1; omega
theorem made_zero (n : Nat) : (madeCells (sec 0).toArray (n * 64)).toList = secs (List.replicate n 0) := by
  rw [secs_zero]
  unfold madeCells
  rw [Array.toList_map, Array.toList_range, List.eq_replicate_iff]
  refine ⟨by simp, fun v hv => ?_⟩
  obtain ⟨i, hi, rfl⟩ := List.mem_map.1 hv
  have hA : ∀ (l : Array Value) (k : Nat), (∀ u ∈ l, u = z8) → k < l.size → l[k]! = z8 := fun l k ha hk => by rw [getElem!_pos l k hk]; exact ha _ (Array.getElem_mem hk)
  have hz : (sec 0).toArray.size = 64 := by rw [List.size_toArray, sec_len]
  refine hA _ _ (fun u hu => ?_) (by rw [hz]; omega)
  rw [List.mem_toArray, sec_zero] at hu
  exact List.eq_of_mem_replicate hu
theorem zeroc_zero (n : Nat) : (Builtin.zeroCells (sec 0).toArray n).toList = secs (List.replicate n 0) := by
  have h := made_zero n
  unfold madeCells at h
  rw [← h]
  unfold Builtin.zeroCells
  rw [List.size_toArray, sec_len]

theorem has_empty (kl : Lit) : Maps.has (.map [] : DataW Value) kl = false := rfl
theorem atKey_empty (kl : Lit) (z : DataW Value) : (DataW.map [] : DataW Value).atKey kl z = z := Maps.atKey_of_not_has (has_empty kl) z
/-- a map of no entries -/
theorem PMap.empty {w : World} {m n : Nat} {s : List (List SB)} (h : w.ownsMap Tryz.prog 3 rawE m n (.map [])) (hs : ∀ i (h : i < s.length), s[i].length = 1) (hn : n ≤ s.length) : PMap w m s (.map []) (fun _ => nilS) where
  own := h.mono hn
  dom := fun kl hk => by rw [has_empty] at hk; cases hk
  has_ := fun i hi => by rw [has_empty, hs i hi]; rfl
  at_ := fun i _ => atKey_empty _ _
  pos := fun i hi => by rw [hs i hi]; omega
  row := fun i hi => by
    have h1 := hs i hi
    have ht : s[i].tail = [] := List.eq_nil_of_length_eq_zero (by rw [List.length_tail, h1])
    rw [h1, ht]
    exact World.ownsRow_nil _ _ _ _
  apart := fun i j _ _ _ k hk => by cases hk

theorem newD_head (n : Nat) : (newD n).s.map (·.headD 0) = List.replicate n 0 := by simp [newD]
theorem new_disk {w w1 : World} {n : Nat} (hown : w1.ownsRow 0 245 64 (.slice (some ⟨w.heap.size, 0, none⟩) n n) n (secs (List.replicate n 0))) (hg : w.grownBy w1 none) (hn : 1 ≤ n ∧ n ≤ 8192) :
    ∃ F, PD ((w1.alloc (.map #[] 0)).alloc (.cells #[.slice (some ⟨w.heap.size, 0, none⟩) n n, .map (some w1.heap.size), .bool false, .int .i64 0, .bool false] 157)) F (w1.heap.size + 1) (newD n) ∧ (∀ k, F k → w.heap.size ≤ k) ∧
      Below w.heap.size w ((w1.alloc (.map #[] 0)).alloc (.cells #[.slice (some ⟨w.heap.size, 0, none⟩) n n, .map (some w1.heap.size), .bool false, .int .i64 0, .bool false] 157)) := by
  have hl : (newD n).s.length = n := by simp [newD]
  have hsz := hg.size
  refine ⟨foot (w1.heap.size + 1) w1.heap.size (.slice (some ⟨w.heap.size, 0, none⟩) n n) (fun _ => nilS) n, ⟨_, w1.heap.size, .map [], fun _ => nilS, ⟨?_, ?_, ?_, ?_, ?_, ?_, ?_⟩, fun k => by rw [hl]⟩, ?_, ?_⟩
  · exact heap_alloc2_new w1 _ _
  · rw [newD_head]
    have h2 := (hown.alloc (.map #[] 0)).alloc (.cells #[.slice (some ⟨w.heap.size, 0, none⟩) n n, .map (some w1.heap.size), .bool false, .int .i64 0, .bool false] 157)
    refine LRow.of_own ?_ (by simp; omega)
    rw [List.length_replicate]
    exact h2
  · have hm := (World.ownsMap_made w1 Tryz.prog 3 rawE).alloc (.cells #[.slice (some ⟨w.heap.size, 0, none⟩) n n, .map (some w1.heap.size), .bool false, .int .i64 0, .bool false] 157)
    exact PMap.empty hm (fun i hi => by simp [newD]) (Nat.zero_le _)
  · intro i _ k hk; cases hk
  · rw [hl]; omega
  · rw [hl]; omega
  · show (-1 : Int) ≤ -1 ∧ (-1 : Int) ≤ _; omega
  · rintro k (rfl | rfl | hk | ⟨i, _, hk⟩)
    · omega
    · omega
    · injection hk with hk
      have hk' : w.heap.size = k := hk
      omega
    · cases hk
  · exact (((Below.refl w.heap.size w).grown hg (Nat.le_refl _) (fun k hk => by cases hk)).alloc hsz _).alloc (by simp; omega) _

set_option maxHeartbeats 2000000 in
theorem pnew_any (n : Nat) (w : World) (h : 1 ≤ n ∧ n ≤ 8192) :
    Calls Tryz.prog 29 #[.int .i64 n] w fun e w' => ∃ b F, e = .returned (.tuple #[.pointer (some ⟨b, 0, none⟩), .int .i64 0]) ∧ PD w' F b (newD n) ∧ (∀ k, F k → w.heap.size ≤ k) ∧ Below w.heap.size w w' := by
  obtain ⟨i0, hi, hz0, hz1, hz2⟩ := info_parts sector_info
  have hmm := @run_makeMap Tryz.prog
  have hlt : decide ((8192 : Int) < (n : Int)) = false := by simp; omega
  have hlt1 : decide ((n : Int) < 1) = false := by simp; omega
  go_enter Tryz.func29, Tryz.ntmps29
  go_wp2_with (first
    | (at_make; refine wpList_make_full _ rfl (.tmp 10) (.tmp 10) 152 rfl 0 245 i0 (.agg (sec 0).toArray) 64 Tryz.underlying152 hi hz0 hz1 .i64 .i64 _ _ n rfl rfl rfl rfl (by rw [hz2]; omega) (by unfold maxLen; omega) (Nat.zero_le _) ?_; intro w1 hown hgrow)
    | fail)
  go_ret2
  have hown2 : w1.ownsRow 0 245 64 (.slice (some ⟨w.heap.size, 0, none⟩) n n) n (secs (List.replicate n 0)) := by rw [← made_zero]; exact hown
  obtain ⟨F, h1, h2, h3⟩ := new_disk hown2 hgrow h
  exact ⟨_, F, rfl, h1, h2, h3⟩

end Go.Proofs.YtoclhiaidbfheaaGreatDoor.Q
end

section
namespace Go.Proofs.YtoclhiaidbfheaaGreatDoor.Q
open Go.RowKit

def natsI (l : List Nat) : List Int := l.map fun k : Nat => (k : Int)
theorem openL_mem (d : RD) (k : Nat) : k ∈ openL d ↔ ∃ h : k < d.s.length, 1 < d.s[k].length := by
  simp only [openL, openN, List.mem_filter, List.mem_range, decide_eq_true_eq]
  constructor
  · rintro ⟨h, h1⟩
    exact ⟨h, by simpa [List.getD, h] using h1⟩
  · rintro ⟨h, h1⟩
    exact ⟨h, by simpa [List.getD, h] using h1⟩
theorem openL_lts (d : RD) : (openL d).Pairwise (· < ·) := List.Pairwise.filter _ List.pairwise_lt_range
theorem natsI_mem (l : List Nat) (x : Int) : x ∈ natsI l ↔ ∃ k ∈ l, (k : Int) = x := by simp [natsI]
end Go.Proofs.YtoclhiaidbfheaaGreatDoor.Q
end

section
namespace Go.Proofs.YtoclhiaidbfheaaGreatDoor.Q
open Go.RowKit

theorem keys_perm {w : World} {m n : Nat} {D : DataW Value} {s : List (List SB)} (own : w.ownsMap Tryz.prog 3 rawE m n D) (hd : ∀ kl, Maps.has D kl = true → ∃ i, i < s.length ∧ kl = key i) (hh : ∀ i (h : i < s.length), Maps.has D (key i) = decide (1 < s[i].length)) (f : Int) (g : Bool) : (natsI (openL ⟨s, f, g⟩)).Perm (intKeys D) := by
  obtain ⟨es, hD, hpw, _⟩ := own.entries lawI
  obtain ⟨es', hD', hko⟩ := own.keysOf
  obtain rfl : es = es' := by rw [hD] at hD'; simpa using hD'
  subst hD
  refine perm_intKeys hpw (fun p hp => ?_) ?_ (fun x => ?_)
  · obtain ⟨v, hv⟩ := hko p hp
    obtain ⟨x, _, hx, _⟩ := Maps.keyOf_i64 Tryz.underlying3 hv
    exact ⟨x, hx⟩
  · refine List.Pairwise.map _ (fun a b (hab : a < b) => ?_) (openL_lts _)
    omega
  · rw [natsI_mem]
    constructor
    · rintro ⟨k, hk, rfl⟩
      obtain ⟨h1, h2⟩ := (openL_mem _ k).1 hk
      have := hh k h1
      rw [decide_eq_true h2] at this
      exact this
    · intro hx
      obtain ⟨i, hi, e⟩ := hd _ hx
      have e2 : x = (i : Int) := by injection e
      subst e2
      have := hh i hi
      rw [hx] at this
      exact ⟨i, (openL_mem _ i).2 ⟨hi, by simpa using this.symm⟩, rfl⟩
/-- as many entries as there are open sectors: no more than there are sectors -/
theorem own_shrink {w : World} {m n : Nat} {D : DataW Value} {s : List (List SB)} (own : w.ownsMap Tryz.prog 3 rawE m n D) (hd : ∀ kl, Maps.has D kl = true → ∃ i, i < s.length ∧ kl = key i) (hh : ∀ i (h : i < s.length), Maps.has D (key i) = decide (1 < s[i].length)) : w.ownsMap Tryz.prog 3 rawE m s.length D := by
  have hl := (keys_perm own hd hh 0 false).length_eq
  have h1 : (natsI (openL ⟨s, 0, false⟩)).length ≤ s.length := by
    have := openN_le ⟨s, 0, false⟩ s.length
    simp only [natsI, List.length_map]
    exact this
  obtain ⟨es, clock, hb, F, hs, hD⟩ := own
  refine ⟨es, clock, hb, F, ?_, hD⟩
  have h2 : (intKeys D).length = es.size := by
    rw [hD]
    simp only [intKeys, List.length_map]
    exact length_read es
  omega

def putX (X : Nat → Value) (i : Nat) (v : Value) (j : Nat) : Value := if j = i then v else X j
theorem set_at (s : List (List SB)) (i j : Nat) (l : List SB) (hj : j < (s.set i l).length) (hi : i < s.length) : (j = i ∧ (s.set i l)[j] = l) ∨ (j ≠ i ∧ ∃ h : j < s.length, (s.set i l)[j] = s[j]) := by
  by_cases h : j = i
  · subst h
    exact .inl ⟨rfl, by simp⟩
  · refine .inr ⟨h, by simpa using hj, ?_⟩
    rw [List.getElem_set_ne (fun e => h e.symm)]

/-- sector i has one version more -/
theorem PMap.put {w : World} {m n : Nat} {s : List (List SB)} {D : DataW Value} {X : Nat → Value} (h : PMap w m s D X) {w5 : World} (i : Nat) (hi : i < s.length) (c : SB) (v : Value) (hl : s[i].length < 1000000)
    (own : w5.ownsMap Tryz.prog 3 rawE m n (D.put (key i) (.held v))) (hrow : w5.ownsRow 0 245 64 v s[i].length (secs (s[i].tail ++ [c])))
    (hold : ∀ j (hj : j < s.length), j ≠ i → w5.ownsRow 0 245 64 (X j) (s[j].length - 1) (secs s[j].tail)) (hap : ∀ j, j < s.length → j ≠ i → ∀ k, (X j).ownBlock = some k → v.ownBlock ≠ some k) :
    PMap w5 m (s.set i (s[i] ++ [c])) (D.put (key i) (.held v)) (putX X i v) := by
  have hK : WideAt.IsKeyLit (key i) := trivial
  have hM := h.own.isMap
  have hne : ∀ j, j ≠ i → key j ≠ key i := fun j hj e => hj (key_inj e)
  have hp := (h.pos i hi).1
  have hdom : ∀ kl, Maps.has (D.put (key i) (.held v)) kl = true → ∃ j, j < (s.set i (s[i] ++ [c])).length ∧ kl = key j := by
    intro kl hk
    by_cases e : kl = key i
    · exact ⟨i, by simpa using hi, e⟩
    · rw [Maps.has_put_other e] at hk
      obtain ⟨j, hj, e⟩ := h.dom kl hk
      exact ⟨j, by simpa using hj, e⟩
  have hhas : ∀ j (hj : j < (s.set i (s[i] ++ [c])).length), Maps.has (D.put (key i) (.held v)) (key j) = decide (1 < (s.set i (s[i] ++ [c]))[j].length) := by
    intro j hj
    rcases set_at s i j _ hj hi with ⟨rfl, e⟩ | ⟨hji, h1, e⟩
    · rw [e, Maps.has_put_same hM hK]
      have : 1 < (s[j] ++ [c]).length := by rw [List.length_append, List.length_singleton]; omega
      rw [decide_eq_true this]
    · rw [e, Maps.has_put_other (hne j hji)]
      exact h.has_ j h1
  refine ⟨own_shrink own hdom hhas, hdom, hhas, fun j hj => ?_, fun j hj => ?_, fun j hj => ?_, fun j k hj hk hjk g hg => ?_⟩
  · unfold putX
    by_cases e : j = i
    · subst e
      rw [if_pos rfl, Maps.atKey_put_same hM hK]
    · rw [if_neg e, Maps.atKey_put_other (hne j e)]
      exact h.at_ j (by simpa using hj)
  · rcases set_at s i j _ hj hi with ⟨rfl, e⟩ | ⟨_, h1, e⟩
    · rw [e, List.length_append, List.length_singleton]; omega
    · rw [e]; exact h.pos j h1
  · unfold putX
    rcases set_at s i j _ hj hi with ⟨rfl, e⟩ | ⟨hji, h1, e⟩
    · rw [if_pos rfl, e, List.length_append, List.length_singleton, Nat.add_sub_cancel, List.tail_append_of_ne_nil (by intro e0; rw [e0] at hp; simp at hp)]
      exact hrow
    · rw [if_neg hji, e]
      exact hold j h1 hji
  · have hj' : j < s.length := by simpa using hj
    have hk' : k < s.length := by simpa using hk
    unfold putX at hg ⊢
    by_cases e : j = i
    · subst e
      rw [if_pos rfl] at hg
      rw [if_neg (fun e => hjk e.symm)]
      intro hg2
      exact hap k hk' (fun e => hjk e.symm) g hg2 hg
    · rw [if_neg e] at hg
      by_cases e2 : k = i
      · subst e2
        rw [if_pos rfl]
        exact hap j hj' e g hg
      · rw [if_neg e2]
        exact h.apart j k hj' hk' hjk g hg

def writeD (d : RD) (i : Nat) (c : SB) : RD := { d with s := d.s.set i (d.s.getD i [] ++ [c]) }

/-- the append, and the store of its slice into the map -/
theorem PDisk.write {w : World} {b m : Nat} {L : Value} {D : DataW Value} {X : Nat → Value} {d : RD} (h : PDisk w b L m D X d) (i : Nat) (hi : i < d.s.length) (c : SB) (hl : d.s[i].length < 1000000) (q : Nat) (hq : w.rangeAt q 0 (sec c)) (ty : TypeId) :
    ∃ v w4 w5, (Builtin.append_ #[152, 152] ty #[X i, .slice (some ⟨q, 0, none⟩) 1 1]).run Tryz.prog w = .ok v w4 ∧
      (Instr.mapUpdate 153 (.map (some m)) (.int .i64 (i : Int)) v).run Tryz.prog w4 = .ok () w5 ∧
      PDisk w5 b L m (D.put (key i) (.held v)) (putX X i v) (writeD d i c) ∧ (v.ownBlock = (X i).ownBlock ∨ v.ownBlock = some w.heap.size) ∧
      w.grownBy w4 (X i).ownBlock ∧ w4.grownBy w5 (some m) := by
  obtain ⟨i0, hi0, hz0, hz1, hz2⟩ := info_parts sector_info
  have hM := h.map
  have hri := hM.row i hi
  have hp := (hM.pos i hi).1
  obtain ⟨v, w4, hrun, hown4, hg4, _, hat⟩ := run_append_own_at (P := Tryz.prog) w 0 152 ty 245 i0 (.agg (sec 0).toArray) 64 64 Tryz.underlying152 hi0 hz0 hz1 hz2 (by show (sec 0).toArray.size = 64; rw [List.size_toArray, sec_len]) (by omega) (X i) _ _ hri ⟨q, 0, none⟩ 1 1 (sec c) (by rw [sec_len]) (fun j u hu => by rw [Addr.add_mid]; exact hq j u hu) (sec_one c) (by unfold maxLen; omega) (by omega) (Nat.zero_le _)
  have hmne : (X i).ownBlock ≠ some m := h.m_row hri
  have hm4 : w4.heap[m]? = w.heap[m]? := hg4.block m hM.own.lt (fun e => hmne e.symm)
  have hown := map_on hM.own hm4
  have h8 := h.n1
  obtain ⟨w5, hupd, hown5, hg5⟩ := hown.update lawI Tryz.underlying153 (by unfold maxLen; omega) (key_of i (by omega)) (show rawE v = some (.held v, []) from rfl)
  have hsz := hg4.size
  have hblk : ∀ k, k < w.heap.size → (X i).ownBlock ≠ some k → k ≠ m → w5.heap[k]? = w.heap[k]? := by
    intro k hk h1 h2
    rw [hg5.block k (by omega) (fun e => h2 (by injection e)), hg4.block k hk (fun e => h1 e.symm)]
  have hvm : v.ownBlock ≠ some m := by
    rcases hat with e | e
    · rw [e]; exact hmne
    · rw [e]; intro e2; injection e2 with e2; have := hM.own.lt; omega
  have hrow5 : w5.ownsRow 0 245 64 v d.s[i].length (secs (d.s[i].tail ++ [c])) := by
    have h1 : w4.ownsRow 0 245 64 v d.s[i].length (secs (d.s[i].tail ++ [c])) := by
      rw [secs_append, show d.s[i].length = d.s[i].length - 1 + 1 by omega]
      simpa [secs] using hown4
    exact h1.kept hg5 (.inr hvm)
  have hget : d.s.getD i [] = d.s[i] := by simp [List.getD, hi]
  have hmap : PMap w5 m (d.s.set i (d.s[i] ++ [c])) (D.put (key i) (.held v)) (putX X i v) := by
    refine hM.put i hi c v hl hown5 hrow5 (fun j hj hji => rowS_on (hM.row j hj) (fun k hk => ?_)) (fun j hj hji k hk => ?_)
    · exact hblk k (h.kind (.inr (.inr (.inr ⟨j, hj, hk⟩)))).lt (fun e => hM.apart i j hi hj (fun e => hji e.symm) k e hk) (fun e => h.m_row (hM.row j hj) (by rw [hk, e]))
    · rcases hat with e | e
      · rw [e]; intro e2; exact hM.apart i j hi hj (fun e => hji e.symm) k e2 hk
      · rw [e]; intro e2; injection e2 with e2
        have := (h.kind (.inr (.inr (.inr ⟨j, hj, hk⟩)))).lt
        omega
  refine ⟨v, w4, w5, hrun, hupd, ⟨?_, ?_, ?_, ?_, ?_, ?_, h.fz⟩, hat, hg4, hg5⟩
  · rw [hblk b h.lt (fun e => h.b_row hri e) (fun e => h.b_m e.symm)]
    exact h.disk
  · have e : (writeD d i c).s.map (·.headD 0) = d.s.map (·.headD 0) := by
      simp only [writeD, hget]
      apply List.ext_getElem (by simp)
      intro j h1 h2
      have h1' : j < (d.s.set i (d.s[i] ++ [c])).length := by simpa using h1
      rw [List.getElem_map, List.getElem_map]
      rcases set_at d.s i j _ h1' hi with ⟨rfl, e⟩ | ⟨_, h3, e⟩
      · rw [e]
        cases hd : d.s[j] with
        | nil => rw [hd] at hp; simp at hp
        | cons x t => rfl
      · rw [e]
    rw [e]
    exact h.last.on (fun k hk => hblk k (h.kind (.inr (.inr (.inl hk)))).lt (fun e => h.off i hi k e hk) (fun e => h.m_last (by rw [hk, e])))
  · simp only [writeD, hget]
    exact hmap
  · intro j hj k hk
    have hj' : j < d.s.length := by simpa [writeD] using hj
    unfold putX at hk
    by_cases e : j = i
    · rw [if_pos e] at hk
      rcases hat with e2 | e2
      · rw [e2] at hk; exact h.off i hi k hk
      · rw [e2] at hk
        injection hk with hk
        intro e3
        have := (h.kind (.inr (.inr (.inl e3)))).lt
        omega
    · rw [if_neg e] at hk
      exact h.off j hj' k hk
  · simp only [writeD, List.length_set]; exact h.n0
  · simp only [writeD, List.length_set]; exact h8
end Go.Proofs.YtoclhiaidbfheaaGreatDoor.Q
end

section
namespace Go.Proofs.YtoclhiaidbfheaaGreatDoor.Q
open Go.RowKit

section
variable {P : Program} {o : Oper} {a : Act} {w : World} {K : Act → World → Prop} {Q : Exit → Act → World → Prop}
theorem wp_lookup_run (mo x : Operand) (t : TypeId) (hop : o.op = Op.lookup t mo x false) (mv k v : Value) (hm : a.eval mo = mv) (hx : a.eval x = k) (hrun : (Instr.lookup t mv k false).run P w = .ok v w) (h : K (a.put o.dst v) w) : o.wp P a w K Q := by
  unfold Oper.wp
  simp [execOp, hop, hm, hx, hrun, Result.andThen]
  exact h
theorem wp_mapUpdate_run (mo x y : Operand) (t : TypeId) (hop : o.op = Op.mapUpdate t mo x y) (mv k v : Value) (w' : World) (hm : a.eval mo = mv) (hx : a.eval x = k) (hy : a.eval y = v) (hrun : (Instr.mapUpdate t mv k v).run P w = .ok () w') (h : K (a.put o.dst undef) w') : o.wp P a w K Q := by
  unfold Oper.wp
  simp [execOp, hop, hm, hx, hy, hrun, Result.andThen]
  exact h
theorem wp_buildSlice_run (t : TypeId) (n : Nat) (x : Operand) (hop : o.op = Op.buildSlice t n #[(0, x)]) (u v : Value) (w' : World) (hx : a.eval x = u) (hrun : (Instr.buildSlice t n #[(0, u)]).run P w = .ok v w') (h : K (a.put o.dst v) w') : o.wp P a w K Q := by
  unfold Oper.wp
  simp [execOp, hop, hx, hrun, Result.andThen]
  exact h
end

theorem fill_sec (c : SB) : Instr.fill (fun i => some (i * 64, 64)) (sec 0).toArray [(0, .agg (sec c).toArray)] = some (sec c).toArray := by
  have h0 : (sec 0).toArray.size = 64 := by rw [List.size_toArray, sec_len]
  have hc : (Value.agg (sec c).toArray).cells.size = 64 := by show (sec c).toArray.size = 64; rw [List.size_toArray, sec_len]
  have hf : ((Value.agg (sec c).toArray).cells.zipIdx.foldl (fun cs (x : Value × Nat) => cs.setIfInBounds (0 * 64 + x.2) x.1) (sec 0).toArray) = (sec c).toArray := by
    obtain ⟨g1, g2⟩ := Great.foldl_set (0 * 64) (sec c) 0 (sec 0).toArray
    have e0 : ((Value.agg (sec c).toArray).cells.zipIdx.foldl (fun cs (x : Value × Nat) => cs.setIfInBounds (0 * 64 + x.2) x.1) (sec 0).toArray) = (((sec c).zipIdx 0).foldl (fun cs (x : Value × Nat) => cs.setIfInBounds (0 * 64 + x.2) x.1) (sec 0).toArray) := by
      show (((sec c).toArray.zipIdx).foldl _ _) = _
      simp
    rw [e0]
    apply Array.ext_getElem?
    intro k
    rw [g2 k, h0, sec_len]
    by_cases hk : k < 64
    · rw [if_pos ⟨by omega, by omega, hk⟩]
      simp
    · rw [if_neg (by omega)]
      rw [Array.getElem?_eq_none (by rw [h0]; omega), Array.getElem?_eq_none (by rw [List.size_toArray, sec_len]; omega)]
  simp only [Instr.fill]
  rw [if_neg (by rw [hc, h0]; simp), hf]
theorem run_build_sec (w : World) (c : SB) : (Instr.buildSlice 152 1 #[(0, .agg (sec c).toArray)]).run Tryz.prog w = .ok (.slice (some ⟨w.heap.size, 0, none⟩) 1 1) (w.alloc (.cells (sec c).toArray 245)) := by
  obtain ⟨i0, hi, hz0, hz1, hz2⟩ := info_parts sector_info
  have hz : ((Array.range (1 * 64)).map fun i => (sec 0).toArray[i % (sec 0).toArray.size]!) = (sec 0).toArray := by
    have h := zeroc_zero 1
    unfold Builtin.zeroCells at h
    have hs : (sec 0).toArray.size = 64 := by rw [List.size_toArray, sec_len]
    rw [hs] at h ⊢
    apply Array.ext'
    rw [h]
    simp [secs]
  have hf := fill_sec c
  have hzv : ∀ w : World, (zeroValue 245).run Tryz.prog w = .ok (.agg (sec 0).toArray) w := fun w => by
    rw [zero_sector, zero_sec]
    rfl
  have hszv : ∀ w : World, (sizeOf 245).run Tryz.prog w = .ok 64 w := fun w => by simp [sizeOf, typeInfo, hi, hz1]
  have hzc : (Value.agg (sec 0).toArray).cells = (sec 0).toArray := rfl
  unfold Instr.buildSlice
  rw [Sem.run_bind, run_underlying Tryz.underlying152]
  simp only [Result.andThen_ok]
  rw [Sem.run_bind, hszv]
  simp only [Result.andThen_ok]
  rw [if_neg (by omega), if_neg (by omega), Sem.run_bind, hzv]
  simp only [Result.andThen_ok, Sem.run_bind, Sem.run_pure, hzc, hz, hf]
  rfl

set_option maxRecDepth 10000 in
set_option maxHeartbeats 2000000 in
theorem pwrite_no (w : World) (p : Value) (i er : Int) (c : SB) (he0 : (er == 0) = false) (hp : ∀ W, Below w.heap.size w W → Calls Tryz.prog 196 #[p, .int .i64 i] W fun e w' => e = .returned (.int .i64 er) ∧ W = w') :
    Calls Tryz.prog 140 #[p, .int .i64 i, .agg (sec c).toArray] w fun e w' => e = .returned (.int .i64 er) ∧ Below w.heap.size w w' := by
  have hb1 := (Below.refl w.heap.size w).alloc (Nat.le_refl _) (.cells (sec c).toArray 245)
  have HP := Lib.hid (hp _ hb1)
  have HB1 := Lib.hid hb1
  clear hb1 hp
  go_enter Tryz.func140, Tryz.ntmps140
  go_wp2_with (go_at_call 196; refine HP.out.mono ?_; rintro e w' ⟨rfl, rfl⟩)
  go_ret
  exact ⟨rfl, HB1.out⟩
set_option maxRecDepth 10000 in
set_option maxHeartbeats 2000000 in
theorem pwrite_dead (w : World) (b m : Nat) (L : Value) (D : DataW Value) (X : Nat → Value) (d : RD) (h : PDisk w b L m D X d) (i : Nat) (hi : i < d.s.length) (c : SB) (hm : movesB d = false) :
    Calls Tryz.prog 140 #[.pointer (some ⟨b, 0, none⟩), .int .i64 (i : Int), .agg (sec c).toArray] w fun e w' => e = .returned (.int .i64 10) ∧ PDisk w' b L m D X (movesD d) ∧ Stays w w' (· = b) := by
  have hb1 := (Below.refl w.heap.size w).alloc (Nat.le_refl _) (.cells (sec c).toArray 245)
  have ha := h.below hb1
  have hp := place_any _ b m L D X d ha (i : Int)
  have he : placeE d.s.length (i : Int) = 0 := by unfold placeE; rw [if_pos (by omega)]
  rw [he] at hp
  have hs := step_any _ b m L D X d ha
  have hse : stepE d = 10 := by unfold stepE; rw [if_neg (by rw [hm]; simp)]
  rw [hse] at hs
  have HP := Lib.hid hp
  have HS := Lib.hid hs
  have HB1 := Lib.hid hb1
  clear hb1 hp hs h ha he hse hm
  go_enter Tryz.func140, Tryz.ntmps140
  go_wp2_with (first
    | (go_at_call 196; refine HP.out.mono ?_; rintro e w' ⟨rfl, rfl⟩)
    | (go_at_call 146; refine HS.out.mono ?_; rintro e w' ⟨rfl, h3, _, h5⟩))
  go_ret
  exact ⟨rfl, h3, (Stays.of_below HB1.out (· = b)).trans h5 (fun _ hk => .inl hk)⟩

set_option maxRecDepth 10000 in
set_option maxHeartbeats 4000000 in
theorem pwrite_any (w : World) (b m : Nat) (L : Value) (D : DataW Value) (X : Nat → Value) (d : RD) (h : PDisk w b L m D X d) (i : Nat) (hi : i < d.s.length) (c : SB) (hm : movesB d = true) (hl : d.s[i].length < 1000000) :
    Calls Tryz.prog 140 #[.pointer (some ⟨b, 0, none⟩), .int .i64 (i : Int), .agg (sec c).toArray] w fun e w' => e = .returned (.int .i64 0) ∧ ∃ v D', PDisk w' b L m D' (putX X i v) (writeD (movesD d) i c) ∧ (v.ownBlock = (X i).ownBlock ∨ ∃ g, v.ownBlock = some g ∧ w.heap.size ≤ g) ∧ Stays w w' (fun k => k = b ∨ k = m ∨ (X i).ownBlock = some k) := by
  have hb1 := (Below.refl w.heap.size w).alloc (Nat.le_refl _) (.cells (sec c).toArray 245)
  have hnew := heap_alloc_new w (.cells (sec c).toArray 245)
  have ha := h.below hb1
  have hp := place_any _ b m L D X d ha (i : Int)
  have he : placeE d.s.length (i : Int) = 0 := by unfold placeE; rw [if_pos (by omega)]
  rw [he] at hp
  have hs := step_any _ b m L D X d ha
  have hse : stepE d = 0 := by unfold stepE; rw [if_pos hm]
  rw [hse] at hs
  have HP := Lib.hid hp
  have HS := Lib.hid hs
  have HB1 := Lib.hid hb1
  have HNEW := Lib.hid hnew
  have hbw := h.lt
  have hmlt := h.map.own.lt
  have hxl : ∀ k, (X i).ownBlock = some k → k < w.heap.size := fun k hk => (h.kind (.inr (.inr (.inr ⟨i, hi, hk⟩)))).lt
  have HXL := Lib.hid hxl
  clear hxl
  have hsz1 : (w.alloc (.cells (sec c).toArray 245)).heap.size = w.heap.size + 1 := by simp
  have HSZ1 := Lib.hid hsz1
  clear hb1 hp hs h ha he hse hm hnew hsz1
  go_enter Tryz.func140, Tryz.ntmps140
  go_wp2_with (first
    | (go_at_call 196; refine HP.out.mono ?_; rintro e w' ⟨rfl, rfl⟩)
    | (go_at_call 146; refine HS.out.mono ?_; rintro e w2 ⟨rfl, h3, h4, h5⟩))
  have hq2 : w2.heap[w.heap.size]? = some (.cells (sec c).toArray 245 (0, 0)) := by
    rw [h4 _ (by omega)]; exact HNEW.out
  have hsz2 : w.heap.size + 1 ≤ w2.heap.size := by have := h5.size; have := HSZ1.out; omega
  have hS2 := (Stays.of_below HB1.out (· = b)).trans h5 (fun _ hk => .inl hk)
  have hd1 : (movesD d).s.length = d.s.length := by rw [movesD_s]
  have hi1 : i < (movesD d).s.length := by rw [hd1]; exact hi
  have hl1 : ((movesD d).s[i]).length < 1000000 := by simp only [movesD_s]; exact hl
  have HS2 := Lib.hid hS2
  clear hS2 HP HS HB1 HNEW HSZ1 h4 h5 hd1
  generalize hd1 : movesD d = d1 at *
  have HD1 := Lib.hid hd1
  clear hd1
  have hbd : Below w2.heap.size w2 w2.drew := (Below.refl _ _).drew
  have hda := h3.below hbd
  have hbB : Below w2.heap.size w2 (w2.drew.alloc (.cells (sec c).toArray 245)) := hbd.alloc (by show w2.heap.size ≤ w2.heap.size; exact Nat.le_refl _) _
  have hdb := h3.below hbB
  have hqb : (w2.drew.alloc (.cells (sec c).toArray 245)).rangeAt w2.drew.heap.size 0 (sec c) := by
    intro j v hv
    rw [cell_of_row _ _ _ _ _ _ (heap_alloc_new w2.drew _), Nat.zero_add, List.getElem?_toArray]
    exact hv
  obtain ⟨v, w4, w5, hrun, hupd, hend, hat, hg4, hg5⟩ := hdb.write i hi1 c hl1 _ hqb 152
  have hrA : w2.rangeAt w.heap.size 0 (sec c) := by
    intro j u hu
    rw [cell_of_row _ _ _ _ _ _ hq2, Nat.zero_add, List.getElem?_toArray]
    exact hu
  have hszB : (w2.drew.alloc (.cells (sec c).toArray 245)).heap.size = w2.heap.size + 1 := by show (w2.heap.push _).size = _; simp
  have hXlt : ∀ k, (X i).ownBlock = some k → foot b m L X d1.s.length k := fun k hk => .inr (.inr (.inr ⟨i, hi1, hk⟩))
  have hXb : (X i).ownBlock ≠ some b := hda.b_row (hda.map.row i hi1)
  have hmb : m ≠ b := hda.b_m
  have hXq : (X i).ownBlock ≠ some w.heap.size := fun e => by have := HXL.out _ e; omega
  have hmq : m ≠ w.heap.size := by omega
  have hq5 : ∀ W : World, W.heap[w.heap.size]? = w2.heap[w.heap.size]? → W.heap[b]? = w2.heap[b]? → W.cell? ⟨b, 1, none⟩ = some (.map (some m)) ∧ W.rangeAt w.heap.size 0 (sec c) := by
    intro W e1 e2
    refine ⟨by rw [World.cell?_of_block (a := ⟨b, 1, none⟩) e2]; exact h3.c1, fun j u hu => ?_⟩
    rw [World.cell?_of_block (a := ⟨w.heap.size, 0 + j, none⟩) e1]
    exact hrA j u hu
  have hsc : w4.heap[w.heap.size]? = w2.heap[w.heap.size]? ∧ w4.heap[b]? = w2.heap[b]? := by
    refine ⟨?_, ?_⟩
    · rw [hg4.block _ (by omega) (fun e => hXq e.symm)]; exact hbB.block _ (by omega)
    · rw [hg4.block _ (by have := h3.lt; omega) (fun e => hXb e.symm)]; exact hbB.block _ h3.lt
  have hsz4 := hg4.size
  have hsd : w5.heap[w.heap.size]? = w2.heap[w.heap.size]? ∧ w5.heap[b]? = w2.heap[b]? := by
    refine ⟨?_, ?_⟩
    · rw [hg5.block _ (by omega) (fun e => hmq (by injection e with e; exact e.symm))]; exact hsc.1
    · rw [hg5.block _ (by have := h3.lt; omega) (fun e => hmb (by injection e with e; exact e.symm))]; exact hsc.2
  have HS0 := Lib.hid (hq5 w2.drew rfl rfl)
  have HSB := Lib.hid (hq5 _ (hbB.block _ (by omega)) (hbB.block _ h3.lt))
  have HSC := Lib.hid (hq5 w4 hsc.1 hsc.2)
  have HSD := Lib.hid (hq5 w5 hsd.1 hsd.2)
  have HLA := Lib.hid (hda.map.look i hi1 hda.n1)
  have HLB := Lib.hid (hdb.map.look i hi1 hdb.n1)
  have HRUN := Lib.hid hrun
  have HUPD := Lib.hid hupd
  have hend2 : ∃ v D', PDisk w5 b L m D' (putX X i v) (writeD d1 i c) ∧ (v.ownBlock = (X i).ownBlock ∨ ∃ g, v.ownBlock = some g ∧ w.heap.size ≤ g) ∧ Stays w w5 (fun k => k = b ∨ k = m ∨ (X i).ownBlock = some k) := by
    refine ⟨v, _, hend, ?_, ?_⟩
    · rcases hat with e | e
      · exact .inl e
      · exact .inr ⟨_, e, by rw [hszB]; omega⟩
    · have h1 : Stays w w2 (fun k => k = b ∨ k = m ∨ (X i).ownBlock = some k) := ⟨HS2.out.os, HS2.out.tape, HS2.out.output, HS2.out.size, fun k hk hF => HS2.out.block k hk (fun e => hF (.inl e))⟩
      exact ((h1.trans (Stays.of_below hbB (fun _ => False)) (fun _ hk => hk.elim)).grown hg4 (fun k hk => .inl (.inr (.inr hk)))).grown hg5 (fun k hk => by injection hk with hk; exact .inl (.inr (.inl hk.symm)))
  have HEND := Lib.hid hend2
  clear hend2 hbd hda hbB hdb hqb hrun hupd hend hat hg4 hg5 hrA hszB hXlt hXb hmb hXq hmq hq5 hsc hsz4 hsd h3 hq2 HS2
  refine wp_region_held (S := fun w' => w'.cell? ⟨b, 1, none⟩ = some (.map (some m)) ∧ w'.rangeAt w.heap.size 0 (sec c)) (by kernel_rfl) ?_
  change wpAnyH _ _ _ _ _ _ _ _ w2.drew
  have hS := HS0.out
  refine wpAnyH_take (i := 0) (oi := ⟨some 20, _, _, _, _, _⟩) (v := .pointer (some ⟨b, 0, none⟩)) rfl (by kernel_rfl) (by kernel_rfl) (by kernel_rfl) (fun _ _ _ h => h) (Or.inl ⟨by rfl, by intro w0 hw0; clear hw0; go_simp⟩) hS ?_
  simp only [Act.put, List.setIfInBounds_toArray, List.set_cons_zero, List.set_cons_succ]
  refine wpAnyH_take (i := 1) (oi := ⟨some 21, _, _, _, _, _⟩) (v := .pointer (some ⟨b, 0, none⟩)) rfl (by kernel_rfl) (by kernel_rfl) (by kernel_rfl) (fun _ _ _ h => h) (Or.inl ⟨by rfl, by intro w0 hw0; clear hw0; go_simp⟩) hS ?_
  simp only [Act.put, List.setIfInBounds_toArray, List.set_cons_zero, List.set_cons_succ]
  refine wpAnyH_take (i := 2) (oi := ⟨some 22, _, _, _, _, _⟩) (v := .pointer (some ⟨b, 1, none⟩)) rfl (by kernel_rfl) (by kernel_rfl) (by kernel_rfl) (fun _ _ _ h => h) (Or.inl ⟨by rfl, by intro w0 hw0; clear hw0; go_simp⟩) hS ?_
  simp only [Act.put, List.setIfInBounds_toArray, List.set_cons_zero, List.set_cons_succ]
  refine wpAnyH_take (i := 3) (oi := ⟨some 23, _, _, _, _, _⟩) (v := .map (some m)) rfl (by kernel_rfl) (by kernel_rfl) (by kernel_rfl) (fun _ _ _ h => h) (Or.inl ⟨by rfl, by intro w0 hw0; obtain ⟨hc0, _⟩ := hw0; go_simp⟩) hS ?_
  simp only [Act.put, List.setIfInBounds_toArray, List.set_cons_zero, List.set_cons_succ]
  refine wpAnyH_take (i := 4) (oi := ⟨some 24, _, _, _, _, _⟩) (v := .int .i64 (i : Int)) rfl (by kernel_rfl) (by kernel_rfl) (by kernel_rfl) (fun _ _ _ h => h) (Or.inl ⟨by rfl, by intro w0 hw0; clear hw0; go_simp⟩) hS ?_
  simp only [Act.put, List.setIfInBounds_toArray, List.set_cons_zero, List.set_cons_succ]
  refine wpAnyH_take (i := 5) (oi := ⟨some 25, _, _, _, _, _⟩) (v := .pointer (some ⟨b, 0, none⟩)) rfl (by kernel_rfl) (by kernel_rfl) (by kernel_rfl) (fun _ _ _ h => h) (Or.inl ⟨by rfl, by intro w0 hw0; clear hw0; go_simp⟩) hS ?_
  simp only [Act.put, List.setIfInBounds_toArray, List.set_cons_zero, List.set_cons_succ]
  refine wpAnyH_take (i := 6) (oi := ⟨some 26, _, _, _, _, _⟩) (v := .pointer (some ⟨b, 0, none⟩)) rfl (by kernel_rfl) (by kernel_rfl) (by kernel_rfl) (fun _ _ _ h => h) (Or.inl ⟨by rfl, by intro w0 hw0; clear hw0; go_simp⟩) hS ?_
  simp only [Act.put, List.setIfInBounds_toArray, List.set_cons_zero, List.set_cons_succ]
  refine wpAnyH_take (i := 7) (oi := ⟨some 27, _, _, _, _, _⟩) (v := .pointer (some ⟨b, 1, none⟩)) rfl (by kernel_rfl) (by kernel_rfl) (by kernel_rfl) (fun _ _ _ h => h) (Or.inl ⟨by rfl, by intro w0 hw0; clear hw0; go_simp⟩) hS ?_
  simp only [Act.put, List.setIfInBounds_toArray, List.set_cons_zero, List.set_cons_succ]
  refine wpAnyH_take (i := 8) (oi := ⟨some 28, _, _, _, _, _⟩) (v := .map (some m)) rfl (by kernel_rfl) (by kernel_rfl) (by kernel_rfl) (fun _ _ _ h => h) (Or.inl ⟨by rfl, by intro w0 hw0; obtain ⟨hc0, _⟩ := hw0; go_simp⟩) hS ?_
  simp only [Act.put, List.setIfInBounds_toArray, List.set_cons_zero, List.set_cons_succ]
  refine wpAnyH_take (i := 9) (oi := ⟨some 29, _, _, _, _, _⟩) (v := .int .i64 (i : Int)) rfl (by kernel_rfl) (by kernel_rfl) (by kernel_rfl) (fun _ _ _ h => h) (Or.inl ⟨by rfl, by intro w0 hw0; clear hw0; go_simp⟩) hS ?_
  simp only [Act.put, List.setIfInBounds_toArray, List.set_cons_zero, List.set_cons_succ]
  refine wpAnyH_take (i := 11) (oi := ⟨some 31, _, _, _, _, _⟩) (v := .agg (sec c).toArray) rfl (by kernel_rfl) (by kernel_rfl) (by kernel_rfl) (fun _ _ _ h => h) (yieldsIf_load_mid (by rfl) 245 (.tmp 5) (by rfl) w.heap.size 0 (by rfl) (sec c) _ (fun _ h => h.2) sector_u rfl (sector_sz c)) hS ?_
  simp only [Act.put, List.setIfInBounds_toArray, List.set_cons_zero, List.set_cons_succ]
  refine wpAnyH_ready (rs := [10, 12]) (by kernel_rfl) (by simp) (AllReadyH.cons (o := ⟨some 30, _, _, _, _, _⟩) rfl (fun K hK => ?_) (AllReadyH.cons (o := ⟨some 32, _, _, _, _, _⟩) rfl (fun K hK => ?_) AllReadyH.nil))
  · rw [if_pos (by rfl)]
    refine wp_lookup_run (.tmp 28) (.tmp 29) 153 rfl _ _ _ rfl rfl HLA.out ?_
    refine hK.out _ _ hS (fun hsx => ?_)
    clear hK hsx K
    simp only [Act.put, List.setIfInBounds_toArray, List.set_cons_zero, List.set_cons_succ]
    refine wpAnyH_ready (rs := [12]) (by kernel_rfl) (by simp) (AllReadyH.cons (o := ⟨some 32, _, _, _, _, _⟩) rfl (fun K hK => ?_) AllReadyH.nil)
    rw [if_pos (by rfl)]
    refine wp_buildSlice_run 152 1 (.tmp 31) rfl _ _ _ rfl (run_build_sec _ c) ?_
    refine hK.out _ _ HSB.out (fun hsx => ?_)
    clear hK hsx K
    simp only [Act.put, List.setIfInBounds_toArray, List.set_cons_zero, List.set_cons_succ]
    refine wpAnyH_ready (rs := [13]) (by kernel_rfl) (by simp) (AllReadyH.cons (o := ⟨some 33, _, _, _, _, _⟩) rfl (fun K hK => ?_) AllReadyH.nil)
    rw [if_pos (by rfl)]
    refine Lib.wp_append_run _ (.tmp 30) (.tmp 32) 152 152 rfl _ _ rfl rfl _ _ HRUN.out ?_
    refine hK.out _ _ HSC.out (fun hsx => ?_)
    clear hK hsx K
    simp only [Act.put, List.setIfInBounds_toArray, List.set_cons_zero, List.set_cons_succ]
    refine wpAnyH_ready (rs := [14]) (by kernel_rfl) (by simp) (AllReadyH.cons (o := ⟨none, _, _, _, _, _⟩) rfl (fun K hK => ?_) AllReadyH.nil)
    rw [if_pos (by rfl)]
    refine wp_mapUpdate_run (.tmp 23) (.tmp 24) (.tmp 33) 153 rfl _ _ _ _ rfl rfl rfl HUPD.out ?_
    refine hK.out _ _ HSD.out (fun hsx => ?_)
    clear hK hsx K
    try simp only [Act.put]
    refine wpAnyH_done (by kernel_rfl) ?_ _
    go_wp2
    go_ret
    exact ⟨rfl, by rw [HD1.out]; exact HEND.out⟩
  · rw [if_pos (by rfl)]
    refine wp_buildSlice_run 152 1 (.tmp 31) rfl _ _ _ rfl (run_build_sec _ c) ?_
    refine hK.out _ _ HSB.out (fun hsx => ?_)
    clear hK hsx K
    simp only [Act.put, List.setIfInBounds_toArray, List.set_cons_zero, List.set_cons_succ]
    refine wpAnyH_ready (rs := [10]) (by kernel_rfl) (by simp) (AllReadyH.cons (o := ⟨some 30, _, _, _, _, _⟩) rfl (fun K hK => ?_) AllReadyH.nil)
    rw [if_pos (by rfl)]
    refine wp_lookup_run (.tmp 28) (.tmp 29) 153 rfl _ _ _ rfl rfl HLB.out ?_
    refine hK.out _ _ HSB.out (fun hsx => ?_)
    clear hK hsx K
    simp only [Act.put, List.setIfInBounds_toArray, List.set_cons_zero, List.set_cons_succ]
    refine wpAnyH_ready (rs := [13]) (by kernel_rfl) (by simp) (AllReadyH.cons (o := ⟨some 33, _, _, _, _, _⟩) rfl (fun K hK => ?_) AllReadyH.nil)
    rw [if_pos (by rfl)]
    refine Lib.wp_append_run _ (.tmp 30) (.tmp 32) 152 152 rfl _ _ rfl rfl _ _ HRUN.out ?_
    refine hK.out _ _ HSC.out (fun hsx => ?_)
    clear hK hsx K
    simp only [Act.put, List.setIfInBounds_toArray, List.set_cons_zero, List.set_cons_succ]
    refine wpAnyH_ready (rs := [14]) (by kernel_rfl) (by simp) (AllReadyH.cons (o := ⟨none, _, _, _, _, _⟩) rfl (fun K hK => ?_) AllReadyH.nil)
    rw [if_pos (by rfl)]
    refine wp_mapUpdate_run (.tmp 23) (.tmp 24) (.tmp 33) 153 rfl _ _ _ _ rfl rfl rfl HUPD.out ?_
    refine hK.out _ _ HSD.out (fun hsx => ?_)
    clear hK hsx K
    try simp only [Act.put]
    refine wpAnyH_done (by kernel_rfl) ?_ _
    go_wp2
    go_ret
    exact ⟨rfl, by rw [HD1.out]; exact HEND.out⟩
end Go.Proofs.YtoclhiaidbfheaaGreatDoor.Q
end

section
namespace Go.Proofs.YtoclhiaidbfheaaGreatDoor.Q
open Go.RowKit
open Go.ChangeMaps Go.MapKept
open Go.WideElems (Fit rd rg)

theorem setCells_row {w : World} {g o : Nat} {vs : List Value} {cur : Array Value} {t : TypeId} (hg : w.heap[g]? = some (.cells cur t (0, 0))) (hl : o + vs.length ≤ cur.size) (h1 : ∀ u ∈ vs, u.oneCell' = true) :
    w.setCells g o vs = w.setRow g (cur.toList.take o ++ vs ++ cur.toList.drop (o + vs.length)).toArray := by
  have a := run_storeCells_cells (P := Tryz.prog) g o vs 0 w (fun j hj => by rw [cell_of_row w g _ cur t (0, 0) hg, Nat.add_zero, Array.getElem?_eq_getElem (by omega)]; rfl) (fun j hj => frozen_of_row w g _ cur t hg) h1
  have b := run_storeCells_at Tryz.prog g o t vs 0 cur w hg (by omega) h1
  rw [a] at b
  simp only [Nat.add_zero] at b
  injection b
theorem LRow.set {w : World} {g n cap : Nat} {l : List SB} (h : LRow w (.slice (some ⟨g, 0, none⟩) n cap) l) (i : Nat) (hi : i < l.length) (c : SB) : LRow (w.setCells g (i * 64) (sec c)) (.slice (some ⟨g, 0, none⟩) n cap) (l.set i c) ∧ w.grownBy (w.setCells g (i * 64) (sec c)) (some g) := by
  obtain ⟨g', cap', cur, hL, hg, hc1, hc2, hc3, hc4⟩ := h
  injection hL with e1 e2 e3
  injection e1 with e1
  injection e1 with e1
  subst e1
  subst e2
  subst e3
  have he := setCells_row hg (o := i * 64) (vs := sec c) (by rw [sec_len]; omega) (sec_one c)
  rw [he]
  refine ⟨⟨g, cap, _, by rw [List.length_set], setRow_heap w g cur _ _ _ hg, by rw [List.length_set]; exact hc1, hc2, ?_, ?_⟩, ⟨rfl, rfl, rfl, by simp, fun k _ hk => setRow_other w g k _ (fun e => hk (by rw [e]))⟩⟩
  · rw [List.length_set, List.size_toArray]
    simp only [List.length_append, List.length_take, List.length_drop, sec_len, Array.length_toList]
    omega
  · rw [List.length_set]
    obtain ⟨R, hR⟩ : ∃ R, cur.toList = secs l ++ R := ⟨cur.toList.drop (l.length * 64), by rw [← hc4, List.take_append_drop]⟩
    have hsl := secs_len l
    have e1 : cur.toList.take (i * 64) = (secs l).take (i * 64) := by rw [hR, List.take_append_of_le_length (by omega)]
    have e2 : cur.toList.drop (i * 64 + 64) = (secs l).drop (i * 64 + 64) ++ R := by rw [hR, List.drop_append_of_le_length (by omega)]
    rw [sec_len, e1, e2, List.append_assoc, ← List.append_assoc (sec c), ← List.append_assoc, secs_set l i c hi]
    rw [show l.length * 64 = (secs (l.set i c)).length by rw [secs_len, List.length_set]]
    exact List.take_left

def headD (d : RD) (i : Nat) (c : SB) : RD := { d with s := d.s.set i (c :: (d.s.getD i []).tail) }
theorem head_same (s : List (List SB)) (i : Nat) (hi : i < s.length) (c : SB) (hp : 0 < s[i].length) (j : Nat) (hj : j < (s.set i (c :: s[i].tail)).length) : ∃ h : j < s.length, ((s.set i (c :: s[i].tail))[j]).length = s[j].length ∧ ((s.set i (c :: s[i].tail))[j]).tail = s[j].tail := by
  rcases set_at s i j _ hj hi with ⟨rfl, e⟩ | ⟨_, h1, e⟩
  · refine ⟨hi, ?_, by rw [e]; rfl⟩
    rw [e, List.length_cons, List.length_tail]; omega
  · exact ⟨h1, by rw [e], by rw [e]⟩
theorem PMap.head {w : World} {m : Nat} {s : List (List SB)} {D : DataW Value} {X : Nat → Value} (h : PMap w m s D X) (i : Nat) (hi : i < s.length) (c : SB) : PMap w m (s.set i (c :: s[i].tail)) D X := by
  have hp := (h.pos i hi).1
  have hl : (s.set i (c :: s[i].tail)).length = s.length := List.length_set ..
  refine ⟨by rw [hl]; exact h.own, fun kl hk => by rw [hl]; exact h.dom kl hk, fun j hj => ?_, fun j hj => h.at_ j (by rw [← hl]; exact hj), fun j hj => ?_, fun j hj => ?_, fun j k hj hk => h.apart j k (by rw [← hl]; exact hj) (by rw [← hl]; exact hk)⟩
  · obtain ⟨h1, e1, e2⟩ := head_same s i hi c hp j hj
    rw [e1]; exact h.has_ j h1
  · obtain ⟨h1, e1, e2⟩ := head_same s i hi c hp j hj
    rw [e1]; exact h.pos j h1
  · obtain ⟨h1, e1, e2⟩ := head_same s i hi c hp j hj
    rw [e1, e2]; exact h.row j h1
theorem PDisk.head {w : World} {b m g n cap : Nat} {D : DataW Value} {X : Nat → Value} {d : RD} (h : PDisk w b (.slice (some ⟨g, 0, none⟩) n cap) m D X d) (i : Nat) (hi : i < d.s.length) (c : SB) :
    PDisk (w.setCells g (i * 64) (sec c)) b (.slice (some ⟨g, 0, none⟩) n cap) m D X (headD d i c) ∧ w.grownBy (w.setCells g (i * 64) (sec c)) (some g) := by
  obtain ⟨hl, hg⟩ := h.last.set i (by rw [List.length_map]; exact hi) c
  have hget : d.s.getD i [] = d.s[i] := by simp [List.getD, hi]
  have hlen : (headD d i c).s.length = d.s.length := by simp [headD]
  have hbl : ∀ k, k < w.heap.size → k ≠ g → (w.setCells g (i * 64) (sec c)).heap[k]? = w.heap[k]? := fun k hk hne => hg.block k hk (fun e => hne (by injection e))
  refine ⟨⟨?_, ?_, ?_, ?_, by rw [hlen]; exact h.n0, by rw [hlen]; exact h.n1, h.fz⟩, hg⟩
  · rw [hbl b h.lt (fun e => h.b_last (by rw [e]; rfl))]
    exact h.disk
  · have e : (headD d i c).s.map (·.headD 0) = (d.s.map (·.headD 0)).set i c := by
      simp only [headD, hget]
      rw [List.map_set]
      rfl
    rw [e]
    exact hl
  · have hm := h.map.head i hi c
    have e : (headD d i c).s = d.s.set i (c :: d.s[i].tail) := by simp only [headD, hget]
    rw [e]
    exact hm.on (hbl m h.map.own.lt (fun e => h.m_last (by rw [e]; rfl))) (fun j hj k hk => by
      have hj' : j < d.s.length := by simpa using hj
      exact hbl k (h.kind (.inr (.inr (.inr ⟨j, hj', hk⟩)))).lt (fun e => h.off j hj' k hk (by rw [e]; rfl)))
  · intro j hj; exact h.off j (by rw [← hlen]; exact hj)

theorem run_clear {w : World} {m n : Nat} {D : DataW Value} (h : w.ownsMap Tryz.prog 3 rawE m n D) (ty : TypeId) :
    ∃ w', (Builtin.clear_ #[153] ty #[.map (some m)]).run Tryz.prog w = .ok (.tuple #[]) w' ∧ w'.ownsMap Tryz.prog 3 rawE m 0 (.map []) ∧ w.grownBy w' (some m) := by
  obtain ⟨es, clock, hb, F, hs, rfl⟩ := h
  refine ⟨setBlock w m (.map #[] clock), ?_, ⟨#[], clock, heap_setBlock_same hb _, ⟨by simp, stamped_empty _, by simp⟩, Nat.le_refl _, rfl⟩, ⟨rfl, rfl, rfl, by simp [setBlock], fun i _ hi => heap_setBlock_other hb _ (fun e => hi (by rw [e]))⟩⟩
  have hs' := MapKept.run_setObj_map (.map #[] clock) hb (P := Tryz.prog)
  have hgo := MapKept.run_getObj_map hb (P := Tryz.prog)
  simp [Builtin.clear_, run_underlying Tryz.underlying153, hgo, Result.andThen, hs']
  rfl
theorem wpList_builtin_run {P : Program} (w : World) {ops : Array Oper} {rest : List Oper} {o : Oper} {a : Act} {Q : Exit → Act → World → Prop} (hgd : o.guard = none) (s : Operand) (t : TypeId)
    (ho : o.op = .call { callee := .builtin .clear, args := #[s], argTypes := #[t] }) (vs : Value) (hs : a.eval s = vs)
    (v' : Value) (w' : World) (hr : (Builtin.clear_ #[t] o.type #[vs]).run P w = .ok v' w') (h : wpList P ops Q rest (a.put o.dst v') w') : wpList P ops Q (o :: rest) a w := by
  refine wpList_plain hgd fun K hK => ?_
  unfold Oper.wp execOp
  simp only [ho, resolve, invoke, builtin, Sem.run_bind, Sem.run_pure, Result.andThen_ok, List.map_toArray, List.map_cons, List.map_nil, hs, hr]
  exact hK _ _ h

/-- each past settled to its first -/
def heads (d : RD) : RD := { d with s := d.s.map fun p => [p.headD 0] }
theorem PDisk.cleared {w w' : World} {b m : Nat} {L : Value} {D : DataW Value} {X : Nat → Value} {d : RD} (h : PDisk w b L m D X d) (hm : w'.ownsMap Tryz.prog 3 rawE m 0 (.map [])) (hg : w.grownBy w' (some m)) :
    PDisk w' b L m (.map []) (fun _ => nilS) (heads d) := by
  have hbl : ∀ k, k < w.heap.size → k ≠ m → w'.heap[k]? = w.heap[k]? := fun k hk hne => hg.block k hk (fun e => hne (by injection e))
  have hlen : (heads d).s.length = d.s.length := by simp [heads]
  refine ⟨?_, ?_, PMap.empty hm (fun i hi => by simp [heads]) (Nat.zero_le _), (fun i _ k hk => by cases hk), by rw [hlen]; exact h.n0, by rw [hlen]; exact h.n1, h.fz⟩
  · rw [hbl b h.lt (fun e => h.b_m e.symm)]
    exact h.disk
  · have e : (heads d).s.map (·.headD 0) = d.s.map (·.headD 0) := by simp [heads]
    rw [e]
    exact h.last.on (fun k hk => hbl k (h.kind (.inr (.inr (.inl hk)))).lt (fun e => h.m_last (by rw [hk, e])))
end Go.Proofs.YtoclhiaidbfheaaGreatDoor.Q
end

section
namespace Go.Proofs.YtoclhiaidbfheaaGreatDoor.Q
open Go.RowKit

def halfS (s : List (List SB)) (left : Lit → Bool) : List (List SB) := s.mapIdx fun i p => if left (key i) = true then p else p.getLastD 0 :: p.tail
theorem half_len (s : List (List SB)) (left : Lit → Bool) : (halfS s left).length = s.length := by simp [halfS]
theorem half_get (s : List (List SB)) (left : Lit → Bool) (i : Nat) (h : i < s.length) : (halfS s left)[i]'(by rw [half_len]; exact h) = if left (key i) = true then s[i] else s[i].getLastD 0 :: s[i].tail := by simp [halfS]
theorem one_last (p : List SB) (h : p.length = 1) : p.getLastD 0 :: p.tail = p := by
  obtain ⟨x, rfl⟩ := List.length_eq_one_iff.1 h
  rfl
theorem half_start {w : World} {m : Nat} {s : List (List SB)} {D : DataW Value} {X : Nat → Value} (h : PMap w m s D X) : halfS s (Maps.has D) = s := by
  apply List.ext_getElem (half_len _ _)
  intro i h1 h2
  rw [half_get s _ i h2, h.has_ i h2]
  by_cases h3 : 1 < s[i].length
  · rw [decide_eq_true h3, if_pos rfl]
  · rw [decide_eq_false h3, if_neg (by simp)]
    exact one_last _ (by have := (h.pos i h2).1; omega)
theorem key_same (i j : Nat) : (key j).sameKey (key i) = decide (j = i) := by
  by_cases h : j = i
  · subst h
    rw [decide_eq_true rfl]
    exact WideAt.sameKey_self (show WideAt.IsKeyLit (key j) from trivial)
  · rw [decide_eq_false h]
    exact Maps.sameKey_ne (fun e => h (key_inj e))
theorem half_step (s : List (List SB)) (left : Lit → Bool) (i : Nat) (hi : i < s.length) (hl : left (key i) = true) : (halfS s left).set i (s[i].getLastD 0 :: ((halfS s left).getD i []).tail) = halfS s (fun z => left z && !z.sameKey (key i)) := by
  have hi' : i < (halfS s left).length := by rw [half_len]; exact hi
  have hg : (halfS s left).getD i [] = s[i] := by
    simp only [List.getD, List.getElem?_eq_getElem hi', Option.getD_some]
    rw [half_get s left i hi, if_pos hl]
  rw [hg]
  apply List.ext_getElem (by rw [List.length_set, half_len, half_len])
  intro j h1 h2
  have hj : j < s.length := by rw [half_len] at h2; exact h2
  rw [half_get s _ j hj]
  rcases set_at _ i j _ h1 hi' with ⟨rfl, e⟩ | ⟨hji, h3, e⟩
  · rw [e, key_same, decide_eq_true rfl]
    simp
  · rw [e, half_get s left j hj, key_same, decide_eq_false hji]
    simp
theorem half_end (d : RD) (left : Lit → Bool) (hl : ∀ kl, left kl = false) : heads { d with s := halfS d.s left } = flushD d := by
  have e : (halfS d.s left).map (fun p => [p.headD 0]) = d.s.map fun p => [p.getLastD 0] := by
    apply List.ext_getElem (by simp [halfS])
    intro i h1 h2
    have hi : i < d.s.length := by simpa using h2
    rw [List.getElem_map, List.getElem_map, half_get d.s left i hi, if_neg (by rw [hl]; simp)]
    rfl
  simp only [heads, flushD, e]

set_option maxHeartbeats 1000000 in
theorem pflush_dead (w : World) (b m : Nat) (L : Value) (D : DataW Value) (X : Nat → Value) (d : RD) (h : PDisk w b L m D X d) (hm : movesB d = false) :
    Calls Tryz.prog 80 #[.pointer (some ⟨b, 0, none⟩)] w fun e w' => e = .returned (.int .i64 10) ∧ PDisk w' b L m D X (movesD d) ∧ Stays w w' (· = b) := by
  have HN := Lib.hid (none_any w b m L D X d h)
  have hs := step_any _ b m L D X d h
  have hse : stepE d = 10 := by unfold stepE; rw [if_neg (by rw [hm]; simp)]
  rw [hse] at hs
  have HS := Lib.hid hs
  clear hs hse hm h
  go_enter Tryz.func80, Tryz.ntmps80
  go_wp2_with (first
    | (go_at_call 135; refine HN.out.mono ?_; rintro e w' ⟨rfl, rfl⟩)
    | (go_at_call 146; refine HS.out.mono ?_; rintro e w' ⟨rfl, h3, _, h5⟩))
  go_ret
  exact ⟨rfl, h3, h5⟩

set_option maxRecDepth 10000 in
set_option maxHeartbeats 1000000 in
theorem pflush_any (w : World) (b m : Nat) (L : Value) (D : DataW Value) (X : Nat → Value) (d : RD) (h : PDisk w b L m D X d) (hm : movesB d = true) :
    Calls Tryz.prog 80 #[.pointer (some ⟨b, 0, none⟩)] w fun e w' => e = .returned (.int .i64 0) ∧ PDisk w' b L m (.map []) (fun _ => nilS) (flushD (movesD d)) ∧ Stays w w' (fun k => k = b ∨ k = m ∨ L.ownBlock = some k) := by
  have HN := Lib.hid (none_any w b m L D X d h)
  have hs := step_any _ b m L D X d h
  have hse : stepE d = 0 := by unfold stepE; rw [if_pos hm]
  rw [hse] at hs
  have HS := Lib.hid hs
  clear hs hse hm h
  go_enter Tryz.func80, Tryz.ntmps80
  go_wp2_with (first
    | (go_at_call 135; refine HN.out.mono ?_; rintro e w' ⟨rfl, rfl⟩)
    | (go_at_call 146; refine HS.out.mono ?_; rintro e w2 ⟨rfl, h3, h4, h5⟩; have c1 := h3.c1)
    | (at_range; refine wpList_range_own _ rfl (.tmp 15) 153 rfl 3 152 lawI Tryz.underlying153 rawE m _ D rfl h3.map.own ?_; intro w3 hrg0 hg0 hs0)
    | fail)
  go_frame
  have hst := half_start h3.map
  have hn1 := h3.n1
  have hg3 := (Below.refl w2.heap.size w2).grown hg0 (Nat.le_refl _) (fun k hk => by cases hk)
  have hd3 := h3.below hg3
  have hfl : ∀ k, foot b m L X (movesD d).s.length k → k < w2.heap.size := fun k hk => (h3.kind hk).lt
  obtain ⟨g, cap, cur, hL, _, hcap, hcm, _⟩ := h3.form
  have hS3 : Stays w w3 (fun k => k = b ∨ k = m ∨ L.ownBlock = some k) := by
    have h1 : Stays w w2 (fun k => k = b ∨ k = m ∨ L.ownBlock = some k) := ⟨h5.os, h5.tape, h5.output, h5.size, fun k hk hF => h5.block k hk (fun e => hF (.inl e))⟩
    exact h1.trans (Stays.of_below hg3 (fun _ => False)) (fun _ hk => hk.elim)
  have HD0 : Hid (PDisk w3 b L m D X { movesD d with s := halfS (movesD d).s (Maps.has D) }) := by
    show PDisk w3 b L m D X { movesD d with s := halfS (movesD d).s (Maps.has D) }
    rw [hst]
    exact hd3
  have HMAP := Lib.hid h3.map
  have HFL := Lib.hid hfl
  have hws := h5.size
  clear hst hd3 hfl hg0 hg3 h4 h5 HN HS c1 h3
  subst hL
  generalize hd1 : movesD d = d1 at *
  have HD1 := Lib.hid hd1
  clear hd1
  go_loopw [4] (fun _ wr => ∃ (left : Lit → Bool) (cnt : Nat), wr.ranges Tryz.prog 3 rawE m w2.heap.size d1.s.length D left cnt ∧ Hid (PDisk wr b (.slice (some ⟨g, 0, none⟩) d1.s.length cap) m D X { d1 with s := halfS d1.s left }) ∧ Stays w wr (fun k => k = b ∨ k = m ∨ (Value.slice (some ⟨g, 0, none⟩) d1.s.length cap).ownBlock = some k))
    (fun _ wr => wr.rangeLeft m w2.heap.size)
  case atStart => exact ⟨_, _, hrg0, HD0, hS3⟩
  case round =>
    obtain ⟨left, cnt, hrg, HP, hS⟩ := hrel
    clear hrg0 HD0 hS3 hs0
    go_wp2_with (first
      | (at_next; refine wpList_next_ranges _ rfl (.tmp 16) rfl 3 lawI rawE (Value.int .i64) id (fun k kl hk => by obtain ⟨x, hx, _⟩ := Maps.keyOf_i64 Tryz.underlying3 hk; exact ⟨x, hx⟩) (fun v _ _ => ⟨v, rfl⟩) m w2.heap.size d1.s.length D left cnt rfl hrg ?_ ?_)
      | fail)
    · intro hc0 hl0
      have hP := HP.out
      have c1 := hP.c1
      obtain ⟨w9, hclr, hown9, hg9⟩ := run_clear hP.map.own 0
      have hend := hP.cleared hown9 hg9
      rw [half_end d1 left hl0] at hend
      have hS9 := hS.grown hg9 (fun k hk => by injection hk with hk; exact .inl (.inr (.inl hk.symm)))
      have HCLR := Lib.hid hclr
      have HEND := Lib.hid hend
      have HS9 := Lib.hid hS9
      clear hP hclr hown9 hg9 hend hS9 hS hl0 hc0 hrg HP
      go_wp2_with (first
        | (refine wpList_builtin_run _ rfl (.tmp 33) 153 rfl _ rfl _ w9 HCLR.out ?_)
        | fail)
      go_ret
      rw [HD1.out]
      exact ⟨rfl, HEND.out, HS9.out⟩
    · intro x c kl yd yp w4 cnt2 hkey hlk hv hat hrg2 hlt hg2 hs2 hen
      obtain ⟨x', ex, hkl, _⟩ := Maps.keyOf_i64 Tryz.underlying3 hkey
      obtain ⟨i, hi, ei⟩ := HMAP.out.dom _ (Maps.has_true_of_atKey hat)
      have hxx : x = x' := encZ_inj ex
      have hxi : x = (i : Int) := by
        rw [ei] at hkl
        injection hkl with _ e2
        omega
      subst hxx
      subst hxi
      subst ei
      clear ex hkl hkey
      have hP := HP.out
      have hi2 : i < (halfS d1.s left).length := by rw [half_len]; exact hi
      have hr4 : ∀ k, foot b m (.slice (some ⟨g, 0, none⟩) d1.s.length cap) X (halfS d1.s left).length k → w4.heap[k]? = wr.heap[k]? := fun k hk => by
        rw [half_len] at hk
        have h1 := HFL.out k hk
        have h2 := hrg.lt
        exact hg2.block k (by omega) (fun e => by injection e with e; omega)
      have hP4 := hP.on hr4
      have hS4 := hS.grown hg2 (fun k hk => by injection hk with hk; exact .inr (by omega))
      have hbd : Below w4.heap.size w4 w4.drew := (Below.refl _ _).drew
      have hPd := hP4.below hbd
      have hlast := last_any w4.drew b m _ D X _ hPd i hi2
      have hgi : (halfS d1.s left)[i] = d1.s[i] := by rw [half_get d1.s left i hi, if_pos hlk]
      have hstep := half_step d1.s left i hi hlk
      have hcall : Calls Tryz.prog 147 #[.pointer (some ⟨b, 0, none⟩), .int .i64 (i : Int)] w4.drew fun e w' => e = .returned (.agg (sec (d1.s[i].getLastD 0)).toArray) ∧
          (w'.cell? ⟨b, 0, none⟩ = some (.slice (some ⟨g, 0, none⟩) d1.s.length cap) ∧ w'.there g (i * 64) 64) ∧
          ((w'.setCells g (i * 64) (sec (d1.s[i].getLastD 0))).cell? ⟨b, 0, none⟩ = some (.slice (some ⟨g, 0, none⟩) d1.s.length cap) ∧ (w'.setCells g (i * 64) (sec (d1.s[i].getLastD 0))).there g (i * 64) 64) ∧
          Hid (∃ cnt3, (w'.setCells g (i * 64) (sec (d1.s[i].getLastD 0))).ranges Tryz.prog 3 rawE m w2.heap.size d1.s.length D (fun z => left z && !z.sameKey (key i)) cnt3 ∧ cnt3 < cnt ∧
            PDisk (w'.setCells g (i * 64) (sec (d1.s[i].getLastD 0))) b (.slice (some ⟨g, 0, none⟩) d1.s.length cap) m D X { d1 with s := halfS d1.s (fun z => left z && !z.sameKey (key i)) } ∧ Stays w (w'.setCells g (i * 64) (sec (d1.s[i].getLastD 0))) (fun k => k = b ∨ k = m ∨ (Value.slice (some ⟨g, 0, none⟩) d1.s.length cap).ownBlock = some k)) := by
        refine hlast.mono fun e w' ⟨he, hb⟩ => ?_
        have hPw := hPd.below hb
        have hthere := hPw.last.there i (by rw [List.length_map]; exact hi2)
        obtain ⟨hPh, hgh⟩ := hPw.head i hi2 (d1.s[i].getLastD 0)
        refine ⟨by rw [he]; show Ending.returned (.agg (sec (((halfS d1.s left)[i]).getLastD 0)).toArray) = _; rw [hgi], ⟨hPw.c0, hthere⟩, ⟨hPh.c0, World.there_setCells hthere _ _ _⟩, cnt2, ?_, hlt, ?_, ?_⟩
        · have hm1 := hrg2.ne
          have hml := hrg2.owns.lt
          have hrl := hrg2.lt
          have hgb : Below w4.drew.heap.size w4 w' := hbd.trans hb
          have hg1 : w4.grownBy w' none := ⟨hgb.os, hgb.tape, hgb.output, hgb.size, fun k hk _ => hgb.block k hk⟩
          have hne : g ≠ w2.heap.size := fun e => by have := HFL.out g (.inr (.inr (.inl rfl))); omega
          have hne2 : m ≠ g := fun e => hP.m_last (by rw [e]; rfl)
          exact (hrg2.kept hg1 (by simp) (by simp)).kept hgh (fun e => hne2 (by injection e)) (fun e => hne (by injection e with e; exact e.symm))
        · have e : headD { d1 with s := halfS d1.s left } i (d1.s[i].getLastD 0) = { d1 with s := halfS d1.s (fun z => left z && !z.sameKey (key i)) } := by simp only [headD, hstep]
          rw [← e]
          exact hPh
        · exact ((hS4.trans (Stays.of_below (hbd.trans hb) (fun _ => False)) (fun _ hk => hk.elim))).grown hgh (fun k hk => .inl (.inr (.inr hk)))
      have HC := Lib.hid hcall
      have hS0 : w4.drew.cell? ⟨b, 0, none⟩ = some (.slice (some ⟨g, 0, none⟩) d1.s.length cap) ∧ w4.drew.there g (i * 64) 64 := ⟨hPd.c0, hPd.last.there i (by rw [List.length_map]; exact hi2)⟩
      have hle := hrg.left_eq
      have HLE := Lib.hid hle
      clear hP hi2 hr4 hP4 hS4 hPd hlast hgi hstep hcall hbd hrg2 hg2 hat hlk hle hS hrg HP hv
      have hsz64 := sector_sz (d1.s[i].getLastD 0)
      have hsl := sec_len (d1.s[i].getLastD 0)
      have hs1 := sec_one (d1.s[i].getLastD 0)
      generalize d1.s[i].getLastD 0 = c0 at *
      go_wp2_with fail
      go_region_held_law (fun w' => w'.cell? ⟨b, 0, none⟩ = some (.slice (some ⟨g, 0, none⟩) d1.s.length cap) ∧ w'.there g (i * 64) 64)
        (first | with_reducible exact hS0 | with_reducible exact hcs7 | with_reducible exact hcc7)
        (first
          | (go_at_call 147; with_reducible refine HC.out.mono ?_; rintro e w7 ⟨rfl, hcc7, hcs7, HP7⟩))
      obtain ⟨cnt3, hr7, hlt7, hp7, hS7⟩ := HP7.out
      clear HP7
      go_wp2
      go_roundw
      case rel => exact ⟨_, cnt3, hr7, hp7, hS7⟩
      case measure => rw [hr7.left_eq, HLE.out]; exact hlt7
end Go.Proofs.YtoclhiaidbfheaaGreatDoor.Q
end

section
namespace Go.Proofs.YtoclhiaidbfheaaGreatDoor.Q
open Go.RowKit

/-- the sectors, the first j of the open ones with the version that their pick names at their head -/
def crashH (s : List (List SB)) (l : List Nat) (picks : List Int) : Nat → List (List SB)
  | 0 => s
  | j + 1 =>
    let t := crashH s l picks j
    let past := t.getD (l.getD j 0) []
    t.set (l.getD j 0) (past.getD (pickN picks j past.length) 0 :: past.tail)
def hd3 (d : RD) (picks : List Int) (j : Nat) : RD := { d with s := crashH d.s (openL d) picks j }

end Go.Proofs.YtoclhiaidbfheaaGreatDoor.Q
end

section
set_option linter.unusedVariables false
namespace Go.Proofs.YtoclhiaidbfheaaGreatDoor.Q
open Go.RowKit

/-- a call on the disk that answers an error: it leaves the disk d' -/
def PDone (w : World) (F : Nat → Prop) (b : Nat) (er : Int) (d' : RD) (e : Ending) (w' : World) : Prop :=
  e = .returned (.int .i64 er) ∧ ∃ F', PD w' F' b d' ∧ (∀ k, F' k → F k ∨ w.heap.size ≤ k) ∧ Stays w w' F
theorem PDone.mk' {w w' : World} {F G : Nat → Prop} {b m : Nat} {L L' : Value} {D' : DataW Value} {X X' : Nat → Value} {d d' : RD} {er : Int} (hF : ∀ k, F k ↔ foot b m L X d.s.length k) (h' : PDisk w' b L' m D' X' d')
    (hL : L'.ownBlock = L.ownBlock ∨ ∃ g, L'.ownBlock = some g ∧ w.heap.size ≤ g) (hX : ∀ i, i < d'.s.length → ∀ k, (X' i).ownBlock = some k → F k ∨ w.heap.size ≤ k) (hS : Stays w w' G) (hG : ∀ k, G k → F k) : PDone w F b er d' (.returned (.int .i64 er)) w' := by
  refine ⟨rfl, foot b m L' X' d'.s.length, ⟨L', m, D', X', h', fun k => Iff.rfl⟩, ?_, ⟨hS.os, hS.tape, hS.output, hS.size, fun k hk hn => hS.block k hk (fun e => hn (hG k e))⟩⟩
  rintro k (rfl | rfl | hk | ⟨i, hi, hk⟩)
  · exact .inl ((hF _).2 (.inl rfl))
  · exact .inl ((hF _).2 (.inr (.inl rfl)))
  · rcases hL with e | ⟨g, e, hg⟩
    · rw [e] at hk; exact .inl ((hF _).2 (.inr (.inr (.inl hk))))
    · rw [e] at hk; injection hk with hk; exact .inr (by omega)
  · exact hX i hi k hk
theorem PDone.same {w w' : World} {F : Nat → Prop} {b : Nat} {d : RD} {er : Int} (h : PD w F b d) (hb : Below w.heap.size w w') : PDone w F b er d (.returned (.int .i64 er)) w' :=
  ⟨rfl, F, h.below hb, fun k hk => .inl hk, Stays.of_below hb F⟩
theorem PD.n0 {w : World} {F : Nat → Prop} {b : Nat} {d : RD} (h : PD w F b d) : 0 < d.s.length := by obtain ⟨L, m, D, X, hp, _⟩ := h; exact hp.n0
theorem PD.n1 {w : World} {F : Nat → Prop} {b : Nat} {d : RD} (h : PD w F b d) : d.s.length ≤ 8192 := by obtain ⟨L, m, D, X, hp, _⟩ := h; exact hp.n1
theorem PD.fz {w : World} {F : Nat → Prop} {b : Nat} {d : RD} (h : PD w F b d) : -1 ≤ d.fuse ∧ d.fuse ≤ 9223372036854775807 := by obtain ⟨L, m, D, X, hp, _⟩ := h; exact hp.fz
theorem PD.pos {w : World} {F : Nat → Prop} {b : Nat} {d : RD} (h : PD w F b d) (i : Nat) (hi : i < d.s.length) : 0 < d.s[i].length ∧ d.s[i].length ≤ 1000000 := by obtain ⟨L, m, D, X, hp, _⟩ := h; exact hp.map.pos i hi

def thereN (d : RD) (n : Int) : Prop := 0 ≤ n ∧ n < (d.s.length : Int)
instance (d : RD) (n : Int) : Decidable (thereN d n) := by unfold thereN; exact inferInstance
def wrR (d : RD) (n : Int) : Int := if thereN d n then (if movesB d = true then 0 else 10) else 2
def wrD (d : RD) (n : Int) (c : SB) : RD := if thereN d n then (if movesB d = true then writeD (movesD d) n.toNat c else movesD d) else d
def flR (d : RD) : Int := if movesB d = true then 0 else 10
def flD (d : RD) : RD := if movesB d = true then flushD (movesD d) else movesD d
theorem pd_write (w : World) (F : Nat → Prop) (b : Nat) (d : RD) (h : PD w F b d) (n : Int) (c : SB) (hl : ∀ i (hi : i < d.s.length), d.s[i].length < 1000000) :
    Calls Tryz.prog 140 #[.pointer (some ⟨b, 0, none⟩), .int .i64 n, .agg (sec c).toArray] w (PDone w F b (wrR d n) (wrD d n c)) := by
  have h0 := h
  obtain ⟨L, m, D, X, hp, hF⟩ := h
  by_cases ht : thereN d n
  · obtain ⟨i, rfl⟩ := Int.eq_ofNat_of_zero_le ht.1
    have hi : i < d.s.length := by have := ht.2; omega
    cases hm : movesB d with
    | true =>
      have e1 : wrR d (i : Int) = 0 := by unfold wrR; rw [if_pos ht, if_pos hm]
      have e2 : wrD d (i : Int) c = writeD (movesD d) i c := by unfold wrD; rw [if_pos ht, if_pos hm]; rfl
      rw [e1, e2]
      refine (pwrite_any w b m L D X d hp i hi c hm (hl i hi)).mono fun e w' ⟨he, v, D', h1, h2, h3⟩ => ?_
      subst he
      refine PDone.mk' hF h1 (.inl rfl) (fun j hj k hk => ?_) h3 (fun k hk => ?_)
      · have hj' : j < d.s.length := by simpa [writeD, movesD_s] using hj
        unfold putX at hk
        by_cases e : j = i
        · rw [if_pos e] at hk
          rcases h2 with e2 | ⟨g, e2, hg⟩
          · rw [e2] at hk; exact .inl ((hF k).2 (.inr (.inr (.inr ⟨i, hi, hk⟩))))
          · rw [e2] at hk; injection hk with hk; exact .inr (by omega)
        · rw [if_neg e] at hk
          exact .inl ((hF k).2 (.inr (.inr (.inr ⟨j, hj', hk⟩))))
      · rcases hk with rfl | rfl | hk
        · exact (hF _).2 (.inl rfl)
        · exact (hF _).2 (.inr (.inl rfl))
        · exact (hF _).2 (.inr (.inr (.inr ⟨i, hi, hk⟩)))
    | false =>
      have hm' : ¬ movesB d = true := by rw [hm]; simp
      have e1 : wrR d (i : Int) = 10 := by unfold wrR; rw [if_pos ht, if_neg hm']
      have e2 : wrD d (i : Int) c = movesD d := by unfold wrD; rw [if_pos ht, if_neg hm']
      rw [e1, e2]
      refine (pwrite_dead w b m L D X d hp i hi c hm).mono fun e w' ⟨he, h1, h3⟩ => ?_
      subst he
      exact PDone.mk' hF h1 (.inl rfl) (fun j hj k hk => .inl ((hF k).2 (.inr (.inr (.inr ⟨j, by rw [movesD_s] at hj; exact hj, hk⟩))))) h3 (fun k hk => by subst hk; exact (hF _).2 (.inl rfl))
  · have e1 : wrR d n = 2 := by unfold wrR; rw [if_neg ht]
    have e2 : wrD d n c = d := by unfold wrD; rw [if_neg ht]
    rw [e1, e2]
    refine (pwrite_no w _ n 2 c rfl (fun W hW => ?_)).mono fun e w' ⟨he, hb⟩ => ?_
    · have hq := place_any W b m L D X d (hp.below hW) n
      have he : placeE d.s.length n = 2 := if_neg ht
      rw [he] at hq
      exact hq
    · subst he
      exact PDone.same h0 hb

theorem pd_flush (w : World) (F : Nat → Prop) (b : Nat) (d : RD) (h : PD w F b d) : Calls Tryz.prog 80 #[.pointer (some ⟨b, 0, none⟩)] w (PDone w F b (flR d) (flD d)) := by
  obtain ⟨L, m, D, X, hp, hF⟩ := h
  cases hm : movesB d with
  | true =>
    have e1 : flR d = 0 := by unfold flR; rw [if_pos hm]
    have e2 : flD d = flushD (movesD d) := by unfold flD; rw [if_pos hm]
    rw [e1, e2]
    refine (pflush_any w b m L D X d hp hm).mono fun e w' ⟨he, h1, h3⟩ => ?_
    subst he
    refine PDone.mk' hF h1 (.inl rfl) (fun j hj k hk => by cases hk) h3 (fun k hk => ?_)
    rcases hk with rfl | rfl | hk
    · exact (hF _).2 (.inl rfl)
    · exact (hF _).2 (.inr (.inl rfl))
    · exact (hF _).2 (.inr (.inr (.inl hk)))
  | false =>
    have hm' : ¬ movesB d = true := by rw [hm]; simp
    have e1 : flR d = 10 := by unfold flR; rw [if_neg hm']
    have e2 : flD d = movesD d := by unfold flD; rw [if_neg hm']
    rw [e1, e2]
    refine (pflush_dead w b m L D X d hp hm).mono fun e w' ⟨he, h1, h3⟩ => ?_
    subst he
    exact PDone.mk' hF h1 (.inl rfl) (fun j hj k hk => .inl ((hF k).2 (.inr (.inr (.inr ⟨j, by rw [movesD_s] at hj; exact hj, hk⟩))))) h3 (fun k hk => by subst hk; exact (hF _).2 (.inl rfl))

/-- Read: the sector, and the error -/
def rdR (d : RD) (n : Int) : Int := if thereN d n then 0 else 2
def rdC (d : RD) (n : Int) : SB := if thereN d n then (d.s.getD n.toNat []).getLastD 0 else 0
theorem pd_read (w : World) (F : Nat → Prop) (b : Nat) (d : RD) (h : PD w F b d) (n : Int) : Calls Tryz.prog 229 #[.pointer (some ⟨b, 0, none⟩), .int .i64 n] w fun e w' => e = .returned (.tuple #[.agg (sec (rdC d n)).toArray, .int .i64 (rdR d n)]) ∧ Below w.heap.size w w' := by
  obtain ⟨L, m, D, X, hp, hF⟩ := h
  by_cases ht : thereN d n
  · obtain ⟨i, rfl⟩ := Int.eq_ofNat_of_zero_le ht.1
    have hi : i < d.s.length := by have := ht.2; omega
    have e1 : rdR d (i : Int) = 0 := by unfold rdR; rw [if_pos ht]
    have e2 : rdC d (i : Int) = d.s[i].getLastD 0 := by
      unfold rdC
      rw [if_pos ht]
      show (d.s.getD i []).getLastD 0 = _
      rw [getD_get _ i hi]
    rw [e1, e2]
    exact read_any w b m L D X d hp i hi
  · have e1 : rdR d n = 2 := by unfold rdR; rw [if_neg ht]
    have e2 : rdC d n = 0 := by unfold rdC; rw [if_neg ht]
    rw [e1, e2]
    refine read_no w _ n 2 rfl (fun W hW => ?_)
    have hq := place_any W b m L D X d (hp.below hW) n
    have he : placeE d.s.length n = 2 := if_neg ht
    rw [he] at hq
    exact hq
end Go.Proofs.YtoclhiaidbfheaaGreatDoor.Q
end
