/- The document's disk: what it is, as a list of sectors' pasts; how it lies in memory; what a step may change. -/
import Derived.Test.YtdcfplfeagpcdaaProg
import Derived.Test.YtdcfplfeagpcdaaMem
import Derived.WalkKit
import Derived.WalkSpells
import Derived.WalkLawsBesides
import Derived.Lib.Hide
import Derived.Lib.SmallJoins
import Derived.Deep.QuietTactic
import Derived.Deep.WholeRow
import Derived.Laws.Rows
import Derived.BigQuiet
namespace Go.Proofs.Ytdcfplfeagpcdaa
open Go.RowKit

theorem ret_int {k : IntKind} {a b : Int} (h : a = b) : Ending.returned (.int k a) = .returned (.int k b) := by rw [h]
theorem val_int {k : IntKind} {a b : Int} (h : a = b) : Value.int k a = .int k b := by rw [h]

/-- the document's disk: each sector's past, the fuse (below 0: none), is it dead? -/
structure RD where
  s : List (List UInt8)
  fuse : Int
  dead : Bool

/-- the cells are slices that show these pasts, each in memory of the call's own -/
def Pasts (w : World) (base : Nat) (xs : List Value) (ss : List (List UInt8)) : Prop :=
  xs.length = ss.length ∧ ∀ i (h : i < ss.length), ∃ x, xs[i]? = some x ∧ w.ownsRow base 5 1 x ss[i].length (cells8 ss[i]) ∧ 0 < ss[i].length ∧ ss[i].length ≤ 1000000
/-- block b holds the disk; v is the slice of its sectors -/
def RDisk (w : World) (base b : Nat) (v : Value) (d : RD) : Prop :=
  base ≤ b ∧ w.heap[b]? = some (.cells #[v, .int .i64 d.fuse, .bool d.dead] 47 (0, 0)) ∧ ∃ xs, w.ownsRow base 44 1 v d.s.length xs ∧ Pasts w base xs d.s

/-- only the disk's block, the row of its sectors and new blocks may be others -/
structure Own2 (w w' : World) (b : Nat) (v : Value) : Prop where
  os : w'.os = w.os
  tape : w'.tape = w.tape
  output : w'.output = w.output
  size : w.heap.size ≤ w'.heap.size
  block : ∀ k, k < w.heap.size → k ≠ b → v.ownBlock ≠ some k → w'.heap[k]? = w.heap[k]?
theorem Own2.refl (w : World) (b : Nat) (v : Value) : Own2 w w b v := ⟨rfl, rfl, rfl, Nat.le_refl _, fun _ _ _ _ => rfl⟩
theorem Own2.of_below {w w' : World} (h : Below w.heap.size w w') (b : Nat) (v : Value) : Own2 w w' b v := ⟨h.os, h.tape, h.output, h.size, fun k hk _ _ => h.block k hk⟩
theorem Own2.trans {a b c : World} {g : Nat} {u v : Value} (h : Own2 a b g u) (k : Own2 b c g v) (hv : v.ownBlock = u.ownBlock ∨ ∃ n, v.ownBlock = some n ∧ a.heap.size ≤ n) : Own2 a c g u := by
  refine ⟨k.os.trans h.os, k.tape.trans h.tape, k.output.trans h.output, Nat.le_trans h.size k.size, fun i hi hg hu => ?_⟩
  rw [k.block i (Nat.lt_of_lt_of_le hi h.size) hg ?_, h.block i hi hg hu]
  rcases hv with e | ⟨n, e, hn⟩
  · rw [e]; exact hu
  · rw [e]; intro he; injection he with he; omega
theorem Own2.setB {w w' : World} {b : Nat} {v : Value} (h : Own2 w w' b v) (a : Addr) (ha : a.block = b) (u : Value) : Own2 w (w'.setCell a u) b v :=
  ⟨h.os, h.tape, h.output, by have := h.size; simpa [World.setCell] using this, fun k hk hb hv => by rw [Below.heap_setCell w' a u k (by rw [ha]; exact hb)]; exact h.block k hk hb hv⟩
theorem Own2.setV {w w' : World} {b : Nat} {v : Value} (h : Own2 w w' b v) (a : Addr) (ha : v.ownBlock = some a.block) (u : Value) : Own2 w (w'.setCell a u) b v :=
  ⟨h.os, h.tape, h.output, by have := h.size; simpa [World.setCell] using this, fun k hk hb hv => by rw [Below.heap_setCell w' a u k (fun e => hv (by rw [ha, e]))]; exact h.block k hk hb hv⟩
theorem Own2.below {w w' : World} {b : Nat} {v : Value} {B : Nat} (h : Own2 w w' b v) (hB : B ≤ w.heap.size) (hb : B ≤ b) (hv : ∀ k, v.ownBlock = some k → B ≤ k) : Below B w w' :=
  ⟨h.os, h.tape, h.output, h.size, fun k hk => h.block k (Nat.lt_of_lt_of_le hk hB) (by omega) (fun e => by have := hv k e; omega)⟩

theorem row_on {w w' : World} {base n : Nat} {e : TypeId} {v : Value} {xs : List Value} (h : w.ownsRow base e 1 v n xs) (hb : ∀ k cur, v.ownBlock = some k → w.heap[k]? = some (.cells cur e (0, 0)) → w'.heap[k]? = some (.cells cur e (0, 0))) : w'.ownsRow base e 1 v n xs := by
  refine ⟨h.1, ?_⟩
  rcases h.2 with h2 | ⟨g, cap, cur, hv, hg, hh, hr⟩
  · exact .inl h2
  · exact .inr ⟨g, cap, cur, hv, hg, hb g cur (by rw [hv]; rfl) hh, hr⟩
/-- every block of bytes is as it was -/
def BytesKept (w w' : World) : Prop := ∀ (g : Nat) (cur : Array Value), w.heap[g]? = some (.cells cur 5 (0, 0)) → w'.heap[g]? = some (.cells cur 5 (0, 0))
theorem BytesKept.refl (w : World) : BytesKept w w := fun _ _ h => h
theorem BytesKept.trans {a b c : World} (h : BytesKept a b) (k : BytesKept b c) : BytesKept a c := fun g cur hg => k g cur (h g cur hg)
theorem BytesKept.of_below {w w' : World} (h : Below w.heap.size w w') : BytesKept w w' := fun g _ hg => by
  rw [h.block g (Array.getElem?_eq_some_iff.1 hg).1]; exact hg
theorem BytesKept.alloc (w : World) (o : Obj) : BytesKept w (w.alloc o) := fun g _ hg => by
  rw [Below.heap_alloc w o g (Array.getElem?_eq_some_iff.1 hg).1]; exact hg
theorem BytesKept.setCell {w : World} {a : Addr} {cur : Array Value} {t : TypeId} {fr : Nat × Nat} (ha : w.heap[a.block]? = some (.cells cur t fr)) (ht : t ≠ 5) (u : Value) : BytesKept w (w.setCell a u) := fun g c hg => by
  rw [Below.heap_setCell w a u g (fun e => by rw [e, ha] at hg; injection hg with hg; injection hg with _ h2; exact ht h2)]
  exact hg
theorem BytesKept.own2 {w w' : World} {b : Nat} {v : Value} {cb : Array Value} {tb : TypeId} {base n : Nat} {e : TypeId} {xs : List Value} (h : Own2 w w' b v) (hb : w.heap[b]? = some (.cells cb tb (0, 0))) (htb : tb ≠ 5) (hv : w.ownsRow base e 1 v n xs) (he : e ≠ 5) : BytesKept w w' := fun g c hg => by
  rw [h.block g (Array.getElem?_eq_some_iff.1 hg).1 ?_ ?_]
  · exact hg
  · intro e1; subst e1; rw [hb] at hg; injection hg with hg; injection hg with _ h2; exact htb h2
  · intro e1
    rcases hv.2 with ⟨rfl, _⟩ | ⟨g', cap, cur, rfl, _, hh, _⟩
    · cases e1
    · injection e1 with e1
      have e2 : g' = g := e1
      subst e2; rw [hh] at hg; injection hg with hg; injection hg with _ h2; exact he h2
theorem Pasts.kept {w w' : World} {base : Nat} {xs : List Value} {ss : List (List UInt8)} (h : Pasts w base xs ss) (hk : BytesKept w w') : Pasts w' base xs ss :=
  ⟨h.1, fun i hi => by
    obtain ⟨x, hx, ho, h0⟩ := h.2 i hi
    exact ⟨x, hx, row_on ho (fun k cur _ hh => hk k cur hh), h0⟩⟩
theorem RDisk.on {w w' : World} {base b : Nat} {v : Value} {d : RD} (h : RDisk w base b v d) (hb : Below w.heap.size w w') : RDisk w' base b v d := by
  obtain ⟨h1, h2, xs, ho, hp⟩ := h
  exact ⟨h1, (hb.block b (Array.getElem?_eq_some_iff.1 h2).1).trans h2, xs, row_on ho (fun k cur _ hh => (hb.block k (Array.getElem?_eq_some_iff.1 hh).1).trans hh), hp.kept (BytesKept.of_below hb)⟩
theorem RDisk.c0 {w : World} {base b : Nat} {v : Value} {d : RD} (h : RDisk w base b v d) : w.cell? ⟨b, 0, none⟩ = some v := by rw [cell_of_row w b 0 _ _ _ h.2.1]; rfl
theorem RDisk.c1 {w : World} {base b : Nat} {v : Value} {d : RD} (h : RDisk w base b v d) : w.cell? ⟨b, 1, none⟩ = some (.int .i64 d.fuse) := by rw [cell_of_row w b 1 _ _ _ h.2.1]; rfl
theorem RDisk.c2 {w : World} {base b : Nat} {v : Value} {d : RD} (h : RDisk w base b v d) : w.cell? ⟨b, 2, none⟩ = some (.bool d.dead) := by rw [cell_of_row w b 2 _ _ _ h.2.1]; rfl
theorem RDisk.fr {w : World} {base b : Nat} {v : Value} {d : RD} (h : RDisk w base b v d) (i : Nat) : w.frozen? ⟨b, i, none⟩ = false := Joins.unfrozen_of_block h.2.1 i
theorem RDisk.lt {w : World} {base b : Nat} {v : Value} {d : RD} (h : RDisk w base b v d) : b < w.heap.size := (Array.getElem?_eq_some_iff.1 h.2.1).1
theorem ne_types : 47 ≠ 5 ∧ 44 ≠ 5 ∧ 47 ≠ 44 := by decide
/-- a field of the disk is set: the row and the pasts lie on -/
theorem RDisk.setF {w : World} {base b : Nat} {v : Value} {d : RD} (h : RDisk w base b v d) (i : Nat) (u : Value) (d' : RD) (hs : d'.s = d.s) (hc : (#[v, .int .i64 d.fuse, .bool d.dead] : Array Value).setIfInBounds i u = #[v, .int .i64 d'.fuse, .bool d'.dead]) : RDisk (w.setCell ⟨b, i, none⟩ u) base b v d' := by
  obtain ⟨h1, h2, xs, ho, hp⟩ := h
  refine ⟨h1, by rw [Joins.block_setCell h2, hc], xs, ?_, ?_⟩
  · rw [hs]
    refine row_on ho (fun k cur _ hh => ?_)
    rw [Below.heap_setCell _ _ _ _ (fun e => by subst e; rw [h2] at hh; injection hh with hh; injection hh with _ h3; exact ne_types.2.2 h3)]
    exact hh
  · rw [hs]
    exact hp.kept (BytesKept.setCell (a := ⟨b, i, none⟩) h2 ne_types.1 u)

/-- is a step left, and taken? -/
def movesB (d : RD) : Bool := !(d.dead || d.fuse == 0)
def movesD (d : RD) : RD := if d.dead = true ∨ d.fuse = 0 then { d with dead := true } else if 0 < d.fuse then { d with fuse := d.fuse - 1 } else d

set_option maxHeartbeats 1000000 in
theorem moves_any (w : World) (base b : Nat) (v : Value) (d : RD) (h : RDisk w base b v d) (hf : -1 ≤ d.fuse ∧ d.fuse ≤ 9223372036854775807) :
    Calls Try.prog 39 #[.pointer (some ⟨b, 0, none⟩)] w fun e w' => e = .returned (.bool (movesB d)) ∧ RDisk w' base b v (movesD d) ∧ Own2 w w' b v := by
  have c1 := h.c1
  have c2 := h.c2
  have f1 := h.fr 1
  have f2 := h.fr 2
  cases hd : d.dead with
  | true =>
    rw [hd] at c2
    have e1 : movesB d = false := by simp [movesB, hd]
    have e2 : movesD d = { d with dead := true } := by simp [movesD, hd]
    have h3 : RDisk (w.setCell ⟨b, 2, none⟩ (.bool true)) base b v (movesD d) := by rw [e2]; exact h.setF 2 _ _ rfl rfl
    have H3 := Lib.hid h3
    rw [e1]
    clear h3 e1 e2 hd
    go_enter Try.func39, Try.ntmps39
    go_wp2
    go_ret
    exact ⟨rfl, H3.out, (Own2.refl w b v).setB _ rfl _⟩
  | false =>
    rw [hd] at c2
    by_cases h0 : d.fuse = 0
    · have e1 : movesB d = false := by simp [movesB, h0]
      have e2 : movesD d = { d with dead := true } := by simp [movesD, h0]
      have h3 : RDisk (w.setCell ⟨b, 2, none⟩ (.bool true)) base b v (movesD d) := by rw [e2]; exact h.setF 2 _ _ rfl rfl
      have H3 := Lib.hid h3
      rw [e1]
      rw [h0] at c1
      clear h3 e1 e2 hd h0
      go_enter Try.func39, Try.ntmps39
      go_wp2
      go_ret
      exact ⟨rfl, H3.out, (Own2.refl w b v).setB _ rfl _⟩
    · have e1 : movesB d = true := by simp [movesB, hd, h0]
      by_cases hp : 0 < d.fuse
      · have e2 : movesD d = { d with fuse := d.fuse - 1 } := by simp [movesD, hd, h0, hp]
        have h3 : RDisk (w.setCell ⟨b, 1, none⟩ (.int .i64 (d.fuse - 1))) base b v (movesD d) := by rw [e2]; exact h.setF 1 _ _ rfl rfl
        have H3 := Lib.hid h3
        rw [e1]
        have z : (d.fuse == 0) = false := by simpa using h0
        clear h3 e1 e2 hd h0
        go_enter Try.func39, Try.ntmps39
        go_wp2
        go_ret
        exact ⟨rfl, H3.out, (Own2.refl w b v).setB _ rfl _⟩
      · have e2 : movesD d = d := by simp [movesD, hd, h0, hp]
        rw [e1, e2]
        have z : (d.fuse == 0) = false := by simpa using h0
        have H := Lib.hid h
        clear e1 e2 hd h0 h
        go_enter Try.func39, Try.ntmps39
        go_wp2
        go_ret
        exact ⟨rfl, H.out, Own2.refl w b v⟩
end Go.Proofs.Ytdcfplfeagpcdaa
