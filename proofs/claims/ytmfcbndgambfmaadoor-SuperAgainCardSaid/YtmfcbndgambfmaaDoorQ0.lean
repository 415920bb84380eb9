/- Sectors of any 64 bytes; a disk as the pasts of its sectors. -/
import Derived.Test.YtmfcbndgambfmaaDoorProg
import Derived.Test.YtmfcbndgambfmaaDoorMem
import Derived.Test.YtmfcbndgambfmaaDoorRow
import Derived.WalkKit
import Derived.WalkSpells
import Derived.WalkLawsBesides
import Derived.Lib.Hide
import Derived.Lib.SmallJoins
import Derived.Deep.QuietTactic
import Derived.Deep.WholeRow
import Derived.Laws.Rows
import Derived.BigQuiet
import Derived.Deep.RegionHeldLaw
import Derived.Deep.MidRow
import Derived.Maps.OwnSet
import Derived.Maps.Ext
import Derived.Maps.RangeWalk
set_option linter.unusedVariables false
namespace Go.Proofs.YtmfcbndgambfmaaDoor.Q
open Go.RowKit

/-- a sector's bytes -/
abbrev SB : Type := { l : List UInt8 // l.length = 64 }
instance : OfNat SB 0 := ⟨⟨List.replicate 64 0, by simp⟩⟩
instance : Inhabited SB := ⟨0⟩
/-- the document's disk: each sector's past, the fuse (below 0: none), is it dead? -/
structure RD where
  s : List (List SB)
  fuse : Int
  dead : Bool
/-- is a step left, and taken? -/
def movesB (d : RD) : Bool := !(d.dead || d.fuse == 0)
def movesD (d : RD) : RD := if d.dead = true ∨ d.fuse = 0 then { d with dead := true } else if 0 < d.fuse then { d with fuse := d.fuse - 1 } else d
/-- a sector of one byte, i of its places made -/
def fullN (c : UInt8) (i : Nat) : List UInt8 := List.replicate i c ++ List.replicate (64 - i) 0
def full (c : UInt8) : List UInt8 := List.replicate 64 c
theorem fullN_len (c : UInt8) (i : Nat) (h : i ≤ 64) : (fullN c i).length = 64 := by simp [fullN]; omega
theorem sector_size : (Tryd.prog.info? 64).map (·.size) = some 64 := by kernel_rfl
theorem zero_sector (w : World) : (zeroValue 64).run Tryd.prog w = .ok (.agg (cells8 (fullN 0 0)).toArray) w := by kernel_rfl
theorem size8 (l : List UInt8) : (cells8 l).toArray.size = l.length := by rw [List.size_toArray, cells8_length]
theorem row_form {w : World} {base n : Nat} {e : TypeId} {v : Value} {xs : List Value} (h : w.ownsRow base e 1 v n xs) : ∃ A c, v = .slice A n c := by
  rcases h.2 with ⟨rfl, rfl⟩ | ⟨g, cap, cur, rfl, _⟩
  · exact ⟨none, 0, rfl⟩
  · exact ⟨_, cap, rfl⟩
def moreD (d : RD) (m : Nat) : RD := { d with s := d.s ++ List.replicate m [0] }
theorem moreD_len (d : RD) (m : Nat) : (moreD d m).s.length = d.s.length + m := by simp [moreD]
def newD (n : Nat) : RD := ⟨List.replicate n [0], -1, false⟩
/-- the sectors that are open -/
def openN (d : RD) (i : Nat) : List Nat := (List.range i).filter fun k => 1 < (d.s.getD k []).length
def openL (d : RD) : List Nat := openN d d.s.length
theorem openN_yes (d : RD) (i : Nat) (h : 1 < (d.s.getD i []).length) : openN d (i + 1) = openN d i ++ [i] := by
  unfold openN
  rw [List.range_succ, List.filter_append, List.filter_cons_of_pos (by simp only [decide_eq_true_eq]; exact h)]
  rfl
theorem openN_no (d : RD) (i : Nat) (h : ¬ 1 < (d.s.getD i []).length) : openN d (i + 1) = openN d i := by
  unfold openN
  rw [List.range_succ, List.filter_append, List.filter_cons_of_neg (by simp only [decide_eq_true_eq]; exact h)]
  simp
theorem openN_le (d : RD) (i : Nat) : (openN d i).length ≤ i := by
  have := List.length_filter_le (fun k => decide (1 < (d.s.getD k []).length)) (List.range i)
  simpa [openN] using this
def ints (l : List Nat) : List Value := l.map fun k : Nat => Value.int .i64 (k : Int)
theorem int_info : (Tryd.prog.info? 3).map (fun i => (i.zero, i.size, i.bytes)) = some (some (.int .i64 0), 1, 8) := by kernel_rfl
def fuseD (d : RD) (n : Int) : RD := { d with fuse := n }
def flushD (d : RD) : RD := { d with s := d.s.map fun l => [l.getLastD 0] }
theorem movesD_s (d : RD) : (movesD d).s = d.s := by unfold movesD; split; rfl; split <;> rfl
def nums (l : List Int) : List Value := l.map fun k => Value.int .i64 k
/-- which version a pick names -/
def pickAt (p : Int) (n : Nat) : Nat := ((p.tmod (n : Int) + (n : Int)).tmod (n : Int)).toNat
theorem pickAt_lt (p : Int) (n : Nat) (h : 0 < n) : pickAt p n < n ∧ ((p.tmod (n : Int) + (n : Int)).tmod (n : Int)) = ((pickAt p n : Nat) : Int) := by
  have h1 : -(n : Int) < p.tmod (n : Int) := by
    have := Int.lt_tmod_of_pos p (show (0 : Int) < (n : Int) by omega)
    omega
  have h2 : 0 ≤ (p.tmod (n : Int) + (n : Int)).tmod (n : Int) := Int.tmod_nonneg _ (by omega)
  have h3 : (p.tmod (n : Int) + (n : Int)).tmod (n : Int) < (n : Int) := Int.tmod_lt_of_pos _ (by omega)
  unfold pickAt
  omega
def pickN (picks : List Int) (j n : Nat) : Nat := if h : j < picks.length then pickAt picks[j] n else 0
theorem pickN_lt (picks : List Int) (j n : Nat) (h : 0 < n) : pickN picks j n < n := by
  unfold pickN
  split
  · exact (pickAt_lt _ n h).1
  · exact h
/-- the sectors, the first j of the open ones settled -/
def crashS (s : List (List SB)) (l : List Nat) (picks : List Int) : Nat → List (List SB)
  | 0 => s
  | j + 1 =>
    let t := crashS s l picks j
    let past := t.getD (l.getD j 0) []
    t.set (l.getD j 0) [past.getD (pickN picks j past.length) 0]
theorem crashS_len (s : List (List SB)) (l : List Nat) (picks : List Int) (j : Nat) : (crashS s l picks j).length = s.length := by
  induction j with
  | zero => rfl
  | succ j ih => simp [crashS, ih]
theorem openL_lt (d : RD) : ∀ k ∈ openL d, k < d.s.length := by
  intro k hk
  simp only [openL, openN, List.mem_filter, List.mem_range] at hk
  exact hk.1
theorem own_int {w : World} {base n g cap : Nat} {l : List Nat} (h : w.ownsRow base 3 1 (.slice (some ⟨g, 0, none⟩) n cap) n (ints l)) (k : Nat) (hk : k < l.length) : w.cell? ⟨g, k, none⟩ = some (.int .i64 ((l[k]'hk : Nat) : Int)) := by
  have := h.cells (g := g) rfl k (.int .i64 ((l[k]'hk : Nat) : Int)) (by simp [ints, List.getElem?_eq_getElem hk])
  have ha : (⟨g, 0, none⟩ : Addr).add k = ⟨g, k, none⟩ := by
    unfold Addr.add
    by_cases hj0 : k = 0 <;> simp [hj0]
  rw [ha] at this
  exact this
theorem getD_get (t : List (List SB)) (k : Nat) (h : k < t.length) : t.getD k [] = t[k] := by simp [List.getD, h]
theorem getB_get (t : List SB) (k : Nat) (h : k < t.length) : t.getD k 0 = t[k] := by simp [List.getD, h]
def crashD (d : RD) (picks : List Int) : RD := ⟨crashS d.s (openL d) picks (openL d).length, -1, false⟩
end Go.Proofs.YtmfcbndgambfmaaDoor.Q
