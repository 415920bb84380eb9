/- A node whose two lists grow. -/
import Derived.Test.YtoclhiaidbfheaaGreatDoorBd
import Derived.Deep.RegionHeld3
import Derived.Deep.RegionHeldLaw
import Derived.Deep.AppendLies
import Derived.Laws.OwnMore
set_option linter.unusedVariables false
namespace Go.Proofs.YtoclhiaidbfheaaGreatDoor
open Go.RowKit

theorem grown_set (w : World) (a : Addr) (v : Value) : w.grownBy (w.setCell a v) (some a.block) := by
  have hb := (Below.refl a.block w).setCell (Nat.le_refl _) v (p := a)
  exact ⟨hb.os, hb.tape, hb.output, hb.size, fun i hi hne => Below.heap_setCell w a v i (fun e => hne (by rw [e]))⟩
structure NS (w wr : World) (base bn : Nat) (kind birth : Int) (K V : Value) (ks vs : List Nat) : Prop where
  node : wr.heap[bn]? = some (.cells #[.int .i64 kind, .int .u64 birth, K, V] 45 (0, 0))
  ok : wr.ownsRow base 23 1 K ks.length (nums64 ks)
  ov : wr.ownsRow base 23 1 V vs.length (nums64 vs)
  ap : ∀ g, K.ownBlock = some g → V.ownBlock ≠ some g
  lt : bn < base
  le : w.heap.size ≤ bn
  bs : base ≤ wr.heap.size
  bel : Below w.heap.size w wr
theorem NS.cell {w wr : World} {base bn : Nat} {kind birth : Int} {K V : Value} {ks vs : List Nat} (h : NS w wr base bn kind birth K V ks vs) (i : Nat) : wr.cell? ⟨bn, i, none⟩ = (#[.int .i64 kind, .int .u64 birth, K, V] : Array Value)[i]? := by
  rw [cell_of_row wr bn i _ _ _ h.node]
theorem NS.drewN {w wr : World} {base bn : Nat} {kind birth : Int} {K V : Value} {ks vs : List Nat} (h : NS w wr base bn kind birth K V ks vs) (n : Nat) : NS w (wr.drewN n) base bn kind birth K V ks vs :=
  ⟨h.node, h.ok, h.ov, h.ap, h.lt, h.le, h.bs, drewN_below h.bel n⟩
/-- another block below the base is written, or made above -/
theorem NS.other {w wr w2 : World} {base bn : Nat} {kind birth : Int} {K V : Value} {ks vs : List Nat} (h : NS w wr base bn kind birth K V ks vs) (row : Nat) (hg : wr.grownBy w2 (some row)) (hr : row < base) (hrw : w.heap.size ≤ row) (hne : row ≠ bn) : NS w w2 base bn kind birth K V ks vs := by
  refine ⟨(hg.block bn (lt_of_block h.node) (fun e => hne (Option.some.inj e).symm)).trans h.node, h.ok.kept hg (.inr fun e => ?_), h.ov.kept hg (.inr fun e => ?_), h.ap, h.lt, h.le, Nat.le_trans h.bs hg.size, h.bel.grown hg h.bel.size (fun k hk => by have := Option.some.inj hk; omega)⟩
  · have := (h.ok.lt row e).1; omega
  · have := (h.ov.lt row e).1; omega
section
variable {w wr : World} {base bn : Nat} {kind birth : Int} {K V : Value} {ks vs : List Nat} (h : NS w wr base bn kind birth K V ks vs) (x : Nat) (fr : Nat × Nat) (T : TypeId)
  (g cap : Nat) (w3 : World)
include h
end
end Go.Proofs.YtoclhiaidbfheaaGreatDoor
