/- A node whose two lists grow. -/
import Derived.Test.YtnddkpemoljhoaaGreatDoorBd
import Derived.Deep.RegionHeld3
import Derived.Deep.RegionHeldLaw
import Derived.Deep.AppendLies
import Derived.Laws.OwnMore
set_option linter.unusedVariables false
namespace Go.Proofs.YtnddkpemoljhoaaGreatDoor
open Go.RowKit

theorem nums64_snoc (l : List Nat) (x : Nat) : nums64 l ++ [.int .u64 (x : Int)] = nums64 (l ++ [x]) := by simp [nums64]
theorem grown_set (w : World) (a : Addr) (v : Value) : w.grownBy (w.setCell a v) (some a.block) := by
  have hb := (Below.refl a.block w).setCell (Nat.le_refl _) v (p := a)
  exact ⟨hb.os, hb.tape, hb.output, hb.size, fun i hi hne => Below.heap_setCell w a v i (fun e => hne (by rw [e]))⟩
structure NS (w wr : World) (base bn : Nat) (kind birth : Int) (K V : Value) (ks vs : List Nat) : Prop where
  node : wr.heap[bn]? = some (.cells #[.int .i64 kind, .int .u64 birth, K, V] 62 (0, 0))
  ok : wr.ownsRow base 22 1 K ks.length (nums64 ks)
  ov : wr.ownsRow base 22 1 V vs.length (nums64 vs)
  ap : ∀ g, K.ownBlock = some g → V.ownBlock ≠ some g
  lt : bn < base
  le : w.heap.size ≤ bn
  bs : base ≤ wr.heap.size
  bel : Below w.heap.size w wr
theorem NS.cell {w wr : World} {base bn : Nat} {kind birth : Int} {K V : Value} {ks vs : List Nat} (h : NS w wr base bn kind birth K V ks vs) (i : Nat) : wr.cell? ⟨bn, i, none⟩ = (#[.int .i64 kind, .int .u64 birth, K, V] : Array Value)[i]? := by
  rw [cell_of_row wr bn i _ _ _ h.node]
theorem NS.drewN {w wr : World} {base bn : Nat} {kind birth : Int} {K V : Value} {ks vs : List Nat} (h : NS w wr base bn kind birth K V ks vs) (n : Nat) : NS w (wr.drewN n) base bn kind birth K V ks vs :=
  ⟨h.node, h.ok, h.ov, h.ap, h.lt, h.le, h.bs, drewN_below h.bel n⟩
theorem NS.alloc1 {w wr : World} {base bn : Nat} {kind birth : Int} {K V : Value} {ks vs : List Nat} (h : NS w wr base bn kind birth K V ks vs) (o : Obj) : NS w (wr.alloc o) base bn kind birth K V ks vs :=
  ⟨(Below.heap_alloc wr o bn (lt_of_block h.node)).trans h.node, h.ok.alloc o, h.ov.alloc o, h.ap, h.lt, h.le, by have := h.bs; simp; omega, h.bel.alloc h.bel.size o⟩
/-- another block below the base is written, or made above -/
theorem NS.other {w wr w2 : World} {base bn : Nat} {kind birth : Int} {K V : Value} {ks vs : List Nat} (h : NS w wr base bn kind birth K V ks vs) (row : Nat) (hg : wr.grownBy w2 (some row)) (hr : row < base) (hrw : w.heap.size ≤ row) (hne : row ≠ bn) : NS w w2 base bn kind birth K V ks vs := by
  refine ⟨(hg.block bn (lt_of_block h.node) (fun e => hne (Option.some.inj e).symm)).trans h.node, h.ok.kept hg (.inr fun e => ?_), h.ov.kept hg (.inr fun e => ?_), h.ap, h.lt, h.le, Nat.le_trans h.bs hg.size, h.bel.grown hg h.bel.size (fun k hk => by have := Option.some.inj hk; omega)⟩
  · have := (h.ok.lt row e).1; omega
  · have := (h.ov.lt row e).1; omega
section
variable {w wr : World} {base bn : Nat} {kind birth : Int} {K V : Value} {ks vs : List Nat} (h : NS w wr base bn kind birth K V ks vs) (x : Nat) (fr : Nat × Nat) (T : TypeId)
  (g cap : Nat) (w3 : World)
include h
theorem NS.app2 (hown : w3.ownsRow base 22 1 (.slice (some ⟨g, 0, none⟩) (ks.length + 1) cap) (ks.length + 1) (nums64 ks ++ [.int .u64 (x : Int)]))
    (hgrow : (wr.alloc (.cells #[.int .u64 (x : Int)] T fr)).grownBy w3 K.ownBlock) (hat : K.ownBlock = some g ∨ g = wr.heap.size + 1) :
    w3.cell? ⟨bn, 2, none⟩ = some K ∧ w3.frozen? ⟨bn, 2, none⟩ = false ∧ NS w (w3.setCell ⟨bn, 2, none⟩ (.slice (some ⟨g, 0, none⟩) (ks.length + 1) cap)) base bn kind birth (.slice (some ⟨g, 0, none⟩) (ks.length + 1) cap) V (ks ++ [x]) vs ∧ ∀ k, k < base → k ≠ bn → (w3.setCell ⟨bn, 2, none⟩ (.slice (some ⟨g, 0, none⟩) (ks.length + 1) cap)).heap[k]? = wr.heap[k]? := by
  have hbs := h.bs
  have hbl := h.lt
  have hfar : ∀ k, k < base → w3.heap[k]? = wr.heap[k]? := fun k hk => by
    rw [hgrow.block k (by simp; omega) (fun e => by have := (h.ok.lt k e.symm).1; omega)]
    exact Below.heap_alloc _ _ _ (by omega)
  have hn3 : w3.heap[bn]? = some (.cells #[.int .i64 kind, .int .u64 birth, K, V] 62 (0, 0)) := (hfar bn hbl).trans h.node
  have hgb : base ≤ g := (hown.lt g rfl).1
  refine ⟨by rw [cell_of_row w3 bn 2 _ _ _ hn3]; rfl, by simp [World.frozen?, hn3], ⟨Joins.block_setCell hn3 _, ?_, ?_, ?_, hbl, h.le, ?_, ?_⟩, fun k hk hne => (Below.heap_setCell _ _ _ k hne).trans (hfar k hk)⟩
  · rw [← nums64_snoc]
    have := hown.kept (row := some bn) (w' := w3.setCell ⟨bn, 2, none⟩ (.slice (some ⟨g, 0, none⟩) (ks.length + 1) cap)) (grown_set _ _ _) (.inr (fun e => by have : g = bn := Option.some.inj e; omega))
    simpa using this
  · have h1 := (h.ov.alloc (.cells #[.int .u64 (x : Int)] T fr)).kept hgrow (by
      cases hv : V.ownBlock with
      | none => exact .inl rfl
      | some q => exact .inr fun e => h.ap q e.symm hv)
    exact h1.kept (row := some bn) (grown_set _ _ _) (.inr fun e => by have := (h.ov.lt bn e).1; omega)
  · intro q hq hv
    have hqg : g = q := Option.some.inj hq
    subst hqg
    rcases hat with e | e
    · exact h.ap g e hv
    · have := (h.ov.lt g hv).2; omega
  · have := hgrow.size
    simp at this ⊢
    omega
  · have hsz := h.bel.size
    have hb := (h.bel.alloc hsz (.cells #[.int .u64 (x : Int)] T fr)).grown hgrow (by simp; omega) (fun k hk => by have := (h.ok.lt k hk).1; have := h.le; omega)
    exact hb.setCell h.le _
theorem NS.app3 (hown : w3.ownsRow base 22 1 (.slice (some ⟨g, 0, none⟩) (vs.length + 1) cap) (vs.length + 1) (nums64 vs ++ [.int .u64 (x : Int)]))
    (hgrow : (wr.alloc (.cells #[.int .u64 (x : Int)] T fr)).grownBy w3 V.ownBlock) (hat : V.ownBlock = some g ∨ g = wr.heap.size + 1) :
    w3.cell? ⟨bn, 3, none⟩ = some V ∧ w3.frozen? ⟨bn, 3, none⟩ = false ∧ NS w (w3.setCell ⟨bn, 3, none⟩ (.slice (some ⟨g, 0, none⟩) (vs.length + 1) cap)) base bn kind birth K (.slice (some ⟨g, 0, none⟩) (vs.length + 1) cap) ks (vs ++ [x]) ∧ ∀ k, k < base → k ≠ bn → (w3.setCell ⟨bn, 3, none⟩ (.slice (some ⟨g, 0, none⟩) (vs.length + 1) cap)).heap[k]? = wr.heap[k]? := by
  have hbs := h.bs
  have hbl := h.lt
  have hfar : ∀ k, k < base → w3.heap[k]? = wr.heap[k]? := fun k hk => by
    rw [hgrow.block k (by simp; omega) (fun e => by have := (h.ov.lt k e.symm).1; omega)]
    exact Below.heap_alloc _ _ _ (by omega)
  have hn3 : w3.heap[bn]? = some (.cells #[.int .i64 kind, .int .u64 birth, K, V] 62 (0, 0)) := (hfar bn hbl).trans h.node
  have hgb : base ≤ g := (hown.lt g rfl).1
  refine ⟨by rw [cell_of_row w3 bn 3 _ _ _ hn3]; rfl, by simp [World.frozen?, hn3], ⟨Joins.block_setCell hn3 _, ?_, ?_, ?_, hbl, h.le, ?_, ?_⟩, fun k hk hne => (Below.heap_setCell _ _ _ k hne).trans (hfar k hk)⟩
  · have h1 := (h.ok.alloc (.cells #[.int .u64 (x : Int)] T fr)).kept hgrow (by
      cases hv : K.ownBlock with
      | none => exact .inl rfl
      | some q => exact .inr fun e => h.ap q hv e.symm)
    exact h1.kept (row := some bn) (grown_set _ _ _) (.inr fun e => by have := (h.ok.lt bn e).1; omega)
  · rw [← nums64_snoc]
    have := hown.kept (row := some bn) (w' := w3.setCell ⟨bn, 3, none⟩ (.slice (some ⟨g, 0, none⟩) (vs.length + 1) cap)) (grown_set _ _ _) (.inr (fun e => by have : g = bn := Option.some.inj e; omega))
    simpa using this
  · intro q hq hv
    have hqg : g = q := Option.some.inj hv
    subst hqg
    rcases hat with e | e
    · exact h.ap g hq e
    · have := (h.ok.lt g hq).2; omega
  · have := hgrow.size
    simp at this ⊢
    omega
  · have hsz := h.bel.size
    have hb := (h.bel.alloc hsz (.cells #[.int .u64 (x : Int)] T fr)).grown hgrow (by simp; omega) (fun k hk => by have := (h.ov.lt k hk).1; have := h.le; omega)
    exact hb.setCell h.le _
end
end Go.Proofs.YtnddkpemoljhoaaGreatDoor
