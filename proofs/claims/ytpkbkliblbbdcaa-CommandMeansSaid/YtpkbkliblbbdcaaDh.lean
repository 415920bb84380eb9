/- The walk of Of of package command. -/
import Derived.Test.YtpkbkliblbbdcaaDg
set_option linter.unusedVariables false
namespace Go.Proofs.Ytpkbkliblbbdcaa
open Go.RowKit
set_option maxRecDepth 20000

/-- what Of hands back -/
def OOf (w : World) (r : Option OP) (en : Value → Prop) (e : Ending) (w' : World) : Prop :=
  ∃ A c u, e = .returned (.tuple #[.agg #[.int .i64 (r.getD (zeroO 0)).k, .int .u64 ((r.getD (zeroO 0)).v : Int), .int .u64 ((r.getD (zeroO 0)).t : Int), .int .i64 (r.getD (zeroO 0)).s, .int .i64 (r.getD (zeroO 0)).a, .int .i64 (r.getD (zeroO 0)).c, .slice A (r.getD (zeroO 0)).d.length c], u]) ∧ en u ∧ Hid (Shows w' w'.heap.size A (r.getD (zeroO 0)).d.length (cells8 (r.getD (zeroO 0)).d) ∧ (r.getD (zeroO 0)).d.length ≤ c ∧ c ≤ 9223372036854775807 ∧ Below w.heap.size w w')
theorem OOf.zero {w w' : World} {en : Value → Prop} {u : Value} (hu : en u) (hb : Below w.heap.size w w') : OOf w none en (.returned (.tuple #[.agg #[.int .i64 0, .int .u64 0, .int .u64 0, .int .i64 0, .int .i64 0, .int .i64 0, .slice none 0 0], u])) w' :=
  ⟨none, 0, u, rfl, hu, Shows.empty _ _ _, Nat.le_refl _, by omega, hb⟩

/-- the result's box, noughts -/
def ZO (w : World) (g : Nat) : Prop := w.heap[g]? = some (.cells #[.int .i64 0, .int .u64 0, .int .u64 0, .int .i64 0, .int .i64 0, .int .i64 0, .slice none 0 0] 26 (0, 0))
theorem ZO.cells {w : World} {g : Nat} (h : ZO w g) : (w.cell? ⟨g, 0, none⟩ = some (.int .i64 0) ∧ w.cell? ⟨g, 1, none⟩ = some (.int .u64 0) ∧ w.cell? ⟨g, 2, none⟩ = some (.int .u64 0) ∧ w.cell? ⟨g, 3, none⟩ = some (.int .i64 0) ∧ w.cell? ⟨g, 4, none⟩ = some (.int .i64 0) ∧ w.cell? ⟨g, 5, none⟩ = some (.int .i64 0) ∧ w.cell? ⟨g, 6, none⟩ = some (.slice none 0 0)) ∧ ∀ j, w.frozen? ⟨g, j, none⟩ = false :=
  ⟨⟨cell_of_row w g 0 _ _ (0, 0) h, cell_of_row w g 1 _ _ (0, 0) h, cell_of_row w g 2 _ _ (0, 0) h, cell_of_row w g 3 _ _ (0, 0) h, cell_of_row w g 4 _ _ (0, 0) h, cell_of_row w g 5 _ _ (0, 0) h, cell_of_row w g 6 _ _ (0, 0) h⟩, fun j => frozen_of_row w g j _ _ h⟩
theorem ZO.below {w w' : World} {B g : Nat} (h : ZO w g) (hb : Below B w w') (hg : g < B) : ZO w' g := (hb.block g hg).trans h

/-- while the values are laid: the result's box at w's end, the operation's behind it, the text's iterator at K -/
structure OfI (w wr : World) (own : OP) (A' : Option Addr) (cap' K : Nat) (R : ByteArray) (pos : Nat) (v : Value) (vs : List Value) (ps : List PV) : Prop where
  zb : ZO wr w.heap.size
  ob : Box wr (w.heap.size + 1) own A' cap'
  iter : wr.heap[K]? = some (.stringIter R pos)
  kb : w.heap.size + 1 < K
  bel : Below w.heap.size w wr
  row : wr.ownsRow (w.heap.size + 2) 5 1 (.slice A' own.d.length cap') own.d.length (cells8 own.d)
  vals : wr.ownsRow (w.heap.size + 2) 20 1 v ps.length vs
  all : AllOV wr (w.heap.size + 2) vs ps
  fit : own.v < 18446744073709551616 ∧ own.t < 18446744073709551616
  dle : own.d.length ≤ 16777216

theorem OfI.next {w wr : World} {own : OP} {A' : Option Addr} {cap' K pos : Nat} {R : ByteArray} {v : Value} {vs : List Value} {ps : List PV} (h : OfI w wr own A' cap' K R pos v vs ps) (q : Nat) : OfI w (wr.iterAt K R q) own A' cap' K R q v vs ps := by
  have hk := h.kb
  exact ⟨(Lib.iterAt_other _ _ _ _ _ (by omega)).trans h.zb, (Lib.iterAt_other _ _ _ _ _ (by omega)).trans h.ob, Lib.iterAt_heap wr _ R pos q h.iter, h.kb, Lib.below_iterAt h.bel (k := K) (by omega) R q, row_iterAt h.row h.iter q, row_iterAt h.vals h.iter q, h.all.kept (BytesKept.iterAt h.iter q), h.fit, h.dle⟩

theorem BytesKept.setRow {w : World} {g : Nat} {cur : Array Value} {t : TypeId} {fr : Nat × Nat} (hg : w.heap[g]? = some (.cells cur t fr)) (ht : t ≠ 5) (cs : Array Value) : BytesKept w (w.setRow g cs) := fun k c2 hk => by
  rw [setRow_other _ _ _ _ (fun e => by subst e; rw [hg] at hk; injection hk with hk; injection hk with _ h2 _; exact ht h2)]
  exact hk

/-- one value laid -/
theorem OfI.lay {w wr : World} {own : OP} {A' : Option Addr} {cap' K pos : Nat} {R : ByteArray} {v : Value} {vs : List Value} {ps : List PV} (h : OfI w wr own A' cap' K R pos v vs ps) {c : UInt8} (hx : isL (c.toNat : Int)) {u : Value} {p : PV} (hu : OV wr (w.heap.size + 2) u p) (hf : fits c p) :
    Calls Try.prog 39 #[.pointer (some ⟨w.heap.size + 1, 0, none⟩), .int .i32 (c.toNat : Int), u] wr fun e w' => e = .returned (.bool true) ∧ ∃ A2 c2, Hid (OfI w w' (laid own (c.toNat : Int) p) A2 c2 K R pos v vs ps) := by
  have hk := h.kb
  have hbk : ∀ cs, BytesKept wr (wr.setRow (w.heap.size + 1) cs) := fun cs => BytesKept.setRow h.ob (by decide) cs
  have main : ∀ (own2 : OP) (A2 : Option Addr) (c2 : Nat), wr.ownsRow (w.heap.size + 2) 5 1 (.slice A2 own2.d.length c2) own2.d.length (cells8 own2.d) → (own2.v < 18446744073709551616 ∧ own2.t < 18446744073709551616) → own2.d.length ≤ 16777216 → OfI w (wr.setRow (w.heap.size + 1) #[.int .i64 own2.k, .int .u64 (own2.v : Int), .int .u64 (own2.t : Int), .int .i64 own2.s, .int .i64 own2.a, .int .i64 own2.c, .slice A2 own2.d.length c2]) own2 A2 c2 K R pos v vs ps := fun own2 A2 c2 hr hfit hd =>
    ⟨(setRow_other _ _ _ _ (by omega)).trans h.zb, setRow_heap _ _ _ _ _ _ h.ob, (setRow_other _ _ _ _ (by omega)).trans h.iter, h.kb, below_setRow h.bel (by omega) _, own_setRow hr (by omega) _, own_setRow h.vals (by omega) _, h.all.kept (hbk _), hfit, hd⟩
  unfold fits at hf
  by_cases hc : c = 68
  · rw [if_pos hc] at hf
    obtain ⟨d, rfl, hd⟩ := hf
    subst hc
    obtain ⟨A2, c2, rfl, ho, _⟩ : ∃ A2 c2, u = .iface 24 (.slice A2 d.length c2) ∧ wr.ownsRow (w.heap.size + 2) 5 1 (.slice A2 d.length c2) d.length (cells8 d) ∧ d.length ≤ 16777216 := hu
    refine (lay_blob own.k own.v own.t own.s own.a own.c own.d A' cap' wr (w.heap.size + 1) A2 c2 d h.ob).mono ?_
    rintro e w' ⟨rfl, rfl⟩
    exact ⟨rfl, A2, c2, main (laid own 68 (.blob d)) A2 c2 ho h.fit hd⟩
  · rw [if_neg hc] at hf
    obtain ⟨m, rfl, hm⟩ := hf
    obtain ⟨rfl, hm2⟩ : u = .iface 23 (.int .u64 (m : Int)) ∧ m < 18446744073709551616 := hu
    have hc2 : ¬ (c.toNat : Int) = 68 := fun e => hc (UInt8.toNat.inj (by show _ = 68; omega))
    have hd : (laid own (c.toNat : Int) (.num m)).d = own.d := by
      unfold laid
      rw [if_neg hc2]
      repeat' split
      all_goals rfl
    refine (lay_num own.k own.v own.t own.s own.a own.c own.d A' cap' wr (w.heap.size + 1) (c.toNat : Int) ?_ m hm2 h.ob).mono ?_
    · rcases hx with e | e | e | e | e | e
      · exact .inl e
      · exact .inr (.inl e)
      · exact .inr (.inr (.inl e))
      · exact .inr (.inr (.inr (.inl e)))
      · exact .inr (.inr (.inr (.inr e)))
      · exact absurd e hc2
    rintro e w' ⟨rfl, rfl⟩
    refine ⟨rfl, A', cap', ?_⟩
    have h2 := main (laid own (c.toNat : Int) (.num m)) A' cap' (by rw [hd]; exact h.row) (laid_bounds h.fit hm2) (by rw [hd]; exact h.dle)
    have e3 : (opCells (laid ⟨own.k, own.v, own.t, own.s, own.a, own.c, own.d⟩ (c.toNat : Int) (.num m)) A' cap').toArray = #[.int .i64 (laid own (c.toNat : Int) (.num m)).k, .int .u64 ((laid own (c.toNat : Int) (.num m)).v : Int), .int .u64 ((laid own (c.toNat : Int) (.num m)).t : Int), .int .i64 (laid own (c.toNat : Int) (.num m)).s, .int .i64 (laid own (c.toNat : Int) (.num m)).a, .int .i64 (laid own (c.toNat : Int) (.num m)).c, .slice A' (laid own (c.toNat : Int) (.num m)).d.length cap'] := rfl
    rw [e3]
    exact h2

end Go.Proofs.Ytpkbkliblbbdcaa
