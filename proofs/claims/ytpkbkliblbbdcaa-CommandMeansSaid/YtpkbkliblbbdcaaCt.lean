/- The walk of the document's Pack. -/
import Derived.Test.YtpkbkliblbbdcaaCs
import Derived.Test.YtpkbkliblbbdcaaWf
import Derived.Deep.RegionHeldLaw
set_option linter.unusedVariables false
namespace Go.Proofs.Ytpkbkliblbbdcaa
open Go.RowKit
set_option maxRecDepth 20000

theorem takeN {P : Program} {ops : Array Oper} {Q : Exit → Act → World → Prop} {md : Region.Mode} {S : World → Prop} {i : Nat} {oi : Oper} {v : Value} {fuel : Nat} {listed : Array Bool} {a : Act} {w : World} (n : Nat) (hi : ops[i]? = some oi) (hd : oi.dst = some n)
    (hs : Region.noSelect ops = true) (hf : Region.free md ops listed i = true) (hr : (Region.ready md ops listed).contains i = true)
    (hQ : ∀ c a w, Q (.panic c) (a.put (some n) v) w → Q (.panic c) a w) (hy : YieldsIf P ops S oi v a) (hS : S w)
    (h : wpAnyH P md ops Q S fuel (listed.setIfInBounds i true) (a.put (some n) v) w) : wpAnyH P md ops Q S (fuel + 1) listed a w :=
  wpAnyH_take hi hs hf hr (by rw [hd]; exact hQ) hy hS (by rw [hd]; exact h)

/-- a slice literal of one value -/
theorem wp_one_val {o : Oper} {a : Act} {w : World} {K : Act → World → Prop} {Q : Exit → Act → World → Prop} (x : Operand) (ho : o.op = .buildSlice 80 1 #[(0, x)])
    (v : LVal) (A : Option Addr) (cap : Nat) (hx : v.x.length = 256) (hv : a.eval x = .agg (lvCells v A cap).toArray)
    (h : K (a.put o.dst (.slice (some ⟨w.heap.size, 0, none⟩) 1 1)) (w.alloc (.cells (lvCells v A cap).toArray 78))) : o.wp Try.prog a w K Q := by
  obtain ⟨i0, hi, hz0, hz1, hz2⟩ := info_parts val_info
  refine wp_buildSlice 80 78 1 _ ho _ i0 _ Try.underlying80 hi hz0 (by rw [hz1]; decide) (by rw [hz1]; decide) ?_ h
  rw [hz1, Array.toList_map]
  have := Great.fill_whole (s := 260) (by decide) [.agg (lvCells v A cap).toArray] ((Array.range (1 * 260)).map ((Value.agg (lvCells lv0 none 0).toArray).cells[· % (Value.agg (lvCells lv0 none 0).toArray).cells.size]!))
    (by intro u hu; simp at hu; subst hu; exact cells_sz hx A cap) (by simp)
  simp only [List.flatMap_cons, List.flatMap_nil, List.append_nil] at this
  show Instr.fill _ _ [(0, a.eval x)] = _
  rw [hv]
  simpa [Value.cells] using this

/-- one value more behind a row of the call's own -/
theorem wp_append_val {o : Oper} {a : Act} {w : World} {K : Act → World → Prop} {Q : Exit → Act → World → Prop} (s x : Operand)
    (ho : o.op = .call { callee := .builtin .append, args := #[s, x], argTypes := #[80, 80] })
    (base : Nat) (u : Value) (n : Nat) (xs : List Value) (hs : a.eval s = u) (hown : w.ownsRow base 78 260 u n xs)
    (v : LVal) (A : Option Addr) (cap : Nat) (hv : v.x.length = 256) (hx : a.eval x = .slice (some ⟨w.heap.size, 0, none⟩) 1 1)
    (hn : n ≤ 1000) (hbase : base ≤ w.heap.size)
    (h : ∀ v' w', w'.ownsRow base 78 260 v' (n + 1) (xs ++ lvCells v A cap) → Below base w w' → K (a.put o.dst v') w') :
    o.wp Try.prog a (w.alloc (.cells (lvCells v A cap).toArray 78)) K Q := by
  obtain ⟨i0, hi, hz0, hz1, hz2⟩ := info_parts val_info
  refine wp_append_own _ s x 80 ho base 78 i0 _ 260 304 Try.underlying80 hi hz0 hz1 hz2 (by exact cells_sz zeros256_length _ _) (by decide) u n xs hs (hown.alloc _)
    ⟨w.heap.size, 0, none⟩ 1 1 (lvCells v A cap) hx (by rw [lv_length hv]) ?_ (lv_one v A cap) (by unfold maxLen; omega) (by omega) (by simp; omega) ?_
  · intro j z hz
    have ha : (⟨w.heap.size, 0, none⟩ : Addr).add j = ⟨w.heap.size, j, none⟩ := by
      unfold Addr.add
      by_cases hj0 : j = 0 <;> simp [hj0]
    rw [ha, cell_of_row _ w.heap.size j _ _ (0, 0) (heap_alloc_new w _)]
    simpa using hz
  · intro v' w' h2 h3 _
    refine h v' w' h2 ?_
    exact (((Below.refl base w).alloc hbase _)).grown h3 (by simp; omega) (fun k hk => (hown.lt k hk).1)

/-- while the values are gathered -/
structure PkI (w wr : World) (o : OP) (A : Option Addr) (cap : Nat) (u : Value) (xs : List Value) (vals : List LVal) : Prop where
  box : Box wr w.heap.size o A cap
  bel : Below w.heap.size w wr
  own : wr.ownsRow (w.heap.size + 1) 78 260 u vals.length xs
  vals_ : Vals wr w.heap.size xs vals

theorem Vals.below {w w' : World} {B : Nat} {xs : List Value} {vals : List LVal} (h : Vals w B xs vals) (hb : Below B w w') : Vals w' B xs vals := fun i hi => (h i hi).below hb
theorem PkI.on {w wr w' : World} {o : OP} {A : Option Addr} {cap : Nat} {u : Value} {xs : List Value} {vals : List LVal} (h : PkI w wr o A cap u xs vals) (hb : Below wr.heap.size wr w') : PkI w w' o A cap u xs vals :=
  ⟨h.box.below hb (Array.getElem?_eq_some_iff.1 h.box).1, h.bel.trans (hb.mono h.bel.size), row_below h.own hb, h.vals_.below (hb.mono h.bel.size)⟩
theorem PkI.add {w wr w' : World} {o : OP} {A : Option Addr} {cap : Nat} {u u' : Value} {xs cs : List Value} {vals : List LVal} {v : LVal} (h : PkI w wr o A cap u xs vals) (hb : Below (w.heap.size + 1) wr w') (ho : w'.ownsRow (w.heap.size + 1) 78 260 u' (vals.length + 1) (xs ++ cs)) (hv : LVok wr w.heap.size cs v) : PkI w w' o A cap u' (xs ++ cs) (vals ++ [v]) :=
  ⟨h.box.below hb (by omega), h.bel.trans (hb.mono (by omega)), by rw [List.length_append]; exact ho, (h.vals_.snoc h.own.1 hv).below (hb.mono (by omega))⟩

/-- the values that the loop gathers -/
def gath (o : OP) (kn : Nat) (l : List UInt8) : List LVal := lvN kn :: l.map fun c => lvP (valP o (c.toNat : Int))
theorem gath_told (o : OP) (kn : Nat) (l : List UInt8) : (gath o kn l).map toldP = .num kn :: l.map fun c => valP o (c.toNat : Int) := by
  unfold gath
  rw [List.map_cons, List.map_map]
  congr 1
  exact List.map_congr_left fun c _ => told_lvP
theorem gath_snoc (o : OP) (kn : Nat) (l : List UInt8) (i : Nat) (h : i < l.length) : gath o kn (l.take (i + 1)) = gath o kn (l.take i) ++ [lvP (valP o ((l[i]'h).toNat : Int))] := by
  unfold gath
  rw [List.take_succ_eq_append_getElem h, List.map_append]
  rfl

end Go.Proofs.Ytpkbkliblbbdcaa
