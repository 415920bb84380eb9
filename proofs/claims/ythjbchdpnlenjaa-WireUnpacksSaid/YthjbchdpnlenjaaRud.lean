/- Rows of the document's values: laws for the walk of its Unpack. -/
import Derived.Test.YthjbchdpnlenjaaRuc
import Derived.Test.YthjbchdpnlenjaaUnpk
import Derived.Test.YthjbchdpnlenjaaRefb
import Derived.Maps.AppendAt
namespace Go.Proofs.Ythjbchdpnlenjaa
open Go.RowKit

theorem val_info : (Try.prog.info? 54).map (fun i => (i.zero, i.size, i.bytes)) = some (some (.agg (lvCells lv0 none 0).toArray), 260, 304) := by kernel_rfl

/-- a slice literal of one value -/
theorem wpList_one_val {ops : Array Oper} {rest : List Oper} {o : Oper} {a : Act} {w : World} {Q : Exit → Act → World → Prop} (hg : o.guard = none) (x : Operand) (ho : o.op = .buildSlice 22 1 #[(0, x)])
    (v : LVal) (A : Option Addr) (cap : Nat) (hx : v.x.length = 256) (hv : a.eval x = .agg (lvCells v A cap).toArray)
    (h : wpList Try.prog ops Q rest (a.put o.dst (.slice (some ⟨w.heap.size, 0, none⟩) 1 1)) (w.alloc (.cells (lvCells v A cap).toArray 54))) : wpList Try.prog ops Q (o :: rest) a w := by
  obtain ⟨i0, hi, hz0, hz1, hz2⟩ := info_parts val_info
  refine wpList_buildSlice hg 22 54 1 _ ho _ i0 _ Try.underlying22 hi hz0 (by rw [hz1]; decide) (by rw [hz1]; decide) ?_ h
  rw [hz1, Array.toList_map]
  have := Great.fill_whole (s := 260) (by decide) [.agg (lvCells v A cap).toArray] ((Array.range (1 * 260)).map ((Value.agg (lvCells lv0 none 0).toArray).cells[· % (Value.agg (lvCells lv0 none 0).toArray).cells.size]!))
    (by intro u hu; simp at hu; subst hu; exact cells_sz hx A cap) (by simp)
  simp only [List.flatMap_cons, List.flatMap_nil, List.append_nil] at this
  show Instr.fill _ _ [(0, a.eval x)] = _
  rw [hv]
  simpa [Value.cells] using this

/-- one value more behind a row of the call's own -/
theorem wpList_append_val {ops : Array Oper} {rest : List Oper} {o : Oper} {a : Act} {w : World} {Q : Exit → Act → World → Prop} (hgd : o.guard = none) (s x : Operand)
    (ho : o.op = .call { callee := .builtin .append, args := #[s, x], argTypes := #[22, 22] })
    (base : Nat) (u : Value) (n : Nat) (xs : List Value) (hs : a.eval s = u) (hown : w.ownsRow base 54 260 u n xs)
    (v : LVal) (A : Option Addr) (cap : Nat) (hv : v.x.length = 256) (hx : a.eval x = .slice (some ⟨w.heap.size, 0, none⟩) 1 1)
    (hn : n ≤ 1000) (hbase : base ≤ w.heap.size)
    (h : ∀ v' w', w'.ownsRow base 54 260 v' (n + 1) (xs ++ lvCells v A cap) → Below base w w' → wpList Try.prog ops Q rest (a.put o.dst v') w') :
    wpList Try.prog ops Q (o :: rest) a (w.alloc (.cells (lvCells v A cap).toArray 54)) := by
  obtain ⟨i0, hi, hz0, hz1, hz2⟩ := info_parts val_info
  refine wpList_append_own_at (w.alloc _) hgd s x 22 ho base 54 i0 _ 260 304 Try.underlying22 hi hz0 hz1 hz2 (by exact cells_sz zeros256_length _ _) (by decide) u n xs hs (hown.alloc _)
    ⟨w.heap.size, 0, none⟩ 1 1 (lvCells v A cap) hx (by rw [lv_length hv]) ?_ (lv_one v A cap) (by unfold maxLen; omega) (by omega) (by simp; omega) ?_
  · intro j z hz
    have ha : (⟨w.heap.size, 0, none⟩ : Addr).add j = ⟨w.heap.size, j, none⟩ := by
      unfold Addr.add
      by_cases hj0 : j = 0 <;> simp [hj0]
    rw [ha, cell_of_row _ w.heap.size j _ _ (0, 0) (heap_alloc_new w _)]
    simpa using hz
  · intro v' w' h2 h3 _ _
    refine h v' w' h2 ?_
    exact (((Below.refl base w).alloc hbase _)).grown h3 (by simp; omega) (fun k hk => (hown.lt k hk).1)

theorem row_below {w w' : World} {base n size : Nat} {e : TypeId} {v : Value} {xs : List Value} (h : w.ownsRow base e size v n xs) (hb : Below w.heap.size w w') : w'.ownsRow base e size v n xs := by
  refine ⟨h.1, ?_⟩
  rcases h.2 with h2 | ⟨g, cap, cur, hv, hg, hh, hr⟩
  · exact .inl h2
  · exact .inr ⟨g, cap, cur, hv, hg, (hb.block g (Array.getElem?_eq_some_iff.1 hh).1).trans hh, hr⟩
theorem row_setRow {w : World} {base n size K : Nat} {e : TypeId} {v : Value} {xs : List Value} (h : w.ownsRow base e size v n xs) (hk : ∀ k, v.ownBlock = some k → k < K) (cs : Array Value) : (w.setRow K cs).ownsRow base e size v n xs := by
  refine ⟨h.1, ?_⟩
  rcases h.2 with h2 | ⟨g, cap, cur, hv, hg, hh, hr⟩
  · exact .inl h2
  · have : g < K := hk g (by rw [hv]; rfl)
    exact .inr ⟨g, cap, cur, hv, hg, by rw [setRow_other w K g cs (by omega)]; exact hh, hr⟩

/-- a row's cells are these values -/
def Vals (w : World) (B : Nat) (xs : List Value) (vals : List LVal) : Prop := ∀ i (h : i < vals.length), LVok w B ((xs.drop (i * 260)).take 260) vals[i]
theorem Vals.nil (w : World) (B : Nat) : Vals w B [] [] := fun i h => absurd h (by simp)
set_option maxRecDepth 4000 in
theorem Vals.snoc {w : World} {B : Nat} {xs cs : List Value} {vals : List LVal} {v : LVal} (h : Vals w B xs vals) (hl : xs.length = vals.length * 260) (hv : LVok w B cs v) : Vals w B (xs ++ cs) (vals ++ [v]) := by
  intro i hi
  have hcl := hv.length
  rcases Nat.lt_or_ge i vals.length with hlt | hge
  · have h1 := h i hlt
    rw [List.getElem_append_left hlt]
    have h2 : i * 260 + 260 ≤ xs.length := by rw [hl]; omega
    rw [List.drop_append_of_le_length (by omega), List.take_append_of_le_length (by rw [List.length_drop]; omega)]
    exact h1
  · have : i = vals.length := by simp at hi; omega
    subst this
    rw [← hl, List.drop_left, List.take_of_length_le (by omega)]
    simpa using hv
theorem Vals.vrow {w w' : World} {B n c : Nat} {A : Option Addr} {base : Nat} {xs : List Value} {vals : List LVal} (h : Vals w B xs vals) (hown : w'.ownsRow base 54 260 (.slice A n c) n xs) (hn : n = vals.length) (hb : Below B w w') (hB : B ≤ w'.heap.size) : VRow w' w'.heap.size A vals := by
  intro hp
  rcases hown.2 with ⟨_, h0⟩ | ⟨g, cap, cur, hv, hg, hh, hnc, hcm, hcs, ht⟩
  · omega
  · injection hv with h1 h2 h3
    refine ⟨⟨g, 0, none⟩, h1, (Array.getElem?_eq_some_iff.1 hh).1, fun i hi => ⟨_, ((h i hi).below hb).wide hB, fun j u hj => ?_⟩⟩
    have ha : (⟨g, 0, none⟩ : Addr).add (i * 260 + j) = ⟨g, i * 260 + j, none⟩ := by
      unfold Addr.add
      generalize i * 260 + j = m
      by_cases hj0 : m = 0 <;> simp [hj0]
    rw [List.getElem?_take] at hj
    split at hj
    · rename_i hj260
      rw [List.getElem?_drop, ← ht, List.getElem?_take] at hj
      split at hj
      · rw [ha, cell_of_row w' g _ _ _ _ hh, ← Array.getElem?_toList]
        exact hj
      · cases hj
    · cases hj
theorem told_N (n : Nat) : toldP (lvN n) = .num n := rfl
theorem told_F (b : Bool) : toldP (lvF b) = .flag b := rfl
theorem told_B (l : List UInt8) : toldP (lvB l) = .blob l := rfl
theorem told_X (l : List UInt8) : toldP (lvX l) = .block l := rfl
theorem ok_N (w : World) (B n : Nat) (h : n < 18446744073709551616) : LVok w B (lvCells (lvN n) none 0) (lvN n) := ⟨none, 0, rfl, zeros256_length, h, Shows.empty _ _ _, Nat.le_refl _, by omega⟩
theorem ok_F (w : World) (B : Nat) (b : Bool) : LVok w B (lvCells (lvF b) none 0) (lvF b) := ⟨none, 0, rfl, zeros256_length, Nat.zero_lt_succ _, Shows.empty _ _ _, Nat.le_refl _, by omega⟩
theorem ok_X (w : World) (B : Nat) (l : List UInt8) (h : l.length = 256) : LVok w B (lvCells (lvX l) none 0) (lvX l) := ⟨none, 0, rfl, h, Nat.zero_lt_succ _, Shows.empty _ _ _, Nat.le_refl _, by omega⟩
theorem ok_B {w : World} {B : Nat} {A : Option Addr} {l : List UInt8} {cap : Nat} (h : Shows w B A l.length (cells8 l)) (hc : l.length ≤ cap) (hm : cap ≤ 9223372036854775807) : LVok w B (lvCells (lvB l) A cap) (lvB l) := ⟨A, cap, rfl, zeros256_length, Nat.zero_lt_succ _, h, hc, hm⟩
end Go.Proofs.Ythjbchdpnlenjaa
