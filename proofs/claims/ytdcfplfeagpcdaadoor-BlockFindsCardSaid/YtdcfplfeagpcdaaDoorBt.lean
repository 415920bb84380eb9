/- BlockFinds: what is held while it runs. -/
import Derived.Test.YtdcfplfeagpcdaaDoorBf
import Derived.Test.YtdcfplfeagpcdaaDoorBo
import Derived.Test.YtdcfplfeagpcdaaDoorBq
import Derived.Test.YtdcfplfeagpcdaaDoorBr
import Derived.Lib.SmallJoins
set_option linter.unusedVariables false
namespace Go.Proofs.YtdcfplfeagpcdaaDoor
open Go.RowKit

def inc64 (x : Nat) : Nat := (x + 1) % 18446744073709551616
theorem inc_wrap (x : Nat) : IntKind.u64.wrap ((x : Int) + 1) = ((inc64 x : Nat) : Int) := by rw [IntKind.wrap_u64]; unfold inc64; omega
theorem inc_ne (x : Nat) : inc64 x ≠ x := by unfold inc64; omega
def incTo (l : List Nat) (i : Nat) : List Nat := (l.take i).map inc64 ++ l.drop i
theorem incTo_length (l : List Nat) (i : Nat) : (incTo l i).length = l.length := by simp [incTo]; omega
theorem incTo_zero (l : List Nat) : incTo l 0 = l := by simp [incTo]
theorem split_at (l : List Nat) (i : Nat) (h : i < l.length) : ∃ a x b, l = a ++ x :: b ∧ a.length = i := ⟨l.take i, l[i], l.drop (i + 1), by simp, by simp; omega⟩
theorem incTo_mid (a b : List Nat) (x : Nat) : incTo (a ++ x :: b) a.length = a.map inc64 ++ x :: b := by simp [incTo]
theorem incTo_next (a b : List Nat) (x : Nat) : incTo (a ++ x :: b) (a.length + 1) = a.map inc64 ++ inc64 x :: b := by
  have e : a ++ x :: b = (a ++ [x]) ++ b := by simp
  have hl : (a ++ [x]).length = a.length + 1 := by simp
  rw [incTo, e, ← hl, List.take_left, List.drop_left]
  simp
theorem incTo_get (l : List Nat) (i : Nat) (h : i < l.length) : (incTo l i).getD i 0 = l.getD i 0 := by
  obtain ⟨a, x, b, rfl, rfl⟩ := split_at l i h
  rw [incTo_mid]
  simp [List.getD]
theorem incTo_set (l : List Nat) (i : Nat) (h : i < l.length) : (nums64 (incTo l i)).set i (.int .u64 ((inc64 (l.getD i 0) : Nat) : Int)) = nums64 (incTo l (i + 1)) := by
  obtain ⟨a, x, b, rfl, rfl⟩ := split_at l i h
  rw [incTo_mid, incTo_next]
  simp [nums64, List.getD]
theorem incTo_ne (l : List Nat) (h : 0 < l.length) : incTo l l.length ≠ l := by
  match l, h with
  | x :: l, _ =>
    intro e
    simp [incTo] at e
    exact inc_ne x e.1

/-- the law's own variables: the two nodes -/
structure FW (w wr : World) (nd od : Array Value) : Prop where
  n1 : wr.heap[w.heap.size]? = some (.cells nd 27 (0, 0))
  n2 : wr.heap[w.heap.size + 1]? = some (.cells od 27 (0, 0))
  bel : Below w.heap.size w wr
theorem FW.on {w wr w2 : World} {nd od : Array Value} (h : FW w wr nd od) (hb : Below wr.heap.size wr w2) : FW w w2 nd od :=
  ⟨(hb.block _ (lt_of_block h.n1)).trans h.n1, (hb.block _ (lt_of_block h.n2)).trans h.n2, h.bel.trans (hb.mono h.bel.size)⟩
theorem FW.start (w : World) (nd od : Array Value) : FW w ((w.alloc (.cells nd 27)).alloc (.cells od 27)) nd od := by
  have h2 := heap_alloc_new (w.alloc (.cells nd 27)) (.cells od 27)
  simp only [World.size_alloc] at h2
  exact ⟨heap_alloc' (heap_alloc_new w _), h2, ((Below.refl w.heap.size w).alloc (Nat.le_refl _) _).alloc (by simp) _⟩
theorem FW.ss {w wr : World} {a b c d a' b' c' d' : Value} (h : FW w wr #[a, b, c, d] #[a', b', c', d']) : (wr.cell? ⟨w.heap.size, 0, none⟩ = some a ∧ wr.cell? ⟨w.heap.size, 1, none⟩ = some b ∧ wr.cell? ⟨w.heap.size, 2, none⟩ = some c ∧ wr.cell? ⟨w.heap.size, 3, none⟩ = some d) ∧ wr.cell? ⟨w.heap.size + 1, 0, none⟩ = some a' ∧ wr.cell? ⟨w.heap.size + 1, 1, none⟩ = some b' ∧ wr.cell? ⟨w.heap.size + 1, 2, none⟩ = some c' ∧ wr.cell? ⟨w.heap.size + 1, 3, none⟩ = some d' := by
  refine ⟨⟨?_, ?_, ?_, ?_⟩, ?_, ?_, ?_, ?_⟩
  · rw [cell_of_row wr _ _ _ _ _ h.n1]; rfl
  · rw [cell_of_row wr _ _ _ _ _ h.n1]; rfl
  · rw [cell_of_row wr _ _ _ _ _ h.n1]; rfl
  · rw [cell_of_row wr _ _ _ _ _ h.n1]; rfl
  · rw [cell_of_row wr _ _ _ _ _ h.n2]; rfl
  · rw [cell_of_row wr _ _ _ _ _ h.n2]; rfl
  · rw [cell_of_row wr _ _ _ _ _ h.n2]; rfl
  · rw [cell_of_row wr _ _ _ _ _ h.n2]; rfl

/-- with the copy: two rows of its own -/
structure GS (w wr : World) (bc : Nat) (nd : Array Value) (kind birth : Int) (K V : Value) (ks vs : List Nat) : Prop where
  node : wr.heap[w.heap.size]? = some (.cells nd 27 (0, 0))
  cnode : wr.heap[bc]? = some (.cells #[.int .i64 kind, .int .u64 birth, K, V] 27 (0, 0))
  ok : wr.ownsRow (w.heap.size + 2) 24 1 K ks.length (nums64 ks)
  ov : wr.ownsRow (w.heap.size + 2) 24 1 V vs.length (nums64 vs)
  ap : ∀ g, K.ownBlock = some g → V.ownBlock ≠ some g
  kn : K.ownBlock ≠ some bc
  vn : V.ownBlock ≠ some bc
  lt : w.heap.size + 2 ≤ bc
  bel : Below w.heap.size w wr
section
variable {w wr : World} {bc : Nat} {nd : Array Value} {kind birth : Int} {K V : Value} {ks vs : List Nat}
theorem GS.on {w2 : World} (h : GS w wr bc nd kind birth K V ks vs) (hb : Below wr.heap.size wr w2) : GS w w2 bc nd kind birth K V ks vs :=
  ⟨(hb.block _ (lt_of_block h.node)).trans h.node, (hb.block _ (lt_of_block h.cnode)).trans h.cnode, own_on h.ok hb, own_on h.ov hb, h.ap, h.kn, h.vn, h.lt, h.bel.trans (hb.mono h.bel.size)⟩
theorem GS.start {w1 w2 : World} {od : Array Value} (h : FW w w1 nd od) (hb : Below w1.heap.size w1 w2) (hk : w2.ownsRow w1.heap.size 24 1 K ks.length (nums64 ks)) (hv : w2.ownsRow w1.heap.size 24 1 V vs.length (nums64 vs)) (ap : ∀ g, K.ownBlock = some g → V.ownBlock ≠ some g) :
    GS w (w2.alloc (.cells #[.int .i64 kind, .int .u64 birth, K, V] 27)) w2.heap.size nd kind birth K V ks vs := by
  have h2 := lt_of_block h.n2
  have hs := hb.size
  refine ⟨heap_alloc' ((hb.block _ (lt_of_block h.n1)).trans h.n1), heap_alloc_new w2 _, (own_low hk (by omega)).alloc _, (own_low hv (by omega)).alloc _, ap, fun e => ?_, fun e => ?_, by omega, (h.bel.trans (hb.mono h.bel.size)).alloc (by have := h.bel.size; omega) _⟩
  · have := (hk.lt _ e).2; omega
  · have := (hv.lt _ e).2; omega
theorem GS.drewN (h : GS w wr bc nd kind birth K V ks vs) (n : Nat) : GS w (wr.drewN n) bc nd kind birth K V ks vs := h.on (below_drewN' n)
theorem GS.setK {g i c : Nat} {u : Value} {ks' : List Nat} (h : GS w wr bc nd kind birth (.slice (some ⟨g, 0, none⟩) ks.length c) V ks vs) (he : (nums64 ks).set i u = nums64 ks') (hl : ks'.length = ks.length) :
    GS w (wr.setCell ⟨g, i, none⟩ u) bc nd kind birth (.slice (some ⟨g, 0, none⟩) ks.length c) V ks' vs := by
  have hg := (h.ok.lt g rfl).1
  have hs := h.ok.stored i u
  rw [he] at hs
  exact ⟨(Below.heap_setCell _ _ _ _ (by simp; omega)).trans h.node, (Below.heap_setCell _ _ _ _ (fun e => h.kn (by simp [Value.ownBlock, e]))).trans h.cnode, by rw [hl]; exact hs.1, h.ov.kept hs.2 (.inr (h.ap g rfl)), h.ap, h.kn, h.vn, h.lt, h.bel.setCell (by simp; omega) _⟩
theorem GS.setV {g i c : Nat} {u : Value} {vs' : List Nat} (h : GS w wr bc nd kind birth K (.slice (some ⟨g, 0, none⟩) vs.length c) ks vs) (he : (nums64 vs).set i u = nums64 vs') (hl : vs'.length = vs.length) :
    GS w (wr.setCell ⟨g, i, none⟩ u) bc nd kind birth K (.slice (some ⟨g, 0, none⟩) vs.length c) ks vs' := by
  have hg := (h.ov.lt g rfl).1
  have hs := h.ov.stored i u
  rw [he] at hs
  refine ⟨(Below.heap_setCell _ _ _ _ (by simp; omega)).trans h.node, (Below.heap_setCell _ _ _ _ (fun e => h.vn (by simp [Value.ownBlock, e]))).trans h.cnode, h.ok.kept hs.2 (.inr fun e => h.ap g e rfl), by rw [hl]; exact hs.1, h.ap, h.kn, h.vn, h.lt, h.bel.setCell (by simp; omega) _⟩
end
theorem GS.atK {w wr : World} {bc : Nat} {nd : Array Value} {kind birth : Int} {A : Option Addr} {V : Value} {n c : Nat} {ks vs : List Nat} (h : GS w wr bc nd kind birth (.slice A n c) V ks vs) (hn : ks.length = n) (i : Nat) (hi : i < n) :
    ∃ g, A = some ⟨g, 0, none⟩ ∧ wr.cell? ⟨g, i, none⟩ = some (.int .u64 ((ks.getD i 0 : Nat) : Int)) ∧ wr.frozen? ⟨g, i, none⟩ = false ∧
      ∀ ks' u, (nums64 ks).set i u = nums64 ks' → ks'.length = n → GS w (wr.setCell ⟨g, i, none⟩ u) bc nd kind birth (.slice (some ⟨g, 0, none⟩) n c) V ks' vs := by
  subst hn
  obtain ⟨g, cap, hv⟩ := Joins.ownsRow_form h.ok (by omega)
  injection hv with h1 h2 h3
  subst h1
  refine ⟨g, rfl, ?_, h.ok.frozenAt i, fun ks' u he hl => h.setK he hl⟩
  rw [h.ok.cellAt i (by omega), nums64_get _ i hi]
theorem GS.atV {w wr : World} {bc : Nat} {nd : Array Value} {kind birth : Int} {A : Option Addr} {K : Value} {n c : Nat} {ks vs : List Nat} (h : GS w wr bc nd kind birth K (.slice A n c) ks vs) (hn : vs.length = n) (i : Nat) (hi : i < n) :
    ∃ g, A = some ⟨g, 0, none⟩ ∧ wr.cell? ⟨g, i, none⟩ = some (.int .u64 ((vs.getD i 0 : Nat) : Int)) ∧ wr.frozen? ⟨g, i, none⟩ = false ∧
      ∀ vs' u, (nums64 vs).set i u = nums64 vs' → vs'.length = n → GS w (wr.setCell ⟨g, i, none⟩ u) bc nd kind birth K (.slice (some ⟨g, 0, none⟩) n c) ks vs' := by
  subst hn
  obtain ⟨g, cap, hv⟩ := Joins.ownsRow_form h.ov (by omega)
  injection hv with h1 h2 h3
  subst h1
  refine ⟨g, rfl, ?_, h.ov.frozenAt i, fun vs' u he hl => h.setV he hl⟩
  rw [h.ov.cellAt i (by omega), nums64_get _ i hi]
theorem GS.same {w wr : World} {bc : Nat} {nd : Array Value} {kind birth : Int} {A1 A2 : Option Addr} {c1 c2 n m : Nat} {ks vs : List Nat} (h : GS w wr bc nd kind birth (.slice A1 n c1) (.slice A2 m c2) ks vs) (hn : ks.length = n) (hm : vs.length = m) :
    Shows wr wr.heap.size A1 ks.length (nums64 ks) ∧ Shows wr wr.heap.size A2 vs.length (nums64 vs) := by
  subst hn
  subst hm
  exact ⟨Shows.owned h.ok, Shows.owned h.ov⟩
theorem find_one {l : List Nat} {key i j : Nat} (hi : belowTo l key i = true) (hi2 : i ≤ l.length) (hi3 : i < l.length → ¬ l.getD i 0 < key) (hj : belowTo l key j = true) (hj2 : j ≤ l.length) (hj3 : j < l.length → ¬ l.getD j 0 < key) : i = j := by
  have hh : ∀ {a b : Nat}, belowTo l key b = true → a < b → l.getD a 0 < key := fun {a b} h hab => by
    unfold belowTo at h
    simpa using List.all_eq_true.1 h a (by simpa using hab)
  rcases Nat.lt_trichotomy i j with h | h | h
  · exact absurd (hh hj h) (hi3 (by omega))
  · exact h
  · exact absurd (hh hi h) (hj3 (by omega))
theorem same_inc {k : Int} {b : Nat} {ks vs : List Nat} : sameND ⟨k, b, incTo ks ks.length, incTo vs vs.length⟩ ⟨k, b, ks, vs⟩ = decide (ks.length + vs.length = 0) := by
  rw [sameND_eq, decide_eq_decide]
  constructor
  · intro h
    injection h with _ _ h1 h2
    have a1 : ¬ 0 < ks.length := fun h => incTo_ne ks h h1
    have a2 : ¬ 0 < vs.length := fun h => incTo_ne vs h h2
    omega
  · intro h
    have a1 : ks = [] := List.length_eq_zero_iff.1 (by omega)
    have a2 : vs = [] := List.length_eq_zero_iff.1 (by omega)
    subst a1
    subst a2
    rfl
end Go.Proofs.YtdcfplfeagpcdaaDoor
