/- CountApart: an area copied, the document's too; counts that were told. -/
import Derived.Test.YtiodhihddpbadaaKt
set_option linter.unusedVariables false
namespace Go.Proofs.Ytiodhihddpbadaa
open Go.RowKit

theorem rnew_area (w w1 w2 : World) (l l2 : List Nat) (g0 q0 g1 q1 a1 k1 : Nat) (h1 : w1.ownsRow 0 3 1 (.slice (some ⟨g0, 0, none⟩) l.length q0) l.length (nz .i64 l)) (hg0 : w.heap.size ≤ g0) (hl0 : g0 < w1.heap.size) (hb1 : Below w.heap.size w w1)
    (h2 : w2.ownsRow 0 3 1 (.slice (some ⟨g1, 0, none⟩) l2.length q1) l2.length (nz .i64 l2)) (hg1 : w1.heap.size ≤ g1) (hb2 : Below w1.heap.size w1 w2) (hok : CS.ok ⟨l, l2, a1, k1⟩) :
    RX (w2.alloc (.cells #[.slice (some ⟨g0, 0, none⟩) l.length q0, .slice (some ⟨g1, 0, none⟩) l.length q1, .int .i64 (a1 : Int), .int .i64 (k1 : Int)] 41)) w2.heap.size g0 q0 g1 q1 ⟨l, l2, a1, k1⟩ ∧
    (∀ j, foot w2.heap.size g0 g1 j → w.heap.size ≤ j) ∧ Below w.heap.size w (w2.alloc (.cells #[.slice (some ⟨g0, 0, none⟩) l.length q0, .slice (some ⟨g1, 0, none⟩) l.length q1, .int .i64 (a1 : Int), .int .i64 (k1 : Int)] 41)) := by
  have hl : l2.length = l.length := hok.len
  have hs1 := hb1.size
  have hs2 := hb2.size
  have hg1l := (h2.lt g1 rfl).2
  rw [hl] at h2
  refine ⟨⟨heap_alloc_new w2 _, ?_, h2.alloc _, by omega, hok⟩, ?_, ?_⟩
  · exact (rowS_on h1 (fun k hk => by injection hk with hk; have hk' : g0 = k := hk; subst hk'; exact hb2.block _ hl0)).alloc _
  · rintro j (rfl | rfl | rfl)
    · omega
    · omega
    · omega
  · exact (hb1.trans (hb2.mono hs1)).alloc (by omega) _
/-- both copied -/
theorem pair_made {w wr wa wb wc : World} {b br : Nat} {c : CS} {F : Nat → Prop} (hP : PX wr b br c F) (hF : ∀ j, F j → w.heap.size ≤ j) (hW : Below w.heap.size w wr)
    {b2 x0 y0 x1 y1 : Nat} (hA : AX wa b2 x0 y0 x1 y1 c) (hAf : ∀ j, foot b2 x0 x1 j → wr.heap.size ≤ j) (ha : Below wr.heap.size wr wa)
    {g0 q0 g1 q1 : Nat} (h1 : wb.ownsRow 0 3 1 (.slice (some ⟨g0, 0, none⟩) c.now.length q0) c.now.length (nz .i64 c.now)) (hg0 : wa.heap.size ≤ g0) (hl0 : g0 < wb.heap.size) (hb : Below wa.heap.size wa wb)
    (h2 : wc.ownsRow 0 3 1 (.slice (some ⟨g1, 0, none⟩) c.was.length q1) c.was.length (nz .i64 c.was)) (hg1 : wb.heap.size ≤ g1) (hc : Below wb.heap.size wb wc) (hok : c.ok) :
    B2 w (wc.alloc (.cells #[.slice (some ⟨g0, 0, none⟩) c.now.length q0, .slice (some ⟨g1, 0, none⟩) c.now.length q1, .int .i64 (c.at_ : Int), .int .i64 (c.kept : Int)] 41)) b br c b2 wc.heap.size c := by
  obtain ⟨h3, h4, h5⟩ := rnew_area wa wb wc c.now c.was g0 q0 g1 q1 c.at_ c.kept h1 hg0 hl0 hb h2 hg1 hc hok
  have hs := ha.size
  have hws := hW.size
  have h6 := ha.trans (h5.mono hs)
  refine ⟨F, FP b2 x0 x1 wc.heap.size g0 g1, hP.below h6, ⟨_, _, _, _, _, _, _, _, hA.below h5, h3, fun j => Iff.rfl⟩, ?_, ?_, hW.trans (h6.mono hws)⟩
  · intro j hj hg
    have := hP.lt hj
    rcases hg with hg | hg
    · have := hAf j hg; omega
    · have := h4 j hg; omega
  · rintro j (hj | hj)
    · exact hF j hj
    · rcases hj with hj | hj
      · have := hAf j hj; omega
      · have := h4 j hj; omega
/-- two pairs, and a row that was told -/
def B3 (w wr : World) (b br : Nat) (c : CS) (b' br' : Nat) (c' : CS) (g n q : Nat) : Prop := ∃ F G xs, PX wr b br c F ∧ PX wr b' br' c' G ∧ (∀ j, F j → G j → False) ∧ (∀ j, F j ∨ G j → w.heap.size ≤ j ∧ j ≠ g) ∧ Below w.heap.size w wr ∧ wr.ownsRow 0 43 1 (.slice (some ⟨g, 0, none⟩) n q) n xs ∧ w.heap.size ≤ g
theorem B3.b2 {w wr : World} {b br b' br' g n q : Nat} {c c' : CS} (h : B3 w wr b br c b' br' c' g n q) : B2 w wr b br c b' br' c' := by
  obtain ⟨F, G, xs, h1, h2, h3, h4, h5, _⟩ := h
  exact ⟨F, G, h1, h2, h3, fun j hj => (h4 j hj).1, h5⟩
theorem B3.drew {w wr : World} {b br b' br' g n q : Nat} {c c' : CS} (h : B3 w wr b br c b' br' c' g n q) : B3 w wr.drew b br c b' br' c' g n q := by
  obtain ⟨F, G, xs, h1, h2, h3, h4, h5, h6, h7⟩ := h
  exact ⟨F, G, xs, h1.on (fun _ _ => rfl), h2.on (fun _ _ => rfl), h3, h4, h5.drew, rowS_on h6 (fun _ _ => rfl), h7⟩
theorem B3.store {w wr : World} {b br b' br' g n q : Nat} {c c' : CS} (h : B3 w wr b br c b' br' c' g n q) (i : Nat) (hi : i < n) (x : Nat) :
    (∃ u, wr.cell? ⟨g, i, none⟩ = some u) ∧ wr.frozen? ⟨g, i, none⟩ = false ∧ Hid (B3 w (wr.setCell ⟨g, i, none⟩ (.int .u16 (x : Int))) b br c b' br' c' g n q) := by
  obtain ⟨F, G, xs, h1, h2, h3, h4, h5, h6, h7⟩ := h
  have ho : ∀ j, j ≠ g → (wr.setCell ⟨g, i, none⟩ (.int .u16 (x : Int))).heap[j]? = wr.heap[j]? := fun j hj => Below.heap_setCell _ _ _ _ hj
  have hx : xs.length = n := by simpa using h6.1
  refine ⟨⟨xs[i]'(by omega), by rw [h6.cellAt i (by omega)]; simp [show i < xs.length by omega]⟩, h6.frozenAt i, ⟨F, G, _, h1.on fun j hj => ho j (h4 j (.inl hj)).2, h2.on fun j hj => ho j (h4 j (.inr hj)).2, h3, h4, h5.setCell h7 _, (h6.stored i (.int .u16 (x : Int))).1, h7⟩⟩
theorem B2.counts {w wr : World} {b br b' br' : Nat} {c c' : CS} (h : B2 w wr b br c b' br' c') :
    Calls Try.prog 13 #[.pointer (some ⟨b, 0, none⟩)] wr fun e w' => ∃ g q, e = .returned (.slice (some ⟨g, 0, none⟩) c.now.length q) ∧ Hid (B3 w w' b br c b' br' c' g c.now.length q) := by
  obtain ⟨F, G, h1, h2, h3, h4, h5⟩ := h
  have h10 := h1
  obtain ⟨g0, p0, g1, p1, x0, y0, x1, y1, hA, hR, hF⟩ := h1
  refine (counts_any wr b g0 p0 g1 p1 c hA).mono ?_
  rintro e w' ⟨g, q, rfl, ho, hg, hl, hb⟩
  have hs := h5.size
  refine ⟨g, q, rfl, F, G, _, h10.below hb, h2.below hb, h3, fun j hj => ⟨h4 j hj, ?_⟩, h5.trans (hb.mono hs), ho, by omega⟩
  rcases hj with hj | hj
  · have := h10.lt hj; omega
  · have := h2.lt hj; omega
end Go.Proofs.Ytiodhihddpbadaa
