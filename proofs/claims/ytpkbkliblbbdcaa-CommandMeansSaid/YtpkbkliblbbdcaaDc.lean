/- CommandAnswers: what lies in memory while the law runs. -/
import Derived.Test.YtpkbkliblbbdcaaDb
set_option linter.unusedVariables false
namespace Go.Proofs.Ytpkbkliblbbdcaa
open Go.RowKit
set_option maxRecDepth 20000

/-- while the copy's bytes are changed -/
structure AnsI (w wr : World) (o p : AN) (A A2 : Option Addr) (cap cap2 g8 H2 g9 : Nat) (AO : Option Addr) (cO : Nat) (AC : Option Addr) (cC : Nat) (Ab : Option Addr) (lb L : List UInt8) : Prop where
  bo : BoxA wr w.heap.size o A cap
  bp : BoxA wr (w.heap.size + 1) p A2 cap2
  b8 : BoxA wr g8 o AO cO
  b9 : BoxA wr g9 o AC cC
  bel : Below w.heap.size w wr
  own : wr.ownsRow (g8 + 1) 5 1 (.slice AO o.d.length cO) o.d.length (cells8 L)
  olt : ∀ k, (Value.slice AO o.d.length cO).ownBlock = some k → k < H2
  crow : wr.ownsRow H2 5 1 (.slice AC o.d.length cC) o.d.length (cells8 o.d)
  sb : Shows wr g8 Ab lb.length (cells8 lb)
  h8 : w.heap.size + 1 < g8
  h2 : g8 < H2
  h9 : H2 ≤ g9

theorem AnsI.len {w wr : World} {o p : AN} {A A2 AO AC Ab : Option Addr} {cap cap2 g8 H2 g9 cO cC : Nat} {lb L : List UInt8} (h : AnsI w wr o p A A2 cap cap2 g8 H2 g9 AO cO AC cC Ab lb L) : L.length = o.d.length := by
  have := h.own.1
  rw [cells8_length] at this
  omega
theorem AnsI.on {w wr w' : World} {o p : AN} {A A2 AO AC Ab : Option Addr} {cap cap2 g8 H2 g9 cO cC : Nat} {lb L : List UInt8} (h : AnsI w wr o p A A2 cap cap2 g8 H2 g9 AO cO AC cC Ab lb L) (hb : Below wr.heap.size wr w') : AnsI w w' o p A A2 cap cap2 g8 H2 g9 AO cO AC cC Ab lb L :=
  ⟨h.bo.below hb (Array.getElem?_eq_some_iff.1 h.bo).1, h.bp.below hb (Array.getElem?_eq_some_iff.1 h.bp).1, h.b8.below hb (Array.getElem?_eq_some_iff.1 h.b8).1, h.b9.below hb (Array.getElem?_eq_some_iff.1 h.b9).1, h.bel.trans (hb.mono h.bel.size), own_below h.own hb, h.olt, own_below h.crow hb, h.sb.below (hb.mono (Nat.le_of_lt (Array.getElem?_eq_some_iff.1 h.b8).1)), h.h8, h.h2, h.h9⟩
theorem AnsI.set {w wr : World} {o p : AN} {A A2 AC Ab : Option Addr} {g i : Nat} {cap cap2 g8 H2 g9 cO cC : Nat} {lb L : List UInt8} (h : AnsI w wr o p A A2 cap cap2 g8 H2 g9 (some ⟨g, 0, none⟩) cO AC cC Ab lb L) (b : UInt8) : Hid (AnsI w (wr.setCell ⟨g, i, none⟩ (.int .u8 (b.toNat : Int))) o p A A2 cap cap2 g8 H2 g9 (some ⟨g, 0, none⟩) cO AC cC Ab lb (L.set i b)) := by
  have hg1 := (h.own.lt g rfl).1
  have hg2 := h.olt g rfl
  have hB : Below (g8 + 1) wr (wr.setCell ⟨g, i, none⟩ (.int .u8 (b.toNat : Int))) := (Below.refl (g8 + 1) wr).setCell (p := ⟨g, i, none⟩) hg1 _
  have h8 := h.h8
  have h9 := h.h9
  have k9 : ∀ j, H2 ≤ j → j < wr.heap.size → (wr.setCell ⟨g, i, none⟩ (.int .u8 (b.toNat : Int))).heap[j]? = wr.heap[j]? := fun j hj hl => Below.heap_setCell _ _ _ j (by show j ≠ g; omega)
  refine ⟨h.bo.below hB (by omega), h.bp.below hB (by omega), h.b8.below hB (by omega), (k9 _ h9 (Array.getElem?_eq_some_iff.1 h.b9).1).trans h.b9, h.bel.trans (hB.mono (by omega)), ?_, h.olt, ?_, h.sb.below (hB.mono (by omega)), h8, h.h2, h9⟩
  · rw [← cells8_setv]
    exact (h.own.stored i _).1
  · refine ⟨h.crow.1, ?_⟩
    rcases h.crow.2 with hn | ⟨g', cap', cur, hv, hb', hh, rest⟩
    · exact .inl hn
    · exact .inr ⟨g', cap', cur, hv, hb', (k9 _ hb' (Array.getElem?_eq_some_iff.1 hh).1).trans hh, rest⟩

end Go.Proofs.Ytpkbkliblbbdcaa
