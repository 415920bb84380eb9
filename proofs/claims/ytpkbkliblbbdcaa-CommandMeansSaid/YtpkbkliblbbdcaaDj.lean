/- The document's Of: what it holds while it lays. -/
import Derived.Test.YtpkbkliblbbdcaaDi
import Derived.Test.YtpkbkliblbbdcaaDf
set_option linter.unusedVariables false
namespace Go.Proofs.Ytpkbkliblbbdcaa
open Go.RowKit
set_option maxRecDepth 20000

theorem slb_ht : Try.prog.underlying 24 = some (.slice (Try.prog.elem 24)) := by kernel_rfl
theorem slb_sz (w : World) : (sizeOf (Try.prog.elem 24)).run Try.prog w = .ok 1 w := by kernel_rfl
/-- bytes behind the first one -/
theorem slice_tail (w : World) (p : Addr) (n cap : Nat) (hc : n + 1 ≤ cap) : (Instr.sliceAt 24 (.slice (some p) (n + 1) cap) (some (.int .i64 1)) none none).run Try.prog w = .ok (.slice (if cap = 1 then some p else some (p.add 1)) n (cap - 1)) w := by
  rw [run_sliceAt_slice w _ _ _ _ _ slb_ht, run_slice_l w _ _ _ _ slb_ht .i64 1 (by omega) (by omega), slb_sz]
  simp only [Result.andThen, sliced]
  simp

theorem op_cons2 (b : UInt8) (tl : List UInt8) : opOf (b :: tl) = match unpZ (((namesL (b.toNat : Int)).getD []).map shapeF) tl with
      | none => none
      | some (qs, n) => if n = tl.length ∧ mayO (laidPs (zeroO (b.toNat : Int)) ((namesL (b.toNat : Int)).getD []) qs) = true then some (laidPs (zeroO (b.toNat : Int)) ((namesL (b.toNat : Int)).getD []) qs) else none := by
  cases hN : namesL (b.toNat : Int) with
  | some L => rw [op_cons b tl hN]; rfl
  | none =>
    simp only [opOf, hN]
    show _ = if 0 = tl.length ∧ mayO (laidPs (zeroO (b.toNat : Int)) [] []) = true then _ else none
    have : mayO (laidPs (zeroO (b.toNat : Int)) [] []) = false := by
      show mayO (zeroO (b.toNat : Int)) = false
      have e : namesL (zeroO (b.toNat : Int)).k = none := hN
      simp only [mayO, e]
    rw [this, if_neg (by simp)]

/-- numbers laid fit -/
theorem laid_fit {w : OP} {c : UInt8} {p : PV} (h : w.fit) (hp : fits c p) : (laid w (c.toNat : Int) p).fit := by
  have hn : ∀ m : Nat, m < 4294967296 → toI m = (m : Int) := fun m hm => toI_nat m (by omega)
  unfold fits at hp
  by_cases hc : c = 68
  · rw [if_pos hc] at hp
    obtain ⟨d, rfl, _⟩ := hp
    subst hc
    exact h
  · rw [if_neg hc] at hp
    obtain ⟨m, rfl, hm⟩ := hp
    have hc2 : ¬ (c.toNat : Int) = 68 := fun e => hc (UInt8.toNat.inj (by show _ = 68; omega))
    obtain ⟨h1, h2, h3, h4, h5, h6⟩ := h
    unfold laid
    rw [if_neg hc2]
    have e := hn m hm
    repeat' split
    · exact ⟨show m < _ by omega, h2, h3, h4, h5, h6⟩
    · exact ⟨h1, show m < _ by omega, h3, h4, h5, h6⟩
    · exact ⟨h1, h2, h3, ⟨show -9223372036854775808 ≤ toI m by omega, show toI m ≤ _ by omega⟩, h5, h6⟩
    · exact ⟨h1, h2, h3, h4, ⟨show -9223372036854775808 ≤ toI m by omega, show toI m ≤ _ by omega⟩, h6⟩
    · exact ⟨h1, h2, h3, h4, h5, ⟨show -9223372036854775808 ≤ toI m by omega, show toI m ≤ _ by omega⟩⟩
    · exact ⟨h1, h2, h3, h4, h5, h6⟩

/-- while the document lays its values -/
structure RfI (w wr : World) (own : OP) (A' : Option Addr) (cap' : Nat) (A3 : Option Addr) (m c3 : Nat) (xs : List Value) (vals : List LVal) : Prop where
  zb : ZO wr w.heap.size
  ob : Box wr (w.heap.size + 1) own A' cap'
  bel : Below w.heap.size w wr
  shw : Shows wr w.heap.size A' own.d.length (cells8 own.d)
  capl : own.d.length ≤ cap' ∧ cap' ≤ 9223372036854775807
  row : wr.ownsRow (w.heap.size + 2) 78 260 (.slice A3 m c3) m xs
  vals_ : Vals wr w.heap.size xs vals
  fit : own.fit
  dle : own.d.length ≤ 16777216

/-- one value laid: what the row says of it, and what is stored -/
theorem RfI.set {w wr : World} {own : OP} {A' : Option Addr} {cap' m c3 : Nat} {A3 : Option Addr} {xs : List Value} {vals : List LVal} (h : RfI w wr own A' cap' A3 m c3 xs vals) (own2 : OP) (A2 : Option Addr) (c2 : Nat) (hs : Shows wr w.heap.size A2 own2.d.length (cells8 own2.d)) (hc : own2.d.length ≤ c2 ∧ c2 ≤ 9223372036854775807) (hf : own2.fit) (hd : own2.d.length ≤ 16777216) :
    RfI w (wr.setRow (w.heap.size + 1) #[.int .i64 own2.k, .int .u64 (own2.v : Int), .int .u64 (own2.t : Int), .int .i64 own2.s, .int .i64 own2.a, .int .i64 own2.c, .slice A2 own2.d.length c2]) own2 A2 c2 A3 m c3 xs vals := by
  have hB : Below w.heap.size wr (wr.setRow (w.heap.size + 1) #[.int .i64 own2.k, .int .u64 (own2.v : Int), .int .u64 (own2.t : Int), .int .i64 own2.s, .int .i64 own2.a, .int .i64 own2.c, .slice A2 own2.d.length c2]) := below_setRow (Below.refl _ _) (by omega) _
  exact ⟨(setRow_other _ _ _ _ (by omega)).trans h.zb, setRow_heap _ _ _ _ _ _ h.ob, below_setRow h.bel (by omega) _, hs.below hB, hc, own_setRow h.row (by omega) _, h.vals_.below hB, hf, hd⟩

end Go.Proofs.Ytpkbkliblbbdcaa
