/- The walk of May of package command. -/
import Derived.Test.YtpkbkliblbbdcaaCi
set_option linter.unusedVariables false
namespace Go.Proofs.Ytpkbkliblbbdcaa
open Go.RowKit
set_option maxRecDepth 20000

/-- an operation's box -/
def Box (w : World) (g : Nat) (o : OP) (A : Option Addr) (cap : Nat) : Prop := w.heap[g]? = some (.cells #[.int .i64 o.k, .int .u64 (o.v : Int), .int .u64 (o.t : Int), .int .i64 o.s, .int .i64 o.a, .int .i64 o.c, .slice A o.d.length cap] 26 (0, 0))
theorem Box.below {w w' : World} {B g : Nat} {o : OP} {A : Option Addr} {cap : Nat} (h : Box w g o A cap) (hb : Below B w w') (hg : g < B) : Box w' g o A cap := (hb.block g hg).trans h

/-- the loop's own: the box that came, the one that is laid -/
structure MayI (w wr : World) (o : OP) (A : Option Addr) (cap : Nat) (R : ByteArray) (pos : Nat) (own : OP) (A' : Option Addr) (cap' : Nat) : Prop where
  box : Box wr w.heap.size o A cap
  own_ : Box wr (w.heap.size + 1) own A' cap'
  iter : wr.heap[w.heap.size + 2]? = some (.stringIter R pos)
  bel : Below w.heap.size w wr
  shw : Shows wr w.heap.size A' own.d.length (cells8 own.d)
  capl : own.d.length ≤ cap'

theorem laid_num {o own : OP} {x : Int} (hx : isL x) (h : x ≠ 68) : ∃ n, valP o x = .num n := by
  rcases hx with rfl | rfl | rfl | rfl | rfl | rfl
  · exact ⟨_, rfl⟩
  · exact ⟨_, rfl⟩
  · exact ⟨_, rfl⟩
  · exact ⟨_, rfl⟩
  · exact ⟨_, rfl⟩
  · exact absurd rfl h

/-- a value of an operation's, laid into a box -/
theorem lay_val {w : World} {B g : Nat} {o own : OP} {A' : Option Addr} {cap' : Nat} {u : Value} {x : Int} (hx : isL x) (hu : IV w B u (valP o x)) (hb : Box w g own A' cap') (hs : Shows w B A' own.d.length (cells8 own.d)) (hc : own.d.length ≤ cap') (hgB : B ≤ g) :
    Calls Try.prog 39 #[.pointer (some ⟨g, 0, none⟩), .int .i32 x, u] w fun e w' => e = .returned (.bool true) ∧ ∃ A2 c2, w' = w.setRow g #[.int .i64 (laid own x (valP o x)).k, .int .u64 ((laid own x (valP o x)).v : Int), .int .u64 ((laid own x (valP o x)).t : Int), .int .i64 (laid own x (valP o x)).s, .int .i64 (laid own x (valP o x)).a, .int .i64 (laid own x (valP o x)).c, .slice A2 (laid own x (valP o x)).d.length c2] ∧ Shows w B A2 (laid own x (valP o x)).d.length (cells8 (laid own x (valP o x)).d) ∧ (laid own x (valP o x)).d.length ≤ c2 := by
  by_cases h : x = 68
  · subst h
    obtain ⟨A2, c2, rfl, h1, h2, h3⟩ : ∃ A2 c2, u = .iface 24 (.slice A2 o.d.length c2) ∧ Shows w B A2 o.d.length (cells8 o.d) ∧ o.d.length ≤ c2 ∧ o.d.length ≤ 1073741824 := hu
    refine (lay_blob own.k own.v own.t own.s own.a own.c own.d A' cap' w g A2 c2 o.d hb).mono ?_
    rintro e w' ⟨rfl, rfl⟩
    exact ⟨rfl, A2, c2, rfl, h1, h2⟩
  · obtain ⟨n, hn⟩ := laid_num (o := o) (own := own) hx h
    rw [hn] at hu ⊢
    obtain ⟨rfl, hlt⟩ := hu
    have hd : (laid own x (.num n)).d = own.d := by
      unfold laid
      rw [if_neg h]
      repeat' split
      all_goals rfl
    refine (lay_num own.k own.v own.t own.s own.a own.c own.d A' cap' w g x ?_ n hlt hb).mono ?_
    · rcases hx with h | h | h | h | h | h
      · exact .inl h
      · exact .inr (.inl h)
      · exact .inr (.inr (.inl h))
      · exact .inr (.inr (.inr (.inl h)))
      · exact .inr (.inr (.inr (.inr h)))
      · contradiction
    rintro e w' ⟨rfl, rfl⟩
    exact ⟨rfl, A', cap', rfl, by rw [hd]; exact hs, by rw [hd]; exact hc⟩

theorem names_L {k : Int} {L : List UInt8} (h : namesL k = some L) (i : Nat) (hi : i < L.length) : isL ((L[i]'hi).toNat : Int) ∧ (L[i]'hi).toNat < 128 := by
  have := namesL_ascii h (L[i]'hi) (List.getElem_mem _)
  unfold isL
  rcases this with h | h | h | h | h | h <;> rw [h] <;> decide

end Go.Proofs.Ytpkbkliblbbdcaa
