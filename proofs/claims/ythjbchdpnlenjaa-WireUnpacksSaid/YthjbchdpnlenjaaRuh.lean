/- A slice cut at both ends, for the walk: where it lies is told by a name. -/
import Derived.Test.YthjbchdpnlenjaaRud
namespace Go.Proofs.Ythjbchdpnlenjaa
open Go.RowKit

/-- where a slice lies that is cut at its front at l -/
def cutA (p : Addr) (l cap : Nat) : Option Addr := if cap = l then some p else some (p.add l)
theorem wpList_slice_lh {ops : Array Oper} {rest : List Oper} {o : Oper} {a : Act} {w : World} {Q : Exit → Act → World → Prop} (hg : o.guard = none) (x lo hi : Operand) (ho : o.op = .slice 25 x (some lo) (some hi) none)
    (p : Addr) (L cap l h m : Nat) (zl zh : Int) (hx : a.eval x = .slice (some p) L cap) (hlo : a.eval lo = .int .i64 zl) (hhi : a.eval hi = .int .i64 zh) (el : zl = (l : Int)) (eh : zh = (h : Int)) (h1 : l ≤ h) (h2 : h ≤ cap) (hm : h - l = m)
    (k : wpList Try.prog ops Q rest (a.put o.dst (.slice (cutA p l cap) m (cap - l))) w) : wpList Try.prog ops Q (o :: rest) a w := by
  subst el
  subst eh
  have ht : Try.prog.underlying 25 = some (.slice (Try.prog.elem 25)) := by kernel_rfl
  have hsz : ∀ w, (sizeOf (Try.prog.elem 25)).run Try.prog w = .ok 1 w := fun w => by kernel_rfl
  have hr : (Instr.sliceAt 25 (.slice (some p) L cap) (some (.int .i64 (l : Int))) (some (.int .i64 (h : Int))) none).run Try.prog w = .ok (.slice (cutA p l cap) m (cap - l)) w := by
    rw [run_sliceAt_slice w _ _ _ _ _ ht, run_slice_lh w _ _ _ _ ht .i64 .i64 (l : Int) (h : Int) (by omega) (by omega) (by omega), hsz]
    simp only [Result.andThen, sliced, Int.toNat_natCast, Nat.mul_one, Option.map_some, hm, cutA]
  refine wpList_plain hg fun K hK => ?_
  unfold Oper.wp execOp
  simp only [ho, Option.map_some, Option.map_none, hx, hlo, hhi, Sem.run_bind, hr, Result.andThen_ok, Sem.run_pure]
  exact hK _ _ k
theorem cutA_shows {w : World} {B L l m cap : Nat} {p : Addr} {xs : List Value} (h : Shows w B (some p) L xs) (hl : l + m ≤ L) (hc : L ≤ cap) : Shows w B (cutA p l cap) m ((xs.drop l).take m) := by
  refine ⟨by rw [List.length_take, List.length_drop, h.len]; omega, fun hp => ?_⟩
  obtain ⟨q, hq, hb, hx⟩ := h.lies (by omega)
  injection hq with hq
  subst hq
  unfold cutA
  rw [if_neg (by omega)]
  refine ⟨p.add l, rfl, by rw [addr_block]; exact hb, fun j u hj => ?_⟩
  rw [addr_twice]
  rw [List.getElem?_take] at hj
  split at hj
  · rw [List.getElem?_drop] at hj
    exact hx _ u hj
  · cases hj
end Go.Proofs.Ythjbchdpnlenjaa
