/- The program's Block, of a node that may be. -/
import Derived.Test.YtoclhiaidbfheaaGreatDoorBd
set_option linter.unusedVariables false
namespace Go.Proofs.YtoclhiaidbfheaaGreatDoor
open Go.RowKit

/-- while a block is laid -/
structure LS (w wr : World) (bn rc bb ba : Nat) (nd : Array Value) (pre : List UInt8) : Prop where
  node : wr.heap[bn]? = some (.cells nd 45 (0, 0))
  res : Holds8 wr rc 151 noughts
  blk : Holds8 wr bb 151 ([0, 0, 0, 0] ++ pre ++ List.replicate (252 - pre.length) 0)
  at_ : wr.heap[ba]? = some (.cells #[.int .i64 ((4 + pre.length : Nat) : Int)] 3 (0, 0))
  bel : Below w.heap.size w wr
  n1 : bn ≠ bb
  n2 : bn ≠ ba
  n3 : rc ≠ bb
  n4 : rc ≠ ba
  n5 : bb ≠ ba
  n6 : w.heap.size ≤ bb
  n7 : w.heap.size ≤ ba
theorem LS.cell {w wr : World} {bn rc bb ba : Nat} {nd : Array Value} {pre : List UInt8} (h : LS w wr bn rc bb ba nd pre) (i : Nat) : wr.cell? ⟨bn, i, none⟩ = nd[i]? := by
  rw [cell_of_row wr bn i _ _ _ h.node]
theorem LS.lay {w wr : World} {bn rc bb ba : Nat} {nd : Array Value} {pre : List UInt8} (h : LS w wr bn rc bb ba nd pre) (k n : Nat) (h8 : k ≤ 8) (hl : pre.length + k ≤ 252) :
    Calls Tryz.prog 253 #[.int .i64 (k : Int), .int .u64 (n : Int), .pointer (some ⟨bb, 0, none⟩), .pointer (some ⟨ba, 0, none⟩)] wr fun e w' => e = .returned (.tuple #[]) ∧ LS w w' bn rc bb ba nd (pre ++ leN k n) := by
  have hb := h.blk
  have hr : List.replicate (252 - pre.length) (0 : UInt8) = List.replicate k 0 ++ List.replicate (252 - (pre ++ leN k n).length) 0 := by
    rw [List.replicate_append_replicate]
    congr 1
    simp [leN_length]; omega
  rw [hr] at hb
  have hlen : ([0, 0, 0, 0] ++ pre).length = 4 + pre.length := by simp; omega
  have ha := h.at_
  rw [← hlen] at ha
  have hc := lay_any wr bb ba ([0, 0, 0, 0] ++ pre) (List.replicate (252 - (pre ++ leN k n).length) 0) (List.replicate k 0) n (by simpa using h8) (by simp [leN_length]; omega) hb ha h.n5
  rw [List.length_replicate] at hc
  refine hc.mono fun e w' hp => ?_
  obtain ⟨he, h1, h2, h3⟩ := hp
  refine ⟨he, (h3.block _ h.n1 h.n2).trans h.node, (h3.block _ h.n3 h.n4).trans h.res, ?_, ?_, h.bel.trans (h3.below h.n6 h.n7), h.n1, h.n2, h.n3, h.n4, h.n5, h.n6, h.n7⟩
  · have e : [0, 0, 0, 0] ++ (pre ++ leN k n) ++ List.replicate (252 - (pre ++ leN k n).length) 0 = [0, 0, 0, 0] ++ pre ++ (leN k n ++ List.replicate (252 - (pre ++ leN k n).length) 0) := by simp [List.append_assoc]
    rw [e]
    exact h1
  · rw [h2, hlen, List.length_append, leN_length]
    congr 5
    omega
theorem LS.start {w w1 : World} {nd : Array Value} (hb : Below w.heap.size w w1) (hz : w.heap.size + 1 < w1.heap.size) (hg : w1.heap[w.heap.size]? = some (.cells nd 45 (0, 0))) (hr : Holds8 w1 (w.heap.size + 1) 151 noughts) :
    LS w ((w1.alloc (.cells (cells8 noughts).toArray 151)).alloc (.cells #[.int .i64 4] 3)) w.heap.size (w.heap.size + 1) w1.heap.size (w1.heap.size + 1) nd [] := by
  have h2 : ((w1.alloc (.cells (cells8 noughts).toArray 151)).alloc (.cells #[.int .i64 4] 3)).heap[w1.heap.size + 1]? = some (.cells #[.int .i64 4] 3 (0, 0)) := by
    have := heap_alloc_new (w1.alloc (.cells (cells8 noughts).toArray 151)) (.cells #[.int .i64 4] 3)
    simpa using this
  refine ⟨?_, (hr.alloc _).alloc _, ((Holds8.new w1 _ noughts _ rfl).alloc _), h2, (hb.alloc hb.size _).alloc (by have := hb.size; simp; omega) _, by omega, by omega, by omega, by omega, by omega, by omega, by omega⟩
  rw [Below.heap_alloc _ _ _ (by simp; omega), Below.heap_alloc _ _ _ (by omega)]
  exact hg

end Go.Proofs.YtoclhiaidbfheaaGreatDoor
