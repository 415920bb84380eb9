/- super's superOf: the superblock that numbers tell. -/
import Derived.Test.YtoclhiaidbfheaaGreatDoorSb
import Derived.Deep.RegionHeld3
import Derived.Deep.DeepCutAuto
import Derived.Deep.CutBlock
set_option linter.unusedVariables false
namespace Go.Proofs.YtoclhiaidbfheaaGreatDoor
open Go.RowKit

def pgN (i j v : Nat) : Nat := if j < i then v else 0
theorem super_size : (Tryz.prog.info? 144).map (·.size) = some 19 := by kernel_rfl
/-- the boxes of superOf: the numbers, the result, the superblock -/
structure OB (w W : World) (b q : Nat) (nv qv : Array Value) : Prop where
  n : W.heap[b]? = some (.cells nv 311 (0, 0))
  z : W.heap[b + 1]? = some (.cells #[.int .u64 0, .int .i64 0, .int .i64 0, .int .u32 0, .int .u32 0, .int .u32 0, .int .u32 0, .int .u32 0, .int .u32 0, .int .u32 0, .int .u32 0, .int .u32 0, .int .i64 0, .int .u64 0, .int .u64 0, .int .u64 0, .int .u64 0, .int .u64 0, .bool false] 144 (0, 0))
  s : W.heap[q]? = some (.cells qv 144 (0, 0))
  l : w.heap.size = b ∧ b + 1 < q
  bel : Below w.heap.size w W
theorem OB.set {w W : World} {b q : Nat} {nv qv qv' : Array Value} (h : OB w W b q nv qv) (i : Nat) (u : Value) (he : qv.setIfInBounds i u = qv') : OB w (W.setCell ⟨q, i, none⟩ u) b q nv qv' := by
  subst he
  have hl := h.l
  exact ⟨(Below.heap_setCell _ _ _ _ (by simp; omega)).trans h.n, (Below.heap_setCell _ _ _ _ (by simp; omega)).trans h.z, Joins.block_setCell h.s u, h.l, h.bel.setCell (by simp; omega) _⟩

set_option maxRecDepth 10000 in
set_option maxHeartbeats 4000000 in
theorem superOf_any (w : World) (n0 n1 n2 n3 n4 n5 n6 n7 n8 n9 n10 n11 n12 n13 n14 n15 n16 n17 n18 : Nat) (hb : n1 < 4294967296 ∧ n2 < 4294967296 ∧ n3 < 4294967296 ∧ n4 < 4294967296 ∧ n5 < 4294967296 ∧ n6 < 4294967296 ∧ n7 < 4294967296 ∧ n8 < 4294967296 ∧ n9 < 4294967296 ∧ n10 < 4294967296 ∧ n11 < 4294967296 ∧ n12 < 4294967296 ∧ n18 < 256) :
    Calls Tryz.prog 231 #[.agg #[.int .u64 (n0 : Int), .int .u64 (n1 : Int), .int .u64 (n2 : Int), .int .u64 (n3 : Int), .int .u64 (n4 : Int), .int .u64 (n5 : Int), .int .u64 (n6 : Int), .int .u64 (n7 : Int), .int .u64 (n8 : Int), .int .u64 (n9 : Int), .int .u64 (n10 : Int), .int .u64 (n11 : Int), .int .u64 (n12 : Int), .int .u64 (n13 : Int), .int .u64 (n14 : Int), .int .u64 (n15 : Int), .int .u64 (n16 : Int), .int .u64 (n17 : Int), .int .u64 (n18 : Int)]] w fun e w' => e = .returned (.agg #[.int .u64 (n0 : Int), .int .i64 (n1 : Int), .int .i64 (n2 : Int), .int .u32 (n3 : Int), .int .u32 (n4 : Int), .int .u32 (n5 : Int), .int .u32 (n6 : Int), .int .u32 (n7 : Int), .int .u32 (n8 : Int), .int .u32 (n9 : Int), .int .u32 (n10 : Int), .int .u32 (n11 : Int), .int .i64 (n12 : Int), .int .u64 (n13 : Int), .int .u64 (n14 : Int), .int .u64 (n15 : Int), .int .u64 (n16 : Int), .int .u64 (n17 : Int), .bool (decide (n18 = 1))]) ∧ Below w.heap.size w w' := by
  have hw1 : IntKind.i64.wrap (n1 : Int) = (n1 : Int) := by rw [IntKind.wrap_i64]; omega
  have hw2 : IntKind.i64.wrap (n2 : Int) = (n2 : Int) := by rw [IntKind.wrap_i64]; omega
  have hw12 : IntKind.i64.wrap (n12 : Int) = (n12 : Int) := by rw [IntKind.wrap_i64]; omega
  have hw3 : IntKind.u32.wrap (n3 : Int) = (n3 : Int) := by rw [IntKind.wrap_u32]; omega
  have hw4 : IntKind.u32.wrap (n4 : Int) = (n4 : Int) := by rw [IntKind.wrap_u32]; omega
  have hw5 : IntKind.u32.wrap (n5 : Int) = (n5 : Int) := by rw [IntKind.wrap_u32]; omega
  have hw6 : IntKind.u32.wrap (n6 : Int) = (n6 : Int) := by rw [IntKind.wrap_u32]; omega
  have hw7 : IntKind.u32.wrap (n7 : Int) = (n7 : Int) := by rw [IntKind.wrap_u32]; omega
  have hw8 : IntKind.u32.wrap (n8 : Int) = (n8 : Int) := by rw [IntKind.wrap_u32]; omega
  have hw9 : IntKind.u32.wrap (n9 : Int) = (n9 : Int) := by rw [IntKind.wrap_u32]; omega
  have hw10 : IntKind.u32.wrap (n10 : Int) = (n10 : Int) := by rw [IntKind.wrap_u32]; omega
  have hw11 : IntKind.u32.wrap (n11 : Int) = (n11 : Int) := by rw [IntKind.wrap_u32]; omega
  clear hb
  go_enter Tryz.func231, Tryz.ntmps231
  go_upto_region 1 with fail
  have H0 : Hid (((w.alloc (.cells #[.int .u64 (n0 : Int), .int .u64 (n1 : Int), .int .u64 (n2 : Int), .int .u64 (n3 : Int), .int .u64 (n4 : Int), .int .u64 (n5 : Int), .int .u64 (n6 : Int), .int .u64 (n7 : Int), .int .u64 (n8 : Int), .int .u64 (n9 : Int), .int .u64 (n10 : Int), .int .u64 (n11 : Int), .int .u64 (n12 : Int), .int .u64 (n13 : Int), .int .u64 (n14 : Int), .int .u64 (n15 : Int), .int .u64 (n16 : Int), .int .u64 (n17 : Int), .int .u64 (n18 : Int)] 311)).alloc (.cells #[.int .u64 0, .int .i64 0, .int .i64 0, .int .u32 0, .int .u32 0, .int .u32 0, .int .u32 0, .int .u32 0, .int .u32 0, .int .u32 0, .int .u32 0, .int .u32 0, .int .i64 0, .int .u64 0, .int .u64 0, .int .u64 0, .int .u64 0, .int .u64 0, .bool false] 144)).heap[w.heap.size]? = some (.cells #[.int .u64 (n0 : Int), .int .u64 (n1 : Int), .int .u64 (n2 : Int), .int .u64 (n3 : Int), .int .u64 (n4 : Int), .int .u64 (n5 : Int), .int .u64 (n6 : Int), .int .u64 (n7 : Int), .int .u64 (n8 : Int), .int .u64 (n9 : Int), .int .u64 (n10 : Int), .int .u64 (n11 : Int), .int .u64 (n12 : Int), .int .u64 (n13 : Int), .int .u64 (n14 : Int), .int .u64 (n15 : Int), .int .u64 (n16 : Int), .int .u64 (n17 : Int), .int .u64 (n18 : Int)] 311 (0, 0)) ∧ ((w.alloc (.cells #[.int .u64 (n0 : Int), .int .u64 (n1 : Int), .int .u64 (n2 : Int), .int .u64 (n3 : Int), .int .u64 (n4 : Int), .int .u64 (n5 : Int), .int .u64 (n6 : Int), .int .u64 (n7 : Int), .int .u64 (n8 : Int), .int .u64 (n9 : Int), .int .u64 (n10 : Int), .int .u64 (n11 : Int), .int .u64 (n12 : Int), .int .u64 (n13 : Int), .int .u64 (n14 : Int), .int .u64 (n15 : Int), .int .u64 (n16 : Int), .int .u64 (n17 : Int), .int .u64 (n18 : Int)] 311)).alloc (.cells #[.int .u64 0, .int .i64 0, .int .i64 0, .int .u32 0, .int .u32 0, .int .u32 0, .int .u32 0, .int .u32 0, .int .u32 0, .int .u32 0, .int .u32 0, .int .u32 0, .int .i64 0, .int .u64 0, .int .u64 0, .int .u64 0, .int .u64 0, .int .u64 0, .bool false] 144)).heap[w.heap.size + 1]? = some (.cells #[.int .u64 0, .int .i64 0, .int .i64 0, .int .u32 0, .int .u32 0, .int .u32 0, .int .u32 0, .int .u32 0, .int .u32 0, .int .u32 0, .int .u32 0, .int .u32 0, .int .i64 0, .int .u64 0, .int .u64 0, .int .u64 0, .int .u64 0, .int .u64 0, .bool false] 144 (0, 0)) ∧ Below w.heap.size w ((w.alloc (.cells #[.int .u64 (n0 : Int), .int .u64 (n1 : Int), .int .u64 (n2 : Int), .int .u64 (n3 : Int), .int .u64 (n4 : Int), .int .u64 (n5 : Int), .int .u64 (n6 : Int), .int .u64 (n7 : Int), .int .u64 (n8 : Int), .int .u64 (n9 : Int), .int .u64 (n10 : Int), .int .u64 (n11 : Int), .int .u64 (n12 : Int), .int .u64 (n13 : Int), .int .u64 (n14 : Int), .int .u64 (n15 : Int), .int .u64 (n16 : Int), .int .u64 (n17 : Int), .int .u64 (n18 : Int)] 311)).alloc (.cells #[.int .u64 0, .int .i64 0, .int .i64 0, .int .u32 0, .int .u32 0, .int .u32 0, .int .u32 0, .int .u32 0, .int .u32 0, .int .u32 0, .int .u32 0, .int .u32 0, .int .i64 0, .int .u64 0, .int .u64 0, .int .u64 0, .int .u64 0, .int .u64 0, .bool false] 144)) ∧ ((w.alloc (.cells #[.int .u64 (n0 : Int), .int .u64 (n1 : Int), .int .u64 (n2 : Int), .int .u64 (n3 : Int), .int .u64 (n4 : Int), .int .u64 (n5 : Int), .int .u64 (n6 : Int), .int .u64 (n7 : Int), .int .u64 (n8 : Int), .int .u64 (n9 : Int), .int .u64 (n10 : Int), .int .u64 (n11 : Int), .int .u64 (n12 : Int), .int .u64 (n13 : Int), .int .u64 (n14 : Int), .int .u64 (n15 : Int), .int .u64 (n16 : Int), .int .u64 (n17 : Int), .int .u64 (n18 : Int)] 311)).alloc (.cells #[.int .u64 0, .int .i64 0, .int .i64 0, .int .u32 0, .int .u32 0, .int .u32 0, .int .u32 0, .int .u32 0, .int .u32 0, .int .u32 0, .int .u32 0, .int .u32 0, .int .i64 0, .int .u64 0, .int .u64 0, .int .u64 0, .int .u64 0, .int .u64 0, .bool false] 144)).heap.size = w.heap.size + 2) := by
    have h2 := heap_alloc_new (w.alloc (.cells #[.int .u64 (n0 : Int), .int .u64 (n1 : Int), .int .u64 (n2 : Int), .int .u64 (n3 : Int), .int .u64 (n4 : Int), .int .u64 (n5 : Int), .int .u64 (n6 : Int), .int .u64 (n7 : Int), .int .u64 (n8 : Int), .int .u64 (n9 : Int), .int .u64 (n10 : Int), .int .u64 (n11 : Int), .int .u64 (n12 : Int), .int .u64 (n13 : Int), .int .u64 (n14 : Int), .int .u64 (n15 : Int), .int .u64 (n16 : Int), .int .u64 (n17 : Int), .int .u64 (n18 : Int)] 311)) (.cells #[.int .u64 0, .int .i64 0, .int .i64 0, .int .u32 0, .int .u32 0, .int .u32 0, .int .u32 0, .int .u32 0, .int .u32 0, .int .u32 0, .int .u32 0, .int .u32 0, .int .i64 0, .int .u64 0, .int .u64 0, .int .u64 0, .int .u64 0, .int .u64 0, .bool false] 144)
    simp only [World.size_alloc] at h2
    exact ⟨heap_alloc' (heap_alloc_new w _), h2, ((Below.refl w.heap.size w).alloc (Nat.le_refl _) _).alloc (by simp) _, by simp⟩
  generalize (w.alloc (.cells #[.int .u64 (n0 : Int), .int .u64 (n1 : Int), .int .u64 (n2 : Int), .int .u64 (n3 : Int), .int .u64 (n4 : Int), .int .u64 (n5 : Int), .int .u64 (n6 : Int), .int .u64 (n7 : Int), .int .u64 (n8 : Int), .int .u64 (n9 : Int), .int .u64 (n10 : Int), .int .u64 (n11 : Int), .int .u64 (n12 : Int), .int .u64 (n13 : Int), .int .u64 (n14 : Int), .int .u64 (n15 : Int), .int .u64 (n16 : Int), .int .u64 (n17 : Int), .int .u64 (n18 : Int)] 311)).alloc (.cells #[.int .u64 0, .int .i64 0, .int .i64 0, .int .u32 0, .int .u32 0, .int .u32 0, .int .u32 0, .int .u32 0, .int .u32 0, .int .u32 0, .int .u32 0, .int .u32 0, .int .i64 0, .int .u64 0, .int .u64 0, .int .u64 0, .int .u64 0, .int .u64 0, .bool false] 144) = w2 at *
  generalize hbq : w.heap.size = b at *
  have c0 : w2.cell? ⟨b, 0, none⟩ = some (.int .u64 (n0 : Int)) := by rw [cell_of_row w2 b 0 _ _ _ H0.out.1]; rfl
  have c1 : w2.cell? ⟨b, 1, none⟩ = some (.int .u64 (n1 : Int)) := by rw [cell_of_row w2 b 1 _ _ _ H0.out.1]; rfl
  have c2 : w2.cell? ⟨b, 2, none⟩ = some (.int .u64 (n2 : Int)) := by rw [cell_of_row w2 b 2 _ _ _ H0.out.1]; rfl
  have HQ : Hid (OB w (w2.alloc (.cells #[.int .u64 (n0 : Int), .int .i64 (n1 : Int), .int .i64 (n2 : Int), .int .u32 0, .int .u32 0, .int .u32 0, .int .u32 0, .int .u32 0, .int .u32 0, .int .u32 0, .int .u32 0, .int .u32 0, .int .i64 0, .int .u64 0, .int .u64 0, .int .u64 0, .int .u64 0, .int .u64 0, .bool false] 144)) b w2.heap.size #[.int .u64 (n0 : Int), .int .u64 (n1 : Int), .int .u64 (n2 : Int), .int .u64 (n3 : Int), .int .u64 (n4 : Int), .int .u64 (n5 : Int), .int .u64 (n6 : Int), .int .u64 (n7 : Int), .int .u64 (n8 : Int), .int .u64 (n9 : Int), .int .u64 (n10 : Int), .int .u64 (n11 : Int), .int .u64 (n12 : Int), .int .u64 (n13 : Int), .int .u64 (n14 : Int), .int .u64 (n15 : Int), .int .u64 (n16 : Int), .int .u64 (n17 : Int), .int .u64 (n18 : Int)] #[.int .u64 (n0 : Int), .int .i64 (n1 : Int), .int .i64 (n2 : Int), .int .u32 0, .int .u32 0, .int .u32 0, .int .u32 0, .int .u32 0, .int .u32 0, .int .u32 0, .int .u32 0, .int .u32 0, .int .i64 0, .int .u64 0, .int .u64 0, .int .u64 0, .int .u64 0, .int .u64 0, .bool false]) := ⟨heap_alloc' H0.out.1, heap_alloc' H0.out.2.1, heap_alloc_new w2 _, ⟨hbq, by have := H0.out.2.2.2; omega⟩, by rw [hbq]; exact H0.out.2.2.1.alloc (by have := H0.out.2.2.2; omega) _⟩
  go_upto_block 0 with (first
    | (refine wpList_store_row rfl 144 (.tmp 3) (.tmp 13) rfl w2.heap.size #[.int .u64 (n0 : Int), .int .i64 (n1 : Int), .int .i64 (n2 : Int), .int .u32 0, .int .u32 0, .int .u32 0, .int .u32 0, .int .u32 0, .int .u32 0, .int .u32 0, .int .u32 0, .int .u32 0, .int .i64 0, .int .u64 0, .int .u64 0, .int .u64 0, .int .u64 0, .int .u64 0, .bool false] rfl rfl 144 #[.int .u64 0, .int .i64 0, .int .i64 0, .int .u32 0, .int .u32 0, .int .u32 0, .int .u32 0, .int .u32 0, .int .u32 0, .int .u32 0, .int .u32 0, .int .u32 0, .int .i64 0, .int .u64 0, .int .u64 0, .int .u64 0, .int .u64 0, .int .u64 0, .bool false] (heap_alloc_new w2 _) super_size rfl (by simp [Value.oneCell']) ?_; rw [World.setRow_alloc_new])
    | fail)
  clear c0 c1 c2 H0
  generalize w2.alloc (.cells #[.int .u64 (n0 : Int), .int .i64 (n1 : Int), .int .i64 (n2 : Int), .int .u32 0, .int .u32 0, .int .u32 0, .int .u32 0, .int .u32 0, .int .u32 0, .int .u32 0, .int .u32 0, .int .u32 0, .int .i64 0, .int .u64 0, .int .u64 0, .int .u64 0, .int .u64 0, .int .u64 0, .bool false] 144) = w3 at *
  generalize w2.heap.size = q at *
  go_wp2_with fail
  go_loopw [14, 4] (fun j x wr => ∃ i : Nat, i ≤ 6 ∧ j = .int .i64 (i : Int) ∧ Hid (OB w wr b q #[.int .u64 (n0 : Int), .int .u64 (n1 : Int), .int .u64 (n2 : Int), .int .u64 (n3 : Int), .int .u64 (n4 : Int), .int .u64 (n5 : Int), .int .u64 (n6 : Int), .int .u64 (n7 : Int), .int .u64 (n8 : Int), .int .u64 (n9 : Int), .int .u64 (n10 : Int), .int .u64 (n11 : Int), .int .u64 (n12 : Int), .int .u64 (n13 : Int), .int .u64 (n14 : Int), .int .u64 (n15 : Int), .int .u64 (n16 : Int), .int .u64 (n17 : Int), .int .u64 (n18 : Int)] #[.int .u64 (n0 : Int), .int .i64 (n1 : Int), .int .i64 (n2 : Int), .int .u32 ((pgN i 0 n3 : Nat) : Int), .int .u32 ((pgN i 1 n4 : Nat) : Int), .int .u32 ((pgN i 2 n5 : Nat) : Int), .int .u32 ((pgN i 3 n6 : Nat) : Int), .int .u32 ((pgN i 4 n7 : Nat) : Int), .int .u32 ((pgN i 5 n8 : Nat) : Int), .int .u32 0, .int .u32 0, .int .u32 0, .int .i64 0, .int .u64 0, .int .u64 0, .int .u64 0, .int .u64 0, .int .u64 0, .bool false])) (fun j _ _ => 6 - (intOf j).toNat)
  case atStart => exact ⟨0, by omega, rfl, HQ⟩
  case round =>
    obtain ⟨i, hi, rfl, HR⟩ := hrel
    rename_i wr
    by_cases h6 : i = 6
    · subst h6
      have HR6 : Hid (OB w wr b q #[.int .u64 (n0 : Int), .int .u64 (n1 : Int), .int .u64 (n2 : Int), .int .u64 (n3 : Int), .int .u64 (n4 : Int), .int .u64 (n5 : Int), .int .u64 (n6 : Int), .int .u64 (n7 : Int), .int .u64 (n8 : Int), .int .u64 (n9 : Int), .int .u64 (n10 : Int), .int .u64 (n11 : Int), .int .u64 (n12 : Int), .int .u64 (n13 : Int), .int .u64 (n14 : Int), .int .u64 (n15 : Int), .int .u64 (n16 : Int), .int .u64 (n17 : Int), .int .u64 (n18 : Int)] #[.int .u64 (n0 : Int), .int .i64 (n1 : Int), .int .i64 (n2 : Int), .int .u32 (n3 : Int), .int .u32 (n4 : Int), .int .u32 (n5 : Int), .int .u32 (n6 : Int), .int .u32 (n7 : Int), .int .u32 (n8 : Int), .int .u32 0, .int .u32 0, .int .u32 0, .int .i64 0, .int .u64 0, .int .u64 0, .int .u64 0, .int .u64 0, .int .u64 0, .bool false]) := HR
      clear HR HQ
      go_upto_region 7 with fail
      refine wp_region_noPanic ?_
      refine wp_region_held_drew (S := fun W => ∃ qv, OB w W b q #[.int .u64 (n0 : Int), .int .u64 (n1 : Int), .int .u64 (n2 : Int), .int .u64 (n3 : Int), .int .u64 (n4 : Int), .int .u64 (n5 : Int), .int .u64 (n6 : Int), .int .u64 (n7 : Int), .int .u64 (n8 : Int), .int .u64 (n9 : Int), .int .u64 (n10 : Int), .int .u64 (n11 : Int), .int .u64 (n12 : Int), .int .u64 (n13 : Int), .int .u64 (n14 : Int), .int .u64 (n15 : Int), .int .u64 (n16 : Int), .int .u64 (n17 : Int), .int .u64 (n18 : Int)] qv) (by kernel_rfl) (⟨_, HR6.out.n, HR6.out.z, HR6.out.s, HR6.out.l, HR6.out.bel.drew⟩) (fun hHeld => ?_)
      refine takeN (i := 0) (oi := _) (v := .pointer (some ⟨b, 9, none⟩)) 26 rfl rfl (by kernel_rfl) (by kernel_rfl) (by kernel_rfl) (fun _ _ _ h => h) (Or.inl ⟨by rfl, fun w hSw => by go_simp⟩) hHeld ?_
      try simp only [Act.put, List.setIfInBounds_toArray, List.set_cons_zero, List.set_cons_succ]
      refine takeN (i := 1) (oi := _) (v := .int .u64 (n9 : Int)) 27 rfl rfl (by kernel_rfl) (by kernel_rfl) (by kernel_rfl) (fun _ _ _ h => h) (Or.inl ⟨by rfl, fun w hSw => by obtain ⟨qv, hO⟩ := hSw; have f9 := cell_of_row w b 9 _ _ _ hO.n; go_simp⟩) hHeld ?_
      try simp only [Act.put, List.setIfInBounds_toArray, List.set_cons_zero, List.set_cons_succ]
      refine takeN (i := 2) (oi := _) (v := .int .u32 (n9 : Int)) 28 rfl rfl (by kernel_rfl) (by kernel_rfl) (by kernel_rfl) (fun _ _ _ h => h) (Or.inl ⟨by rfl, fun w hSw => by go_simp⟩) hHeld ?_
      try simp only [Act.put, List.setIfInBounds_toArray, List.set_cons_zero, List.set_cons_succ]
      refine takeN (i := 3) (oi := _) (v := .pointer (some ⟨b, 10, none⟩)) 29 rfl rfl (by kernel_rfl) (by kernel_rfl) (by kernel_rfl) (fun _ _ _ h => h) (Or.inl ⟨by rfl, fun w hSw => by go_simp⟩) hHeld ?_
      try simp only [Act.put, List.setIfInBounds_toArray, List.set_cons_zero, List.set_cons_succ]
      refine takeN (i := 4) (oi := _) (v := .int .u64 (n10 : Int)) 30 rfl rfl (by kernel_rfl) (by kernel_rfl) (by kernel_rfl) (fun _ _ _ h => h) (Or.inl ⟨by rfl, fun w hSw => by obtain ⟨qv, hO⟩ := hSw; have f10 := cell_of_row w b 10 _ _ _ hO.n; go_simp⟩) hHeld ?_
      try simp only [Act.put, List.setIfInBounds_toArray, List.set_cons_zero, List.set_cons_succ]
      refine takeN (i := 5) (oi := _) (v := .int .u32 (n10 : Int)) 31 rfl rfl (by kernel_rfl) (by kernel_rfl) (by kernel_rfl) (fun _ _ _ h => h) (Or.inl ⟨by rfl, fun w hSw => by go_simp⟩) hHeld ?_
      try simp only [Act.put, List.setIfInBounds_toArray, List.set_cons_zero, List.set_cons_succ]
      refine takeN (i := 6) (oi := _) (v := .pointer (some ⟨b, 11, none⟩)) 32 rfl rfl (by kernel_rfl) (by kernel_rfl) (by kernel_rfl) (fun _ _ _ h => h) (Or.inl ⟨by rfl, fun w hSw => by go_simp⟩) hHeld ?_
      try simp only [Act.put, List.setIfInBounds_toArray, List.set_cons_zero, List.set_cons_succ]
      refine takeN (i := 7) (oi := _) (v := .int .u64 (n11 : Int)) 33 rfl rfl (by kernel_rfl) (by kernel_rfl) (by kernel_rfl) (fun _ _ _ h => h) (Or.inl ⟨by rfl, fun w hSw => by obtain ⟨qv, hO⟩ := hSw; have f11 := cell_of_row w b 11 _ _ _ hO.n; go_simp⟩) hHeld ?_
      try simp only [Act.put, List.setIfInBounds_toArray, List.set_cons_zero, List.set_cons_succ]
      refine takeN (i := 8) (oi := _) (v := .int .u32 (n11 : Int)) 34 rfl rfl (by kernel_rfl) (by kernel_rfl) (by kernel_rfl) (fun _ _ _ h => h) (Or.inl ⟨by rfl, fun w hSw => by go_simp⟩) hHeld ?_
      try simp only [Act.put, List.setIfInBounds_toArray, List.set_cons_zero, List.set_cons_succ]
      refine takeN (i := 9) (oi := _) (v := .pointer (some ⟨b, 12, none⟩)) 35 rfl rfl (by kernel_rfl) (by kernel_rfl) (by kernel_rfl) (fun _ _ _ h => h) (Or.inl ⟨by rfl, fun w hSw => by go_simp⟩) hHeld ?_
      try simp only [Act.put, List.setIfInBounds_toArray, List.set_cons_zero, List.set_cons_succ]
      refine takeN (i := 10) (oi := _) (v := .int .u64 (n12 : Int)) 36 rfl rfl (by kernel_rfl) (by kernel_rfl) (by kernel_rfl) (fun _ _ _ h => h) (Or.inl ⟨by rfl, fun w hSw => by obtain ⟨qv, hO⟩ := hSw; have f12 := cell_of_row w b 12 _ _ _ hO.n; go_simp⟩) hHeld ?_
      try simp only [Act.put, List.setIfInBounds_toArray, List.set_cons_zero, List.set_cons_succ]
      refine takeN (i := 11) (oi := _) (v := .int .i64 (n12 : Int)) 37 rfl rfl (by kernel_rfl) (by kernel_rfl) (by kernel_rfl) (fun _ _ _ h => h) (Or.inl ⟨by rfl, fun w hSw => by go_simp⟩) hHeld ?_
      try simp only [Act.put, List.setIfInBounds_toArray, List.set_cons_zero, List.set_cons_succ]
      have HO0 : OB w wr.drew b q #[.int .u64 (n0 : Int), .int .u64 (n1 : Int), .int .u64 (n2 : Int), .int .u64 (n3 : Int), .int .u64 (n4 : Int), .int .u64 (n5 : Int), .int .u64 (n6 : Int), .int .u64 (n7 : Int), .int .u64 (n8 : Int), .int .u64 (n9 : Int), .int .u64 (n10 : Int), .int .u64 (n11 : Int), .int .u64 (n12 : Int), .int .u64 (n13 : Int), .int .u64 (n14 : Int), .int .u64 (n15 : Int), .int .u64 (n16 : Int), .int .u64 (n17 : Int), .int .u64 (n18 : Int)] #[.int .u64 (n0 : Int), .int .i64 (n1 : Int), .int .i64 (n2 : Int), .int .u32 (n3 : Int), .int .u32 (n4 : Int), .int .u32 (n5 : Int), .int .u32 (n6 : Int), .int .u32 (n7 : Int), .int .u32 (n8 : Int), .int .u32 0, .int .u32 0, .int .u32 0, .int .i64 0, .int .u64 0, .int .u64 0, .int .u64 0, .int .u64 0, .int .u64 0, .bool false] := ⟨HR6.out.n, HR6.out.z, HR6.out.s, HR6.out.l, HR6.out.bel.drew⟩
      clear HR6
      generalize wr.drew = w0 at *
      refine takeN (i := 12) (oi := _) (v := .pointer (some ⟨q, 9, none⟩)) 38 rfl rfl (by kernel_rfl) (by kernel_rfl) (by kernel_rfl) (fun _ _ _ h => h) (Or.inl ⟨by rfl, fun w hSw => by go_simp⟩) hHeld ?_
      try simp only [Act.put, List.setIfInBounds_toArray, List.set_cons_zero, List.set_cons_succ]
      have c1 : w0.cell? ⟨q, 9, none⟩ = some (.int .u32 0) := by rw [cell_of_row w0 q 9 _ _ _ HO0.s]; rfl
      have c2 : w0.frozen? ⟨q, 9, none⟩ = false := Joins.unfrozen_of_block HO0.s 9
      refine wpAnyH_ready (rs := [13]) (by kernel_rfl) (by simp) ?_
      refine AllReadyH.cons rfl (fun K hK => ?_) AllReadyH.nil
      go_simp
      have HO1 : OB w (w0.setCell ⟨q, 9, none⟩ (.int .u32 (n9 : Int))) b q #[.int .u64 (n0 : Int), .int .u64 (n1 : Int), .int .u64 (n2 : Int), .int .u64 (n3 : Int), .int .u64 (n4 : Int), .int .u64 (n5 : Int), .int .u64 (n6 : Int), .int .u64 (n7 : Int), .int .u64 (n8 : Int), .int .u64 (n9 : Int), .int .u64 (n10 : Int), .int .u64 (n11 : Int), .int .u64 (n12 : Int), .int .u64 (n13 : Int), .int .u64 (n14 : Int), .int .u64 (n15 : Int), .int .u64 (n16 : Int), .int .u64 (n17 : Int), .int .u64 (n18 : Int)] #[.int .u64 (n0 : Int), .int .i64 (n1 : Int), .int .i64 (n2 : Int), .int .u32 (n3 : Int), .int .u32 (n4 : Int), .int .u32 (n5 : Int), .int .u32 (n6 : Int), .int .u32 (n7 : Int), .int .u32 (n8 : Int), .int .u32 (n9 : Int), .int .u32 0, .int .u32 0, .int .i64 0, .int .u64 0, .int .u64 0, .int .u64 0, .int .u64 0, .int .u64 0, .bool false] := HO0.set 9 _ rfl
      refine hK.out _ _ ⟨_, HO1⟩ (fun hHeld => ?_)
      clear hK K c1 c2 HO0
      try simp only [Act.put, List.setIfInBounds_toArray, List.set_cons_zero, List.set_cons_succ]
      generalize w0.setCell ⟨q, 9, none⟩ (.int .u32 (n9 : Int)) = w1 at *
      refine takeN (i := 14) (oi := _) (v := .pointer (some ⟨q, 10, none⟩)) 39 rfl rfl (by kernel_rfl) (by kernel_rfl) (by kernel_rfl) (fun _ _ _ h => h) (Or.inl ⟨by rfl, fun w hSw => by go_simp⟩) hHeld ?_
      try simp only [Act.put, List.setIfInBounds_toArray, List.set_cons_zero, List.set_cons_succ]
      have c1 : w1.cell? ⟨q, 10, none⟩ = some (.int .u32 0) := by rw [cell_of_row w1 q 10 _ _ _ HO1.s]; rfl
      have c2 : w1.frozen? ⟨q, 10, none⟩ = false := Joins.unfrozen_of_block HO1.s 10
      refine wpAnyH_ready (rs := [15]) (by kernel_rfl) (by simp) ?_
      refine AllReadyH.cons rfl (fun K hK => ?_) AllReadyH.nil
      go_simp
      have HO2 : OB w (w1.setCell ⟨q, 10, none⟩ (.int .u32 (n10 : Int))) b q #[.int .u64 (n0 : Int), .int .u64 (n1 : Int), .int .u64 (n2 : Int), .int .u64 (n3 : Int), .int .u64 (n4 : Int), .int .u64 (n5 : Int), .int .u64 (n6 : Int), .int .u64 (n7 : Int), .int .u64 (n8 : Int), .int .u64 (n9 : Int), .int .u64 (n10 : Int), .int .u64 (n11 : Int), .int .u64 (n12 : Int), .int .u64 (n13 : Int), .int .u64 (n14 : Int), .int .u64 (n15 : Int), .int .u64 (n16 : Int), .int .u64 (n17 : Int), .int .u64 (n18 : Int)] #[.int .u64 (n0 : Int), .int .i64 (n1 : Int), .int .i64 (n2 : Int), .int .u32 (n3 : Int), .int .u32 (n4 : Int), .int .u32 (n5 : Int), .int .u32 (n6 : Int), .int .u32 (n7 : Int), .int .u32 (n8 : Int), .int .u32 (n9 : Int), .int .u32 (n10 : Int), .int .u32 0, .int .i64 0, .int .u64 0, .int .u64 0, .int .u64 0, .int .u64 0, .int .u64 0, .bool false] := HO1.set 10 _ rfl
      refine hK.out _ _ ⟨_, HO2⟩ (fun hHeld => ?_)
      clear hK K c1 c2 HO1
      try simp only [Act.put, List.setIfInBounds_toArray, List.set_cons_zero, List.set_cons_succ]
      generalize w1.setCell ⟨q, 10, none⟩ (.int .u32 (n10 : Int)) = w2 at *
      refine takeN (i := 16) (oi := _) (v := .pointer (some ⟨q, 11, none⟩)) 40 rfl rfl (by kernel_rfl) (by kernel_rfl) (by kernel_rfl) (fun _ _ _ h => h) (Or.inl ⟨by rfl, fun w hSw => by go_simp⟩) hHeld ?_
      try simp only [Act.put, List.setIfInBounds_toArray, List.set_cons_zero, List.set_cons_succ]
      have c1 : w2.cell? ⟨q, 11, none⟩ = some (.int .u32 0) := by rw [cell_of_row w2 q 11 _ _ _ HO2.s]; rfl
      have c2 : w2.frozen? ⟨q, 11, none⟩ = false := Joins.unfrozen_of_block HO2.s 11
      refine wpAnyH_ready (rs := [17]) (by kernel_rfl) (by simp) ?_
      refine AllReadyH.cons rfl (fun K hK => ?_) AllReadyH.nil
      go_simp
      have HO3 : OB w (w2.setCell ⟨q, 11, none⟩ (.int .u32 (n11 : Int))) b q #[.int .u64 (n0 : Int), .int .u64 (n1 : Int), .int .u64 (n2 : Int), .int .u64 (n3 : Int), .int .u64 (n4 : Int), .int .u64 (n5 : Int), .int .u64 (n6 : Int), .int .u64 (n7 : Int), .int .u64 (n8 : Int), .int .u64 (n9 : Int), .int .u64 (n10 : Int), .int .u64 (n11 : Int), .int .u64 (n12 : Int), .int .u64 (n13 : Int), .int .u64 (n14 : Int), .int .u64 (n15 : Int), .int .u64 (n16 : Int), .int .u64 (n17 : Int), .int .u64 (n18 : Int)] #[.int .u64 (n0 : Int), .int .i64 (n1 : Int), .int .i64 (n2 : Int), .int .u32 (n3 : Int), .int .u32 (n4 : Int), .int .u32 (n5 : Int), .int .u32 (n6 : Int), .int .u32 (n7 : Int), .int .u32 (n8 : Int), .int .u32 (n9 : Int), .int .u32 (n10 : Int), .int .u32 (n11 : Int), .int .i64 0, .int .u64 0, .int .u64 0, .int .u64 0, .int .u64 0, .int .u64 0, .bool false] := HO2.set 11 _ rfl
      refine hK.out _ _ ⟨_, HO3⟩ (fun hHeld => ?_)
      clear hK K c1 c2 HO2
      try simp only [Act.put, List.setIfInBounds_toArray, List.set_cons_zero, List.set_cons_succ]
      generalize w2.setCell ⟨q, 11, none⟩ (.int .u32 (n11 : Int)) = w3 at *
      refine takeN (i := 18) (oi := _) (v := .pointer (some ⟨q, 12, none⟩)) 41 rfl rfl (by kernel_rfl) (by kernel_rfl) (by kernel_rfl) (fun _ _ _ h => h) (Or.inl ⟨by rfl, fun w hSw => by go_simp⟩) hHeld ?_
      try simp only [Act.put, List.setIfInBounds_toArray, List.set_cons_zero, List.set_cons_succ]
      have c1 : w3.cell? ⟨q, 12, none⟩ = some (.int .i64 0) := by rw [cell_of_row w3 q 12 _ _ _ HO3.s]; rfl
      have c2 : w3.frozen? ⟨q, 12, none⟩ = false := Joins.unfrozen_of_block HO3.s 12
      refine wpAnyH_ready (rs := [19]) (by kernel_rfl) (by simp) ?_
      refine AllReadyH.cons rfl (fun K hK => ?_) AllReadyH.nil
      go_simp
      have HO4 : OB w (w3.setCell ⟨q, 12, none⟩ (.int .i64 (n12 : Int))) b q #[.int .u64 (n0 : Int), .int .u64 (n1 : Int), .int .u64 (n2 : Int), .int .u64 (n3 : Int), .int .u64 (n4 : Int), .int .u64 (n5 : Int), .int .u64 (n6 : Int), .int .u64 (n7 : Int), .int .u64 (n8 : Int), .int .u64 (n9 : Int), .int .u64 (n10 : Int), .int .u64 (n11 : Int), .int .u64 (n12 : Int), .int .u64 (n13 : Int), .int .u64 (n14 : Int), .int .u64 (n15 : Int), .int .u64 (n16 : Int), .int .u64 (n17 : Int), .int .u64 (n18 : Int)] #[.int .u64 (n0 : Int), .int .i64 (n1 : Int), .int .i64 (n2 : Int), .int .u32 (n3 : Int), .int .u32 (n4 : Int), .int .u32 (n5 : Int), .int .u32 (n6 : Int), .int .u32 (n7 : Int), .int .u32 (n8 : Int), .int .u32 (n9 : Int), .int .u32 (n10 : Int), .int .u32 (n11 : Int), .int .i64 (n12 : Int), .int .u64 0, .int .u64 0, .int .u64 0, .int .u64 0, .int .u64 0, .bool false] := HO3.set 12 _ rfl
      refine hK.out _ _ ⟨_, HO4⟩ (fun hHeld => ?_)
      clear hK K c1 c2 HO3
      try simp only [Act.put, List.setIfInBounds_toArray, List.set_cons_zero, List.set_cons_succ]
      generalize w3.setCell ⟨q, 12, none⟩ (.int .i64 (n12 : Int)) = w4 at *
      refine wpAnyH_done (by kernel_rfl) ?_ _
      refine NoPanic.normal ?_
      have e13 : w4.cell? ⟨b, 13, none⟩ = some (.int .u64 (n13 : Int)) := by rw [cell_of_row w4 b 13 _ _ _ HO4.n]; rfl
      have e14 : w4.cell? ⟨b, 14, none⟩ = some (.int .u64 (n14 : Int)) := by rw [cell_of_row w4 b 14 _ _ _ HO4.n]; rfl
      have e15 : w4.cell? ⟨b, 15, none⟩ = some (.int .u64 (n15 : Int)) := by rw [cell_of_row w4 b 15 _ _ _ HO4.n]; rfl
      have e16 : w4.cell? ⟨b, 16, none⟩ = some (.int .u64 (n16 : Int)) := by rw [cell_of_row w4 b 16 _ _ _ HO4.n]; rfl
      have e17 : w4.cell? ⟨b, 17, none⟩ = some (.int .u64 (n17 : Int)) := by rw [cell_of_row w4 b 17 _ _ _ HO4.n]; rfl
      have e18 : w4.cell? ⟨b, 18, none⟩ = some (.int .u64 (n18 : Int)) := by rw [cell_of_row w4 b 18 _ _ _ HO4.n]; rfl
      have g13 : w4.cell? ⟨q, 13, none⟩ = some (.int .u64 0) := by rw [cell_of_row w4 q 13 _ _ _ HO4.s]; rfl
      have k13 : w4.frozen? ⟨q, 13, none⟩ = false := Joins.unfrozen_of_block HO4.s 13
      have g14 : w4.cell? ⟨q, 14, none⟩ = some (.int .u64 0) := by rw [cell_of_row w4 q 14 _ _ _ HO4.s]; rfl
      have k14 : w4.frozen? ⟨q, 14, none⟩ = false := Joins.unfrozen_of_block HO4.s 14
      have g15 : w4.cell? ⟨q, 15, none⟩ = some (.int .u64 0) := by rw [cell_of_row w4 q 15 _ _ _ HO4.s]; rfl
      have k15 : w4.frozen? ⟨q, 15, none⟩ = false := Joins.unfrozen_of_block HO4.s 15
      have g16 : w4.cell? ⟨q, 16, none⟩ = some (.int .u64 0) := by rw [cell_of_row w4 q 16 _ _ _ HO4.s]; rfl
      have k16 : w4.frozen? ⟨q, 16, none⟩ = false := Joins.unfrozen_of_block HO4.s 16
      have g17 : w4.cell? ⟨q, 17, none⟩ = some (.int .u64 0) := by rw [cell_of_row w4 q 17 _ _ _ HO4.s]; rfl
      have k17 : w4.frozen? ⟨q, 17, none⟩ = false := Joins.unfrozen_of_block HO4.s 17
      have g18 : w4.cell? ⟨q, 18, none⟩ = some (.bool false) := by rw [cell_of_row w4 q 18 _ _ _ HO4.s]; rfl
      have k18 : w4.frozen? ⟨q, 18, none⟩ = false := Joins.unfrozen_of_block HO4.s 18
      have h18 : ((n18 : Int) == 1) = decide (n18 = 1) := by rw [Bool.eq_iff_iff]; simp only [beq_iff_eq, decide_eq_true_eq]; omega
      have HOX : Hid (OB w ((((((w4.setCell ⟨q, 13, none⟩ (.int .u64 (n13 : Int))).setCell ⟨q, 14, none⟩ (.int .u64 (n14 : Int))).setCell ⟨q, 15, none⟩ (.int .u64 (n15 : Int))).setCell ⟨q, 16, none⟩ (.int .u64 (n16 : Int))).setCell ⟨q, 17, none⟩ (.int .u64 (n17 : Int))).setCell ⟨q, 18, none⟩ (.bool (decide (n18 = 1)))) b q #[.int .u64 (n0 : Int), .int .u64 (n1 : Int), .int .u64 (n2 : Int), .int .u64 (n3 : Int), .int .u64 (n4 : Int), .int .u64 (n5 : Int), .int .u64 (n6 : Int), .int .u64 (n7 : Int), .int .u64 (n8 : Int), .int .u64 (n9 : Int), .int .u64 (n10 : Int), .int .u64 (n11 : Int), .int .u64 (n12 : Int), .int .u64 (n13 : Int), .int .u64 (n14 : Int), .int .u64 (n15 : Int), .int .u64 (n16 : Int), .int .u64 (n17 : Int), .int .u64 (n18 : Int)] #[.int .u64 (n0 : Int), .int .i64 (n1 : Int), .int .i64 (n2 : Int), .int .u32 (n3 : Int), .int .u32 (n4 : Int), .int .u32 (n5 : Int), .int .u32 (n6 : Int), .int .u32 (n7 : Int), .int .u32 (n8 : Int), .int .u32 (n9 : Int), .int .u32 (n10 : Int), .int .u32 (n11 : Int), .int .i64 (n12 : Int), .int .u64 (n13 : Int), .int .u64 (n14 : Int), .int .u64 (n15 : Int), .int .u64 (n16 : Int), .int .u64 (n17 : Int), .bool (decide (n18 = 1))]) := ((((((HO4.set 13 (.int .u64 (n13 : Int)) rfl).set 14 (.int .u64 (n14 : Int)) rfl).set 15 (.int .u64 (n15 : Int)) rfl).set 16 (.int .u64 (n16 : Int)) rfl).set 17 (.int .u64 (n17 : Int)) rfl).set 18 (.bool (decide (n18 = 1))) rfl)
      clear HO4
      go_upto_region 9 with fail
      clear e13 g13 k13 e14 g14 k14 e15 g15 k15 e16 g16 k16 e17 g17 k17 e18 g18 k18
      generalize ((((((w4.setCell ⟨q, 13, none⟩ (.int .u64 (n13 : Int))).setCell ⟨q, 14, none⟩ (.int .u64 (n14 : Int))).setCell ⟨q, 15, none⟩ (.int .u64 (n15 : Int))).setCell ⟨q, 16, none⟩ (.int .u64 (n16 : Int))).setCell ⟨q, 17, none⟩ (.int .u64 (n17 : Int))).setCell ⟨q, 18, none⟩ (.bool (decide (n18 = 1)))) = w5 at *
      have hlq := HOX.out.l
      go_wp2_with (first
        | refine wpList_load_row rfl 144 (.tmp 3) rfl q rfl 144 #[.int .u64 (n0 : Int), .int .i64 (n1 : Int), .int .i64 (n2 : Int), .int .u32 (n3 : Int), .int .u32 (n4 : Int), .int .u32 (n5 : Int), .int .u32 (n6 : Int), .int .u32 (n7 : Int), .int .u32 (n8 : Int), .int .u32 (n9 : Int), .int .u32 (n10 : Int), .int .u32 (n11 : Int), .int .i64 (n12 : Int), .int .u64 (n13 : Int), .int .u64 (n14 : Int), .int .u64 (n15 : Int), .int .u64 (n16 : Int), .int .u64 (n17 : Int), .bool (decide (n18 = 1))] (0, 0) _ HOX.out.s Tryz.underlying144 rfl super_size ?_
        | refine wpList_store_row rfl 144 (.tmp 2) (.tmp 57) rfl (b + 1) #[.int .u64 (n0 : Int), .int .i64 (n1 : Int), .int .i64 (n2 : Int), .int .u32 (n3 : Int), .int .u32 (n4 : Int), .int .u32 (n5 : Int), .int .u32 (n6 : Int), .int .u32 (n7 : Int), .int .u32 (n8 : Int), .int .u32 (n9 : Int), .int .u32 (n10 : Int), .int .u32 (n11 : Int), .int .i64 (n12 : Int), .int .u64 (n13 : Int), .int .u64 (n14 : Int), .int .u64 (n15 : Int), .int .u64 (n16 : Int), .int .u64 (n17 : Int), .bool (decide (n18 = 1))] rfl rfl 144 #[.int .u64 0, .int .i64 0, .int .i64 0, .int .u32 0, .int .u32 0, .int .u32 0, .int .u32 0, .int .u32 0, .int .u32 0, .int .u32 0, .int .u32 0, .int .u32 0, .int .i64 0, .int .u64 0, .int .u64 0, .int .u64 0, .int .u64 0, .int .u64 0, .bool false] HOX.out.z super_size rfl (by simp [Value.oneCell']) ?_
        | fail)
      exact bodyPost_ret (results_cell_row rfl _ _ (b + 1) 144 #[.int .u64 (n0 : Int), .int .i64 (n1 : Int), .int .i64 (n2 : Int), .int .u32 (n3 : Int), .int .u32 (n4 : Int), .int .u32 (n5 : Int), .int .u32 (n6 : Int), .int .u32 (n7 : Int), .int .u32 (n8 : Int), .int .u32 (n9 : Int), .int .u32 (n10 : Int), .int .u32 (n11 : Int), .int .i64 (n12 : Int), .int .u64 (n13 : Int), .int .u64 (n14 : Int), .int .u64 (n15 : Int), .int .u64 (n16 : Int), .int .u64 (n17 : Int), .bool (decide (n18 = 1))] (0, 0) _ rfl (setRow_heap _ _ _ _ _ _ HOX.out.z) Tryz.underlying144 rfl super_size) rfl ⟨rfl, below_setRow HOX.out.bel (by omega) _⟩
    · have hlt : i < 6 := by omega
      obtain rfl | rfl | rfl | rfl | rfl | rfl : i = 0 ∨ i = 1 ∨ i = 2 ∨ i = 3 ∨ i = 4 ∨ i = 5 := by omega
      · have c0 : wr.cell? ⟨b, 3, none⟩ = some (.int .u64 (n3 : Int)) := by rw [cell_of_row wr b 3 _ _ _ HR.out.n]; rfl
        have c1 : wr.cell? ⟨q, 3, none⟩ = some (.int .u32 ((pgN 0 0 n3 : Nat) : Int)) := by rw [cell_of_row wr q 3 _ _ _ HR.out.s]; rfl
        have c2 : wr.frozen? ⟨q, 3, none⟩ = false := Joins.unfrozen_of_block HR.out.s 3
        have HS : Hid (OB w (wr.setCell ⟨q, 3, none⟩ (.int .u32 (n3 : Int))) b q #[.int .u64 (n0 : Int), .int .u64 (n1 : Int), .int .u64 (n2 : Int), .int .u64 (n3 : Int), .int .u64 (n4 : Int), .int .u64 (n5 : Int), .int .u64 (n6 : Int), .int .u64 (n7 : Int), .int .u64 (n8 : Int), .int .u64 (n9 : Int), .int .u64 (n10 : Int), .int .u64 (n11 : Int), .int .u64 (n12 : Int), .int .u64 (n13 : Int), .int .u64 (n14 : Int), .int .u64 (n15 : Int), .int .u64 (n16 : Int), .int .u64 (n17 : Int), .int .u64 (n18 : Int)] #[.int .u64 (n0 : Int), .int .i64 (n1 : Int), .int .i64 (n2 : Int), .int .u32 ((pgN 1 0 n3 : Nat) : Int), .int .u32 ((pgN 1 1 n4 : Nat) : Int), .int .u32 ((pgN 1 2 n5 : Nat) : Int), .int .u32 ((pgN 1 3 n6 : Nat) : Int), .int .u32 ((pgN 1 4 n7 : Nat) : Int), .int .u32 ((pgN 1 5 n8 : Nat) : Int), .int .u32 0, .int .u32 0, .int .u32 0, .int .i64 0, .int .u64 0, .int .u64 0, .int .u64 0, .int .u64 0, .int .u64 0, .bool false]) := HR.out.set 3 _ rfl
        clear HR HQ
        go_wp2_with fail
        go_roundw
        case rel => exact ⟨1, by omega, by go_num, HS⟩
        case measure => simp [intOf]
      · have c0 : wr.cell? ⟨b, 4, none⟩ = some (.int .u64 (n4 : Int)) := by rw [cell_of_row wr b 4 _ _ _ HR.out.n]; rfl
        have c1 : wr.cell? ⟨q, 4, none⟩ = some (.int .u32 ((pgN 1 1 n4 : Nat) : Int)) := by rw [cell_of_row wr q 4 _ _ _ HR.out.s]; rfl
        have c2 : wr.frozen? ⟨q, 4, none⟩ = false := Joins.unfrozen_of_block HR.out.s 4
        have HS : Hid (OB w (wr.setCell ⟨q, 4, none⟩ (.int .u32 (n4 : Int))) b q #[.int .u64 (n0 : Int), .int .u64 (n1 : Int), .int .u64 (n2 : Int), .int .u64 (n3 : Int), .int .u64 (n4 : Int), .int .u64 (n5 : Int), .int .u64 (n6 : Int), .int .u64 (n7 : Int), .int .u64 (n8 : Int), .int .u64 (n9 : Int), .int .u64 (n10 : Int), .int .u64 (n11 : Int), .int .u64 (n12 : Int), .int .u64 (n13 : Int), .int .u64 (n14 : Int), .int .u64 (n15 : Int), .int .u64 (n16 : Int), .int .u64 (n17 : Int), .int .u64 (n18 : Int)] #[.int .u64 (n0 : Int), .int .i64 (n1 : Int), .int .i64 (n2 : Int), .int .u32 ((pgN 2 0 n3 : Nat) : Int), .int .u32 ((pgN 2 1 n4 : Nat) : Int), .int .u32 ((pgN 2 2 n5 : Nat) : Int), .int .u32 ((pgN 2 3 n6 : Nat) : Int), .int .u32 ((pgN 2 4 n7 : Nat) : Int), .int .u32 ((pgN 2 5 n8 : Nat) : Int), .int .u32 0, .int .u32 0, .int .u32 0, .int .i64 0, .int .u64 0, .int .u64 0, .int .u64 0, .int .u64 0, .int .u64 0, .bool false]) := HR.out.set 4 _ rfl
        clear HR HQ
        go_wp2_with fail
        go_roundw
        case rel => exact ⟨2, by omega, by go_num, HS⟩
        case measure => simp [intOf]
      · have c0 : wr.cell? ⟨b, 5, none⟩ = some (.int .u64 (n5 : Int)) := by rw [cell_of_row wr b 5 _ _ _ HR.out.n]; rfl
        have c1 : wr.cell? ⟨q, 5, none⟩ = some (.int .u32 ((pgN 2 2 n5 : Nat) : Int)) := by rw [cell_of_row wr q 5 _ _ _ HR.out.s]; rfl
        have c2 : wr.frozen? ⟨q, 5, none⟩ = false := Joins.unfrozen_of_block HR.out.s 5
        have HS : Hid (OB w (wr.setCell ⟨q, 5, none⟩ (.int .u32 (n5 : Int))) b q #[.int .u64 (n0 : Int), .int .u64 (n1 : Int), .int .u64 (n2 : Int), .int .u64 (n3 : Int), .int .u64 (n4 : Int), .int .u64 (n5 : Int), .int .u64 (n6 : Int), .int .u64 (n7 : Int), .int .u64 (n8 : Int), .int .u64 (n9 : Int), .int .u64 (n10 : Int), .int .u64 (n11 : Int), .int .u64 (n12 : Int), .int .u64 (n13 : Int), .int .u64 (n14 : Int), .int .u64 (n15 : Int), .int .u64 (n16 : Int), .int .u64 (n17 : Int), .int .u64 (n18 : Int)] #[.int .u64 (n0 : Int), .int .i64 (n1 : Int), .int .i64 (n2 : Int), .int .u32 ((pgN 3 0 n3 : Nat) : Int), .int .u32 ((pgN 3 1 n4 : Nat) : Int), .int .u32 ((pgN 3 2 n5 : Nat) : Int), .int .u32 ((pgN 3 3 n6 : Nat) : Int), .int .u32 ((pgN 3 4 n7 : Nat) : Int), .int .u32 ((pgN 3 5 n8 : Nat) : Int), .int .u32 0, .int .u32 0, .int .u32 0, .int .i64 0, .int .u64 0, .int .u64 0, .int .u64 0, .int .u64 0, .int .u64 0, .bool false]) := HR.out.set 5 _ rfl
        clear HR HQ
        go_wp2_with fail
        go_roundw
        case rel => exact ⟨3, by omega, by go_num, HS⟩
        case measure => simp [intOf]
      · have c0 : wr.cell? ⟨b, 6, none⟩ = some (.int .u64 (n6 : Int)) := by rw [cell_of_row wr b 6 _ _ _ HR.out.n]; rfl
        have c1 : wr.cell? ⟨q, 6, none⟩ = some (.int .u32 ((pgN 3 3 n6 : Nat) : Int)) := by rw [cell_of_row wr q 6 _ _ _ HR.out.s]; rfl
        have c2 : wr.frozen? ⟨q, 6, none⟩ = false := Joins.unfrozen_of_block HR.out.s 6
        have HS : Hid (OB w (wr.setCell ⟨q, 6, none⟩ (.int .u32 (n6 : Int))) b q #[.int .u64 (n0 : Int), .int .u64 (n1 : Int), .int .u64 (n2 : Int), .int .u64 (n3 : Int), .int .u64 (n4 : Int), .int .u64 (n5 : Int), .int .u64 (n6 : Int), .int .u64 (n7 : Int), .int .u64 (n8 : Int), .int .u64 (n9 : Int), .int .u64 (n10 : Int), .int .u64 (n11 : Int), .int .u64 (n12 : Int), .int .u64 (n13 : Int), .int .u64 (n14 : Int), .int .u64 (n15 : Int), .int .u64 (n16 : Int), .int .u64 (n17 : Int), .int .u64 (n18 : Int)] #[.int .u64 (n0 : Int), .int .i64 (n1 : Int), .int .i64 (n2 : Int), .int .u32 ((pgN 4 0 n3 : Nat) : Int), .int .u32 ((pgN 4 1 n4 : Nat) : Int), .int .u32 ((pgN 4 2 n5 : Nat) : Int), .int .u32 ((pgN 4 3 n6 : Nat) : Int), .int .u32 ((pgN 4 4 n7 : Nat) : Int), .int .u32 ((pgN 4 5 n8 : Nat) : Int), .int .u32 0, .int .u32 0, .int .u32 0, .int .i64 0, .int .u64 0, .int .u64 0, .int .u64 0, .int .u64 0, .int .u64 0, .bool false]) := HR.out.set 6 _ rfl
        clear HR HQ
        go_wp2_with fail
        go_roundw
        case rel => exact ⟨4, by omega, by go_num, HS⟩
        case measure => simp [intOf]
      · have c0 : wr.cell? ⟨b, 7, none⟩ = some (.int .u64 (n7 : Int)) := by rw [cell_of_row wr b 7 _ _ _ HR.out.n]; rfl
        have c1 : wr.cell? ⟨q, 7, none⟩ = some (.int .u32 ((pgN 4 4 n7 : Nat) : Int)) := by rw [cell_of_row wr q 7 _ _ _ HR.out.s]; rfl
        have c2 : wr.frozen? ⟨q, 7, none⟩ = false := Joins.unfrozen_of_block HR.out.s 7
        have HS : Hid (OB w (wr.setCell ⟨q, 7, none⟩ (.int .u32 (n7 : Int))) b q #[.int .u64 (n0 : Int), .int .u64 (n1 : Int), .int .u64 (n2 : Int), .int .u64 (n3 : Int), .int .u64 (n4 : Int), .int .u64 (n5 : Int), .int .u64 (n6 : Int), .int .u64 (n7 : Int), .int .u64 (n8 : Int), .int .u64 (n9 : Int), .int .u64 (n10 : Int), .int .u64 (n11 : Int), .int .u64 (n12 : Int), .int .u64 (n13 : Int), .int .u64 (n14 : Int), .int .u64 (n15 : Int), .int .u64 (n16 : Int), .int .u64 (n17 : Int), .int .u64 (n18 : Int)] #[.int .u64 (n0 : Int), .int .i64 (n1 : Int), .int .i64 (n2 : Int), .int .u32 ((pgN 5 0 n3 : Nat) : Int), .int .u32 ((pgN 5 1 n4 : Nat) : Int), .int .u32 ((pgN 5 2 n5 : Nat) : Int), .int .u32 ((pgN 5 3 n6 : Nat) : Int), .int .u32 ((pgN 5 4 n7 : Nat) : Int), .int .u32 ((pgN 5 5 n8 : Nat) : Int), .int .u32 0, .int .u32 0, .int .u32 0, .int .i64 0, .int .u64 0, .int .u64 0, .int .u64 0, .int .u64 0, .int .u64 0, .bool false]) := HR.out.set 7 _ rfl
        clear HR HQ
        go_wp2_with fail
        go_roundw
        case rel => exact ⟨5, by omega, by go_num, HS⟩
        case measure => simp [intOf]
      · have c0 : wr.cell? ⟨b, 8, none⟩ = some (.int .u64 (n8 : Int)) := by rw [cell_of_row wr b 8 _ _ _ HR.out.n]; rfl
        have c1 : wr.cell? ⟨q, 8, none⟩ = some (.int .u32 ((pgN 5 5 n8 : Nat) : Int)) := by rw [cell_of_row wr q 8 _ _ _ HR.out.s]; rfl
        have c2 : wr.frozen? ⟨q, 8, none⟩ = false := Joins.unfrozen_of_block HR.out.s 8
        have HS : Hid (OB w (wr.setCell ⟨q, 8, none⟩ (.int .u32 (n8 : Int))) b q #[.int .u64 (n0 : Int), .int .u64 (n1 : Int), .int .u64 (n2 : Int), .int .u64 (n3 : Int), .int .u64 (n4 : Int), .int .u64 (n5 : Int), .int .u64 (n6 : Int), .int .u64 (n7 : Int), .int .u64 (n8 : Int), .int .u64 (n9 : Int), .int .u64 (n10 : Int), .int .u64 (n11 : Int), .int .u64 (n12 : Int), .int .u64 (n13 : Int), .int .u64 (n14 : Int), .int .u64 (n15 : Int), .int .u64 (n16 : Int), .int .u64 (n17 : Int), .int .u64 (n18 : Int)] #[.int .u64 (n0 : Int), .int .i64 (n1 : Int), .int .i64 (n2 : Int), .int .u32 ((pgN 6 0 n3 : Nat) : Int), .int .u32 ((pgN 6 1 n4 : Nat) : Int), .int .u32 ((pgN 6 2 n5 : Nat) : Int), .int .u32 ((pgN 6 3 n6 : Nat) : Int), .int .u32 ((pgN 6 4 n7 : Nat) : Int), .int .u32 ((pgN 6 5 n8 : Nat) : Int), .int .u32 0, .int .u32 0, .int .u32 0, .int .i64 0, .int .u64 0, .int .u64 0, .int .u64 0, .int .u64 0, .int .u64 0, .bool false]) := HR.out.set 8 _ rfl
        clear HR HQ
        go_wp2_with fail
        go_roundw
        case rel => exact ⟨6, by omega, by go_num, HS⟩
        case measure => simp [intOf]
end Go.Proofs.YtoclhiaidbfheaaGreatDoor
