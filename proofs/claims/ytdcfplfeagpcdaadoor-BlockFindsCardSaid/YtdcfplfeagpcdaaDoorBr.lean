/- The program's Copy. -/
import Derived.Test.YtdcfplfeagpcdaaDoorBi
set_option linter.unusedVariables false
namespace Go.Proofs.YtdcfplfeagpcdaaDoor
open Go.RowKit

/-- what Copy answers: two rows of its own -/
def CopyAs (w : World) (kind birth : Int) (keys vals : List Nat) (e : Ending) (w' : World) : Prop :=
  ∃ K V, e = .returned (.agg #[.int .i64 kind, .int .u64 birth, K, V]) ∧ w'.ownsRow w.heap.size 24 1 K keys.length (nums64 keys) ∧ w'.ownsRow w.heap.size 24 1 V vals.length (nums64 vals) ∧ (∀ g, K.ownBlock = some g → V.ownBlock ≠ some g) ∧ Below w.heap.size w w'

theorem nums64_one (l : List Nat) : ∀ u ∈ nums64 l, u.oneCell' = true := by
  intro u hu
  simp only [nums64, List.mem_map] at hu
  obtain ⟨b, _, rfl⟩ := hu
  rfl

set_option maxRecDepth 10000 in
set_option maxHeartbeats 1000000 in
theorem copy_any (w : World) (kind : Int) (birth : Nat) (keys vals : List Nat) (A A' : Option Addr) (ck cv : Nat) (hs : Shows w w.heap.size A keys.length (nums64 keys)) (hv : Shows w w.heap.size A' vals.length (nums64 vals)) (hl : keys.length ≤ 1000000) (hl2 : vals.length ≤ 1000000) :
    Calls Tryd.prog 18 #[.agg #[.int .i64 kind, .int .u64 (birth : Int), .slice A keys.length ck, .slice A' vals.length cv]] w (CopyAs w kind birth keys vals) := by
  obtain ⟨i0, hi0, hz0, hz1, hz2⟩ := info_parts u64_info
  have hb0 : Below w.heap.size w ((w.alloc (.cells #[.int .i64 kind, .int .u64 (birth : Int), .slice A keys.length ck, .slice A' vals.length cv] 27)).alloc (.cells #[.int .i64 0, .int .u64 0, .slice none 0 0, .slice none 0 0] 27)) := ((Below.refl _ _).alloc (Nat.le_refl _) _).alloc (by simp) _
  have HB := Lib.hid hb0
  have HS := Lib.hid (hs.below hb0)
  have HV := Lib.hid (hv.below hb0)
  clear hb0 hs hv
  have HN : Hid (((w.alloc (.cells #[.int .i64 kind, .int .u64 (birth : Int), .slice A keys.length ck, .slice A' vals.length cv] 27)).alloc (.cells #[.int .i64 0, .int .u64 0, .slice none 0 0, .slice none 0 0] 27)).heap[w.heap.size]? = some (.cells #[.int .i64 kind, .int .u64 (birth : Int), .slice A keys.length ck, .slice A' vals.length cv] 27 (0, 0))) := heap_alloc' (heap_alloc_new w _)
  have hr := heap_alloc_new (w.alloc (.cells #[.int .i64 kind, .int .u64 (birth : Int), .slice A keys.length ck, .slice A' vals.length cv] 27)) (.cells #[.int .i64 0, .int .u64 0, .slice none 0 0, .slice none 0 0] 27)
  simp only [World.size_alloc] at hr
  have HR := Lib.hid hr
  clear hr
  go_enter Tryd.func18, Tryd.ntmps18
  go_wp2_with (first
    | (at_builtin; refine wpList_append_shows _ rfl (.const (.slice none 0 0)) (.tmp 4) 25 rfl (w.heap.size + 2) 24 i0 (.int .u64 0) 8 Tryd.underlying25 hi0 hz0 hz1 hz2 rfl (.slice none 0 0) 0 [] rfl ⟨rfl, .inl ⟨rfl, rfl⟩⟩ w.heap.size A keys.length ck (nums64 keys) rfl HS.out (nums64_one _) (by unfold maxLen; omega) (by omega) (by simp) ?_; intro v1 w1 hown1 hg1; simp only [Nat.zero_add, List.nil_append] at hown1; obtain ⟨A1, c1, rfl, _⟩ := own_form4 hown1; have hn1 := (hg1.by_.block w.heap.size (by simp; omega) (by simp [Value.ownBlock])).trans HN.out; have c2 : w1.cell? ⟨w.heap.size, 2, none⟩ = some (.slice A keys.length ck) := (by rw [cell_of_row w1 _ 2 _ _ _ hn1]; rfl); have f2 : w1.frozen? ⟨w.heap.size, 2, none⟩ = false := (by simp [World.frozen?, hn1]); have hn2 : Hid ((w1.setCell ⟨w.heap.size, 2, none⟩ (.slice A1 keys.length c1)).heap[w.heap.size]? = some (.cells #[.int .i64 kind, .int .u64 (birth : Int), .slice A1 keys.length c1, .slice A' vals.length cv] 27 (0, 0))) := Joins.block_setCell hn1 _; have c3 : w1.cell? ⟨w.heap.size, 3, none⟩ = some (.slice A' vals.length cv) := (by rw [cell_of_row w1 _ 3 _ _ _ hn1]; rfl); have HN1 := Lib.hid hn1; have hr1 := Lib.hid ((hg1.by_.block (w.heap.size + 1) (by simp) (by simp [Value.ownBlock])).trans HR.out); have HO1 := Lib.hid hown1; have hb1 := (Below.refl _ _).grown hg1.by_ (Nat.le_refl _) (by simp [Value.ownBlock]); have hsz1 := hb1.size; have HBB1 := Lib.hid ((HB.out.trans (hb1.mono HB.out.size)).setCell (p := ⟨w.heap.size, 2, none⟩) (Nat.le_refl _) (.slice A1 keys.length c1)); have HVV := Lib.hid ((HV.out.below (hb1.mono (by simp; omega))).below ((Below.refl w.heap.size w1).setCell (p := ⟨w.heap.size, 2, none⟩) (Nat.le_refl _) (.slice A1 keys.length c1))); have hO1s := HO1.out.kept (grown_set w1 ⟨w.heap.size, 2, none⟩ (.slice A1 keys.length c1)) (.inr fun e => (by have := (HO1.out.lt _ e).1; simp at this; omega)); have HO1s := Lib.hid hO1s; simp only [World.size_alloc] at hsz1; clear hn1 hown1 hg1 hb1 hO1s)
    | (at_builtin; refine wpList_append_shows _ rfl (.const (.slice none 0 0)) (.tmp 8) 25 rfl (w.heap.size + 2) 24 i0 (.int .u64 0) 8 Tryd.underlying25 hi0 hz0 hz1 hz2 rfl (.slice none 0 0) 0 [] rfl ⟨rfl, .inl ⟨rfl, rfl⟩⟩ w.heap.size A' vals.length cv (nums64 vals) rfl HVV.out (nums64_one _) (by unfold maxLen; omega) (by omega) (by simp; omega) ?_; intro v2 w2 hown2 hg2; simp only [Nat.zero_add, List.nil_append] at hown2; obtain ⟨A2, c2', rfl, _⟩ := own_form4 hown2; have hm1 := (hg2.by_.block w.heap.size (by simp; omega) (by simp [Value.ownBlock])).trans hn2.out; have d3 : w2.cell? ⟨w.heap.size, 3, none⟩ = some (.slice A' vals.length cv) := (by rw [cell_of_row w2 _ 3 _ _ _ hm1]; rfl); have g3 : w2.frozen? ⟨w.heap.size, 3, none⟩ = false := (by simp [World.frozen?, hm1]); have hm2 : Hid ((w2.setCell ⟨w.heap.size, 3, none⟩ (.slice A2 vals.length c2')).heap[w.heap.size]? = some (.cells #[.int .i64 kind, .int .u64 (birth : Int), .slice A1 keys.length c1, .slice A2 vals.length c2'] 27 (0, 0))) := Joins.block_setCell hm1 _; have hr2 := Lib.hid ((hg2.by_.block (w.heap.size + 1) (by simp; omega) (by simp [Value.ownBlock])).trans ((Below.heap_setCell w1 ⟨w.heap.size, 2, none⟩ _ (w.heap.size + 1) (by simp)).trans hr1.out)); have hr3 := Lib.hid ((Below.heap_setCell w2 ⟨w.heap.size, 3, none⟩ (.slice A2 vals.length c2') (w.heap.size + 1) (by simp)).trans hr2.out); have HO2 := Lib.hid hown2; have HG2 := Lib.hid hg2; clear hm1 hown2 hg2)
    | refine wpList_load_row rfl 27 (.tmp 1) rfl w.heap.size rfl 27 #[.int .i64 kind, .int .u64 (birth : Int), .slice A1 keys.length c1, .slice A2 vals.length c2'] (0, 0) _ hm2.out Tryd.underlying27 rfl (by rw [node_size]; rfl) ?_
    | refine wpList_store_row rfl 27 (.tmp 2) (.tmp 11) rfl (w.heap.size + 1) #[.int .i64 kind, .int .u64 (birth : Int), .slice A1 keys.length c1, .slice A2 vals.length c2'] rfl rfl 27 #[.int .i64 0, .int .u64 0, .slice none 0 0, .slice none 0 0] hr3.out (by rw [node_size]; rfl) rfl (by simp [Value.oneCell']) ?_
    | fail)
  refine bodyPost_ret (results_cell_row rfl _ _ (w.heap.size + 1) 27 #[.int .i64 kind, .int .u64 (birth : Int), .slice A1 keys.length c1, .slice A2 vals.length c2'] (0, 0) _ rfl (setRow_heap _ _ _ _ _ _ hr3.out) Tryd.underlying27 rfl (by rw [node_size]; rfl)) rfl ?_
  have k1 := HO1s.out.kept HG2.out.by_ (by
    cases hv : Value.ownBlock (.slice A1 keys.length c1) with
    | none => exact .inl rfl
    | some q => exact .inr (by simp [Value.ownBlock]))
  have ap : ∀ g, Value.ownBlock (.slice A1 keys.length c1) = some g → Value.ownBlock (.slice A2 vals.length c2') ≠ some g := fun g e1 e2 => by
    rcases HG2.out.at_ with e | ⟨q, e, hq⟩
    · rw [e2] at e; simp [Value.ownBlock] at e
    · rw [e2] at e
      have := (HO1s.out.lt g e1).2
      have := Option.some.inj e
      omega
  have k2 := (k1.kept (grown_set w2 ⟨w.heap.size, 3, none⟩ (.slice A2 vals.length c2')) (.inr fun e => by have := (k1.lt _ e).1; simp at this; omega))
  have k3 := k2.kept (grown_row _ (w.heap.size + 1) #[.int .i64 kind, .int .u64 (birth : Int), .slice A1 keys.length c1, .slice A2 vals.length c2']) (.inr fun e => by have := (k2.lt _ e).1; omega)
  have m2 := (HO2.out.kept (grown_set w2 ⟨w.heap.size, 3, none⟩ (.slice A2 vals.length c2')) (.inr fun e => by have := (HO2.out.lt _ e).1; simp at this; omega))
  have m3 := m2.kept (grown_row _ (w.heap.size + 1) #[.int .i64 kind, .int .u64 (birth : Int), .slice A1 keys.length c1, .slice A2 vals.length c2']) (.inr fun e => by have := (m2.lt _ e).1; omega)
  have hb2 := HBB1.out.grown HG2.out.by_ HBB1.out.size (by simp [Value.ownBlock])
  exact ⟨_, _, rfl, own_low k3 (by omega), own_low m3 (by omega), ap, below_setRow (hb2.setCell (p := ⟨w.heap.size, 3, none⟩) (Nat.le_refl _) _) (by simp) _⟩
end Go.Proofs.YtdcfplfeagpcdaaDoor
