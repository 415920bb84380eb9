/- Walks: the registers of one bit, behind eight times. -/
import Derived.Test.YtoclhiaidbfheaaGreatDoorCb
import Derived.Lib.SmallJoins
namespace Go.Proofs.YtoclhiaidbfheaaGreatDoor
open Go.RowKit

/-- numbers of 32 bits as cells -/
def cells32 (l : List Nat) : Array Value := (l.map fun n : Nat => Value.int .u32 (n : Int)).toArray
theorem cells32_set (l : List Nat) (i n : Nat) : (cells32 l).setIfInBounds i (.int .u32 (n : Int)) = cells32 (l.set i n) := by simp [cells32, List.map_set]
theorem cells32_at (l : List Nat) (i : Nat) (h : i < l.length) : (cells32 l)[i]? = some (.int .u32 ((l[i]'h : Nat) : Int)) := by simp [cells32, h]
/-- a block holds numbers of 32 bits -/
def Holds32 (w : World) (b : Nat) (t : TypeId) (l : List Nat) : Prop := w.heap[b]? = some (.cells (cells32 l) t (0, 0))
theorem Holds32.cell {w : World} {b : Nat} {t : TypeId} {l : List Nat} (h : Holds32 w b t l) (i : Nat) (hi : i < l.length) : w.cell? ⟨b, i, none⟩ = some (.int .u32 ((l[i]'hi : Nat) : Int)) := by
  rw [cell_of_row w b i _ _ _ h, cells32_at l i hi]
theorem Holds32.frozen {w : World} {b : Nat} {t : TypeId} {l : List Nat} (h : Holds32 w b t l) (i : Nat) : w.frozen? ⟨b, i, none⟩ = false := by
  unfold Holds32 at h
  simp [World.frozen?, h]
theorem Holds32.set {w : World} {b : Nat} {t : TypeId} {l : List Nat} (h : Holds32 w b t l) (i n : Nat) : Holds32 (w.setCell ⟨b, i, none⟩ (.int .u32 (n : Int))) b t (l.set i n) := by
  unfold Holds32
  rw [← cells32_set]
  exact Joins.block_setCell h _
theorem Holds32.other {w : World} {b : Nat} {t : TypeId} {l : List Nat} (h : Holds32 w b t l) {a : Addr} (ha : b ≠ a.block) (u : Value) : Holds32 (w.setCell a u) b t l := by
  unfold Holds32
  rw [Below.heap_setCell w a u b ha]
  exact h

theorem Holds32.new (w : World) (t : TypeId) (l : List Nat) (cs : Array Value) (h : cs = cells32 l) : Holds32 (w.alloc (.cells cs t)) w.heap.size t l := by
  subst h
  exact heap_alloc_new w _
theorem Holds32.new2 (w : World) (o : Obj) (t : TypeId) (l : List Nat) (cs : Array Value) (h : cs = cells32 l) : Holds32 ((w.alloc o).alloc (.cells cs t)) (w.heap.size + 1) t l := by
  have := Holds32.new (w.alloc o) t l cs h
  simpa using this
theorem Holds32.alloc {w : World} {b : Nat} {t : TypeId} {l : List Nat} (h : Holds32 w b t l) (o : Obj) : Holds32 (w.alloc o) b t l := by
  unfold Holds32 at *
  rw [Below.heap_alloc w o b (Array.getElem?_eq_some_iff.1 h).1]
  exact h
theorem Holds32.load {P : Program} {w : World} {b : Nat} {t : TypeId} {l : List Nat} (h : Holds32 w b t l) : (loadCells ⟨b, 0, none⟩ l.length).run P w = .ok (cells32 l) w := by
  have := run_loadCells_list (P := P) w ⟨b, 0, none⟩ (cells32 l).toList fun j v hv => by
    have e : (⟨b, 0, none⟩ : Addr).add j = ⟨b, j, none⟩ := by
      unfold Addr.add
      by_cases hj0 : j = 0 <;> simp [hj0]
    rw [e, cell_of_row w b j _ _ _ h]
    simpa using hv
  simpa [cells32] using this

/-- the registers of one bit, i of them made -/
def onesN (i : Nat) : List Nat := (List.range 8).map fun k => if 8 - i ≤ k then ei (2 ^ k) else 0
theorem onesN_len (i : Nat) : (onesN i).length = 8 := by simp [onesN]
theorem onesN_set : ∀ i, i < 8 → (onesN i).set (7 - i) (shN (i + 1) 1) = onesN (i + 1) := by decide +kernel

theorem cells32_one (l : List Nat) : (cells32 l).all (·.oneCell') = true := by simp [cells32, Value.oneCell']
theorem cells32_size (l : List Nat) : (cells32 l).size = l.length := by simp [cells32]
theorem ones_size : (Tryz.prog.info? 366).map (·.size) = some 8 := by kernel_rfl
theorem Holds32.row {w : World} {b : Nat} {t : TypeId} {l : List Nat} (h : Holds32 w b t l) (m : List Nat) : Holds32 (w.setRow b (cells32 m)) b t m := setRow_heap w b _ _ t _ h

set_option maxHeartbeats 1000000 in
theorem singles_any (w : World) :
    Calls Tryz.prog 254 #[] w fun e w' => e = .returned (.agg (cells32 (onesN 8))) ∧ Below w.heap.size w w' := by
  go_enter Tryz.func254, Tryz.ntmps254
  go_wp2
  go_loopw [2, 4] (fun x j wr => ∃ i : Nat, i ≤ 8 ∧ j = .int .i64 (i : Int) ∧ x = .int .u32 ((shN i 1 : Nat) : Int) ∧ Holds32 wr w.heap.size 366 (onesN 0) ∧ Holds32 wr (w.heap.size + 1) 366 (onesN i) ∧ Below w.heap.size w wr) (fun _ j _ => 8 - (intOf j).toNat)
  case atStart => exact ⟨0, Nat.zero_le _, rfl, rfl, (Holds32.new w _ (onesN 0) _ rfl).alloc _, Holds32.new2 w _ _ (onesN 0) _ rfl, ((Below.refl _ _).alloc (Nat.le_refl _) _).alloc (by simp) _⟩
  case round =>
    obtain ⟨i, hi, rfl, rfl, H0, H1, hb⟩ := hrel
    by_cases hlt : i < 8
    · have hx := shN_lt i 1 (by omega)
      have hc := H1.cell (7 - i) (by rw [onesN_len]; omega)
      have hf := H1.frozen (7 - i)
      generalize hn : shN i 1 = x at *
      have HN := Lib.hid hn
      clear hn
      generalize (onesN i)[7 - i]'(by rw [onesN_len]; omega) = y at *
      have hd : (7 : Int) - (i : Int) = ((7 - i : Nat) : Int) := by omega
      generalize hm : 7 - i = m at *
      go_wp2_with (go_at_call 257; refine (shifted_any x wr hx).mono ?_; rintro e w' ⟨rfl, rfl⟩)
      go_roundw
      case rel => exact ⟨i + 1, hlt, by go_num, by rw [shN, HN.out], H0.other (by simp) _, by rw [← onesN_set i hlt, hm, shN, HN.out]; exact H1.set m _, hb.setCell (by simp) _⟩
      case measure => simp [intOf]; omega
    · have : i = 8 := by omega
      subst this
      go_wp2_with (first
        | refine wpList_load_row rfl 366 (.tmp 1) rfl (w.heap.size + 1) rfl 366 (cells32 (onesN 8)) (0, 0) _ H1 Tryz.underlying366 rfl (by rw [ones_size, cells32_size, onesN_len]) ?_
        | refine wpList_store_row rfl 366 (.tmp 0) (.tmp 14) rfl w.heap.size (cells32 (onesN 8)) rfl rfl 366 (cells32 (onesN 0)) H0 (by rw [ones_size, cells32_size, onesN_len]) (by rw [cells32_size, cells32_size, onesN_len, onesN_len]) (cells32_one _) ?_
        | fail)
      exact bodyPost_ret (results_cell_row rfl _ _ w.heap.size 366 (cells32 (onesN 8)) (0, 0) _ rfl (H0.row (onesN 8)) Tryz.underlying366 rfl (by rw [ones_size, cells32_size, onesN_len])) rfl ⟨rfl, below_setRow hb (Nat.le_refl _) _⟩
end Go.Proofs.YtoclhiaidbfheaaGreatDoor
