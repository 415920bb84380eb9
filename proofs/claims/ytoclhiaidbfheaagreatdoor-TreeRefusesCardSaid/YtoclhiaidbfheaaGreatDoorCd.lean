/- Walks: the table. -/
import Derived.Test.YtoclhiaidbfheaaGreatDoorCc
import Derived.Deep.WholeRow
namespace Go.Proofs.YtoclhiaidbfheaaGreatDoor
open Go.RowKit

theorem Holds32.below {w w' : World} {b : Nat} {t : TypeId} {l : List Nat} (h : Holds32 w b t l) (hb : Below w.heap.size w w') : Holds32 w' b t l :=
  (hb.block b (Array.getElem?_eq_some_iff.1 h).1).trans h
/-- the table, i of its entries made -/
def tabN (i : Nat) : List Nat := (List.range 256).map fun k => if k < i then ei k else 0
theorem tabN_len (i : Nat) : (tabN i).length = 256 := by simp [tabN]
theorem tabN_get (i k : Nat) (h : k < 256) : (tabN i)[k]'(by rw [tabN_len]; exact h) = if k < i then ei k else 0 := by simp [tabN]
theorem tabN_set (i : Nat) : (tabN i).set i (ei i) = tabN (i + 1) := by
  apply List.ext_getElem
  · simp [tabN]
  · intro k h1 h2
    have hk : k < 256 := by rw [tabN_len] at h2; exact h2
    rw [List.getElem_set, tabN_get (i + 1) _ hk]
    split
    · rename_i e; subst e; simp
    · rename_i e
      rw [tabN_get _ _ hk]
      by_cases hk2 : k < i
      · rw [if_pos hk2, if_pos (by omega)]
      · rw [if_neg hk2, if_neg (by omega)]
theorem tab_size : (Tryz.prog.info? 360).map (·.size) = some 256 := by kernel_rfl
theorem zero_tab (w : World) : (zeroValue 360).run Tryz.prog w = .ok (.agg (cells32 (tabN 0))) w := by kernel_rfl
theorem zero_ones (w : World) : (zeroValue 366).run Tryz.prog w = .ok (.agg (cells32 (onesN 0))) w := by kernel_rfl
theorem onesN_get : ∀ k, k < 8 → (onesN 8)[k]! = ei (2 ^ k) := by decide +kernel

theorem entry_all (w : World) (bt bo i : Nat) (h : i < 256) (hT : Tabs w) (ht : Holds32 w bt 360 (tabN i)) (ho : Holds32 w bo 366 (onesN 8)) :
    Calls Tryz.prog 255 #[.int .u64 i, .pointer (some ⟨bt, 0, none⟩), .pointer (some ⟨bo, 0, none⟩)] w fun e w' => e = .returned (.int .u32 ((ei i : Nat) : Int)) ∧ ∃ k, w' = w.drewN k := by
  rcases Nat.eq_zero_or_pos i with rfl | h0
  · refine (entry_zero w bt bo).mono ?_
    rintro e w' ⟨rfl, rfl⟩
    exact ⟨rfl, 0, rfl⟩
  · have hlt := and_lt' i h h0
    have h8 := tz_lt i
    have hc := ht.cell (i &&& (i - 1)) (by rw [tabN_len]; omega)
    rw [tabN_get _ _ (by omega), if_pos hlt] at hc
    have hd := ho.cell (tz i) (by rw [onesN_len]; exact h8)
    have hg := onesN_get (tz i) h8
    rw [getElem!_pos (onesN 8) (tz i) (by rw [onesN_len]; exact h8)] at hg
    rw [hg] at hd
    have hl1 := ei_lt (i &&& (i - 1)) (by omega)
    have hp : 2 ^ tz i < 4294967296 := Nat.lt_of_lt_of_le (Nat.pow_lt_pow_right (by omega) h8) (by decide)
    have := entry_any w bt bo i _ _ h h0 hT hl1 (ei_lt _ hp) hc hd
    rw [table_step i h h0] at this
    exact this

theorem store_ones (w : World) : (storeCells ⟨w.heap.size, 0, none⟩ (cells32 (onesN 8)).toList 0).run Tryz.prog (w.alloc (.cells (cells32 (onesN 0)) 366)) = .ok () (w.alloc (.cells (cells32 (onesN 8)) 366)) :=
  run_storeCells_new (P := Tryz.prog) w 366 (cells32 (onesN 0)) (cells32 (onesN 8)) (by rw [ones_size, cells32_size, onesN_len]) (by rw [cells32_size, cells32_size, onesN_len, onesN_len]) (cells32_one _)

set_option maxRecDepth 10000 in
set_option maxHeartbeats 1000000 in
theorem table_any (w : World) (hT : Tabs w) :
    Calls Tryz.prog 249 #[] w fun e w' => e = .returned (.agg (cells32 (tabN 256))) ∧ Below w.heap.size w w' := by
  have hzt := zero_tab
  have hzo := zero_ones
  have hmf : ∀ (fn : Fn) (first cap : Array Value) (w : World), (Instr.makeFunc fn first cap).run Tryz.prog w = .ok (.func fn first cap) w := fun _ _ _ _ => rfl
  go_enter Tryz.func249, Tryz.ntmps249
  have hst := fun w => store_ones w
  have hsz : (cells32 (onesN 8)).size = 8 := by rw [cells32_size, onesN_len]
  go_wp2_with (go_at_call 254; refine (singles_any _).mono ?_; rintro e w1 ⟨rfl, hb1⟩)
  have hT1 := hT.size
  have hB1 : Below w.heap.size w w1 := (((Below.refl w.heap.size w).alloc (Nat.le_refl _) _).alloc (by simp) _).trans (hb1.mono (by simp; omega))
  have g0 : Holds32 w1 w.heap.size 360 (tabN 0) := ((Holds32.new w _ _ _ rfl).alloc _).below hb1
  have g1 : Holds32 w1 (w.heap.size + 1) 360 (tabN 0) := (Holds32.new2 w _ _ _ _ rfl).below hb1
  have hs1 : w.heap.size + 2 ≤ w1.heap.size := by have := hb1.size; simp at this; omega
  clear hb1 hst hsz
  go_loopw [7] (fun j wr => ∃ i : Nat, i ≤ 256 ∧ j = .int .u64 (i : Int) ∧ Holds32 wr w.heap.size 360 (tabN 0) ∧ Holds32 wr (w.heap.size + 1) 360 (tabN i) ∧ Holds32 wr w1.heap.size 366 (onesN 8) ∧ Below w.heap.size w wr) (fun j _ => 256 - (intOf j).toNat)
  case atStart => exact ⟨0, Nat.zero_le _, rfl, g0.alloc _, g1.alloc _, Holds32.new w1 _ _ _ rfl, hB1.alloc (by omega) _⟩
  case round =>
    obtain ⟨i, hi, rfl, H0, H1, H2, hb⟩ := hrel
    by_cases hlt : i < 256
    · have hc := H1.cell i (by rw [tabN_len]; exact hlt)
      have hf := H1.frozen i
      have hen := entry_all wr _ _ i hlt (hT.below hb hT1) H1 H2
      generalize (tabN i)[i]'(by rw [tabN_len]; exact hlt) = y at *
      clear hzt hzo hmf
      generalize hei : ei i = x at *
      have HX := Lib.hid hei
      clear hei
      have HE := Lib.hid hen
      clear hen
      go_wp2_with fail
      refine HE.out.mono ?_
      rintro e w' ⟨rfl, k, rfl⟩
      have hc2 : (wr.drewN k).cell? ⟨w.heap.size + 1, i, none⟩ = some (.int .u32 y) := hc
      have hf2 : (wr.drewN k).frozen? ⟨w.heap.size + 1, i, none⟩ = false := hf
      have hb2 : Below w.heap.size w (wr.drewN k) := ⟨hb.os, hb.tape, hb.output, hb.size, hb.block⟩
      have G0 : Holds32 (wr.drewN k) w.heap.size 360 (tabN 0) := H0
      have G1 : Holds32 (wr.drewN k) (w.heap.size + 1) 360 (tabN i) := H1
      have G2 : Holds32 (wr.drewN k) w1.heap.size 366 (onesN 8) := H2
      clear hc hf hb H0 H1 H2 HE
      generalize wr.drewN k = w2 at *
      go_wp2
      go_roundw
      case rel => exact ⟨i + 1, hlt, by go_num, G0.other (by simp) _, by rw [← tabN_set i, HX.out]; exact G1.set i _, G2.other (by simp; omega) _, hb2.setCell (by simp) _⟩
      case measure => simp [intOf]; omega
    · have : i = 256 := by omega
      subst this
      go_wp2_with (first
        | refine wpList_load_row rfl 360 (.tmp 1) rfl (w.heap.size + 1) rfl 360 (cells32 (tabN 256)) (0, 0) _ H1 Tryz.underlying360 rfl (by rw [tab_size, cells32_size, tabN_len]) ?_
        | refine wpList_store_row rfl 360 (.tmp 0) (.tmp 16) rfl w.heap.size (cells32 (tabN 256)) rfl rfl 360 (cells32 (tabN 0)) H0 (by rw [tab_size, cells32_size, tabN_len]) (by rw [cells32_size, cells32_size, tabN_len, tabN_len]) (cells32_one _) ?_
        | fail)
      exact bodyPost_ret (results_cell_row rfl _ _ w.heap.size 360 (cells32 (tabN 256)) (0, 0) _ rfl (H0.row (tabN 256)) Tryz.underlying360 rfl (by rw [tab_size, cells32_size, tabN_len])) rfl ⟨rfl, below_setRow hb (Nat.le_refl _) _⟩
end Go.Proofs.YtoclhiaidbfheaaGreatDoor
