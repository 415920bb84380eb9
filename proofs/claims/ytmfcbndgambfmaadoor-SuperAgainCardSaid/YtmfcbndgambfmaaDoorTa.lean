/- A disk of super's: blocks of four sectors. -/
import Derived.Test.YtmfcbndgambfmaaDoorSg
import Derived.Test.YtmfcbndgambfmaaDoorQn
import Derived.Test.YtmfcbndgambfmaaDoorQf
set_option linter.unusedVariables false
namespace Go.Proofs.YtmfcbndgambfmaaDoor.Q
open Go.RowKit

theorem pd_sectors {w : World} {F : Nat → Prop} {b : Nat} {d : RD} (h : PD w F b d) : Calls Tryd.prog 14 #[.pointer (some ⟨b, 0, none⟩)] w fun e w' => e = .returned (.int .i64 (d.s.length : Int)) ∧ w' = w := by
  obtain ⟨L, m, D, X, hp, _⟩ := h; exact (sectors_any w b m L D X d hp).mono fun e w' ⟨h1, h2⟩ => ⟨h1, h2.symm⟩
/-- the i-th sector of a block's bytes -/
def part (l : List UInt8) (i : Nat) : List UInt8 := (l.drop (i * 64)).take 64
theorem part_len (l : List UInt8) (hl : l.length = 256) (i : Nat) (hi : i < 4) : (part l i).length = 64 := by simp [part]; omega
def partS (l : List UInt8) (i : Nat) : SB := if h : (part l i).length = 64 then ⟨part l i, h⟩ else 0
theorem partS_eq (l : List UInt8) (hl : l.length = 256) (i : Nat) (hi : i < 4) : (partS l i).1 = part l i := by
  rw [partS, dif_pos (part_len l hl i hi)]
theorem slotOf_any (w : World) (s : SU) (hf : s.fits) : Calls Tryd.prog 15 #[.agg s.cells] w fun e w' => e = .returned (.int .i64 ((s.tx % 2 : Nat) : Int)) ∧ Below w.heap.size w w' := by
  have hx := hf.tx
  clear hf
  obtain ⟨tx, m, d, p0, p1, p2, p3, p4, p5, tp, ba, sg, c, ep, la, sq, bl, bs, mk⟩ := s
  simp only [SU.cells] at hx ⊢
  go_enter Tryd.func15, Tryd.ntmps15
  go_wp2
  go_ret
  have e : ((tx % 2 : Nat) : Int) = (tx : Int) % 2 := by omega
  rw [e]
  exact ⟨rfl, (Below.refl _ _).alloc (Nat.le_refl _) _⟩
set_option maxRecDepth 100000 in
set_option maxHeartbeats 2000000 in
theorem sectorOf_any (w : World) (l : List UInt8) (hl : l.length = 256) (i : Nat) (hi : i < 4) : Calls Tryd.prog 29 #[.agg (cells8 l).toArray, .int .i64 (i : Int)] w fun e w' => e = .returned (.agg (sec (partS l i)).toArray) ∧ Below w.heap.size w w' := by
  have hcs := cells8_size l
  have hsl : ∀ W : World, (Instr.sliceAt 45 (.pointer (some ⟨w.heap.size, 0, none⟩)) (some (.int .i64 ((i : Int) * 64))) (some (.int .i64 (((i : Int) + 1) * 64))) none).run Tryd.prog W = .ok (.slice (some ⟨w.heap.size, i * 64, none⟩) 64 (256 - i * 64)) W := fun W => by
    rcases i with _ | _ | _ | _ | i
    · kernel_rfl
    · kernel_rfl
    · kernel_rfl
    · kernel_rfl
    · exfalso; omega
  have hat : ∀ W : World, (Instr.arrayAt 64 (.slice (some ⟨w.heap.size, i * 64, none⟩) 64 (256 - i * 64))).run Tryd.prog W = .ok (.pointer (some ⟨w.heap.size, i * 64, none⟩)) W := fun W => run_arrayAt W _ _ 64 _ _ _ sector_u (Nat.le_refl _)
  have hz := zero_sector
  have hn := heap_alloc_new (w.alloc (.cells (cells8 l).toArray 45)) (.cells (cells8 (fullN 0 0)).toArray 64)
  rw [World.size_alloc] at hn
  have HNEW := Lib.hid hn
  have hr : ((w.alloc (.cells (cells8 l).toArray 45)).alloc (.cells (cells8 (fullN 0 0)).toArray 64)).rangeAt w.heap.size (i * 64) (sec (partS l i)) := fun j u hu => by
    have hb : ((w.alloc (.cells (cells8 l).toArray 45)).alloc (.cells (cells8 (fullN 0 0)).toArray 64)).heap[w.heap.size]? = _ := (Below.heap_alloc _ _ _ (by simp)).trans (heap_alloc_new w _)
    have hj : j < 64 := by
      have := (List.getElem?_eq_some_iff.1 hu).1
      rwa [sec_len] at this
    rw [Joins.cell_of_block hb, List.getElem?_toArray]
    rw [sec, partS_eq l hl i hi, part, cells8_take, cells8_drop, List.getElem?_take_of_lt hj, List.getElem?_drop] at hu
    exact hu
  have HR := Lib.hid hr
  have HB := Lib.hid (((Below.refl _ w).alloc (Nat.le_refl _) (.cells (cells8 l).toArray 45)).alloc (by simp) (.cells (cells8 (fullN 0 0)).toArray 64))
  clear hr hn
  generalize partS l i = c at *
  go_enter Tryd.func29, Tryd.ntmps29
  go_wp2_with (first
    | refine wpList_load_mid rfl 64 (.tmp 11) rfl w.heap.size (i * 64) rfl (sec c) _ HR.out sector_u rfl (sector_sz c) ?_
    | refine wpList_store_row rfl 64 (.tmp 4) (.tmp 12) rfl (w.heap.size + 1) (sec c).toArray rfl rfl 64 (cells8 (fullN 0 0)).toArray HNEW.out (by rw [sector_sz c]; simp) (by rw [size8, fullN_len 0 0 (by omega), List.size_toArray, sec_len]) (all_oneCell_toArray (sec_one c)) ?_
    | fail)
  exact bodyPost_ret (results_cell_row rfl _ _ (w.heap.size + 1) 64 (sec c).toArray (0, 0) _ rfl (setRow_heap _ _ _ _ _ _ HNEW.out) sector_u rfl (by rw [sector_sz c]; simp)) rfl ⟨rfl, below_setRow HB.out (Nat.le_succ _) _⟩
theorem place_nil (w : World) (k : Int) (h : Calls Tryd.prog 14 #[.pointer none] w fun e w' => e = .returned (.int .i64 0) ∧ w' = w) : Calls Tryd.prog 23 #[.pointer none, .int .i64 k] w fun e w' => e = .returned (.int .i64 1) ∧ w' = w := by
  have HH := Lib.hid h
  clear h
  go_enter Tryd.func23, Tryd.ntmps23
  go_wp2_with (first
    | (go_at_call 14; (with_reducible refine HH.out.mono ?_); rintro e w1 ⟨rfl, rfl⟩)
    | fail)
  go_ret
  exact ⟨rfl, rfl⟩
/-- has it all sectors of a block? -/
def hasK (d : RD) (k : Int) : Prop := 0 ≤ k ∧ k < ((d.s.length / 4 : Nat) : Int)
instance (d : RD) (k : Int) : Decidable (hasK d k) := by unfold hasK; exact inferInstance
def plK (d : RD) (k : Int) : Int := if hasK d k then 0 else 2
theorem place_any' {w : World} {F : Nat → Prop} {b : Nat} {d : RD} (h : PD w F b d) (k : Int) : Calls Tryd.prog 23 #[.pointer (some ⟨b, 0, none⟩), .int .i64 k] w fun e w' => e = .returned (.int .i64 (plK d k)) ∧ w' = w := by
  have HS := Lib.hid (pd_sectors h)
  have n0 := h.n0
  have n1 := h.n1
  have hq : IntKind.i64.wrap ((d.s.length : Int).tdiv 4) = ((d.s.length / 4 : Nat) : Int) := by
    rw [IntKind.wrap_i64]; rw [Int.tdiv_eq_ediv_of_nonneg (by omega)]; omega
  have z0 : ((d.s.length : Int) == 0) = false := by rw [beq_eq_false_iff_ne]; omega
  by_cases c1 : k < 0
  · rw [plK, if_neg (fun h => by have := h.1; omega)]
    clear h
    go_enter Tryd.func23, Tryd.ntmps23
    go_wp2_with (first
      | (go_at_call 14; (with_reducible refine HS.out.mono ?_); rintro e w1 ⟨rfl, rfl⟩)
      | fail)
    go_ret
    exact ⟨rfl, rfl⟩
  · by_cases c2 : k < ((d.s.length / 4 : Nat) : Int)
    · rw [plK, if_pos ⟨by omega, c2⟩]
      have c3 : ¬ ((d.s.length / 4 : Nat) : Int) ≤ k := by omega
      clear h
      go_enter Tryd.func23, Tryd.ntmps23
      go_wp2_with (first
        | (go_at_call 14; (with_reducible refine HS.out.mono ?_); rintro e w1 ⟨rfl, rfl⟩)
        | fail)
      go_ret
      exact ⟨rfl, rfl⟩
    · rw [plK, if_neg (fun h => c2 h.2)]
      have c3 : ((d.s.length / 4 : Nat) : Int) ≤ k := by omega
      clear h
      go_enter Tryd.func23, Tryd.ntmps23
      go_wp2_with (first
        | (go_at_call 14; (with_reducible refine HS.out.mono ?_); rintro e w1 ⟨rfl, rfl⟩)
        | fail)
      go_ret
      exact ⟨rfl, rfl⟩
end Go.Proofs.YtmfcbndgambfmaaDoor.Q
