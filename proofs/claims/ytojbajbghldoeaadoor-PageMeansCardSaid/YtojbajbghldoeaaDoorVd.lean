/- page's read; Block of what may not be. -/
import Derived.Test.YtojbajbghldoeaaDoorVc
import Derived.Laws.BitsAllLaws
set_option linter.unusedVariables false
namespace Go.Proofs.YtojbajbghldoeaaDoor
open Go.RowKit

/-- a block of memory holds counts -/
def Holds16 (w : World) (b : Nat) (t : TypeId) (l : List Nat) : Prop := w.heap[b]? = some (.cells (nums16 l).toArray t (0, 0))
theorem Holds16.cell {w : World} {b : Nat} {t : TypeId} {l : List Nat} (h : Holds16 w b t l) (i : Nat) (hi : i < l.length) : w.cell? ⟨b, i, none⟩ = some (.int .u16 ((l.getD i 0 : Nat) : Int)) := by
  rw [cell_of_row w b i _ _ _ h]
  simpa using nums16_get l i hi
theorem Holds16.frozen {w : World} {b : Nat} {t : TypeId} {l : List Nat} (h : Holds16 w b t l) (i : Nat) : w.frozen? ⟨b, i, none⟩ = false := by
  unfold Holds16 at h
  simp [World.frozen?, h]
theorem Holds16.set {w : World} {b : Nat} {t : TypeId} {l : List Nat} (h : Holds16 w b t l) (i : Nat) (c : Nat) : Holds16 (w.setCell ⟨b, i, none⟩ (.int .u16 (c : Int))) b t (l.set i c) := by
  unfold Holds16
  have e : (nums16 (l.set i c)).toArray = (nums16 l).toArray.setIfInBounds i (.int .u16 (c : Int)) := by simp [nums16, List.map_set]
  rw [e]
  exact Joins.block_setCell h _
theorem Holds16.other {w : World} {b : Nat} {t : TypeId} {l : List Nat} (h : Holds16 w b t l) {a : Addr} (ha : b ≠ a.block) (u : Value) : Holds16 (w.setCell a u) b t l := by
  unfold Holds16
  rw [Below.heap_setCell w a u b ha]
  exact h
theorem Holds16.new (w : World) (t : TypeId) (l : List Nat) : Holds16 (w.alloc (.cells (nums16 l).toArray t)) w.heap.size t l := heap_alloc_new w _
theorem Holds16.lt {w : World} {b : Nat} {t : TypeId} {l : List Nat} (h : Holds16 w b t l) : b < w.heap.size := (Array.getElem?_eq_some_iff.1 h).1
theorem Holds16.alloc {w : World} {b : Nat} {t : TypeId} {l : List Nat} (h : Holds16 w b t l) (o : Obj) : Holds16 (w.alloc o) b t l := by
  have hl := h.lt
  unfold Holds16 at *
  rw [Below.heap_alloc w o b hl]
  exact h
theorem Holds16.below {w w' : World} {b : Nat} {t : TypeId} {l : List Nat} (h : Holds16 w b t l) (hb : Below w.heap.size w w') : Holds16 w' b t l := (hb.block b h.lt).trans h
theorem Holds16.row {w : World} {b : Nat} {t : TypeId} {l : List Nat} (h : Holds16 w b t l) (m : List Nat) : Holds16 (w.setRow b (nums16 m).toArray) b t m := setRow_heap w b _ _ t _ h
theorem Holds16.shows {w : World} {b : Nat} {t : TypeId} {l : List Nat} (h : Holds16 w b t l) : Shows w w.heap.size (some ⟨b, 0, none⟩) l.length (nums16 l) := by
  refine ⟨nums16_length l, fun _ => ⟨_, rfl, h.lt, fun j u hu => ?_⟩⟩
  have ha : (⟨b, 0, none⟩ : Addr).add j = ⟨b, j, none⟩ := by
    unfold Addr.add
    by_cases hj0 : j = 0 <;> simp [hj0]
  rw [ha, cell_of_row w b j _ _ _ h]
  simpa using hu
theorem nums16_all (l : List Nat) : (nums16 l).toArray.all (·.oneCell') = true := by simp [nums16, Value.oneCell']
theorem nums16_size (l : List Nat) : (nums16 l).toArray.size = l.length := by simp [nums16]
def none16 : List Nat := List.replicate 120 0
theorem none16_len : none16.length = 120 := by rw [none16, List.length_replicate]
theorem pg_zero (w : World) : (zeroValue 129).run Tryd.prog w = .ok (.agg (nums16 none16).toArray) w := by kernel_rfl
theorem pg_size : (Tryd.prog.info? 129).map (·.size) = some 120 := by kernel_rfl
theorem or16 (x y : UInt8) : bits .or .u16 (x.toNat : Int) ((y.toNat : Int) * 256) = ((x.toNat + 256 * y.toNat : Nat) : Int) := by
  have hx := x.toNat_lt
  have hy := y.toNat_lt
  have e1 : ((y.toNat : Int) * 256) = ((256 * y.toNat : Nat) : Int) := by omega
  rw [e1, u16_or_nat _ _ (by omega) (by omega)]
  have := Nat.two_pow_add_eq_or_of_lt (i := 8) (b := x.toNat) (by omega) y.toNat
  rw [Nat.or_comm]
  congr 1
  rw [show (2 : Nat) ^ 8 = 256 by decide] at this
  omega
theorem two_at (l : List UInt8) (p : Nat) (h : p + 1 < l.length) : (l.drop p).take 2 = [l[p]'(by omega), l[p + 1]'h] := by
  rw [List.drop_eq_getElem_cons (by omega), List.drop_eq_getElem_cons h]
  rfl
theorem cntAt_two (l : List UInt8) (i : Nat) (h : 16 + 2 * i + 1 < l.length) : cntAt l i = (l[16 + 2 * i]'(by omega)).toNat + 256 * (l[16 + 2 * i + 1]'h).toNat := by
  rw [cntAt, two_at l _ h]
  simp [numN]

/-- the boxes of read -/
structure RP (w W : World) (z : List Nat) (x : List UInt8) (l : List Nat) : Prop where
  x : Holds8 W w.heap.size 29 x
  z : Holds16 W (w.heap.size + 1) 129 z
  p : Holds16 W (w.heap.size + 1 + 1) 129 l
  bel : Below w.heap.size w W
set_option maxRecDepth 20000 in
set_option maxHeartbeats 4000000 in
theorem vread_any (w : World) (x : List UInt8) (hx : x.length = 256) : Calls Tryd.prog 72 #[.agg (cells8 x).toArray] w fun e w' => e = .returned (.agg (nums16 (cntOf x 120)).toArray) ∧ Below w.heap.size w w' := by
  have hz := pg_zero
  have h1 := ((Holds8.new w 29 x _ rfl).alloc (.cells (nums16 none16).toArray 129)).alloc (.cells (nums16 none16).toArray 129)
  have h2 := (Holds16.new (w.alloc (.cells (cells8 x).toArray 29)) 129 none16).alloc (.cells (nums16 none16).toArray 129)
  have h3 := Holds16.new ((w.alloc (.cells (cells8 x).toArray 29)).alloc (.cells (nums16 none16).toArray 129)) 129 none16
  have h4 := (((Below.refl w.heap.size w).alloc (Nat.le_refl _) (.cells (cells8 x).toArray 29)).alloc (by simp) (.cells (nums16 none16).toArray 129)).alloc (by simp; omega) (.cells (nums16 none16).toArray 129)
  simp only [World.size_alloc] at h2 h3
  have H0 : Hid (RP w (((w.alloc (.cells (cells8 x).toArray 29)).alloc (.cells (nums16 none16).toArray 129)).alloc (.cells (nums16 none16).toArray 129)) none16 x (cntTo x 0)) := ⟨h1, h2, h3, h4⟩
  have HX := Lib.hid hx
  have HN := Lib.hid none16_len
  clear h1 h2 h3 h4 hx
  generalize none16 = z at *
  go_enter Tryd.func72, Tryd.ntmps72
  go_wp2
  go_loopw [6, 4, 5] (fun j a b wr => ∃ i : Nat, i ≤ 120 ∧ j = .int .i64 (i : Int) ∧ Hid (RP w wr z x (cntTo x i))) (fun j _ _ _ => 120 - (intOf j).toNat)
  case atStart => exact ⟨0, by omega, rfl, H0⟩
  case round =>
    obtain ⟨i, hi, rfl, HR⟩ := hrel
    rename_i wr
    clear H0
    by_cases hlt : i < 120
    · have hltI : (i : Int) < 120 := by omega
      have HCI := Lib.hid (vcount_any wr w.heap.size i hlt)
      have c0 := HR.out.x.cell (16 + 2 * i) (by rw [HX.out]; omega)
      have c1 := HR.out.x.cell (16 + 2 * i + 1) (by rw [HX.out]; omega)
      have c2 := HR.out.p.cell i (by rw [cntTo_length x i hi]; exact hlt)
      have f2 := HR.out.p.frozen i
      have hcn := cntAt_two x i (by rw [HX.out]; omega)
      have hor := or16 (x[16 + 2 * i]'(by rw [HX.out]; omega)) (x[16 + 2 * i + 1]'(by rw [HX.out]; omega))
      rw [← hcn] at hor
      have hp := HR.out.p.set i (cntAt x i)
      rw [cntTo_set x i hlt] at hp
      have HP : Hid (RP w ((wr.setCell ⟨w.heap.size + 1 + 1, i, none⟩ (.int .u16 ((cntAt x i : Nat) : Int))).drew) z x (cntTo x (i + 1))) := ⟨HR.out.x.other (by simp; omega) _, HR.out.z.other (by simp) _, hp, (HR.out.bel.setCell (by simp; omega) _).drew⟩
      have hb0 := (x[16 + 2 * i]'(by rw [HX.out]; omega)).toNat_lt
      have hb1 := (x[16 + 2 * i + 1]'(by rw [HX.out]; omega)).toNat_lt
      clear hp hcn HR
      generalize cntAt x i = v at *
      generalize (x[16 + 2 * i]'_).toNat = b0 at *
      generalize (x[16 + 2 * i + 1]'_).toNat = b1 at *
      generalize 16 + 2 * i = q at *
      go_wp2_with (first
        | (go_at_call 71; (with_reducible refine HCI.out.mono ?_); rintro e w5 ⟨rfl, rfl⟩)
        | fail)
      first
        | go_region
        | fail
      go_wp2
      go_roundw
      case rel => exact ⟨i + 1, by omega, by go_num, HP⟩
      case measure => simp [intOf]; omega
    · obtain rfl : i = 120 := by omega
      have hltI : ¬ (120 : Int) < (120 : Int) := by omega
      have hr := HR.out
      rw [cntTo_all] at hr
      have HR := Lib.hid hr
      have HCL := Lib.hid (cntOf_length x 120)
      clear hr
      generalize hy : cntOf x 120 = y at *
      have HY := Lib.hid hy
      clear hy
      go_wp2_with (first
        | refine wpList_load_row rfl 129 (.tmp 3) rfl (w.heap.size + 1 + 1) rfl 129 (nums16 y).toArray (0, 0) _ HR.out.p Tryd.underlying129 rfl (by rw [pg_size, nums16_size, HCL.out]) ?_
        | refine wpList_store_row rfl 129 (.tmp 2) (.tmp 24) rfl (w.heap.size + 1) (nums16 y).toArray rfl rfl 129 (nums16 z).toArray HR.out.z (by rw [pg_size, nums16_size, HCL.out]) (by rw [nums16_size, nums16_size, HCL.out, HN.out]) (nums16_all _) ?_
        | fail)
      exact bodyPost_ret (results_cell_row rfl _ _ (w.heap.size + 1) 129 (nums16 y).toArray (0, 0) _ rfl (HR.out.z.row y) Tryd.underlying129 rfl (by rw [pg_size, nums16_size, HCL.out])) rfl ⟨by rw [HY.out], below_setRow HR.out.bel (by simp) _⟩
end Go.Proofs.YtojbajbghldoeaaDoor
