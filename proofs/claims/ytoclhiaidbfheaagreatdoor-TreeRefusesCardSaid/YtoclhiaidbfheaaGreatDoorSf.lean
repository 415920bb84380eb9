/- super's Of. -/
import Derived.Test.YtoclhiaidbfheaaGreatDoorSe
import Derived.Test.YtoclhiaidbfheaaGreatDoorBj
set_option linter.unusedVariables false
namespace Go.Proofs.YtoclhiaidbfheaaGreatDoor
open Go.RowKit

/-- a block's j-th number -/
def numAt (l : List UInt8) (j : Nat) : Nat := numN ((l.drop (8 + offTo j)).take (widL.getD j 0))
/-- the first i of a block's numbers, the rest 0 -/
def numsTo (l : List UInt8) (i : Nat) : List Nat := (List.range 19).map fun j => if j < i then numAt l j else 0
theorem numsTo_len (l : List UInt8) (i : Nat) : (numsTo l i).length = 19 := by simp [numsTo]
theorem numsTo_set (l : List UInt8) (i : Nat) (h : i < 19) : ((nums64 (numsTo l i)).toArray.setIfInBounds i (.int .u64 ((numAt l i : Nat) : Int))) = (nums64 (numsTo l (i + 1))).toArray := by
  apply Array.ext
  · simp [nums64, numsTo]
  · intro j h1 h2
    have hj : j < 19 := by simpa [nums64, numsTo] using h2
    rw [Array.getElem_setIfInBounds (by simpa [nums64, numsTo] using hj)]
    by_cases e : i = j
    · subst e
      simp [nums64, numsTo]
    · rw [if_neg e]
      have e1 : (j < i + 1) = (j < i) := by rw [eq_iff_iff]; omega
      simp [nums64, numsTo, e1]
def widC : List Value := widL.map fun n : Nat => .int .i64 (n : Int)
theorem Wids.range {w : World} (h : Wids w) : w.rangeAt 0 0 widC := fun j u hu => by
  have hj : j < 19 := by
    rcases Nat.lt_or_ge j 19 with h1 | h1
    · exact h1
    · rw [List.getElem?_eq_none (by simpa [widC, widL] using h1)] at hu; cases hu
  rw [Nat.zero_add, h j hj, ← hu]
  have : j < widL.length := by simpa [widL] using hj
  simp [widC, List.getD, this]
theorem wid_u : Tryz.prog.underlying 314 = some (.array 19 3) := Tryz.underlying314
theorem wid_sz : (Tryz.prog.info? 314).map (·.size) = some widC.length := by kernel_rfl
theorem index_wid (i : Nat) (hi : i < 19) (w : World) : (Instr.index 314 (.agg widC.toArray) (.int .i64 (i : Int))).run Tryz.prog w = .ok (.int .i64 ((widL.getD i 0 : Nat) : Int)) w := by
  have hl : i < widL.length := by simpa [widL] using hi
  have h1 : widC[i]? = some (.int .i64 ((widL.getD i 0 : Nat) : Int)) := by simp [widC, List.getD, hl]
  simp [Instr.index, run_underlying Tryz.underlying314, asIntOf, hi, part, run_underlying Tryz.underlying3, isAgg, h1, go_sem]

theorem numAt_lt (l : List UInt8) (j : Nat) : numAt l j < 256 ^ (widL.getD j 0) := by
  refine Nat.lt_of_lt_of_le (numN_lt _) (Nat.pow_le_pow_right (by omega) ?_)
  simp only [List.length_take]
  omega
theorem nums_at (l : List UInt8) : (nums64 (numsTo l 19)).toArray = #[.int .u64 ((numAt l 0) : Int), .int .u64 ((numAt l 1) : Int), .int .u64 ((numAt l 2) : Int), .int .u64 ((numAt l 3) : Int), .int .u64 ((numAt l 4) : Int), .int .u64 ((numAt l 5) : Int), .int .u64 ((numAt l 6) : Int), .int .u64 ((numAt l 7) : Int), .int .u64 ((numAt l 8) : Int), .int .u64 ((numAt l 9) : Int), .int .u64 ((numAt l 10) : Int), .int .u64 ((numAt l 11) : Int), .int .u64 ((numAt l 12) : Int), .int .u64 ((numAt l 13) : Int), .int .u64 ((numAt l 14) : Int), .int .u64 ((numAt l 15) : Int), .int .u64 ((numAt l 16) : Int), .int .u64 ((numAt l 17) : Int), .int .u64 ((numAt l 18) : Int)] := rfl
def superCells (l : List UInt8) : Array Value := #[.int .u64 ((numAt l 0) : Int), .int .i64 ((numAt l 1) : Int), .int .i64 ((numAt l 2) : Int), .int .u32 ((numAt l 3) : Int), .int .u32 ((numAt l 4) : Int), .int .u32 ((numAt l 5) : Int), .int .u32 ((numAt l 6) : Int), .int .u32 ((numAt l 7) : Int), .int .u32 ((numAt l 8) : Int), .int .u32 ((numAt l 9) : Int), .int .u32 ((numAt l 10) : Int), .int .u32 ((numAt l 11) : Int), .int .i64 ((numAt l 12) : Int), .int .u64 ((numAt l 13) : Int), .int .u64 ((numAt l 14) : Int), .int .u64 ((numAt l 15) : Int), .int .u64 ((numAt l 16) : Int), .int .u64 ((numAt l 17) : Int), .bool (decide ((numAt l 18) = 1))]
def superMay (l : List UInt8) : Bool := mayS (numAt l 0) ((numAt l 1 : Nat) : Int) ((numAt l 2 : Nat) : Int) ((numAt l 12 : Nat) : Int) [(numAt l 3), (numAt l 4), (numAt l 5), (numAt l 6), (numAt l 7), (numAt l 8), (numAt l 9), (numAt l 10), (numAt l 11)]
def superImg (l : List UInt8) : List UInt8 := imgS [(numAt l 0), (numAt l 1), (numAt l 2), (numAt l 3), (numAt l 4), (numAt l 5), (numAt l 6), (numAt l 7), (numAt l 8), (numAt l 9), (numAt l 10), (numAt l 11), (numAt l 12), (numAt l 13), (numAt l 14), (numAt l 15), (numAt l 16), (numAt l 17), bitN (decide ((numAt l 18) = 1))]
theorem superOf_at (w : World) (l : List UInt8) : Calls Tryz.prog 231 #[.agg (nums64 (numsTo l 19)).toArray] w fun e w' => e = .returned (.agg (superCells l)) ∧ Below w.heap.size w w' := by
  rw [nums_at]
  have h4 : ∀ j, widL.getD j 0 = 4 → numAt l j < 4294967296 := fun j h => by have := numAt_lt l j; rw [h] at this; exact this
  exact superOf_any w (numAt l 0) (numAt l 1) (numAt l 2) (numAt l 3) (numAt l 4) (numAt l 5) (numAt l 6) (numAt l 7) (numAt l 8) (numAt l 9) (numAt l 10) (numAt l 11) (numAt l 12) (numAt l 13) (numAt l 14) (numAt l 15) (numAt l 16) (numAt l 17) (numAt l 18) ⟨h4 1 rfl, h4 2 rfl, h4 3 rfl, h4 4 rfl, h4 5 rfl, h4 6 rfl, h4 7 rfl, h4 8 rfl, h4 9 rfl, h4 10 rfl, h4 11 rfl, h4 12 rfl, by have := numAt_lt l 18; exact this⟩
def sbX (b : Bool) (l : List UInt8) : List UInt8 := match b with | true => superImg l | false => noughts
def sbE (b : Bool) : Int := match b with | true => 0 | false => 2
theorem sbX_len (b : Bool) (l : List UInt8) : (sbX b l).length = 256 := by cases b with | true => exact imgS_len _ | false => exact noughts_len
theorem superBlock_at (w : World) (hT : Tabs w) (hW : Wids w) (l : List UInt8) : Calls Tryz.prog 148 #[.agg (superCells l)] w fun e w' => e = .returned (.tuple #[.agg (cells8 (sbX (superMay l) l)).toArray, .int .i64 (sbE (superMay l))]) ∧ Below w.heap.size w w' := by
  have h4 : ∀ j, widL.getD j 0 = 4 → numAt l j < 4294967296 := fun j h => by have := numAt_lt l j; rw [h] at this; exact this
  have h8 : numAt l 0 < 18446744073709551616 := by have := numAt_lt l 0; exact this
  cases hm : superMay l with
  | true => exact sblock_ok w hT hW (numAt l 0) (numAt l 1) (numAt l 2) (numAt l 3) (numAt l 4) (numAt l 5) (numAt l 6) (numAt l 7) (numAt l 8) (numAt l 9) (numAt l 10) (numAt l 11) (numAt l 12) (numAt l 13) (numAt l 14) (numAt l 15) (numAt l 16) (numAt l 17) (decide ((numAt l 18) = 1)) ⟨h8, h4 1 rfl, h4 2 rfl, h4 12 rfl, h4 3 rfl, h4 4 rfl, h4 5 rfl, h4 6 rfl, h4 7 rfl, h4 8 rfl, h4 9 rfl, h4 10 rfl, h4 11 rfl⟩ hm
  | false => exact sblock_bad w (numAt l 0) ((numAt l 1 : Nat) : Int) ((numAt l 2 : Nat) : Int) ((numAt l 12 : Nat) : Int) (numAt l 3) (numAt l 4) (numAt l 5) (numAt l 6) (numAt l 7) (numAt l 8) (numAt l 9) (numAt l 10) (numAt l 11) (numAt l 13) (numAt l 14) (numAt l 15) (numAt l 16) (numAt l 17) (decide ((numAt l 18) = 1)) ⟨h4 3 rfl, h4 4 rfl, h4 5 rfl, h4 6 rfl, h4 7 rfl, h4 8 rfl, h4 9 rfl, h4 10 rfl, h4 11 rfl⟩ hm

def superOfB (l : List UInt8) : Bool := superMay l && (superImg l == l)
def zeroSC : Array Value := #[.int .u64 0, .int .i64 0, .int .i64 0, .int .u32 0, .int .u32 0, .int .u32 0, .int .u32 0, .int .u32 0, .int .u32 0, .int .u32 0, .int .u32 0, .int .u32 0, .int .i64 0, .int .u64 0, .int .u64 0, .int .u64 0, .int .u64 0, .int .u64 0, .bool false]
def ofV (b : Bool) (l : List UInt8) : Array Value := match b with | true => superCells l | false => zeroSC
def ofE (b : Bool) : Int := match b with | true => 0 | false => 4
theorem superCells_size (l : List UInt8) : (superCells l).size = 19 := rfl
theorem superCells_all (l : List UInt8) : (superCells l).all (·.oneCell') = true := by simp [superCells, Value.oneCell']
/-- the boxes of Of: the block, the result, the numbers -/
structure DB (w W : World) (b q : Nat) (l : List UInt8) (qv : Array Value) : Prop where
  n : Holds8 W b 151 l
  z : W.heap[b + 1]? = some (.cells #[.int .u64 0, .int .i64 0, .int .i64 0, .int .u32 0, .int .u32 0, .int .u32 0, .int .u32 0, .int .u32 0, .int .u32 0, .int .u32 0, .int .u32 0, .int .u32 0, .int .i64 0, .int .u64 0, .int .u64 0, .int .u64 0, .int .u64 0, .int .u64 0, .bool false] 144 (0, 0))
  s : W.heap[q]? = some (.cells qv 311 (0, 0))
  l : w.heap.size = b ∧ b + 1 < q
  bel : Below w.heap.size w W
theorem DB.set {w W : World} {b q : Nat} {l : List UInt8} {qv qv' : Array Value} (h : DB w W b q l qv) (i : Nat) (u : Value) (he : qv.setIfInBounds i u = qv') : DB w (W.setCell ⟨q, i, none⟩ u) b q l qv' := by
  subst he
  have hl := h.l
  exact ⟨h.n.other (by simp; omega) u, (Below.heap_setCell _ _ _ _ (by simp; omega)).trans h.z, Joins.block_setCell h.s u, h.l, h.bel.setCell (by simp; omega) _⟩
theorem DB.below {w W W' : World} {b q : Nat} {l : List UInt8} {qv : Array Value} (h : DB w W b q l qv) (hb : Below W.heap.size W W') : DB w W' b q l qv :=
  ⟨h.n.below hb, (hb.block _ (Array.getElem?_eq_some_iff.1 h.z).1).trans h.z, (hb.block _ (Array.getElem?_eq_some_iff.1 h.s).1).trans h.s, h.l, h.bel.trans (hb.mono h.bel.size)⟩
theorem DB.num {w W : World} {b q : Nat} {l : List UInt8} {qv : Array Value} (h : DB w W b q l qv) (hl : l.length = 256) (i : Nat) (hi : i < 19) (cc : Nat) :
    Calls Tryz.prog 230 #[.slice (some ⟨b, 8 + offTo i, none⟩) (widL.getD i 0) cc] W fun e w' => e = .returned (.int .u64 ((numAt l i : Nat) : Int)) ∧ w' = W := by
  have hof := off_facts i hi
  have h1 := h.n.shows.from_ (k := 8 + offTo i) (cap := 257) (by omega) (by omega)
  rw [if_neg (by omega), ← cells8_drop] at h1
  have h2 := h1.upto (k := widL.getD i 0) (by omega)
  rw [← cells8_take] at h2
  have e : ((l.drop (8 + offTo i)).take (widL.getD i 0)).length = widL.getD i 0 := by simp only [List.length_take, List.length_drop]; omega
  have e2 : (⟨b, 0, none⟩ : Addr).add (8 + offTo i) = ⟨b, 8 + offTo i, none⟩ := by unfold Addr.add; split <;> simp_all
  have h3 : Shows W W.heap.size (some ⟨b, 8 + offTo i, none⟩) ((l.drop (8 + offTo i)).take (widL.getD i 0)).length (cells8 ((l.drop (8 + offTo i)).take (widL.getD i 0))) := by
    rw [e]
    simpa only [Option.map_some, e2] using h2
  have := snumber_any W W.heap.size _ cc _ h3 (by rw [e]; omega)
  rw [e] at this
  exact this

set_option maxRecDepth 10000 in
set_option maxHeartbeats 4000000 in
theorem sof_any (w : World) (hT : Tabs w) (hW : Wids w) (l : List UInt8) (hl : l.length = 256) :
    Calls Tryz.prog 195 #[.agg (cells8 l).toArray] w fun e w' => e = .returned (.tuple #[.agg (ofV (superOfB l) l), .int .i64 (ofE (superOfB l))]) ∧ Below w.heap.size w w' := by
  have hz := num_zero
  have HZS : Hid (zero19 = (nums64 (numsTo l 0)).toArray) := (rfl : zero19 = (nums64 (numsTo l 0)).toArray)
  generalize hzz : zero19 = z at *
  clear hzz
  have hcs := cells8_size l
  go_enter Tryz.func195, Tryz.ntmps195
  go_upto_region 1 with fail
  have H0 : Hid (Holds8 ((w.alloc (.cells (cells8 l).toArray 151)).alloc (.cells #[.int .u64 0, .int .i64 0, .int .i64 0, .int .u32 0, .int .u32 0, .int .u32 0, .int .u32 0, .int .u32 0, .int .u32 0, .int .u32 0, .int .u32 0, .int .u32 0, .int .i64 0, .int .u64 0, .int .u64 0, .int .u64 0, .int .u64 0, .int .u64 0, .bool false] 144)) w.heap.size 151 l ∧ ((w.alloc (.cells (cells8 l).toArray 151)).alloc (.cells #[.int .u64 0, .int .i64 0, .int .i64 0, .int .u32 0, .int .u32 0, .int .u32 0, .int .u32 0, .int .u32 0, .int .u32 0, .int .u32 0, .int .u32 0, .int .u32 0, .int .i64 0, .int .u64 0, .int .u64 0, .int .u64 0, .int .u64 0, .int .u64 0, .bool false] 144)).heap[w.heap.size + 1]? = some (.cells #[.int .u64 0, .int .i64 0, .int .i64 0, .int .u32 0, .int .u32 0, .int .u32 0, .int .u32 0, .int .u32 0, .int .u32 0, .int .u32 0, .int .u32 0, .int .u32 0, .int .i64 0, .int .u64 0, .int .u64 0, .int .u64 0, .int .u64 0, .int .u64 0, .bool false] 144 (0, 0)) ∧ Below w.heap.size w ((w.alloc (.cells (cells8 l).toArray 151)).alloc (.cells #[.int .u64 0, .int .i64 0, .int .i64 0, .int .u32 0, .int .u32 0, .int .u32 0, .int .u32 0, .int .u32 0, .int .u32 0, .int .u32 0, .int .u32 0, .int .u32 0, .int .i64 0, .int .u64 0, .int .u64 0, .int .u64 0, .int .u64 0, .int .u64 0, .bool false] 144)) ∧ ((w.alloc (.cells (cells8 l).toArray 151)).alloc (.cells #[.int .u64 0, .int .i64 0, .int .i64 0, .int .u32 0, .int .u32 0, .int .u32 0, .int .u32 0, .int .u32 0, .int .u32 0, .int .u32 0, .int .u32 0, .int .u32 0, .int .i64 0, .int .u64 0, .int .u64 0, .int .u64 0, .int .u64 0, .int .u64 0, .bool false] 144)).heap.size = w.heap.size + 2) := by
    have h2 := heap_alloc_new (w.alloc (.cells (cells8 l).toArray 151)) (.cells #[.int .u64 0, .int .i64 0, .int .i64 0, .int .u32 0, .int .u32 0, .int .u32 0, .int .u32 0, .int .u32 0, .int .u32 0, .int .u32 0, .int .u32 0, .int .u32 0, .int .i64 0, .int .u64 0, .int .u64 0, .int .u64 0, .int .u64 0, .int .u64 0, .bool false] 144)
    simp only [World.size_alloc] at h2
    exact ⟨(Holds8.new w 151 l _ rfl).alloc _, h2, ((Below.refl w.heap.size w).alloc (Nat.le_refl _) _).alloc (by simp) _, by simp⟩
  generalize (w.alloc (.cells (cells8 l).toArray 151)).alloc (.cells #[.int .u64 0, .int .i64 0, .int .i64 0, .int .u32 0, .int .u32 0, .int .u32 0, .int .u32 0, .int .u32 0, .int .u32 0, .int .u32 0, .int .u32 0, .int .u32 0, .int .i64 0, .int .u64 0, .int .u64 0, .int .u64 0, .int .u64 0, .int .u64 0, .bool false] 144) = w1 at *
  have HD : Hid (DB w (w1.alloc (.cells z 311)) w.heap.size w1.heap.size l (nums64 (numsTo l 0)).toArray) := ⟨H0.out.1.alloc _, heap_alloc' H0.out.2.1, by rw [← HZS.out]; exact heap_alloc_new w1 _, ⟨rfl, by have := H0.out.2.2.2; omega⟩, H0.out.2.2.1.alloc H0.out.2.2.1.size _⟩
  go_upto_region 2 with fail
  clear hz HZS H0
  generalize w1.alloc (.cells z 311) = w2 at *
  generalize w1.heap.size = q at *
  go_wp2_with (first
    | refine wpList_load_mid rfl 314 (.global 0) rfl 0 0 rfl widC _ (hW.below HD.out.bel hW.size).range wid_u rfl wid_sz ?_
    | fail)
  go_loopw [12, 5, 6, 7] (fun j a x y wr => ∃ i : Nat, i ≤ 19 ∧ j = .int .i64 (i : Int) ∧ a = .int .i64 ((8 + offTo i : Nat) : Int) ∧ Hid (DB w wr w.heap.size q l (nums64 (numsTo l i)).toArray)) (fun j _ _ _ _ => 19 - (intOf j).toNat)
  case atStart => exact ⟨0, by omega, rfl, rfl, HD⟩
  case round =>
    obtain ⟨i, hi, rfl, rfl, HR⟩ := hrel
    rename_i wr
    by_cases hlt : i < 19
    · have hltI : (i : Int) < 19 := by omega
      have hof := off_facts i hlt
      have hix := fun W : World => index_wid i hlt W
      have HNUM := Lib.hid (fun cc => HR.out.num hl i hlt cc)
      have HSET := Lib.hid (HR.out.set i (.int .u64 ((numAt l i : Nat) : Int)) (numsTo_set l i hlt))
      obtain ⟨u0, hc0⟩ : ∃ u, wr.cell? ⟨q, i, none⟩ = some u := by
        rw [cell_of_row wr q i _ _ _ HR.out.s]
        exact ⟨_, Array.getElem?_eq_getElem (by simp [nums64, numsTo_len]; exact hlt)⟩
      have hfz : wr.frozen? ⟨q, i, none⟩ = false := Joins.unfrozen_of_block HR.out.s i
      have HOX := Lib.hid (show 8 + offTo (i + 1) = 8 + offTo i + widL.getD i 0 by rw [Nat.add_assoc]; rfl)
      have hp97 : 8 + offTo i + widL.getD i 0 ≤ 105 := by omega
      clear hof HR HD
      generalize 8 + offTo i = p at *
      generalize widL.getD i 0 = v at *
      generalize numAt l i = n at *
      have hsl := fun W : World => slice_blk w.heap.size p v hp97 W
      go_wp2_with (first
        | (go_at_call 230; (with_reducible refine (HNUM.out _).mono ?_); rintro e w6 ⟨rfl, rfl⟩)
        | fail)
      go_roundw
      case rel => exact ⟨i + 1, by omega, by go_num, by rw [HOX.out]; go_num, HSET⟩
      case measure => simp [intOf]; omega
    · obtain rfl : i = 19 := by omega
      have hltI : ¬ (19 : Int) < 19 := by omega
      have HRR := Lib.hid HR.out
      have hst := fun w => store_blk w noughts (sbX (superMay l) l) noughts_len (sbX_len _ l)
      have hz2 := blk_zero
      have HXL := Lib.hid (sbX_len (superMay l) l)
      have hcs2 : (cells8 (sbX (superMay l) l)).toArray.size = 256 := (cells8_size _).trans HXL.out
      have hcs3 : (cells8 noughts).toArray.size = 256 := (cells8_size _).trans noughts_len
      have HBK := Lib.hid (fun (W : World) (h : Below w.heap.size w W) => superBlock_at W (hT.below h hT.size) (hW.below h hW.size) l)
      clear HD hcs
      generalize hX : sbX (superMay l) l = X at *
      have HX := Lib.hid hX
      clear hX
      generalize hE : sbE (superMay l) = E at *
      have HE := Lib.hid hE
      clear hE
      generalize hZ : noughts = zz at hst hz2 hcs3
      clear hZ
      go_wp2_with (first
        | refine wpList_load_row rfl 311 (.tmp 4) rfl q rfl 311 (nums64 (numsTo l 19)).toArray (0, 0) _ HR.out.s Tryz.underlying311 rfl (by rw [n19_size]; simp [nums64, numsTo_len]) ?_
        | (go_at_call 231; (with_reducible refine (superOf_at _ l).mono ?_); rintro e w6 ⟨rfl, hb6⟩)
        | (refine wpList_store_row rfl 144 (.tmp 8) (.tmp 29) rfl w6.heap.size (superCells l) rfl rfl 144 #[.int .u64 0, .int .i64 0, .int .i64 0, .int .u32 0, .int .u32 0, .int .u32 0, .int .u32 0, .int .u32 0, .int .u32 0, .int .u32 0, .int .u32 0, .int .u32 0, .int .i64 0, .int .u64 0, .int .u64 0, .int .u64 0, .int .u64 0, .int .u64 0, .bool false] (heap_alloc_new w6 _) (by rw [superCells_size]; exact super_size) rfl (superCells_all l) ?_; rw [World.setRow_alloc_new]; have H7 : Hid (DB w (w6.alloc (.cells (superCells l) 144)) w.heap.size q l (nums64 (numsTo l 19)).toArray) := (HRR.out.below hb6).below ((Below.refl _ _).alloc (Nat.le_refl _) _))
        | refine wpList_load_row rfl 144 (.tmp 8) rfl w6.heap.size rfl 144 (superCells l) (0, 0) _ (heap_alloc_new w6 _) Tryz.underlying144 rfl (by rw [superCells_size]; exact super_size) ?_
        | (go_at_call 148; (with_reducible refine (HBK.out _ H7.out.bel).mono ?_); rintro e w8 ⟨rfl, hb8⟩; have H8 := Lib.hid (H7.out.below hb8); have HS8 := Lib.hid ((hb8.block w6.heap.size (by simp)).trans (heap_alloc_new w6 _)))
        | fail)
      have H9 : Hid (DB w (w8.alloc (.cells (cells8 X).toArray 151)) w.heap.size q l (nums64 (numsTo l 19)).toArray) := H8.out.below ((Below.refl _ _).alloc (Nat.le_refl _) _)
      have HI9 : Hid (Holds8 (w8.alloc (.cells (cells8 X).toArray 151)) w8.heap.size 151 X) := Holds8.new w8 _ X _ rfl
      have HS9 := Lib.hid (heap_alloc' (o := .cells (cells8 X).toArray 151) HS8.out)
      have HLL := Lib.hid hl
      have hXS : (cells8 X).toArray.size = 256 := hcs2
      clear H8 HS8 HBK hst HR HRR
      generalize w8.alloc (.cells (cells8 X).toArray 151) = w9 at *
      generalize w8.heap.size = i8 at *
      generalize w6.heap.size = i6 at *
      have HU : Hid (superOfB l = (superMay l && (superImg l == l))) := rfl
      generalize hob : superOfB l = ob at *
      have HOB := Lib.hid hob
      clear hob
      generalize hmm : superMay l = mm at *
      clear hmm
      cases mm with
      | false =>
        obtain rfl : E = 2 := HE.out.symm
        obtain rfl : ob = false := HU.out
        go_wp2_with (first
          | refine wpList_load_row rfl 151 (.tmp 1) rfl w.heap.size rfl 151 (cells8 l).toArray (0, 0) _ H9.out.n Tryz.underlying151 rfl (by rw [blk_size, cells8_size, HLL.out]) ?_
          | refine wpList_store_row rfl 144 (.tmp 2) (.tmp 42) rfl (w.heap.size + 1) #[.int .u64 0, .int .i64 0, .int .i64 0, .int .u32 0, .int .u32 0, .int .u32 0, .int .u32 0, .int .u32 0, .int .u32 0, .int .u32 0, .int .u32 0, .int .u32 0, .int .i64 0, .int .u64 0, .int .u64 0, .int .u64 0, .int .u64 0, .int .u64 0, .bool false] rfl rfl 144 #[.int .u64 0, .int .i64 0, .int .i64 0, .int .u32 0, .int .u32 0, .int .u32 0, .int .u32 0, .int .u32 0, .int .u32 0, .int .u32 0, .int .u32 0, .int .u32 0, .int .i64 0, .int .u64 0, .int .u64 0, .int .u64 0, .int .u64 0, .int .u64 0, .bool false] H9.out.z (by exact super_size) rfl (by simp [Value.oneCell']) ?_
          | fail)
        exact bodyPost_ret (results_cell_tmp rfl _ _ (w.heap.size + 1) 144 #[.int .u64 0, .int .i64 0, .int .i64 0, .int .u32 0, .int .u32 0, .int .u32 0, .int .u32 0, .int .u32 0, .int .u32 0, .int .u32 0, .int .u32 0, .int .u32 0, .int .i64 0, .int .u64 0, .int .u64 0, .int .u64 0, .int .u64 0, .int .u64 0, .bool false] (0, 0) _ (.int .i64 4) rfl rfl (setRow_heap _ _ _ _ _ _ H9.out.z) Tryz.underlying144 rfl (by exact super_size)) rfl ⟨by rw [HOB.out]; rfl, below_setRow H9.out.bel (by simp) _⟩
      | true =>
        obtain rfl : E = 0 := HE.out.symm
        have h00 : ((0 : Int) != 0) = false := rfl
        simp only [h00]
        have hneq := fun w => neq_blk X l HXL.out hl w
        have HXI : Hid (superImg l = X) := HX.out
        rw [HXI.out] at HU
        generalize hr : (X == l) = r at *
        clear hr
        cases r with
        | false =>
          obtain rfl : ob = false := HU.out
          have hneq2 : ∀ w : World, (binOp .neq 151 (.agg (cells8 X).toArray) (.agg (cells8 l).toArray)).run Tryz.prog w = .ok (.bool true) w := hneq
          clear hneq
          go_wp2_with fail
          refine wp_load_row 151 (.tmp 9) rfl i8 rfl 151 (cells8 X).toArray (0, 0) _ HI9.out Tryz.underlying151 rfl (by rw [blk_size, hXS]) ?_
          go_wp2_with fail
          refine wp_load_row 151 (.tmp 1) rfl w.heap.size rfl 151 (cells8 l).toArray (0, 0) _ H9.out.n Tryz.underlying151 rfl (by rw [blk_size, cells8_size, HLL.out]) ?_
          go_wp2_with (first
            | refine wpList_load_row rfl 151 (.tmp 1) rfl w.heap.size rfl 151 (cells8 l).toArray (0, 0) _ H9.out.n Tryz.underlying151 rfl (by rw [blk_size, cells8_size, HLL.out]) ?_
            | refine wpList_store_row rfl 144 (.tmp 2) (.tmp 42) rfl (w.heap.size + 1) #[.int .u64 0, .int .i64 0, .int .i64 0, .int .u32 0, .int .u32 0, .int .u32 0, .int .u32 0, .int .u32 0, .int .u32 0, .int .u32 0, .int .u32 0, .int .u32 0, .int .i64 0, .int .u64 0, .int .u64 0, .int .u64 0, .int .u64 0, .int .u64 0, .bool false] rfl rfl 144 #[.int .u64 0, .int .i64 0, .int .i64 0, .int .u32 0, .int .u32 0, .int .u32 0, .int .u32 0, .int .u32 0, .int .u32 0, .int .u32 0, .int .u32 0, .int .u32 0, .int .i64 0, .int .u64 0, .int .u64 0, .int .u64 0, .int .u64 0, .int .u64 0, .bool false] H9.out.z (by exact super_size) rfl (by simp [Value.oneCell']) ?_
            | fail)
          exact bodyPost_ret (results_cell_tmp rfl _ _ (w.heap.size + 1) 144 #[.int .u64 0, .int .i64 0, .int .i64 0, .int .u32 0, .int .u32 0, .int .u32 0, .int .u32 0, .int .u32 0, .int .u32 0, .int .u32 0, .int .u32 0, .int .u32 0, .int .i64 0, .int .u64 0, .int .u64 0, .int .u64 0, .int .u64 0, .int .u64 0, .bool false] (0, 0) _ (.int .i64 4) rfl rfl (setRow_heap _ _ _ _ _ _ H9.out.z) Tryz.underlying144 rfl (by exact super_size)) rfl ⟨by rw [HOB.out]; rfl, below_setRow H9.out.bel (by simp) _⟩
        | true =>
          obtain rfl : ob = true := HU.out
          have hneq2 : ∀ w : World, (binOp .neq 151 (.agg (cells8 X).toArray) (.agg (cells8 l).toArray)).run Tryz.prog w = .ok (.bool false) w := hneq
          clear hneq
          go_wp2_with fail
          refine wp_load_row 151 (.tmp 9) rfl i8 rfl 151 (cells8 X).toArray (0, 0) _ HI9.out Tryz.underlying151 rfl (by rw [blk_size, hXS]) ?_
          go_wp2_with fail
          refine wp_load_row 151 (.tmp 1) rfl w.heap.size rfl 151 (cells8 l).toArray (0, 0) _ H9.out.n Tryz.underlying151 rfl (by rw [blk_size, cells8_size, HLL.out]) ?_
          go_wp2_with (first
            | refine wpList_load_row rfl 144 (.tmp 8) rfl i6 rfl 144 (superCells l) (0, 0) _ HS9.out Tryz.underlying144 rfl (by rw [superCells_size]; exact super_size) ?_
            | refine wpList_store_row rfl 144 (.tmp 2) (.tmp 43) rfl (w.heap.size + 1) (superCells l) rfl rfl 144 #[.int .u64 0, .int .i64 0, .int .i64 0, .int .u32 0, .int .u32 0, .int .u32 0, .int .u32 0, .int .u32 0, .int .u32 0, .int .u32 0, .int .u32 0, .int .u32 0, .int .i64 0, .int .u64 0, .int .u64 0, .int .u64 0, .int .u64 0, .int .u64 0, .bool false] H9.out.z (by rw [superCells_size]; exact super_size) rfl (superCells_all l) ?_
            | fail)
          exact bodyPost_ret (results_cell_tmp rfl _ _ (w.heap.size + 1) 144 (superCells l) (0, 0) _ (.int .i64 0) rfl rfl (setRow_heap _ _ _ _ _ _ H9.out.z) Tryz.underlying144 rfl (by rw [superCells_size]; exact super_size)) rfl ⟨by rw [HOB.out]; rfl, below_setRow H9.out.bel (by simp) _⟩
end Go.Proofs.YtoclhiaidbfheaaGreatDoor
