/- super's Block. -/
import Derived.Test.YtoclhiaidbfheaaGreatDoorSd
import Derived.Test.YtoclhiaidbfheaaGreatDoorBd
import Derived.Test.YtoclhiaidbfheaaGreatDoorBf
import Derived.Lib.BufferWrite
set_option linter.unusedVariables false
namespace Go.Proofs.YtoclhiaidbfheaaGreatDoor
open Go.RowKit

def widL : List Nat := [8, 4, 4, 4, 4, 4, 4, 4, 4, 4, 4, 4, 4, 8, 8, 8, 8, 8, 1]
/-- super's table of widths lies where its variable is -/
def Wids (w : World) : Prop := ∀ i, i < 19 → w.cell? ⟨0, i, none⟩ = some (.int .i64 ((widL.getD i 0 : Nat) : Int))
theorem Wids.below {w w' : World} {B : Nat} (h : Wids w) (hb : Below B w w') (hB : 0 < B) : Wids w' := fun i hi => (hb.cell (p := ⟨0, i, none⟩) hB).trans (h i hi)
theorem Wids.size {w : World} (h : Wids w) : 0 < w.heap.size := block_lt_of_cell (h 0 (by omega))
/-- the bytes of the first i numbers -/
def laidToS (l : List Nat) : Nat → List UInt8
  | 0 => []
  | i + 1 => laidToS l i ++ leN (widL.getD i 0) (l.getD i 0)
def offTo : Nat → Nat
  | 0 => 0
  | i + 1 => offTo i + widL.getD i 0
theorem laidTo_length (l : List Nat) : ∀ i, (laidToS l i).length = offTo i
  | 0 => rfl
  | i + 1 => by rw [laidToS, List.length_append, laidTo_length l i, leN_length]; rfl
theorem off_facts : ∀ i, i < 19 → offTo i + widL.getD i 0 ≤ 97 ∧ widL.getD i 0 ≤ 8 := by decide
def headS : List UInt8 := [0, 0, 0, 0, 86, 79, 73, 76]
def bodyS (l : List Nat) : List UInt8 := [86, 79, 73, 76] ++ laidToS l 19 ++ List.replicate 151 0
theorem off19 : offTo 19 = 97 := by decide
theorem bodyS_len (l : List Nat) : (bodyS l).length = 252 := by simp [bodyS, laidTo_length, off19]
def imgS (l : List Nat) : List UInt8 := leN 4 (sumB (bodyS l)) ++ bodyS l
theorem imgS_len (l : List Nat) : (imgS l).length = 256 := by simp [imgS, bodyS_len, leN_length]
/-- the block, so many numbers laid -/
def atS (l : List Nat) (i : Nat) : List UInt8 := headS ++ laidToS l i ++ List.replicate (248 - offTo i) 0
theorem atS_split (l : List Nat) (i : Nat) (h : i < 19) : atS l i = (headS ++ laidToS l i) ++ (List.replicate (widL.getD i 0) 0 ++ List.replicate (248 - offTo i - widL.getD i 0) 0) := by
  have := off_facts i h
  rw [List.replicate_append_replicate, show widL.getD i 0 + (248 - offTo i - widL.getD i 0) = 248 - offTo i by omega]
  rfl
theorem atS_next (l : List Nat) (i : Nat) : (headS ++ laidToS l i) ++ (leN (widL.getD i 0) (l.getD i 0) ++ List.replicate (248 - offTo i - widL.getD i 0) 0) = atS l (i + 1) := by
  simp only [atS, laidToS, offTo, List.append_assoc, Nat.sub_sub]
theorem atS_end (l : List Nat) : atS l 19 = [] ++ ([0, 0, 0, 0] ++ bodyS l) := by
  simp [atS, headS, bodyS, off19]

/-- the boxes of Block -/
structure KB (w W : World) (b bb : Nat) (nv : Array Value) (x : List UInt8) : Prop where
  n : W.heap[b]? = some (.cells nv 144 (0, 0))
  z : Holds8 W (b + 1) 151 noughts
  x : Holds8 W bb 151 x
  lt : b + 1 < bb
  bel : Below b w W
theorem KB.below {w W W' : World} {b bb : Nat} {nv : Array Value} {x : List UInt8} (h : KB w W b bb nv x) (hb : Below W.heap.size W W') : KB w W' b bb nv x :=
  ⟨(hb.block _ (Array.getElem?_eq_some_iff.1 h.n).1).trans h.n, h.z.below hb, h.x.below hb, h.lt, h.bel.trans (hb.mono (by have := (Array.getElem?_eq_some_iff.1 h.n).1; omega))⟩

set_option maxRecDepth 10000 in
set_option maxHeartbeats 4000000 in
theorem sblock_bad (w : World) (tx : Nat) (mt dt cu : Int) (p0 p1 p2 p3 p4 p5 tp ba sg ep la sq bl bs : Nat) (mk : Bool) (hb : p0 < 4294967296 ∧ p1 < 4294967296 ∧ p2 < 4294967296 ∧ p3 < 4294967296 ∧ p4 < 4294967296 ∧ p5 < 4294967296 ∧ tp < 4294967296 ∧ ba < 4294967296 ∧ sg < 4294967296) (hm : mayS tx mt dt cu [p0, p1, p2, p3, p4, p5, tp, ba, sg] = false) :
    Calls Tryz.prog 148 #[.agg #[.int .u64 (tx : Int), .int .i64 mt, .int .i64 dt, .int .u32 (p0 : Int), .int .u32 (p1 : Int), .int .u32 (p2 : Int), .int .u32 (p3 : Int), .int .u32 (p4 : Int), .int .u32 (p5 : Int), .int .u32 (tp : Int), .int .u32 (ba : Int), .int .u32 (sg : Int), .int .i64 cu, .int .u64 (ep : Int), .int .u64 (la : Int), .int .u64 (sq : Int), .int .u64 (bl : Int), .int .u64 (bs : Int), .bool mk]] w fun e w' => e = .returned (.tuple #[.agg (cells8 noughts).toArray, .int .i64 2]) ∧ Below w.heap.size w w' := by
  have hz := blk_zero
  have hcs := cells8_size noughts
  have hl := noughts_len
  have HM := Lib.hid (fun (w' : World) => smay_any w' tx mt dt cu p0 p1 p2 p3 p4 p5 tp ba sg ep la sq bl bs mk hb)
  rw [hm] at HM
  clear hm hb
  generalize hnz : noughts = z at *
  have HL := Lib.hid hl
  have HCS := Lib.hid hcs
  clear hnz hl hcs
  go_enter Tryz.func148, Tryz.ntmps148
  go_upto_region 1 with fail
  have H0 : Hid (((w.alloc (.cells #[.int .u64 (tx : Int), .int .i64 mt, .int .i64 dt, .int .u32 (p0 : Int), .int .u32 (p1 : Int), .int .u32 (p2 : Int), .int .u32 (p3 : Int), .int .u32 (p4 : Int), .int .u32 (p5 : Int), .int .u32 (tp : Int), .int .u32 (ba : Int), .int .u32 (sg : Int), .int .i64 cu, .int .u64 (ep : Int), .int .u64 (la : Int), .int .u64 (sq : Int), .int .u64 (bl : Int), .int .u64 (bs : Int), .bool mk] 144)).alloc (.cells (cells8 z).toArray 151)).heap[w.heap.size]? = some (.cells #[.int .u64 (tx : Int), .int .i64 mt, .int .i64 dt, .int .u32 (p0 : Int), .int .u32 (p1 : Int), .int .u32 (p2 : Int), .int .u32 (p3 : Int), .int .u32 (p4 : Int), .int .u32 (p5 : Int), .int .u32 (tp : Int), .int .u32 (ba : Int), .int .u32 (sg : Int), .int .i64 cu, .int .u64 (ep : Int), .int .u64 (la : Int), .int .u64 (sq : Int), .int .u64 (bl : Int), .int .u64 (bs : Int), .bool mk] 144 (0, 0)) ∧ Holds8 ((w.alloc (.cells #[.int .u64 (tx : Int), .int .i64 mt, .int .i64 dt, .int .u32 (p0 : Int), .int .u32 (p1 : Int), .int .u32 (p2 : Int), .int .u32 (p3 : Int), .int .u32 (p4 : Int), .int .u32 (p5 : Int), .int .u32 (tp : Int), .int .u32 (ba : Int), .int .u32 (sg : Int), .int .i64 cu, .int .u64 (ep : Int), .int .u64 (la : Int), .int .u64 (sq : Int), .int .u64 (bl : Int), .int .u64 (bs : Int), .bool mk] 144)).alloc (.cells (cells8 z).toArray 151)) (w.heap.size + 1) 151 z ∧ Below w.heap.size w ((w.alloc (.cells #[.int .u64 (tx : Int), .int .i64 mt, .int .i64 dt, .int .u32 (p0 : Int), .int .u32 (p1 : Int), .int .u32 (p2 : Int), .int .u32 (p3 : Int), .int .u32 (p4 : Int), .int .u32 (p5 : Int), .int .u32 (tp : Int), .int .u32 (ba : Int), .int .u32 (sg : Int), .int .i64 cu, .int .u64 (ep : Int), .int .u64 (la : Int), .int .u64 (sq : Int), .int .u64 (bl : Int), .int .u64 (bs : Int), .bool mk] 144)).alloc (.cells (cells8 z).toArray 151))) := by
    have h2 := Holds8.new (w.alloc (.cells #[.int .u64 (tx : Int), .int .i64 mt, .int .i64 dt, .int .u32 (p0 : Int), .int .u32 (p1 : Int), .int .u32 (p2 : Int), .int .u32 (p3 : Int), .int .u32 (p4 : Int), .int .u32 (p5 : Int), .int .u32 (tp : Int), .int .u32 (ba : Int), .int .u32 (sg : Int), .int .i64 cu, .int .u64 (ep : Int), .int .u64 (la : Int), .int .u64 (sq : Int), .int .u64 (bl : Int), .int .u64 (bs : Int), .bool mk] 144)) 151 z _ rfl
    simp only [World.size_alloc] at h2
    exact ⟨heap_alloc' (heap_alloc_new w _), h2, ((Below.refl w.heap.size w).alloc (Nat.le_refl _) _).alloc (by simp) _⟩
  generalize (w.alloc (.cells #[.int .u64 (tx : Int), .int .i64 mt, .int .i64 dt, .int .u32 (p0 : Int), .int .u32 (p1 : Int), .int .u32 (p2 : Int), .int .u32 (p3 : Int), .int .u32 (p4 : Int), .int .u32 (p5 : Int), .int .u32 (tp : Int), .int .u32 (ba : Int), .int .u32 (sg : Int), .int .i64 cu, .int .u64 (ep : Int), .int .u64 (la : Int), .int .u64 (sq : Int), .int .u64 (bl : Int), .int .u64 (bs : Int), .bool mk] 144)).alloc (.cells (cells8 z).toArray 151) = w1 at *
  go_wp2_with (first
    | refine wpList_load_row rfl 144 (.tmp 1) rfl w.heap.size rfl 144 #[.int .u64 (tx : Int), .int .i64 mt, .int .i64 dt, .int .u32 (p0 : Int), .int .u32 (p1 : Int), .int .u32 (p2 : Int), .int .u32 (p3 : Int), .int .u32 (p4 : Int), .int .u32 (p5 : Int), .int .u32 (tp : Int), .int .u32 (ba : Int), .int .u32 (sg : Int), .int .i64 cu, .int .u64 (ep : Int), .int .u64 (la : Int), .int .u64 (sq : Int), .int .u64 (bl : Int), .int .u64 (bs : Int), .bool mk] (0, 0) _ H0.out.1 Tryz.underlying144 rfl super_size ?_
    | fail)
  (with_reducible refine (HM.out _).mono ?_)
  rintro e w2 ⟨rfl, hb2⟩
  have HB := Lib.hid (H0.out.2.2.trans (hb2.mono H0.out.2.2.size))
  have HG := Lib.hid (H0.out.2.1.below hb2)
  clear hb2
  go_wp2_with (first
    | refine wpList_store_row rfl 151 (.tmp 2) (.tmp 11) rfl (w.heap.size + 1) (cells8 z).toArray rfl rfl 151 (cells8 z).toArray HG.out (by rw [blk_size, HCS.out, HL.out]) rfl (cells8_all _) ?_
    | fail)
  exact bodyPost_ret (results_cell_tmp rfl _ _ (w.heap.size + 1) 151 (cells8 z).toArray (0, 0) _ (.int .i64 2) rfl rfl (HG.out.row z) Tryz.underlying151 rfl (by rw [blk_size, HCS.out, HL.out])) rfl ⟨rfl, below_setRow HB.out (by simp) _⟩

set_option maxRecDepth 100000 in
theorem start_row (L : List Nat) : ((cells8 noughts).toArray.toList.take 4 ++ Lib.byteCells [86, 79, 73, 76] ++ (cells8 noughts).toArray.toList.drop 8) = cells8 (atS L 0) := by
  rfl
theorem index_nums (L : List Nat) (i : Nat) (hl : L.length = 19) (hi : i < 19) (w : World) : (Instr.index 311 (.agg (nums64 L).toArray) (.int .i64 (i : Int))).run Tryz.prog w = .ok (.int .u64 ((L.getD i 0 : Nat) : Int)) w := by
  have h1 : (nums64 L)[i]? = some (.int .u64 ((L.getD i 0 : Nat) : Int)) := nums64_get L i (by omega)
  simp [Instr.index, run_underlying Tryz.underlying311, asIntOf, hi, part, run_underlying Tryz.underlying23, isAgg, h1, go_sem]
theorem slice_blk (bb p v : Nat) (h : p + v ≤ 105) (w : World) : (Instr.sliceAt 151 (.pointer (some ⟨bb, 0, none⟩)) (some (.int .i64 (p : Int))) (some (.int .i64 ((p : Int) + (v : Int)))) none).run Tryz.prog w = .ok (.slice (some ⟨bb, p, none⟩) v (256 - p)) w := by
  have hl : Tryz.prog.arrayLen 151 = 256 := by kernel_rfl
  have hE : Tryz.prog.elem 151 = 5 := by kernel_rfl
  have h1 : ∀ w, (sizeOf 5).run Tryz.prog w = .ok 1 w := fun w => by kernel_rfl
  rw [run_sliceAt_array_lh (P := Tryz.prog) w 151 ⟨bb, 0, none⟩ (by rw [hl, hE]; exact Tryz.underlying151) .i64 .i64 (p : Int) ((p : Int) + (v : Int)) (by omega) (by omega) (by rw [hl]; omega), hl, hE, h1]
  have e1 : ((p : Int) + (v : Int)).toNat = p + v := by omega
  have e2 : ((p : Int)).toNat = p := by omega
  have e3 : (⟨bb, 0, none⟩ : Addr).add p = ⟨bb, p, none⟩ := by unfold Addr.add; split <;> simp_all
  simp only [Result.andThen_ok, slicedAt, e1, e2, Nat.mul_one, e3]
  rw [if_neg (by omega), show p + v - p = v by omega]
theorem KB.apart {w W W' : World} {b bb : Nat} {nv : Array Value} {x y : List UInt8} (h : KB w W b bb nv x) (ha : Apart2 W W' bb bb) (hx : Holds8 W' bb 151 y) : KB w W' b bb nv y :=
  ⟨(ha.block b (by have := h.lt; omega) (by have := h.lt; omega)).trans h.n, (ha.block (b + 1) (by have := h.lt; omega) (by have := h.lt; omega)).trans h.z, hx, h.lt, h.bel.trans (ha.below (by have := h.lt; omega) (by have := h.lt; omega))⟩
theorem KB.sum {w W : World} {b bb : Nat} {nv : Array Value} {L : List Nat} (h : KB w W b bb nv (atS L 19)) (hb : w.heap.size = b) (hT : Tabs w) :
    Calls Tryz.prog 199 #[.slice (some ⟨bb, 4, none⟩) 252 252] W fun e w' => e = .returned (.int .u32 ((sumB (bodyS L) : Nat) : Int)) ∧
      Hid (∀ (cc : Nat), Calls Tryz.prog 202 #[.slice (some ⟨bb, 0, none⟩) 4 cc, .int .u64 ((sumB (bodyS L) : Nat) : Int)] w' fun e w2 => e = .returned (.tuple #[]) ∧ Hid (KB w w2 b bb nv (imgS L))) := by
  have hx := h.x
  rw [atS_end] at hx
  have hx0 : Holds8 W bb 151 ([0, 0, 0, 0] ++ bodyS L) := hx
  have hp := bodyS_len L
  have hsh : Shows W W.heap.size (some ⟨bb, 4, none⟩) (bodyS L).length (cells8 (bodyS L)) := by
    have := hx0.shows.from_ (k := 4) (cap := 256) (by simp) (by simp [hp])
    rw [if_neg (by omega), ← cells8_drop] at this
    simpa [Addr.add] using this
  have hbel : Below w.heap.size w W := by rw [hb]; exact h.bel
  have hsum := sum_any W.heap.size (some ⟨bb, 4, none⟩) 252 (bodyS L) W (hT.below hbel hT.size) hsh (Nat.le_refl _) (by omega)
  rw [hp] at hsum
  refine hsum.mono fun e w' hq => ⟨hq.1, fun cc => ?_⟩
  have h2 := h.below hq.2
  have hx2 := h2.x
  rw [atS_end] at hx2
  refine (slay_any w' bb cc 151 [] (bodyS L) [0, 0, 0, 0] _ (by simp) hx2).mono fun e w2 hq2 => ⟨hq2.1, h2.apart hq2.2.2 hq2.2.1⟩
theorem nums_row (tx m d p0 p1 p2 p3 p4 p5 tp ba sg c ep la sq bl bs : Nat) (mk : Bool) : #[.int .u64 (tx : Int), .int .u64 (m : Int), .int .u64 (d : Int), .int .u64 (p0 : Int), .int .u64 (p1 : Int), .int .u64 (p2 : Int), .int .u64 (p3 : Int), .int .u64 (p4 : Int), .int .u64 (p5 : Int), .int .u64 (tp : Int), .int .u64 (ba : Int), .int .u64 (sg : Int), .int .u64 (c : Int), .int .u64 (ep : Int), .int .u64 (la : Int), .int .u64 (sq : Int), .int .u64 (bl : Int), .int .u64 (bs : Int), .int .u64 ((bitN mk : Nat) : Int)] = (nums64 [tx, m, d, p0, p1, p2, p3, p4, p5, tp, ba, sg, c, ep, la, sq, bl, bs, bitN mk]).toArray := rfl

set_option maxRecDepth 10000 in
set_option maxHeartbeats 4000000 in
theorem sblock_ok (w : World) (hT : Tabs w) (hW : Wids w) (tx m d p0 p1 p2 p3 p4 p5 tp ba sg c ep la sq bl bs : Nat) (mk : Bool) (hb : tx < 18446744073709551616 ∧ m < 4294967296 ∧ d < 4294967296 ∧ c < 4294967296 ∧ p0 < 4294967296 ∧ p1 < 4294967296 ∧ p2 < 4294967296 ∧ p3 < 4294967296 ∧ p4 < 4294967296 ∧ p5 < 4294967296 ∧ tp < 4294967296 ∧ ba < 4294967296 ∧ sg < 4294967296) (hm : mayS tx (m : Int) (d : Int) (c : Int) [p0, p1, p2, p3, p4, p5, tp, ba, sg] = true) :
    Calls Tryz.prog 148 #[.agg #[.int .u64 (tx : Int), .int .i64 (m : Int), .int .i64 (d : Int), .int .u32 (p0 : Int), .int .u32 (p1 : Int), .int .u32 (p2 : Int), .int .u32 (p3 : Int), .int .u32 (p4 : Int), .int .u32 (p5 : Int), .int .u32 (tp : Int), .int .u32 (ba : Int), .int .u32 (sg : Int), .int .i64 (c : Int), .int .u64 (ep : Int), .int .u64 (la : Int), .int .u64 (sq : Int), .int .u64 (bl : Int), .int .u64 (bs : Int), .bool mk]] w fun e w' => e = .returned (.tuple #[.agg (cells8 (imgS [tx, m, d, p0, p1, p2, p3, p4, p5, tp, ba, sg, c, ep, la, sq, bl, bs, bitN mk])).toArray, .int .i64 0]) ∧ Below w.heap.size w w' := by
  have hz := blk_zero
  have hcs := cells8_size noughts
  have hl := noughts_len
  have HM := Lib.hid (fun (w' : World) => smay_any w' tx (m : Int) (d : Int) (c : Int) p0 p1 p2 p3 p4 p5 tp ba sg ep la sq bl bs mk (by obtain ⟨_, _, _, _, h⟩ := hb; exact h))
  rw [hm] at HM
  have HNO := Lib.hid (fun (w' : World) => numbersOf_any w' tx m d p0 p1 p2 p3 p4 p5 tp ba sg c ep la sq bl bs mk (by obtain ⟨_, _, _, _, h⟩ := hb; omega))
  simp only [nums_row] at HNO
  have hLL : ([tx, m, d, p0, p1, p2, p3, p4, p5, tp, ba, sg, c, ep, la, sq, bl, bs, bitN mk] : List Nat).length = 19 := rfl
  generalize [tx, m, d, p0, p1, p2, p3, p4, p5, tp, ba, sg, c, ep, la, sq, bl, bs, bitN mk] = L at *
  clear hm hb
  have HL := Lib.hid hl
  have HCS := Lib.hid hcs
  clear hl hcs
  have hnn : noughts = noughts := rfl
  generalize hnz : noughts = z at hz HL HCS
  have HNZ := Lib.hid hnz
  clear hnz hnn
  go_enter Tryz.func148, Tryz.ntmps148
  go_upto_region 1 with fail
  have H0 : Hid (((w.alloc (.cells #[.int .u64 (tx : Int), .int .i64 (m : Int), .int .i64 (d : Int), .int .u32 (p0 : Int), .int .u32 (p1 : Int), .int .u32 (p2 : Int), .int .u32 (p3 : Int), .int .u32 (p4 : Int), .int .u32 (p5 : Int), .int .u32 (tp : Int), .int .u32 (ba : Int), .int .u32 (sg : Int), .int .i64 (c : Int), .int .u64 (ep : Int), .int .u64 (la : Int), .int .u64 (sq : Int), .int .u64 (bl : Int), .int .u64 (bs : Int), .bool mk] 144)).alloc (.cells (cells8 z).toArray 151)).heap[w.heap.size]? = some (.cells #[.int .u64 (tx : Int), .int .i64 (m : Int), .int .i64 (d : Int), .int .u32 (p0 : Int), .int .u32 (p1 : Int), .int .u32 (p2 : Int), .int .u32 (p3 : Int), .int .u32 (p4 : Int), .int .u32 (p5 : Int), .int .u32 (tp : Int), .int .u32 (ba : Int), .int .u32 (sg : Int), .int .i64 (c : Int), .int .u64 (ep : Int), .int .u64 (la : Int), .int .u64 (sq : Int), .int .u64 (bl : Int), .int .u64 (bs : Int), .bool mk] 144 (0, 0)) ∧ Holds8 ((w.alloc (.cells #[.int .u64 (tx : Int), .int .i64 (m : Int), .int .i64 (d : Int), .int .u32 (p0 : Int), .int .u32 (p1 : Int), .int .u32 (p2 : Int), .int .u32 (p3 : Int), .int .u32 (p4 : Int), .int .u32 (p5 : Int), .int .u32 (tp : Int), .int .u32 (ba : Int), .int .u32 (sg : Int), .int .i64 (c : Int), .int .u64 (ep : Int), .int .u64 (la : Int), .int .u64 (sq : Int), .int .u64 (bl : Int), .int .u64 (bs : Int), .bool mk] 144)).alloc (.cells (cells8 z).toArray 151)) (w.heap.size + 1) 151 z ∧ Below w.heap.size w ((w.alloc (.cells #[.int .u64 (tx : Int), .int .i64 (m : Int), .int .i64 (d : Int), .int .u32 (p0 : Int), .int .u32 (p1 : Int), .int .u32 (p2 : Int), .int .u32 (p3 : Int), .int .u32 (p4 : Int), .int .u32 (p5 : Int), .int .u32 (tp : Int), .int .u32 (ba : Int), .int .u32 (sg : Int), .int .i64 (c : Int), .int .u64 (ep : Int), .int .u64 (la : Int), .int .u64 (sq : Int), .int .u64 (bl : Int), .int .u64 (bs : Int), .bool mk] 144)).alloc (.cells (cells8 z).toArray 151))) := by
    have h2 := Holds8.new (w.alloc (.cells #[.int .u64 (tx : Int), .int .i64 (m : Int), .int .i64 (d : Int), .int .u32 (p0 : Int), .int .u32 (p1 : Int), .int .u32 (p2 : Int), .int .u32 (p3 : Int), .int .u32 (p4 : Int), .int .u32 (p5 : Int), .int .u32 (tp : Int), .int .u32 (ba : Int), .int .u32 (sg : Int), .int .i64 (c : Int), .int .u64 (ep : Int), .int .u64 (la : Int), .int .u64 (sq : Int), .int .u64 (bl : Int), .int .u64 (bs : Int), .bool mk] 144)) 151 z _ rfl
    simp only [World.size_alloc] at h2
    exact ⟨heap_alloc' (heap_alloc_new w _), h2, ((Below.refl w.heap.size w).alloc (Nat.le_refl _) _).alloc (by simp) _⟩
  generalize (w.alloc (.cells #[.int .u64 (tx : Int), .int .i64 (m : Int), .int .i64 (d : Int), .int .u32 (p0 : Int), .int .u32 (p1 : Int), .int .u32 (p2 : Int), .int .u32 (p3 : Int), .int .u32 (p4 : Int), .int .u32 (p5 : Int), .int .u32 (tp : Int), .int .u32 (ba : Int), .int .u32 (sg : Int), .int .i64 (c : Int), .int .u64 (ep : Int), .int .u64 (la : Int), .int .u64 (sq : Int), .int .u64 (bl : Int), .int .u64 (bs : Int), .bool mk] 144)).alloc (.cells (cells8 z).toArray 151) = w1 at *
  go_wp2_with (first
    | refine wpList_load_row rfl 144 (.tmp 1) rfl w.heap.size rfl 144 #[.int .u64 (tx : Int), .int .i64 (m : Int), .int .i64 (d : Int), .int .u32 (p0 : Int), .int .u32 (p1 : Int), .int .u32 (p2 : Int), .int .u32 (p3 : Int), .int .u32 (p4 : Int), .int .u32 (p5 : Int), .int .u32 (tp : Int), .int .u32 (ba : Int), .int .u32 (sg : Int), .int .i64 (c : Int), .int .u64 (ep : Int), .int .u64 (la : Int), .int .u64 (sq : Int), .int .u64 (bl : Int), .int .u64 (bs : Int), .bool mk] (0, 0) _ H0.out.1 Tryz.underlying144 rfl super_size ?_
    | fail)
  (with_reducible refine (HM.out _).mono ?_)
  rintro e w2 ⟨rfl, hb2⟩
  have HB := Lib.hid (H0.out.2.2.trans (hb2.mono H0.out.2.2.size))
  have H1 := Lib.hid ((hb2.block _ (Array.getElem?_eq_some_iff.1 H0.out.1).1).trans H0.out.1)
  have H2 := Lib.hid (H0.out.2.1.below hb2)
  clear hb2 H0 HM
  have HK : Hid (KB w (w2.alloc (.cells (cells8 z).toArray 151)) w.heap.size w2.heap.size #[.int .u64 (tx : Int), .int .i64 (m : Int), .int .i64 (d : Int), .int .u32 (p0 : Int), .int .u32 (p1 : Int), .int .u32 (p2 : Int), .int .u32 (p3 : Int), .int .u32 (p4 : Int), .int .u32 (p5 : Int), .int .u32 (tp : Int), .int .u32 (ba : Int), .int .u32 (sg : Int), .int .i64 (c : Int), .int .u64 (ep : Int), .int .u64 (la : Int), .int .u64 (sq : Int), .int .u64 (bl : Int), .int .u64 (bs : Int), .bool mk] z) := ⟨heap_alloc' H1.out, by rw [← HNZ.out] at H2; exact H2.out.alloc _, Holds8.new w2 151 z _ rfl, by have := H2.out.lt; omega, HB.out.alloc HB.out.size _⟩
  go_upto_region 4 with fail
  generalize w2.alloc (.cells (cells8 z).toArray 151) = w3 at *
  generalize w2.heap.size = bb at *
  have hrow : ((cells8 noughts).toArray.toList.take 4 ++ Lib.byteCells [86, 79, 73, 76] ++ (cells8 noughts).toArray.toList.drop 8) = cells8 (atS L 0) := by
    exact start_row L
  have hcp : (Builtin.copy_ #[303, 9] 3 #[.slice (some ⟨bb, 4, none⟩) 252 252, .string ⟨#[86, 79, 73, 76]⟩]).run Tryz.prog w3 = .ok (.int .i64 4) (w3.setRow bb (cells8 (atS L 0)).toArray) := by
    have h := Lib.run_copy_row_string (P := Tryz.prog) (ty := 3) w3 303 9 5 bb 4 252 252 ⟨#[86, 79, 73, 76]⟩ (cells8 z).toArray 151 Tryz.underlying303 (by kernel_rfl) HK.out.x (by decide) (by rw [HCS.out, HL.out]; decide)
    rw [← HNZ.out] at h
    exact h.trans (congrArg (fun r : List Value => Result.ok (Value.int .i64 4) (w3.setRow bb r.toArray)) hrow)
  have HK4 : Hid (KB w (w3.setRow bb (cells8 (atS L 0)).toArray) w.heap.size bb #[.int .u64 (tx : Int), .int .i64 (m : Int), .int .i64 (d : Int), .int .u32 (p0 : Int), .int .u32 (p1 : Int), .int .u32 (p2 : Int), .int .u32 (p3 : Int), .int .u32 (p4 : Int), .int .u32 (p5 : Int), .int .u32 (tp : Int), .int .u32 (ba : Int), .int .u32 (sg : Int), .int .i64 (c : Int), .int .u64 (ep : Int), .int .u64 (la : Int), .int .u64 (sq : Int), .int .u64 (bl : Int), .int .u64 (bs : Int), .bool mk] (atS L 0)) := ⟨(setRow_other _ _ _ _ (by have := HK.out.lt; omega)).trans HK.out.n, by have h := HK.out.z; unfold Holds8 at *; rw [setRow_other _ _ _ _ (by have := HK.out.lt; omega)]; exact h, HK.out.x.row _, HK.out.lt, below_setRow HK.out.bel (by have := HK.out.lt; omega) _⟩
  clear HK hrow
  go_upto_region 5 with fail
  clear hcp hz
  generalize w3.setRow bb (cells8 (atS L 0)).toArray = w4 at *
  go_wp2_with (first
    | refine wpList_load_row rfl 144 (.tmp 1) rfl w.heap.size rfl 144 #[.int .u64 (tx : Int), .int .i64 (m : Int), .int .i64 (d : Int), .int .u32 (p0 : Int), .int .u32 (p1 : Int), .int .u32 (p2 : Int), .int .u32 (p3 : Int), .int .u32 (p4 : Int), .int .u32 (p5 : Int), .int .u32 (tp : Int), .int .u32 (ba : Int), .int .u32 (sg : Int), .int .i64 (c : Int), .int .u64 (ep : Int), .int .u64 (la : Int), .int .u64 (sq : Int), .int .u64 (bl : Int), .int .u64 (bs : Int), .bool mk] (0, 0) _ HK4.out.n Tryz.underlying144 rfl super_size ?_
    | fail)
  (with_reducible refine (HNO.out _).mono ?_)
  rintro e w5 ⟨rfl, hb5⟩
  have HK5 := Lib.hid (HK4.out.below hb5)
  clear hb5 HK4 HNO H1 H2 HB
  go_wp2_with fail
  go_loopw [17, 5, 6, 7] (fun j a x y wr => ∃ i : Nat, i ≤ 19 ∧ j = .int .i64 (i : Int) ∧ a = .int .i64 ((8 + offTo i : Nat) : Int) ∧ Hid (KB w wr w.heap.size bb #[.int .u64 (tx : Int), .int .i64 (m : Int), .int .i64 (d : Int), .int .u32 (p0 : Int), .int .u32 (p1 : Int), .int .u32 (p2 : Int), .int .u32 (p3 : Int), .int .u32 (p4 : Int), .int .u32 (p5 : Int), .int .u32 (tp : Int), .int .u32 (ba : Int), .int .u32 (sg : Int), .int .i64 (c : Int), .int .u64 (ep : Int), .int .u64 (la : Int), .int .u64 (sq : Int), .int .u64 (bl : Int), .int .u64 (bs : Int), .bool mk] (atS L i))) (fun j _ _ _ _ => 19 - (intOf j).toNat)
  case atStart => exact ⟨0, by omega, rfl, rfl, HK5⟩
  case round =>
    obtain ⟨i, hi, rfl, rfl, HR⟩ := hrel
    rename_i wr
    by_cases hlt : i < 19
    · have hltI : (i : Int) < 19 := by omega
      have hwc := (hW.below HR.out.bel hW.size) i hlt
      have hof := off_facts i hlt
      have hix := fun W : World => index_nums L i hLL hlt W
      have hlay := fun cc => slay_any wr bb cc 151 (headS ++ laidToS L i) (List.replicate (248 - offTo i - widL.getD i 0) 0) (List.replicate (widL.getD i 0) 0) (L.getD i 0) (by rw [List.length_replicate]; omega) (by rw [← atS_split L i hlt]; exact HR.out.x)
      rw [show (headS ++ laidToS L i).length = 8 + offTo i by simp [headS, laidTo_length]; omega, List.length_replicate, atS_next] at hlay
      have HLAY : Hid (∀ cc, Calls Tryz.prog 202 #[.slice (some ⟨bb, 8 + offTo i, none⟩) (widL.getD i 0) cc, .int .u64 ((L.getD i 0 : Nat) : Int)] wr fun e w' => e = .returned (.tuple #[]) ∧ Hid (KB w w' w.heap.size bb #[.int .u64 (tx : Int), .int .i64 (m : Int), .int .i64 (d : Int), .int .u32 (p0 : Int), .int .u32 (p1 : Int), .int .u32 (p2 : Int), .int .u32 (p3 : Int), .int .u32 (p4 : Int), .int .u32 (p5 : Int), .int .u32 (tp : Int), .int .u32 (ba : Int), .int .u32 (sg : Int), .int .i64 (c : Int), .int .u64 (ep : Int), .int .u64 (la : Int), .int .u64 (sq : Int), .int .u64 (bl : Int), .int .u64 (bs : Int), .bool mk] (atS L (i + 1)))) := fun cc => (hlay cc).mono fun e w' hp => ⟨hp.1, HR.out.apart hp.2.2 hp.2.1⟩
      have HOX := Lib.hid (show 8 + offTo (i + 1) = 8 + offTo i + widL.getD i 0 by rw [Nat.add_assoc]; rfl)
      clear hlay
      have hp97 : 8 + offTo i + widL.getD i 0 ≤ 105 := by omega
      have HW1 : Hid (∀ W, Hid (KB w W w.heap.size bb #[.int .u64 (tx : Int), .int .i64 (m : Int), .int .i64 (d : Int), .int .u32 (p0 : Int), .int .u32 (p1 : Int), .int .u32 (p2 : Int), .int .u32 (p3 : Int), .int .u32 (p4 : Int), .int .u32 (p5 : Int), .int .u32 (tp : Int), .int .u32 (ba : Int), .int .u32 (sg : Int), .int .i64 (c : Int), .int .u64 (ep : Int), .int .u64 (la : Int), .int .u64 (sq : Int), .int .u64 (bl : Int), .int .u64 (bs : Int), .bool mk] (atS L (i + 1))) → W.cell? ⟨0, i, none⟩ = some (.int .i64 ((widL.getD i 0 : Nat) : Int))) := fun W h => (hW.below h.out.bel hW.size) i hlt
      clear hof
      generalize 8 + offTo i = p at *
      generalize widL.getD i 0 = v at *
      generalize L.getD i 0 = n at *
      have hsl := fun W : World => slice_blk bb p v hp97 W
      go_wp2_with (first
        | (go_at_call 202; (with_reducible refine (HLAY.out _).mono ?_); rintro e w6 ⟨rfl, h6⟩; have hwc6 := HW1.out _ h6)
        | fail)
      go_roundw
      case rel => exact ⟨i + 1, by omega, by go_num, by rw [HOX.out]; go_num, h6⟩
      case measure => simp [intOf]; omega
    · obtain rfl : i = 19 := by omega
      have hltI : ¬ (19 : Int) < 19 := by omega
      have hsm := (KB.below HR.out (Below.refl _ _).drew).sum rfl hT
      have hs32 := sumB_lt (bodyS L)
      have HIM : Hid (imgS L = imgS L) := rfl
      generalize hSS : sumB (bodyS L) = S at *
      have hws : IntKind.u64.wrap (S : Int) = (S : Int) := by rw [IntKind.wrap_u64]; omega
      have HSM := Lib.hid hsm
      clear HK5 hsm hs32 hSS
      go_upto_region 11 with fail
      first | go_region_with (first
        | (go_at_call 199; (with_reducible refine HSM.out.mono ?_); rintro e w6 ⟨rfl, h6⟩)
        | (go_at_call 202; (with_reducible refine (h6.out _).mono ?_); rintro e w7 ⟨rfl, h7⟩)) | fail
      have HIL := Lib.hid (imgS_len L)
      have hlt7 := h7.out.lt
      go_wp2_with (first
        | refine wpList_load_row rfl 151 (.tmp 4) rfl bb rfl 151 (cells8 (imgS L)).toArray (0, 0) _ h7.out.x Tryz.underlying151 rfl (by rw [blk_size, cells8_size, HIL.out]) ?_
        | refine wpList_store_row rfl 151 (.tmp 2) (.tmp 41) rfl (w.heap.size + 1) (cells8 (imgS L)).toArray rfl rfl 151 (cells8 noughts).toArray h7.out.z (by rw [blk_size, cells8_size, HIL.out]) (by rw [cells8_size, cells8_size, HIL.out, noughts_len]) (cells8_all _) ?_
        | fail)
      exact bodyPost_ret (results_cell_tmp rfl _ _ (w.heap.size + 1) 151 (cells8 (imgS L)).toArray (0, 0) _ (.int .i64 0) rfl rfl (h7.out.z.row (imgS L)) Tryz.underlying151 rfl (by rw [blk_size, cells8_size, HIL.out])) rfl ⟨rfl, below_setRow h7.out.bel (by omega) _⟩
end Go.Proofs.YtoclhiaidbfheaaGreatDoor
