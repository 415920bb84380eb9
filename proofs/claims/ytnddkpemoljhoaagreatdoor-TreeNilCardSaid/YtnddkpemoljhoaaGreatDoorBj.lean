/- The program's Of. -/
import Derived.Test.YtnddkpemoljhoaaGreatDoorBe
import Derived.Test.YtnddkpemoljhoaaGreatDoorBi
import Derived.Stop.BytesEq
set_option linter.unusedVariables false
namespace Go.Proofs.YtnddkpemoljhoaaGreatDoor
open Go.RowKit

theorem neq_blk (a b : List UInt8) (ha : a.length = 256) (hb : b.length = 256) (w : World) : (binOp .neq 153 (.agg (cells8 a).toArray) (.agg (cells8 b).toArray)).run Tryz.prog w = .ok (.bool (!(a == b))) w := by
  have h := run_equalIn_bytes (P := Tryz.prog) w 9998 153 5 256 Tryz.underlying153 Tryz.underlying5 (fun w => by kernel_rfl) a b ha hb
  have h2 : (Op.equalIn 10000 153 (.agg (cells8 a).toArray) (.agg (cells8 b).toArray)).run Tryz.prog w = .ok (a == b) w := h
  rw [run_neq_struct, h2]
  rfl
theorem eql_blk (a b : List UInt8) (ha : a.length = 256) (hb : b.length = 256) (w : World) : (binOp .eql 153 (.agg (cells8 a).toArray) (.agg (cells8 b).toArray)).run Tryz.prog w = .ok (.bool (a == b)) w := by
  have h := run_equalIn_bytes (P := Tryz.prog) w 9998 153 5 256 Tryz.underlying153 Tryz.underlying5 (fun w => by kernel_rfl) a b ha hb
  have h2 : (Op.equalIn 10000 153 (.agg (cells8 a).toArray) (.agg (cells8 b).toArray)).run Tryz.prog w = .ok (a == b) w := h
  rw [run_eql_struct, h2]
  rfl
theorem store_blk (w : World) (old new : List UInt8) (ho : old.length = 256) (hn : new.length = 256) : (storeCells ⟨w.heap.size, 0, none⟩ (cells8 new)).run Tryz.prog (w.alloc (.cells (cells8 old).toArray 153)) = .ok () (w.alloc (.cells (cells8 new).toArray 153)) := by
  have := run_storeCells_new (P := Tryz.prog) w 153 (cells8 old).toArray (cells8 new).toArray (by rw [blk_size, cells8_size, hn]) (by rw [cells8_size, cells8_size, ho, hn]) (cells8_all _)
  simpa using this
/-- what Of answers -/
def OfAs (w : World) (o : Option ND) (e : Ending) (w' : World) : Prop :=
  Below w.heap.size w w' ∧ match o with
    | none => e = .returned (.tuple #[.agg #[.int .i64 0, .int .u64 0, .slice none 0 0, .slice none 0 0], .int .i64 4])
    | some n => ∃ A A' ck cv, e = .returned (.tuple #[.agg #[.int .i64 n.kind, .int .u64 (n.birth : Int), .slice A n.keys.length ck, .slice A' n.vals.length cv], .int .i64 0]) ∧ Shows w' w'.heap.size A n.keys.length (nums64 n.keys) ∧ Shows w' w'.heap.size A' n.vals.length (nums64 n.vals)
def pickO (b : Bool) (n : ND) : Option ND := match b with | true => some n | false => none
theorem below_new {w : World} {l : List UInt8} : Below w.heap.size w ((w.alloc (.cells (cells8 l).toArray 153)).alloc (.cells #[.int .i64 0, .int .u64 0, .slice none 0 0, .slice none 0 0] 62)) := ((Below.refl w.heap.size w).alloc (Nat.le_refl _) _).alloc (by simp) _
theorem res_new {w : World} {l : List UInt8} : ((w.alloc (.cells (cells8 l).toArray 153)).alloc (.cells #[.int .i64 0, .int .u64 0, .slice none 0 0, .slice none 0 0] 62)).heap[w.heap.size + 1]? = some (.cells #[.int .i64 0, .int .u64 0, .slice none 0 0, .slice none 0 0] 62 (0, 0)) := by
  have := heap_alloc_new (w.alloc (.cells (cells8 l).toArray 153)) (.cells #[.int .i64 0, .int .u64 0, .slice none 0 0, .slice none 0 0] 62)
  simpa using this

set_option maxRecDepth 10000 in
set_option maxHeartbeats 1000000 in
theorem of_no (w : World) (no : Nat) (l : List UInt8) (hl : l.length = 256) (h6 : 6 < manyB l) :
    Calls Tryz.prog 163 #[.int .u32 no, .agg (cells8 l).toArray] w fun e w' => e = .returned (.tuple #[.agg #[.int .i64 0, .int .u64 0, .slice none 0 0, .slice none 0 0], .int .i64 4]) ∧ Below w.heap.size w w' := by
  have h5 : Holds8 ((w.alloc (.cells (cells8 l).toArray 153)).alloc (.cells #[.int .i64 0, .int .u64 0, .slice none 0 0, .slice none 0 0] 62)) w.heap.size 153 l := (Holds8.new w _ l _ rfl).alloc _
  have H5 := Lib.hid h5
  have HB0 := Lib.hid (below_new (w := w) (l := l))
  have HR0 := Lib.hid (res_new (w := w) (l := l))
  have HRD := Lib.hid (read_no ((w.alloc (.cells (cells8 l).toArray 153)).alloc (.cells #[.int .i64 0, .int .u64 0, .slice none 0 0, .slice none 0 0] 62)) l hl h6)
  have HLS : Hid ((cells8 l).toArray.size = 256) := (cells8_size l).trans hl
  clear h5 hl h6
  go_enter Tryz.func163, Tryz.ntmps163
  go_wp2_with (first
    | refine wpList_load_row rfl 153 (.tmp 3) rfl w.heap.size rfl 153 (cells8 l).toArray (0, 0) _ H5.out Tryz.underlying153 rfl (by rw [blk_size, HLS.out]) ?_
    | (go_at_call 183; (with_reducible refine HRD.out.mono ?_); rintro e w1 ⟨rfl, hb1⟩; have HW := Lib.hid (heap_alloc' (o := .cells #[.int .i64 0, .int .u64 0, .slice none 0 0, .slice none 0 0] 62) ((hb1.block (w.heap.size + 1) (by simp)).trans HR0.out)); have HBW := Lib.hid ((HB0.out.trans (hb1.mono HB0.out.size)).alloc (by have := HB0.out.size; have := hb1.size; omega) (.cells #[.int .i64 0, .int .u64 0, .slice none 0 0, .slice none 0 0] 62)); clear hb1)
    | refine wpList_store_row rfl 62 (.tmp 4) (.tmp 17) rfl (w.heap.size + 1) #[.int .i64 0, .int .u64 0, .slice none 0 0, .slice none 0 0] rfl rfl 62 #[.int .i64 0, .int .u64 0, .slice none 0 0, .slice none 0 0] HW.out (by rw [node_size]; rfl) rfl (by simp [Value.oneCell']) ?_
    | fail)
  exact bodyPost_ret (results_cell_tmp rfl _ _ (w.heap.size + 1) 62 #[.int .i64 0, .int .u64 0, .slice none 0 0, .slice none 0 0] (0, 0) _ (.int .i64 4) rfl rfl (setRow_heap _ _ _ _ _ _ HW.out) Tryz.underlying62 rfl (by rw [node_size]; rfl)) rfl ⟨rfl, below_setRow HBW.out (by simp) _⟩

set_option maxRecDepth 10000 in
set_option maxHeartbeats 2000000 in
theorem of_bad (w : World) (no : Nat) (l : List UInt8) (hl : l.length = 256) (h6 : manyB l ≤ 6) (hm : mayB (readB l (manyB l)) = false) :
    Calls Tryz.prog 163 #[.int .u32 no, .agg (cells8 l).toArray] w fun e w' => e = .returned (.tuple #[.agg #[.int .i64 0, .int .u64 0, .slice none 0 0, .slice none 0 0], .int .i64 4]) ∧ Below w.heap.size w w' := by
  have h5 : Holds8 ((w.alloc (.cells (cells8 l).toArray 153)).alloc (.cells #[.int .i64 0, .int .u64 0, .slice none 0 0, .slice none 0 0] 62)) w.heap.size 153 l := (Holds8.new w _ l _ rfl).alloc _
  have H5 := Lib.hid h5
  have HB0 := Lib.hid (below_new (w := w) (l := l))
  have HR0 := Lib.hid (res_new (w := w) (l := l))
  have HRD := Lib.hid (read_ok ((w.alloc (.cells (cells8 l).toArray 153)).alloc (.cells #[.int .i64 0, .int .u64 0, .slice none 0 0, .slice none 0 0] 62)) l hl _ rfl h6)
  have HLS : Hid ((cells8 l).toArray.size = 256) := (cells8_size l).trans hl
  have HKL := Lib.hid (keysOf_length l (manyB l))
  have HVL := Lib.hid (valsOf_length l (manyB l))
  have hm' : mayB ⟨((l.getD 4 0).toNat : Int), at8 l 12, keysOf l (manyB l), valsOf l (manyB l)⟩ = false := hm
  have HM := Lib.hid hm'
  clear h5 hl h6 hm hm'
  go_enter Tryz.func163, Tryz.ntmps163
  go_wp2_with (first
    | refine wpList_load_row rfl 153 (.tmp 3) rfl w.heap.size rfl 153 (cells8 l).toArray (0, 0) _ H5.out Tryz.underlying153 rfl (by rw [blk_size, HLS.out]) ?_
    | fail)
  (with_reducible refine HRD.out.mono ?_)
  rintro e w1 ⟨A, A', ck, cv, rfl, hs1, hs2, hb1⟩
  have HW := Lib.hid ((hb1.block (w.heap.size + 1) (by simp)).trans HR0.out)
  have HBW := Lib.hid (HB0.out.trans (hb1.mono HB0.out.size))
  have hlt : w.heap.size + 1 < w1.heap.size := by have := hb1.size; simp at this; omega
  have HLT := Lib.hid hlt
  have hcw : ∀ (u : Obj) b, Below (w1.alloc u).heap.size (w1.alloc u) b → b.heap[w.heap.size + 1]? = some (.cells #[.int .i64 0, .int .u64 0, .slice none 0 0, .slice none 0 0] 62 (0, 0)) := fun u b hb => (hb.block _ (by simp; omega)).trans (heap_alloc' HW.out)
  have HCW := Lib.hid hcw
  have hbb := fun W => block_bad W no ((l.getD 4 0).toNat : Int) (at8 l 12) (keysOf l (manyB l)) (valsOf l (manyB l)) HM.out A A' ck cv
  rw [HKL.out, HVL.out] at hbb
  have HBB := Lib.hid hbb
  have HS1 := Lib.hid (Shows.owned hs1)
  clear hb1 hs1 hs2 hcw hbb hlt HRD
  generalize manyB l = m at *
  generalize at8 l 12 = bi at *
  generalize ((l.getD 4 0).toNat : Int) = kd at *
  go_wp2_with fail
  have hb2 := (Below.refl w1.heap.size w1).alloc (Nat.le_refl _) (.cells #[.int .i64 kd, .int .u64 (bi : Int), .slice A m ck, .slice A' m cv] 62)
  have hbk := HBB.out _ (HS1.out.on hb2)
  have HBK := Lib.hid hbk
  clear hbk
  (with_reducible refine HBK.out.mono ?_)
  rintro e w3 ⟨rfl, hb3⟩
  have HW3 := Lib.hid (heap_alloc' (o := .cells (cells8 noughts).toArray 153) (HCW.out _ _ hb3))
  have HB3 := Lib.hid ((HBW.out.trans ((hb2.trans (hb3.mono hb2.size)).mono HBW.out.size)).alloc (by have := HLT.out; have := hb2.size; have := hb3.size; omega) (.cells (cells8 noughts).toArray 153))
  clear hb2 hb3
  have hz := blk_zero
  have hcs : (cells8 noughts).toArray.size = 256 := (cells8_size _).trans noughts_len
  have hst := fun w => store_blk w noughts noughts noughts_len noughts_len
  generalize noughts = z at *
  go_wp2_with (first
    | refine wpList_store_row rfl 62 (.tmp 4) (.tmp 31) rfl (w.heap.size + 1) #[.int .i64 0, .int .u64 0, .slice none 0 0, .slice none 0 0] rfl rfl 62 #[.int .i64 0, .int .u64 0, .slice none 0 0, .slice none 0 0] HW3.out (by rw [node_size]; rfl) rfl (by simp [Value.oneCell']) ?_
    | fail)
  exact bodyPost_ret (results_cell_tmp rfl _ _ (w.heap.size + 1) 62 #[.int .i64 0, .int .u64 0, .slice none 0 0, .slice none 0 0] (0, 0) _ (.int .i64 4) rfl rfl (setRow_heap _ _ _ _ _ _ HW3.out) Tryz.underlying62 rfl (by rw [node_size]; rfl)) rfl ⟨rfl, below_setRow HB3.out (by simp) _⟩

set_option maxRecDepth 10000 in
set_option maxHeartbeats 2000000 in
theorem of_may (w : World) (hT : Tabs w) (no : Nat) (hno : no < 4294967296) (l : List UInt8) (hl : l.length = 256) (h6 : manyB l ≤ 6) (hm : mayB (readB l (manyB l)) = true) :
    Calls Tryz.prog 163 #[.int .u32 no, .agg (cells8 l).toArray] w (OfAs w (pickO (img no (readB l (manyB l)) == l) (readB l (manyB l)))) := by
  have h5 : Holds8 ((w.alloc (.cells (cells8 l).toArray 153)).alloc (.cells #[.int .i64 0, .int .u64 0, .slice none 0 0, .slice none 0 0] 62)) w.heap.size 153 l := (Holds8.new w _ l _ rfl).alloc _
  have H5 := Lib.hid h5
  have HB0 := Lib.hid (below_new (w := w) (l := l))
  have HR0 := Lib.hid (res_new (w := w) (l := l))
  have HRD := Lib.hid (read_ok ((w.alloc (.cells (cells8 l).toArray 153)).alloc (.cells #[.int .i64 0, .int .u64 0, .slice none 0 0, .slice none 0 0] 62)) l hl _ rfl h6)
  have HLS : Hid ((cells8 l).toArray.size = 256) := (cells8_size l).trans hl
  have HKL := Lib.hid (keysOf_length l (manyB l))
  have HVL := Lib.hid (valsOf_length l (manyB l))
  have hm' : mayB ⟨((l.getD 4 0).toNat : Int), at8 l 12, keysOf l (manyB l), valsOf l (manyB l)⟩ = true := hm
  have HM := Lib.hid hm'
  have hil := img_length no (readB l (manyB l)) (by show (keysOf l (manyB l)).length ≤ 6; rw [keysOf_length]; exact h6)
  have HIS : Hid ((cells8 (img no (readB l (manyB l)))).toArray.size = 256) := (cells8_size _).trans hil
  have hst := fun w => store_blk w noughts (img no (readB l (manyB l))) noughts_len hil
  have hneq := fun w => neq_blk (img no (readB l (manyB l))) l hil hl w
  have HRB : Hid (readB l (manyB l) = ⟨((l.getD 4 0).toNat : Int), at8 l 12, keysOf l (manyB l), valsOf l (manyB l)⟩) := rfl
  have HIM : Hid (img no ⟨((l.getD 4 0).toNat : Int), at8 l 12, keysOf l (manyB l), valsOf l (manyB l)⟩ = img no (readB l (manyB l))) := rfl
  have HTS := Lib.hid hT.size
  have HT := Lib.hid hT
  have hz := blk_zero
  have HIC := Lib.hid (cells8_size (img no (readB l (manyB l))))
  clear h5 hl h6 hm hm' hil hT
  go_enter Tryz.func163, Tryz.ntmps163
  go_wp2_with (first
    | refine wpList_load_row rfl 153 (.tmp 3) rfl w.heap.size rfl 153 (cells8 l).toArray (0, 0) _ H5.out Tryz.underlying153 rfl (by rw [blk_size, HLS.out]) ?_
    | fail)
  (with_reducible refine HRD.out.mono ?_)
  rintro e w1 ⟨A, A', ck, cv, rfl, hs1, hs2, hb1⟩
  have HW := Lib.hid ((hb1.block (w.heap.size + 1) (by simp)).trans HR0.out)
  have HL1 : Hid (Holds8 w1 w.heap.size 153 l) := (hb1.block w.heap.size (by simp; omega)).trans H5.out
  have HBW := Lib.hid (HB0.out.trans (hb1.mono HB0.out.size))
  have hlt : w.heap.size + 1 < w1.heap.size := by have := hb1.size; simp at this; omega
  have HLT := Lib.hid hlt
  have hbb := fun W hTW => block_ok W hTW no hno ((l.getD 4 0).toNat : Int) (at8 l 12) (keysOf l (manyB l)) (valsOf l (manyB l)) HM.out A A' ck cv
  rw [HKL.out, HVL.out, HIM.out] at hbb
  have HBB := Lib.hid hbb
  have HS1 := Lib.hid (Shows.owned hs1)
  have HS2 := Lib.hid (Shows.owned hs2)
  have HO1 := Lib.hid hs1
  have HO2 := Lib.hid hs2
  clear hb1 hs1 hs2 hbb hlt HRD HM HIM
  generalize hI : img no (readB l (manyB l)) = I at *
  have HI := Lib.hid hI
  clear hI
  generalize hr : (I == l) = r at *
  have HRR := Lib.hid hr
  clear hr
  generalize hmm : manyB l = m at *
  generalize hbi : at8 l 12 = bi at *
  generalize hkd : ((l.getD 4 0).toNat : Int) = kd at *
  generalize hks : keysOf l m = ks at *
  generalize hvs : valsOf l m = vs at *
  have HJ : Hid (readB l m = ⟨kd, bi, ks, vs⟩) := HRB.out
  clear hmm hbi hkd hks hvs HRB
  go_wp2_with fail
  have hb2 := (Below.refl w1.heap.size w1).alloc (Nat.le_refl _) (.cells #[.int .i64 kd, .int .u64 (bi : Int), .slice A m ck, .slice A' m cv] 62)
  have hbw2 := HBW.out.trans (hb2.mono HBW.out.size)
  have hbk := HBB.out _ (HT.out.below hbw2 HTS.out) (HS1.out.on hb2) (HS2.out.on hb2)
  have HBK := Lib.hid hbk
  clear hbk
  (with_reducible refine HBK.out.mono ?_)
  rintro e w3 ⟨rfl, hb3⟩
  have HW3 := Lib.hid (heap_alloc' (o := .cells (cells8 I).toArray 153) ((hb3.block (w.heap.size + 1) (by have := HLT.out; simp; omega)).trans (heap_alloc' (o := .cells #[.int .i64 kd, .int .u64 (bi : Int), .slice A m ck, .slice A' m cv] 62) HW.out)))
  have HL3 : Hid (Holds8 (w3.alloc (.cells (cells8 I).toArray 153)) w.heap.size 153 l) := ((HL1.out.alloc _).below hb3).alloc _
  have HN3 := Lib.hid (heap_alloc' (o := .cells (cells8 I).toArray 153) ((hb3.block w1.heap.size (by simp)).trans (heap_alloc_new w1 (.cells #[.int .i64 kd, .int .u64 (bi : Int), .slice A m ck, .slice A' m cv] 62))))
  have HI3 : Hid (Holds8 (w3.alloc (.cells (cells8 I).toArray 153)) w3.heap.size 153 I) := Holds8.new w3 _ I _ rfl
  have hb13 := hb2.trans (hb3.mono hb2.size)
  have HB3 := Lib.hid ((HBW.out.trans (hb13.mono HBW.out.size)).alloc (by have := HLT.out; have := hb2.size; have := hb3.size; omega) (.cells (cells8 I).toArray 153))
  have hsz3 : w1.heap.size ≤ w3.heap.size := hb13.size
  have HB13 := Lib.hid (hb13.alloc hsz3 (.cells (cells8 I).toArray 153))
  clear hb2 hb3 hbw2 hb13
  have hcs := HIS.out
  have hcs2 := noughts_len
  have hcs3 := cells8_size noughts
  generalize noughts = z at *
  cases r with
  | true =>
    have hneq2 : ∀ (w : World), (binOp .neq 153 (.agg (cells8 I).toArray) (.agg (cells8 l).toArray)).run Tryz.prog w = .ok (.bool false) w := hneq
    clear hneq
    go_wp2_with fail
    refine wp_load_row 153 (.tmp 8) rfl w3.heap.size rfl 153 (cells8 I).toArray (0, 0) _ HI3.out Tryz.underlying153 rfl (by rw [blk_size, HIS.out]) ?_
    go_wp2_with fail
    refine wp_load_row 153 (.tmp 3) rfl w.heap.size rfl 153 (cells8 l).toArray (0, 0) _ HL3.out Tryz.underlying153 rfl (by rw [blk_size, HLS.out]) ?_
    go_wp2_with (first
      | refine wpList_load_row rfl 153 (.tmp 3) rfl w.heap.size rfl 153 (cells8 l).toArray (0, 0) _ HL3.out Tryz.underlying153 rfl (by rw [blk_size, HLS.out]) ?_
      | refine wpList_load_row rfl 62 (.tmp 6) rfl w1.heap.size rfl 62 #[.int .i64 kd, .int .u64 (bi : Int), .slice A m ck, .slice A' m cv] (0, 0) _ HN3.out Tryz.underlying62 rfl (by rw [node_size]; rfl) ?_
      | refine wpList_store_row rfl 62 (.tmp 4) (.tmp 32) rfl (w.heap.size + 1) #[.int .i64 kd, .int .u64 (bi : Int), .slice A m ck, .slice A' m cv] rfl rfl 62 #[.int .i64 0, .int .u64 0, .slice none 0 0, .slice none 0 0] HW3.out (by rw [node_size]; rfl) rfl (by simp [Value.oneCell']) ?_
      | fail)
    refine bodyPost_ret (results_cell_tmp rfl _ _ (w.heap.size + 1) 62 #[.int .i64 kd, .int .u64 (bi : Int), .slice A m ck, .slice A' m cv] (0, 0) _ (.int .i64 0) rfl rfl (setRow_heap _ _ _ _ _ _ HW3.out) Tryz.underlying62 rfl (by rw [node_size]; rfl)) rfl ?_
    have hg := grown_row (w3.alloc (.cells (cells8 I).toArray 153)) (w.heap.size + 1) #[.int .i64 kd, .int .u64 (bi : Int), .slice A m ck, .slice A' m cv]
    have ho1 := own_on HO1.out HB13.out
    have ho2 := own_on HO2.out HB13.out
    have hs1 := Shows.owned (ho1.kept hg (.inr fun e => by have := (ho1.lt _ e).1; simp at this; omega))
    have hs2 := Shows.owned (ho2.kept hg (.inr fun e => by have := (ho2.lt _ e).1; simp at this; omega))
    rw [HJ.out]
    refine ⟨below_setRow HB3.out (by simp) _, A, A', ck, cv, ?_, ?_, ?_⟩
    · show _ = Ending.returned (.tuple #[.agg #[_, _, .slice A ks.length ck, .slice A' vs.length cv], _])
      rw [HKL.out, HVL.out]
    · show Shows _ _ A ks.length _
      rw [HKL.out]; exact hs1
    · show Shows _ _ A' vs.length _
      rw [HVL.out]; exact hs2
  | false =>
    have hneq2 : ∀ (w : World), (binOp .neq 153 (.agg (cells8 I).toArray) (.agg (cells8 l).toArray)).run Tryz.prog w = .ok (.bool true) w := hneq
    clear hneq
    go_wp2_with fail
    refine wp_load_row 153 (.tmp 8) rfl w3.heap.size rfl 153 (cells8 I).toArray (0, 0) _ HI3.out Tryz.underlying153 rfl (by rw [blk_size, HIS.out]) ?_
    go_wp2_with fail
    refine wp_load_row 153 (.tmp 3) rfl w.heap.size rfl 153 (cells8 l).toArray (0, 0) _ HL3.out Tryz.underlying153 rfl (by rw [blk_size, HLS.out]) ?_
    go_wp2_with (first
      | refine wpList_load_row rfl 153 (.tmp 3) rfl w.heap.size rfl 153 (cells8 l).toArray (0, 0) _ HL3.out Tryz.underlying153 rfl (by rw [blk_size, HLS.out]) ?_
      | refine wpList_store_row rfl 62 (.tmp 4) (.tmp 31) rfl (w.heap.size + 1) #[.int .i64 0, .int .u64 0, .slice none 0 0, .slice none 0 0] rfl rfl 62 #[.int .i64 0, .int .u64 0, .slice none 0 0, .slice none 0 0] HW3.out (by rw [node_size]; rfl) rfl (by simp [Value.oneCell']) ?_
      | fail)
    exact bodyPost_ret (results_cell_tmp rfl _ _ (w.heap.size + 1) 62 #[.int .i64 0, .int .u64 0, .slice none 0 0, .slice none 0 0] (0, 0) _ (.int .i64 4) rfl rfl (setRow_heap _ _ _ _ _ _ HW3.out) Tryz.underlying62 rfl (by rw [node_size]; rfl)) rfl ⟨below_setRow HB3.out (by simp) _, rfl⟩

theorem of_any (w : World) (hT : Tabs w) (no : Nat) (hno : no < 4294967296) (l : List UInt8) (hl : l.length = 256) :
    Calls Tryz.prog 163 #[.int .u32 no, .agg (cells8 l).toArray] w (OfAs w (ofB no l)) := by
  by_cases h6 : manyB l ≤ 6
  · by_cases hm : mayB (readB l (manyB l)) = true
    · have e : ofB no l = pickO (img no (readB l (manyB l)) == l) (readB l (manyB l)) := by
        unfold ofB
        by_cases hi : img no (readB l (manyB l)) = l
        · rw [if_pos ⟨h6, hm, hi⟩, show (img no (readB l (manyB l)) == l) = true by simpa using hi]; rfl
        · rw [if_neg (fun h => hi h.2.2), show (img no (readB l (manyB l)) == l) = false by simpa using hi]; rfl
      rw [e]
      exact of_may w hT no hno l hl h6 hm
    · have e : ofB no l = none := if_neg (fun h => hm h.2.1)
      rw [e]
      exact (of_bad w no l hl h6 (by simpa using hm)).mono fun e w' hp => ⟨hp.2, hp.1⟩
  · have e : ofB no l = none := if_neg (fun h => h6 h.1)
    rw [e]
    exact (of_no w no l hl (by omega)).mono fun e w' hp => ⟨hp.2, hp.1⟩
end Go.Proofs.YtnddkpemoljhoaaGreatDoor
