/- PageMeans, walked. -/
import Derived.Test.YtojbajbghldoeaaDoorVg
import Derived.Test.YtojbajbghldoeaaDoorVh
set_option linter.unusedVariables false
namespace Go.Proofs.YtojbajbghldoeaaDoor
open Go.RowKit

/-- the law's own bytes -/
structure LV (w wr : World) (x : List UInt8) : Prop where
  x : Holds8 wr w.heap.size 29 x
  bel : Below w.heap.size w wr
theorem LV.on {w wr w2 : World} {x : List UInt8} (h : LV w wr x) (hb : Below wr.heap.size wr w2) : LV w w2 x := ⟨h.x.below hb, h.bel.trans (hb.mono h.bel.size)⟩
theorem LV.start (w : World) (x : List UInt8) : LV w (w.alloc (.cells (cells8 x).toArray 29)) x := ⟨Holds8.new w _ x _ rfl, (Below.refl w.heap.size w).alloc (Nat.le_refl _) _⟩
set_option maxRecDepth 10000 in
set_option maxHeartbeats 4000000 in
theorem pm_long (w : World) (hT : Tabs w) (no : Nat) (hno : no < 4294967296) (ix : Int) (l : List Nat) (hf : ∀ k ∈ l, k < 65536) (A : Option Addr) (c : Nat) (hs : Shows w w.heap.size A l.length (nums16 l)) (b : List UInt8) (hb : b.length = 256) (at_ : Int) (by_ : UInt8) (h130 : 130 < l.length) :
    Calls Tryd.prog 9 #[.int .u32 (no : Int), .int .i64 ix, .slice A l.length c, .agg (cells8 b).toArray, .int .i64 at_, .int .u8 (by_.toNat : Int)] w fun e w' => e = .returned (.bool true) ∧ Below w.heap.size w w' := by
  have H0 := Lib.hid (LV.start w b)
  have h130I : (130 : Int) < (l.length : Int) := by omega
  clear hs hf hb
  go_enter Tryd.func9, Tryd.ntmps9
  go_wp2_with (go_at_call 38; (with_reducible refine (vknown _).mono ?_); rintro e wk ⟨rfl, rfl⟩)
  go_ret
  exact ⟨rfl, H0.out.bel⟩
set_option maxRecDepth 10000 in
set_option maxHeartbeats 4000000 in
theorem pm_below (w : World) (hT : Tabs w) (no : Nat) (hno : no < 4294967296) (ix : Int) (l : List Nat) (hf : ∀ k ∈ l, k < 65536) (A : Option Addr) (c : Nat) (hs : Shows w w.heap.size A l.length (nums16 l)) (b : List UInt8) (hb : b.length = 256) (at_ : Int) (by_ : UInt8) (h130 : l.length ≤ 130) (hix : ix < 0) :
    Calls Tryd.prog 9 #[.int .u32 (no : Int), .int .i64 ix, .slice A l.length c, .agg (cells8 b).toArray, .int .i64 at_, .int .u8 (by_.toNat : Int)] w fun e w' => e = .returned (.bool true) ∧ Below w.heap.size w w' := by
  have H0 := Lib.hid (LV.start w b)
  have h130I : (l.length : Int) ≤ 130 := by omega
  have hr : okP ix l.length = false := by simp [okP]; omega
  have hok : okP ix 120 = false := by simp [okP]; omega
  have i1 : ¬ (0 : Int) ≤ ix := by omega
  clear hix h130
  have hT0 := hT
  have HS := Lib.hid hs
  have HF := Lib.hid hf
  have HBL := Lib.hid hb
  have hblk := fun W (h : LV w W b) => (vblock_any W (hT.below h.bel hT.size) no ix hno l hf A c (hs.on h.bel)).mono fun e w' hp => (show e = .returned (.tuple #[.agg (cells8 (blkR (okP ix l.length) (imgP no ix.toNat l))).toArray, .int .i64 (errR (okP ix l.length))]) ∧ Hid (LV w w' b) from ⟨hp.1, h.on hp.2⟩)
  rw [hr] at hblk
  have hxl : (blkR false (imgP no ix.toNat l)).length = 256 := blkR_len _ _ fun h => by cases h
  rw [show errR false = 2 from rfl] at hblk
  clear hs hf hb
  generalize hX : blkR false (imgP no ix.toNat l) = X at *
  have HX := Lib.hid hX
  have HBLK := Lib.hid hblk
  have HXL := Lib.hid hxl
  have hst := fun w => store_blk w noughts X noughts_len hxl
  have hcs : (cells8 X).toArray.size = 256 := (cells8_size _).trans hxl
  have hz := blk_zero
  have hz2 : (cells8 noughts).toArray.size = 256 := (cells8_size _).trans noughts_len
  clear hX hblk hxl
  generalize hZ : noughts = z at hst hz hz2
  have HZ := Lib.hid hZ
  clear hZ
  go_enter Tryd.func9, Tryd.ntmps9
  go_wp2_with fail
  (with_reducible refine (HBLK.out _ H0.out).mono ?_)
  rintro e w3 ⟨rfl, H3⟩
  have H4 : Hid (LV w (w3.alloc (.cells (cells8 X).toArray 29)) b) := H3.out.on ((Below.refl _ _).alloc (Nat.le_refl _) _)
  have HXB : Hid (Holds8 (w3.alloc (.cells (cells8 X).toArray 29)) w3.heap.size 29 X) := Holds8.new w3 _ X _ rfl
  clear HBLK H3 H0
  have hneq := fun w => neq_blk X noughts HXL.out noughts_len w
  have hXn : (X == noughts) = true := by rw [← HX.out]; simp [blkR]
  rw [hXn, HZ.out] at hneq
  have hneq2 : ∀ w : World, (binOp .neq 29 (.agg (cells8 X).toArray) (.agg (cells8 z).toArray)).run Tryd.prog w = .ok (.bool false) w := hneq
  have HXS : Hid ((cells8 X).toArray.size = 256) := hcs
  clear hneq hXn
  go_wp2_with fail
  refine wp_load_row 29 (.tmp 13) rfl w3.heap.size rfl 29 (cells8 X).toArray (0, 0) _ HXB.out Tryd.underlying29 rfl (by rw [blk_size, HXS.out]) ?_
  have HLS : Hid ((cells8 b).toArray.size = 256) := (cells8_size b).trans HBL.out
  have hof := vof_any (w3.alloc (.cells (cells8 X).toArray 29)) (hT.below H4.out.bel hT.size) no hno ix b HBL.out
  rw [hok] at hof
  have hof2 : Calls Tryd.prog 41 #[.int .u32 (no : Int), .int .i64 ix, .agg (cells8 b).toArray] (w3.alloc (.cells (cells8 X).toArray 29)) fun e w' => e = .returned (.tuple #[.slice none 0 0, .int .i64 2]) ∧ Below (w3.alloc (.cells (cells8 X).toArray 29)).heap.size (w3.alloc (.cells (cells8 X).toArray 29)) w' := hof.mono fun e w' hp => ⟨hp.2, hp.1⟩
  have HOF := Lib.hid hof2
  clear hof hof2 hok
  go_wp2_with (first
    | refine wpList_load_row rfl 29 (.tmp 9) rfl w.heap.size rfl 29 (cells8 b).toArray (0, 0) _ H4.out.x Tryd.underlying29 rfl (by rw [blk_size, HLS.out]) ?_
    | fail)
  (with_reducible refine HOF.out.mono ?_)
  rintro e w6 ⟨rfl, hb6⟩
  have H7 := Lib.hid (H4.out.on hb6)
  clear HOF hb6 H4
  go_wp2_with (first
    | (go_at_call 38; (with_reducible refine (vknown _).mono ?_); rintro e wk ⟨rfl, rfl⟩)
    | fail)
  go_ret
  exact ⟨rfl, H7.out.bel⟩
set_option maxRecDepth 10000 in
set_option maxHeartbeats 4000000 in
theorem pm_above (w : World) (hT : Tabs w) (no : Nat) (hno : no < 4294967296) (ix : Int) (l : List Nat) (hf : ∀ k ∈ l, k < 65536) (A : Option Addr) (c : Nat) (hs : Shows w w.heap.size A l.length (nums16 l)) (b : List UInt8) (hb : b.length = 256) (at_ : Int) (by_ : UInt8) (h130 : l.length ≤ 130) (hix : 255 < ix) :
    Calls Tryd.prog 9 #[.int .u32 (no : Int), .int .i64 ix, .slice A l.length c, .agg (cells8 b).toArray, .int .i64 at_, .int .u8 (by_.toNat : Int)] w fun e w' => e = .returned (.bool true) ∧ Below w.heap.size w w' := by
  have H0 := Lib.hid (LV.start w b)
  have h130I : (l.length : Int) ≤ 130 := by omega
  have hr : okP ix l.length = false := by simp [okP]; omega
  have hok : okP ix 120 = false := by simp [okP]; omega
  have i1 : (0 : Int) ≤ ix := by omega
  have i2 : ¬ ix ≤ (255 : Int) := by omega
  clear hix h130
  have hT0 := hT
  have HS := Lib.hid hs
  have HF := Lib.hid hf
  have HBL := Lib.hid hb
  have hblk := fun W (h : LV w W b) => (vblock_any W (hT.below h.bel hT.size) no ix hno l hf A c (hs.on h.bel)).mono fun e w' hp => (show e = .returned (.tuple #[.agg (cells8 (blkR (okP ix l.length) (imgP no ix.toNat l))).toArray, .int .i64 (errR (okP ix l.length))]) ∧ Hid (LV w w' b) from ⟨hp.1, h.on hp.2⟩)
  rw [hr] at hblk
  have hxl : (blkR false (imgP no ix.toNat l)).length = 256 := blkR_len _ _ fun h => by cases h
  rw [show errR false = 2 from rfl] at hblk
  clear hs hf hb
  generalize hX : blkR false (imgP no ix.toNat l) = X at *
  have HX := Lib.hid hX
  have HBLK := Lib.hid hblk
  have HXL := Lib.hid hxl
  have hst := fun w => store_blk w noughts X noughts_len hxl
  have hcs : (cells8 X).toArray.size = 256 := (cells8_size _).trans hxl
  have hz := blk_zero
  have hz2 : (cells8 noughts).toArray.size = 256 := (cells8_size _).trans noughts_len
  clear hX hblk hxl
  generalize hZ : noughts = z at hst hz hz2
  have HZ := Lib.hid hZ
  clear hZ
  go_enter Tryd.func9, Tryd.ntmps9
  go_wp2_with fail
  (with_reducible refine (HBLK.out _ H0.out).mono ?_)
  rintro e w3 ⟨rfl, H3⟩
  have H4 : Hid (LV w (w3.alloc (.cells (cells8 X).toArray 29)) b) := H3.out.on ((Below.refl _ _).alloc (Nat.le_refl _) _)
  have HXB : Hid (Holds8 (w3.alloc (.cells (cells8 X).toArray 29)) w3.heap.size 29 X) := Holds8.new w3 _ X _ rfl
  clear HBLK H3 H0
  have hneq := fun w => neq_blk X noughts HXL.out noughts_len w
  have hXn : (X == noughts) = true := by rw [← HX.out]; simp [blkR]
  rw [hXn, HZ.out] at hneq
  have hneq2 : ∀ w : World, (binOp .neq 29 (.agg (cells8 X).toArray) (.agg (cells8 z).toArray)).run Tryd.prog w = .ok (.bool false) w := hneq
  have HXS : Hid ((cells8 X).toArray.size = 256) := hcs
  clear hneq hXn
  go_wp2_with fail
  refine wp_load_row 29 (.tmp 13) rfl w3.heap.size rfl 29 (cells8 X).toArray (0, 0) _ HXB.out Tryd.underlying29 rfl (by rw [blk_size, HXS.out]) ?_
  have HLS : Hid ((cells8 b).toArray.size = 256) := (cells8_size b).trans HBL.out
  have hof := vof_any (w3.alloc (.cells (cells8 X).toArray 29)) (hT.below H4.out.bel hT.size) no hno ix b HBL.out
  rw [hok] at hof
  have hof2 : Calls Tryd.prog 41 #[.int .u32 (no : Int), .int .i64 ix, .agg (cells8 b).toArray] (w3.alloc (.cells (cells8 X).toArray 29)) fun e w' => e = .returned (.tuple #[.slice none 0 0, .int .i64 2]) ∧ Below (w3.alloc (.cells (cells8 X).toArray 29)).heap.size (w3.alloc (.cells (cells8 X).toArray 29)) w' := hof.mono fun e w' hp => ⟨hp.2, hp.1⟩
  have HOF := Lib.hid hof2
  clear hof hof2 hok
  go_wp2_with (first
    | refine wpList_load_row rfl 29 (.tmp 9) rfl w.heap.size rfl 29 (cells8 b).toArray (0, 0) _ H4.out.x Tryd.underlying29 rfl (by rw [blk_size, HLS.out]) ?_
    | fail)
  (with_reducible refine HOF.out.mono ?_)
  rintro e w6 ⟨rfl, hb6⟩
  have H7 := Lib.hid (H4.out.on hb6)
  clear HOF hb6 H4
  go_wp2_with (first
    | (go_at_call 38; (with_reducible refine (vknown _).mono ?_); rintro e wk ⟨rfl, rfl⟩)
    | fail)
  go_ret
  exact ⟨rfl, H7.out.bel⟩
set_option maxRecDepth 10000 in
set_option maxHeartbeats 4000000 in
theorem pm_over (w : World) (hT : Tabs w) (no : Nat) (hno : no < 4294967296) (i : Nat) (l : List Nat) (hf : ∀ k ∈ l, k < 65536) (A : Option Addr) (c : Nat) (hs : Shows w w.heap.size A l.length (nums16 l)) (b : List UInt8) (hb : b.length = 256) (at_ : Int) (by_ : UInt8) (h130 : l.length ≤ 130) (h120 : 120 < l.length) (hi : i ≤ 255) :
    Calls Tryd.prog 9 #[.int .u32 (no : Int), .int .i64 (i : Int), .slice A l.length c, .agg (cells8 b).toArray, .int .i64 at_, .int .u8 (by_.toNat : Int)] w fun e w' => e = .returned (.bool true) ∧ Below w.heap.size w w' := by
  have H0 := Lib.hid (LV.start w b)
  have h130I : (l.length : Int) ≤ 130 := by omega
  have h120I : (120 : Int) < (l.length : Int) := by omega
  have hr : okP (i : Int) l.length = false := by simp [okP]; omega
  have hok : okP (i : Int) 120 = true := by simp [okP]; omega
  have i2 : (i : Int) ≤ 255 := by omega
  clear h130
  have hT0 := hT
  have HS := Lib.hid hs
  have HF := Lib.hid hf
  have HBL := Lib.hid hb
  have hblk := fun W (h : LV w W b) => (vblock_any W (hT.below h.bel hT.size) no (i : Int) hno l hf A c (hs.on h.bel)).mono fun e w' hp => (show e = .returned (.tuple #[.agg (cells8 (blkR (okP (i : Int) l.length) (imgP no (i : Int).toNat l))).toArray, .int .i64 (errR (okP (i : Int) l.length))]) ∧ Hid (LV w w' b) from ⟨hp.1, h.on hp.2⟩)
  rw [hr] at hblk
  have hxl : (blkR false (imgP no (i : Int).toNat l)).length = 256 := blkR_len _ _ fun h => by cases h
  rw [show errR false = 2 from rfl] at hblk
  clear hs hf hb
  generalize hX : blkR false (imgP no (i : Int).toNat l) = X at *
  have HX := Lib.hid hX
  have HBLK := Lib.hid hblk
  have HXL := Lib.hid hxl
  have hst := fun w => store_blk w noughts X noughts_len hxl
  have hcs : (cells8 X).toArray.size = 256 := (cells8_size _).trans hxl
  have hz := blk_zero
  have hz2 : (cells8 noughts).toArray.size = 256 := (cells8_size _).trans noughts_len
  clear hX hblk hxl
  generalize hZ : noughts = z at hst hz hz2
  have HZ := Lib.hid hZ
  clear hZ
  go_enter Tryd.func9, Tryd.ntmps9
  go_wp2_with fail
  (with_reducible refine (HBLK.out _ H0.out).mono ?_)
  rintro e w3 ⟨rfl, H3⟩
  have H4 : Hid (LV w (w3.alloc (.cells (cells8 X).toArray 29)) b) := H3.out.on ((Below.refl _ _).alloc (Nat.le_refl _) _)
  have HXB : Hid (Holds8 (w3.alloc (.cells (cells8 X).toArray 29)) w3.heap.size 29 X) := Holds8.new w3 _ X _ rfl
  clear HBLK H3 H0
  have hneq := fun w => neq_blk X noughts HXL.out noughts_len w
  have hXn : (X == noughts) = true := by rw [← HX.out]; simp [blkR]
  rw [hXn, HZ.out] at hneq
  have hneq2 : ∀ w : World, (binOp .neq 29 (.agg (cells8 X).toArray) (.agg (cells8 z).toArray)).run Tryd.prog w = .ok (.bool false) w := hneq
  have HXS : Hid ((cells8 X).toArray.size = 256) := hcs
  clear hneq hXn
  go_wp2_with fail
  refine wp_load_row 29 (.tmp 13) rfl w3.heap.size rfl 29 (cells8 X).toArray (0, 0) _ HXB.out Tryd.underlying29 rfl (by rw [blk_size, HXS.out]) ?_
  have HLS : Hid ((cells8 b).toArray.size = 256) := (cells8_size b).trans HBL.out
  have hof := vof_any (w3.alloc (.cells (cells8 X).toArray 29)) (hT.below H4.out.bel hT.size) no hno (i : Int) b HBL.out
  rw [hok, Int.toNat_natCast, show blkR true (imgP no i (cntOf b 120)) = imgP no i (cntOf b 120) from rfl] at hof
  have hrof := fun W => rvof_any W no i hno hi b HBL.out
  have HLC := Lib.hid (cntOf_length b 120)
  have HLS : Hid ((cells8 b).toArray.size = 256) := (cells8_size b).trans HBL.out
  clear hok
  generalize (imgP no i (cntOf b 120) == b) = q at *
  generalize cntOf b 120 = y at *
  have HROF := Lib.hid hrof
  clear hrof
  cases q with
  | false =>
    have hof2 : Calls Tryd.prog 41 #[.int .u32 (no : Int), .int .i64 (i : Int), .agg (cells8 b).toArray] (w3.alloc (.cells (cells8 X).toArray 29)) fun e w' => e = .returned (.tuple #[.slice none 0 0, .int .i64 4]) ∧ Below ((w3.alloc (.cells (cells8 X).toArray 29))).heap.size ((w3.alloc (.cells (cells8 X).toArray 29))) w' := hof.mono fun e w' hp => ⟨hp.2, hp.1⟩
    have HOF := Lib.hid hof2
    clear hof hof2
    go_wp2_with (first
      | refine wpList_load_row rfl 29 (.tmp 9) rfl w.heap.size rfl 29 (cells8 b).toArray (0, 0) _ H4.out.x Tryd.underlying29 rfl (by rw [blk_size, HLS.out]) ?_
      | fail)
    (with_reducible refine HOF.out.mono ?_)
    rintro e w6 ⟨rfl, hb6⟩
    have H7 := Lib.hid (H4.out.on hb6)
    clear HOF hb6 H4
    go_wp2_with (first
      | refine wpList_load_row rfl 29 (.tmp 9) rfl w.heap.size rfl 29 (cells8 b).toArray (0, 0) _ H7.out.x Tryd.underlying29 rfl (by rw [blk_size, HLS.out]) ?_
      | fail)
    (with_reducible refine (HROF.out _).mono ?_)
    rintro e w8 ⟨⟨A8, c8, rfl, hs8⟩, hb8⟩
    have H9 := Lib.hid (H7.out.on hb8)
    clear hs8 hb8 H7
    go_wp2_with (first
      | (go_at_call 38; (with_reducible refine (vknown _).mono ?_); rintro e wk ⟨rfl, rfl⟩)
      | fail)
    go_ret
    exact ⟨rfl, H9.out.bel⟩
  | true =>
    have hof2 : Calls Tryd.prog 41 #[.int .u32 (no : Int), .int .i64 (i : Int), .agg (cells8 b).toArray] (w3.alloc (.cells (cells8 X).toArray 29)) fun e w' => ∃ A c, e = .returned (.tuple #[.slice A 120 c, .int .i64 0]) ∧ Shows w' w'.heap.size A 120 (nums16 y) ∧ Below ((w3.alloc (.cells (cells8 X).toArray 29))).heap.size ((w3.alloc (.cells (cells8 X).toArray 29))) w' := hof.mono fun e w' hp => by
      obtain ⟨h1, A, c, h2, h3⟩ := hp
      exact ⟨A, c, h2, h3, h1⟩
    have HOF := Lib.hid hof2
    clear hof hof2
    go_wp2_with (first
      | refine wpList_load_row rfl 29 (.tmp 9) rfl w.heap.size rfl 29 (cells8 b).toArray (0, 0) _ H4.out.x Tryd.underlying29 rfl (by rw [blk_size, HLS.out]) ?_
      | fail)
    (with_reducible refine HOF.out.mono ?_)
    rintro e w6 ⟨A6, c6, rfl, hs6, hb6⟩
    have H7 := Lib.hid (H4.out.on hb6)
    have HS6 := Lib.hid hs6
    clear HOF hb6 hs6 H4
    go_wp2_with (first
      | refine wpList_load_row rfl 29 (.tmp 9) rfl w.heap.size rfl 29 (cells8 b).toArray (0, 0) _ H7.out.x Tryd.underlying29 rfl (by rw [blk_size, HLS.out]) ?_
      | fail)
    (with_reducible refine (HROF.out _).mono ?_)
    rintro e w8 ⟨⟨A8, c8, rfl, hs8⟩, hb8⟩
    have H9 := Lib.hid (H7.out.on hb8)
    have hsm := vsame_ok w8 y A6 A8 c6 c8 (by rw [HLC.out]; omega) (by rw [HLC.out]; exact HS6.out.on hb8) (by rw [HLC.out]; exact hs8)
    rw [HLC.out] at hsm
    have HSM := Lib.hid hsm
    clear hs8 hb8 H7 HS6 hsm
    go_wp2_with fail
    (with_reducible refine HSM.out.mono ?_)
    rintro e w9 ⟨rfl, hb9⟩
    have H10 := Lib.hid (H9.out.on hb9)
    clear hb9 H9
    go_wp2_with (first
      | (go_at_call 38; (with_reducible refine (vknown _).mono ?_); rintro e wk ⟨rfl, rfl⟩)
      | fail)
    go_ret
    exact ⟨rfl, H10.out.bel⟩
set_option maxRecDepth 10000 in
set_option maxHeartbeats 4000000 in
theorem pm_no (w : World) (hT : Tabs w) (no : Nat) (hno : no < 4294967296) (i : Nat) (l : List Nat) (hf : ∀ k ∈ l, k < 65536) (A : Option Addr) (c : Nat) (hs : Shows w w.heap.size A l.length (nums16 l)) (b : List UInt8) (hb : b.length = 256) (at_ : Int) (by_ : UInt8) (h120 : l.length ≤ 120) (hi : i ≤ 255) (hat : at_ < 0) :
    Calls Tryd.prog 9 #[.int .u32 (no : Int), .int .i64 (i : Int), .slice A l.length c, .agg (cells8 b).toArray, .int .i64 at_, .int .u8 (by_.toNat : Int)] w fun e w' => e = .returned (.bool true) ∧ Below w.heap.size w w' := by
  have H0 := Lib.hid (LV.start w b)
  have h130I : (l.length : Int) ≤ 130 := by omega
  have h120I : (l.length : Int) ≤ 120 := by omega
  have hr : okP (i : Int) l.length = true := by simp [okP]; omega
  have hok : okP (i : Int) 120 = true := by simp [okP]; omega
  have i2 : (i : Int) ≤ 255 := by omega
  have hT0 := hT
  have HS := Lib.hid hs
  have HF := Lib.hid hf
  have HBL := Lib.hid hb
  have hblk := fun W (h : LV w W b) => (vblock_any W (hT.below h.bel hT.size) no (i : Int) hno l hf A c (hs.on h.bel)).mono fun e w' hp => (show e = .returned (.tuple #[.agg (cells8 (blkR (okP (i : Int) l.length) (imgP no (i : Int).toNat l))).toArray, .int .i64 (errR (okP (i : Int) l.length))]) ∧ Hid (LV w w' b) from ⟨hp.1, h.on hp.2⟩)
  rw [hr] at hblk
  have hxl : (blkR true (imgP no (i : Int).toNat l)).length = 256 := blkR_len _ _ fun _ => imgP_length no _ l (by omega)
  rw [show errR true = 0 from rfl] at hblk
  clear hs hf hb
  generalize hX : blkR true (imgP no (i : Int).toNat l) = X at *
  have HX := Lib.hid hX
  have HBLK := Lib.hid hblk
  have HXL := Lib.hid hxl
  have hst := fun w => store_blk w noughts X noughts_len hxl
  have hcs : (cells8 X).toArray.size = 256 := (cells8_size _).trans hxl
  have hz := blk_zero
  have hz2 : (cells8 noughts).toArray.size = 256 := (cells8_size _).trans noughts_len
  clear hX hblk hxl
  generalize hZ : noughts = z at hst hz hz2
  have HZ := Lib.hid hZ
  clear hZ
  go_enter Tryd.func9, Tryd.ntmps9
  go_wp2_with fail
  (with_reducible refine (HBLK.out _ H0.out).mono ?_)
  rintro e w3 ⟨rfl, H3⟩
  have H4 : Hid (LV w (w3.alloc (.cells (cells8 X).toArray 29)) b) := H3.out.on ((Below.refl _ _).alloc (Nat.le_refl _) _)
  have HXB : Hid (Holds8 (w3.alloc (.cells (cells8 X).toArray 29)) w3.heap.size 29 X) := Holds8.new w3 _ X _ rfl
  clear HBLK H3 H0
  have HXI : Hid (imgP no i l = X) := HX.out
  have HRB : Hid (∀ W, Below (w3.alloc (.cells (cells8 X).toArray 29)).heap.size (w3.alloc (.cells (cells8 X).toArray 29)) W → Calls Tryd.prog 40 #[.int .u32 (no : Int), .int .i64 (i : Int), .slice A l.length c] W fun e w' => e = .returned (.agg (cells8 X).toArray) ∧ w'.rangeAt w3.heap.size 0 (cells8 X) ∧ Hid (Below (w3.alloc (.cells (cells8 X).toArray 29)).heap.size (w3.alloc (.cells (cells8 X).toArray 29)) w')) := fun W hW => (rvblock_any W no i hno hi l h120 HF.out A c (HS.out.on (H4.out.bel.trans (hW.mono H4.out.bel.size)))).mono fun e w' hp => by
    have hb := hW.trans (hp.2.mono hW.size)
    exact ⟨by rw [← HXI.out]; exact hp.1, (HXB.out.below hb).range', hb⟩
  have hneq := fun w => neq_blk X X HXL.out HXL.out w
  have hXn : (X == X) = true := by simp
  rw [hXn] at hneq
  have hneq2 : ∀ w : World, (binOp .neq 29 (.agg (cells8 X).toArray) (.agg (cells8 X).toArray)).run Tryd.prog w = .ok (.bool false) w := hneq
  clear hneq hXn
  have hu := Tryd.underlying29
  have z1 := blk_sizeV X HXL.out
  have HS0 : Hid ((w3.alloc (.cells (cells8 X).toArray 29)).drew.rangeAt w3.heap.size 0 (cells8 X)) := (HXB.out.below (Below.refl _ _).drew).range'
  go_wp2_with fail
  first | go_region_held3 (fun w' => w'.rangeAt w3.heap.size 0 (cells8 X))
    (first | with_reducible exact HS0.out | with_reducible exact hSb)
    ((go_at_call 40; (with_reducible refine (HRB.out _ (Below.refl _ _).drew).mono ?_); rintro e wb ⟨rfl, hSb, hbb⟩)) | fail
  all_goals
    have HXb := Lib.hid (HXB.out.below hbb.out)
    have H6 := Lib.hid (H4.out.on hbb.out)
    have HXS : Hid ((cells8 X).toArray.size = 256) := hcs
    clear hSb hu z1 HRB HXB H4
    have hatI : ¬ (0 : Int) ≤ at_ := by omega
    clear hat
    have hof := vof_any wb (hT.below H6.out.bel hT.size) no hno (i : Int) b HBL.out
    rw [hok, Int.toNat_natCast, show blkR true (imgP no i (cntOf b 120)) = imgP no i (cntOf b 120) from rfl] at hof
    have hrof := fun W => rvof_any W no i hno hi b HBL.out
    have HLC := Lib.hid (cntOf_length b 120)
    have HLS : Hid ((cells8 b).toArray.size = 256) := (cells8_size b).trans HBL.out
    clear hok
    generalize (imgP no i (cntOf b 120) == b) = q at *
    generalize cntOf b 120 = y at *
    have HROF := Lib.hid hrof
    clear hrof
    cases q with
    | false =>
      have hof2 : Calls Tryd.prog 41 #[.int .u32 (no : Int), .int .i64 (i : Int), .agg (cells8 b).toArray] wb fun e w' => e = .returned (.tuple #[.slice none 0 0, .int .i64 4]) ∧ Below (wb).heap.size (wb) w' := hof.mono fun e w' hp => ⟨hp.2, hp.1⟩
      have HOF := Lib.hid hof2
      clear hof hof2
      go_wp2_with (first
        | refine wpList_load_row rfl 29 (.tmp 9) rfl w.heap.size rfl 29 (cells8 b).toArray (0, 0) _ H6.out.x Tryd.underlying29 rfl (by rw [blk_size, HLS.out]) ?_
        | fail)
      (with_reducible refine HOF.out.mono ?_)
      rintro e w6 ⟨rfl, hb6⟩
      have H7 := Lib.hid (H6.out.on hb6)
      clear HOF hb6 H6
      go_wp2_with (first
        | refine wpList_load_row rfl 29 (.tmp 9) rfl w.heap.size rfl 29 (cells8 b).toArray (0, 0) _ H7.out.x Tryd.underlying29 rfl (by rw [blk_size, HLS.out]) ?_
        | fail)
      (with_reducible refine (HROF.out _).mono ?_)
      rintro e w8 ⟨⟨A8, c8, rfl, hs8⟩, hb8⟩
      have H9 := Lib.hid (H7.out.on hb8)
      clear hs8 hb8 H7
      go_wp2_with (first
        | (go_at_call 38; (with_reducible refine (vknown _).mono ?_); rintro e wk ⟨rfl, rfl⟩)
        | fail)
      go_ret
      exact ⟨rfl, H9.out.bel⟩
    | true =>
      have hof2 : Calls Tryd.prog 41 #[.int .u32 (no : Int), .int .i64 (i : Int), .agg (cells8 b).toArray] wb fun e w' => ∃ A c, e = .returned (.tuple #[.slice A 120 c, .int .i64 0]) ∧ Shows w' w'.heap.size A 120 (nums16 y) ∧ Below (wb).heap.size (wb) w' := hof.mono fun e w' hp => by
        obtain ⟨h1, A, c, h2, h3⟩ := hp
        exact ⟨A, c, h2, h3, h1⟩
      have HOF := Lib.hid hof2
      clear hof hof2
      go_wp2_with (first
        | refine wpList_load_row rfl 29 (.tmp 9) rfl w.heap.size rfl 29 (cells8 b).toArray (0, 0) _ H6.out.x Tryd.underlying29 rfl (by rw [blk_size, HLS.out]) ?_
        | fail)
      (with_reducible refine HOF.out.mono ?_)
      rintro e w6 ⟨A6, c6, rfl, hs6, hb6⟩
      have H7 := Lib.hid (H6.out.on hb6)
      have HS6 := Lib.hid hs6
      clear HOF hb6 hs6 H6
      go_wp2_with (first
        | refine wpList_load_row rfl 29 (.tmp 9) rfl w.heap.size rfl 29 (cells8 b).toArray (0, 0) _ H7.out.x Tryd.underlying29 rfl (by rw [blk_size, HLS.out]) ?_
        | fail)
      (with_reducible refine (HROF.out _).mono ?_)
      rintro e w8 ⟨⟨A8, c8, rfl, hs8⟩, hb8⟩
      have H9 := Lib.hid (H7.out.on hb8)
      have hsm := vsame_ok w8 y A6 A8 c6 c8 (by rw [HLC.out]; omega) (by rw [HLC.out]; exact HS6.out.on hb8) (by rw [HLC.out]; exact hs8)
      rw [HLC.out] at hsm
      have HSM := Lib.hid hsm
      clear hs8 hb8 H7 HS6 hsm
      go_wp2_with fail
      (with_reducible refine HSM.out.mono ?_)
      rintro e w9 ⟨rfl, hb9⟩
      have H10 := Lib.hid (H9.out.on hb9)
      clear hb9 H9
      go_wp2_with (first
        | (go_at_call 38; (with_reducible refine (vknown _).mono ?_); rintro e wk ⟨rfl, rfl⟩)
        | fail)
      go_ret
      exact ⟨rfl, H10.out.bel⟩
set_option maxRecDepth 10000 in
set_option maxHeartbeats 4000000 in
theorem pm_at (w : World) (hT : Tabs w) (no : Nat) (hno : no < 4294967296) (i : Nat) (l : List Nat) (hf : ∀ k ∈ l, k < 65536) (A : Option Addr) (c : Nat) (hs : Shows w w.heap.size A l.length (nums16 l)) (b : List UInt8) (hb : b.length = 256) (by_ : UInt8) (h120 : l.length ≤ 120) (hi : i ≤ 255) (n : Nat) :
    Calls Tryd.prog 9 #[.int .u32 (no : Int), .int .i64 (i : Int), .slice A l.length c, .agg (cells8 b).toArray, .int .i64 (n : Int), .int .u8 (by_.toNat : Int)] w fun e w' => e = .returned (.bool true) ∧ Below w.heap.size w w' := by
  have H0 := Lib.hid (LV.start w b)
  have h130I : (l.length : Int) ≤ 130 := by omega
  have h120I : (l.length : Int) ≤ 120 := by omega
  have hr : okP (i : Int) l.length = true := by simp [okP]; omega
  have hok : okP (i : Int) 120 = true := by simp [okP]; omega
  have i2 : (i : Int) ≤ 255 := by omega
  have hT0 := hT
  have HS := Lib.hid hs
  have HF := Lib.hid hf
  have HBL := Lib.hid hb
  have hblk := fun W (h : LV w W b) => (vblock_any W (hT.below h.bel hT.size) no (i : Int) hno l hf A c (hs.on h.bel)).mono fun e w' hp => (show e = .returned (.tuple #[.agg (cells8 (blkR (okP (i : Int) l.length) (imgP no (i : Int).toNat l))).toArray, .int .i64 (errR (okP (i : Int) l.length))]) ∧ Hid (LV w w' b) from ⟨hp.1, h.on hp.2⟩)
  rw [hr] at hblk
  have hxl : (blkR true (imgP no (i : Int).toNat l)).length = 256 := blkR_len _ _ fun _ => imgP_length no _ l (by omega)
  rw [show errR true = 0 from rfl] at hblk
  clear hs hf hb
  generalize hX : blkR true (imgP no (i : Int).toNat l) = X at *
  have HX := Lib.hid hX
  have HBLK := Lib.hid hblk
  have HXL := Lib.hid hxl
  have hst := fun w => store_blk w noughts X noughts_len hxl
  have hcs : (cells8 X).toArray.size = 256 := (cells8_size _).trans hxl
  have hz := blk_zero
  have hz2 : (cells8 noughts).toArray.size = 256 := (cells8_size _).trans noughts_len
  clear hX hblk hxl
  generalize hZ : noughts = z at hst hz hz2
  have HZ := Lib.hid hZ
  clear hZ
  go_enter Tryd.func9, Tryd.ntmps9
  go_wp2_with fail
  (with_reducible refine (HBLK.out _ H0.out).mono ?_)
  rintro e w3 ⟨rfl, H3⟩
  have H4 : Hid (LV w (w3.alloc (.cells (cells8 X).toArray 29)) b) := H3.out.on ((Below.refl _ _).alloc (Nat.le_refl _) _)
  have HXB : Hid (Holds8 (w3.alloc (.cells (cells8 X).toArray 29)) w3.heap.size 29 X) := Holds8.new w3 _ X _ rfl
  clear HBLK H3 H0
  have HXI : Hid (imgP no i l = X) := HX.out
  have HRB : Hid (∀ W, Below (w3.alloc (.cells (cells8 X).toArray 29)).heap.size (w3.alloc (.cells (cells8 X).toArray 29)) W → Calls Tryd.prog 40 #[.int .u32 (no : Int), .int .i64 (i : Int), .slice A l.length c] W fun e w' => e = .returned (.agg (cells8 X).toArray) ∧ w'.rangeAt w3.heap.size 0 (cells8 X) ∧ Hid (Below (w3.alloc (.cells (cells8 X).toArray 29)).heap.size (w3.alloc (.cells (cells8 X).toArray 29)) w')) := fun W hW => (rvblock_any W no i hno hi l h120 HF.out A c (HS.out.on (H4.out.bel.trans (hW.mono H4.out.bel.size)))).mono fun e w' hp => by
    have hb := hW.trans (hp.2.mono hW.size)
    exact ⟨by rw [← HXI.out]; exact hp.1, (HXB.out.below hb).range', hb⟩
  have hneq := fun w => neq_blk X X HXL.out HXL.out w
  have hXn : (X == X) = true := by simp
  rw [hXn] at hneq
  have hneq2 : ∀ w : World, (binOp .neq 29 (.agg (cells8 X).toArray) (.agg (cells8 X).toArray)).run Tryd.prog w = .ok (.bool false) w := hneq
  clear hneq hXn
  have hu := Tryd.underlying29
  have z1 := blk_sizeV X HXL.out
  have HS0 : Hid ((w3.alloc (.cells (cells8 X).toArray 29)).drew.rangeAt w3.heap.size 0 (cells8 X)) := (HXB.out.below (Below.refl _ _).drew).range'
  go_wp2_with fail
  first | go_region_held3 (fun w' => w'.rangeAt w3.heap.size 0 (cells8 X))
    (first | with_reducible exact HS0.out | with_reducible exact hSb)
    ((go_at_call 40; (with_reducible refine (HRB.out _ (Below.refl _ _).drew).mono ?_); rintro e wb ⟨rfl, hSb, hbb⟩)) | fail
  all_goals
    have HXb := Lib.hid (HXB.out.below hbb.out)
    have H6 := Lib.hid (H4.out.on hbb.out)
    have HXS : Hid ((cells8 X).toArray.size = 256) := hcs
    clear hSb hu z1 HRB HXB H4
    have hmod : ((n : Int) % 256) = ((n % 256 : Nat) : Int) := by omega
    have hmlt : n % 256 < 256 := by omega
    generalize n % 256 = m at *
    have HLB : Hid ((cells8 b).toArray.size = 256) := (cells8_size b).trans HBL.out
    have HXR := H6.out.x.row X
    have hcm := HXR.cell m (by rw [HXL.out]; exact hmlt)
    have hfm := HXR.frozen m
    have hxo : ∀ x : UInt8, bits .xor .u8 (x.toNat : Int) (by_.toNat : Int) = ((x ^^^ by_).toNat : Int) := fun x => by rw [u8_xor_nat _ _ x.toNat_lt by_.toNat_lt, UInt8.toNat_xor]
    have HSET := Lib.hid (HXR.set m ((X[m]'(by rw [HXL.out]; exact hmlt)) ^^^ by_))
    clear HXR
    generalize X[m]'_ = x at hcm HSET
    have hxx := hxo x
    clear hxo
    go_wp2_with (first
      | refine wpList_load_row rfl 29 (.tmp 13) rfl w3.heap.size rfl 29 (cells8 X).toArray (0, 0) _ HXb.out Tryd.underlying29 rfl (by rw [blk_size, HXS.out]) ?_
      | refine wpList_store_row rfl 29 (.tmp 9) (.tmp 63) rfl w.heap.size (cells8 X).toArray rfl rfl 29 (cells8 b).toArray H6.out.x (by rw [blk_size, HXS.out]) (by rw [HLB.out, HXS.out]) (cells8_all _) ?_
      | fail)
    have hl2 : (X.set m (x ^^^ by_)).length = 256 := by rw [List.length_set, HXL.out]
    have H8 : Hid (LV w ((wb.setRow w.heap.size (cells8 X).toArray).setCell ⟨w.heap.size, m, none⟩ (.int .u8 ((x.toNat ^^^ by_.toNat : Nat) : Int))) (X.set m (x ^^^ by_))) := by
      rw [← UInt8.toNat_xor]
      exact ⟨HSET.out, (below_setRow H6.out.bel (Nat.le_refl _) _).setCell (by simp) _⟩
    clear hcm hfm hxx HSET
    generalize X.set m (x ^^^ by_) = l2 at *
    generalize (wb.setRow w.heap.size (cells8 X).toArray).setCell ⟨w.heap.size, m, none⟩ (.int .u8 ((x.toNat ^^^ by_.toNat : Nat) : Int)) = w5 at *
    have hof := vof_any w5 (hT.below H8.out.bel hT.size) no hno (i : Int) l2 hl2
    rw [hok, Int.toNat_natCast, show blkR true (imgP no i (cntOf l2 120)) = imgP no i (cntOf l2 120) from rfl] at hof
    have hrof := fun W => rvof_any W no i hno hi l2 hl2
    have HLC := Lib.hid (cntOf_length l2 120)
    have HLS : Hid ((cells8 l2).toArray.size = 256) := (cells8_size l2).trans hl2
    clear hok
    generalize (imgP no i (cntOf l2 120) == l2) = q at *
    generalize cntOf l2 120 = y at *
    have HROF := Lib.hid hrof
    clear hrof
    cases q with
    | false =>
      have hof2 : Calls Tryd.prog 41 #[.int .u32 (no : Int), .int .i64 (i : Int), .agg (cells8 l2).toArray] w5 fun e w' => e = .returned (.tuple #[.slice none 0 0, .int .i64 4]) ∧ Below (w5).heap.size (w5) w' := hof.mono fun e w' hp => ⟨hp.2, hp.1⟩
      have HOF := Lib.hid hof2
      clear hof hof2
      refine wp_load_row 29 (.tmp 9) rfl w.heap.size rfl 29 (cells8 l2).toArray (0, 0) _ H8.out.x Tryd.underlying29 rfl (by rw [blk_size, HLS.out]) ?_
      go_wp2_with fail
      (with_reducible refine HOF.out.mono ?_)
      rintro e w6 ⟨rfl, hb6⟩
      have H7 := Lib.hid (H8.out.on hb6)
      clear HOF hb6 H8
      go_wp2_with (first
        | refine wpList_load_row rfl 29 (.tmp 9) rfl w.heap.size rfl 29 (cells8 l2).toArray (0, 0) _ H7.out.x Tryd.underlying29 rfl (by rw [blk_size, HLS.out]) ?_
        | fail)
      (with_reducible refine (HROF.out _).mono ?_)
      rintro e w8 ⟨⟨A8, c8, rfl, hs8⟩, hb8⟩
      have H9 := Lib.hid (H7.out.on hb8)
      clear hs8 hb8 H7
      go_wp2_with (first
        | (go_at_call 38; (with_reducible refine (vknown _).mono ?_); rintro e wk ⟨rfl, rfl⟩)
        | fail)
      go_ret
      exact ⟨rfl, H9.out.bel⟩
    | true =>
      have hof2 : Calls Tryd.prog 41 #[.int .u32 (no : Int), .int .i64 (i : Int), .agg (cells8 l2).toArray] w5 fun e w' => ∃ A c, e = .returned (.tuple #[.slice A 120 c, .int .i64 0]) ∧ Shows w' w'.heap.size A 120 (nums16 y) ∧ Below (w5).heap.size (w5) w' := hof.mono fun e w' hp => by
        obtain ⟨h1, A, c, h2, h3⟩ := hp
        exact ⟨A, c, h2, h3, h1⟩
      have HOF := Lib.hid hof2
      clear hof hof2
      refine wp_load_row 29 (.tmp 9) rfl w.heap.size rfl 29 (cells8 l2).toArray (0, 0) _ H8.out.x Tryd.underlying29 rfl (by rw [blk_size, HLS.out]) ?_
      go_wp2_with fail
      (with_reducible refine HOF.out.mono ?_)
      rintro e w6 ⟨A6, c6, rfl, hs6, hb6⟩
      have H7 := Lib.hid (H8.out.on hb6)
      have HS6 := Lib.hid hs6
      clear HOF hb6 hs6 H8
      go_wp2_with (first
        | refine wpList_load_row rfl 29 (.tmp 9) rfl w.heap.size rfl 29 (cells8 l2).toArray (0, 0) _ H7.out.x Tryd.underlying29 rfl (by rw [blk_size, HLS.out]) ?_
        | fail)
      (with_reducible refine (HROF.out _).mono ?_)
      rintro e w8 ⟨⟨A8, c8, rfl, hs8⟩, hb8⟩
      have H9 := Lib.hid (H7.out.on hb8)
      have hsm := vsame_ok w8 y A6 A8 c6 c8 (by rw [HLC.out]; omega) (by rw [HLC.out]; exact HS6.out.on hb8) (by rw [HLC.out]; exact hs8)
      rw [HLC.out] at hsm
      have HSM := Lib.hid hsm
      clear hs8 hb8 H7 HS6 hsm
      go_wp2_with fail
      (with_reducible refine HSM.out.mono ?_)
      rintro e w9 ⟨rfl, hb9⟩
      have H10 := Lib.hid (H9.out.on hb9)
      clear hb9 H9
      go_wp2_with (first
        | (go_at_call 38; (with_reducible refine (vknown _).mono ?_); rintro e wk ⟨rfl, rfl⟩)
        | fail)
      go_ret
      exact ⟨rfl, H10.out.bel⟩
theorem pmeans_law (w : World) (hT : Tabs w) (no : Nat) (hno : no < 4294967296) (ix : Int) (l : List Nat) (hf : ∀ k ∈ l, k < 65536) (A : Option Addr) (c : Nat) (hs : Shows w w.heap.size A l.length (nums16 l)) (b : List UInt8) (hb : b.length = 256) (at_ : Int) (by_ : UInt8) :
    Calls Tryd.prog 9 #[.int .u32 (no : Int), .int .i64 ix, .slice A l.length c, .agg (cells8 b).toArray, .int .i64 at_, .int .u8 (by_.toNat : Int)] w fun e w' => e = .returned (.bool true) ∧ Below w.heap.size w w' := by
  by_cases h130 : 130 < l.length
  · exact pm_long w hT no hno ix l hf A c hs b hb at_ by_ h130
  by_cases h0 : ix < 0
  · exact pm_below w hT no hno ix l hf A c hs b hb at_ by_ (by omega) h0
  by_cases h1 : 255 < ix
  · exact pm_above w hT no hno ix l hf A c hs b hb at_ by_ (by omega) h1
  obtain ⟨i, rfl⟩ := Int.eq_ofNat_of_zero_le (show 0 ≤ ix by omega)
  by_cases h120 : 120 < l.length
  · exact pm_over w hT no hno i l hf A c hs b hb at_ by_ (by omega) h120 (by omega)
  by_cases hat : at_ < 0
  · exact pm_no w hT no hno i l hf A c hs b hb at_ by_ (by omega) (by omega) hat
  · obtain ⟨n, rfl⟩ := Int.eq_ofNat_of_zero_le (show 0 ≤ at_ by omega)
    exact pm_at w hT no hno i l hf A c hs b hb by_ (by omega) (by omega) n
end Go.Proofs.YtojbajbghldoeaaDoor
