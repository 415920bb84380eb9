/- page's Block of anything, Of. -/
import Derived.Test.YtojbajbghldoeaaDoorVd
import Derived.Test.YtojbajbghldoeaaDoorBj
set_option linter.unusedVariables false
namespace Go.Proofs.YtojbajbghldoeaaDoor
open Go.RowKit

/-- may a page have this index, so many counts? -/
def okP (ix : Int) (n : Nat) : Bool := decide (0 ≤ ix ∧ ix ≤ 255 ∧ n ≤ 120)
theorem okP_yes {ix : Int} {n : Nat} (h : okP ix n = true) : 0 ≤ ix ∧ ix ≤ 255 ∧ n ≤ 120 := of_decide_eq_true h
theorem okP_no {ix : Int} {n : Nat} (h : okP ix n = false) : ¬ (0 ≤ ix ∧ ix ≤ 255 ∧ n ≤ 120) := of_decide_eq_false h
def blkR (r : Bool) (X : List UInt8) : List UInt8 := match r with | true => X | false => noughts
def errR (r : Bool) : Int := match r with | true => 0 | false => 2
theorem blkR_len (r : Bool) (X : List UInt8) (h : r = true → X.length = 256) : (blkR r X).length = 256 := by
  cases r with
  | true => exact h rfl
  | false => exact noughts_len
/-- which list, if any -/
def pickL (b : Bool) (l : List Nat) : Option (List Nat) := match b with | true => some l | false => none
def errO (r q : Bool) : Int := match r, q with | false, _ => 2 | true, true => 0 | true, false => 4

set_option maxHeartbeats 1000000 in
set_option maxRecDepth 10000 in
theorem vblock_bad (w : World) (no : Nat) (ix : Int) (n : Nat) (A : Option Addr) (c : Nat) (h : okP ix n = false) :
    Calls Tryd.prog 39 #[.int .u32 (no : Int), .int .i64 ix, .slice A n c] w fun e w' => e = .returned (.tuple #[.agg (cells8 noughts).toArray, .int .i64 2]) ∧ Below w.heap.size w w' := by
  have hz := blk_zero
  have hcs := cells8_size noughts
  have hl := noughts_len
  have hb0 := (Below.refl w.heap.size w).alloc (Nat.le_refl _) (.cells (cells8 noughts).toArray 29)
  have g0 := Holds8.new w 29 noughts _ rfl
  have HB := Lib.hid hb0
  have HG : Hid (Holds8 (w.alloc (.cells (cells8 noughts).toArray 29)) w.heap.size 29 noughts) := g0
  have hno := okP_no h
  clear hb0 g0 h
  generalize hnz : noughts = z at *
  have HL := Lib.hid hl
  have HCS := Lib.hid hcs
  clear hnz hl hcs
  by_cases h1 : ix < 0
  · clear hno
    go_enter Tryd.func39, Tryd.ntmps39
    go_wp2_with (first
      | refine wpList_store_row rfl 29 (.tmp 6) (.tmp 22) rfl w.heap.size (cells8 z).toArray rfl rfl 29 (cells8 z).toArray HG.out (by rw [blk_size, HCS.out, HL.out]) rfl (cells8_all _) ?_
      | fail)
    exact bodyPost_ret (results_cell_tmp rfl _ _ w.heap.size 29 (cells8 z).toArray (0, 0) _ (.int .i64 2) rfl rfl (HG.out.row z) Tryd.underlying29 rfl (by rw [blk_size, HCS.out, HL.out])) rfl ⟨rfl, below_setRow HB.out (by simp) _⟩
  by_cases h2 : 255 < ix
  · have h1' : 0 ≤ ix := by omega
    clear hno
    go_enter Tryd.func39, Tryd.ntmps39
    go_wp2_with (first
      | refine wpList_store_row rfl 29 (.tmp 6) (.tmp 22) rfl w.heap.size (cells8 z).toArray rfl rfl 29 (cells8 z).toArray HG.out (by rw [blk_size, HCS.out, HL.out]) rfl (cells8_all _) ?_
      | fail)
    exact bodyPost_ret (results_cell_tmp rfl _ _ w.heap.size 29 (cells8 z).toArray (0, 0) _ (.int .i64 2) rfl rfl (HG.out.row z) Tryd.underlying29 rfl (by rw [blk_size, HCS.out, HL.out])) rfl ⟨rfl, below_setRow HB.out (by simp) _⟩
  have h1' : 0 ≤ ix := by omega
  have h2' : ix ≤ 255 := by omega
  have h3 : (120 : Int) < (n : Int) := by omega
  clear hno
  go_enter Tryd.func39, Tryd.ntmps39
  go_wp2_with (first
    | refine wpList_store_row rfl 29 (.tmp 6) (.tmp 22) rfl w.heap.size (cells8 z).toArray rfl rfl 29 (cells8 z).toArray HG.out (by rw [blk_size, HCS.out, HL.out]) rfl (cells8_all _) ?_
    | fail)
  exact bodyPost_ret (results_cell_tmp rfl _ _ w.heap.size 29 (cells8 z).toArray (0, 0) _ (.int .i64 2) rfl rfl (HG.out.row z) Tryd.underlying29 rfl (by rw [blk_size, HCS.out, HL.out])) rfl ⟨rfl, below_setRow HB.out (by simp) _⟩

theorem vblock_any (w : World) (hT : Tabs w) (no : Nat) (ix : Int) (hno : no < 4294967296) (l : List Nat) (hf : ∀ k ∈ l, k < 65536) (A : Option Addr) (c : Nat) (hs : Shows w w.heap.size A l.length (nums16 l)) :
    Calls Tryd.prog 39 #[.int .u32 (no : Int), .int .i64 ix, .slice A l.length c] w fun e w' => e = .returned (.tuple #[.agg (cells8 (blkR (okP ix l.length) (imgP no ix.toNat l))).toArray, .int .i64 (errR (okP ix l.length))]) ∧ Below w.heap.size w w' := by
  cases hm : okP ix l.length with
  | true =>
    obtain ⟨h1, h2, h3⟩ := okP_yes hm
    obtain ⟨i, rfl⟩ := Int.eq_ofNat_of_zero_le h1
    exact vblock_ok w hT no i hno (by omega) l h3 hf A c hs
  | false => exact vblock_bad w no ix l.length A c hm
theorem store_pg (w : World) (old new : List Nat) (ho : old.length = 120) (hn : new.length = 120) : (storeCells ⟨w.heap.size, 0, none⟩ (nums16 new)).run Tryd.prog (w.alloc (.cells (nums16 old).toArray 129)) = .ok () (w.alloc (.cells (nums16 new).toArray 129)) := by
  have := run_storeCells_new (P := Tryd.prog) w 129 (nums16 old).toArray (nums16 new).toArray (by rw [pg_size, nums16_size, hn]) (by rw [nums16_size, nums16_size, ho, hn]) (nums16_all _)
  simpa using this

/-- what page.Of answers -/
def VOfAs (w : World) (r q : Bool) (l : List Nat) (e : Ending) (w' : World) : Prop :=
  Below w.heap.size w w' ∧ match r, q with
    | true, true => ∃ A c, e = .returned (.tuple #[.slice A 120 c, .int .i64 0]) ∧ Shows w' w'.heap.size A 120 (nums16 l)
    | r, q => e = .returned (.tuple #[.slice none 0 0, .int .i64 (errO r q)])

set_option maxRecDepth 10000 in
set_option maxHeartbeats 2000000 in
theorem vof_any (w : World) (hT : Tabs w) (no : Nat) (hno : no < 4294967296) (ix : Int) (x : List UInt8) (hx : x.length = 256) :
    Calls Tryd.prog 41 #[.int .u32 (no : Int), .int .i64 ix, .agg (cells8 x).toArray] w (VOfAs w (okP ix 120) (blkR (okP ix 120) (imgP no ix.toNat (cntOf x 120)) == x) (cntOf x 120)) := by
  have h5 : Holds8 (w.alloc (.cells (cells8 x).toArray 29)) w.heap.size 29 x := Holds8.new w _ x _ rfl
  have H5 := Lib.hid h5
  have HB0 := Lib.hid ((Below.refl w.heap.size w).alloc (Nat.le_refl _) (.cells (cells8 x).toArray 29))
  have HRD := Lib.hid (vread_any (w.alloc (.cells (cells8 x).toArray 29)) x hx)
  have HLS : Hid ((cells8 x).toArray.size = 256) := (cells8_size x).trans hx
  have hlc := cntOf_length x 120
  have hfc := cntOf_lt x 120
  have HX := Lib.hid hx
  clear h5 hx
  generalize hcl : cntOf x 120 = l at *
  have hbb := fun W hTW A c hs => vblock_any W hTW no ix hno l hfc A c hs
  rw [hlc] at hbb
  have hXl : (blkR (okP ix 120) (imgP no ix.toNat l)).length = 256 := blkR_len _ _ fun _ => imgP_length no ix.toNat l (by omega)
  generalize hr : okP ix 120 = r at *
  generalize hX : blkR r (imgP no ix.toNat l) = X at *
  have HBB := Lib.hid hbb
  have hneq := fun w => neq_blk X x hXl HX.out w
  have hst := fun w => store_blk w noughts X noughts_len hXl
  have hsp := fun w => store_pg w none16 l none16_len hlc
  have HXS : Hid ((cells8 X).toArray.size = 256) := (cells8_size X).trans hXl
  have HLC := Lib.hid hlc
  have HT := Lib.hid hT
  have hz := blk_zero
  have hz2 := pg_zero
  have hcs := HXS.out
  have hcs2 := noughts_len
  have hcs3 := cells8_size noughts
  have hcs4 := none16_len
  have hcs5 := nums16_size none16
  have hcs6 : (nums16 l).toArray.size = 120 := (nums16_size l).trans HLC.out
  clear hbb hfc hlc hXl hT hr hX hcl
  generalize noughts = z at *
  generalize none16 = z16 at *
  generalize (X == x) = q at *
  go_enter Tryd.func41, Tryd.ntmps41
  go_wp2_with (first
    | refine wpList_load_row rfl 29 (.tmp 5) rfl w.heap.size rfl 29 (cells8 x).toArray (0, 0) _ H5.out Tryd.underlying29 rfl (by rw [blk_size, HLS.out]) ?_
    | fail)
  (with_reducible refine HRD.out.mono ?_)
  rintro e w1 ⟨rfl, hb1⟩
  have hb01 := HB0.out.trans (hb1.mono HB0.out.size)
  have HL1 : Hid (Holds8 w1 w.heap.size 29 x) := H5.out.below hb1
  have hpn : Holds16 (w1.alloc (.cells (nums16 l).toArray 129)) w1.heap.size 129 l := Holds16.new w1 _ l
  have hb2 := (Below.refl w1.heap.size w1).alloc (Nat.le_refl _) (.cells (nums16 l).toArray 129)
  have hbw2 := hb01.trans (hb2.mono hb01.size)
  have hsh := hpn.shows
  rw [HLC.out] at hsh
  have hbk := HBB.out _ (HT.out.below hbw2 HT.out.size) (some ⟨w1.heap.size, 0, none⟩) 120 hsh
  have HPN := Lib.hid hpn
  have HB1 := Lib.hid hb01
  have HLT : Hid (w.heap.size < w1.heap.size) := HL1.out.lt
  have HB2 := Lib.hid hb2
  clear hb1 hb01 hpn hb2 hbw2 hsh HBB HRD
  cases r with
  | false =>
    rw [show errR false = 2 from rfl] at hbk
    have HBK := Lib.hid hbk
    clear hbk
    go_wp2_with fail
    (with_reducible refine HBK.out.mono ?_)
    rintro e w3 ⟨rfl, hb3⟩
    go_wp2_with fail
    go_ret2
    have hb23 := HB2.out.trans (hb3.mono HB2.out.size)
    have hbe := (HB1.out.trans (hb23.mono HB1.out.size)).alloc (by have := HLT.out; have := hb23.size; omega) (.cells (cells8 X).toArray 29)
    exact ⟨hbe, rfl⟩
  | true =>
    rw [show errR true = 0 from rfl] at hbk
    have HBK := Lib.hid hbk
    clear hbk
    go_wp2_with fail
    (with_reducible refine HBK.out.mono ?_)
    rintro e w3 ⟨rfl, hb3⟩
    have hb23 := HB2.out.trans (hb3.mono HB2.out.size)
    have HBE := Lib.hid ((HB1.out.trans (hb23.mono HB1.out.size)).alloc (by have := HLT.out; have := hb23.size; omega) (.cells (cells8 X).toArray 29))
    have HL3 : Hid (Holds8 (w3.alloc (.cells (cells8 X).toArray 29)) w.heap.size 29 x) := (HL1.out.below hb23).alloc _
    have HX3 : Hid (Holds8 (w3.alloc (.cells (cells8 X).toArray 29)) w3.heap.size 29 X) := Holds8.new w3 _ X _ rfl
    have HP3 : Hid (Holds16 (w3.alloc (.cells (cells8 X).toArray 29)) w1.heap.size 129 l) := (HPN.out.below hb3).alloc _
    clear hb23 hb3
    cases q with
    | true =>
      have hneq2 : ∀ (w : World), (binOp .neq 29 (.agg (cells8 X).toArray) (.agg (cells8 x).toArray)).run Tryd.prog w = .ok (.bool false) w := hneq
      clear hneq
      go_wp2_with fail
      refine wp_load_row 29 (.tmp 9) rfl w3.heap.size rfl 29 (cells8 X).toArray (0, 0) _ HX3.out Tryd.underlying29 rfl (by rw [blk_size, HXS.out]) ?_
      go_wp2_with fail
      refine wp_load_row 29 (.tmp 5) rfl w.heap.size rfl 29 (cells8 x).toArray (0, 0) _ HL3.out Tryd.underlying29 rfl (by rw [blk_size, HLS.out]) ?_
      go_wp2_with fail
      go_ret2
      have hsh := HP3.out.shows
      rw [HLC.out] at hsh
      exact ⟨HBE.out, _, _, rfl, hsh⟩
    | false =>
      have hneq2 : ∀ (w : World), (binOp .neq 29 (.agg (cells8 X).toArray) (.agg (cells8 x).toArray)).run Tryd.prog w = .ok (.bool true) w := hneq
      clear hneq
      go_wp2_with fail
      refine wp_load_row 29 (.tmp 9) rfl w3.heap.size rfl 29 (cells8 X).toArray (0, 0) _ HX3.out Tryd.underlying29 rfl (by rw [blk_size, HXS.out]) ?_
      go_wp2_with fail
      refine wp_load_row 29 (.tmp 5) rfl w.heap.size rfl 29 (cells8 x).toArray (0, 0) _ HL3.out Tryd.underlying29 rfl (by rw [blk_size, HLS.out]) ?_
      go_wp2_with fail
      go_ret2
      exact ⟨HBE.out, rfl⟩
end Go.Proofs.YtojbajbghldoeaaDoor
