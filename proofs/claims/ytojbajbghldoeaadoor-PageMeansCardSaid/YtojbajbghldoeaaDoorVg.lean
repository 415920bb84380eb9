/- The document's page Of. -/
import Derived.Test.YtojbajbghldoeaaDoorVf
import Derived.Deep.RegionHeld3
set_option linter.unusedVariables false
namespace Go.Proofs.YtojbajbghldoeaaDoor
open Go.RowKit

theorem u16_info : (Tryd.prog.info? 125).map (fun i => (i.zero, i.size, i.bytes)) = some (some (.int .u16 0), 1, 2) := by kernel_rfl
/-- while the document's counts grow -/
structure OP (w wr : World) (v : Value) (x : List UInt8) (l : List Nat) : Prop where
  x : Holds8 wr w.heap.size 29 x
  own : wr.ownsRow (w.heap.size + 1) 125 1 v l.length (nums16 l)
  bel : Below w.heap.size w wr
  n4 : w.heap.size + 1 ≤ wr.heap.size
theorem OP.on {w wr w2 : World} {v : Value} {x : List UInt8} {l : List Nat} (h : OP w wr v x l) (hb : Below wr.heap.size wr w2) : OP w w2 v x l :=
  ⟨h.x.below hb, own_on h.own hb, h.bel.trans (hb.mono h.bel.size), Nat.le_trans h.n4 hb.size⟩
theorem OP.own' {w wr : World} {v : Value} {x : List UInt8} {l : List Nat} {k : Nat} (h : OP w wr v x l) (hl : l.length = k) : wr.ownsRow (w.heap.size + 1) 125 1 v k (nums16 l) := by
  have := h.own
  rwa [hl] at this
theorem OP.app {w wr w2 : World} {v v2 : Value} {x : List UInt8} {l : List Nat} {c : Nat} (h : OP w wr v x l) (ho : w2.ownsRow (w.heap.size + 1) 125 1 v2 (l.length + 1) (nums16 l ++ [.int .u16 (c : Int)])) (hg : Grew wr w2 v v2) : OP w w2 v2 x (l ++ [c]) := by
  have hb := hg.below h.own (Nat.le_refl _) h.n4
  refine ⟨(hb.block _ (by omega)).trans h.x, ?_, h.bel.trans (hb.mono (by omega)), Nat.le_trans h.n4 hb.size⟩
  have e : nums16 l ++ [.int .u16 (c : Int)] = nums16 (l ++ [c]) := by simp [nums16]
  rw [List.length_append, ← e]
  exact ho
theorem slice_two (bb p : Nat) (h : p ≤ 254) (w : World) : (Instr.sliceAt 29 (.pointer (some ⟨bb, 0, none⟩)) (some (.int .i64 (p : Int))) (some (.int .i64 ((p : Int) + 2))) none).run Tryd.prog w = .ok (.slice (some ⟨bb, p, none⟩) 2 (256 - p)) w := by
  have hl : Tryd.prog.arrayLen 29 = 256 := by kernel_rfl
  have hE : Tryd.prog.elem 29 = 5 := by kernel_rfl
  have h1 : ∀ w, (sizeOf 5).run Tryd.prog w = .ok 1 w := fun w => by kernel_rfl
  rw [run_sliceAt_array_lh (P := Tryd.prog) w 29 ⟨bb, 0, none⟩ (by rw [hl, hE]; exact Tryd.underlying29) .i64 .i64 (p : Int) ((p : Int) + 2) (by omega) (by omega) (by rw [hl]; omega), hl, hE, h1]
  have e1 : ((p : Int) + 2).toNat = p + 2 := by omega
  have e2 : ((p : Int)).toNat = p := by omega
  have e3 : (⟨bb, 0, none⟩ : Addr).add p = ⟨bb, p, none⟩ := by unfold Addr.add; split <;> simp_all
  simp only [Result.andThen_ok, slicedAt, e1, e2, Nat.mul_one, e3]
  rw [if_neg (by omega), show p + 2 - p = 2 by omega]
theorem OP.num {w wr : World} {v : Value} {x : List UInt8} {l : List Nat} (h : OP w wr v x l) (hl : x.length = 256) (i c : Nat) (hi : i < 120) :
    Calls Tryd.prog 50 #[.slice (some ⟨w.heap.size, 16 + 2 * i, none⟩) 2 c] wr fun e w' => e = .returned (.int .u64 ((cntAt x i : Nat) : Int)) ∧ Hid (OP w w' v x l) := by
  have e : ((x.drop (16 + 2 * i)).take 2).length = 2 := by simp; omega
  have hsh : Shows wr wr.heap.size (some ⟨w.heap.size, 16 + 2 * i, none⟩) ((x.drop (16 + 2 * i)).take 2).length (cells8 ((x.drop (16 + 2 * i)).take 2)) := by
    have h1 := h.x.shows.from_ (k := 16 + 2 * i) (cap := 257) (by omega) (by omega)
    rw [if_neg (by omega), ← cells8_drop] at h1
    have h2 := h1.upto (k := 2) (by omega)
    rw [← cells8_take] at h2
    rw [e]
    have e2 : (⟨w.heap.size, 0, none⟩ : Addr).add (16 + 2 * i) = ⟨w.heap.size, 16 + 2 * i, none⟩ := by unfold Addr.add; split <;> simp_all
    simpa [e2] using h2
  have := rnumber_any wr wr.heap.size _ c _ hsh (by omega)
  rw [e] at this
  exact this.mono fun e w' hp => ⟨hp.1, by rw [hp.2]; exact h⟩

theorem blk_sizeV (l : List UInt8) (h : l.length = 256) : (Tryd.prog.info? 29).map (·.size) = some (cells8 l).length := by rw [blk_size, cells8_length, h]
theorem Holds8.range' {w : World} {b : Nat} {t : TypeId} {l : List UInt8} (h : Holds8 w b t l) : w.rangeAt b 0 (cells8 l) := fun j v hv => by
  rw [Nat.zero_add, cell_of_row w b j _ _ _ h]
  simpa using hv
set_option maxRecDepth 10000 in
set_option maxHeartbeats 4000000 in
theorem rvof_any (w : World) (no ix : Nat) (hno : no < 4294967296) (hix : ix ≤ 255) (x : List UInt8) (hx : x.length = 256) :
    Calls Tryd.prog 42 #[.int .u32 (no : Int), .int .i64 (ix : Int), .agg (cells8 x).toArray] w fun e w' => (∃ A c, e = .returned (.tuple #[.slice A 120 c, .bool (imgP no ix (cntOf x 120) == x)]) ∧ Shows w' w'.heap.size A 120 (nums16 (cntOf x 120))) ∧ Below w.heap.size w w' := by
  obtain ⟨i0, hi0, hz0, hz1, hz2⟩ := info_parts u16_info
  have h1 := Holds8.new w 29 x _ rfl
  have h2 := (Below.refl w.heap.size w).alloc (Nat.le_refl _) (.cells (cells8 x).toArray 29)
  have H0 : Hid (OP w (w.alloc (.cells (cells8 x).toArray 29)) (.slice none 0 0) x (cntOf x 0)) := ⟨h1, ⟨rfl, .inl ⟨rfl, rfl⟩⟩, h2, by simp⟩
  have HX := Lib.hid hx
  clear h1 h2 hx
  go_enter Tryd.func42, Tryd.ntmps42
  go_wp2
  go_loopw [8, 9] (fun v j wr => ∃ i : Nat, i ≤ 120 ∧ j = .int .i64 (i : Int) ∧ Hid (OP w wr v x (cntOf x i))) (fun _ j _ => 120 - (intOf j).toNat)
  case atStart => exact ⟨0, by omega, rfl, H0⟩
  case round =>
    obtain ⟨i, hi, rfl, HR⟩ := hrel
    rename_i wr
    clear H0
    by_cases hlt : i < 120
    · have hltI : (i : Int) < 120 := by omega
      have hsl : ∀ W : World, (Instr.sliceAt 29 (.pointer (some ⟨w.heap.size, 0, none⟩)) (some (.int .i64 (16 + 2 * (i : Int)))) (some (.int .i64 (18 + 2 * (i : Int)))) none).run Tryd.prog W = .ok (.slice (some ⟨w.heap.size, 16 + 2 * i, none⟩) 2 (256 - (16 + 2 * i))) W := fun W => by
        have e1 : 16 + 2 * (i : Int) = ((16 + 2 * i : Nat) : Int) := by omega
        have e2 : 18 + 2 * (i : Int) = ((16 + 2 * i : Nat) : Int) + 2 := by omega
        rw [e1, e2]
        exact slice_two w.heap.size (16 + 2 * i) (by omega) W
      have HNM := Lib.hid (HR.out.num HX.out i (256 - (16 + 2 * i)) hlt)
      have hcl := cntOf_length x i
      have hv := cntAt_lt x i
      have HSUC : Hid (cntOf x (i + 1) = cntOf x i ++ [cntAt x i]) := rfl
      clear HR
      generalize cntAt x i = y at *
      have hw : IntKind.u16.wrap (y : Int) = (y : Int) := by rw [IntKind.wrap_u16]; omega
      go_wp2_with (first
        | (go_at_call 50; (with_reducible refine HNM.out.mono ?_); rintro e w5 ⟨rfl, h5⟩; have H6 : Hid (OP w (w5.alloc (.cells #[.int .u16 (y : Int)] 125)) _ x (cntOf x i)) := h5.out.on ((Below.refl _ _).alloc (Nat.le_refl _) _))
        | (at_builtin; refine wpList_append_shows _ rfl (.tmp 14) (.tmp 24) 79 rfl (w.heap.size + 1) 125 i0 (.int .u16 0) 2 Tryd.underlying79 hi0 hz0 hz1 hz2 rfl _ i (nums16 (cntOf x i)) rfl (H6.out.own' hcl) (w5.heap.size + 1) (some ⟨w5.heap.size, 0, none⟩) 1 1 [.int .u16 (y : Int)] rfl (shows_new w5 #[.int .u16 (y : Int)] 125) (by simp [Value.oneCell']) (by unfold maxLen; omega) (by omega) H6.out.n4 ?_; intro v8 w8 hown hg)
        | fail)
      have hA := H6.out.app (c := y) (by rw [hcl]; exact hown) hg
      rw [← HSUC.out] at hA
      have HA := Lib.hid hA
      clear hA hown hg H6 h5 HNM hsl
      go_wp2
      go_roundw
      case rel => exact ⟨i + 1, by omega, by go_num, HA⟩
      case measure => simp [intOf]; omega
    · obtain rfl : i = 120 := by omega
      have hltI : ¬ (120 : Int) < (120 : Int) := by omega
      have hcl := cntOf_length x 120
      have hfl := cntOf_lt x 120
      obtain ⟨AL, cL, hV, _⟩ := own_form4 HR.out.own
      rw [hcl] at hV
      subst hV
      have ho := HR.out.own
      rw [hcl] at ho
      have HO := Lib.hid ho
      have hil := imgP_length no ix (cntOf x 120) (by omega)
      have hrb := fun W (hW : Below wr.heap.size wr W) => rvblock_any W no ix hno hix (cntOf x 120) (by omega) hfl AL cL (by rw [hcl]; exact Shows.owned (own_on HO.out hW))
      rw [hcl] at hrb
      have hX1 := HR.out.x
      have HB := Lib.hid HR.out.bel
      clear HR hfl ho
      generalize hy : cntOf x 120 = y at *
      generalize hI : imgP no ix y = I at *
      have HY := Lib.hid hy
      have HI := Lib.hid hI
      clear hy hI
      have heq := fun w => eql_blk I x hil HX.out w
      have hu := Tryd.underlying29
      have z1 := blk_sizeV x HX.out
      have HC : Hid (∀ W, Below wr.heap.size wr W → Calls Tryd.prog 40 #[.int .u32 (no : Int), .int .i64 (ix : Int), .slice AL 120 cL] W fun e w' => e = .returned (.agg (cells8 I).toArray) ∧ (w'.rangeAt w.heap.size 0 (cells8 x)) ∧ Hid (Below wr.heap.size wr w')) := fun W hW => (hrb W hW).mono fun e w' hp => ⟨hp.1, (hX1.below (hW.trans (hp.2.mono hW.size))).range', hW.trans (hp.2.mono hW.size)⟩
      have HS0 : Hid (wr.drew.rangeAt w.heap.size 0 (cells8 x)) := (hX1.below (Below.refl _ _).drew).range'
      clear hrb hX1 hil hcl
      go_wp2_with fail
      first | go_region_held3 (fun w' => w'.rangeAt w.heap.size 0 (cells8 x))
        (first | with_reducible exact HS0.out | with_reducible exact hSb)
        ((go_at_call 40; (with_reducible refine (HC.out _ (Below.refl _ _).drew).mono ?_); rintro e wb ⟨rfl, hSb, hbb⟩)) | fail
      all_goals go_wp2_with fail
      all_goals go_ret2
      all_goals exact ⟨⟨AL, cL, by rw [HY.out, HI.out]; rfl, by rw [HY.out]; exact Shows.owned (own_on HO.out hbb.out)⟩, HB.out.trans (hbb.out.mono HB.out.size)⟩
end Go.Proofs.YtojbajbghldoeaaDoor
