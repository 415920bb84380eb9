/- Read. -/
import Derived.Test.YtmfcbndgambfmaaDoorTa
set_option linter.unusedVariables false
namespace Go.Proofs.YtmfcbndgambfmaaDoor.Q
open Go.RowKit

/-- a block's first i sectors -/
def blkTo (d : RD) (k : Nat) : Nat → List UInt8
  | 0 => []
  | i + 1 => blkTo d k i ++ (rdC d ((k * 4 + i : Nat) : Int)).1
def blkAt (d : RD) (k : Nat) : List UInt8 := blkTo d k 4
theorem blkTo_len (d : RD) (k : Nat) : ∀ i, (blkTo d k i).length = i * 64
  | 0 => rfl
  | i + 1 => by rw [blkTo, List.length_append, blkTo_len d k i, (rdC d _).2]; omega
theorem blkAt_len (d : RD) (k : Nat) : (blkAt d k).length = 256 := blkTo_len d k 4
theorem plK_no {d : RD} {k : Int} (h : ¬ hasK d k) : plK d k = 2 := if_neg h
theorem plK_yes {d : RD} {k : Int} (h : hasK d k) : plK d k = 0 := if_pos h
theorem blk_u : Tryd.prog.underlying 45 = some (.array 256 5) := Tryd.underlying45
theorem blk_sz (l : List UInt8) (h : l.length = 256) : (Tryd.prog.info? 45).map (·.size) = some (cells8 l).length := by rw [cells8_length, h]; kernel_rfl
set_option maxRecDepth 100000 in
set_option maxHeartbeats 4000000 in
theorem read_out {w : World} {F : Nat → Prop} {b : Nat} {d : RD} (h : PD w F b d) (k : Int) (hk : ¬ hasK d k) : Calls Tryd.prog 11 #[.pointer (some ⟨b, 0, none⟩), .int .i64 k] w fun e w' => e = .returned (.tuple #[.agg (cells8 noughts).toArray, .int .i64 2]) ∧ Below w.heap.size w w' := by
  have hz := blk_zero
  have hcs := cells8_size noughts
  have HP := Lib.hid (fun (W : World) (hb : Below w.heap.size w W) => place_any' (h.below hb) k)
  rw [plK_no hk] at HP
  have HB := Lib.hid ((Below.refl _ w).alloc (Nat.le_refl _) (.cells (cells8 noughts).toArray 45))
  have HNEW := Lib.hid (heap_alloc_new w (.cells (cells8 noughts).toArray 45))
  clear h
  go_enter Tryd.func11, Tryd.ntmps11
  go_wp2_with (first
    | (go_at_call 23; (with_reducible refine (HP.out _ HB.out).mono ?_); rintro e w1 ⟨rfl, rfl⟩)
    | refine wpList_store_row rfl 45 (.tmp 4) (.tmp 16) rfl w.heap.size (cells8 noughts).toArray rfl rfl 45 (cells8 noughts).toArray HNEW.out (by rw [blk_sz _ noughts_len]; simp) rfl (all_oneCell_toArray (cells8_one _)) ?_
    | fail)
  exact bodyPost_ret (results_cell_tmp rfl _ _ w.heap.size 45 (cells8 noughts).toArray (0, 0) _ (.int .i64 2) rfl rfl (setRow_heap _ _ _ _ _ _ HNEW.out) blk_u rfl (by rw [blk_sz _ noughts_len]; simp)) rfl ⟨rfl, below_setRow HB.out (Nat.le_refl _) _⟩
/-- the boxes of Read -/
structure RL (w W : World) (x : List UInt8) : Prop where
  n : Holds8 W w.heap.size 45 noughts
  x : Holds8 W (w.heap.size + 1) 45 x
  bel : Below w.heap.size w W
  sz : w.heap.size + 2 ≤ W.heap.size
theorem RL.below {w W W' : World} {x : List UInt8} (h : RL w W x) (hb : Below W.heap.size W W') : RL w W' x :=
  ⟨h.n.below hb, h.x.below hb, h.bel.trans (hb.mono h.bel.size), Nat.le_trans h.sz hb.size⟩
def atR (d : RD) (k i : Nat) : List UInt8 := blkTo d k i ++ List.replicate (256 - i * 64) 0
theorem atR_len (d : RD) (k i : Nat) (h : i ≤ 4) : (atR d k i).length = 256 := by simp [atR, blkTo_len]; omega
theorem u8_size : (Tryd.prog.info? 5).map (·.size) = some 1 := by kernel_rfl
/-- a sector more is copied -/
theorem copy_step {w W : World} {d : RD} {k i q : Nat} {c : SB} (h : RL w W (atR d k i)) (hi : i < 4) (hq : W.heap[q]? = some (.cells (sec c).toArray 64 (0, 0))) (hc : rdC d ((k : Int) * 4 + (i : Int)) = c) :
    ∃ w', (Builtin.copy_ #[69, 69] 3 #[.slice (some ⟨w.heap.size + 1, i * 64, none⟩) (256 - i * 64) (256 - i * 64), .slice (some ⟨q, 0, none⟩) 64 64]).run Tryd.prog W = .ok (.int .i64 64) w' ∧ RL w w' (atR d k (i + 1)) := by
  have hx := h.x
  have hl := atR_len d k i (by omega)
  have hrun := run_copy_row (P := Tryd.prog) W 69 69 3 5 (w.heap.size + 1) (i * 64) (256 - i * 64) (256 - i * 64) ⟨q, 0, none⟩ 64 64 (cells8 (atR d k i)).toArray 45 (sec c) Tryd.underlying69 u8_size hx (by rw [sec_len]; exact (Nat.min_eq_left (by omega)).symm) (fun j v hj => by rw [Addr.add_mid, Joins.cell_of_block hq, List.getElem?_toArray, Nat.zero_add]; exact hj) (by rw [sec_len, size8, hl]; omega) (sec_one c)
  rw [sec_len] at hrun
  have e1 : ((cells8 (atR d k i)).toArray.toList.take (i * 64) ++ sec c ++ (cells8 (atR d k i)).toArray.toList.drop (i * 64 + 64)) = cells8 (atR d k (i + 1)) := by
    have t1 : (atR d k i).take (i * 64) = blkTo d k i := List.take_left' (blkTo_len d k i)
    have t0 : atR d k i = (blkTo d k i ++ List.replicate 64 0) ++ List.replicate (256 - (i + 1) * 64) 0 := by
      rw [atR, List.append_assoc, List.replicate_append_replicate, show 64 + (256 - (i + 1) * 64) = 256 - i * 64 by omega]
    have t2 : (atR d k i).drop (i * 64 + 64) = List.replicate (256 - (i + 1) * 64) 0 := by
      rw [t0]
      exact List.drop_left' (by rw [List.length_append, blkTo_len, List.length_replicate])
    show (cells8 (atR d k i)).take (i * 64) ++ sec c ++ (cells8 (atR d k i)).drop (i * 64 + 64) = _
    rw [← cells8_take, ← cells8_drop, t1, t2, atR, blkTo, cells8_append, cells8_append]
    have e3 : rdC d ((k * 4 + i : Nat) : Int) = c := by rw [← hc]; push_cast; rfl
    rw [e3]
    rfl
  rw [e1] at hrun
  refine ⟨_, hrun, ?_, setRow_heap W _ _ _ _ _ hx, below_setRow h.bel (Nat.le_succ _) _, ?_⟩
  · show (W.setRow (w.heap.size + 1) _).heap[w.heap.size]? = _
    rw [setRow_other W _ _ _ (by omega)]
    exact h.n
  · have := h.sz
    simp [World.setRow]
    exact this
theorem slice_1 (b i : Nat) (hi : i < 4) (W : World) : (Instr.sliceAt 45 (.pointer (some ⟨b, 0, none⟩)) (some (.int .i64 ((i : Int) * 64))) none none).run Tryd.prog W = .ok (.slice (some ⟨b, i * 64, none⟩) (256 - i * 64) (256 - i * 64)) W := by
  rcases i with _ | _ | _ | _ | i
  · kernel_rfl
  · kernel_rfl
  · kernel_rfl
  · kernel_rfl
  · exfalso; omega
theorem slice_2 (q : Nat) (W : World) : (Instr.sliceAt 64 (.pointer (some ⟨q, 0, none⟩)) none none none).run Tryd.prog W = .ok (.slice (some ⟨q, 0, none⟩) 64 64) W := by kernel_rfl
theorem RL.drew {w W : World} {x : List UInt8} (h : RL w W x) : RL w W.drew x := ⟨h.n, h.x, h.bel.drew, h.sz⟩
theorem has_read {d : RD} {k i : Nat} (hk : hasK d (k : Int)) (hi : i < 4) : thereN d ((k * 4 + i : Nat) : Int) ∧ rdR d ((k * 4 + i : Nat) : Int) = 0 := by
  have h : thereN d ((k * 4 + i : Nat) : Int) := ⟨by omega, by have := hk.2; omega⟩
  exact ⟨h, if_pos h⟩
set_option maxRecDepth 100000 in
set_option maxHeartbeats 4000000 in
theorem read_any' {w : World} {F : Nat → Prop} {b : Nat} {d : RD} (h : PD w F b d) (k : Nat) (hk : hasK d (k : Int)) : Calls Tryd.prog 11 #[.pointer (some ⟨b, 0, none⟩), .int .i64 (k : Int)] w fun e w' => e = .returned (.tuple #[.agg (cells8 (blkAt d k)).toArray, .int .i64 0]) ∧ Below w.heap.size w w' := by
  have hz := blk_zero
  have hz2 := zero_sector
  have hcs := cells8_size noughts
  have HP := Lib.hid (fun (W : World) (hb : Below w.heap.size w W) => place_any' (h.below hb) (k : Int))
  rw [plK_yes hk] at HP
  have HB := Lib.hid ((Below.refl _ w).alloc (Nat.le_refl _) (.cells (cells8 noughts).toArray 45))
  have HNEW := Lib.hid (heap_alloc_new w (.cells (cells8 noughts).toArray 45))
  have HPD := Lib.hid (fun (W : World) (hb : Below w.heap.size w W) => h.below hb)
  have HK := Lib.hid hk
  have hk0 : (k : Int) * 4 + 4 ≤ 8192 := by have := hk.2; have := h.n1; omega
  clear h hk
  go_enter Tryd.func11, Tryd.ntmps11
  go_wp2_with (first
    | (go_at_call 23; (with_reducible refine (HP.out _ HB.out).mono ?_); rintro e w1 ⟨rfl, rfl⟩)
    | fail)
  have HR0 : Hid (RL w ((w.alloc (.cells (cells8 noughts).toArray 45)).alloc (.cells (cells8 noughts).toArray 45)) (atR d k 0)) := by
    have hn := heap_alloc_new (w.alloc (.cells (cells8 noughts).toArray 45)) (.cells (cells8 noughts).toArray 45)
    rw [World.size_alloc] at hn
    exact Lib.hid ⟨(Below.heap_alloc _ _ _ (by simp)).trans HNEW.out, hn, HB.out.alloc (by simp) _, by simp⟩
  go_loopw [18] (fun j wr => ∃ i : Nat, i ≤ 4 ∧ j = .int .i64 (i : Int) ∧ Hid (RL w wr (atR d k i))) (fun j _ => 4 - (intOf j).toNat)
  case atStart => exact ⟨0, by omega, rfl, HR0.out⟩
  case round =>
    obtain ⟨i, hi, rfl, HRR⟩ := hrel
    by_cases hlt : i < 4
    · have hltI : (i : Int) < 4 := by omega
      have hrd := pd_read wr F b d (HPD.out _ HRR.out.bel) ((k * 4 + i : Nat) : Int)
      rw [(has_read HK.out hlt).2] at hrd
      push_cast at hrd
      have HRD := Lib.hid hrd
      clear hrd
      obtain ⟨c, hc⟩ : ∃ c, rdC d ((k : Int) * 4 + (i : Int)) = c := ⟨_, rfl⟩
      rw [hc] at HRD
      have HC := Lib.hid hc
      clear hc
      go_wp2_with (first
        | (go_at_call 24; (with_reducible refine HRD.out.mono ?_); rintro e w1 ⟨rfl, hb1⟩; have HR1 := Lib.hid (HRR.out.below hb1); have HN1 := Lib.hid (heap_alloc_new w1 (.cells (cells8 (fullN 0 0)).toArray 64)); clear hb1)
        | refine wpList_store_row rfl 64 (.tmp 9) (.tmp 28) rfl w1.heap.size (sec c).toArray rfl rfl 64 (cells8 (fullN 0 0)).toArray HN1.out (by rw [sector_sz c]; simp) (by rw [size8, fullN_len 0 0 (by omega), List.size_toArray, sec_len]) (all_oneCell_toArray (sec_one c)) ?_
        | fail)
      obtain ⟨W2, hW2⟩ : ∃ W2, (w1.alloc (.cells (cells8 (fullN 0 0)).toArray 64)).setRow w1.heap.size (sec c).toArray = W2 := ⟨_, rfl⟩
      have hb2 : Below w1.heap.size w1 W2 := by rw [← hW2]; exact below_setRow ((Below.refl _ w1).alloc (Nat.le_refl _) _) (Nat.le_refl _) _
      have hq2 : W2.heap[w1.heap.size]? = some (.cells (sec c).toArray 64 (0, 0)) := by rw [← hW2]; exact setRow_heap _ _ _ _ _ _ HN1.out
      obtain ⟨w3, hcp, hr3⟩ := copy_step (HR1.out.below hb2).drew hlt hq2 HC.out
      rw [hW2]
      have HR3 := Lib.hid hr3
      have hs1 := slice_1 (w.heap.size + 1) i hlt
      have hs2 := slice_2 w1.heap.size
      clear hb2 hq2 hr3 hW2
      go_region
      all_goals go_wp2
      exact ⟨⟨i + 1, hlt, by go_num, HR3.out⟩, by simp [intOf]; omega⟩
    · obtain rfl : i = 4 := by omega
      have hx := HRR.out.x
      have e4 : atR d k 4 = blkAt d k := by simp [atR, blkAt]
      rw [e4] at hx
      have hlx := blkAt_len d k
      have hrg : wr.rangeAt (w.heap.size + 1) 0 (cells8 (blkAt d k)) := fun j u hu => by
        rw [Joins.cell_of_block hx, List.getElem?_toArray, Nat.zero_add]; exact hu
      have HRG := Lib.hid hrg
      clear hrg hx e4
      obtain ⟨l, hll⟩ : ∃ l, blkAt d k = l := ⟨_, rfl⟩
      rw [hll] at HRG hlx
      have HLL := Lib.hid hll
      clear hll
      go_wp2_with (first
        | refine wpList_load_mid rfl 45 (.tmp 7) rfl (w.heap.size + 1) 0 rfl (cells8 l) _ HRG.out blk_u rfl (blk_sz l hlx) ?_
        | refine wpList_store_row rfl 45 (.tmp 4) (.tmp 40) rfl w.heap.size (cells8 l).toArray rfl rfl 45 (cells8 noughts).toArray HRR.out.n (by rw [blk_sz l hlx]; simp) (by rw [size8, size8, noughts_len, hlx]) (all_oneCell_toArray (cells8_one _)) ?_
        | fail)
      exact bodyPost_ret (results_cell_tmp rfl _ _ w.heap.size 45 (cells8 l).toArray (0, 0) _ (.int .i64 0) rfl rfl (setRow_heap _ _ _ _ _ _ HRR.out.n) blk_u rfl (by rw [blk_sz l hlx]; simp)) rfl ⟨by rw [HLL.out], below_setRow HRR.out.bel (Nat.le_refl _) _⟩
end Go.Proofs.YtmfcbndgambfmaaDoor.Q
