/- A disk of super's: blocks of four sectors. Read. Write. wipeTorn. Save. -/
import Derived.Test.YtoclhiaidbfheaaGreatDoorSg
import Derived.Test.YtoclhiaidbfheaaGreatDoorGq
section
set_option linter.unusedVariables false
namespace Go.Proofs.YtoclhiaidbfheaaGreatDoor.Q
open Go.RowKit

theorem pd_sectors {w : World} {F : Nat → Prop} {b : Nat} {d : RD} (h : PD w F b d) : Calls Tryz.prog 74 #[.pointer (some ⟨b, 0, none⟩)] w fun e w' => e = .returned (.int .i64 (d.s.length : Int)) ∧ w' = w := by
  obtain ⟨L, m, D, X, hp, _⟩ := h; exact (sectors_any w b m L D X d hp).mono fun e w' ⟨h1, h2⟩ => ⟨h1, h2.symm⟩
/-- the i-th sector of a block's bytes -/
def part (l : List UInt8) (i : Nat) : List UInt8 := (l.drop (i * 64)).take 64
theorem part_len (l : List UInt8) (hl : l.length = 256) (i : Nat) (hi : i < 4) : (part l i).length = 64 := by simp [part]; omega
def partS (l : List UInt8) (i : Nat) : SB := if h : (part l i).length = 64 then ⟨part l i, h⟩ else 0
theorem partS_eq (l : List UInt8) (hl : l.length = 256) (i : Nat) (hi : i < 4) : (partS l i).1 = part l i := by
  rw [partS, dif_pos (part_len l hl i hi)]
theorem slotOf_any (w : World) (s : SU) (hf : s.fits) : Calls Tryz.prog 149 #[.agg s.cells] w fun e w' => e = .returned (.int .i64 ((s.tx % 2 : Nat) : Int)) ∧ Below w.heap.size w w' := by
  have hx := hf.tx
  clear hf
  obtain ⟨tx, m, d, p0, p1, p2, p3, p4, p5, tp, ba, sg, c, ep, la, sq, bl, bs, mk⟩ := s
  simp only [SU.cells] at hx ⊢
  go_enter Tryz.func149, Tryz.ntmps149
  go_wp2
  go_ret
  have e : ((tx % 2 : Nat) : Int) = (tx : Int) % 2 := by omega
  rw [e]
  exact ⟨rfl, (Below.refl _ _).alloc (Nat.le_refl _) _⟩
set_option maxRecDepth 100000 in
set_option maxHeartbeats 2000000 in
theorem sectorOf_any (w : World) (l : List UInt8) (hl : l.length = 256) (i : Nat) (hi : i < 4) : Calls Tryz.prog 142 #[.agg (cells8 l).toArray, .int .i64 (i : Int)] w fun e w' => e = .returned (.agg (sec (partS l i)).toArray) ∧ Below w.heap.size w w' := by
  have hcs := cells8_size l
  have hsl : ∀ W : World, (Instr.sliceAt 151 (.pointer (some ⟨w.heap.size, 0, none⟩)) (some (.int .i64 ((i : Int) * 64))) (some (.int .i64 (((i : Int) + 1) * 64))) none).run Tryz.prog W = .ok (.slice (some ⟨w.heap.size, i * 64, none⟩) 64 (256 - i * 64)) W := fun W => by
    rcases i with _ | _ | _ | _ | i
    · kernel_rfl
    · kernel_rfl
    · kernel_rfl
    · kernel_rfl
    · exfalso; omega
  have hat : ∀ W : World, (Instr.arrayAt 245 (.slice (some ⟨w.heap.size, i * 64, none⟩) 64 (256 - i * 64))).run Tryz.prog W = .ok (.pointer (some ⟨w.heap.size, i * 64, none⟩)) W := fun W => run_arrayAt W _ _ 64 _ _ _ sector_u (Nat.le_refl _)
  have hz := zero_sector
  have hn := heap_alloc_new (w.alloc (.cells (cells8 l).toArray 151)) (.cells (cells8 (fullN 0 0)).toArray 245)
  rw [World.size_alloc] at hn
  have HNEW := Lib.hid hn
  have hr : ((w.alloc (.cells (cells8 l).toArray 151)).alloc (.cells (cells8 (fullN 0 0)).toArray 245)).rangeAt w.heap.size (i * 64) (sec (partS l i)) := fun j u hu => by
    have hb : ((w.alloc (.cells (cells8 l).toArray 151)).alloc (.cells (cells8 (fullN 0 0)).toArray 245)).heap[w.heap.size]? = _ := (Below.heap_alloc _ _ _ (by simp)).trans (heap_alloc_new w _)
    have hj : j < 64 := by
      have := (List.getElem?_eq_some_iff.1 hu).1
      rwa [sec_len] at this
    rw [Joins.cell_of_block hb, List.getElem?_toArray]
    rw [sec, partS_eq l hl i hi, part, cells8_take, cells8_drop, List.getElem?_take_of_lt hj, List.getElem?_drop] at hu
    exact hu
  have HR := Lib.hid hr
  have HB := Lib.hid (((Below.refl _ w).alloc (Nat.le_refl _) (.cells (cells8 l).toArray 151)).alloc (by simp) (.cells (cells8 (fullN 0 0)).toArray 245))
  clear hr hn
  generalize partS l i = c at *
  go_enter Tryz.func142, Tryz.ntmps142
  go_wp2_with (first
    | refine wpList_load_mid rfl 245 (.tmp 11) rfl w.heap.size (i * 64) rfl (sec c) _ HR.out sector_u rfl (sector_sz c) ?_
    | refine wpList_store_row rfl 245 (.tmp 4) (.tmp 12) rfl (w.heap.size + 1) (sec c).toArray rfl rfl 245 (cells8 (fullN 0 0)).toArray HNEW.out (by rw [sector_sz c]; simp) (by rw [size8, fullN_len 0 0 (by omega), List.size_toArray, sec_len]) (all_oneCell_toArray (sec_one c)) ?_
    | fail)
  exact bodyPost_ret (results_cell_row rfl _ _ (w.heap.size + 1) 245 (sec c).toArray (0, 0) _ rfl (setRow_heap _ _ _ _ _ _ HNEW.out) sector_u rfl (by rw [sector_sz c]; simp)) rfl ⟨rfl, below_setRow HB.out (Nat.le_succ _) _⟩
theorem place_nil (w : World) (k : Int) (h : Calls Tryz.prog 74 #[.pointer none] w fun e w' => e = .returned (.int .i64 0) ∧ w' = w) : Calls Tryz.prog 141 #[.pointer none, .int .i64 k] w fun e w' => e = .returned (.int .i64 1) ∧ w' = w := by
  have HH := Lib.hid h
  clear h
  go_enter Tryz.func141, Tryz.ntmps141
  go_wp2_with (first
    | (go_at_call 74; (with_reducible refine HH.out.mono ?_); rintro e w1 ⟨rfl, rfl⟩)
    | fail)
  go_ret
  exact ⟨rfl, rfl⟩
/-- has it all sectors of a block? -/
def hasK (d : RD) (k : Int) : Prop := 0 ≤ k ∧ k < ((d.s.length / 4 : Nat) : Int)
instance (d : RD) (k : Int) : Decidable (hasK d k) := by unfold hasK; exact inferInstance
def plK (d : RD) (k : Int) : Int := if hasK d k then 0 else 2
theorem place_any' {w : World} {F : Nat → Prop} {b : Nat} {d : RD} (h : PD w F b d) (k : Int) : Calls Tryz.prog 141 #[.pointer (some ⟨b, 0, none⟩), .int .i64 k] w fun e w' => e = .returned (.int .i64 (plK d k)) ∧ w' = w := by
  have HS := Lib.hid (pd_sectors h)
  have n0 := h.n0
  have n1 := h.n1
  have hq : IntKind.i64.wrap ((d.s.length : Int).tdiv 4) = ((d.s.length / 4 : Nat) : Int) := by
    rw [IntKind.wrap_i64]; rw [Int.tdiv_eq_ediv_of_nonneg (by omega)]; omega
  have z0 : ((d.s.length : Int) == 0) = false := by rw [beq_eq_false_iff_ne]; omega
  by_cases c1 : k < 0
  · rw [plK, if_neg (fun h => by have := h.1; omega)]
    clear h
    go_enter Tryz.func141, Tryz.ntmps141
    go_wp2_with (first
      | (go_at_call 74; (with_reducible refine HS.out.mono ?_); rintro e w1 ⟨rfl, rfl⟩)
      | fail)
    go_ret
    exact ⟨rfl, rfl⟩
  · by_cases c2 : k < ((d.s.length / 4 : Nat) : Int)
    · rw [plK, if_pos ⟨by omega, c2⟩]
      have c3 : ¬ ((d.s.length / 4 : Nat) : Int) ≤ k := by omega
      clear h
      go_enter Tryz.func141, Tryz.ntmps141
      go_wp2_with (first
        | (go_at_call 74; (with_reducible refine HS.out.mono ?_); rintro e w1 ⟨rfl, rfl⟩)
        | fail)
      go_ret
      exact ⟨rfl, rfl⟩
    · rw [plK, if_neg (fun h => c2 h.2)]
      have c3 : ((d.s.length / 4 : Nat) : Int) ≤ k := by omega
      clear h
      go_enter Tryz.func141, Tryz.ntmps141
      go_wp2_with (first
        | (go_at_call 74; (with_reducible refine HS.out.mono ?_); rintro e w1 ⟨rfl, rfl⟩)
        | fail)
      go_ret
      exact ⟨rfl, rfl⟩
end Go.Proofs.YtoclhiaidbfheaaGreatDoor.Q
end

section
set_option linter.unusedVariables false
namespace Go.Proofs.YtoclhiaidbfheaaGreatDoor.Q
open Go.RowKit

/-- a block's first i sectors -/
def blkTo (d : RD) (k : Nat) : Nat → List UInt8
  | 0 => []
  | i + 1 => blkTo d k i ++ (rdC d ((k * 4 + i : Nat) : Int)).1
def blkAt (d : RD) (k : Nat) : List UInt8 := blkTo d k 4
theorem blkTo_len (d : RD) (k : Nat) : ∀ i, (blkTo d k i).length = i * 64
  | 0 => rfl
  | i + 1 => by rw [blkTo, List.length_append, blkTo_len d k i, (rdC d _).2]; omega
theorem blkAt_len (d : RD) (k : Nat) : (blkAt d k).length = 256 := blkTo_len d k 4
theorem plK_no {d : RD} {k : Int} (h : ¬ hasK d k) : plK d k = 2 := if_neg h
theorem plK_yes {d : RD} {k : Int} (h : hasK d k) : plK d k = 0 := if_pos h
theorem blk_u : Tryz.prog.underlying 151 = some (.array 256 5) := Tryz.underlying151
theorem blk_sz (l : List UInt8) (h : l.length = 256) : (Tryz.prog.info? 151).map (·.size) = some (cells8 l).length := by rw [cells8_length, h]; kernel_rfl
set_option maxRecDepth 100000 in
set_option maxHeartbeats 4000000 in
theorem read_out {w : World} {F : Nat → Prop} {b : Nat} {d : RD} (h : PD w F b d) (k : Int) (hk : ¬ hasK d k) : Calls Tryz.prog 194 #[.pointer (some ⟨b, 0, none⟩), .int .i64 k] w fun e w' => e = .returned (.tuple #[.agg (cells8 noughts).toArray, .int .i64 2]) ∧ Below w.heap.size w w' := by
  have hz := blk_zero
  have hcs := cells8_size noughts
  have HP := Lib.hid (fun (W : World) (hb : Below w.heap.size w W) => place_any' (h.below hb) k)
  rw [plK_no hk] at HP
  have HB := Lib.hid ((Below.refl _ w).alloc (Nat.le_refl _) (.cells (cells8 noughts).toArray 151))
  have HNEW := Lib.hid (heap_alloc_new w (.cells (cells8 noughts).toArray 151))
  clear h
  go_enter Tryz.func194, Tryz.ntmps194
  go_wp2_with (first
    | (go_at_call 141; (with_reducible refine (HP.out _ HB.out).mono ?_); rintro e w1 ⟨rfl, rfl⟩)
    | refine wpList_store_row rfl 151 (.tmp 4) (.tmp 16) rfl w.heap.size (cells8 noughts).toArray rfl rfl 151 (cells8 noughts).toArray HNEW.out (by rw [blk_sz _ noughts_len]; simp) rfl (all_oneCell_toArray (cells8_one _)) ?_
    | fail)
  exact bodyPost_ret (results_cell_tmp rfl _ _ w.heap.size 151 (cells8 noughts).toArray (0, 0) _ (.int .i64 2) rfl rfl (setRow_heap _ _ _ _ _ _ HNEW.out) blk_u rfl (by rw [blk_sz _ noughts_len]; simp)) rfl ⟨rfl, below_setRow HB.out (Nat.le_refl _) _⟩
/-- the boxes of Read -/
structure RL (w W : World) (x : List UInt8) : Prop where
  n : Holds8 W w.heap.size 151 noughts
  x : Holds8 W (w.heap.size + 1) 151 x
  bel : Below w.heap.size w W
  sz : w.heap.size + 2 ≤ W.heap.size
theorem RL.below {w W W' : World} {x : List UInt8} (h : RL w W x) (hb : Below W.heap.size W W') : RL w W' x :=
  ⟨h.n.below hb, h.x.below hb, h.bel.trans (hb.mono h.bel.size), Nat.le_trans h.sz hb.size⟩
def atR (d : RD) (k i : Nat) : List UInt8 := blkTo d k i ++ List.replicate (256 - i * 64) 0
theorem atR_len (d : RD) (k i : Nat) (h : i ≤ 4) : (atR d k i).length = 256 := by simp [atR, blkTo_len]; omega
theorem u8_size : (Tryz.prog.info? 5).map (·.size) = some 1 := by kernel_rfl
/-- a sector more is copied -/
theorem copy_step {w W : World} {d : RD} {k i q : Nat} {c : SB} (h : RL w W (atR d k i)) (hi : i < 4) (hq : W.heap[q]? = some (.cells (sec c).toArray 245 (0, 0))) (hc : rdC d ((k : Int) * 4 + (i : Int)) = c) :
    ∃ w', (Builtin.copy_ #[303, 303] 3 #[.slice (some ⟨w.heap.size + 1, i * 64, none⟩) (256 - i * 64) (256 - i * 64), .slice (some ⟨q, 0, none⟩) 64 64]).run Tryz.prog W = .ok (.int .i64 64) w' ∧ RL w w' (atR d k (i + 1)) := by
  have hx := h.x
  have hl := atR_len d k i (by omega)
  have hrun := run_copy_row (P := Tryz.prog) W 303 303 3 5 (w.heap.size + 1) (i * 64) (256 - i * 64) (256 - i * 64) ⟨q, 0, none⟩ 64 64 (cells8 (atR d k i)).toArray 151 (sec c) Tryz.underlying303 u8_size hx (by rw [sec_len]; exact (Nat.min_eq_left (by omega)).symm) (fun j v hj => by rw [Addr.add_mid, Joins.cell_of_block hq, List.getElem?_toArray, Nat.zero_add]; exact hj) (by rw [sec_len, size8, hl]; omega) (sec_one c)
  rw [sec_len] at hrun
  have e1 : ((cells8 (atR d k i)).toArray.toList.take (i * 64) ++ sec c ++ (cells8 (atR d k i)).toArray.toList.drop (i * 64 + 64)) = cells8 (atR d k (i + 1)) := by
    have t1 : (atR d k i).take (i * 64) = blkTo d k i := List.take_left' (blkTo_len d k i)
    have t0 : atR d k i = (blkTo d k i ++ List.replicate 64 0) ++ List.replicate (256 - (i + 1) * 64) 0 := by
      rw [atR, List.append_assoc, List.replicate_append_replicate, show 64 + (256 - (i + 1) * 64) = 256 - i * 64 by omega]
    have t2 : (atR d k i).drop (i * 64 + 64) = List.replicate (256 - (i + 1) * 64) 0 := by
      rw [t0]
      exact List.drop_left' (by rw [List.length_append, blkTo_len, List.length_replicate])
    show (cells8 (atR d k i)).take (i * 64) ++ sec c ++ (cells8 (atR d k i)).drop (i * 64 + 64) = _
    rw [← cells8_take, ← cells8_drop, t1, t2, atR, blkTo, cells8_append, cells8_append]
    have e3 : rdC d ((k * 4 + i : Nat) : Int) = c := by rw [← hc]; push_cast; rfl
    rw [e3]
    rfl
  rw [e1] at hrun
  refine ⟨_, hrun, ?_, setRow_heap W _ _ _ _ _ hx, below_setRow h.bel (Nat.le_succ _) _, ?_⟩
  · show (W.setRow (w.heap.size + 1) _).heap[w.heap.size]? = _
    rw [setRow_other W _ _ _ (by omega)]
    exact h.n
  · have := h.sz
    simp [World.setRow]
    exact this
theorem slice_1 (b i : Nat) (hi : i < 4) (W : World) : (Instr.sliceAt 151 (.pointer (some ⟨b, 0, none⟩)) (some (.int .i64 ((i : Int) * 64))) none none).run Tryz.prog W = .ok (.slice (some ⟨b, i * 64, none⟩) (256 - i * 64) (256 - i * 64)) W := by
  rcases i with _ | _ | _ | _ | i
  · kernel_rfl
  · kernel_rfl
  · kernel_rfl
  · kernel_rfl
  · exfalso; omega
theorem slice_2 (q : Nat) (W : World) : (Instr.sliceAt 245 (.pointer (some ⟨q, 0, none⟩)) none none none).run Tryz.prog W = .ok (.slice (some ⟨q, 0, none⟩) 64 64) W := by kernel_rfl
theorem RL.drew {w W : World} {x : List UInt8} (h : RL w W x) : RL w W.drew x := ⟨h.n, h.x, h.bel.drew, h.sz⟩
theorem has_read {d : RD} {k i : Nat} (hk : hasK d (k : Int)) (hi : i < 4) : thereN d ((k * 4 + i : Nat) : Int) ∧ rdR d ((k * 4 + i : Nat) : Int) = 0 := by
  have h : thereN d ((k * 4 + i : Nat) : Int) := ⟨by omega, by have := hk.2; omega⟩
  exact ⟨h, if_pos h⟩
set_option maxRecDepth 100000 in
set_option maxHeartbeats 4000000 in
theorem read_any' {w : World} {F : Nat → Prop} {b : Nat} {d : RD} (h : PD w F b d) (k : Nat) (hk : hasK d (k : Int)) : Calls Tryz.prog 194 #[.pointer (some ⟨b, 0, none⟩), .int .i64 (k : Int)] w fun e w' => e = .returned (.tuple #[.agg (cells8 (blkAt d k)).toArray, .int .i64 0]) ∧ Below w.heap.size w w' := by
  have hz := blk_zero
  have hz2 := zero_sector
  have hcs := cells8_size noughts
  have HP := Lib.hid (fun (W : World) (hb : Below w.heap.size w W) => place_any' (h.below hb) (k : Int))
  rw [plK_yes hk] at HP
  have HB := Lib.hid ((Below.refl _ w).alloc (Nat.le_refl _) (.cells (cells8 noughts).toArray 151))
  have HNEW := Lib.hid (heap_alloc_new w (.cells (cells8 noughts).toArray 151))
  have HPD := Lib.hid (fun (W : World) (hb : Below w.heap.size w W) => h.below hb)
  have HK := Lib.hid hk
  have hk0 : (k : Int) * 4 + 4 ≤ 8192 := by have := hk.2; have := h.n1; omega
  clear h hk
  go_enter Tryz.func194, Tryz.ntmps194
  go_wp2_with (first
    | (go_at_call 141; (with_reducible refine (HP.out _ HB.out).mono ?_); rintro e w1 ⟨rfl, rfl⟩)
    | fail)
  have HR0 : Hid (RL w ((w.alloc (.cells (cells8 noughts).toArray 151)).alloc (.cells (cells8 noughts).toArray 151)) (atR d k 0)) := by
    have hn := heap_alloc_new (w.alloc (.cells (cells8 noughts).toArray 151)) (.cells (cells8 noughts).toArray 151)
    rw [World.size_alloc] at hn
    exact Lib.hid ⟨(Below.heap_alloc _ _ _ (by simp)).trans HNEW.out, hn, HB.out.alloc (by simp) _, by simp⟩
  go_loopw [18] (fun j wr => ∃ i : Nat, i ≤ 4 ∧ j = .int .i64 (i : Int) ∧ Hid (RL w wr (atR d k i))) (fun j _ => 4 - (intOf j).toNat)
  case atStart => exact ⟨0, by omega, rfl, HR0.out⟩
  case round =>
    obtain ⟨i, hi, rfl, HRR⟩ := hrel
    by_cases hlt : i < 4
    · have hltI : (i : Int) < 4 := by omega
      have hrd := pd_read wr F b d (HPD.out _ HRR.out.bel) ((k * 4 + i : Nat) : Int)
      rw [(has_read HK.out hlt).2] at hrd
      push_cast at hrd
      have HRD := Lib.hid hrd
      clear hrd
      obtain ⟨c, hc⟩ : ∃ c, rdC d ((k : Int) * 4 + (i : Int)) = c := ⟨_, rfl⟩
      rw [hc] at HRD
      have HC := Lib.hid hc
      clear hc
      go_wp2_with (first
        | (go_at_call 229; (with_reducible refine HRD.out.mono ?_); rintro e w1 ⟨rfl, hb1⟩; have HR1 := Lib.hid (HRR.out.below hb1); have HN1 := Lib.hid (heap_alloc_new w1 (.cells (cells8 (fullN 0 0)).toArray 245)); clear hb1)
        | refine wpList_store_row rfl 245 (.tmp 9) (.tmp 28) rfl w1.heap.size (sec c).toArray rfl rfl 245 (cells8 (fullN 0 0)).toArray HN1.out (by rw [sector_sz c]; simp) (by rw [size8, fullN_len 0 0 (by omega), List.size_toArray, sec_len]) (all_oneCell_toArray (sec_one c)) ?_
        | fail)
      obtain ⟨W2, hW2⟩ : ∃ W2, (w1.alloc (.cells (cells8 (fullN 0 0)).toArray 245)).setRow w1.heap.size (sec c).toArray = W2 := ⟨_, rfl⟩
      have hb2 : Below w1.heap.size w1 W2 := by rw [← hW2]; exact below_setRow ((Below.refl _ w1).alloc (Nat.le_refl _) _) (Nat.le_refl _) _
      have hq2 : W2.heap[w1.heap.size]? = some (.cells (sec c).toArray 245 (0, 0)) := by rw [← hW2]; exact setRow_heap _ _ _ _ _ _ HN1.out
      obtain ⟨w3, hcp, hr3⟩ := copy_step (HR1.out.below hb2).drew hlt hq2 HC.out
      rw [hW2]
      have HR3 := Lib.hid hr3
      have hs1 := slice_1 (w.heap.size + 1) i hlt
      have hs2 := slice_2 w1.heap.size
      clear hb2 hq2 hr3 hW2
      go_region
      all_goals go_wp2
      exact ⟨⟨i + 1, hlt, by go_num, HR3.out⟩, by simp [intOf]; omega⟩
    · obtain rfl : i = 4 := by omega
      have hx := HRR.out.x
      have e4 : atR d k 4 = blkAt d k := by simp [atR, blkAt]
      rw [e4] at hx
      have hlx := blkAt_len d k
      have hrg : wr.rangeAt (w.heap.size + 1) 0 (cells8 (blkAt d k)) := fun j u hu => by
        rw [Joins.cell_of_block hx, List.getElem?_toArray, Nat.zero_add]; exact hu
      have HRG := Lib.hid hrg
      clear hrg hx e4
      obtain ⟨l, hll⟩ : ∃ l, blkAt d k = l := ⟨_, rfl⟩
      rw [hll] at HRG hlx
      have HLL := Lib.hid hll
      clear hll
      go_wp2_with (first
        | refine wpList_load_mid rfl 151 (.tmp 7) rfl (w.heap.size + 1) 0 rfl (cells8 l) _ HRG.out blk_u rfl (blk_sz l hlx) ?_
        | refine wpList_store_row rfl 151 (.tmp 4) (.tmp 40) rfl w.heap.size (cells8 l).toArray rfl rfl 151 (cells8 noughts).toArray HRR.out.n (by rw [blk_sz l hlx]; simp) (by rw [size8, size8, noughts_len, hlx]) (all_oneCell_toArray (cells8_one _)) ?_
        | fail)
      exact bodyPost_ret (results_cell_tmp rfl _ _ w.heap.size 151 (cells8 l).toArray (0, 0) _ (.int .i64 0) rfl rfl (setRow_heap _ _ _ _ _ _ HRR.out.n) blk_u rfl (by rw [blk_sz l hlx]; simp)) rfl ⟨by rw [HLL.out], below_setRow HRR.out.bel (Nat.le_refl _) _⟩
end Go.Proofs.YtoclhiaidbfheaaGreatDoor.Q
end

section
set_option linter.unusedVariables false
namespace Go.Proofs.YtoclhiaidbfheaaGreatDoor.Q
open Go.RowKit

theorem movesB_iff (d : RD) : movesB d = true ↔ ¬ (d.dead = true ∨ d.fuse = 0) := by
  unfold movesB
  cases d.dead <;> simp
theorem wrD_s (d : RD) (n : Int) (c : SB) : (wrD d n c).s = d.s ∨ (wrD d n c).s = d.s.set n.toNat (d.s.getD n.toNat [] ++ [c]) := by
  unfold wrD
  split
  · split
    · exact .inr (by simp only [writeD, movesD_s])
    · exact .inl (movesD_s d)
  · exact .inl rfl
theorem wrD_len (d : RD) (n : Int) (c : SB) : (wrD d n c).s.length = d.s.length := by
  rcases wrD_s d n c with e | e <;> rw [e]
  simp
/-- each sector's past may have m versions more -/
def Short (d : RD) (m : Nat) : Prop := ∀ i, (d.s.getD i []).length + m ≤ 1000000
theorem Short.less {d : RD} {m n : Nat} (h : Short d m) (hn : n ≤ m) : Short d n := fun i => by have := h i; omega
theorem Short.at_ {d : RD} {m : Nat} (h : Short d (m + 1)) : ∀ i (hi : i < d.s.length), d.s[i].length < 1000000 := fun i hi => by
  have := h i
  rw [getD_get _ i hi] at this
  omega
theorem Short.wr {d : RD} {m : Nat} (h : Short d (m + 1)) (n : Int) (c : SB) : Short (wrD d n c) m := by
  intro i
  have h0 := h i
  rcases wrD_s d n c with e | e <;> rw [e]
  · omega
  · by_cases hi : n.toNat = i
    · subst hi
      rw [List.getD_eq_getElem?_getD, List.getElem?_set_self']
      cases hx : d.s[n.toNat]? with
      | none => simp; omega
      | some x =>
        have : d.s.getD n.toNat [] = x := by rw [List.getD_eq_getElem?_getD, hx]; rfl
        rw [this] at h0 ⊢
        show (x ++ [c]).length + m ≤ 1000000
        rw [List.length_append, List.length_singleton]
        omega
    · rw [List.getD_eq_getElem?_getD, List.getElem?_set_ne hi, ← List.getD_eq_getElem?_getD]
      omega
/-- a block's sectors are written, till an error -/
def wrK (d : RD) (k : Nat) (l : List UInt8) : Nat → Nat → Int × RD
  | 0, _ => (0, d)
  | n + 1, i => if movesB d = true then wrK (wrD d ((k : Int) * 4 + (i : Int)) (partS l i)) k l n (i + 1) else (10, movesD d)
def writeK (d : RD) (k : Nat) (l : List UInt8) : Int × RD := wrK d k l 4 0
theorem write_fin {w W : World} {o : Obj} {F F' : Nat → Prop} {b : Nat} {dd : RD} {er : Int} (ha : Below w.heap.size w (w.alloc o)) (hp : PD W F' b dd) (hf : ∀ j, F' j → F j ∨ w.heap.size < j) (hs : Stays (w.alloc o) W F) : PDone w F b er dd (.returned (.int .i64 er)) W :=
  ⟨rfl, F', hp, fun j hj => (hf j hj).imp id Nat.le_of_lt, (Stays.of_below ha F).trans hs (fun _ h => .inl h)⟩
set_option maxRecDepth 100000 in
set_option maxHeartbeats 4000000 in
theorem write_any' {w : World} {F : Nat → Prop} {b : Nat} {d : RD} (h : PD w F b d) (k : Nat) (hk : hasK d (k : Int)) (l : List UInt8) (hl : l.length = 256) (hs : Short d 4) :
    Calls Tryz.prog 78 #[.pointer (some ⟨b, 0, none⟩), .int .i64 (k : Int), .agg (cells8 l).toArray] w (PDone w F b (writeK d k l).1 (writeK d k l).2) := by
  have hcs := cells8_size l
  have hba := (Below.refl _ w).alloc (Nat.le_refl _) (.cells (cells8 l).toArray 151)
  have hpl := place_any' (h.below hba) (k : Int)
  rw [plK_yes hk] at hpl
  have HP := Lib.hid hpl
  have hr := heap_alloc_new w (.cells (cells8 l).toArray 151)
  have HA := Lib.hid hba
  have HN := Lib.hid hr
  have HK := Lib.hid hk
  have HS := Lib.hid hs
  have HH := Lib.hid h
  have hk0 : (k : Int) * 4 + 4 ≤ 8192 := by have := hk.2; have := h.n1; omega
  clear h hk hs hba hr hpl
  go_enter Tryz.func78, Tryz.ntmps78
  go_wp2_with (first
    | (go_at_call 141; (with_reducible refine HP.out.mono ?_); rintro e w1 ⟨rfl, rfl⟩)
    | fail)
  go_loopw [16] (fun j wr => ∃ (i : Nat) (dI : RD) (FI : Nat → Prop), i ≤ 4 ∧ j = .int .i64 (i : Int) ∧ Hid (PD wr FI b dI ∧ (∀ j, FI j → F j ∨ w.heap.size < j) ∧ Stays (w.alloc (.cells (cells8 l).toArray 151)) wr F ∧ Short dI (4 - i) ∧ dI.s.length = d.s.length ∧ wrK dI k l (4 - i) i = writeK d k l)) (fun j _ => 4 - (intOf j).toNat)
  case atStart => exact ⟨0, d, F, by omega, rfl, HH.out.below HA.out, fun _ h => .inl h, Stays.refl _ _, HS.out, rfl, rfl⟩
  case round =>
    obtain ⟨i, dI, FI, hi, rfl, HI⟩ := hrel
    obtain ⟨hp, hf, hst, hsh, hln, heq⟩ := HI.out
    by_cases hlt : i < 4
    · have hltI : (i : Int) < 4 := by omega
      have hth : thereN dI ((k : Int) * 4 + (i : Int)) := ⟨by omega, by have := HK.out.2; rw [hln]; omega⟩
      have hhb : wr.heap[w.heap.size]? = some (.cells (cells8 l).toArray 151 (0, 0)) := (hst.block _ (by simp) (fun e => by have := HH.out.lt e; omega)).trans HN.out
      have hrg : wr.rangeAt w.heap.size 0 (cells8 l) := fun j u hu => by
        rw [Joins.cell_of_block hhb, List.getElem?_toArray, Nat.zero_add]; exact hu
      have HRG := Lib.hid hrg
      have HSO := Lib.hid (sectorOf_any wr l hl i hlt)
      have hbel : Below wr.heap.size wr wr := Below.refl _ _
      have hn4 : 4 - i = (4 - (i + 1)) + 1 := by omega
      rw [hn4] at hsh heq
      have HF := Lib.hid hf
      have HST := Lib.hid hst
      have HLN := Lib.hid hln
      have HPI := Lib.hid hp
      cases hm : movesB dI with
      | true =>
        have HW : Hid (∀ W, Below wr.heap.size wr W → Calls Tryz.prog 140 #[.pointer (some ⟨b, 0, none⟩), .int .i64 ((k : Int) * 4 + (i : Int)), .agg (sec (partS l i)).toArray] W (PDone W FI b 0 (wrD dI ((k : Int) * 4 + (i : Int)) (partS l i)))) := Lib.hid (fun W hb => by
          have hq := pd_write W FI b dI (hp.below hb) ((k : Int) * 4 + (i : Int)) (partS l i) hsh.at_
          have e1 : wrR dI ((k : Int) * 4 + (i : Int)) = 0 := by unfold wrR; rw [if_pos hth, if_pos hm]
          rw [e1] at hq
          exact hq)
        have HSH := Lib.hid (hsh.wr ((k : Int) * 4 + (i : Int)) (partS l i))
        have heq2 : wrK (wrD dI ((k : Int) * 4 + (i : Int)) (partS l i)) k l (4 - (i + 1)) (i + 1) = writeK d k l := by
          rw [← heq, wrK, if_pos hm]
        have HEQ := Lib.hid heq2
        clear hp hf hst hsh hln heq heq2 hhb hrg hbel hm HI
        go_wp2_with (first
          | refine wpList_load_mid rfl 151 (.tmp 5) rfl w.heap.size 0 rfl (cells8 l) _ HRG.out blk_u rfl (blk_sz l hl) ?_
          | (go_at_call 142; (with_reducible refine HSO.out.mono ?_); rintro e w1 ⟨rfl, hb1⟩; have HB1 := Lib.hid hb1; clear hb1)
          | (go_at_call 140; (with_reducible refine (HW.out _ HB1.out).mono ?_); rintro e w2 ⟨rfl, F', hp2, hf2, hs2⟩; have HP2 := Lib.hid hp2; have HF2 := Lib.hid hf2; have HS2 := Lib.hid hs2; clear hp2 hf2 hs2)
          | fail)
        exact ⟨⟨i + 1, _, F', hlt, by go_num, HP2.out, fun j hj => (HF2.out j hj).elim (HF.out j) (fun h => .inr (by have h1 := HST.out.size; simp at h1; have h2 := HB1.out.size; omega)), (HST.out.trans (Stays.of_below HB1.out F) (fun _ h => .inl h)).trans HS2.out (fun j hj => (HF.out j hj).imp id (fun h => by simp; omega)), HSH.out, (wrD_len _ _ _).trans HLN.out, HEQ.out⟩, by simp [intOf]; omega⟩
      | false =>
        have HW : Hid (∀ W, Below wr.heap.size wr W → Calls Tryz.prog 140 #[.pointer (some ⟨b, 0, none⟩), .int .i64 ((k : Int) * 4 + (i : Int)), .agg (sec (partS l i)).toArray] W (PDone W FI b 10 (movesD dI))) := Lib.hid (fun W hb => by
          have hq := pd_write W FI b dI (hp.below hb) ((k : Int) * 4 + (i : Int)) (partS l i) hsh.at_
          have e1 : wrR dI ((k : Int) * 4 + (i : Int)) = 10 := by unfold wrR; rw [if_pos hth, if_neg (by rw [hm]; simp)]
          have e2 : wrD dI ((k : Int) * 4 + (i : Int)) (partS l i) = movesD dI := by unfold wrD; rw [if_pos hth, if_neg (by rw [hm]; simp)]
          rw [e1, e2] at hq
          exact hq)
        have heq2 : writeK d k l = (10, movesD dI) := by
          rw [← heq, wrK, if_neg (by rw [hm]; simp)]
        have HEQ := Lib.hid heq2
        clear hp hf hst hsh hln heq heq2 hhb hrg hbel hm HI
        go_wp2_with (first
          | refine wpList_load_mid rfl 151 (.tmp 5) rfl w.heap.size 0 rfl (cells8 l) _ HRG.out blk_u rfl (blk_sz l hl) ?_
          | (go_at_call 142; (with_reducible refine HSO.out.mono ?_); rintro e w1 ⟨rfl, hb1⟩; have HB1 := Lib.hid hb1; clear hb1)
          | (go_at_call 140; (with_reducible refine (HW.out _ HB1.out).mono ?_); rintro e w2 ⟨rfl, F', hp2, hf2, hs2⟩; have HP2 := Lib.hid hp2; have HF2 := Lib.hid hf2; have HS2 := Lib.hid hs2; clear hp2 hf2 hs2)
          | fail)
        go_ret
        rw [HEQ.out]
        exact write_fin HA.out HP2.out (fun j hj => (HF2.out j hj).elim (HF.out j) (fun h => .inr (by have h1 := HST.out.size; simp at h1; have h2 := HB1.out.size; omega))) ((HST.out.trans (Stays.of_below HB1.out F) (fun _ h => .inl h)).trans HS2.out (fun j hj => (HF.out j hj).imp id (fun h => by simp; omega)))
    · obtain rfl : i = 4 := by omega
      have heq2 : writeK d k l = (0, dI) := by rw [← heq]; rfl
      have HEQ := Lib.hid heq2
      have HF := Lib.hid hf
      have HST := Lib.hid hst
      have HPI := Lib.hid hp
      clear hp hf hst hsh hln heq heq2 HI
      go_wp2_with fail
      go_ret
      rw [HEQ.out]
      exact write_fin HA.out HPI.out HF.out HST.out
end Go.Proofs.YtoclhiaidbfheaaGreatDoor.Q
end

section
set_option linter.unusedVariables false
namespace Go.Proofs.YtoclhiaidbfheaaGreatDoor.Q
open Go.RowKit

theorem eql_sec (a b : SB) (w : World) : (binOp .eql 245 (.agg (sec a).toArray) (.agg (sec b).toArray)).run Tryz.prog w = .ok (.bool (a.1 == b.1)) w := by
  have h := run_equalIn_bytes (P := Tryz.prog) w 9998 245 5 64 Tryz.underlying245 Tryz.underlying5 (fun w => by kernel_rfl) a.1 b.1 a.2 b.2
  have h2 : (Op.equalIn 10000 245 (.agg (sec a).toArray) (.agg (sec b).toArray)).run Tryz.prog w = .ok (a.1 == b.1) w := h
  rw [run_eql_struct, h2]
  rfl
theorem sup_zero (w : World) : (zeroValue 144).run Tryz.prog w = .ok (.agg zeroSC) w := by kernel_rfl
theorem ofV_size (b : Bool) (l : List UInt8) : (ofV b l).size = 19 := by cases b <;> rfl
theorem ofV_all (b : Bool) (l : List UInt8) : (ofV b l).all (·.oneCell') = true := by
  cases b with
  | false => simp [ofV, zeroSC, Value.oneCell']
  | true => exact superCells_all l
theorem store_sup (w : World) (V : Array Value) (hs : V.size = 19) (h1 : V.all (·.oneCell') = true) : (storeCells ⟨w.heap.size, 0, none⟩ V.toList).run Tryz.prog (w.alloc (.cells zeroSC 144)) = .ok () (w.alloc (.cells V 144)) :=
  run_storeCells_new (P := Tryz.prog) w 144 zeroSC V (by rw [hs]; kernel_rfl) (by rw [hs]; rfl) h1
theorem sec_zero_run (w : World) : (zeroValue 245).run Tryz.prog w = .ok (.agg (sec 0).toArray) w := by kernel_rfl
theorem PDone.chain {w W W2 W3 : World} {F F' : Nat → Prop} {b : Nat} {er : Int} {d' : RD} {e : Ending} (ha : Below w.heap.size w W) (hf : ∀ k, F' k → F k ∨ W.heap.size ≤ k) (hs : Stays W W2 F) (h : PDone W2 F' b er d' e W3) : PDone w F b er d' e W3 := by
  obtain ⟨he, F2, hp, h1, h2⟩ := h
  have s1 := ha.size
  have s2 := hs.size
  refine ⟨he, F2, hp, fun k hk => ?_, ((Stays.of_below ha F).trans hs (fun _ h => .inl h)).trans h2 (fun k hk => (hf k hk).imp id (fun h => by omega))⟩
  rcases h1 k hk with h | h
  · exact (hf k h).imp id (fun h => by omega)
  · exact .inr (by omega)
/-- a slot is made good for a superblock: its first sector is wiped if none's stands there -/
def wipeB (d : RD) (k : Nat) : Bool := superOfB (blkAt d k) || ((partS (blkAt d k) 0).1 == (0 : SB).1)
def wipeK (d : RD) (k : Nat) : Int × RD :=
  if wipeB d k = true then (0, d) else if movesB d = true then (flR (wrD d ((k : Int) * 4) 0), flD (wrD d ((k : Int) * 4) 0)) else (10, movesD d)
set_option maxRecDepth 100000 in
set_option maxHeartbeats 4000000 in
theorem wipe_any {w : World} {F : Nat → Prop} {b : Nat} {d : RD} (hT : Tabs w) (hW : Wids w) (h : PD w F b d) (k : Nat) (hk : hasK d (k : Int)) (hs : Short d 1) :
    Calls Tryz.prog 150 #[.pointer (some ⟨b, 0, none⟩), .int .i64 (k : Int)] w (PDone w F b (wipeK d k).1 (wipeK d k).2) := by
  have HRD := Lib.hid (read_any' h k hk)
  have hl := blkAt_len d k
  have HTW : Hid (∀ W, Below w.heap.size w W → Tabs W ∧ Wids W) := Lib.hid (fun W hb => ⟨hT.below hb hT.size, hW.below hb hW.size⟩)
  have HH := Lib.hid h
  have HS := Lib.hid hs
  have hth : thereN d ((k : Int) * 4) := ⟨by omega, by have := hk.2; omega⟩
  have hk0 : (k : Int) * 4 + 4 ≤ 8192 := by have := hk.2; have := h.n1; omega
  have hz := sec_zero_run
  have hz2 := blk_zero
  have hpk : wipeK d k = if wipeB d k = true then (0, d) else if movesB d = true then (flR (wrD d ((k : Int) * 4) 0), flD (wrD d ((k : Int) * 4) 0)) else (10, movesD d) := rfl
  have hwb : wipeB d k = (superOfB (blkAt d k) || ((partS (blkAt d k) 0).1 == (0 : SB).1)) := rfl
  obtain ⟨l, hll⟩ : ∃ l, blkAt d k = l := ⟨_, rfl⟩
  rw [hll] at HRD hl hwb
  have HOF : Hid (∀ W, Below w.heap.size w W → Calls Tryz.prog 195 #[.agg (cells8 l).toArray] W fun e w' => e = .returned (.tuple #[.agg (ofV (superOfB l) l), .int .i64 (ofE (superOfB l))]) ∧ Below W.heap.size W w') := Lib.hid (fun W hb => sof_any W (HTW.out W hb).1 (HTW.out W hb).2 l hl)
  have HSO : Hid (∀ W, Calls Tryz.prog 142 #[.agg (cells8 l).toArray, .int .i64 0] W fun e w' => e = .returned (.agg (sec (partS l 0)).toArray) ∧ Below W.heap.size W w') := Lib.hid (fun W => sectorOf_any W l hl 0 (by omega))
  have hst := fun w => store_blk w noughts l noughts_len hl
  have hlc : (cells8 l).length = 256 := by rw [cells8_length, hl]
  have hnc : (cells8 noughts).length = 256 := by rw [cells8_length, noughts_len]
  have HG : Hid (∀ (w1 W : World), Below (w1.alloc (.cells (cells8 l).toArray 151)).heap.size (w1.alloc (.cells (cells8 l).toArray 151)) W → W.rangeAt w1.heap.size 0 (cells8 l)) := Lib.hid (fun w1 W hb j u hu => by
    rw [Joins.cell_of_block ((hb.block _ (by simp)).trans (heap_alloc_new w1 _)), List.getElem?_toArray, Nat.zero_add]; exact hu)
  have hzs := sup_zero
  obtain ⟨V, hV⟩ : ∃ V, ofV (superOfB l) l = V := ⟨_, rfl⟩
  have hVs : V.size = 19 := by rw [← hV]; exact ofV_size _ _
  have hVst := fun w => store_sup w V hVs (by rw [← hV]; exact ofV_all _ _)
  rw [hV] at HOF
  clear h hk hs hT hW hll hV
  cases ho : superOfB l with
  | true =>
    rw [ho] at HOF hwb
    have e : wipeK d k = (0, d) := by rw [hpk, if_pos (by rw [hwb]; rfl)]
    rw [e]
    have e0 : ofE true = 0 := rfl
    rw [e0] at HOF
    clear hpk hwb ho e e0
    go_enter Tryz.func150, Tryz.ntmps150
    go_wp2_with (first
      | (go_at_call 194; (with_reducible refine HRD.out.mono ?_); rintro e w1 ⟨rfl, hb1⟩; have HB1 := Lib.hid (hb1.alloc hb1.size (.cells (cells8 l).toArray 151)); clear hb1)
      | refine wpList_load_mid rfl 151 (.tmp 5) rfl w1.heap.size 0 rfl (cells8 l) _ (HG.out _ _ (by with_reducible first | exact Below.refl _ _ | exact HB2.out)) blk_u rfl (blk_sz l hl) ?_
      | (go_at_call 195; (with_reducible refine (HOF.out _ HB1.out).mono ?_); rintro e w2 ⟨rfl, hb2⟩; have HB2 := Lib.hid hb2; clear hb2)
      | fail)
    go_ret
    exact PDone.same HH.out ((HB1.out.trans (HB2.out.mono HB1.out.size)).alloc (Nat.le_trans HB1.out.size HB2.out.size) _)
  | false =>
    rw [ho] at HOF hwb
    have e0 : ofE false = 4 := rfl
    rw [e0] at HOF
    have hq := eql_sec (partS l 0) 0
    cases hx : ((partS l 0).1 == (0 : SB).1) with
    | true =>
      rw [hx] at hwb hq
      have e : wipeK d k = (0, d) := by rw [hpk, if_pos (by rw [hwb]; rfl)]
      rw [e]
      clear hpk hwb ho e e0 hx
      go_enter Tryz.func150, Tryz.ntmps150
      go_wp2_with (first
        | (go_at_call 194; (with_reducible refine HRD.out.mono ?_); rintro e w1 ⟨rfl, hb1⟩; have HB1 := Lib.hid (hb1.alloc hb1.size (.cells (cells8 l).toArray 151)); clear hb1)
        | refine wpList_load_mid rfl 151 (.tmp 5) rfl w1.heap.size 0 rfl (cells8 l) _ (HG.out _ _ (by with_reducible first | exact Below.refl _ _ | exact HB2.out)) blk_u rfl (blk_sz l hl) ?_
        | (go_at_call 195; (with_reducible refine (HOF.out _ HB1.out).mono ?_); rintro e w2 ⟨rfl, hb2⟩; have HB2 := Lib.hid hb2; clear hb2)
        | fail)
      refine wp_load_mid 151 (.tmp 5) rfl w1.heap.size 0 rfl (cells8 l) _ (HG.out _ _ (HB2.out.alloc HB2.out.size _)) blk_u rfl (blk_sz l hl) ?_
      go_wp2_with (first
        | (go_at_call 142; (with_reducible refine (HSO.out _).mono ?_); rintro e w3 ⟨rfl, hb3⟩; have HB3 := Lib.hid ((HB1.out.trans (HB2.out.mono HB1.out.size)).alloc (Nat.le_trans HB1.out.size HB2.out.size) (.cells V 144) |>.trans (hb3.mono (by have h1 := HB1.out.size; have h2 := HB2.out.size; simp at h1 h2 ⊢; omega))); clear hb3)
        | fail)
      go_ret
      exact PDone.same HH.out HB3.out
    | false =>
      rw [hx] at hwb hq
      have hpk2 : wipeK d k = if movesB d = true then (flR (wrD d ((k : Int) * 4) 0), flD (wrD d ((k : Int) * 4) 0)) else (10, movesD d) := by rw [hpk, if_neg (by rw [hwb]; simp)]
      cases hm : movesB d with
      | true =>
        have e : wipeK d k = (flR (wrD d ((k : Int) * 4) 0), flD (wrD d ((k : Int) * 4) 0)) := by rw [hpk2, if_pos hm]
        rw [e]
        have HWR : Hid (∀ W, Below w.heap.size w W → Calls Tryz.prog 140 #[.pointer (some ⟨b, 0, none⟩), .int .i64 ((k : Int) * 4), .agg (sec 0).toArray] W (PDone W F b 0 (wrD d ((k : Int) * 4) 0))) := Lib.hid (fun W hb => by
          have hq := pd_write W F b d (HH.out.below hb) ((k : Int) * 4) 0 HS.out.at_
          have e1 : wrR d ((k : Int) * 4) = 0 := by unfold wrR; rw [if_pos hth, if_pos hm]
          rw [e1] at hq
          exact hq)
        obtain ⟨dW, hdW⟩ : ∃ dW, wrD d ((k : Int) * 4) 0 = dW := ⟨_, rfl⟩
        rw [hdW] at HWR ⊢
        obtain ⟨er, her⟩ : ∃ er, flR dW = er := ⟨_, rfl⟩
        have HFL : Hid (∀ (W : World) (F' : Nat → Prop), PD W F' b dW → Calls Tryz.prog 80 #[.pointer (some ⟨b, 0, none⟩)] W (PDone W F' b er (flD dW))) := Lib.hid (fun W F' h => by rw [← her]; exact pd_flush W F' b dW h)
        rw [her]
        clear hpk hwb ho e e0 hx hpk2 hm hdW her
        go_enter Tryz.func150, Tryz.ntmps150
        go_wp2_with (first
          | (go_at_call 194; (with_reducible refine HRD.out.mono ?_); rintro e w1 ⟨rfl, hb1⟩; have HB1 := Lib.hid (hb1.alloc hb1.size (.cells (cells8 l).toArray 151)); clear hb1)
          | refine wpList_load_mid rfl 151 (.tmp 5) rfl w1.heap.size 0 rfl (cells8 l) _ (HG.out _ _ (by with_reducible first | exact Below.refl _ _ | exact HB2.out)) blk_u rfl (blk_sz l hl) ?_
          | (go_at_call 195; (with_reducible refine (HOF.out _ HB1.out).mono ?_); rintro e w2 ⟨rfl, hb2⟩; have HB2 := Lib.hid hb2; clear hb2)
          | fail)
        refine wp_load_mid 151 (.tmp 5) rfl w1.heap.size 0 rfl (cells8 l) _ (HG.out _ _ (HB2.out.alloc HB2.out.size _)) blk_u rfl (blk_sz l hl) ?_
        go_wp2_with (first
          | (go_at_call 142; (with_reducible refine (HSO.out _).mono ?_); rintro e w3 ⟨rfl, hb3⟩; have HB3 := Lib.hid ((HB1.out.trans (HB2.out.mono HB1.out.size)).alloc (Nat.le_trans HB1.out.size HB2.out.size) (.cells V 144) |>.trans (hb3.mono (by have h1 := HB1.out.size; have h2 := HB2.out.size; simp at h1 h2 ⊢; omega))); clear hb3)
          | (go_at_call 140; (with_reducible refine (HWR.out _ HB3.out).mono ?_); rintro e w4 ⟨rfl, F', hp4, hf4, hs4⟩; have HP4 := Lib.hid hp4; have HF4 := Lib.hid hf4; have HS4 := Lib.hid hs4; clear hp4 hf4 hs4)
          | (go_at_call 80; (with_reducible refine (HFL.out _ F' HP4.out).mono ?_); rintro e w5 h5; have h6 := PDone.chain HB3.out HF4.out HS4.out h5; obtain ⟨rfl, h7⟩ := h6; have H7 := Lib.hid h7; clear h5 h7)
          | fail)
        go_ret
        exact ⟨rfl, H7.out⟩
      | false =>
        have e : wipeK d k = (10, movesD d) := by rw [hpk2, if_neg (by rw [hm]; simp)]
        rw [e]
        have HWR : Hid (∀ W, Below w.heap.size w W → Calls Tryz.prog 140 #[.pointer (some ⟨b, 0, none⟩), .int .i64 ((k : Int) * 4), .agg (sec 0).toArray] W (PDone W F b 10 (movesD d))) := Lib.hid (fun W hb => by
          have hq := pd_write W F b d (HH.out.below hb) ((k : Int) * 4) 0 HS.out.at_
          have e1 : wrR d ((k : Int) * 4) = 10 := by unfold wrR; rw [if_pos hth, if_neg (by rw [hm]; simp)]
          have e2 : wrD d ((k : Int) * 4) 0 = movesD d := by unfold wrD; rw [if_pos hth, if_neg (by rw [hm]; simp)]
          rw [e1, e2] at hq
          exact hq)
        clear hpk hwb ho e e0 hx hpk2 hm
        go_enter Tryz.func150, Tryz.ntmps150
        go_wp2_with (first
          | (go_at_call 194; (with_reducible refine HRD.out.mono ?_); rintro e w1 ⟨rfl, hb1⟩; have HB1 := Lib.hid (hb1.alloc hb1.size (.cells (cells8 l).toArray 151)); clear hb1)
          | refine wpList_load_mid rfl 151 (.tmp 5) rfl w1.heap.size 0 rfl (cells8 l) _ (HG.out _ _ (by with_reducible first | exact Below.refl _ _ | exact HB2.out)) blk_u rfl (blk_sz l hl) ?_
          | (go_at_call 195; (with_reducible refine (HOF.out _ HB1.out).mono ?_); rintro e w2 ⟨rfl, hb2⟩; have HB2 := Lib.hid hb2; clear hb2)
          | fail)
        refine wp_load_mid 151 (.tmp 5) rfl w1.heap.size 0 rfl (cells8 l) _ (HG.out _ _ (HB2.out.alloc HB2.out.size _)) blk_u rfl (blk_sz l hl) ?_
        go_wp2_with (first
          | (go_at_call 142; (with_reducible refine (HSO.out _).mono ?_); rintro e w3 ⟨rfl, hb3⟩; have HB3 := Lib.hid ((HB1.out.trans (HB2.out.mono HB1.out.size)).alloc (Nat.le_trans HB1.out.size HB2.out.size) (.cells V 144) |>.trans (hb3.mono (by have h1 := HB1.out.size; have h2 := HB2.out.size; simp at h1 h2 ⊢; omega))); clear hb3)
          | (go_at_call 140; (with_reducible refine (HWR.out _ HB3.out).mono ?_); rintro e w4 h4; have h6 := PDone.chain HB3.out (fun _ h => .inl h) (Stays.refl _ _) h4; obtain ⟨rfl, h7⟩ := h6; have H7 := Lib.hid h7; clear h4 h7)
          | fail)
        go_ret
        exact ⟨rfl, H7.out⟩
end Go.Proofs.YtoclhiaidbfheaaGreatDoor.Q
end

section
set_option linter.unusedVariables false
namespace Go.Proofs.YtoclhiaidbfheaaGreatDoor.Q
open Go.RowKit

theorem wrK_len (k : Nat) (l : List UInt8) : ∀ n i d, (wrK d k l n i).2.s.length = d.s.length
  | 0, _, _ => rfl
  | n + 1, i, d => by
    rw [wrK]
    split
    · rw [wrK_len k l n (i + 1), wrD_len]
    · simp [movesD_s]
theorem flD_len (d : RD) : (flD d).s.length = d.s.length := by
  unfold flD
  split
  · simp [flushD, movesD_s]
  · rw [movesD_s]
theorem wipeK_len (d : RD) (k : Nat) : (wipeK d k).2.s.length = d.s.length := by
  unfold wipeK
  split
  · rfl
  · split
    · rw [flD_len, wrD_len]
    · rw [movesD_s]
theorem Short.moves {d : RD} {m : Nat} (h : Short d m) : Short (movesD d) m := fun i => by rw [movesD_s]; exact h i
theorem Short.flush {d : RD} {m : Nat} (h : Short d m) (hm : m < 1000000) : Short (flD d) m := by
  unfold flD
  split
  · intro i
    simp only [flushD, movesD_s]
    rw [List.getD_eq_getElem?_getD, List.getElem?_map]
    cases d.s[i]? with
    | none => simp; omega
    | some x => simp; omega
  · exact h.moves
theorem Short.wipe {d : RD} {m : Nat} (h : Short d (m + 1)) (hm : m < 1000000) (k : Nat) : Short (wipeK d k).2 m := by
  unfold wipeK
  split
  · exact h.less (Nat.le_succ _)
  · split
    · exact (h.wr _ _).flush hm
    · exact (h.less (Nat.le_succ _)).moves
/-- a superblock is saved -/
def saveK (d : RD) (s : SU) : Int × RD :=
  if s.may = true then
    if (wipeK d (s.tx % 2)).1 = 0 then
      if (writeK (wipeK d (s.tx % 2)).2 (s.tx % 2) s.img).1 = 0 then (flR (writeK (wipeK d (s.tx % 2)).2 (s.tx % 2) s.img).2, flD (writeK (wipeK d (s.tx % 2)).2 (s.tx % 2) s.img).2)
      else writeK (wipeK d (s.tx % 2)).2 (s.tx % 2) s.img
    else wipeK d (s.tx % 2)
  else (2, d)
theorem wrK_err (k : Nat) (l : List UInt8) : ∀ n i d, (wrK d k l n i).1 = 0 ∨ (wrK d k l n i).1 = 10
  | 0, _, _ => .inl rfl
  | n + 1, i, d => by
    rw [wrK]
    split
    · exact wrK_err k l n _ _
    · exact .inr rfl
theorem flR_err (d : RD) : flR d = 0 ∨ flR d = 10 := by
  unfold flR
  split
  · exact .inl rfl
  · exact .inr rfl
theorem wipeK_err (d : RD) (k : Nat) : (wipeK d k).1 = 0 ∨ (wipeK d k).1 = 10 := by
  unfold wipeK
  split
  · exact .inl rfl
  · split
    · exact flR_err _
    · exact .inr rfl
theorem has_slot {d : RD} (h : 8 ≤ d.s.length) (t : Nat) : hasK d ((t % 2 : Nat) : Int) := ⟨by omega, by omega⟩
set_option maxRecDepth 100000 in
set_option maxHeartbeats 4000000 in
theorem save_any {w : World} {F : Nat → Prop} {b : Nat} {d : RD} (hT : Tabs w) (hW : Wids w) (h : PD w F b d) (h8 : 8 ≤ d.s.length) (s : SU) (hf : s.fits) (hs : Short d 5) :
    Calls Tryz.prog 81 #[.pointer (some ⟨b, 0, none⟩), .agg s.cells] w (PDone w F b (saveK d s).1 (saveK d s).2) := by
  have HTW : Hid (∀ W, Below w.heap.size w W → Tabs W ∧ Wids W) := Lib.hid (fun W hb => ⟨hT.below hb hT.size, hW.below hb hW.size⟩)
  have HH := Lib.hid h
  have n0 : ((d.s.length : Int) == 0) = false := by rw [beq_eq_false_iff_ne]; omega
  have HSEC := Lib.hid (fun (W : World) (hb : Below w.heap.size w W) => pd_sectors (h.below hb))
  have HBL := Lib.hid (fun (W : World) (hb : Below w.heap.size w W) => SU.block W (HTW.out W hb).1 (HTW.out W hb).2 s hf)
  have HSL := Lib.hid (fun (W : World) => slotOf_any W s hf)
  have hz2 := blk_zero
  have hsc : s.cells.size = 19 := rfl
  have hbl : s.blk.length = 256 := blkB_len _ _ s.img_len
  have hst := fun w => store_blk w noughts s.blk noughts_len hbl
  have hbc : (cells8 s.blk).length = 256 := by rw [cells8_length, hbl]
  have HIM := Lib.hid s.img_len
  cases hm : s.may with
  | false =>
    have e : saveK d s = (2, d) := by unfold saveK; rw [if_neg (by rw [hm]; simp)]
    have e1 : s.err = 2 := by rw [SU.err, hm]; rfl
    rw [e]
    rw [e1] at HBL
    have HBA := Lib.hid ((Below.refl _ w).alloc (Nat.le_refl _) (.cells s.cells 144))
    have HRG : Hid (∀ W, Below (w.alloc (.cells s.cells 144)).heap.size (w.alloc (.cells s.cells 144)) W → W.rangeAt w.heap.size 0 s.cells.toList) := Lib.hid (fun W hb j u hu => by
      rw [Joins.cell_of_block ((hb.block _ (by simp)).trans (heap_alloc_new w _)), Nat.zero_add, ← Array.getElem?_toList]; exact hu)
    obtain ⟨cl, hcl⟩ : ∃ cl : List Value, s.cells = cl.toArray := ⟨s.cells.toList, by simp⟩
    rw [hcl] at HBL HSL HBA hsc HRG ⊢
    rw [List.toList_toArray] at HRG
    have hsc' : cl.length = 19 := by simpa using hsc
    have hinf : (Tryz.prog.info? 144).map (·.size) = some cl.length := by rw [hsc']; kernel_rfl
    clear hT hW h hf hs hm e e1 hcl HSL
    generalize s.blk = l at *
    go_enter Tryz.func81, Tryz.ntmps81
    go_wp2_with (first
      | (go_at_call 74; (with_reducible refine (HSEC.out _ HBA.out).mono ?_); rintro e w1 ⟨rfl, rfl⟩)
      | refine wpList_load_mid rfl 144 (.tmp 3) rfl w.heap.size 0 rfl cl _ (HRG.out _ (by with_reducible first | exact Below.refl _ _ | exact HB2.out)) Tryz.underlying144 rfl hinf ?_
      | (go_at_call 148; (with_reducible refine (HBL.out _ HBA.out).mono ?_); rintro e w2 ⟨rfl, hb2⟩; have HB2 := Lib.hid (hb2.alloc hb2.size (.cells (cells8 l).toArray 151)); clear hb2)
      | fail)
    go_ret
    exact PDone.same HH.out (HBA.out.trans (HB2.out.mono (by simp)))
  | true =>
    have e1 : s.err = 0 := by rw [SU.err, hm]; rfl
    have e2 : s.blk = s.img := by rw [SU.blk, hm]; rfl
    rw [e1] at HBL
    rw [e2] at HBL hbl hst hbc
    have h256 := s.img_len
    obtain ⟨k, hk⟩ : ∃ k, s.tx % 2 = k := ⟨_, rfl⟩
    have hk2 : k < 2 := by omega
    have hsk : saveK d s = if (wipeK d k).1 = 0 then if (writeK (wipeK d k).2 k s.img).1 = 0 then (flR (writeK (wipeK d k).2 k s.img).2, flD (writeK (wipeK d k).2 k s.img).2) else writeK (wipeK d k).2 k s.img else wipeK d k := by
      unfold saveK; rw [if_pos hm, hk]
    rw [hk] at HSL
    have hhas : ∀ d' : RD, d'.s.length = d.s.length → hasK d' (k : Int) := fun d' e => ⟨by omega, by rw [e]; omega⟩
    have HWP := Lib.hid (fun (W : World) (hb : Below w.heap.size w W) => wipe_any (HTW.out W hb).1 (HTW.out W hb).2 (h.below hb) k (hhas d rfl) (hs.less (by omega)))
    have HWR := Lib.hid (fun (W : World) (F1 : Nat → Prop) (hp : PD W F1 b (wipeK d k).2) => write_any' hp k (hhas _ (wipeK_len d k)) s.img h256 (hs.wipe (by omega) k))
    have HFL := Lib.hid (fun (W : World) (F1 : Nat → Prop) (hp : PD W F1 b (writeK (wipeK d k).2 k s.img).2) => pd_flush W F1 b _ hp)
    have hz1 := wipeK_err d k
    have hz2' := wrK_err k s.img 4 0 (wipeK d k).2
    have hFw : ∀ j, F j → j < w.heap.size := fun j hj => h.lt hj
    have HFW := Lib.hid hFw
    have HBA := Lib.hid ((Below.refl _ w).alloc (Nat.le_refl _) (.cells s.cells 144))
    have HRG : Hid (∀ W, Below (w.alloc (.cells s.cells 144)).heap.size (w.alloc (.cells s.cells 144)) W → W.rangeAt w.heap.size 0 s.cells.toList) := Lib.hid (fun W hb j u hu => by
      rw [Joins.cell_of_block ((hb.block _ (by simp)).trans (heap_alloc_new w _)), Nat.zero_add, ← Array.getElem?_toList]; exact hu)
    obtain ⟨cl, hcl⟩ : ∃ cl : List Value, s.cells = cl.toArray := ⟨s.cells.toList, by simp⟩
    rw [hcl] at HBL HSL HBA hsc HRG ⊢
    rw [List.toList_toArray] at HRG
    have hsc' : cl.length = 19 := by simpa using hsc
    have hinf : (Tryz.prog.info? 144).map (·.size) = some cl.length := by rw [hsc']; kernel_rfl
    clear hT hW h hf hs hm e1 e2 hcl hk hhas hFw
    obtain ⟨l, hll⟩ : ∃ l, s.img = l := ⟨_, rfl⟩
    rw [hll] at HBL hbl hst hbc HWR HFL hz2' hsk h256 HIM
    obtain ⟨r1, hr1⟩ : ∃ r, wipeK d k = r := ⟨_, rfl⟩
    rw [hr1] at HWP HWR HFL hz1 hz2' hsk
    obtain ⟨er1, d1⟩ := r1
    simp only at HWP HWR HFL hz1 hz2' hsk
    obtain ⟨r2, hr2⟩ : ∃ r, writeK d1 k l = r := ⟨_, rfl⟩
    have hr2' : wrK d1 k l 4 0 = r2 := hr2
    rw [hr2] at HWR HFL hsk
    rw [hr2'] at hz2'
    obtain ⟨er2, d2⟩ := r2
    simp only at HWR HFL hz2' hsk
    have HRB : Hid (∀ (w2 W : World), (∀ j, F j → j < w2.heap.size) → Stays (w2.alloc (.cells (cells8 l).toArray 151)) W F → W.rangeAt w2.heap.size 0 (cells8 l)) := Lib.hid (fun w2 W hF hst j u hu => by
      rw [Joins.cell_of_block ((hst.block _ (by simp) (fun e => by have := hF _ e; omega)).trans (heap_alloc_new w2 _)), List.getElem?_toArray, Nat.zero_add]; exact hu)
    clear hll hr1 hr2 hr2' hk2
    rcases hz1 with rfl | rfl
    · rcases hz2' with rfl | rfl
      · have e : saveK d s = (flR d2, flD d2) := by rw [hsk, if_pos rfl, if_pos rfl]
        rw [e]
        obtain ⟨er, her⟩ : ∃ er, flR d2 = er := ⟨_, rfl⟩
        rw [her] at HFL ⊢
        clear hsk e her
        go_enter Tryz.func81, Tryz.ntmps81
        go_wp2_with (first
          | (go_at_call 74; (with_reducible refine (HSEC.out _ HBA.out).mono ?_); rintro e w1 ⟨rfl, rfl⟩)
          | refine wpList_load_mid rfl 144 (.tmp 3) rfl w.heap.size 0 rfl cl _ (HRG.out _ (by with_reducible first | exact Below.refl _ _ | exact HB2.out)) Tryz.underlying144 rfl hinf ?_
          | (go_at_call 148; (with_reducible refine (HBL.out _ HBA.out).mono ?_); rintro e w2 ⟨rfl, hb2⟩; have HB2 := Lib.hid (hb2.alloc hb2.size (.cells (cells8 l).toArray 151)); clear hb2)
          | (go_at_call 149; (with_reducible refine (HSL.out _).mono ?_); rintro e w3 ⟨rfl, hb3⟩; have HB3 := Lib.hid hb3; have HBW := Lib.hid (HBA.out.trans (HB2.out.trans (hb3.mono HB2.out.size) |>.mono (by simp))); clear hb3)
          | (go_at_call 150; (with_reducible refine (HWP.out _ HBW.out).mono ?_); rintro e w4 ⟨rfl, F1, hp4, hf4, hs4⟩; have HP4 := Lib.hid hp4; have HF4 := Lib.hid hf4; have HS4 := Lib.hid hs4; have HS4b := Lib.hid ((Stays.of_below HB3.out F).trans hs4 (fun _ h => .inl h)); have HLT := Lib.hid (fun j hj => Nat.lt_of_lt_of_le (HFW.out j hj) (show w.heap.size ≤ w2.heap.size from by have := HB2.out.size; simp at this; omega)); clear hp4 hf4 hs4)
          | refine wpList_load_mid rfl 151 (.tmp 5) rfl w2.heap.size 0 rfl (cells8 l) _ (HRB.out w2 _ HLT.out HS4b.out) blk_u rfl (blk_sz l hbl) ?_
          | (go_at_call 78; (with_reducible refine (HWR.out _ F1 HP4.out).mono ?_); rintro e w5 ⟨rfl, F2, hp5, hf5, hs5⟩; have HP5 := Lib.hid hp5; have HF5 := Lib.hid hf5; have HS5 := Lib.hid hs5; clear hp5 hf5 hs5)
          | (go_at_call 80; (with_reducible refine (HFL.out _ F2 HP5.out).mono ?_); rintro e w6 h6; have h7 := PDone.chain HBW.out (fun j hj => (HF5.out j hj).elim (HF4.out j) (fun h => .inr (Nat.le_trans HS4.out.size h))) (HS4.out.trans HS5.out HF4.out) h6; obtain ⟨rfl, h8⟩ := h7; have H7 := Lib.hid h8; clear h6 h8)
          | fail)
        go_ret
        exact ⟨rfl, H7.out⟩
      · have e : saveK d s = (10, d2) := by rw [hsk, if_pos rfl, if_neg (by decide)]
        rw [e]
        clear hsk e
        go_enter Tryz.func81, Tryz.ntmps81
        go_wp2_with (first
          | (go_at_call 74; (with_reducible refine (HSEC.out _ HBA.out).mono ?_); rintro e w1 ⟨rfl, rfl⟩)
          | refine wpList_load_mid rfl 144 (.tmp 3) rfl w.heap.size 0 rfl cl _ (HRG.out _ (by with_reducible first | exact Below.refl _ _ | exact HB2.out)) Tryz.underlying144 rfl hinf ?_
          | (go_at_call 148; (with_reducible refine (HBL.out _ HBA.out).mono ?_); rintro e w2 ⟨rfl, hb2⟩; have HB2 := Lib.hid (hb2.alloc hb2.size (.cells (cells8 l).toArray 151)); clear hb2)
          | (go_at_call 149; (with_reducible refine (HSL.out _).mono ?_); rintro e w3 ⟨rfl, hb3⟩; have HB3 := Lib.hid hb3; have HBW := Lib.hid (HBA.out.trans (HB2.out.trans (hb3.mono HB2.out.size) |>.mono (by simp))); clear hb3)
          | (go_at_call 150; (with_reducible refine (HWP.out _ HBW.out).mono ?_); rintro e w4 ⟨rfl, F1, hp4, hf4, hs4⟩; have HP4 := Lib.hid hp4; have HF4 := Lib.hid hf4; have HS4 := Lib.hid hs4; have HS4b := Lib.hid ((Stays.of_below HB3.out F).trans hs4 (fun _ h => .inl h)); have HLT := Lib.hid (fun j hj => Nat.lt_of_lt_of_le (HFW.out j hj) (show w.heap.size ≤ w2.heap.size from by have := HB2.out.size; simp at this; omega)); clear hp4 hf4 hs4)
          | refine wpList_load_mid rfl 151 (.tmp 5) rfl w2.heap.size 0 rfl (cells8 l) _ (HRB.out w2 _ HLT.out HS4b.out) blk_u rfl (blk_sz l hbl) ?_
          | (go_at_call 78; (with_reducible refine (HWR.out _ F1 HP4.out).mono ?_); rintro e w5 h5; have h6 := PDone.chain HBW.out HF4.out HS4.out h5; obtain ⟨rfl, h7⟩ := h6; have H7 := Lib.hid h7; clear h5 h7)
          | fail)
        go_ret
        exact ⟨rfl, H7.out⟩
    · have e : saveK d s = (10, d1) := by rw [hsk, if_neg (by decide)]
      rw [e]
      clear hsk e HWR HFL
      go_enter Tryz.func81, Tryz.ntmps81
      go_wp2_with (first
        | (go_at_call 74; (with_reducible refine (HSEC.out _ HBA.out).mono ?_); rintro e w1 ⟨rfl, rfl⟩)
        | refine wpList_load_mid rfl 144 (.tmp 3) rfl w.heap.size 0 rfl cl _ (HRG.out _ (by with_reducible first | exact Below.refl _ _ | exact HB2.out)) Tryz.underlying144 rfl hinf ?_
        | (go_at_call 148; (with_reducible refine (HBL.out _ HBA.out).mono ?_); rintro e w2 ⟨rfl, hb2⟩; have HB2 := Lib.hid (hb2.alloc hb2.size (.cells (cells8 l).toArray 151)); clear hb2)
        | (go_at_call 149; (with_reducible refine (HSL.out _).mono ?_); rintro e w3 ⟨rfl, hb3⟩; have HB3 := Lib.hid hb3; have HBW := Lib.hid (HBA.out.trans (HB2.out.trans (hb3.mono HB2.out.size) |>.mono (by simp))); clear hb3)
        | (go_at_call 150; (with_reducible refine (HWP.out _ HBW.out).mono ?_); rintro e w4 h4; have h6 := PDone.chain HBW.out (fun _ h => .inl h) (Stays.refl _ _) h4; obtain ⟨rfl, h7⟩ := h6; have H7 := Lib.hid h7; clear h4 h7)
        | fail)
      go_ret
      exact ⟨rfl, H7.out⟩
end Go.Proofs.YtoclhiaidbfheaaGreatDoor.Q
end
