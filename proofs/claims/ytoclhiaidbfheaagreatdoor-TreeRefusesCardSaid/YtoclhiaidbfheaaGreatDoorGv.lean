/- Layer 7: a page's block, an area's pages. No program is named here. page's lay and countIn. page's Block. page's read; Block of what may not be. page's Block of anything, Of. -/
import Derived.Test.YtoclhiaidbfheaaGreatDoorBa
import Derived.Test.YtoclhiaidbfheaaGreatDoorBe
import Derived.Test.YtoclhiaidbfheaaGreatDoorBg
import Derived.Test.YtoclhiaidbfheaaGreatDoorBk
import Derived.Lib.BufferWrite
import Derived.Deep.RegionWith
import Derived.Deep.DeepCutAuto
import Derived.Laws.BitsAllLaws
import Derived.Test.YtoclhiaidbfheaaGreatDoorBj
section
set_option linter.unusedVariables false
namespace Go.Proofs.YtoclhiaidbfheaaGreatDoor

/-- the counts' bytes, i of them -/
def cntB (l : List Nat) : Nat → List UInt8
  | 0 => []
  | i + 1 => cntB l i ++ leN 2 (l.getD i 0)
theorem cntB_length (l : List Nat) : ∀ i, (cntB l i).length = 2 * i
  | 0 => rfl
  | i + 1 => by rw [cntB, List.length_append, cntB_length l i, leN_length]; omega
def headP (no ix : Nat) : List UInt8 := 80 :: 71 :: UInt8.ofNat ix :: 0 :: (leN 4 no ++ [0, 0, 0, 0])
theorem headP_length (no ix : Nat) : (headP no ix).length = 12 := by simp [headP, leN_length]
/-- a page's block -/
def imgP (no ix : Nat) (l : List Nat) : List UInt8 := summed (padB (headP no ix ++ cntB l l.length))
theorem bodyP_length (no ix : Nat) (l : List Nat) (i : Nat) : (headP no ix ++ cntB l i).length = 12 + 2 * i := by rw [List.length_append, headP_length, cntB_length]
theorem imgP_length (no ix : Nat) (l : List Nat) (h : l.length ≤ 120) : (imgP no ix l).length = 256 := by
  rw [imgP, summed_length, padB_length _ (by rw [bodyP_length]; omega)]
/-- the i-th count of a block -/
def cntAt (l : List UInt8) (i : Nat) : Nat := numN ((l.drop (16 + 2 * i)).take 2)
theorem cntAt_lt (l : List UInt8) (i : Nat) : cntAt l i < 65536 := by
  have h := numN_lt ((l.drop (16 + 2 * i)).take 2)
  have h2 : ((l.drop (16 + 2 * i)).take 2).length ≤ 2 := by simp; omega
  have h3 : (256 : Nat) ^ ((l.drop (16 + 2 * i)).take 2).length ≤ 256 ^ 2 := Nat.pow_le_pow_right (by omega) h2
  unfold cntAt
  omega
def cntOf (l : List UInt8) : Nat → List Nat
  | 0 => []
  | i + 1 => cntOf l i ++ [cntAt l i]
theorem cntOf_length (l : List UInt8) : ∀ i, (cntOf l i).length = i
  | 0 => rfl
  | i + 1 => by simp [cntOf, cntOf_length l i]
theorem cntOf_lt (l : List UInt8) : ∀ i, ∀ k ∈ cntOf l i, k < 65536
  | 0, k, h => by simp [cntOf] at h
  | i + 1, k, h => by
    rw [cntOf, List.mem_append, List.mem_singleton] at h
    rcases h with h | rfl
    · exact cntOf_lt l i k h
    · exact cntAt_lt l i
/-- so many counts read, noughts behind -/
def cntTo (l : List UInt8) (i : Nat) : List Nat := cntOf l i ++ List.replicate (120 - i) 0
theorem cntTo_length (l : List UInt8) (i : Nat) (h : i ≤ 120) : (cntTo l i).length = 120 := by simp [cntTo, cntOf_length]; omega
theorem cntTo_set (l : List UInt8) (i : Nat) (h : i < 120) : (cntTo l i).set i (cntAt l i) = cntTo l (i + 1) := by
  have e : List.replicate (120 - i) 0 = 0 :: List.replicate (120 - (i + 1)) 0 := by
    rw [show 120 - i = (120 - (i + 1)) + 1 by omega, List.replicate_succ]
  rw [cntTo, e, List.set_append_right _ _ (by rw [cntOf_length]; omega), cntOf_length, Nat.sub_self, List.set_cons_zero, cntTo, cntOf, List.append_assoc]
  rfl
theorem cntTo_all (l : List UInt8) : cntTo l 120 = cntOf l 120 := by simp [cntTo]
end Go.Proofs.YtoclhiaidbfheaaGreatDoor
end

section
set_option linter.unusedVariables false
namespace Go.Proofs.YtoclhiaidbfheaaGreatDoor
open Go.RowKit

/-- counts, as they lie -/
def nums16 (l : List Nat) : List Value := l.map fun n : Nat => .int .u16 (n : Int)
theorem nums16_length (l : List Nat) : (nums16 l).length = l.length := by simp [nums16]
theorem nums16_get (l : List Nat) (i : Nat) (h : i < l.length) : (nums16 l)[i]? = some (.int .u16 ((l.getD i 0 : Nat) : Int)) := by
  simp [nums16, h]
theorem Shows.num16 {w : World} {B : Nat} {A : Option Addr} {l : List Nat} (h : Shows w B A l.length (nums16 l)) (i : Nat) (hi : i < l.length) : ∃ p : Addr, A = some p ∧ p.block < B ∧ w.cell? (p.add i) = some (.int .u16 ((l.getD i 0 : Nat) : Int)) := by
  obtain ⟨p, u, h1, h2, h3, h4⟩ := h.cell hi
  rw [nums16_get l i hi] at h3
  exact ⟨p, h1, h2, by rw [h4, ← h3]⟩

set_option maxHeartbeats 1000000 in
theorem vlay_any (w : World) (bb c : Nat) (T : TypeId) (pre post mid : List UInt8) (n : Nat) (h8 : mid.length ≤ 4) (hb : Holds8 w bb T (pre ++ (mid ++ post))) :
    Calls Tryz.prog 197 #[.slice (some ⟨bb, pre.length, none⟩) mid.length c, .int .u32 n] w fun e w' => e = .returned (.tuple #[]) ∧ Holds8 w' bb T (pre ++ (leN mid.length n ++ post)) ∧ Apart2 w w' bb bb := by
  go_enter Tryz.func197, Tryz.ntmps197
  go_wp2
  go_loopw [7, 4] (fun j x wr => ∃ i : Nat, i ≤ mid.length ∧ j = .int .i64 (i : Int) ∧ Holds8 wr bb T (pre ++ (leN i n ++ (mid.drop i ++ post))) ∧ Apart2 w wr bb bb) (fun j _ _ => mid.length - (intOf j).toNat)
  case atStart => exact ⟨0, Nat.zero_le _, rfl, by simpa [leN] using hb, Apart2.refl _ _ _⟩
  case round =>
    obtain ⟨i, hi, rfl, H0, H2⟩ := hrel
    by_cases hlt : i < mid.length
    · have hltI : (i : Int) < (mid.length : Int) := by omega
      have hlen : pre.length + i < (pre ++ (leN i n ++ (mid.drop i ++ post))).length := by simp [leN_length]; omega
      have hfz := H0.frozen (pre.length + i)
      obtain ⟨u0, hc0⟩ : ∃ u, wr.cell? ⟨bb, pre.length + i, none⟩ = some u := ⟨_, H0.cell (pre.length + i) hlen⟩
      have HS := Lib.hid (H0.set (pre.length + i) (UInt8.ofNat (n / 256 ^ i)))
      rw [set_mid _ _ _ _ _ _ (leN_length i n) hlt, ← leN_snoc] at HS
      clear H0 hb hlen
      go_wp2
      rw [shr_val]
      go_roundw
      case rel => exact ⟨i + 1, hlt, by go_num, HS.out, H2.setCell _ _ (.inl rfl)⟩
      case measure => simp [intOf]; omega
    · obtain rfl : i = mid.length := by omega
      have hltI : ¬ (mid.length : Int) < (mid.length : Int) := by omega
      have HS := Lib.hid H0
      clear H0 hb
      go_wp2
      go_end0
      rw [List.drop_length] at HS
      exact ⟨rfl, by simpa using HS.out, H2⟩

theorem slice_cnt (bb p : Nat) (h : p ≤ 254) (w : World) : (Instr.sliceAt 151 (.pointer (some ⟨bb, 0, none⟩)) (some (.int .i64 (p : Int))) (some (.int .i64 ((p : Int) + 2))) (some (.int .i64 ((p : Int) + 2)))).run Tryz.prog w = .ok (.slice (some ⟨bb, p, none⟩) 2 2) w := by
  have hl : Tryz.prog.arrayLen 151 = 256 := by kernel_rfl
  have hE : Tryz.prog.elem 151 = 5 := by kernel_rfl
  have h1 : ∀ w, (sizeOf 5).run Tryz.prog w = .ok 1 w := fun w => by kernel_rfl
  rw [run_sliceAt_array_lhm (P := Tryz.prog) w 151 ⟨bb, 0, none⟩ (by rw [hl, hE]; exact Tryz.underlying151) .i64 .i64 .i64 (p : Int) ((p : Int) + 2) ((p : Int) + 2) (by omega) (by omega) (by omega) (by rw [hl]; omega), hE, h1]
  have e1 : ((p : Int) + 2).toNat = p + 2 := by omega
  have e2 : ((p : Int)).toNat = p := by omega
  have e3 : (⟨bb, 0, none⟩ : Addr).add p = ⟨bb, p, none⟩ := by unfold Addr.add; split <;> simp_all
  simp only [Result.andThen_ok, slicedAt, e1, e2, Nat.mul_one, e3]
  rw [if_neg (by omega), show p + 2 - p = 2 by omega]
set_option maxRecDepth 20000 in
theorem vcount_any (w : World) (bb i : Nat) (h : i < 120) :
    Calls Tryz.prog 198 #[.pointer (some ⟨bb, 0, none⟩), .int .i64 (i : Int)] w fun e w' => e = .returned (.slice (some ⟨bb, 16 + 2 * i, none⟩) 2 2) ∧ w' = w := by
  have hs : ∀ W : World, (Instr.sliceAt 151 (.pointer (some ⟨bb, 0, none⟩)) (some (.int .i64 (16 + (i : Int) * 2))) (some (.int .i64 (16 + (i : Int) * 2 + 2))) (some (.int .i64 (16 + (i : Int) * 2 + 2)))).run Tryz.prog W = .ok (.slice (some ⟨bb, 16 + 2 * i, none⟩) 2 2) W := fun W => by
    have e1 : 16 + (i : Int) * 2 = ((16 + 2 * i : Nat) : Int) := by omega
    rw [e1]
    exact slice_cnt bb (16 + 2 * i) (by omega) W
  go_enter Tryz.func198, Tryz.ntmps198
  go_wp2
  go_ret
  exact ⟨rfl, rfl⟩
end Go.Proofs.YtoclhiaidbfheaaGreatDoor
end

section
set_option linter.unusedVariables false
namespace Go.Proofs.YtoclhiaidbfheaaGreatDoor
open Go.RowKit

/-- the boxes of Block -/
structure LP (w W : World) (bb : Nat) (x : List UInt8) : Prop where
  z : Holds8 W w.heap.size 151 noughts
  x : Holds8 W bb 151 x
  lt : w.heap.size < bb
  bel : Below w.heap.size w W
theorem LP.below {w W W' : World} {bb : Nat} {x : List UInt8} (h : LP w W bb x) (hb : Below W.heap.size W W') : LP w W' bb x :=
  ⟨h.z.below hb, h.x.below hb, h.lt, h.bel.trans (hb.mono h.bel.size)⟩
theorem LP.apart {w W W' : World} {bb : Nat} {x y : List UInt8} (h : LP w W bb x) (ha : Apart2 W W' bb bb) (hx : Holds8 W' bb 151 y) : LP w W' bb y :=
  ⟨(ha.block _ (by have := h.lt; omega) (by have := h.lt; omega)).trans h.z, hx, h.lt, h.bel.trans (ha.below (by have := h.lt; omega) (by have := h.lt; omega))⟩
/-- the block, so many counts laid -/
def atP (no ix : Nat) (l : List Nat) (i : Nat) : List UInt8 := [0, 0, 0, 0] ++ (headP no ix ++ cntB l i) ++ List.replicate (240 - 2 * i) 0
theorem atP_split (no ix : Nat) (l : List Nat) (i : Nat) (h : i < 120) : atP no ix l i = ([0, 0, 0, 0] ++ (headP no ix ++ cntB l i)) ++ (List.replicate 2 0 ++ List.replicate (240 - 2 * (i + 1)) 0) := by
  rw [List.replicate_append_replicate, show 2 + (240 - 2 * (i + 1)) = 240 - 2 * i by omega]
  rfl
theorem atP_next (no ix : Nat) (l : List Nat) (i : Nat) : ([0, 0, 0, 0] ++ (headP no ix ++ cntB l i)) ++ (leN 2 (l.getD i 0) ++ List.replicate (240 - 2 * (i + 1)) 0) = atP no ix l (i + 1) := by
  simp only [atP, cntB, List.append_assoc]
theorem atP_end (no ix : Nat) (l : List Nat) (i : Nat) : atP no ix l i = [] ++ ([0, 0, 0, 0] ++ padB (headP no ix ++ cntB l i)) := by
  rw [atP, padB, bodyP_length, show 252 - (12 + 2 * i) = 240 - 2 * i by omega]
  simp only [List.append_assoc, List.nil_append]
def two : List UInt8 := [0, 0, 0, 0, 80, 71] ++ List.replicate 250 0
def three (ix : Nat) : List UInt8 := [0, 0, 0, 0, 80, 71, UInt8.ofNat ix, 0] ++ ([0, 0, 0, 0] ++ List.replicate 244 0)
theorem three_of (ix : Nat) : two.set 6 (UInt8.ofNat ix) = three ix := rfl
set_option maxRecDepth 100000 in
theorem three_laid (no ix : Nat) (l : List Nat) : [0, 0, 0, 0, 80, 71, UInt8.ofNat ix, 0] ++ (leN 4 no ++ List.replicate 244 0) = atP no ix l 0 := rfl
set_option maxRecDepth 100000 in
theorem two_row : ((cells8 noughts).toArray.toList.take 4 ++ Lib.byteCells [80, 71] ++ (cells8 noughts).toArray.toList.drop 6) = cells8 two := by rfl
theorem LP.sum {w W : World} {bb : Nat} {no ix : Nat} {l : List Nat} (h : LP w W bb (atP no ix l l.length)) (hl : l.length ≤ 120) (hT : Tabs w) :
    Calls Tryz.prog 199 #[.slice (some ⟨bb, 4, none⟩) 252 252] W fun e w' => e = .returned (.int .u32 ((sumB (padB (headP no ix ++ cntB l l.length)) : Nat) : Int)) ∧
      Hid (∀ (cc : Nat), Calls Tryz.prog 197 #[.slice (some ⟨bb, 0, none⟩) 4 cc, .int .u32 ((sumB (padB (headP no ix ++ cntB l l.length)) : Nat) : Int)] w' fun e w2 => e = .returned (.tuple #[]) ∧ Hid (LP w w2 bb (imgP no ix l))) := by
  have hx := h.x
  rw [atP_end] at hx
  have hp := padB_length (headP no ix ++ cntB l l.length) (by rw [bodyP_length]; omega)
  have hx0 : Holds8 W bb 151 ([0, 0, 0, 0] ++ padB (headP no ix ++ cntB l l.length)) := hx
  have hsh : Shows W W.heap.size (some ⟨bb, 4, none⟩) (padB (headP no ix ++ cntB l l.length)).length (cells8 (padB (headP no ix ++ cntB l l.length))) := by
    have := hx0.shows.from_ (k := 4) (cap := 256) (by simp) (by simp [hp])
    rw [if_neg (by omega), ← cells8_drop] at this
    simpa [Addr.add] using this
  have hsum := sum_any W.heap.size (some ⟨bb, 4, none⟩) 252 (padB (headP no ix ++ cntB l l.length)) W (hT.below h.bel hT.size) hsh (Nat.le_refl _) (by omega)
  rw [hp] at hsum
  refine hsum.mono fun e w' hq => ⟨hq.1, fun cc => ?_⟩
  have h2 := h.below hq.2
  have hx2 := h2.x
  rw [atP_end] at hx2
  exact (vlay_any w' bb cc 151 [] (padB (headP no ix ++ cntB l l.length)) [0, 0, 0, 0] _ (by simp) hx2).mono fun e w2 hq2 => ⟨hq2.1, h2.apart hq2.2.2 hq2.2.1⟩

set_option maxRecDepth 10000 in
set_option maxHeartbeats 4000000 in
theorem vblock_ok (w : World) (hT : Tabs w) (no ix : Nat) (hno : no < 4294967296) (hix : ix ≤ 255) (l : List Nat) (hl : l.length ≤ 120) (hf : ∀ k ∈ l, k < 65536) (A : Option Addr) (c : Nat) (hs : Shows w w.heap.size A l.length (nums16 l)) :
    Calls Tryz.prog 143 #[.int .u32 (no : Int), .int .i64 (ix : Int), .slice A l.length c] w fun e w' => e = .returned (.tuple #[.agg (cells8 (imgP no ix l)).toArray, .int .i64 0]) ∧ Below w.heap.size w w' := by
  have hz := blk_zero
  have HS := Lib.hid hs
  have HF := Lib.hid hf
  have HCS : Hid ((cells8 noughts).toArray.size = 256) := (cells8_size _).trans noughts_len
  have h1 := ((Below.refl w.heap.size w).alloc (Nat.le_refl _) (.cells (cells8 noughts).toArray 151)).alloc (by simp) (.cells (cells8 noughts).toArray 151)
  have h2 := (Holds8.new w 151 noughts _ rfl).alloc (.cells (cells8 noughts).toArray 151)
  have h3 := Holds8.new (w.alloc (.cells (cells8 noughts).toArray 151)) 151 noughts _ rfl
  simp only [World.size_alloc] at h3
  have HK : Hid (LP w ((w.alloc (.cells (cells8 noughts).toArray 151)).alloc (.cells (cells8 noughts).toArray 151)) (w.heap.size + 1) noughts) := ⟨h2, h3, by omega, h1⟩
  clear hs hf h1 h2 h3
  have hrow := two_row
  have hnn : noughts = noughts := rfl
  generalize hnz : noughts = z at hz HCS HK hrow
  have HNZ := Lib.hid hnz
  clear hnz hnn
  have hlI : ¬ (120 : Int) < (l.length : Int) := by omega
  have hixI : ¬ (255 : Int) < (ix : Int) := by omega
  go_enter Tryz.func143, Tryz.ntmps143
  go_upto_region 4 with fail
  generalize hw1 : (w.alloc (.cells (cells8 z).toArray 151)).alloc (.cells (cells8 z).toArray 151) = w1 at *
  have hcp : (Builtin.copy_ #[303, 9] 3 #[.slice (some ⟨w.heap.size + 1, 4, none⟩) 2 252, .string ⟨#[80, 71]⟩]).run Tryz.prog w1 = .ok (.int .i64 2) (w1.setRow (w.heap.size + 1) (cells8 two).toArray) := by
    have h := Lib.run_copy_row_string (P := Tryz.prog) (ty := 3) w1 303 9 5 (w.heap.size + 1) 4 2 252 ⟨#[80, 71]⟩ (cells8 z).toArray 151 Tryz.underlying303 (by kernel_rfl) HK.out.x (by decide) (by rw [HCS.out]; decide)
    exact h.trans (congrArg (fun r : List Value => Result.ok (Value.int .i64 2) (w1.setRow (w.heap.size + 1) r.toArray)) hrow)
  have HK2 : Hid (LP w (w1.setRow (w.heap.size + 1) (cells8 two).toArray) (w.heap.size + 1) two) := ⟨by have h := HK.out.z; unfold Holds8 at *; rw [setRow_other _ _ _ _ (by omega)]; exact h, HK.out.x.row _, HK.out.lt, below_setRow HK.out.bel (by omega) _⟩
  clear HK hrow hw1
  go_upto_region 5 with fail
  clear hcp hz
  generalize w1.setRow (w.heap.size + 1) (cells8 two).toArray = w2 at *
  have hc6 : w2.cell? ⟨w.heap.size + 1, 6, none⟩ = some (.int .u8 0) := HK2.out.x.cell 6 (by decide)
  have hf6 := HK2.out.x.frozen 6
  have hw8 : ((UInt8.ofNat ix).toNat : Int) = (ix : Int) := by rw [UInt8.toNat_ofNat']; omega
  have hx3 := HK2.out.x.set 6 (UInt8.ofNat ix)
  rw [three_of, hw8] at hx3
  have HK3 : Hid (LP w (w2.setCell ⟨w.heap.size + 1, 6, none⟩ (.int .u8 (ix : Int))) (w.heap.size + 1) (three ix)) := ⟨HK2.out.z.other (by simp) _, hx3, HK2.out.lt, HK2.out.bel.setCell (by simp) _⟩
  clear HK2 hx3 hw8
  go_upto_region 6 with fail
  generalize w2.setCell ⟨w.heap.size + 1, 6, none⟩ (.int .u8 (ix : Int)) = w3 at *
  clear hc6 hf6 w2 w1
  have hlay := fun cc => vlay_any w3 (w.heap.size + 1) cc 151 [0, 0, 0, 0, 80, 71, UInt8.ofNat ix, 0] (List.replicate 244 0) [0, 0, 0, 0] no (by simp) HK3.out.x
  have HLAY : Hid (∀ cc, Calls Tryz.prog 197 #[.slice (some ⟨w.heap.size + 1, 8, none⟩) 4 cc, .int .u32 (no : Int)] w3 fun e w' => e = .returned (.tuple #[]) ∧ Hid (LP w w' (w.heap.size + 1) (atP no ix l 0))) := fun cc => (hlay cc).mono fun e w' hp => ⟨hp.1, HK3.out.apart hp.2.2 (by rw [← three_laid]; exact hp.2.1)⟩
  clear hlay HK3
  go_wp2_with (first
    | (go_at_call 197; (with_reducible refine (HLAY.out _).mono ?_); rintro e w4 ⟨rfl, h4⟩)
    | fail)
  clear HLAY
  go_loopw [33, 9, 10] (fun j a b wr => ∃ i : Nat, i ≤ l.length ∧ j = .int .i64 (i : Int) ∧ Hid (LP w wr (w.heap.size + 1) (atP no ix l i))) (fun j _ _ _ => l.length - (intOf j).toNat)
  case atStart => exact ⟨0, by omega, rfl, h4⟩
  case round =>
    obtain ⟨i, hi, rfl, HR⟩ := hrel
    rename_i wr
    clear h4
    by_cases hlt : i < l.length
    · have hltI : (i : Int) < (l.length : Int) := by omega
      obtain ⟨p, rfl, hp, hck⟩ := (HS.out.on HR.out.bel).num16 i hlt
      have hx16 : l.getD i 0 < 65536 := HF.out _ (by simp [List.getD, hlt])
      have hlay := fun cc => vlay_any wr (w.heap.size + 1) cc 151 ([0, 0, 0, 0] ++ (headP no ix ++ cntB l i)) (List.replicate (240 - 2 * (i + 1)) 0) (List.replicate 2 0) (l.getD i 0) (by simp) (by rw [← atP_split no ix l i (by omega)]; exact HR.out.x)
      have hln : ([0, 0, 0, 0] ++ (headP no ix ++ cntB l i)).length = 16 + 2 * i := by rw [List.length_append, bodyP_length]; simp; omega
      rw [hln, List.length_replicate, atP_next] at hlay
      have HLAY : Hid (∀ cc, Calls Tryz.prog 197 #[.slice (some ⟨w.heap.size + 1, 16 + 2 * i, none⟩) 2 cc, .int .u32 ((l.getD i 0 : Nat) : Int)] wr fun e w' => e = .returned (.tuple #[]) ∧ Hid (LP w w' (w.heap.size + 1) (atP no ix l (i + 1)))) := fun cc => (hlay cc).mono fun e w' hp => ⟨hp.1, HR.out.apart hp.2.2 hp.2.1⟩
      have HCI := Lib.hid (vcount_any wr (w.heap.size + 1) i (by omega))
      clear hlay hln
      generalize l.getD i 0 = x at *
      generalize 16 + 2 * i = q at *
      go_wp2_with (first
        | (go_at_call 198; (with_reducible refine HCI.out.mono ?_); rintro e w5 ⟨rfl, rfl⟩)
        | (go_at_call 197; (with_reducible refine (HLAY.out _).mono ?_); rintro e w6 ⟨rfl, h6⟩)
        | fail)
      go_roundw
      case rel => exact ⟨i + 1, by omega, by go_num, h6⟩
      case measure => simp [intOf]; omega
    · obtain rfl : i = l.length := by omega
      have hltI : ¬ (l.length : Int) < (l.length : Int) := by omega
      have hsm := (LP.below HR.out (Below.refl _ _).drew).sum hl hT
      have hs32 := sumB_lt (padB (headP no ix ++ cntB l l.length))
      have HIL := Lib.hid (imgP_length no ix l hl)
      generalize hSS : sumB (padB (headP no ix ++ cntB l l.length)) = S at *
      have HSM := Lib.hid hsm
      clear hsm hs32 hSS HF HS
      go_upto_region 12 with fail
      first | go_region_with (first
        | (go_at_call 199; (with_reducible refine HSM.out.mono ?_); rintro e w6 ⟨rfl, h6⟩)
        | (go_at_call 197; (with_reducible refine (h6.out _).mono ?_); rintro e w7 ⟨rfl, h7⟩)) | fail
      have hlt7 := h7.out.lt
      go_wp2_with (first
        | refine wpList_load_row rfl 151 (.tmp 8) rfl (w.heap.size + 1) rfl 151 (cells8 (imgP no ix l)).toArray (0, 0) _ h7.out.x Tryz.underlying151 rfl (by rw [blk_size, cells8_size, HIL.out]) ?_
        | refine wpList_store_row rfl 151 (.tmp 6) (.tmp 48) rfl w.heap.size (cells8 (imgP no ix l)).toArray rfl rfl 151 (cells8 noughts).toArray h7.out.z (by rw [blk_size, cells8_size, HIL.out]) (by rw [cells8_size, cells8_size, HIL.out, noughts_len]) (cells8_all _) ?_
        | fail)
      exact bodyPost_ret (results_cell_tmp rfl _ _ w.heap.size 151 (cells8 (imgP no ix l)).toArray (0, 0) _ (.int .i64 0) rfl rfl (h7.out.z.row (imgP no ix l)) Tryz.underlying151 rfl (by rw [blk_size, cells8_size, HIL.out])) rfl ⟨rfl, below_setRow h7.out.bel (by omega) _⟩
end Go.Proofs.YtoclhiaidbfheaaGreatDoor
end

section
set_option linter.unusedVariables false
namespace Go.Proofs.YtoclhiaidbfheaaGreatDoor
open Go.RowKit

/-- a block of memory holds counts -/
def Holds16 (w : World) (b : Nat) (t : TypeId) (l : List Nat) : Prop := w.heap[b]? = some (.cells (nums16 l).toArray t (0, 0))
theorem Holds16.cell {w : World} {b : Nat} {t : TypeId} {l : List Nat} (h : Holds16 w b t l) (i : Nat) (hi : i < l.length) : w.cell? ⟨b, i, none⟩ = some (.int .u16 ((l.getD i 0 : Nat) : Int)) := by
  rw [cell_of_row w b i _ _ _ h]
  simpa using nums16_get l i hi
theorem Holds16.frozen {w : World} {b : Nat} {t : TypeId} {l : List Nat} (h : Holds16 w b t l) (i : Nat) : w.frozen? ⟨b, i, none⟩ = false := by
  unfold Holds16 at h
  simp [World.frozen?, h]
theorem Holds16.set {w : World} {b : Nat} {t : TypeId} {l : List Nat} (h : Holds16 w b t l) (i : Nat) (c : Nat) : Holds16 (w.setCell ⟨b, i, none⟩ (.int .u16 (c : Int))) b t (l.set i c) := by
  unfold Holds16
  have e : (nums16 (l.set i c)).toArray = (nums16 l).toArray.setIfInBounds i (.int .u16 (c : Int)) := by simp [nums16, List.map_set]
  rw [e]
  exact Joins.block_setCell h _
theorem Holds16.other {w : World} {b : Nat} {t : TypeId} {l : List Nat} (h : Holds16 w b t l) {a : Addr} (ha : b ≠ a.block) (u : Value) : Holds16 (w.setCell a u) b t l := by
  unfold Holds16
  rw [Below.heap_setCell w a u b ha]
  exact h
theorem Holds16.new (w : World) (t : TypeId) (l : List Nat) : Holds16 (w.alloc (.cells (nums16 l).toArray t)) w.heap.size t l := heap_alloc_new w _
theorem Holds16.lt {w : World} {b : Nat} {t : TypeId} {l : List Nat} (h : Holds16 w b t l) : b < w.heap.size := (Array.getElem?_eq_some_iff.1 h).1
theorem Holds16.alloc {w : World} {b : Nat} {t : TypeId} {l : List Nat} (h : Holds16 w b t l) (o : Obj) : Holds16 (w.alloc o) b t l := by
  have hl := h.lt
  unfold Holds16 at *
  rw [Below.heap_alloc w o b hl]
  exact h
theorem Holds16.below {w w' : World} {b : Nat} {t : TypeId} {l : List Nat} (h : Holds16 w b t l) (hb : Below w.heap.size w w') : Holds16 w' b t l := (hb.block b h.lt).trans h
theorem Holds16.row {w : World} {b : Nat} {t : TypeId} {l : List Nat} (h : Holds16 w b t l) (m : List Nat) : Holds16 (w.setRow b (nums16 m).toArray) b t m := setRow_heap w b _ _ t _ h
theorem Holds16.shows {w : World} {b : Nat} {t : TypeId} {l : List Nat} (h : Holds16 w b t l) : Shows w w.heap.size (some ⟨b, 0, none⟩) l.length (nums16 l) := by
  refine ⟨nums16_length l, fun _ => ⟨_, rfl, h.lt, fun j u hu => ?_⟩⟩
  have ha : (⟨b, 0, none⟩ : Addr).add j = ⟨b, j, none⟩ := by
    unfold Addr.add
    by_cases hj0 : j = 0 <;> simp [hj0]
  rw [ha, cell_of_row w b j _ _ _ h]
  simpa using hu
theorem nums16_all (l : List Nat) : (nums16 l).toArray.all (·.oneCell') = true := by simp [nums16, Value.oneCell']
theorem nums16_size (l : List Nat) : (nums16 l).toArray.size = l.length := by simp [nums16]
def none16 : List Nat := List.replicate 120 0
theorem none16_len : none16.length = 120 := by rw [none16, List.length_replicate]
theorem pg_zero (w : World) : (zeroValue 309).run Tryz.prog w = .ok (.agg (nums16 none16).toArray) w := by kernel_rfl
theorem pg_size : (Tryz.prog.info? 309).map (·.size) = some 120 := by kernel_rfl
theorem or16 (x y : UInt8) : bits .or .u16 (x.toNat : Int) ((y.toNat : Int) * 256) = ((x.toNat + 256 * y.toNat : Nat) : Int) := by
  have hx := x.toNat_lt
  have hy := y.toNat_lt
  have e1 : ((y.toNat : Int) * 256) = ((256 * y.toNat : Nat) : Int) := by omega
  rw [e1, u16_or_nat _ _ (by omega) (by omega)]
  have := Nat.two_pow_add_eq_or_of_lt (i := 8) (b := x.toNat) (by omega) y.toNat
  rw [Nat.or_comm]
  congr 1
  rw [show (2 : Nat) ^ 8 = 256 by decide] at this
  omega
theorem two_at (l : List UInt8) (p : Nat) (h : p + 1 < l.length) : (l.drop p).take 2 = [l[p]'(by omega), l[p + 1]'h] := by
  rw [List.drop_eq_getElem_cons (by omega), List.drop_eq_getElem_cons h]
  rfl
theorem cntAt_two (l : List UInt8) (i : Nat) (h : 16 + 2 * i + 1 < l.length) : cntAt l i = (l[16 + 2 * i]'(by omega)).toNat + 256 * (l[16 + 2 * i + 1]'h).toNat := by
  rw [cntAt, two_at l _ h]
  simp [numN]

/-- the boxes of read -/
structure RP (w W : World) (z : List Nat) (x : List UInt8) (l : List Nat) : Prop where
  x : Holds8 W w.heap.size 151 x
  z : Holds16 W (w.heap.size + 1) 309 z
  p : Holds16 W (w.heap.size + 1 + 1) 309 l
  bel : Below w.heap.size w W
set_option maxRecDepth 20000 in
set_option maxHeartbeats 4000000 in
theorem vread_any (w : World) (x : List UInt8) (hx : x.length = 256) : Calls Tryz.prog 234 #[.agg (cells8 x).toArray] w fun e w' => e = .returned (.agg (nums16 (cntOf x 120)).toArray) ∧ Below w.heap.size w w' := by
  have hz := pg_zero
  have h1 := ((Holds8.new w 151 x _ rfl).alloc (.cells (nums16 none16).toArray 309)).alloc (.cells (nums16 none16).toArray 309)
  have h2 := (Holds16.new (w.alloc (.cells (cells8 x).toArray 151)) 309 none16).alloc (.cells (nums16 none16).toArray 309)
  have h3 := Holds16.new ((w.alloc (.cells (cells8 x).toArray 151)).alloc (.cells (nums16 none16).toArray 309)) 309 none16
  have h4 := (((Below.refl w.heap.size w).alloc (Nat.le_refl _) (.cells (cells8 x).toArray 151)).alloc (by simp) (.cells (nums16 none16).toArray 309)).alloc (by simp; omega) (.cells (nums16 none16).toArray 309)
  simp only [World.size_alloc] at h2 h3
  have H0 : Hid (RP w (((w.alloc (.cells (cells8 x).toArray 151)).alloc (.cells (nums16 none16).toArray 309)).alloc (.cells (nums16 none16).toArray 309)) none16 x (cntTo x 0)) := ⟨h1, h2, h3, h4⟩
  have HX := Lib.hid hx
  have HN := Lib.hid none16_len
  clear h1 h2 h3 h4 hx
  generalize none16 = z at *
  go_enter Tryz.func234, Tryz.ntmps234
  go_wp2
  go_loopw [6, 4, 5] (fun j a b wr => ∃ i : Nat, i ≤ 120 ∧ j = .int .i64 (i : Int) ∧ Hid (RP w wr z x (cntTo x i))) (fun j _ _ _ => 120 - (intOf j).toNat)
  case atStart => exact ⟨0, by omega, rfl, H0⟩
  case round =>
    obtain ⟨i, hi, rfl, HR⟩ := hrel
    rename_i wr
    clear H0
    by_cases hlt : i < 120
    · have hltI : (i : Int) < 120 := by omega
      have HCI := Lib.hid (vcount_any wr w.heap.size i hlt)
      have c0 := HR.out.x.cell (16 + 2 * i) (by rw [HX.out]; omega)
      have c1 := HR.out.x.cell (16 + 2 * i + 1) (by rw [HX.out]; omega)
      have c2 := HR.out.p.cell i (by rw [cntTo_length x i hi]; exact hlt)
      have f2 := HR.out.p.frozen i
      have hcn := cntAt_two x i (by rw [HX.out]; omega)
      have hor := or16 (x[16 + 2 * i]'(by rw [HX.out]; omega)) (x[16 + 2 * i + 1]'(by rw [HX.out]; omega))
      rw [← hcn] at hor
      have hp := HR.out.p.set i (cntAt x i)
      rw [cntTo_set x i hlt] at hp
      have HP : Hid (RP w ((wr.setCell ⟨w.heap.size + 1 + 1, i, none⟩ (.int .u16 ((cntAt x i : Nat) : Int))).drew) z x (cntTo x (i + 1))) := ⟨HR.out.x.other (by simp; omega) _, HR.out.z.other (by simp) _, hp, (HR.out.bel.setCell (by simp; omega) _).drew⟩
      have hb0 := (x[16 + 2 * i]'(by rw [HX.out]; omega)).toNat_lt
      have hb1 := (x[16 + 2 * i + 1]'(by rw [HX.out]; omega)).toNat_lt
      clear hp hcn HR
      generalize cntAt x i = v at *
      generalize (x[16 + 2 * i]'_).toNat = b0 at *
      generalize (x[16 + 2 * i + 1]'_).toNat = b1 at *
      generalize 16 + 2 * i = q at *
      go_wp2_with (first
        | (go_at_call 198; (with_reducible refine HCI.out.mono ?_); rintro e w5 ⟨rfl, rfl⟩)
        | fail)
      first
        | go_region
        | fail
      go_wp2
      go_roundw
      case rel => exact ⟨i + 1, by omega, by go_num, HP⟩
      case measure => simp [intOf]; omega
    · obtain rfl : i = 120 := by omega
      have hltI : ¬ (120 : Int) < (120 : Int) := by omega
      have hr := HR.out
      rw [cntTo_all] at hr
      have HR := Lib.hid hr
      have HCL := Lib.hid (cntOf_length x 120)
      clear hr
      generalize hy : cntOf x 120 = y at *
      have HY := Lib.hid hy
      clear hy
      go_wp2_with (first
        | refine wpList_load_row rfl 309 (.tmp 3) rfl (w.heap.size + 1 + 1) rfl 309 (nums16 y).toArray (0, 0) _ HR.out.p Tryz.underlying309 rfl (by rw [pg_size, nums16_size, HCL.out]) ?_
        | refine wpList_store_row rfl 309 (.tmp 2) (.tmp 24) rfl (w.heap.size + 1) (nums16 y).toArray rfl rfl 309 (nums16 z).toArray HR.out.z (by rw [pg_size, nums16_size, HCL.out]) (by rw [nums16_size, nums16_size, HCL.out, HN.out]) (nums16_all _) ?_
        | fail)
      exact bodyPost_ret (results_cell_row rfl _ _ (w.heap.size + 1) 309 (nums16 y).toArray (0, 0) _ rfl (HR.out.z.row y) Tryz.underlying309 rfl (by rw [pg_size, nums16_size, HCL.out])) rfl ⟨by rw [HY.out], below_setRow HR.out.bel (by simp) _⟩
end Go.Proofs.YtoclhiaidbfheaaGreatDoor
end

section
set_option linter.unusedVariables false
namespace Go.Proofs.YtoclhiaidbfheaaGreatDoor
open Go.RowKit

/-- may a page have this index, so many counts? -/
def okP (ix : Int) (n : Nat) : Bool := decide (0 ≤ ix ∧ ix ≤ 255 ∧ n ≤ 120)
theorem okP_yes {ix : Int} {n : Nat} (h : okP ix n = true) : 0 ≤ ix ∧ ix ≤ 255 ∧ n ≤ 120 := of_decide_eq_true h
theorem okP_no {ix : Int} {n : Nat} (h : okP ix n = false) : ¬ (0 ≤ ix ∧ ix ≤ 255 ∧ n ≤ 120) := of_decide_eq_false h
def blkR (r : Bool) (X : List UInt8) : List UInt8 := match r with | true => X | false => noughts
def errR (r : Bool) : Int := match r with | true => 0 | false => 2
theorem blkR_len (r : Bool) (X : List UInt8) (h : r = true → X.length = 256) : (blkR r X).length = 256 := by
  cases r with
  | true => exact h rfl
  | false => exact noughts_len
/-- which list, if any -/
def pickL (b : Bool) (l : List Nat) : Option (List Nat) := match b with | true => some l | false => none
def errO (r q : Bool) : Int := match r, q with | false, _ => 2 | true, true => 0 | true, false => 4

set_option maxHeartbeats 1000000 in
set_option maxRecDepth 10000 in
theorem vblock_bad (w : World) (no : Nat) (ix : Int) (n : Nat) (A : Option Addr) (c : Nat) (h : okP ix n = false) :
    Calls Tryz.prog 143 #[.int .u32 (no : Int), .int .i64 ix, .slice A n c] w fun e w' => e = .returned (.tuple #[.agg (cells8 noughts).toArray, .int .i64 2]) ∧ Below w.heap.size w w' := by
  have hz := blk_zero
  have hcs := cells8_size noughts
  have hl := noughts_len
  have hb0 := (Below.refl w.heap.size w).alloc (Nat.le_refl _) (.cells (cells8 noughts).toArray 151)
  have g0 := Holds8.new w 151 noughts _ rfl
  have HB := Lib.hid hb0
  have HG : Hid (Holds8 (w.alloc (.cells (cells8 noughts).toArray 151)) w.heap.size 151 noughts) := g0
  have hno := okP_no h
  clear hb0 g0 h
  generalize hnz : noughts = z at *
  have HL := Lib.hid hl
  have HCS := Lib.hid hcs
  clear hnz hl hcs
  by_cases h1 : ix < 0
  · clear hno
    go_enter Tryz.func143, Tryz.ntmps143
    go_wp2_with (first
      | refine wpList_store_row rfl 151 (.tmp 6) (.tmp 22) rfl w.heap.size (cells8 z).toArray rfl rfl 151 (cells8 z).toArray HG.out (by rw [blk_size, HCS.out, HL.out]) rfl (cells8_all _) ?_
      | fail)
    exact bodyPost_ret (results_cell_tmp rfl _ _ w.heap.size 151 (cells8 z).toArray (0, 0) _ (.int .i64 2) rfl rfl (HG.out.row z) Tryz.underlying151 rfl (by rw [blk_size, HCS.out, HL.out])) rfl ⟨rfl, below_setRow HB.out (by simp) _⟩
  by_cases h2 : 255 < ix
  · have h1' : 0 ≤ ix := by omega
    clear hno
    go_enter Tryz.func143, Tryz.ntmps143
    go_wp2_with (first
      | refine wpList_store_row rfl 151 (.tmp 6) (.tmp 22) rfl w.heap.size (cells8 z).toArray rfl rfl 151 (cells8 z).toArray HG.out (by rw [blk_size, HCS.out, HL.out]) rfl (cells8_all _) ?_
      | fail)
    exact bodyPost_ret (results_cell_tmp rfl _ _ w.heap.size 151 (cells8 z).toArray (0, 0) _ (.int .i64 2) rfl rfl (HG.out.row z) Tryz.underlying151 rfl (by rw [blk_size, HCS.out, HL.out])) rfl ⟨rfl, below_setRow HB.out (by simp) _⟩
  have h1' : 0 ≤ ix := by omega
  have h2' : ix ≤ 255 := by omega
  have h3 : (120 : Int) < (n : Int) := by omega
  clear hno
  go_enter Tryz.func143, Tryz.ntmps143
  go_wp2_with (first
    | refine wpList_store_row rfl 151 (.tmp 6) (.tmp 22) rfl w.heap.size (cells8 z).toArray rfl rfl 151 (cells8 z).toArray HG.out (by rw [blk_size, HCS.out, HL.out]) rfl (cells8_all _) ?_
    | fail)
  exact bodyPost_ret (results_cell_tmp rfl _ _ w.heap.size 151 (cells8 z).toArray (0, 0) _ (.int .i64 2) rfl rfl (HG.out.row z) Tryz.underlying151 rfl (by rw [blk_size, HCS.out, HL.out])) rfl ⟨rfl, below_setRow HB.out (by simp) _⟩

theorem vblock_any (w : World) (hT : Tabs w) (no : Nat) (ix : Int) (hno : no < 4294967296) (l : List Nat) (hf : ∀ k ∈ l, k < 65536) (A : Option Addr) (c : Nat) (hs : Shows w w.heap.size A l.length (nums16 l)) :
    Calls Tryz.prog 143 #[.int .u32 (no : Int), .int .i64 ix, .slice A l.length c] w fun e w' => e = .returned (.tuple #[.agg (cells8 (blkR (okP ix l.length) (imgP no ix.toNat l))).toArray, .int .i64 (errR (okP ix l.length))]) ∧ Below w.heap.size w w' := by
  cases hm : okP ix l.length with
  | true =>
    obtain ⟨h1, h2, h3⟩ := okP_yes hm
    obtain ⟨i, rfl⟩ := Int.eq_ofNat_of_zero_le h1
    exact vblock_ok w hT no i hno (by omega) l h3 hf A c hs
  | false => exact vblock_bad w no ix l.length A c hm
theorem store_pg (w : World) (old new : List Nat) (ho : old.length = 120) (hn : new.length = 120) : (storeCells ⟨w.heap.size, 0, none⟩ (nums16 new)).run Tryz.prog (w.alloc (.cells (nums16 old).toArray 309)) = .ok () (w.alloc (.cells (nums16 new).toArray 309)) := by
  have := run_storeCells_new (P := Tryz.prog) w 309 (nums16 old).toArray (nums16 new).toArray (by rw [pg_size, nums16_size, hn]) (by rw [nums16_size, nums16_size, ho, hn]) (nums16_all _)
  simpa using this

/-- what page.Of answers -/
def VOfAs (w : World) (r q : Bool) (l : List Nat) (e : Ending) (w' : World) : Prop :=
  Below w.heap.size w w' ∧ match r, q with
    | true, true => ∃ A c, e = .returned (.tuple #[.slice A 120 c, .int .i64 0]) ∧ Shows w' w'.heap.size A 120 (nums16 l)
    | r, q => e = .returned (.tuple #[.slice none 0 0, .int .i64 (errO r q)])

set_option maxRecDepth 10000 in
set_option maxHeartbeats 2000000 in
theorem vof_any (w : World) (hT : Tabs w) (no : Nat) (hno : no < 4294967296) (ix : Int) (x : List UInt8) (hx : x.length = 256) :
    Calls Tryz.prog 203 #[.int .u32 (no : Int), .int .i64 ix, .agg (cells8 x).toArray] w (VOfAs w (okP ix 120) (blkR (okP ix 120) (imgP no ix.toNat (cntOf x 120)) == x) (cntOf x 120)) := by
  have h5 : Holds8 (w.alloc (.cells (cells8 x).toArray 151)) w.heap.size 151 x := Holds8.new w _ x _ rfl
  have H5 := Lib.hid h5
  have HB0 := Lib.hid ((Below.refl w.heap.size w).alloc (Nat.le_refl _) (.cells (cells8 x).toArray 151))
  have HRD := Lib.hid (vread_any (w.alloc (.cells (cells8 x).toArray 151)) x hx)
  have HLS : Hid ((cells8 x).toArray.size = 256) := (cells8_size x).trans hx
  have hlc := cntOf_length x 120
  have hfc := cntOf_lt x 120
  have HX := Lib.hid hx
  clear h5 hx
  generalize hcl : cntOf x 120 = l at *
  have hbb := fun W hTW A c hs => vblock_any W hTW no ix hno l hfc A c hs
  rw [hlc] at hbb
  have hXl : (blkR (okP ix 120) (imgP no ix.toNat l)).length = 256 := blkR_len _ _ fun _ => imgP_length no ix.toNat l (by omega)
  generalize hr : okP ix 120 = r at *
  generalize hX : blkR r (imgP no ix.toNat l) = X at *
  have HBB := Lib.hid hbb
  have hneq := fun w => neq_blk X x hXl HX.out w
  have hst := fun w => store_blk w noughts X noughts_len hXl
  have hsp := fun w => store_pg w none16 l none16_len hlc
  have HXS : Hid ((cells8 X).toArray.size = 256) := (cells8_size X).trans hXl
  have HLC := Lib.hid hlc
  have HT := Lib.hid hT
  have hz := blk_zero
  have hz2 := pg_zero
  have hcs := HXS.out
  have hcs2 := noughts_len
  have hcs3 := cells8_size noughts
  have hcs4 := none16_len
  have hcs5 := nums16_size none16
  have hcs6 : (nums16 l).toArray.size = 120 := (nums16_size l).trans HLC.out
  clear hbb hfc hlc hXl hT hr hX hcl
  generalize noughts = z at *
  generalize none16 = z16 at *
  generalize (X == x) = q at *
  go_enter Tryz.func203, Tryz.ntmps203
  go_wp2_with (first
    | refine wpList_load_row rfl 151 (.tmp 5) rfl w.heap.size rfl 151 (cells8 x).toArray (0, 0) _ H5.out Tryz.underlying151 rfl (by rw [blk_size, HLS.out]) ?_
    | fail)
  (with_reducible refine HRD.out.mono ?_)
  rintro e w1 ⟨rfl, hb1⟩
  have hb01 := HB0.out.trans (hb1.mono HB0.out.size)
  have HL1 : Hid (Holds8 w1 w.heap.size 151 x) := H5.out.below hb1
  have hpn : Holds16 (w1.alloc (.cells (nums16 l).toArray 309)) w1.heap.size 309 l := Holds16.new w1 _ l
  have hb2 := (Below.refl w1.heap.size w1).alloc (Nat.le_refl _) (.cells (nums16 l).toArray 309)
  have hbw2 := hb01.trans (hb2.mono hb01.size)
  have hsh := hpn.shows
  rw [HLC.out] at hsh
  have hbk := HBB.out _ (HT.out.below hbw2 HT.out.size) (some ⟨w1.heap.size, 0, none⟩) 120 hsh
  have HPN := Lib.hid hpn
  have HB1 := Lib.hid hb01
  have HLT : Hid (w.heap.size < w1.heap.size) := HL1.out.lt
  have HB2 := Lib.hid hb2
  clear hb1 hb01 hpn hb2 hbw2 hsh HBB HRD
  cases r with
  | false =>
    rw [show errR false = 2 from rfl] at hbk
    have HBK := Lib.hid hbk
    clear hbk
    go_wp2_with fail
    (with_reducible refine HBK.out.mono ?_)
    rintro e w3 ⟨rfl, hb3⟩
    go_wp2_with fail
    go_ret2
    have hb23 := HB2.out.trans (hb3.mono HB2.out.size)
    have hbe := (HB1.out.trans (hb23.mono HB1.out.size)).alloc (by have := HLT.out; have := hb23.size; omega) (.cells (cells8 X).toArray 151)
    exact ⟨hbe, rfl⟩
  | true =>
    rw [show errR true = 0 from rfl] at hbk
    have HBK := Lib.hid hbk
    clear hbk
    go_wp2_with fail
    (with_reducible refine HBK.out.mono ?_)
    rintro e w3 ⟨rfl, hb3⟩
    have hb23 := HB2.out.trans (hb3.mono HB2.out.size)
    have HBE := Lib.hid ((HB1.out.trans (hb23.mono HB1.out.size)).alloc (by have := HLT.out; have := hb23.size; omega) (.cells (cells8 X).toArray 151))
    have HL3 : Hid (Holds8 (w3.alloc (.cells (cells8 X).toArray 151)) w.heap.size 151 x) := (HL1.out.below hb23).alloc _
    have HX3 : Hid (Holds8 (w3.alloc (.cells (cells8 X).toArray 151)) w3.heap.size 151 X) := Holds8.new w3 _ X _ rfl
    have HP3 : Hid (Holds16 (w3.alloc (.cells (cells8 X).toArray 151)) w1.heap.size 309 l) := (HPN.out.below hb3).alloc _
    clear hb23 hb3
    cases q with
    | true =>
      have hneq2 : ∀ (w : World), (binOp .neq 151 (.agg (cells8 X).toArray) (.agg (cells8 x).toArray)).run Tryz.prog w = .ok (.bool false) w := hneq
      clear hneq
      go_wp2_with fail
      refine wp_load_row 151 (.tmp 9) rfl w3.heap.size rfl 151 (cells8 X).toArray (0, 0) _ HX3.out Tryz.underlying151 rfl (by rw [blk_size, HXS.out]) ?_
      go_wp2_with fail
      refine wp_load_row 151 (.tmp 5) rfl w.heap.size rfl 151 (cells8 x).toArray (0, 0) _ HL3.out Tryz.underlying151 rfl (by rw [blk_size, HLS.out]) ?_
      go_wp2_with fail
      go_ret2
      have hsh := HP3.out.shows
      rw [HLC.out] at hsh
      exact ⟨HBE.out, _, _, rfl, hsh⟩
    | false =>
      have hneq2 : ∀ (w : World), (binOp .neq 151 (.agg (cells8 X).toArray) (.agg (cells8 x).toArray)).run Tryz.prog w = .ok (.bool true) w := hneq
      clear hneq
      go_wp2_with fail
      refine wp_load_row 151 (.tmp 9) rfl w3.heap.size rfl 151 (cells8 X).toArray (0, 0) _ HX3.out Tryz.underlying151 rfl (by rw [blk_size, HXS.out]) ?_
      go_wp2_with fail
      refine wp_load_row 151 (.tmp 5) rfl w.heap.size rfl 151 (cells8 x).toArray (0, 0) _ HL3.out Tryz.underlying151 rfl (by rw [blk_size, HLS.out]) ?_
      go_wp2_with fail
      go_ret2
      exact ⟨HBE.out, rfl⟩
end Go.Proofs.YtoclhiaidbfheaaGreatDoor
end
