/- page's Block. -/
import Derived.Test.YtojbajbghldoeaaDoorVb
import Derived.Deep.RegionWith
import Derived.Deep.DeepCutAuto
set_option linter.unusedVariables false
namespace Go.Proofs.YtojbajbghldoeaaDoor
open Go.RowKit

/-- the boxes of Block -/
structure LP (w W : World) (bb : Nat) (x : List UInt8) : Prop where
  z : Holds8 W w.heap.size 29 noughts
  x : Holds8 W bb 29 x
  lt : w.heap.size < bb
  bel : Below w.heap.size w W
theorem LP.below {w W W' : World} {bb : Nat} {x : List UInt8} (h : LP w W bb x) (hb : Below W.heap.size W W') : LP w W' bb x :=
  ⟨h.z.below hb, h.x.below hb, h.lt, h.bel.trans (hb.mono h.bel.size)⟩
theorem LP.apart {w W W' : World} {bb : Nat} {x y : List UInt8} (h : LP w W bb x) (ha : Apart2 W W' bb bb) (hx : Holds8 W' bb 29 y) : LP w W' bb y :=
  ⟨(ha.block _ (by have := h.lt; omega) (by have := h.lt; omega)).trans h.z, hx, h.lt, h.bel.trans (ha.below (by have := h.lt; omega) (by have := h.lt; omega))⟩
/-- the block, so many counts laid -/
def atP (no ix : Nat) (l : List Nat) (i : Nat) : List UInt8 := [0, 0, 0, 0] ++ (headP no ix ++ cntB l i) ++ List.replicate (240 - 2 * i) 0
theorem atP_split (no ix : Nat) (l : List Nat) (i : Nat) (h : i < 120) : atP no ix l i = ([0, 0, 0, 0] ++ (headP no ix ++ cntB l i)) ++ (List.replicate 2 0 ++ List.replicate (240 - 2 * (i + 1)) 0) := by
  rw [List.replicate_append_replicate, show 2 + (240 - 2 * (i + 1)) = 240 - 2 * i by omega]
  rfl
theorem atP_next (no ix : Nat) (l : List Nat) (i : Nat) : ([0, 0, 0, 0] ++ (headP no ix ++ cntB l i)) ++ (leN 2 (l.getD i 0) ++ List.replicate (240 - 2 * (i + 1)) 0) = atP no ix l (i + 1) := by
  simp only [atP, cntB, List.append_assoc]
theorem atP_end (no ix : Nat) (l : List Nat) (i : Nat) : atP no ix l i = [] ++ ([0, 0, 0, 0] ++ padB (headP no ix ++ cntB l i)) := by
  rw [atP, padB, bodyP_length, show 252 - (12 + 2 * i) = 240 - 2 * i by omega]
  simp only [List.append_assoc, List.nil_append]
def two : List UInt8 := [0, 0, 0, 0, 80, 71] ++ List.replicate 250 0
def three (ix : Nat) : List UInt8 := [0, 0, 0, 0, 80, 71, UInt8.ofNat ix, 0] ++ ([0, 0, 0, 0] ++ List.replicate 244 0)
theorem three_of (ix : Nat) : two.set 6 (UInt8.ofNat ix) = three ix := rfl
set_option maxRecDepth 100000 in
theorem three_laid (no ix : Nat) (l : List Nat) : [0, 0, 0, 0, 80, 71, UInt8.ofNat ix, 0] ++ (leN 4 no ++ List.replicate 244 0) = atP no ix l 0 := rfl
set_option maxRecDepth 100000 in
theorem two_row : ((cells8 noughts).toArray.toList.take 4 ++ Lib.byteCells [80, 71] ++ (cells8 noughts).toArray.toList.drop 6) = cells8 two := by rfl
theorem LP.sum {w W : World} {bb : Nat} {no ix : Nat} {l : List Nat} (h : LP w W bb (atP no ix l l.length)) (hl : l.length ≤ 120) (hT : Tabs w) :
    Calls Tryd.prog 46 #[.slice (some ⟨bb, 4, none⟩) 252 252] W fun e w' => e = .returned (.int .u32 ((sumB (padB (headP no ix ++ cntB l l.length)) : Nat) : Int)) ∧
      Hid (∀ (cc : Nat), Calls Tryd.prog 70 #[.slice (some ⟨bb, 0, none⟩) 4 cc, .int .u32 ((sumB (padB (headP no ix ++ cntB l l.length)) : Nat) : Int)] w' fun e w2 => e = .returned (.tuple #[]) ∧ Hid (LP w w2 bb (imgP no ix l))) := by
  have hx := h.x
  rw [atP_end] at hx
  have hp := padB_length (headP no ix ++ cntB l l.length) (by rw [bodyP_length]; omega)
  have hx0 : Holds8 W bb 29 ([0, 0, 0, 0] ++ padB (headP no ix ++ cntB l l.length)) := hx
  have hsh : Shows W W.heap.size (some ⟨bb, 4, none⟩) (padB (headP no ix ++ cntB l l.length)).length (cells8 (padB (headP no ix ++ cntB l l.length))) := by
    have := hx0.shows.from_ (k := 4) (cap := 256) (by simp) (by simp [hp])
    rw [if_neg (by omega), ← cells8_drop] at this
    simpa [Addr.add] using this
  have hsum := sum_any W.heap.size (some ⟨bb, 4, none⟩) 252 (padB (headP no ix ++ cntB l l.length)) W (hT.below h.bel hT.size) hsh (Nat.le_refl _) (by omega)
  rw [hp] at hsum
  refine hsum.mono fun e w' hq => ⟨hq.1, fun cc => ?_⟩
  have h2 := h.below hq.2
  have hx2 := h2.x
  rw [atP_end] at hx2
  exact (vlay_any w' bb cc 29 [] (padB (headP no ix ++ cntB l l.length)) [0, 0, 0, 0] _ (by simp) hx2).mono fun e w2 hq2 => ⟨hq2.1, h2.apart hq2.2.2 hq2.2.1⟩

set_option maxRecDepth 10000 in
set_option maxHeartbeats 4000000 in
theorem vblock_ok (w : World) (hT : Tabs w) (no ix : Nat) (hno : no < 4294967296) (hix : ix ≤ 255) (l : List Nat) (hl : l.length ≤ 120) (hf : ∀ k ∈ l, k < 65536) (A : Option Addr) (c : Nat) (hs : Shows w w.heap.size A l.length (nums16 l)) :
    Calls Tryd.prog 39 #[.int .u32 (no : Int), .int .i64 (ix : Int), .slice A l.length c] w fun e w' => e = .returned (.tuple #[.agg (cells8 (imgP no ix l)).toArray, .int .i64 0]) ∧ Below w.heap.size w w' := by
  have hz := blk_zero
  have HS := Lib.hid hs
  have HF := Lib.hid hf
  have HCS : Hid ((cells8 noughts).toArray.size = 256) := (cells8_size _).trans noughts_len
  have h1 := ((Below.refl w.heap.size w).alloc (Nat.le_refl _) (.cells (cells8 noughts).toArray 29)).alloc (by simp) (.cells (cells8 noughts).toArray 29)
  have h2 := (Holds8.new w 29 noughts _ rfl).alloc (.cells (cells8 noughts).toArray 29)
  have h3 := Holds8.new (w.alloc (.cells (cells8 noughts).toArray 29)) 29 noughts _ rfl
  simp only [World.size_alloc] at h3
  have HK : Hid (LP w ((w.alloc (.cells (cells8 noughts).toArray 29)).alloc (.cells (cells8 noughts).toArray 29)) (w.heap.size + 1) noughts) := ⟨h2, h3, by omega, h1⟩
  clear hs hf h1 h2 h3
  have hrow := two_row
  have hnn : noughts = noughts := rfl
  generalize hnz : noughts = z at hz HCS HK hrow
  have HNZ := Lib.hid hnz
  clear hnz hnn
  have hlI : ¬ (120 : Int) < (l.length : Int) := by omega
  have hixI : ¬ (255 : Int) < (ix : Int) := by omega
  go_enter Tryd.func39, Tryd.ntmps39
  go_upto_region 4 with fail
  generalize hw1 : (w.alloc (.cells (cells8 z).toArray 29)).alloc (.cells (cells8 z).toArray 29) = w1 at *
  have hcp : (Builtin.copy_ #[61, 9] 3 #[.slice (some ⟨w.heap.size + 1, 4, none⟩) 2 252, .string ⟨#[80, 71]⟩]).run Tryd.prog w1 = .ok (.int .i64 2) (w1.setRow (w.heap.size + 1) (cells8 two).toArray) := by
    have h := Lib.run_copy_row_string (P := Tryd.prog) (ty := 3) w1 61 9 5 (w.heap.size + 1) 4 2 252 ⟨#[80, 71]⟩ (cells8 z).toArray 29 Tryd.underlying61 (by kernel_rfl) HK.out.x (by decide) (by rw [HCS.out]; decide)
    exact h.trans (congrArg (fun r : List Value => Result.ok (Value.int .i64 2) (w1.setRow (w.heap.size + 1) r.toArray)) hrow)
  have HK2 : Hid (LP w (w1.setRow (w.heap.size + 1) (cells8 two).toArray) (w.heap.size + 1) two) := ⟨by have h := HK.out.z; unfold Holds8 at *; rw [setRow_other _ _ _ _ (by omega)]; exact h, HK.out.x.row _, HK.out.lt, below_setRow HK.out.bel (by omega) _⟩
  clear HK hrow hw1
  go_upto_region 5 with fail
  clear hcp hz
  generalize w1.setRow (w.heap.size + 1) (cells8 two).toArray = w2 at *
  have hc6 : w2.cell? ⟨w.heap.size + 1, 6, none⟩ = some (.int .u8 0) := HK2.out.x.cell 6 (by decide)
  have hf6 := HK2.out.x.frozen 6
  have hw8 : ((UInt8.ofNat ix).toNat : Int) = (ix : Int) := by rw [UInt8.toNat_ofNat']; omega
  have hx3 := HK2.out.x.set 6 (UInt8.ofNat ix)
  rw [three_of, hw8] at hx3
  have HK3 : Hid (LP w (w2.setCell ⟨w.heap.size + 1, 6, none⟩ (.int .u8 (ix : Int))) (w.heap.size + 1) (three ix)) := ⟨HK2.out.z.other (by simp) _, hx3, HK2.out.lt, HK2.out.bel.setCell (by simp) _⟩
  clear HK2 hx3 hw8
  go_upto_region 6 with fail
  generalize w2.setCell ⟨w.heap.size + 1, 6, none⟩ (.int .u8 (ix : Int)) = w3 at *
  clear hc6 hf6 w2 w1
  have hlay := fun cc => vlay_any w3 (w.heap.size + 1) cc 29 [0, 0, 0, 0, 80, 71, UInt8.ofNat ix, 0] (List.replicate 244 0) [0, 0, 0, 0] no (by simp) HK3.out.x
  have HLAY : Hid (∀ cc, Calls Tryd.prog 70 #[.slice (some ⟨w.heap.size + 1, 8, none⟩) 4 cc, .int .u32 (no : Int)] w3 fun e w' => e = .returned (.tuple #[]) ∧ Hid (LP w w' (w.heap.size + 1) (atP no ix l 0))) := fun cc => (hlay cc).mono fun e w' hp => ⟨hp.1, HK3.out.apart hp.2.2 (by rw [← three_laid]; exact hp.2.1)⟩
  clear hlay HK3
  go_wp2_with (first
    | (go_at_call 70; (with_reducible refine (HLAY.out _).mono ?_); rintro e w4 ⟨rfl, h4⟩)
    | fail)
  clear HLAY
  go_loopw [33, 9, 10] (fun j a b wr => ∃ i : Nat, i ≤ l.length ∧ j = .int .i64 (i : Int) ∧ Hid (LP w wr (w.heap.size + 1) (atP no ix l i))) (fun j _ _ _ => l.length - (intOf j).toNat)
  case atStart => exact ⟨0, by omega, rfl, h4⟩
  case round =>
    obtain ⟨i, hi, rfl, HR⟩ := hrel
    rename_i wr
    clear h4
    by_cases hlt : i < l.length
    · have hltI : (i : Int) < (l.length : Int) := by omega
      obtain ⟨p, rfl, hp, hck⟩ := (HS.out.on HR.out.bel).num16 i hlt
      have hx16 : l.getD i 0 < 65536 := HF.out _ (by simp [List.getD, hlt])
      have hlay := fun cc => vlay_any wr (w.heap.size + 1) cc 29 ([0, 0, 0, 0] ++ (headP no ix ++ cntB l i)) (List.replicate (240 - 2 * (i + 1)) 0) (List.replicate 2 0) (l.getD i 0) (by simp) (by rw [← atP_split no ix l i (by omega)]; exact HR.out.x)
      have hln : ([0, 0, 0, 0] ++ (headP no ix ++ cntB l i)).length = 16 + 2 * i := by rw [List.length_append, bodyP_length]; simp; omega
      rw [hln, List.length_replicate, atP_next] at hlay
      have HLAY : Hid (∀ cc, Calls Tryd.prog 70 #[.slice (some ⟨w.heap.size + 1, 16 + 2 * i, none⟩) 2 cc, .int .u32 ((l.getD i 0 : Nat) : Int)] wr fun e w' => e = .returned (.tuple #[]) ∧ Hid (LP w w' (w.heap.size + 1) (atP no ix l (i + 1)))) := fun cc => (hlay cc).mono fun e w' hp => ⟨hp.1, HR.out.apart hp.2.2 hp.2.1⟩
      have HCI := Lib.hid (vcount_any wr (w.heap.size + 1) i (by omega))
      clear hlay hln
      generalize l.getD i 0 = x at *
      generalize 16 + 2 * i = q at *
      go_wp2_with (first
        | (go_at_call 71; (with_reducible refine HCI.out.mono ?_); rintro e w5 ⟨rfl, rfl⟩)
        | (go_at_call 70; (with_reducible refine (HLAY.out _).mono ?_); rintro e w6 ⟨rfl, h6⟩)
        | fail)
      go_roundw
      case rel => exact ⟨i + 1, by omega, by go_num, h6⟩
      case measure => simp [intOf]; omega
    · obtain rfl : i = l.length := by omega
      have hltI : ¬ (l.length : Int) < (l.length : Int) := by omega
      have hsm := (LP.below HR.out (Below.refl _ _).drew).sum hl hT
      have hs32 := sumB_lt (padB (headP no ix ++ cntB l l.length))
      have HIL := Lib.hid (imgP_length no ix l hl)
      generalize hSS : sumB (padB (headP no ix ++ cntB l l.length)) = S at *
      have HSM := Lib.hid hsm
      clear hsm hs32 hSS HF HS
      go_upto_region 12 with fail
      first | go_region_with (first
        | (go_at_call 46; (with_reducible refine HSM.out.mono ?_); rintro e w6 ⟨rfl, h6⟩)
        | (go_at_call 70; (with_reducible refine (h6.out _).mono ?_); rintro e w7 ⟨rfl, h7⟩)) | fail
      have hlt7 := h7.out.lt
      go_wp2_with (first
        | refine wpList_load_row rfl 29 (.tmp 8) rfl (w.heap.size + 1) rfl 29 (cells8 (imgP no ix l)).toArray (0, 0) _ h7.out.x Tryd.underlying29 rfl (by rw [blk_size, cells8_size, HIL.out]) ?_
        | refine wpList_store_row rfl 29 (.tmp 6) (.tmp 48) rfl w.heap.size (cells8 (imgP no ix l)).toArray rfl rfl 29 (cells8 noughts).toArray h7.out.z (by rw [blk_size, cells8_size, HIL.out]) (by rw [cells8_size, cells8_size, HIL.out, noughts_len]) (cells8_all _) ?_
        | fail)
      exact bodyPost_ret (results_cell_tmp rfl _ _ w.heap.size 29 (cells8 (imgP no ix l)).toArray (0, 0) _ (.int .i64 0) rfl rfl (h7.out.z.row (imgP no ix l)) Tryd.underlying29 rfl (by rw [blk_size, cells8_size, HIL.out])) rfl ⟨rfl, below_setRow h7.out.bel (by omega) _⟩
end Go.Proofs.YtojbajbghldoeaaDoor
