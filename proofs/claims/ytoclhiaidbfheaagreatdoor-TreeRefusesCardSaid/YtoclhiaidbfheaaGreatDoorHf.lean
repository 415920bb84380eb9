/- btree: a change's down to a leaf, over a trial and over the store. btree: remove of the only key of a leaf that is the root, over a trial and over the store. btree: Delete of the only key of a tree. btree: what is known of it; TreeNil's walk. -/
import Derived.Test.YtoclhiaidbfheaaGreatDoorHe
import Derived.Handy
import Derived.Laws.EntriesVeiled
section
set_option linter.unusedVariables false
namespace Go.Proofs.YtoclhiaidbfheaaGreatDoor.T
open Go.RowKit Q S Go.ChangeMaps Go.MapKept

abbrev lfD (bk bo bh : Nat) : Value := .func (.func 98) #[] #[.pointer (some ⟨bk, 0, none⟩), .pointer (some ⟨bo, 0, none⟩), .pointer (some ⟨bh, 0, none⟩)]
theorem twigL (r kd bi : Nat) (K V : Value) : (Tryz.prog.info? 186).map (·.size) = some ([.int .u32 (r : Int), .int .i64 (kd : Int), .int .u64 (bi : Int), K, V] : List Value).length := by kernel_rfl
section
variable {w W W' : World} {k : LK} {c c' : C.CS} {q q' : Nat} {D D' : DataW Value} {b : Nat} {rm rm' : Int} {m1 nx nx' m2 : Nat} {q1 q1' : Nat} {D1 D1' : DataW Value} {q2 q2' : Nat} {D2 D2' : DataW Value} {B : Nat}
variable {r : Nat} {kd bi key val : Nat} {K2 V2 : Value}
set_option maxRecDepth 100000 in
set_option maxHeartbeats 8000000 in
theorem TS.chDown (h : TS w W k c q (dm1 r (.agg #[.int .i64 (kd : Int), .int .u64 (bi : Int), K2, V2])) b rm m1 nx m2 q1 dm0 q2 D2 B) (hu : NO W K2 V2 [key] [val]) (hq : q < 900) (hc : c.now.length = 200) (hcn : C.lookN c.now (r : Int) = 1) (hct : D2.atKey (keyN r) (.held (.int .i64 0)) = .held (.int .i64 0)) (h0 : 0 < r) (h2 : r < 200) (hm : mayB ⟨kd, bi, [key], [val]⟩ = true) (hk : ¬ (kd : Int) = 1) (bc bk bo bh : Nat) (nf : Value) (hch : W.heap[bc]? = some (.cells (chA (onT b) key (lfD bk bo bh) nf) 183 (0, 0))) (hkb : W.heap[bk]? = some (.cells #[.int .u64 (key : Int)] 23 (0, 0))) (ho : W.heap[bo]? = some (.cells #[.int .u64 0] 23 (0, 0))) (hh : W.heap[bh]? = some (.cells #[.bool false] 4 (0, 0))) (hBo : B ≤ bo) (hBh : B ≤ bh) (hB : ∀ j, gts k b m1 m2 j → j ≠ bc ∧ j ≠ bk ∧ j ≠ bo ∧ j ≠ bh) :
    Calls Tryz.prog 92 #[.pointer (some ⟨bc, 0, none⟩), .int .u32 (r : Int)] W fun e w' => ∃ K' V', e = .returned (.tuple #[.agg (twA r kd bi K' V'), .int .i64 0]) ∧ Hid (NO w' K' V' [] [] ∧ w'.heap[bo]? = some (.cells #[.int .u64 (val : Int)] 23 (0, 0)) ∧ w'.heap[bh]? = some (.cells #[.bool true] 4 (0, 0)) ∧ Q.Stays W w' (fun j => gts k b m1 m2 j ∨ j = bo ∨ j = bh) ∧ ∃ K4 V4, NO w' K4 V4 [key] [val] ∧ TS w w' k c (q + 1) (dm1 r (.agg #[.int .i64 (kd : Int), .int .u64 (bi : Int), K4, V4])) b rm m1 nx m2 q1 dm0 q2 D2 B) := by
  obtain ⟨W1, hW1⟩ : ∃ W1, W.alloc (.cells #[.int .u32 0, .int .i64 0, .int .u64 0, .slice none 0 0, .slice none 0 0] 186) = W1 := ⟨_, rfl⟩
  have hb1 : Below W.heap.size W W1 := by rw [← hW1]; exact (Below.refl _ W).alloc (Nat.le_refl _) _
  have hbt : W1.heap[W.heap.size]? = some (.cells #[.int .u32 0, .int .i64 0, .int .u64 0, .slice none 0 0, .slice none 0 0] 186 (0, 0)) := by rw [← hW1]; exact heap_alloc_new W _
  have up1 : ∀ (j : Nat) (ob : Obj), W.heap[j]? = some ob → W1.heap[j]? = some ob := fun j ob h => (hb1.block j (Array.getElem?_eq_some_iff.1 h).1).trans h
  have HCH1 := Lib.hid (up1 bc _ hch)
  have HK1 := Lib.hid (up1 bk _ hkb)
  have HO1 := Lib.hid (up1 bo _ ho)
  have HH1 := Lib.hid (up1 bh _ hh)
  have hoW := (Array.getElem?_eq_some_iff.1 ho).1
  have hhW := (Array.getElem?_eq_some_iff.1 hh).1
  have HOW : Hid (bo < W.heap.size ∧ bh < W.heap.size) := Lib.hid ⟨hoW, hhW⟩
  have HNE := Lib.hid hB
  have HSH := Lib.hid ((h.below hb1).chShadow (hu.below hb1) hq hc hcn hct h0 h2 (by simp) (by simp) hm hk bc key _ nf HCH1.out (fun e => (hB _ e).1 rfl))
  have HWN := Lib.hid (fun j (hj : gts k b m1 m2 j) => h.glt hj)
  have HSZ := Lib.hid h.size
  have HBOH : Hid (B ≤ bo ∧ B ≤ bh) := Lib.hid ⟨hBo, hBh⟩
  have HB1 := Lib.hid hb1
  have HBT := Lib.hid hbt
  clear h hu hb1 hbt up1 hch hkb ho hh hB hoW hhW hcn hc hct hm hBo hBh
  have htz := twig_zero
  go_enter Tryz.func92, Tryz.ntmps92
  go_upto_region 1 with fail
  clear hW1
  go_upto_region 4 with (first
    | (go_at_call 160; (with_reducible refine HSH.out.mono ?_); rintro e w2 ⟨K3, V3, rfl, h2⟩; have HX2 := Lib.hid h2.out.1; have HT2 := Lib.hid h2.out.2.1; have HR2 := Lib.hid h2.out.2.2; have HST2 := Lib.hid (twig_new r kd bi K3 V3 HX2.out.one.1 HX2.out.one.2 w2); clear h2)
    | ((with_reducible show wpList _ _ _ ({ dst := _, op := .store _ _ _, type := _, pos := _, after := _, guard := _ } :: _) _ _); refine wpList_store_run rfl 186 (.tmp 6) (.tmp 14) rfl w2.heap.size 0 _ ?ws14 rfl rfl ?hs14 ?_; (case hs14 => exact HST2.out))
    | fail)
  obtain ⟨W3, hW3⟩ : ∃ W3, w2.alloc (.cells (twA r kd bi K3 V3) 186) = W3 := ⟨_, rfl⟩
  have hb3 : Below w2.heap.size w2 W3 := by rw [← hW3]; exact (Below.refl _ w2).alloc (Nat.le_refl _) _
  have hn3 : W3.heap[w2.heap.size]? = some (.cells (twA r kd bi K3 V3) 186 (0, 0)) := by rw [← hW3]; exact heap_alloc_new w2 _
  rw [hW3]
  have up3 : ∀ (j : Nat) (ob : Obj), W1.heap[j]? = some ob → ¬ gts k b m1 m2 j → W3.heap[j]? = some ob := fun j ob h hn => by
    have h2 := (HT2.out.block j (Array.getElem?_eq_some_iff.1 h).1 hn).trans h
    exact (hb3.block j (Array.getElem?_eq_some_iff.1 h2).1).trans h2
  have HCH3 := Lib.hid (up3 bc _ HCH1.out (fun e => (HNE.out _ e).1 rfl))
  have HK3 := Lib.hid (up3 bk _ HK1.out (fun e => (HNE.out _ e).2.1 rfl))
  have HO3 := Lib.hid (up3 bo _ HO1.out (fun e => (HNE.out _ e).2.2.1 rfl))
  have HH3 := Lib.hid (up3 bh _ HH1.out (fun e => (HNE.out _ e).2.2.2 rfl))
  have HBT3 := Lib.hid (up3 W.heap.size _ HBT.out (fun e => by have := HWN.out _ e; omega))
  have HX3 := Lib.hid (HX2.out.below hb3)
  have HZ2 : Hid (W.heap.size < w2.heap.size) := Lib.hid (by
    have h2 := (HT2.out.block W.heap.size (Array.getElem?_eq_some_iff.1 HBT.out).1 (fun e => by have := HWN.out _ e; omega)).trans HBT.out
    exact (Array.getElem?_eq_some_iff.1 h2).1)
  have HB3 := Lib.hid hb3
  have HN3 := Lib.hid hn3
  have HLD := Lib.hid (leaf_del W3 w2.heap.size bk bo bh W1.heap.size r kd bi key val K3 V3 hn3 HX3.out HK3.out HO3.out HH3.out (by have := HOW.out.1; have := HB1.out.size; omega))
  have hc1 := Joins.cell_of_block (i := 1) hn3
  have hc2 := Joins.cell_of_block (i := 2) HCH3.out
  clear hW3 hb3 up3 HST2 HSH hn3
  go_upto_region 6 with (first
    | (go_at_call 98; (with_reducible refine HLD.out.mono ?_); rintro e w4 ⟨rfl, h4⟩)
    | fail)
  obtain ⟨K', V', x4, bx4, o4, hh4, st4⟩ := h4.out
  have hG : ∀ j, (j = w2.heap.size ∨ j = bo ∨ j = bh ∨ K3.ownBlock = some j ∨ V3.ownBlock = some j) → j = bo ∨ j = bh ∨ W.heap.size < j := fun j hj => by
    have h1 := HB1.out.size
    have h2 := (Array.getElem?_eq_some_iff.1 HBT.out).1
    rcases hj with e | e | e | e | e
    · have := HZ2.out; omega
    · exact .inl e
    · exact .inr (.inl e)
    · have := own_lo HX3.out.kr e; omega
    · have := own_lo HX3.out.vr e; omega
  have hbt4 := (st4.block W.heap.size (Array.getElem?_eq_some_iff.1 HBT3.out).1 (fun e => by have h1 := hG _ e; have h2 := HOW.out; omega)).trans HBT3.out
  have HBT4 := Lib.hid hbt4
  have HBX4 := Lib.hid bx4
  have HX4 := Lib.hid x4
  have HO4 := Lib.hid o4
  have HH4 := Lib.hid hh4
  have HST4 := Lib.hid (twig_box hbt4 rfl r kd bi K' V' x4.one.1 x4.one.2)
  have HRX4 := Lib.hid (range_of bx4)
  have HS4 := Lib.hid st4
  have HG := Lib.hid hG
  clear hc1 hc2 h4 x4 bx4 o4 hh4 st4 hbt4 hG HLD
  go_wp2_with (first
    | ((with_reducible show wpList _ _ _ ({ dst := _, op := .load _ _, type := _, pos := _, after := _, guard := _ } :: _) _ _); refine wpList_load_mid rfl 186 (.tmp 6) rfl w2.heap.size 0 rfl [.int .u32 (r : Int), .int .i64 (kd : Int), .int .u64 (bi : Int), K', V'] _ ?hln Tryz.underlying186 rfl (twigL _ _ _ _ _) ?_; (case hln => exact HRX4.out))
    | ((with_reducible show wpList _ _ _ ({ dst := _, op := .store _ _ _, type := _, pos := _, after := _, guard := _ } :: _) _ _); refine wpList_store_run rfl 186 (.tmp 4) (.tmp 29) rfl W.heap.size 0 _ ?ws29 rfl rfl ?hs29 ?_; (case hs29 => exact HST4.out))
    | fail)
  have s5 : Q.Stays w4 (w4.setRow W.heap.size (twA r kd bi K' V')) (fun j => j = W.heap.size) := Q.Stays.set_row HBT4.out
  have hno : ∀ j cs, w4.heap[j]? = some (.cells cs 23 (0, 0)) → ¬ j = W.heap.size := fun j cs hc e => by rw [e] at hc; exact absurd (cells_ne hc HBT4.out) (by decide)
  have ko := (setRow_other w4 W.heap.size bo (twA r kd bi K' V') (by have := HOW.out.1; omega)).trans HO4.out
  have kh := (setRow_other w4 W.heap.size bh (twA r kd bi K' V') (by have := HOW.out.2; omega)).trans HH4.out
  obtain ⟨K4, V4, hu2, ap2, ts2⟩ := HR2.out
  have ts3 := ts2.below HB3.out
  have hu3 := hu2.below HB3.out
  have ts4 := ts3.on HS4.out (fun j e => by have h1 := HG.out j e; have h2 := HBOH.out; have h3 := HSZ.out; omega) (fun j hj e => by have h1 := HG.out j e; have h2 := HNE.out j (.inr hj); have h3 := HWN.out j (.inr hj); omega)
  have hu4 : NO w4 K4 V4 [key] [val] := hu3.no.off HS4.out (fun g hg e => by
      rcases e with e | e | e | e | e
      · rw [e] at hg; obtain ⟨cs, hc⟩ := row_kind hu3.no.kr hg; exact absurd (cells_ne hc HN3.out) (by decide)
      · have h1 := own_lo hu3.kr hg; have h2 := HOW.out.1; have h3 := HB1.out.size; omega
      · have h1 := own_lo hu3.kr hg; have h2 := HOW.out.2; have h3 := HB1.out.size; omega
      · exact (ap2 g (.inl e)).1 hg
      · exact (ap2 g (.inr e)).1 hg) (fun g hg e => by
      rcases e with e | e | e | e | e
      · rw [e] at hg; obtain ⟨cs, hc⟩ := row_kind hu3.no.vr hg; exact absurd (cells_ne hc HN3.out) (by decide)
      · have h1 := own_lo hu3.vr hg; have h2 := HOW.out.1; have h3 := HB1.out.size; omega
      · have h1 := own_lo hu3.vr hg; have h2 := HOW.out.2; have h3 := HB1.out.size; omega
      · exact (ap2 g (.inl e)).2 hg
      · exact (ap2 g (.inr e)).2 hg)
  have st : Q.Stays W (w4.setRow W.heap.size (twA r kd bi K' V')) (fun j => gts k b m1 m2 j ∨ j = bo ∨ j = bh) := ((((Q.Stays.of_below HB1.out _).trans HT2.out (fun j e => .inl (.inl e))).trans (Q.Stays.of_below HB3.out (fun _ => False)) (fun _ e => e.elim)).trans HS4.out (fun j e => by have h1 := HG.out j e; rcases h1 with h1 | h1 | h1; (exact .inl (.inr (.inl h1))); (exact .inl (.inr (.inr h1))); (exact .inr (by omega)))).trans s5 (fun j e => .inr (by have : j = W.heap.size := e; omega))
  exact bodyPost_ret (results_ct rfl _ _ _ _ _ rfl rfl (load_twig (setRow_at HBT4.out))) rfl ⟨K', V', rfl, HX4.out.on s5 hno, ko, kh, st, K4, V4, hu4.on s5 hno, ts4.on s5 (fun j e => by have := HSZ.out; have : j = W.heap.size := e; omega) (fun j hj e => by have := HWN.out j (.inr hj); have : j = W.heap.size := e; omega)⟩
set_option maxRecDepth 100000 in
set_option maxHeartbeats 8000000 in
theorem LS.chDown (h : LS w W k c q (dm1 r (.agg #[.int .i64 (kd : Int), .int .u64 (bi : Int), K2, V2]))) (hu : NO W K2 V2 [key] [val]) (hc : c.now.length = 200) (hcn : C.lookN c.now (r : Int) = 1) (h0 : 0 < r) (h2 : r < 200) (hk : ¬ (kd : Int) = 1) (bc bk bo bh : Nat) (nf : Value) (hch : W.heap[bc]? = some (.cells (chA (onS k) key (lfD bk bo bh) nf) 183 (0, 0))) (hkb : W.heap[bk]? = some (.cells #[.int .u64 (key : Int)] 23 (0, 0))) (ho : W.heap[bo]? = some (.cells #[.int .u64 0] 23 (0, 0))) (hh : W.heap[bh]? = some (.cells #[.bool false] 4 (0, 0))) (hwo : w.heap.size ≤ bo) (hwh : w.heap.size ≤ bh) (hK2 : ∀ g, (K2.ownBlock = some g ∨ V2.ownBlock = some g) → g ≠ bo) (hB : ∀ j, k.mine j → j ≠ bc ∧ j ≠ bk ∧ j ≠ bo ∧ j ≠ bh) :
    Calls Tryz.prog 92 #[.pointer (some ⟨bc, 0, none⟩), .int .u32 (r : Int)] W fun e w' => ∃ K' V', e = .returned (.tuple #[.agg (twA r kd bi K' V'), .int .i64 0]) ∧ Hid (NO w' K' V' [] [] ∧ w'.heap[bo]? = some (.cells #[.int .u64 (val : Int)] 23 (0, 0)) ∧ w'.heap[bh]? = some (.cells #[.bool true] 4 (0, 0)) ∧ Q.Stays W w' (fun j => j = bo ∨ j = bh) ∧ NO w' K2 V2 [key] [val] ∧ LS w w' k c q (dm1 r (.agg #[.int .i64 (kd : Int), .int .u64 (bi : Int), K2, V2]))) := by
  obtain ⟨W1, hW1⟩ : ∃ W1, W.alloc (.cells #[.int .u32 0, .int .i64 0, .int .u64 0, .slice none 0 0, .slice none 0 0] 186) = W1 := ⟨_, rfl⟩
  have hb1 : Below W.heap.size W W1 := by rw [← hW1]; exact (Below.refl _ W).alloc (Nat.le_refl _) _
  have hbt : W1.heap[W.heap.size]? = some (.cells #[.int .u32 0, .int .i64 0, .int .u64 0, .slice none 0 0, .slice none 0 0] 186 (0, 0)) := by rw [← hW1]; exact heap_alloc_new W _
  have up1 : ∀ (j : Nat) (ob : Obj), W.heap[j]? = some ob → W1.heap[j]? = some ob := fun j ob h => (hb1.block j (Array.getElem?_eq_some_iff.1 h).1).trans h
  have HCH1 := Lib.hid (up1 bc _ hch)
  have HK1 := Lib.hid (up1 bk _ hkb)
  have HO1 := Lib.hid (up1 bo _ ho)
  have HH1 := Lib.hid (up1 bh _ hh)
  have hoW := (Array.getElem?_eq_some_iff.1 ho).1
  have hhW := (Array.getElem?_eq_some_iff.1 hh).1
  have HOW : Hid (bo < W.heap.size ∧ bh < W.heap.size) := Lib.hid ⟨hoW, hhW⟩
  have HNE := Lib.hid hB
  have HSH := Lib.hid ((h.below hb1).chShadow (hu.below hb1) hc hcn h0 h2 (by simp) (by simp) hk bc key _ nf HCH1.out)
  have HMN := Lib.hid (fun j (hj : k.mine j) => h.mlt hj)
  have HL1 := Lib.hid (h.below hb1)
  have HU1 := Lib.hid (hu.below hb1)
  have HUL := Lib.hid (fun g hg => hu.glt (g := g) hg)
  have HK2 := Lib.hid hK2
  have HWL := Lib.hid h.bel.size
  have HWB : Hid (w.heap.size ≤ bo ∧ w.heap.size ≤ bh) := Lib.hid ⟨hwo, hwh⟩
  have HB1 := Lib.hid hb1
  have HBT := Lib.hid hbt
  clear h hu hb1 hbt up1 hch hkb ho hh hB hoW hhW hcn hc hwo hwh hK2
  have htz := twig_zero
  unfold LK.p at *
  go_enter Tryz.func92, Tryz.ntmps92
  go_upto_region 1 with fail
  clear hW1
  go_upto_region 4 with (first
    | (go_at_call 160; (with_reducible refine HSH.out.mono ?_); rintro e w2 ⟨K3, V3, rfl, h2⟩; have HX2 := Lib.hid h2.out.1; have HT2 := Lib.hid (Q.Stays.of_below h2.out.2 (fun _ => False)); have HB2 := Lib.hid h2.out.2; have HST2 := Lib.hid (twig_new r kd bi K3 V3 HX2.out.one.1 HX2.out.one.2 w2); clear h2)
    | ((with_reducible show wpList _ _ _ ({ dst := _, op := .store _ _ _, type := _, pos := _, after := _, guard := _ } :: _) _ _); refine wpList_store_run rfl 186 (.tmp 6) (.tmp 14) rfl w2.heap.size 0 _ ?ws14 rfl rfl ?hs14 ?_; (case hs14 => exact HST2.out))
    | fail)
  obtain ⟨W3, hW3⟩ : ∃ W3, w2.alloc (.cells (twA r kd bi K3 V3) 186) = W3 := ⟨_, rfl⟩
  have hb3 : Below w2.heap.size w2 W3 := by rw [← hW3]; exact (Below.refl _ w2).alloc (Nat.le_refl _) _
  have hn3 : W3.heap[w2.heap.size]? = some (.cells (twA r kd bi K3 V3) 186 (0, 0)) := by rw [← hW3]; exact heap_alloc_new w2 _
  rw [hW3]
  have up3 : ∀ (j : Nat) (ob : Obj), W1.heap[j]? = some ob → ¬ False → W3.heap[j]? = some ob := fun j ob h hn => by
    have h2 := (HT2.out.block j (Array.getElem?_eq_some_iff.1 h).1 hn).trans h
    exact (hb3.block j (Array.getElem?_eq_some_iff.1 h2).1).trans h2
  have HCH3 := Lib.hid (up3 bc _ HCH1.out (fun e => e))
  have HK3 := Lib.hid (up3 bk _ HK1.out (fun e => e))
  have HO3 := Lib.hid (up3 bo _ HO1.out (fun e => e))
  have HH3 := Lib.hid (up3 bh _ HH1.out (fun e => e))
  have HBT3 := Lib.hid (up3 W.heap.size _ HBT.out (fun e => e))
  have HX3 := Lib.hid (HX2.out.below hb3)
  have HZ2 : Hid (W.heap.size < w2.heap.size) := Lib.hid (by
    have h2 := (HT2.out.block W.heap.size (Array.getElem?_eq_some_iff.1 HBT.out).1 (fun e => e)).trans HBT.out
    exact (Array.getElem?_eq_some_iff.1 h2).1)
  have HB3 := Lib.hid hb3
  have HN3 := Lib.hid hn3
  have HLD := Lib.hid (leaf_del W3 w2.heap.size bk bo bh W1.heap.size r kd bi key val K3 V3 hn3 HX3.out HK3.out HO3.out HH3.out (by have := HOW.out.1; have := HB1.out.size; omega))
  have hc1 := Joins.cell_of_block (i := 1) hn3
  have hc2 := Joins.cell_of_block (i := 2) HCH3.out
  clear hW3 hb3 up3 HST2 HSH hn3
  go_upto_region 6 with (first
    | (go_at_call 98; (with_reducible refine HLD.out.mono ?_); rintro e w4 ⟨rfl, h4⟩)
    | fail)
  obtain ⟨K', V', x4, bx4, o4, hh4, st4⟩ := h4.out
  have hG : ∀ j, (j = w2.heap.size ∨ j = bo ∨ j = bh ∨ K3.ownBlock = some j ∨ V3.ownBlock = some j) → j = bo ∨ j = bh ∨ W.heap.size < j := fun j hj => by
    have h1 := HB1.out.size
    have h2 := (Array.getElem?_eq_some_iff.1 HBT.out).1
    rcases hj with e | e | e | e | e
    · have := HZ2.out; omega
    · exact .inl e
    · exact .inr (.inl e)
    · have := own_lo HX3.out.kr e; omega
    · have := own_lo HX3.out.vr e; omega
  have hbt4 := (st4.block W.heap.size (Array.getElem?_eq_some_iff.1 HBT3.out).1 (fun e => by have h1 := hG _ e; have h2 := HOW.out; omega)).trans HBT3.out
  have HBT4 := Lib.hid hbt4
  have HBX4 := Lib.hid bx4
  have HX4 := Lib.hid x4
  have HO4 := Lib.hid o4
  have HH4 := Lib.hid hh4
  have HST4 := Lib.hid (twig_box hbt4 rfl r kd bi K' V' x4.one.1 x4.one.2)
  have HRX4 := Lib.hid (range_of bx4)
  have HS4 := Lib.hid st4
  have HG := Lib.hid hG
  clear hc1 hc2 h4 x4 bx4 o4 hh4 st4 hbt4 hG HLD
  go_wp2_with (first
    | ((with_reducible show wpList _ _ _ ({ dst := _, op := .load _ _, type := _, pos := _, after := _, guard := _ } :: _) _ _); refine wpList_load_mid rfl 186 (.tmp 6) rfl w2.heap.size 0 rfl [.int .u32 (r : Int), .int .i64 (kd : Int), .int .u64 (bi : Int), K', V'] _ ?hln Tryz.underlying186 rfl (twigL _ _ _ _ _) ?_; (case hln => exact HRX4.out))
    | ((with_reducible show wpList _ _ _ ({ dst := _, op := .store _ _ _, type := _, pos := _, after := _, guard := _ } :: _) _ _); refine wpList_store_run rfl 186 (.tmp 4) (.tmp 29) rfl W.heap.size 0 _ ?ws29 rfl rfl ?hs29 ?_; (case hs29 => exact HST4.out))
    | fail)
  have s5 : Q.Stays w4 (w4.setRow W.heap.size (twA r kd bi K' V')) (fun j => j = W.heap.size) := Q.Stays.set_row HBT4.out
  have hno : ∀ j cs, w4.heap[j]? = some (.cells cs 23 (0, 0)) → ¬ j = W.heap.size := fun j cs hc e => by rw [e] at hc; exact absurd (cells_ne hc HBT4.out) (by decide)
  have ko := (setRow_other w4 W.heap.size bo (twA r kd bi K' V') (by have := HOW.out.1; omega)).trans HO4.out
  have kh := (setRow_other w4 W.heap.size bh (twA r kd bi K' V') (by have := HOW.out.2; omega)).trans HH4.out
  have st : Q.Stays W (w4.setRow W.heap.size (twA r kd bi K' V')) (fun j => j = bo ∨ j = bh) := ((((Q.Stays.of_below HB1.out _).trans HT2.out (fun j e => e.elim)).trans (Q.Stays.of_below HB3.out (fun _ => False)) (fun _ e => e.elim)).trans HS4.out (fun j e => by have h1 := HG.out j e; rcases h1 with h1 | h1 | h1; (exact .inl (.inl h1)); (exact .inl (.inr h1)); (exact .inr (by omega)))).trans s5 (fun j e => .inr (by have : j = W.heap.size := e; omega))
  have st1 : Q.Stays W1 (w4.setRow W.heap.size (twA r kd bi K' V')) (fun j => j = bo ∨ j = bh ∨ j = W.heap.size) := (((HT2.out.up (G := fun j => j = bo ∨ j = bh ∨ j = W.heap.size) (fun j e => e.elim)).trans (Q.Stays.of_below HB3.out (fun _ => False)) (fun _ e => e.elim)).trans HS4.out (fun j e => by
      have h0 := (Array.getElem?_eq_some_iff.1 HBT.out).1
      rcases e with e | e | e | e | e
      · have h1 := HT2.out.size; exact .inr (by omega)
      · exact .inl (.inl e)
      · exact .inl (.inr (.inl e))
      · have := own_lo HX3.out.kr e; exact .inr (by omega)
      · have := own_lo HX3.out.vr e; exact .inr (by omega))).trans s5 (fun j e => .inl (.inr (.inr e)))
  have l5 : LS w (w4.setRow W.heap.size (twA r kd bi K' V')) k c q _ := HL1.out.keep st1 (fun j hj e => by
      have h1 := HNE.out j hj
      have h2 := HMN.out j hj
      rcases e with e | e | e <;> omega) (fun j hj e => by
      rcases e with e | e | e
      · rw [e] at hj; exact PKind.not HO1.out (by decide) (by decide) hj
      · rw [e] at hj; exact PKind.not HH1.out (by decide) (by decide) hj
      · rw [e] at hj; exact PKind.not HBT.out (by decide) (by decide) hj) (fun j e => by
      have h1 := HWB.out
      have h2 := HWL.out
      rcases e with e | e | e <;> omega)
  have u5 : NO (w4.setRow W.heap.size (twA r kd bi K' V')) K2 V2 [key] [val] := HU1.out.off st1 (fun g hg e => by
      have h1 := HUL.out g (.inl hg)
      rcases e with e | e | e
      · exact HK2.out g (.inl hg) e
      · rw [e] at hg; obtain ⟨cs, hc⟩ := row_kind HU1.out.kr hg; exact absurd (cells_ne hc HH1.out) (by decide)
      · omega) (fun g hg e => by
      have h1 := HUL.out g (.inr hg)
      rcases e with e | e | e
      · exact HK2.out g (.inr hg) e
      · rw [e] at hg; obtain ⟨cs, hc⟩ := row_kind HU1.out.vr hg; exact absurd (cells_ne hc HH1.out) (by decide)
      · omega)
  exact bodyPost_ret (results_ct rfl _ _ _ _ _ rfl rfl (load_twig (setRow_at HBT4.out))) rfl ⟨K', V', rfl, HX4.out.on s5 hno, ko, kh, st, u5, l5⟩
end
end Go.Proofs.YtoclhiaidbfheaaGreatDoor.T
end

section
set_option linter.unusedVariables false
namespace Go.Proofs.YtoclhiaidbfheaaGreatDoor.T
open Go.RowKit Q S Go.ChangeMaps Go.MapKept

theorem change_zero (w : World) : (zeroValue 183).run Tryz.prog w = .ok (.agg #[.nilIface, .int .u64 0, .nilFunc, .nilFunc, .int .i64 0]) w := by kernel_rfl
theorem changeA (on : Value) (key : Nat) : (Tryz.prog.info? 183).map (·.size) = some (#[on, .int .u64 (key : Int), .nilFunc, .nilFunc, .int .i64 0] : Array Value).size := by kernel_rfl
/-- three boxes of a call -/
def box3 (W : World) (key : Nat) : World := ((W.alloc (.cells #[.int .u64 (key : Int)] 23)).alloc (.cells #[.int .u64 0] 23)).alloc (.cells #[.bool false] 4)
theorem box3_size (W : World) (key : Nat) : (box3 W key).heap.size = W.heap.size + 1 + 1 + 1 := by unfold box3; simp only [World.size_alloc]
theorem change_new (W : World) (on : Value) (key : Nat) (ho : on.oneCell' = true) : (storeVar 183 ⟨W.heap.size + 1 + 1 + 1, 0, none⟩ (.agg #[on, .int .u64 (key : Int), .nilFunc, .nilFunc, .int .i64 0])).run Tryz.prog ((box3 W key).alloc (.cells #[.nilIface, .int .u64 0, .nilFunc, .nilFunc, .int .i64 0] 183)) = .ok () ((box3 W key).alloc (.cells #[on, .int .u64 (key : Int), .nilFunc, .nilFunc, .int .i64 0] 183)) := by
  have h := run_storeVar_new (P := Tryz.prog) (box3 W key) 183 #[.nilIface, .int .u64 0, .nilFunc, .nilFunc, .int .i64 0] #[on, .int .u64 (key : Int), .nilFunc, .nilFunc, .int .i64 0] (changeA on key) rfl (by simp only [List.all_toArray, List.all_cons, List.all_nil, ho, Bool.and_true, Bool.true_and]; rfl)
  rw [box3_size] at h
  exact h
/-- the boxes of a change that is begun -/
structure Rem (W W6 : World) (on : Value) (key : Nat) : Prop where
  bel : Below W.heap.size W W6
  ck : W6.heap[W.heap.size]? = some (.cells #[.int .u64 (key : Int)] 23 (0, 0))
  co : W6.heap[W.heap.size + 1]? = some (.cells #[.int .u64 0] 23 (0, 0))
  ch : W6.heap[W.heap.size + 1 + 1]? = some (.cells #[.bool false] 4 (0, 0))
  cc : W6.heap[W.heap.size + 1 + 1 + 1]? = some (.cells (chA on key (lfD W.heap.size (W.heap.size + 1) (W.heap.size + 1 + 1)) (.func (.func 100) #[] #[.pointer (some ⟨W.heap.size + 1 + 1 + 1, 0, none⟩)])) 183 (0, 0))
theorem box4c (W : World) (on : Value) (key : Nat) : Below W.heap.size W ((box3 W key).alloc (.cells #[on, .int .u64 (key : Int), .nilFunc, .nilFunc, .int .i64 0] 183)) ∧ ((box3 W key).alloc (.cells #[on, .int .u64 (key : Int), .nilFunc, .nilFunc, .int .i64 0] 183)).heap[W.heap.size]? = some (.cells #[.int .u64 (key : Int)] 23 (0, 0)) ∧ ((box3 W key).alloc (.cells #[on, .int .u64 (key : Int), .nilFunc, .nilFunc, .int .i64 0] 183)).heap[W.heap.size + 1]? = some (.cells #[.int .u64 0] 23 (0, 0)) ∧ ((box3 W key).alloc (.cells #[on, .int .u64 (key : Int), .nilFunc, .nilFunc, .int .i64 0] 183)).heap[W.heap.size + 1 + 1]? = some (.cells #[.bool false] 4 (0, 0)) ∧ ((box3 W key).alloc (.cells #[on, .int .u64 (key : Int), .nilFunc, .nilFunc, .int .i64 0] 183)).heap[W.heap.size + 1 + 1 + 1]? = some (.cells #[on, .int .u64 (key : Int), .nilFunc, .nilFunc, .int .i64 0] 183 (0, 0)) := by
  unfold box3
  refine ⟨?_, ?_, ?_, ?_, ?_⟩
  · refine ((((Below.refl _ W).alloc (Nat.le_refl _) _).alloc ?_ _).alloc ?_ _).alloc ?_ _ <;> simp only [World.size_alloc] <;> omega
  · exact (Below.heap_alloc _ _ _ (by simp only [World.size_alloc]; omega)).trans ((Below.heap_alloc _ _ _ (by simp only [World.size_alloc]; omega)).trans ((Below.heap_alloc _ _ _ (by simp only [World.size_alloc]; omega)).trans (heap_at _ _ _ rfl)))
  · exact (Below.heap_alloc _ _ _ (by simp only [World.size_alloc]; omega)).trans ((Below.heap_alloc _ _ _ (by simp only [World.size_alloc]; omega)).trans (heap_at _ _ _ (by simp only [World.size_alloc])))
  · exact (Below.heap_alloc _ _ _ (by simp only [World.size_alloc]; omega)).trans (heap_at _ _ _ (by simp only [World.size_alloc]))
  · exact heap_at _ _ _ (by simp only [World.size_alloc])
theorem rem_of {W W4 : World} {on : Value} {key : Nat} (hb : Below W.heap.size W W4) (h0 : W4.heap[W.heap.size]? = some (.cells #[.int .u64 (key : Int)] 23 (0, 0))) (h1 : W4.heap[W.heap.size + 1]? = some (.cells #[.int .u64 0] 23 (0, 0))) (h2 : W4.heap[W.heap.size + 1 + 1]? = some (.cells #[.bool false] 4 (0, 0))) (h3 : W4.heap[W.heap.size + 1 + 1 + 1]? = some (.cells #[on, .int .u64 (key : Int), .nilFunc, .nilFunc, .int .i64 0] 183 (0, 0))) :
    Rem W ((W4.setCell ⟨W.heap.size + 1 + 1 + 1, 2, none⟩ (lfD W.heap.size (W.heap.size + 1) (W.heap.size + 1 + 1))).setCell ⟨W.heap.size + 1 + 1 + 1, 3, none⟩ (.func (.func 100) #[] #[.pointer (some ⟨W.heap.size + 1 + 1 + 1, 0, none⟩)])) on key := by
  have kp : ∀ (j : Nat) (ob : Obj), W4.heap[j]? = some ob → j ≠ W.heap.size + 1 + 1 + 1 → ((W4.setCell ⟨W.heap.size + 1 + 1 + 1, 2, none⟩ (lfD W.heap.size (W.heap.size + 1) (W.heap.size + 1 + 1))).setCell ⟨W.heap.size + 1 + 1 + 1, 3, none⟩ (.func (.func 100) #[] #[.pointer (some ⟨W.heap.size + 1 + 1 + 1, 0, none⟩)])).heap[j]? = some ob := fun j ob h hn => (Below.heap_setCell _ ⟨W.heap.size + 1 + 1 + 1, 3, none⟩ _ j hn).trans ((Below.heap_setCell W4 ⟨W.heap.size + 1 + 1 + 1, 2, none⟩ _ j hn).trans h)
  exact ⟨(hb.setCell (p := ⟨W.heap.size + 1 + 1 + 1, 2, none⟩) (by show W.heap.size ≤ W.heap.size + 1 + 1 + 1; omega) _).setCell (p := ⟨W.heap.size + 1 + 1 + 1, 3, none⟩) (by show W.heap.size ≤ W.heap.size + 1 + 1 + 1; omega) _, kp _ _ h0 (by omega), kp _ _ h1 (by omega), kp _ _ h2 (by omega), Joins.block_setCell (Joins.block_setCell h3 (i := 2) (lfD W.heap.size (W.heap.size + 1) (W.heap.size + 1 + 1))) (i := 3) (.func (.func 100) #[] #[.pointer (some ⟨W.heap.size + 1 + 1 + 1, 0, none⟩)])⟩
section
variable {w W W' : World} {k : LK} {c c' : C.CS} {q q' : Nat} {D D' : DataW Value} {b : Nat} {rm rm' : Int} {m1 nx nx' m2 : Nat} {q1 q1' : Nat} {D1 D1' : DataW Value} {q2 q2' : Nat} {D2 D2' : DataW Value} {B : Nat}
variable {r : Nat} {kd bi key val : Nat} {K2 V2 : Value}
set_option maxRecDepth 100000 in
set_option maxHeartbeats 16000000 in
theorem TS.remove_ (h : TS w W k c q (dm1 r (.agg #[.int .i64 (kd : Int), .int .u64 (bi : Int), K2, V2])) b rm m1 nx m2 q1 dm0 q2 D2 B) (hu : NO W K2 V2 [key] [val]) (hq : q < 900) (hq1 : q1 < 900) (hq2 : q2 < 900) (hr : 0 ≤ rm) (hr2 : rm < 1000) (hc : c.now.length = 200) (hcn : C.lookN c.now (r : Int) = 1) (hct : D2.atKey (keyN r) (.held (.int .i64 0)) = .held (.int .i64 0)) (h0 : 0 < r) (h2 : r < 200) (hm : mayB ⟨kd, bi, [key], [val]⟩ = true) (hm2 : mayB ⟨kd, bi, [], []⟩ = true) (hk : ¬ (kd : Int) = 1) :
    Calls Tryz.prog 42 #[onT b, .int .u32 (r : Int), .int .u64 (key : Int)] W fun e w' => e = .returned (.tuple #[.int .u32 0, .int .u64 (val : Int), .bool true, .int .i64 0]) ∧ Hid (Q.Stays W w' (gts k b m1 m2) ∧ ∃ rm' q1' D1' q2' D2' K4 V4, NO w' K4 V4 [key] [val] ∧ TS w w' k c (q + 1) (dm1 r (.agg #[.int .i64 (kd : Int), .int .u64 (bi : Int), K4, V4])) b rm' m1 nx m2 q1' D1' q2' D2' B) := by
  have HST := Lib.hid (change_new W (onT b) key rfl)
  obtain ⟨hb4, h40, h41, h42, h43⟩ := box4c W (onT b) key
  obtain ⟨W4, hW4⟩ : ∃ W4, (box3 W key).alloc (.cells #[(onT b), .int .u64 (key : Int), .nilFunc, .nilFunc, .int .i64 0] 183) = W4 := ⟨_, rfl⟩
  rw [hW4] at hb4 h40 h41 h42 h43
  have HRM := Lib.hid (rem_of (on := onT b) hb4 h40 h41 h42 h43)
  have H43 := Lib.hid h43
  have HW4 := Lib.hid hW4
  clear hb4 h40 h41 h42 h43 hW4
  have HDN : Hid (∀ W6, Rem W W6 (onT b) key → Calls Tryz.prog 92 #[.pointer (some ⟨W.heap.size + 1 + 1 + 1, 0, none⟩), .int .u32 (r : Int)] W6 fun e w' => ∃ K' V', e = .returned (.tuple #[.agg (twA r kd bi K' V'), .int .i64 0]) ∧ Hid (NO w' K' V' [] [] ∧ w'.heap[W.heap.size + 1]? = some (.cells #[.int .u64 (val : Int)] 23 (0, 0)) ∧ w'.heap[W.heap.size + 1 + 1]? = some (.cells #[.bool true] 4 (0, 0)) ∧ Q.Stays W6 w' (fun j => gts k b m1 m2 j ∨ j = W.heap.size + 1 ∨ j = W.heap.size + 1 + 1) ∧ ∃ K4 V4, NO w' K4 V4 [key] [val] ∧ TS w w' k c (q + 1) (dm1 r (.agg #[.int .i64 (kd : Int), .int .u64 (bi : Int), K4, V4])) b rm m1 nx m2 q1 dm0 q2 D2 B)) := Lib.hid (fun W6 R => (h.below R.bel).chDown (hu.below R.bel) hq hc hcn hct h0 h2 hm hk _ _ _ _ _ R.cc R.ck R.co R.ch (by have := h.size; omega) (by have := h.size; omega) (fun j hj => by have := h.glt hj; omega))
  have HKP : Hid (∀ (W8 : World) (K' V' K4 V4 : Value), TS w W8 k c (q + 1) (dm1 r (.agg #[.int .i64 (kd : Int), .int .u64 (bi : Int), K4, V4])) b rm m1 nx m2 q1 dm0 q2 D2 B → NO W8 K' V' [] [] → W8.heap[W.heap.size + 1 + 1 + 1]? = some (.cells (chA (onT b) key (lfD W.heap.size (W.heap.size + 1) (W.heap.size + 1 + 1)) (.func (.func 100) #[] #[.pointer (some ⟨W.heap.size + 1 + 1 + 1, 0, none⟩)])) 183 (0, 0)) → Calls Tryz.prog 93 #[.pointer (some ⟨W.heap.size + 1 + 1 + 1, 0, none⟩), .agg (twA r kd bi K' V')] W8 fun e w' => e = .returned (.tuple #[.int .u32 (r : Int), .int .i64 0]) ∧ Hid (Q.Stays W8 w' (tts b m1 m2) ∧ ∃ K5 V5, NO w' K5 V5 [] [] ∧ TS w w' k c (q + 1) (dm1 r (.agg #[.int .i64 (kd : Int), .int .u64 (bi : Int), K4, V4])) b rm m1 nx m2 (q1 + 1) (dm1 r (.agg #[.int .i64 (kd : Int), .int .u64 (bi : Int), K5, V5])) q2 D2 B)) := Lib.hid (fun W8 K' V' K4 V4 hs hx hch => hs.chKeep hq1 hcn hct h0 h2 K' V' hx (by simp) (by simp) hm2 _ key _ _ hch (fun e => by have := h.tt.lt e; omega))
  have HLW : Hid (∀ (W9 : World) (K5 V5 K4 V4 : Value), TS w W9 k c (q + 1) (dm1 r (.agg #[.int .i64 (kd : Int), .int .u64 (bi : Int), K4, V4])) b rm m1 nx m2 (q1 + 1) (dm1 r (.agg #[.int .i64 (kd : Int), .int .u64 (bi : Int), K5, V5])) q2 D2 B → NO W9 K5 V5 [] [] → W9.heap[W.heap.size + 1 + 1 + 1]? = some (.cells (chA (onT b) key (lfD W.heap.size (W.heap.size + 1) (W.heap.size + 1 + 1)) (.func (.func 100) #[] #[.pointer (some ⟨W.heap.size + 1 + 1 + 1, 0, none⟩)])) 183 (0, 0)) → Calls Tryz.prog 102 #[.pointer (some ⟨W.heap.size + 1 + 1 + 1, 0, none⟩), .int .u32 (r : Int)] W9 fun e w' => e = .returned (.tuple #[.int .u32 0, .int .i64 0]) ∧ Hid (Q.Stays W9 w' (tts b m1 m2) ∧ TS w w' k c (q + 1) (dm1 r (.agg #[.int .i64 (kd : Int), .int .u64 (bi : Int), K4, V4])) b (rm + 1) m1 nx m2 (q1 + 1) dm0 (q2 + 1) (D2.put (keyN r) (.held (.int .i64 (-1)))) B)) := Lib.hid (fun W9 K5 V5 K4 V4 hs hx hch => hs.chLower hx hq2 hr hr2 hcn hct h0 h2 hk _ key _ _ hch)
  have HWN := Lib.hid (fun j (hj : gts k b m1 m2 j) => h.glt hj)
  clear h hu hcn hc hm2 hct hm
  have hcz := change_zero
  have htz := twig_zero
  unfold box3 at *
  go_enter Tryz.func42, Tryz.ntmps42
  go_upto_region 2 with (first
    | ((with_reducible show wpList _ _ _ ({ dst := _, op := .store _ _ _, type := _, pos := _, after := _, guard := _ } :: _) _ _); refine wpList_store_run rfl 183 (.tmp 10) (.tmp 14) rfl (W.heap.size + 1 + 1 + 1) 0 _ ?ws14 rfl rfl ?hs14 ?_; (case hs14 => exact HST.out))
    | fail)
  have hW4 := HW4.out
  rw [hW4]
  clear hW4 HW4 HST
  have c2 := Joins.cell_of_block (i := 2) H43.out
  have f2 := frozen_of_row _ _ 2 _ _ H43.out
  have h44 := Joins.block_setCell H43.out (i := 2) (lfD W.heap.size (W.heap.size + 1) (W.heap.size + 1 + 1))
  have c3 := Joins.cell_of_block (i := 3) h44
  have f3 := frozen_of_row _ _ 3 _ _ h44
  clear h44
  go_upto_region 4 with fail
  clear c2 f2 c3 f3 H43
  generalize (W4.setCell ⟨W.heap.size + 1 + 1 + 1, 2, none⟩ (lfD W.heap.size (W.heap.size + 1) (W.heap.size + 1 + 1))).setCell ⟨W.heap.size + 1 + 1 + 1, 3, none⟩ (.func (.func 100) #[] #[.pointer (some ⟨W.heap.size + 1 + 1 + 1, 0, none⟩)]) = W6 at HRM ⊢
  have HD6 := Lib.hid (HDN.out W6 HRM.out)
  clear HDN
  go_upto_region 5 with (first
    | (go_at_call 92; (with_reducible refine HD6.out.mono ?_); rintro e w7 ⟨K', V', rfl, h7⟩; have HX7 := Lib.hid h7.out.1; have HO7 := Lib.hid h7.out.2.1; have HH7 := Lib.hid h7.out.2.2.1; have HT7 := Lib.hid h7.out.2.2.2.1; have HR7 := Lib.hid h7.out.2.2.2.2; clear h7; have HST7 := Lib.hid (twig_new r kd bi K' V' HX7.out.one.1 HX7.out.one.2 w7))
    | ((with_reducible show wpList _ _ _ ({ dst := _, op := .store _ _ _, type := _, pos := _, after := _, guard := _ } :: _) _ _); refine wpList_store_run rfl 186 (.tmp 11) (.tmp 22) rfl w7.heap.size 0 _ ?ws22 rfl rfl ?hs22 ?_; (case hs22 => exact HST7.out))
    | fail)
  obtain ⟨W8, hW8⟩ : ∃ W8, w7.alloc (.cells (twA r kd bi K' V') 186) = W8 := ⟨_, rfl⟩
  have hb8 : Below w7.heap.size w7 W8 := by rw [← hW8]; exact (Below.refl _ w7).alloc (Nat.le_refl _) _
  have hn8 : W8.heap[w7.heap.size]? = some (.cells (twA r kd bi K' V') 186 (0, 0)) := by rw [← hW8]; exact heap_alloc_new w7 _
  rw [hW8]
  have hc7 := (HT7.out.block (W.heap.size + 1 + 1 + 1) (Array.getElem?_eq_some_iff.1 HRM.out.cc).1 (fun e => by rcases e with e | e | e; (have := HWN.out _ e; omega); omega; omega)).trans HRM.out.cc
  have HC8 := Lib.hid ((hb8.block _ (Array.getElem?_eq_some_iff.1 hc7).1).trans hc7)
  have HO8 := Lib.hid ((hb8.block _ (Array.getElem?_eq_some_iff.1 HO7.out).1).trans HO7.out)
  have HH8 := Lib.hid ((hb8.block _ (Array.getElem?_eq_some_iff.1 HH7.out).1).trans HH7.out)
  have HRN8 := Lib.hid (range_of hn8)
  have HB8 := Lib.hid hb8
  obtain ⟨K4, V4, u7, ts7⟩ := HR7.out
  have HK8 := Lib.hid (HKP.out W8 K' V' K4 V4 (ts7.below hb8) (HX7.out.below hb8) HC8.out)
  have HU8 := Lib.hid (u7.below hb8)
  have HN8 := Lib.hid (ts7.below hb8).tt.nums
  clear u7 ts7 HR7
  clear hW8 hb8 hn8 hc7 HKP HST7 HD6
  go_upto_region 8 with (first
    | (go_at_call 93; (with_reducible refine HK8.out.mono ?_); rintro e w9 ⟨rfl, h9⟩)
    | ((with_reducible show wpList _ _ _ ({ dst := _, op := .load _ _, type := _, pos := _, after := _, guard := _ } :: _) _ _); refine wpList_load_mid rfl 186 (.tmp 11) rfl w7.heap.size 0 rfl [.int .u32 (r : Int), .int .i64 (kd : Int), .int .u64 (bi : Int), K', V'] _ ?hln Tryz.underlying186 rfl (twigL _ _ _ _ _) ?_; (case hln => exact HRN8.out))
    | fail)
  obtain ⟨s9, K5, V5, x9, l9⟩ := h9.out
  have hc9 := (s9.block _ (Array.getElem?_eq_some_iff.1 HC8.out).1 (fun e => by have := HWN.out _ (.inr e); omega)).trans HC8.out
  have HO9 := Lib.hid ((s9.block _ (Array.getElem?_eq_some_iff.1 HO8.out).1 (fun e => by have := HWN.out _ (.inr e); omega)).trans HO8.out)
  have HH9 := Lib.hid ((s9.block _ (Array.getElem?_eq_some_iff.1 HH8.out).1 (fun e => by have := HWN.out _ (.inr e); omega)).trans HH8.out)
  have HL9 := Lib.hid (HLW.out w9 K5 V5 K4 V4 l9 x9 hc9)
  have HS9 := Lib.hid s9
  have HU9 := Lib.hid (HU8.out.on s9 HN8.out)
  have HN9 := Lib.hid l9.tt.nums
  clear h9 s9 x9 l9 hc9 HK8 HLW HRN8
  go_upto_region 13 with (first
    | (go_at_call 102; (with_reducible refine HL9.out.mono ?_); rintro e w10 ⟨rfl, h10⟩)
    | fail)
  obtain ⟨s10, l10⟩ := h10.out
  obtain ⟨W11, hW11⟩ : ∃ W11, w10.drew = W11 := ⟨_, rfl⟩
  have hb11 : Below w10.heap.size w10 W11 := by rw [← hW11]; exact (Below.refl _ w10).drew
  have ho10 := (s10.block _ (Array.getElem?_eq_some_iff.1 HO9.out).1 (fun e => by have := HWN.out _ (.inr e); omega)).trans HO9.out
  have hh10 := (s10.block _ (Array.getElem?_eq_some_iff.1 HH9.out).1 (fun e => by have := HWN.out _ (.inr e); omega)).trans HH9.out
  have HO11 := Lib.hid ((hb11.block _ (Array.getElem?_eq_some_iff.1 ho10).1).trans ho10)
  have HH11 := Lib.hid ((hb11.block _ (Array.getElem?_eq_some_iff.1 hh10).1).trans hh10)
  have HL11 := Lib.hid (l10.below hb11)
  have HU11 := Lib.hid ((HU9.out.on s10 HN9.out).below hb11)
  have HT11 := Lib.hid ((((((Q.Stays.of_below HRM.out.bel (gts k b m1 m2)).trans HT7.out (fun j e => by rcases e with e | e | e; (exact .inl e); (exact .inr (by omega)); (exact .inr (by omega)))).trans (Q.Stays.of_below HB8.out (fun _ => False)) (fun _ e => e.elim)).trans HS9.out (fun _ e => .inl (.inr e))).trans s10 (fun _ e => .inl (.inr e))).trans (Q.Stays.of_below hb11 (fun _ => False)) (fun _ e => e.elim))
  clear h10 s10 l10 hb11 ho10 hh10 HL9 HO9 HH9
  have SX : W11.cell? ⟨W.heap.size + 1, 0, none⟩ = some (.int .u64 (val : Int)) ∧ W11.cell? ⟨W.heap.size + 1 + 1, 0, none⟩ = some (.bool true) := ⟨Joins.cell_of_block (i := 0) HO11.out, Joins.cell_of_block (i := 0) HH11.out⟩
  have HSX := Lib.hid SX
  clear SX
  refine wp_region_noPanic ?_
  refine wp_region_held_drew (S := fun w' => w'.cell? ⟨W.heap.size + 1, 0, none⟩ = some (.int .u64 (val : Int)) ∧ w'.cell? ⟨W.heap.size + 1 + 1, 0, none⟩ = some (.bool true)) (by kernel_rfl) (by rw [hW11]; exact HSX.out) (fun hHeld => ?_)
  rw [hW11] at hHeld ⊢
  clear hW11
  refine takeN (i := 0) (oi := _) (v := (.int .u32 0)) 43 rfl rfl (by kernel_rfl) (by kernel_rfl) (by kernel_rfl) (fun _ _ _ h => h) (Or.inl ⟨by rfl, fun w2 hSw => by go_simp⟩) hHeld ?_
  try simp only [Act.put, List.setIfInBounds_toArray, List.set_cons_zero, List.set_cons_succ]
  refine takeN (i := 1) (oi := _) (v := (.int .u64 (val : Int))) 44 rfl rfl (by kernel_rfl) (by kernel_rfl) (by kernel_rfl) (fun _ _ _ h => h) (Or.inl ⟨by rfl, fun w2 hSw => by (have hc := hSw.1; go_simp)⟩) hHeld ?_
  try simp only [Act.put, List.setIfInBounds_toArray, List.set_cons_zero, List.set_cons_succ]
  refine takeN (i := 2) (oi := _) (v := (.bool true)) 45 rfl rfl (by kernel_rfl) (by kernel_rfl) (by kernel_rfl) (fun _ _ _ h => h) (Or.inl ⟨by rfl, fun w2 hSw => by (have hc := hSw.2; go_simp)⟩) hHeld ?_
  try simp only [Act.put, List.setIfInBounds_toArray, List.set_cons_zero, List.set_cons_succ]
  refine takeN (i := 3) (oi := _) (v := (.int .u32 0)) 6 rfl rfl (by kernel_rfl) (by kernel_rfl) (by kernel_rfl) (fun _ _ _ h => h) (Or.inl ⟨by rfl, fun w2 hSw => by go_simp⟩) hHeld ?_
  try simp only [Act.put, List.setIfInBounds_toArray, List.set_cons_zero, List.set_cons_succ]
  refine wpAnyH_ready (rs := [4]) (by kernel_rfl) (by simp) ?_
  refine AllReadyH.cons rfl (fun K hK => ?_) AllReadyH.nil
  have hc1 := HSX.out.1
  have hf1 := frozen_of_row W11 _ 0 _ _ HO11.out
  go_simp
  rw [setCell_idem HO11.out]
  refine hK.out _ _ HSX.out (fun hHeld => ?_)
  clear hK hc1 hf1
  try simp only [Act.put, List.setIfInBounds_toArray, List.set_cons_zero, List.set_cons_succ]
  refine wpAnyH_ready (rs := [5]) (by kernel_rfl) (by simp) ?_
  refine AllReadyH.cons rfl (fun K hK => ?_) AllReadyH.nil
  have hc1 := HSX.out.2
  have hf1 := frozen_of_row W11 _ 0 _ _ HH11.out
  go_simp
  rw [setCell_idem HH11.out]
  refine hK.out _ _ HSX.out (fun hHeld => ?_)
  clear hK hc1 hf1
  try simp only [Act.put, List.setIfInBounds_toArray, List.set_cons_zero, List.set_cons_succ]
  refine takeN (i := 6) (oi := _) (v := (.int .i64 0)) 9 rfl rfl (by kernel_rfl) (by kernel_rfl) (by kernel_rfl) (fun _ _ _ h => h) (Or.inl ⟨by rfl, fun w2 hSw => by go_simp⟩) hHeld ?_
  try simp only [Act.put, List.setIfInBounds_toArray, List.set_cons_zero, List.set_cons_succ]
  refine wpAnyH_done (by kernel_rfl) ?_ _
  refine NoPanic.normal ?_
  go_wp2_with fail
  exact bodyPost_ret (results_tcct rfl _ _ _ _ _ _ _ _ rfl rfl rfl rfl (load_u64 (Joins.cell_of_block (i := 0) HO11.out)) (load_bool (Joins.cell_of_block (i := 0) HH11.out))) rfl ⟨rfl, HT11.out, _, _, _, _, _, K4, V4, HU11.out, HL11.out⟩
set_option maxRecDepth 100000 in
set_option maxHeartbeats 16000000 in
theorem LS.remove_ (h : LS w W k c q (dm1 r (.agg #[.int .i64 (kd : Int), .int .u64 (bi : Int), K2, V2]))) (hu : NO W K2 V2 [key] [val]) (hq : q < 900) (hc : c.now.length = 200) (hcn : C.lookN c.now (r : Int) = 1) (h0 : 0 < r) (h2 : r < 200) (hm2 : mayB ⟨kd, bi, [], []⟩ = true) (hk : ¬ (kd : Int) = 1) :
    Calls Tryz.prog 42 #[onS k, .int .u32 (r : Int), .int .u64 (key : Int)] W fun e w' => e = .returned (.tuple #[.int .u32 0, .int .u64 (val : Int), .bool true, .int .i64 0]) ∧ Hid (Q.Stays W w' k.touch ∧ LS w w' k (C.decS c r) (q + 1) dm0) := by
  have HST := Lib.hid (change_new W (onS k) key rfl)
  obtain ⟨hb4, h40, h41, h42, h43⟩ := box4c W (onS k) key
  obtain ⟨W4, hW4⟩ : ∃ W4, (box3 W key).alloc (.cells #[(onS k), .int .u64 (key : Int), .nilFunc, .nilFunc, .int .i64 0] 183) = W4 := ⟨_, rfl⟩
  rw [hW4] at hb4 h40 h41 h42 h43
  have HRM := Lib.hid (rem_of (on := onS k) hb4 h40 h41 h42 h43)
  have H43 := Lib.hid h43
  have HW4 := Lib.hid hW4
  clear hb4 h40 h41 h42 h43 hW4
  have HDN : Hid (∀ W6, Rem W W6 (onS k) key → Calls Tryz.prog 92 #[.pointer (some ⟨W.heap.size + 1 + 1 + 1, 0, none⟩), .int .u32 (r : Int)] W6 fun e w' => ∃ K' V', e = .returned (.tuple #[.agg (twA r kd bi K' V'), .int .i64 0]) ∧ Hid (NO w' K' V' [] [] ∧ w'.heap[W.heap.size + 1]? = some (.cells #[.int .u64 (val : Int)] 23 (0, 0)) ∧ w'.heap[W.heap.size + 1 + 1]? = some (.cells #[.bool true] 4 (0, 0)) ∧ Q.Stays W6 w' (fun j => j = W.heap.size + 1 ∨ j = W.heap.size + 1 + 1) ∧ NO w' K2 V2 [key] [val] ∧ LS w w' k c q (dm1 r (.agg #[.int .i64 (kd : Int), .int .u64 (bi : Int), K2, V2])))) := Lib.hid (fun W6 R => (h.below R.bel).chDown (hu.below R.bel) hc hcn h0 h2 hk _ _ _ _ _ R.cc R.ck R.co R.ch (by have := h.bel.size; omega) (by have := h.bel.size; omega) (fun g hg => by have := hu.glt hg; omega) (fun j hj => by have := h.mlt hj; omega))
  have HKP : Hid (∀ (W8 : World) (K' V' : Value), LS w W8 k c q (dm1 r (.agg #[.int .i64 (kd : Int), .int .u64 (bi : Int), K2, V2])) → NO W8 K2 V2 [key] [val] → NO W8 K' V' [] [] → W8.heap[W.heap.size + 1 + 1 + 1]? = some (.cells (chA (onS k) key (lfD W.heap.size (W.heap.size + 1) (W.heap.size + 1 + 1)) (.func (.func 100) #[] #[.pointer (some ⟨W.heap.size + 1 + 1 + 1, 0, none⟩)])) 183 (0, 0)) → Calls Tryz.prog 93 #[.pointer (some ⟨W.heap.size + 1 + 1 + 1, 0, none⟩), .agg (twA r kd bi K' V')] W8 fun e w' => e = .returned (.tuple #[.int .u32 (r : Int), .int .i64 0]) ∧ Hid (Q.Stays W8 w' k.touch ∧ ∃ K5 V5, NO w' K5 V5 [] [] ∧ LS w w' k c (q + 1) (dm1 r (.agg #[.int .i64 (kd : Int), .int .u64 (bi : Int), K5, V5])))) := Lib.hid (fun W8 K' V' hs hu2 hx hch => hs.chKeep hu2 hq hc h0 h2 K' V' hx (by simp) (by simp) hm2 _ key _ _ hch (fun e => by have := h.tlt e; omega))
  have HLW : Hid (∀ (W9 : World) (K5 V5 : Value), LS w W9 k c (q + 1) (dm1 r (.agg #[.int .i64 (kd : Int), .int .u64 (bi : Int), K5, V5])) → NO W9 K5 V5 [] [] → W9.heap[W.heap.size + 1 + 1 + 1]? = some (.cells (chA (onS k) key (lfD W.heap.size (W.heap.size + 1) (W.heap.size + 1 + 1)) (.func (.func 100) #[] #[.pointer (some ⟨W.heap.size + 1 + 1 + 1, 0, none⟩)])) 183 (0, 0)) → Calls Tryz.prog 102 #[.pointer (some ⟨W.heap.size + 1 + 1 + 1, 0, none⟩), .int .u32 (r : Int)] W9 fun e w' => e = .returned (.tuple #[.int .u32 0, .int .i64 0]) ∧ Hid (Q.Stays W9 w' k.touch ∧ LS w w' k (C.decS c r) (q + 1) dm0)) := Lib.hid (fun W9 K5 V5 hs hx hch => hs.chLower hx hc hcn h0 h2 hk _ key _ _ hch)
  have HWN := Lib.hid (fun j (hj : k.touch j) => h.tlt hj)
  clear h hu hcn hc hm2
  have hcz := change_zero
  have htz := twig_zero
  unfold LK.p at *
  unfold box3 at *
  go_enter Tryz.func42, Tryz.ntmps42
  go_upto_region 2 with (first
    | ((with_reducible show wpList _ _ _ ({ dst := _, op := .store _ _ _, type := _, pos := _, after := _, guard := _ } :: _) _ _); refine wpList_store_run rfl 183 (.tmp 10) (.tmp 14) rfl (W.heap.size + 1 + 1 + 1) 0 _ ?ws14 rfl rfl ?hs14 ?_; (case hs14 => exact HST.out))
    | fail)
  have hW4 := HW4.out
  rw [hW4]
  clear hW4 HW4 HST
  have c2 := Joins.cell_of_block (i := 2) H43.out
  have f2 := frozen_of_row _ _ 2 _ _ H43.out
  have h44 := Joins.block_setCell H43.out (i := 2) (lfD W.heap.size (W.heap.size + 1) (W.heap.size + 1 + 1))
  have c3 := Joins.cell_of_block (i := 3) h44
  have f3 := frozen_of_row _ _ 3 _ _ h44
  clear h44
  go_upto_region 4 with fail
  clear c2 f2 c3 f3 H43
  generalize (W4.setCell ⟨W.heap.size + 1 + 1 + 1, 2, none⟩ (lfD W.heap.size (W.heap.size + 1) (W.heap.size + 1 + 1))).setCell ⟨W.heap.size + 1 + 1 + 1, 3, none⟩ (.func (.func 100) #[] #[.pointer (some ⟨W.heap.size + 1 + 1 + 1, 0, none⟩)]) = W6 at HRM ⊢
  have HD6 := Lib.hid (HDN.out W6 HRM.out)
  clear HDN
  go_upto_region 5 with (first
    | (go_at_call 92; (with_reducible refine HD6.out.mono ?_); rintro e w7 ⟨K', V', rfl, h7⟩; have HX7 := Lib.hid h7.out.1; have HO7 := Lib.hid h7.out.2.1; have HH7 := Lib.hid h7.out.2.2.1; have HT7 := Lib.hid h7.out.2.2.2.1; have HU7 := Lib.hid h7.out.2.2.2.2.1; have HL7 := Lib.hid h7.out.2.2.2.2.2; clear h7; have HST7 := Lib.hid (twig_new r kd bi K' V' HX7.out.one.1 HX7.out.one.2 w7))
    | ((with_reducible show wpList _ _ _ ({ dst := _, op := .store _ _ _, type := _, pos := _, after := _, guard := _ } :: _) _ _); refine wpList_store_run rfl 186 (.tmp 11) (.tmp 22) rfl w7.heap.size 0 _ ?ws22 rfl rfl ?hs22 ?_; (case hs22 => exact HST7.out))
    | fail)
  obtain ⟨W8, hW8⟩ : ∃ W8, w7.alloc (.cells (twA r kd bi K' V') 186) = W8 := ⟨_, rfl⟩
  have hb8 : Below w7.heap.size w7 W8 := by rw [← hW8]; exact (Below.refl _ w7).alloc (Nat.le_refl _) _
  have hn8 : W8.heap[w7.heap.size]? = some (.cells (twA r kd bi K' V') 186 (0, 0)) := by rw [← hW8]; exact heap_alloc_new w7 _
  rw [hW8]
  have hc7 := (HT7.out.block (W.heap.size + 1 + 1 + 1) (Array.getElem?_eq_some_iff.1 HRM.out.cc).1 (fun e => by omega)).trans HRM.out.cc
  have HC8 := Lib.hid ((hb8.block _ (Array.getElem?_eq_some_iff.1 hc7).1).trans hc7)
  have HO8 := Lib.hid ((hb8.block _ (Array.getElem?_eq_some_iff.1 HO7.out).1).trans HO7.out)
  have HH8 := Lib.hid ((hb8.block _ (Array.getElem?_eq_some_iff.1 HH7.out).1).trans HH7.out)
  have HRN8 := Lib.hid (range_of hn8)
  have HB8 := Lib.hid hb8
  have HK8 := Lib.hid (HKP.out W8 K' V' (HL7.out.below hb8) (HU7.out.below hb8) (HX7.out.below hb8) HC8.out)
  clear hW8 hb8 hn8 hc7 HKP HST7 HD6
  go_upto_region 8 with (first
    | (go_at_call 93; (with_reducible refine HK8.out.mono ?_); rintro e w9 ⟨rfl, h9⟩)
    | ((with_reducible show wpList _ _ _ ({ dst := _, op := .load _ _, type := _, pos := _, after := _, guard := _ } :: _) _ _); refine wpList_load_mid rfl 186 (.tmp 11) rfl w7.heap.size 0 rfl [.int .u32 (r : Int), .int .i64 (kd : Int), .int .u64 (bi : Int), K', V'] _ ?hln Tryz.underlying186 rfl (twigL _ _ _ _ _) ?_; (case hln => exact HRN8.out))
    | fail)
  obtain ⟨s9, K5, V5, x9, l9⟩ := h9.out
  have hc9 := (s9.block _ (Array.getElem?_eq_some_iff.1 HC8.out).1 (fun e => by have := HWN.out _ e; omega)).trans HC8.out
  have HO9 := Lib.hid ((s9.block _ (Array.getElem?_eq_some_iff.1 HO8.out).1 (fun e => by have := HWN.out _ e; omega)).trans HO8.out)
  have HH9 := Lib.hid ((s9.block _ (Array.getElem?_eq_some_iff.1 HH8.out).1 (fun e => by have := HWN.out _ e; omega)).trans HH8.out)
  have HL9 := Lib.hid (HLW.out w9 K5 V5 l9 x9 hc9)
  have HS9 := Lib.hid s9
  clear h9 s9 x9 l9 hc9 HK8 HLW HRN8
  go_upto_region 13 with (first
    | (go_at_call 102; (with_reducible refine HL9.out.mono ?_); rintro e w10 ⟨rfl, h10⟩)
    | fail)
  obtain ⟨s10, l10⟩ := h10.out
  obtain ⟨W11, hW11⟩ : ∃ W11, w10.drew = W11 := ⟨_, rfl⟩
  have hb11 : Below w10.heap.size w10 W11 := by rw [← hW11]; exact (Below.refl _ w10).drew
  have ho10 := (s10.block _ (Array.getElem?_eq_some_iff.1 HO9.out).1 (fun e => by have := HWN.out _ e; omega)).trans HO9.out
  have hh10 := (s10.block _ (Array.getElem?_eq_some_iff.1 HH9.out).1 (fun e => by have := HWN.out _ e; omega)).trans HH9.out
  have HO11 := Lib.hid ((hb11.block _ (Array.getElem?_eq_some_iff.1 ho10).1).trans ho10)
  have HH11 := Lib.hid ((hb11.block _ (Array.getElem?_eq_some_iff.1 hh10).1).trans hh10)
  have HL11 := Lib.hid (l10.below hb11)
  have HT11 := Lib.hid ((((((Q.Stays.of_below HRM.out.bel k.touch).trans HT7.out (fun j e => .inr (by omega))).trans (Q.Stays.of_below HB8.out (fun _ => False)) (fun _ e => e.elim)).trans HS9.out (fun _ e => .inl e)).trans s10 (fun _ e => .inl e)).trans (Q.Stays.of_below hb11 (fun _ => False)) (fun _ e => e.elim))
  clear h10 s10 l10 hb11 ho10 hh10 HL9 HO9 HH9
  have SX : W11.cell? ⟨W.heap.size + 1, 0, none⟩ = some (.int .u64 (val : Int)) ∧ W11.cell? ⟨W.heap.size + 1 + 1, 0, none⟩ = some (.bool true) := ⟨Joins.cell_of_block (i := 0) HO11.out, Joins.cell_of_block (i := 0) HH11.out⟩
  have HSX := Lib.hid SX
  clear SX
  refine wp_region_noPanic ?_
  refine wp_region_held_drew (S := fun w' => w'.cell? ⟨W.heap.size + 1, 0, none⟩ = some (.int .u64 (val : Int)) ∧ w'.cell? ⟨W.heap.size + 1 + 1, 0, none⟩ = some (.bool true)) (by kernel_rfl) (by rw [hW11]; exact HSX.out) (fun hHeld => ?_)
  rw [hW11] at hHeld ⊢
  clear hW11
  refine takeN (i := 0) (oi := _) (v := (.int .u32 0)) 43 rfl rfl (by kernel_rfl) (by kernel_rfl) (by kernel_rfl) (fun _ _ _ h => h) (Or.inl ⟨by rfl, fun w2 hSw => by go_simp⟩) hHeld ?_
  try simp only [Act.put, List.setIfInBounds_toArray, List.set_cons_zero, List.set_cons_succ]
  refine takeN (i := 1) (oi := _) (v := (.int .u64 (val : Int))) 44 rfl rfl (by kernel_rfl) (by kernel_rfl) (by kernel_rfl) (fun _ _ _ h => h) (Or.inl ⟨by rfl, fun w2 hSw => by (have hc := hSw.1; go_simp)⟩) hHeld ?_
  try simp only [Act.put, List.setIfInBounds_toArray, List.set_cons_zero, List.set_cons_succ]
  refine takeN (i := 2) (oi := _) (v := (.bool true)) 45 rfl rfl (by kernel_rfl) (by kernel_rfl) (by kernel_rfl) (fun _ _ _ h => h) (Or.inl ⟨by rfl, fun w2 hSw => by (have hc := hSw.2; go_simp)⟩) hHeld ?_
  try simp only [Act.put, List.setIfInBounds_toArray, List.set_cons_zero, List.set_cons_succ]
  refine takeN (i := 3) (oi := _) (v := (.int .u32 0)) 6 rfl rfl (by kernel_rfl) (by kernel_rfl) (by kernel_rfl) (fun _ _ _ h => h) (Or.inl ⟨by rfl, fun w2 hSw => by go_simp⟩) hHeld ?_
  try simp only [Act.put, List.setIfInBounds_toArray, List.set_cons_zero, List.set_cons_succ]
  refine wpAnyH_ready (rs := [4]) (by kernel_rfl) (by simp) ?_
  refine AllReadyH.cons rfl (fun K hK => ?_) AllReadyH.nil
  have hc1 := HSX.out.1
  have hf1 := frozen_of_row W11 _ 0 _ _ HO11.out
  go_simp
  rw [setCell_idem HO11.out]
  refine hK.out _ _ HSX.out (fun hHeld => ?_)
  clear hK hc1 hf1
  try simp only [Act.put, List.setIfInBounds_toArray, List.set_cons_zero, List.set_cons_succ]
  refine wpAnyH_ready (rs := [5]) (by kernel_rfl) (by simp) ?_
  refine AllReadyH.cons rfl (fun K hK => ?_) AllReadyH.nil
  have hc1 := HSX.out.2
  have hf1 := frozen_of_row W11 _ 0 _ _ HH11.out
  go_simp
  rw [setCell_idem HH11.out]
  refine hK.out _ _ HSX.out (fun hHeld => ?_)
  clear hK hc1 hf1
  try simp only [Act.put, List.setIfInBounds_toArray, List.set_cons_zero, List.set_cons_succ]
  refine takeN (i := 6) (oi := _) (v := (.int .i64 0)) 9 rfl rfl (by kernel_rfl) (by kernel_rfl) (by kernel_rfl) (fun _ _ _ h => h) (Or.inl ⟨by rfl, fun w2 hSw => by go_simp⟩) hHeld ?_
  try simp only [Act.put, List.setIfInBounds_toArray, List.set_cons_zero, List.set_cons_succ]
  refine wpAnyH_done (by kernel_rfl) ?_ _
  refine NoPanic.normal ?_
  go_wp2_with fail
  exact bodyPost_ret (results_tcct rfl _ _ _ _ _ _ _ _ rfl rfl rfl rfl (load_u64 (Joins.cell_of_block (i := 0) HO11.out)) (load_bool (Joins.cell_of_block (i := 0) HH11.out))) rfl ⟨rfl, HT11.out, HL11.out⟩
end
end Go.Proofs.YtoclhiaidbfheaaGreatDoor.T
end

section
set_option linter.unusedVariables false
namespace Go.Proofs.YtoclhiaidbfheaaGreatDoor.T
open Go.RowKit Q S Go.ChangeMaps Go.MapKept

/-- what Delete keeps for its closure: a root, a key -/
structure Caps2 (W : World) (a r key : Nat) : Prop where
  c0 : W.heap[a]? = some (.cells #[.int .u32 (r : Int)] 22 (0, 0))
  c1 : W.heap[a + 1]? = some (.cells #[.int .u64 (key : Int)] 23 (0, 0))
theorem Caps2.off {W W' : World} {a r key : Nat} {G : Nat → Prop} (h : Caps2 W a r key) (hs : Q.Stays W W' G) (hn : ∀ j, a ≤ j → j ≤ a + 1 → ¬ G j) : Caps2 W' a r key :=
  ⟨(hs.block _ (Array.getElem?_eq_some_iff.1 h.c0).1 (hn _ (by omega) (by omega))).trans h.c0, (hs.block _ (Array.getElem?_eq_some_iff.1 h.c1).1 (hn _ (by omega) (by omega))).trans h.c1⟩
theorem Caps2.below {W W' : World} {a r key : Nat} (h : Caps2 W a r key) (hb : Below W.heap.size W W') : Caps2 W' a r key := h.off (Q.Stays.of_below hb (fun _ => False)) (fun _ _ _ e => e)
abbrev fnD (a : Nat) : Value := .func (.func 41) #[] #[.pointer (some ⟨a, 0, none⟩), .pointer (some ⟨a + 1, 0, none⟩)]
section
variable {w W W' : World} {k : LK} {c c' : C.CS} {q q' : Nat} {D D' : DataW Value} {b : Nat} {rm rm' : Int} {m1 nx nx' m2 : Nat} {q1 q1' : Nat} {D1 D1' : DataW Value} {q2 q2' : Nat} {D2 D2' : DataW Value} {B : Nat}
variable {r : Nat} {kd bi key val : Nat} {K2 V2 : Value}
set_option maxRecDepth 100000 in
set_option maxHeartbeats 4000000 in
theorem TS.removec (h : TS w W k c q (dm1 r (.agg #[.int .i64 (kd : Int), .int .u64 (bi : Int), K2, V2])) b rm m1 nx m2 q1 dm0 q2 D2 B) (hu : NO W K2 V2 [key] [val]) (hq : q < 900) (hq1 : q1 < 900) (hq2 : q2 < 900) (hr : 0 ≤ rm) (hr2 : rm < 1000) (hc : c.now.length = 200) (hcn : C.lookN c.now (r : Int) = 1) (hct : D2.atKey (keyN r) (.held (.int .i64 0)) = .held (.int .i64 0)) (h0 : 0 < r) (h2 : r < 200) (hm : mayB ⟨kd, bi, [key], [val]⟩ = true) (hm2 : mayB ⟨kd, bi, [], []⟩ = true) (hk : ¬ (kd : Int) = 1) (a : Nat) (hcp : Caps2 W a r key) :
    Calls Tryz.prog 41 #[onT b, .pointer (some ⟨a, 0, none⟩), .pointer (some ⟨a + 1, 0, none⟩)] W fun e w' => e = .returned (.tuple #[.int .u32 0, .int .u64 (val : Int), .bool true, .int .i64 0]) ∧ Hid (Q.Stays W w' (gts k b m1 m2) ∧ ∃ rm' q1' D1' q2' D2' K4 V4, NO w' K4 V4 [key] [val] ∧ TS w w' k c (q + 1) (dm1 r (.agg #[.int .i64 (kd : Int), .int .u64 (bi : Int), K4, V4])) b rm' m1 nx m2 q1' D1' q2' D2' B) := by
  have HP := Lib.hid (h.remove_ hu hq hq1 hq2 hr hr2 hc hcn hct h0 h2 hm hm2 hk)
  have hc0 := Joins.cell_of_block (i := 0) hcp.c0
  have hc1 := Joins.cell_of_block (i := 0) hcp.c1
  clear h hu hcp hm2 hcn hc hct hm
  go_enter Tryz.func41, Tryz.ntmps41
  go_wp2_with (first
    | (go_at_call 42; (with_reducible refine HP.out.mono ?_); rintro e w1 ⟨rfl, h1⟩)
    | fail)
  exact bodyPost_ret (results_tmp4 rfl _ _ _) rfl ⟨rfl, h1.out⟩
set_option maxRecDepth 100000 in
set_option maxHeartbeats 4000000 in
theorem LS.removec (h : LS w W k c q (dm1 r (.agg #[.int .i64 (kd : Int), .int .u64 (bi : Int), K2, V2]))) (hu : NO W K2 V2 [key] [val]) (hq : q < 900) (hc : c.now.length = 200) (hcn : C.lookN c.now (r : Int) = 1) (h0 : 0 < r) (h2 : r < 200) (hm2 : mayB ⟨kd, bi, [], []⟩ = true) (hk : ¬ (kd : Int) = 1) (a : Nat) (hcp : Caps2 W a r key) :
    Calls Tryz.prog 41 #[onS k, .pointer (some ⟨a, 0, none⟩), .pointer (some ⟨a + 1, 0, none⟩)] W fun e w' => e = .returned (.tuple #[.int .u32 0, .int .u64 (val : Int), .bool true, .int .i64 0]) ∧ Hid (Q.Stays W w' k.touch ∧ LS w w' k (C.decS c r) (q + 1) dm0) := by
  have HP := Lib.hid (h.remove_ hu hq hc hcn h0 h2 hm2 hk)
  have hc0 := Joins.cell_of_block (i := 0) hcp.c0
  have hc1 := Joins.cell_of_block (i := 0) hcp.c1
  clear h hu hcp hm2 hcn hc
  go_enter Tryz.func41, Tryz.ntmps41
  go_wp2_with (first
    | (go_at_call 42; (with_reducible refine HP.out.mono ?_); rintro e w1 ⟨rfl, h1⟩)
    | fail)
  exact bodyPost_ret (results_tmp4 rfl _ _ _) rfl ⟨rfl, h1.out⟩
set_option maxRecDepth 100000 in
set_option maxHeartbeats 8000000 in
theorem LS.triedD (h : LS w W k c q (dm1 r (.agg #[.int .i64 (kd : Int), .int .u64 (bi : Int), K2, V2]))) (hu : NO W K2 V2 [key] [val]) (hq : q < 800) (rn : Nat) (hrn : C.roomN c c.now.length = rn) (hr2 : rn < 1000) (hc : c.now.length = 200) (hcn : C.lookN c.now (r : Int) = 1) (h0 : 0 < r) (h2 : r < 200) (hm : mayB ⟨kd, bi, [key], [val]⟩ = true) (hm2 : mayB ⟨kd, bi, [], []⟩ = true) (hk : ¬ (kd : Int) = 1) (a : Nat) (hcp : Caps2 W a r key) (ha : ∀ i, k.touch i → ¬ (a ≤ i ∧ i ≤ a + 1)) :
    Calls Tryz.prog 33 #[k.p, fnD a] W fun e w' => e = .returned (.tuple #[.int .u32 0, .int .u64 (val : Int), .bool true, .int .i64 0]) ∧ Hid (Q.Stays W w' k.touch ∧ LS w w' k (C.decS c r) (q + 1 + 1) dm0) := by
  have hsu := h.super
  have hu1 : (uC 200 60)[1]? = some (.int .i64 200) := rfl
  have hu2 : (uC 200 60)[2]? = some (.int .i64 60) := rfl
  have hone : (uC 200 60).toArray.all (·.oneCell') = true := by have := cellsS_all (firstU 200 60); rw [show (firstU 200 60).cells = (uC 200 60).toArray by simp [uC]] at this; exact this
  have hul := uC_len 200 60
  obtain ⟨cl, hcl⟩ : ∃ cl, uC 200 60 = cl := ⟨_, rfl⟩
  rw [hcl] at hsu hu1 hu2 hone hul
  clear hcl
  have HST : Hid (∀ w1 : World, (storeVar 144 ⟨w1.heap.size, 0, none⟩ (.agg cl.toArray)).run Tryz.prog (w1.alloc (.cells zeroSC 144)) = .ok () (w1.alloc (.cells cl.toArray 144))) := Lib.hid (fun w1 => run_storeVar_new w1 144 zeroSC cl.toArray (by rw [List.size_toArray, hul]; kernel_rfl) (by simp only [List.size_toArray, hul]; rfl) hone)
  have HU1 := Lib.hid hu1
  have HU2 := Lib.hid hu2
  have HSU := Lib.hid hsu
  have HL := Lib.hid h
  have HCP := Lib.hid hcp
  have HC := Lib.hid hc
  have HCN := Lib.hid hcn
  have HU := Lib.hid hu
  have HA := Lib.hid ha
  have HRN := Lib.hid hrn
  have HM2 := Lib.hid hm2
  have HM := Lib.hid hm
  have hzs := sup_zero
  clear h hc hcp hcn hu ha hrn hm hm2 hsu hu1 hu2 hul hone
  unfold LK.p at *
  go_enter Tryz.func33, Tryz.ntmps33
  go_upto_region 2 with (first
    | (go_at_call 68; (with_reducible refine HSU.out.mono ?_); rintro e w1 ⟨rfl, hb1⟩; have HB1 := Lib.hid hb1; have HS1 := Lib.hid (HST.out w1); clear hb1)
    | ((with_reducible show wpList _ _ _ ({ dst := _, op := .store _ _ _, type := _, pos := _, after := _, guard := _ } :: _) _ _); refine wpList_store_run rfl 144 (.tmp 8) (.tmp 16) rfl w1.heap.size 0 _ ?ws16 rfl rfl ?hs16 ?_; (case hs16 => exact HS1.out))
    | fail)
  obtain ⟨W2, hW2⟩ : ∃ W2, w1.alloc (.cells cl.toArray 144) = W2 := ⟨_, rfl⟩
  have hb2 : Below w1.heap.size w1 W2 := by rw [← hW2]; exact (Below.refl _ w1).alloc (Nat.le_refl _) _
  have hn2 : W2.heap[w1.heap.size]? = some (.cells cl.toArray 144 (0, 0)) := by rw [← hW2]; exact heap_alloc_new w1 _
  rw [hW2]
  have hz1 : W2.cell? ⟨w1.heap.size, 1, none⟩ = some (.int .i64 200) := (Joins.cell_of_block hn2 1).trans (by rw [List.getElem?_toArray]; exact HU1.out)
  have hz2 : W2.cell? ⟨w1.heap.size, 2, none⟩ = some (.int .i64 60) := (Joins.cell_of_block hn2 2).trans (by rw [List.getElem?_toArray]; exact HU2.out)
  have HB2 := Lib.hid (HB1.out.trans (hb2.mono HB1.out.size))
  clear hW2 hb2 hn2 HS1 HST HSU HU1 HU2 hzs
  have hmm := @run_makeMap Tryz.prog
  have htz := trial_zero
  go_upto_region 3 with fail
  obtain ⟨W3, hW3⟩ : ∃ W3, ((W2.alloc (.map #[] 0)).alloc (.map #[] 0)).alloc (.cells #[.pointer (some ⟨k.bs, 0, none⟩), .int .u32 200, .int .u32 60, .int .i64 0, .map (some W2.heap.size), .int .u32 200, .map (some (W2.heap.size + 1)), .int .i64 0, .bool false] 176) = W3 := ⟨_, rfl⟩
  have hb3 : Below W2.heap.size W2 W3 := by
    rw [← hW3]
    refine (((Below.refl _ W2).alloc (Nat.le_refl _) _).alloc ?_ _).alloc ?_ _ <;> simp only [World.size_alloc] <;> omega
  have hn3 : W3.heap[W2.heap.size + 1 + 1]? = some (.cells #[.pointer (some ⟨k.bs, 0, none⟩), .int .u32 200, .int .u32 60, .int .i64 0, .map (some W2.heap.size), .int .u32 200, .map (some (W2.heap.size + 1)), .int .i64 0, .bool false] 176 (0, 0)) := by
    rw [← hW3]
    exact heap_at _ _ _ (by simp only [World.size_alloc])
  rw [hW3]
  have hrm := (HL.out.below (HB2.out.trans (hb3.mono HB2.out.size))).room
  rw [HRN.out] at hrm
  unfold LK.p at hrm
  have HRM := Lib.hid hrm
  have h3 : W3.drew.cell? ⟨W2.heap.size + 1 + 1, 3, none⟩ = some (.int .i64 0) := Joins.cell_of_block (i := 3) hn3
  have f3 := frozen_of_row W3.drew (W2.heap.size + 1 + 1) 3 _ _ hn3
  clear hrm hb3 hn3 hmm htz hz1 hz2
  go_upto_region 4 with (first
    | (go_at_call 85; (with_reducible refine HRM.out.mono ?_); rintro e w4 ⟨rfl, hw4⟩; subst w4)
    | fail)
  obtain ⟨hb4, t4⟩ := tri_facts W2 (.pointer (some ⟨k.bs, 0, none⟩)) (rn : Int)
  have hW4 : (W3.setCell ⟨W2.heap.size + 1 + 1, 3, none⟩ (.int .i64 (rn : Int))).drew = tri W2 (.pointer (some ⟨k.bs, 0, none⟩)) (rn : Int) := by rw [← hW3]; rfl
  rw [hW4]
  clear hW4 hW3 h3 f3 HRM
  generalize tri W2 (.pointer (some ⟨k.bs, 0, none⟩)) (rn : Int) = W4 at hb4 t4 ⊢
  have HB4 := Lib.hid (HB2.out.trans (hb4.mono HB2.out.size))
  have HSZ2 : Hid (W.heap.size ≤ W2.heap.size) := Lib.hid HB2.out.size
  have ts4 : TS w W4 k c q (dm1 r (.agg #[.int .i64 (kd : Int), .int .u64 (bi : Int), K2, V2])) (W2.heap.size + 1 + 1) (rn : Int) W2.heap.size 200 (W2.heap.size + 1) 0 dm0 0 dm0 W.heap.size := ⟨(LB.start HL.out).on (Q.Stays.of_below HB4.out (fun _ => False)) (fun _ e => e.elim), t4, fun j hj => by have := HSZ2.out; rcases hj with e | e | e <;> omega⟩
  have HC4 := Lib.hid (HCP.out.below HB4.out)
  have HPT := Lib.hid (ts4.removec (HU.out.below HB4.out) (by omega) (by omega) (by omega) (by omega) (by omega) HC.out HCN.out (at_none r _) h0 h2 HM.out HM2.out hk a HC4.out)
  have HCL : Hid (a + 1 < W.heap.size) := Lib.hid (Array.getElem?_eq_some_iff.1 HCP.out.c1).1
  have HTL := Lib.hid (fun j (hj : k.touch j) => HL.out.tlt hj)
  clear hb4 t4 ts4
  go_upto_region 5 with (first
    | (go_at_call 41; (with_reducible refine HPT.out.mono ?_); rintro e w5 ⟨rfl, h5⟩)
    | fail)
  obtain ⟨s5, rm5, p5, E5, r5, F5, K4, V4, u5, ts5⟩ := h5.out
  have HTT : Hid (∀ j, tts (W2.heap.size + 1 + 1) W2.heap.size (W2.heap.size + 1) j → W.heap.size ≤ j) := Lib.hid ts5.hi
  have HV := Lib.hid (ts5.tt.box.verdict 0)
  have HC5 := Lib.hid (HC4.out.off s5 (fun j h1 h2 e => by
    rcases e with e | e
    · exact HA.out j e ⟨h1, h2⟩
    · have := HTT.out j e; have := HCL.out; omega))
  have HPS := Lib.hid (ts5.lb.ls.removec u5 (by omega) HC.out HCN.out h0 h2 HM2.out hk a HC5.out)
  have HS5 := Lib.hid s5
  clear h5 s5 ts5 HPT u5
  go_wp2_with (first
    | (go_at_call 86; (with_reducible refine HV.out.mono ?_); rintro e w6 ⟨rfl, hw6⟩; subst w6)
    | (go_at_call 41; (with_reducible refine HPS.out.mono ?_); rintro e w7 ⟨rfl, h7⟩)
    | fail)
  obtain ⟨s7, l7⟩ := h7.out
  exact bodyPost_ret (results_tmp4 rfl _ _ _) rfl ⟨rfl, (((Q.Stays.of_below HB4.out k.touch).trans HS5.out (fun j e => by rcases e with e | e; (exact .inl e); (exact .inr (HTT.out j e)))).trans s7 (fun _ e => .inl e)), l7⟩
set_option maxRecDepth 100000 in
set_option maxHeartbeats 8000000 in
theorem LS.Delete (h : LS w W k c q (dm1 r (.agg #[.int .i64 (kd : Int), .int .u64 (bi : Int), K2, V2]))) (hu : NO W K2 V2 [key] [val]) (hq : q < 800) (rn : Nat) (hrn : C.roomN c c.now.length = rn) (hr2 : rn < 1000) (hc : c.now.length = 200) (hcn : C.lookN c.now (r : Int) = 1) (h0 : 0 < r) (h2 : r < 200) (hm : mayB ⟨kd, bi, [key], [val]⟩ = true) (hm2 : mayB ⟨kd, bi, [], []⟩ = true) (hk : ¬ (kd : Int) = 1) :
    Calls Tryz.prog 10 #[k.p, .int .u32 (r : Int), .int .u64 (key : Int)] W fun e w' => e = .returned (.tuple #[.int .u32 0, .int .u64 (val : Int), .bool true, .int .i64 0]) ∧ Hid (Q.Stays W w' k.touch ∧ LS w w' k (C.decS c r) (q + 1 + 1) dm0) := by
  obtain ⟨W2, hW2⟩ : ∃ W2, (W.alloc (.cells #[.int .u32 (r : Int)] 22)).alloc (.cells #[.int .u64 (key : Int)] 23) = W2 := ⟨_, rfl⟩
  have hb2 : Below W.heap.size W W2 := by
    rw [← hW2]
    refine ((Below.refl _ W).alloc (Nat.le_refl _) _).alloc ?_ _
    simp only [World.size_alloc]
    omega
  have hcp : Caps2 W2 W.heap.size r key := by
    rw [← hW2]
    exact ⟨first_at W _ _, heap_at _ _ _ (by simp only [World.size_alloc])⟩
  have l2 := h.below hb2
  have u2 := hu.below hb2
  have HG := Lib.hid (l2.get u2 hc h0 h2 hk)
  have HTR : Hid (∀ W', Below W2.heap.size W2 W' → Calls Tryz.prog 33 #[k.p, fnD W.heap.size] W' fun e w' => e = .returned (.tuple #[.int .u32 0, .int .u64 (val : Int), .bool true, .int .i64 0]) ∧ Hid (Q.Stays W' w' k.touch ∧ LS w w' k (C.decS c r) (q + 1 + 1) dm0)) := Lib.hid (fun W' hb' => (l2.below hb').triedD (u2.below hb') hq rn hrn hr2 hc hcn h0 h2 hm hm2 hk W.heap.size (hcp.below hb') (fun i hi => by have := h.tlt hi; omega))
  have HB2 := Lib.hid hb2
  have hc0 := Joins.cell_of_block (i := 0) hcp.c0
  have hc1 := Joins.cell_of_block (i := 0) hcp.c1
  clear h hu hb2 hcp l2 u2 hrn hc hcn hm hm2
  unfold LK.p at *
  go_enter Tryz.func10, Tryz.ntmps10
  go_upto_region 2 with (first
    | (go_at_call 9; (with_reducible refine HG.out.mono ?_); rintro e w3 ⟨rfl, hb3⟩; have HB3 := Lib.hid hb3; clear hb3)
    | fail)
  clear hW2 hc0 hc1
  go_wp2_with (first
    | (go_at_call 33; (with_reducible refine (HTR.out _ HB3.out).mono ?_); rintro e w6 ⟨rfl, h6⟩)
    | fail)
  obtain ⟨s6, l6⟩ := h6.out
  exact bodyPost_ret (results_tmp4 rfl _ _ _) rfl ⟨rfl, ((Q.Stays.of_below (HB2.out.trans (HB3.out.mono HB2.out.size)) k.touch).trans s6 (fun _ e => .inl e)), l6⟩
end
end Go.Proofs.YtoclhiaidbfheaaGreatDoor.T
end

section
set_option linter.unusedVariables false
namespace Go.Proofs.YtoclhiaidbfheaaGreatDoor.T
open Go.RowKit Q S Go.ChangeMaps Go.MapKept

theorem alloc_T : C.allocK cT = some 4 := by kernel_rfl
theorem turn_T : C.turn cT 4 = 4 := by kernel_rfl
theorem room_T : C.roomN cT cT.now.length = 196 := by kernel_rfl
def cU : C.CS := C.allocS cT 4
theorem len_U : cU.now.length = 200 := by kernel_rfl
theorem look_U : C.lookN cU.now ((4 : Nat) : Int) = 1 := by kernel_rfl
theorem room_U : C.roomN cU cU.now.length = 195 := by kernel_rfl
theorem may_1 : mayB ⟨((3 : Nat) : Int), 0, [5], [9]⟩ = true := by decide
theorem may_2 : mayB ⟨((3 : Nat) : Int), 2, [5], [9]⟩ = true := by decide
theorem may_3 : mayB ⟨((3 : Nat) : Int), 2, [], []⟩ = true := by decide
set_option maxRecDepth 100000 in
theorem put_T {w W : World} {k : LK} (h : LS w W k cT 0 dm0) : Calls Tryz.prog 7 #[k.p, .int .u32 0, .int .i64 3, .int .u64 5, .int .u64 9] W fun e w' => e = .returned (.tuple #[.int .u32 4, .int .u64 0, .bool false, .int .i64 0]) ∧ Hid (∃ K2 V2, NO w' K2 V2 [5] [9] ∧ LS w w' k cU 1 (dm1 4 (.agg #[.int .i64 ((3 : Nat) : Int), .int .u64 ((2 : Nat) : Int), K2, V2]))) := by
  have hp := h.Put (by omega) 196 room_T (by omega) (by omega) (j := 4) alloc_T (by rw [turn_T]; omega) 3 5 9 rfl may_1
  rw [turn_T] at hp
  exact hp.mono fun e w' ⟨he, h1⟩ => ⟨he, h1.out.2⟩
set_option maxRecDepth 100000 in
theorem get_T {w W : World} {k : LK} {K2 V2 : Value} (h : LS w W k cU 1 (dm1 4 (.agg #[.int .i64 ((3 : Nat) : Int), .int .u64 ((2 : Nat) : Int), K2, V2]))) (hu : NO W K2 V2 [5] [9]) : Calls Tryz.prog 9 #[k.p, .int .u32 4, .int .u64 5] W fun e w' => e = .returned (.tuple #[.int .u64 9, .bool true, .int .i64 0]) ∧ Below W.heap.size W w' :=
  h.get hu len_U (by omega) (by omega) (by omega)
set_option maxRecDepth 100000 in
theorem del_T {w W : World} {k : LK} {K2 V2 : Value} (h : LS w W k cU 1 (dm1 4 (.agg #[.int .i64 ((3 : Nat) : Int), .int .u64 ((2 : Nat) : Int), K2, V2]))) (hu : NO W K2 V2 [5] [9]) : Calls Tryz.prog 10 #[k.p, .int .u32 4, .int .u64 5] W fun e w' => e = .returned (.tuple #[.int .u32 0, .int .u64 9, .bool true, .int .i64 0]) ∧ Below w.heap.size w w' :=
  (h.Delete hu (by omega) 195 room_U (by omega) len_U look_U (by omega) (by omega) may_2 may_3 (by omega)).mono fun e w' ⟨he, h1⟩ => ⟨he, h1.out.2.bel⟩
set_option maxRecDepth 100000 in
set_option maxHeartbeats 4000000 in
theorem known_tree {w W : World} (hT : Tabs w) (hW : Wids w) (hb : Below w.heap.size w W) : Calls Tryz.prog 13 #[] W fun e w' => e = .returned (.bool true) ∧ Below w.heap.size w w' := by
  have HM := Lib.hid (made_ls hT hW hb)
  have HP : Hid (∀ (k : LK) (W : World), LS w W k cT 0 dm0 → Calls Tryz.prog 7 #[.pointer (some ⟨k.bs, 0, none⟩), .int .u32 0, .int .i64 3, .int .u64 5, .int .u64 9] W fun e w' => e = .returned (.tuple #[.int .u32 4, .int .u64 0, .bool false, .int .i64 0]) ∧ Hid (∃ K2 V2, NO w' K2 V2 [5] [9] ∧ LS w w' k cU 1 (dm1 4 (.agg #[.int .i64 ((3 : Nat) : Int), .int .u64 ((2 : Nat) : Int), K2, V2])))) := Lib.hid (fun k W h => put_T h)
  have HG : Hid (∀ (k : LK) (W : World) (K2 V2 : Value), LS w W k cU 1 (dm1 4 (.agg #[.int .i64 ((3 : Nat) : Int), .int .u64 ((2 : Nat) : Int), K2, V2])) → NO W K2 V2 [5] [9] → Calls Tryz.prog 9 #[.pointer (some ⟨k.bs, 0, none⟩), .int .u32 4, .int .u64 5] W fun e w' => e = .returned (.tuple #[.int .u64 9, .bool true, .int .i64 0]) ∧ Below W.heap.size W w') := Lib.hid (fun k W K2 V2 h hu => get_T h hu)
  have HD : Hid (∀ (k : LK) (W : World) (K2 V2 : Value), LS w W k cU 1 (dm1 4 (.agg #[.int .i64 ((3 : Nat) : Int), .int .u64 ((2 : Nat) : Int), K2, V2])) → NO W K2 V2 [5] [9] → Calls Tryz.prog 10 #[.pointer (some ⟨k.bs, 0, none⟩), .int .u32 4, .int .u64 5] W fun e w' => e = .returned (.tuple #[.int .u32 0, .int .u64 9, .bool true, .int .i64 0]) ∧ Below w.heap.size w w') := Lib.hid (fun k W K2 V2 h hu => del_T h hu)
  clear hT hW hb
  unfold LK.p at *
  go_enter Tryz.func13, Tryz.ntmps13
  go_wp2_with (first
    | (go_at_call 6; (with_reducible refine HM.out.mono ?_); rintro e w1 ⟨k, rfl, h1⟩; have HP1 := Lib.hid (HP.out k _ h1.out))
    | (go_at_call 7; (with_reducible refine HP1.out.mono ?_); rintro e w2 ⟨rfl, h2⟩; obtain ⟨K2, V2, x2, l2⟩ := h2.out; have HX2 := Lib.hid x2; have HL2 := Lib.hid l2; have HG2 := Lib.hid (HG.out k _ K2 V2 l2 x2); clear x2 l2 h2)
    | (go_at_call 9; (with_reducible refine HG2.out.mono ?_); rintro e w3 ⟨rfl, hb3⟩; have HD3 := Lib.hid (HD.out k _ K2 V2 (HL2.out.below hb3) (HX2.out.below hb3)); clear hb3)
    | (go_at_call 10; (with_reducible refine HD3.out.mono ?_); rintro e w4 ⟨rfl, hb4⟩)
    | fail)
  go_ret
  exact ⟨rfl, hb4⟩
end Go.Proofs.YtoclhiaidbfheaaGreatDoor.T
end
