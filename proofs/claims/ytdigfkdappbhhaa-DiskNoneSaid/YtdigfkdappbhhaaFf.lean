/- Disks that are not there; the law's closed sentence DiskNone. -/
import Derived.Test.YtdigfkdappbhhaaFe
set_option linter.unusedVariables false
namespace Go.Proofs.Ytdigfkdappbhhaa
open Go.RowKit

/-- there is no disk -/
def ND (p : Value) (W : World) : Prop := Calls Try.prog 38 #[p] W fun e w' => e = .returned (.bool true) ∧ W = w'
theorem nd_nil (W : World) : ND (.pointer none) W := none_nil W
theorem nd_zero (W : World) (z : Nat) (h : W.heap[z]? = some (.cells #[.slice none 0 0, .map none, .bool false, .int .i64 0, .bool false] 73 (0, 0))) : ND (.pointer (some ⟨z, 0, none⟩)) W :=
  none_zero W z (by rw [cell_of_row W z 0 _ _ _ h]; rfl)
theorem nd_flush {p : Value} {W : World} (h : ND p W) : Calls Try.prog 28 #[p] W fun e w' => e = .returned (.int .i64 1) ∧ W = w' := by
  have HN := Lib.hid h
  clear h
  go_enter Try.func28, Try.ntmps28
  go_wp2_with (go_at_call 38; refine (HN.out : Calls _ _ _ _ _).mono ?_; rintro e w' ⟨rfl, rfl⟩)
  go_ret
  exact ⟨rfl, rfl⟩
theorem nd_fuse {p : Value} {W : World} (h : ND p W) (n : Int) : Calls Try.prog 27 #[p, .int .i64 n] W fun e w' => e = .returned (.int .i64 1) ∧ W = w' := by
  have HN := Lib.hid h
  clear h
  go_enter Try.func27, Try.ntmps27
  go_wp2_with (go_at_call 38; refine (HN.out : Calls _ _ _ _ _).mono ?_; rintro e w' ⟨rfl, rfl⟩)
  go_ret
  exact ⟨rfl, rfl⟩
theorem nd_crash {p : Value} {W : World} (h : ND p W) (u : Value) : Calls Try.prog 21 #[p, u] W fun e w' => e = .returned (.int .i64 1) ∧ W = w' := by
  have HN := Lib.hid h
  clear h
  go_enter Try.func21, Try.ntmps21
  go_wp2_with (go_at_call 38; refine (HN.out : Calls _ _ _ _ _).mono ?_; rintro e w' ⟨rfl, rfl⟩)
  go_ret
  exact ⟨rfl, rfl⟩
theorem nd_grow {p : Value} {W : World} (h : ND p W) (n : Int) : Calls Try.prog 33 #[p, .int .i64 n] W fun e w' => e = .returned (.int .i64 1) ∧ W = w' := by
  have HN := Lib.hid h
  clear h
  go_enter Try.func33, Try.ntmps33
  go_wp2_with (go_at_call 38; refine (HN.out : Calls _ _ _ _ _).mono ?_; rintro e w' ⟨rfl, rfl⟩)
  go_ret
  exact ⟨rfl, rfl⟩
theorem nd_sectors {p : Value} {W : World} (h : ND p W) : Calls Try.prog 24 #[p] W fun e w' => e = .returned (.int .i64 0) ∧ W = w' := by
  have HN := Lib.hid h
  clear h
  go_enter Try.func24, Try.ntmps24
  go_wp2_with (go_at_call 38; refine (HN.out : Calls _ _ _ _ _).mono ?_; rintro e w' ⟨rfl, rfl⟩)
  go_ret
  exact ⟨rfl, rfl⟩
theorem nd_dead {p : Value} {W : World} (h : ND p W) : Calls Try.prog 34 #[p] W fun e w' => e = .returned (.bool false) ∧ W = w' := by
  have HN := Lib.hid h
  clear h
  go_enter Try.func34, Try.ntmps34
  go_wp2_with (go_at_call 38; refine (HN.out : Calls _ _ _ _ _).mono ?_; rintro e w' ⟨rfl, rfl⟩)
  go_ret
  exact ⟨rfl, rfl⟩
theorem nd_place {p : Value} {W : World} (h : ND p W) (n : Int) : Calls Try.prog 44 #[p, .int .i64 n] W fun e w' => e = .returned (.int .i64 1) ∧ W = w' := by
  have HN := Lib.hid h
  clear h
  go_enter Try.func44, Try.ntmps44
  go_wp2_with (go_at_call 38; refine (HN.out : Calls _ _ _ _ _).mono ?_; rintro e w' ⟨rfl, rfl⟩)
  go_ret
  exact ⟨rfl, rfl⟩

/-- the world in which a zero disk lies, and a real one -/
structure NW (w W : World) (z b : Nat) : Prop where
  zero : W.heap[z]? = some (.cells #[.slice none 0 0, .map none, .bool false, .int .i64 0, .bool false] 73 (0, 0))
  a : Kn w W b (newD 8192)
theorem NW.below {w W W' : World} {z b : Nat} (h : NW w W z b) (hb : Below W.heap.size W W') : NW w W' z b := ⟨(hb.block z (Array.getElem?_eq_some_iff.1 h.zero).1).trans h.zero, h.a.below hb⟩

theorem zero_write (c : Value) (p : Value) (W : World) (h : ∀ W', Below W.heap.size W W' → ND p W') :
    Calls Try.prog 29 #[p, .int .i64 0, .agg (cells8 (fullN 0 0)).toArray] W fun e w' => e = .returned (.int .i64 1) ∧ Below W.heap.size W w' := by
  rw [zero_sec]
  exact pwrite_no W p 0 1 0 rfl (fun W' hW => nd_place (h W' hW) 0)
theorem zero_read (p : Value) (W : World) (h : ∀ W', Below W.heap.size W W' → ND p W') :
    Calls Try.prog 25 #[p, .int .i64 0] W fun e w' => e = .returned (.tuple #[.agg (sec 0).toArray, .int .i64 1]) ∧ Below W.heap.size W w' :=
  read_no W p 0 1 rfl (fun W' hW => nd_place (h W' hW) 0)
theorem kn_none {w W : World} {b : Nat} {d : RD} (h : Kn w W b d) : Calls Try.prog 38 #[.pointer (some ⟨b, 0, none⟩)] W fun e w' => e = .returned (.bool false) ∧ W = w' := by
  obtain ⟨F, ⟨L, m, D, X, hp, _⟩, _⟩ := h
  exact none_any W b m L D X d hp
theorem kn_sectors {w W : World} {b : Nat} {d : RD} (h : Kn w W b d) : Calls Try.prog 24 #[.pointer (some ⟨b, 0, none⟩)] W fun e w' => e = .returned (.int .i64 (d.s.length : Int)) ∧ W = w' := by
  obtain ⟨F, ⟨L, m, D, X, hp, _⟩, _⟩ := h
  exact sectors_any W b m L D X d hp
theorem Kn.grow {w W : World} {b : Nat} {d d' : RD} {er : Int} (h : Kn w W b d) (n : Int) (hr : grR d n = er) (hd : grD d n = d') :
    Calls Try.prog 33 #[.pointer (some ⟨b, 0, none⟩), .int .i64 n] W fun e w' => e = .returned (.int .i64 er) ∧ Kn w w' b d' := by
  have h0 := h
  obtain ⟨F, h1, h2, h3⟩ := h
  have hc := pd_grow W F b d h1 n
  rw [hr, hd] at hc
  exact hc.mono fun e w' hp => ⟨hp.1, h0.done F h2 hp⟩
theorem Kn.fuse {w W : World} {b : Nat} {d d' : RD} {er : Int} (h : Kn w W b d) (n : Int) (hn : n ≤ 9223372036854775807) (hr : fuR n = er) (hd : fuD d n = d') :
    Calls Try.prog 27 #[.pointer (some ⟨b, 0, none⟩), .int .i64 n] W fun e w' => e = .returned (.int .i64 er) ∧ Kn w w' b d' := by
  have h0 := h
  obtain ⟨F, h1, h2, h3⟩ := h
  have hc := pd_fuse W F b d h1 n hn
  rw [hr, hd] at hc
  exact hc.mono fun e w' hp => ⟨hp.1, h0.done F h2 hp⟩
theorem new_len (n : Nat) : (newD n).s.length = n := by simp [newD]
theorem new_more (n : Nat) : moreD (newD n) 0 = newD n := by simp [moreD]

set_option maxRecDepth 10000 in
set_option maxHeartbeats 4000000 in
theorem none_law (w : World) : Calls Try.prog 8 #[] w fun e w' => e = .returned (.bool true) ∧ Below w.heap.size w w' := by
  have hzv := zero_sector
  go_enter Try.func8, Try.ntmps8
  go_wp2_with fail
  have hz := heap_alloc_new w (.cells #[.slice none 0 0, .map none, .bool false, .int .i64 0, .bool false] 73)
  have hb0 := (Below.refl w.heap.size w).alloc (Nat.le_refl _) (.cells #[.slice none 0 0, .map none, .bool false, .int .i64 0, .bool false] 73)
  have hzl : w.heap.size < (w.alloc (.cells #[.slice none 0 0, .map none, .bool false, .int .i64 0, .bool false] 73)).heap.size := by simp
  have HZ := Lib.hid hz
  have HB0 := Lib.hid hb0
  clear hz hb0
  generalize w.alloc (.cells #[.slice none 0 0, .map none, .bool false, .int .i64 0, .bool false] 73) = w0 at *
  generalize hzz : w.heap.size = z at *
  have HZZ := Lib.hid hzz
  clear hzz
  have HNEW : Hid (Calls Try.prog 12 #[.int .i64 8192] w0 fun e w' => ∃ b, e = .returned (.tuple #[.pointer (some ⟨b, 0, none⟩), .int .i64 0]) ∧ Kn w0 w' b (newD 8192)) := Kn.new 8192 w0 (by omega)
  refine HNEW.out.mono ?_
  rintro e w1 ⟨b, rfl, h1⟩
  have H1 := Lib.hid h1
  clear h1 HNEW
  go_wp2_with fail
  refine (pnew_no 8193 w1 (by omega)).mono ?_
  rintro e w' ⟨rfl, rfl⟩
  go_wp2_with fail
  refine (num_any _ _).mono ?_
  rintro e w' ⟨rfl, rfl⟩
  go_wp2_with fail
  refine (num_any _ _).mono ?_
  rintro e w' ⟨rfl, rfl⟩
  have HSE : Hid (Calls Try.prog 24 #[.pointer (some ⟨b, 0, none⟩)] w1 fun e w' => e = .returned (.int .i64 8192) ∧ w1 = w') := by
    have h := kn_sectors H1.out
    rw [new_len] at h
    exact h
  go_wp2_with fail
  refine HSE.out.mono ?_
  rintro e w' ⟨rfl, rfl⟩
  go_wp2_with fail
  refine (H1.out.grow 8193 (er := 2) (d' := newD 8192) (by unfold grR; rw [if_pos (by omega)]) (by unfold grD; rw [if_pos (by omega)])).mono ?_
  rintro e w2 ⟨rfl, h2⟩
  have H2 := Lib.hid h2
  clear h2 H1 HSE
  go_wp2_with fail
  refine (num_any _ _).mono ?_
  rintro e w' ⟨rfl, rfl⟩
  go_wp2_with fail
  refine (H2.out.fuse (-1) (er := 2) (d' := newD 8192) (by omega) (by unfold fuR; rw [if_pos (by omega)]) (by unfold fuD; rw [if_pos (by omega)])).mono ?_
  rintro e w3 ⟨rfl, h3⟩
  have H3 := Lib.hid h3
  clear h3 H2
  go_wp2_with fail
  refine (num_any _ _).mono ?_
  rintro e w' ⟨rfl, rfl⟩
  have hg0 : grR (newD 8192) 8192 = 0 := by
    unfold grR
    rw [new_len, if_neg (by omega), if_neg (show ¬ ((newD 8192).dead = true) from Bool.false_ne_true)]
  have hg1 : grD (newD 8192) 8192 = newD 8192 := by
    unfold grD
    rw [new_len, if_neg (by omega), if_neg (show ¬ ((newD 8192).dead = true) from Bool.false_ne_true)]
    exact new_more 8192
  have HGR := Lib.hid (H3.out.grow 8192 hg0 hg1)
  clear hg0 hg1
  go_wp2_with fail
  refine HGR.out.mono ?_
  rintro e w4 ⟨rfl, h4⟩
  have HNW0 : Hid (NW w0 w4 z b) := ⟨(h4.b.block z hzl).trans HZ.out, h4⟩
  have HB4 : Hid (Below z w w4) := by
    have h5 := HB0.out
    have h6 : Below z w0 w4 := h4.b.mono (by omega)
    exact h5.trans h6
  clear h4 H3 HGR
  go_wp2_with fail
  refine (num_any _ _).mono ?_
  rintro e w' ⟨rfl, rfl⟩
  go_wp2
  go_loopw [7] (fun j wr => ∃ i : Nat, i ≤ 2 ∧ j = .int .i64 (i : Int) ∧ Hid (Below w4.heap.size w4 wr)) (fun j _ => 2 - (intOf j).toNat)
  case atStart => exact ⟨0, by omega, rfl, Below.refl _ _⟩
  case round =>
    obtain ⟨i, hi, rfl, HBR⟩ := hrel
    have HNW := Lib.hid (HNW0.out.below HBR.out)
    by_cases h0 : i = 0
    · subst h0
      have HND : Hid (∀ W', Below wr.heap.size wr W' → ND (.pointer none) W') := Lib.hid (fun W' _ => nd_nil W')
      have hnd : ∀ W', Below wr.heap.size wr W' → ND (.pointer none) W' := HND.out
      have HRD := Lib.hid (zero_read (.pointer none) wr hnd)
      clear hnd
      go_wp2_with fail
      refine HRD.out.mono ?_
      rintro e v1 ⟨rfl, hb1⟩
      have HB1 := Lib.hid hb1
      clear hb1 HRD
      go_wp2_with (first
        | refine wpList_store_row rfl 49 (.tmp 9) (.tmp 71) rfl v1.heap.size (sec 0).toArray rfl rfl 49 (cells8 (fullN 0 0)).toArray (heap_alloc_new v1 _) (by rw [sector_sz 0]; simp) (by rw [size8, fullN_len 0 0 (by omega), List.size_toArray, sec_len]) (all_oneCell_toArray (sec_one _)) ?_
        | fail)
      have hb2 : Below wr.heap.size wr ((v1.alloc (.cells (cells8 (fullN 0 0)).toArray 49)).setRow v1.heap.size (sec 0).toArray) := below_setRow (HB1.out.alloc HB1.out.size _) HB1.out.size _
      have HB2 := Lib.hid hb2
      clear hb2 HB1
      generalize (v1.alloc (.cells (cells8 (fullN 0 0)).toArray 49)).setRow v1.heap.size (sec 0).toArray = v2 at *
      refine (num_any _ _).mono ?_
      rintro e w' ⟨rfl, rfl⟩
      have HWR := Lib.hid (zero_write (.bool true) (.pointer none) v2 (fun W' hW => HND.out W' (HB2.out.trans (hW.mono HB2.out.size))))
      go_wp2_with fail
      refine HWR.out.mono ?_
      rintro e v3 ⟨rfl, hb3⟩
      have HB3 := Lib.hid (HB2.out.trans (hb3.mono HB2.out.size))
      clear hb3 HWR HB2
      have HN3 := Lib.hid (HND.out v3 HB3.out)
      go_wp2_with fail
      refine (num_any _ _).mono ?_
      rintro e w' ⟨rfl, rfl⟩
      go_wp2_with fail
      refine (nd_flush HN3.out).mono ?_
      rintro e w' ⟨rfl, rfl⟩
      go_wp2_with fail
      refine (num_any _ _).mono ?_
      rintro e w' ⟨rfl, rfl⟩
      go_wp2_with fail
      refine (nd_fuse HN3.out 0).mono ?_
      rintro e w' ⟨rfl, rfl⟩
      go_wp2_with fail
      refine (num_any _ _).mono ?_
      rintro e w' ⟨rfl, rfl⟩
      go_wp2_with fail
      refine (nd_crash HN3.out (.slice none 0 0)).mono ?_
      rintro e w' ⟨rfl, rfl⟩
      go_wp2_with fail
      refine (num_any _ _).mono ?_
      rintro e w' ⟨rfl, rfl⟩
      go_wp2_with fail
      refine (nd_grow HN3.out 1).mono ?_
      rintro e w' ⟨rfl, rfl⟩
      go_wp2_with fail
      refine (num_any _ _).mono ?_
      rintro e w' ⟨rfl, rfl⟩
      go_wp2_with fail
      refine (pcopy_none v3 (.pointer none) HN3.out).mono ?_
      rintro e w' ⟨rfl, rfl⟩
      go_wp2_with fail
      refine (nd_sectors HN3.out).mono ?_
      rintro e w' ⟨rfl, rfl⟩
      go_wp2_with fail
      refine (nd_dead HN3.out).mono ?_
      rintro e w' ⟨rfl, rfl⟩
      go_wp2_with fail
      refine (popen_nil v3 (.pointer none) HN3.out).mono ?_
      rintro e w' ⟨rfl, rfl⟩
      go_wp2_with fail
      refine (psame_left v3 (.pointer none) (.pointer none) HN3.out true (nd_nil v3)).mono ?_
      rintro e w' ⟨rfl, rfl⟩
      have HA3 := Lib.hid (HNW.out.below HB3.out)
      go_wp2_with fail
      refine (psame_left v3 (.pointer none) (.pointer (some ⟨b, 0, none⟩)) HN3.out false (kn_none HA3.out.a)).mono ?_
      rintro e w' ⟨rfl, rfl⟩
      go_wp2_with fail
      refine (psame_right v3 (.pointer (some ⟨b, 0, none⟩)) (.pointer none) (kn_none HA3.out.a) HN3.out).mono ?_
      rintro e w' ⟨rfl, rfl⟩
      have HB9 := Lib.hid (HBR.out.trans (HB3.out.mono HBR.out.size))
      clear HB3 HN3 HND
      go_wp2
      go_roundw
      case rel => exact ⟨1, by omega, by go_num, HB9.out⟩
      case measure => decide
    · by_cases h1 : i = 1
      · subst h1
        have HND : Hid (∀ W', Below wr.heap.size wr W' → ND (.pointer (some ⟨z, 0, none⟩)) W') := Lib.hid (fun W' hW => nd_zero W' z (HNW.out.below hW).zero)
        have hnd : ∀ W', Below wr.heap.size wr W' → ND (.pointer (some ⟨z, 0, none⟩)) W' := HND.out
        have HRD := Lib.hid (zero_read (.pointer (some ⟨z, 0, none⟩)) wr hnd)
        clear hnd
        go_wp2_with fail
        refine HRD.out.mono ?_
        rintro e v1 ⟨rfl, hb1⟩
        have HB1 := Lib.hid hb1
        clear hb1 HRD
        go_wp2_with (first
          | refine wpList_store_row rfl 49 (.tmp 9) (.tmp 71) rfl v1.heap.size (sec 0).toArray rfl rfl 49 (cells8 (fullN 0 0)).toArray (heap_alloc_new v1 _) (by rw [sector_sz 0]; simp) (by rw [size8, fullN_len 0 0 (by omega), List.size_toArray, sec_len]) (all_oneCell_toArray (sec_one _)) ?_
          | fail)
        have hb2 : Below wr.heap.size wr ((v1.alloc (.cells (cells8 (fullN 0 0)).toArray 49)).setRow v1.heap.size (sec 0).toArray) := below_setRow (HB1.out.alloc HB1.out.size _) HB1.out.size _
        have HB2 := Lib.hid hb2
        clear hb2 HB1
        generalize (v1.alloc (.cells (cells8 (fullN 0 0)).toArray 49)).setRow v1.heap.size (sec 0).toArray = v2 at *
        refine (num_any _ _).mono ?_
        rintro e w' ⟨rfl, rfl⟩
        have HWR := Lib.hid (zero_write (.bool true) (.pointer (some ⟨z, 0, none⟩)) v2 (fun W' hW => HND.out W' (HB2.out.trans (hW.mono HB2.out.size))))
        go_wp2_with fail
        refine HWR.out.mono ?_
        rintro e v3 ⟨rfl, hb3⟩
        have HB3 := Lib.hid (HB2.out.trans (hb3.mono HB2.out.size))
        clear hb3 HWR HB2
        have HN3 := Lib.hid (HND.out v3 HB3.out)
        go_wp2_with fail
        refine (num_any _ _).mono ?_
        rintro e w' ⟨rfl, rfl⟩
        go_wp2_with fail
        refine (nd_flush HN3.out).mono ?_
        rintro e w' ⟨rfl, rfl⟩
        go_wp2_with fail
        refine (num_any _ _).mono ?_
        rintro e w' ⟨rfl, rfl⟩
        go_wp2_with fail
        refine (nd_fuse HN3.out 0).mono ?_
        rintro e w' ⟨rfl, rfl⟩
        go_wp2_with fail
        refine (num_any _ _).mono ?_
        rintro e w' ⟨rfl, rfl⟩
        go_wp2_with fail
        refine (nd_crash HN3.out (.slice none 0 0)).mono ?_
        rintro e w' ⟨rfl, rfl⟩
        go_wp2_with fail
        refine (num_any _ _).mono ?_
        rintro e w' ⟨rfl, rfl⟩
        go_wp2_with fail
        refine (nd_grow HN3.out 1).mono ?_
        rintro e w' ⟨rfl, rfl⟩
        go_wp2_with fail
        refine (num_any _ _).mono ?_
        rintro e w' ⟨rfl, rfl⟩
        go_wp2_with fail
        refine (pcopy_none v3 (.pointer (some ⟨z, 0, none⟩)) HN3.out).mono ?_
        rintro e w' ⟨rfl, rfl⟩
        go_wp2_with fail
        refine (nd_sectors HN3.out).mono ?_
        rintro e w' ⟨rfl, rfl⟩
        go_wp2_with fail
        refine (nd_dead HN3.out).mono ?_
        rintro e w' ⟨rfl, rfl⟩
        go_wp2_with fail
        refine (popen_nil v3 (.pointer (some ⟨z, 0, none⟩)) HN3.out).mono ?_
        rintro e w' ⟨rfl, rfl⟩
        go_wp2_with fail
        refine (psame_left v3 (.pointer (some ⟨z, 0, none⟩)) (.pointer none) HN3.out true (nd_nil v3)).mono ?_
        rintro e w' ⟨rfl, rfl⟩
        have HA3 := Lib.hid (HNW.out.below HB3.out)
        go_wp2_with fail
        refine (psame_left v3 (.pointer (some ⟨z, 0, none⟩)) (.pointer (some ⟨b, 0, none⟩)) HN3.out false (kn_none HA3.out.a)).mono ?_
        rintro e w' ⟨rfl, rfl⟩
        go_wp2_with fail
        refine (psame_right v3 (.pointer (some ⟨b, 0, none⟩)) (.pointer (some ⟨z, 0, none⟩)) (kn_none HA3.out.a) HN3.out).mono ?_
        rintro e w' ⟨rfl, rfl⟩
        have HB9 := Lib.hid (HBR.out.trans (HB3.out.mono HBR.out.size))
        clear HB3 HN3 HND
        go_wp2
        go_roundw
        case rel => exact ⟨2, by omega, by go_num, HB9.out⟩
        case measure => decide
      · obtain rfl : i = 2 := by omega
        go_wp2_with fail
        refine (known_any wr).mono ?_
        rintro e w' ⟨rfl, hb⟩
        have HBK := Lib.hid hb
        clear hb
        go_wp2
        go_ret
        refine ⟨rfl, ?_⟩
        rw [HZZ.out]
        exact HB4.out.trans ((HBR.out.trans (HBK.out.mono HBR.out.size)).mono (by have h1 := HB4.out.size; have h2 := HZZ.out; omega))
end Go.Proofs.Ytdigfkdappbhhaa
