/- The law's known. -/
import Derived.Test.YtmfcbndgambfmaaDoorTg
set_option linter.unusedVariables false
namespace Go.Proofs.YtmfcbndgambfmaaDoor.Q
open Go.RowKit

def someU (tx : Nat) : SU := ⟨tx, 16, 8, 0, 0, 0, 0, 0, 0, 0, 0, 0, 0, 0, 0, 0, 0, 0, false⟩
theorem someU_fits (tx : Nat) (h : tx < 18446744073709551616) : (someU tx).fits := ⟨h, by simp [someU], by simp [someU]⟩
theorem someU_may (tx : Nat) (h1 : 1 ≤ tx) (h2 : tx ≤ 4611686018427387904) : (someU tx).may = true := by
  unfold SU.may
  refine mayS_yes ⟨by simp [someU], ?_, ⟨h1, h2⟩, by simp [someU]⟩
  simp [someU]
set_option maxRecDepth 100000 in
theorem some_any (w : World) (tx : Nat) : Calls Tryd.prog 6 #[.int .u64 (tx : Int)] w fun e w' => e = .returned (.agg (someU tx).cells) ∧ Below w.heap.size w w' := by
  have hzs := sup_zero
  have hst : ∀ w : World, (storeCells ⟨w.heap.size, 0, none⟩ (((zeroSC.toList.set 0 (.int .u64 (tx : Int))).set 1 (.int .i64 16)).set 2 (.int .i64 8))).run Tryd.prog (w.alloc (.cells zeroSC 36)) = .ok () (w.alloc (.cells (someU tx).cells 36)) := fun w => store_sup w (someU tx).cells rfl (cellsS_all _)
  have hz19 : zeroSC.size = 19 := rfl
  have HE := Lib.hid (heap_alloc_new w (.cells (someU tx).cells 36))
  have HB := Lib.hid ((Below.refl _ w).alloc (Nat.le_refl _) (.cells (someU tx).cells 36))
  have hsi := sup_info (someU tx)
  obtain ⟨cs, hcs⟩ : ∃ cs, (someU tx).cells = cs := ⟨_, rfl⟩
  rw [hcs] at hst HE HB hsi
  have HCS := Lib.hid hcs
  clear hcs
  go_enter Tryd.func6, Tryd.ntmps6
  go_wp2
  exact bodyPost_ret (results_cell_row rfl _ _ w.heap.size 36 cs (0, 0) _ rfl HE.out Tryd.underlying36 rfl hsi) rfl ⟨by rw [HCS.out], HB.out⟩
/-- a disk of the call's own -/
def KS (w W : World) (b : Nat) (d : RD) : Prop := ∃ F, PD W F b d ∧ (∀ k, F k → w.heap.size ≤ k) ∧ Below w.heap.size w W
theorem KS.b {w W : World} {b : Nat} {d : RD} (h : KS w W b d) : Below w.heap.size w W := h.elim fun _ h => h.2.2
theorem KS.below {w W W' : World} {b : Nat} {d : RD} (h : KS w W b d) (hb : Below W.heap.size W W') : KS w W' b d := by
  obtain ⟨F, h1, h2, h3⟩ := h
  exact ⟨F, h1.below hb, h2, h3.trans (hb.mono h3.size)⟩
theorem KS.done {w W W' : World} {b : Nat} {d' : RD} {er : Int} {e : Ending} {F : Nat → Prop} (h1 : Below w.heap.size w W) (hF : ∀ k, F k → w.heap.size ≤ k) (hp : PDone W F b er d' e W') : KS w W' b d' := by
  obtain ⟨_, F', h3, h4, h5⟩ := hp
  exact ⟨F', h3, fun k hk => (h4 k hk).elim (hF k) (fun h => Nat.le_trans h1.size h), h1.trans (h5.below h1.size hF)⟩
theorem KS.new (n : Nat) (w W : World) (hb : Below w.heap.size w W) (h : 1 ≤ n ∧ n ≤ 8192) : Calls Tryd.prog 5 #[.int .i64 (n : Int)] W fun e w' => ∃ b, e = .returned (.tuple #[.pointer (some ⟨b, 0, none⟩), .int .i64 0]) ∧ Hid (KS w w' b (newD n)) :=
  (pnew_any n W h).mono fun e w' ⟨b, F, he, h1, h2, h3⟩ => ⟨b, he, F, h1, fun k hk => Nat.le_trans hb.size (h2 k hk), hb.trans (h3.mono hb.size)⟩
theorem KS.save {w W : World} {b : Nat} {d : RD} (h : KS w W b d) (hT : Tabs W) (hW : Wids W) (h8 : 8 ≤ d.s.length) (s : SU) (hf : s.fits) (hs : Short d 5) {er : Int} (he : (saveK d s).1 = er) :
    Calls Tryd.prog 7 #[.pointer (some ⟨b, 0, none⟩), .agg s.cells] W fun e w' => e = .returned (.int .i64 er) ∧ Hid (KS w w' b (saveK d s).2) := by
  obtain ⟨F, h1, h2, h3⟩ := h
  refine (save_any hT hW h1 h8 s hf hs).mono fun e w' hp => ⟨?_, KS.done h3 h2 hp⟩
  rw [← he]
  exact hp.1
theorem KS.load {w W : World} {b : Nat} {d : RD} (h : KS w W b d) (hT : Tabs W) (hW : Wids W) (h8 : 8 ≤ d.s.length) {s : SU} {er : Int} (hs : loadS d = s) (he : ldE d = er) :
    Calls Tryd.prog 10 #[.pointer (some ⟨b, 0, none⟩)] W fun e w' => e = .returned (.tuple #[.agg s.cells, .int .i64 er]) ∧ Hid (KS w w' b d) := by
  have h0 := h
  obtain ⟨F, h1, h2, h3⟩ := h
  refine (load_any hT hW h1 h8).mono fun e w' hp => ⟨?_, h0.below hp.2⟩
  rw [← hs, ← he]
  exact hp.1
theorem newD_short (n m : Nat) (h : m < 1000000) : Short (newD n) m := fun i => by
  show ((List.replicate n [(0 : SB)]).getD i []).length + m ≤ 1000000
  rw [List.getD_eq_getElem?_getD, List.getElem?_replicate]
  split
  · simp; omega
  · simp; omega
theorem Short.wrAll (k : Nat) (l : List UInt8) : ∀ (n i : Nat) {d : RD} {m : Nat}, Short d (m + n) → Short (wrK d k l n i).2 m
  | 0, _, _, _, h => h
  | n + 1, i, d, m, h => by
    rw [wrK]
    split
    · exact Short.wrAll k l n (i + 1) (Short.wr (m := m + n) h _ _)
    · exact h.moves.less (by omega)
theorem Short.save {d : RD} {m : Nat} (h : Short d (m + 5)) (hl : Live d) (h8 : 8 ≤ d.s.length) (s : SU) (hm : s.may = true) (hm9 : m < 999990) : Short (saveK d s).2 m := by
  unfold saveK
  rw [if_pos hm]
  split
  · split
    · refine Short.flush ?_ (by omega)
      exact Short.wrAll _ _ 4 0 (h.wipe (m := m + 4) (by omega) _)
    · exact Short.wrAll _ _ 4 0 (h.wipe (m := m + 4) (by omega) _)
  · exact (h.wipe (m := m + 4) (by omega) _).less (by omega)
def kd0 : RD := newD 40
def kd1 : RD := (saveK kd0 (someU 1)).2
def kd2 : RD := (saveK kd1 (someU 2)).2
theorem kd0_live : Live kd0 := ⟨by decide, rfl⟩
theorem kd0_len : kd0.s.length = 40 := by simp [kd0, newD]
theorem may1 : (someU 1).may = true := someU_may 1 (by omega) (by omega)
theorem may2 : (someU 2).may = true := someU_may 2 (by omega) (by omega)
theorem kd_facts : (saveK kd0 (someU 1)).1 = 0 ∧ (saveK kd1 (someU 2)).1 = 0 ∧ loadS kd2 = someU 2 ∧ ldE kd2 = 0 ∧ kd1.s.length = 40 ∧ kd2.s.length = 40 ∧ Short kd0 5 ∧ Short kd1 5 := by
  have l0 := kd0_len
  obtain ⟨a1, a2, a3, _⟩ := kd0_live.save (by omega) (someU 1) may1
  obtain ⟨b1, b2⟩ := kd0_live.saved (by omega) (someU 1) may1
  have l1 : kd1.s.length = 40 := a3.trans l0
  have v1 : Live kd1 := a2
  obtain ⟨c1, c2, c3, _⟩ := v1.save (by omega) (someU 2) may2
  obtain ⟨d1, d2⟩ := v1.saved (by omega) (someU 2) may2
  have l2 : kd2.s.length = 40 := c3.trans l1
  have e0 : blkAt kd2 0 = (someU 2).img := d1
  have e1 : blkAt kd2 1 = (someU 1).img := (d2 1 (by decide) (by omega)).trans b1
  have f1 := someU_fits 1 (by omega)
  have f2 := someU_fits 2 (by omega)
  have o1 := SU.of_img f1 may1
  have o2 := SU.of_img f2 may2
  have k1 : blkS (someU 1).img = someU 1 := SU.back f1 may1
  have k2 : blkS (someU 2).img = someU 2 := SU.back f2 may2
  have n1 : numAt (someU 1).img 0 = 1 := congrArg SU.tx k1
  have n2 : numAt (someU 2).img 0 = 2 := congrArg SU.tx k2
  have g1 : bestN kd2 1 = someU 2 := by
    show nextS zeroSU (blkAt kd2 0) 0 = _
    have : takeS zeroSU (blkAt kd2 0) 0 = true := by rw [takeS, e0, o2, n2]; rfl
    rw [nextS, this, e0]
    exact k2
  have g2 : loadS kd2 = someU 2 := by
    show nextS (bestN kd2 1) (blkAt kd2 1) 1 = _
    rw [g1]
    have : takeS (someU 2) (blkAt kd2 1) 1 = false := by rw [takeS, e1, o1, n1]; rfl
    rw [nextS, this]
  refine ⟨a1, c1, g2, ?_, l1, l2, newD_short 40 5 (by omega), ?_⟩
  · rw [ldE, g2]; rfl
  · exact Short.save (d := kd0) (newD_short 40 10 (by omega)) kd0_live (by rw [kd0_len]; omega) _ may1 (by omega)
set_option maxHeartbeats 2000000 in
theorem known_any (w W : World) (hb : Below w.heap.size w W) (hT : Tabs w) (hW : Wids w) : Calls Tryd.prog 4 #[] W fun e w' => e = .returned (.bool true) ∧ Below w.heap.size w w' := by
  have HTW : Hid (∀ W, Below w.heap.size w W → Tabs W ∧ Wids W) := Lib.hid (fun W hb => ⟨hT.below hb hT.size, hW.below hb hW.size⟩)
  obtain ⟨a1, a2, a3, a4, a5, a6, a7, a8⟩ := kd_facts
  have HN : Hid (Calls Tryd.prog 5 #[.int .i64 40] W fun e w' => ∃ b, e = .returned (.tuple #[.pointer (some ⟨b, 0, none⟩), .int .i64 0]) ∧ Hid (KS w w' b kd0)) := Lib.hid (KS.new 40 w W hb (by omega))
  have HS1 : Hid (∀ (b : Nat) (W : World), KS w W b kd0 → Calls Tryd.prog 7 #[.pointer (some ⟨b, 0, none⟩), .agg (someU 1).cells] W fun e w' => e = .returned (.int .i64 0) ∧ Hid (KS w w' b kd1)) := Lib.hid (fun b W h => h.save (HTW.out W h.b).1 (HTW.out W h.b).2 (by rw [kd0_len]; omega) (someU 1) (someU_fits 1 (by omega)) a7 a1)
  have HS2 : Hid (∀ (b : Nat) (W : World), KS w W b kd1 → Calls Tryd.prog 7 #[.pointer (some ⟨b, 0, none⟩), .agg (someU 2).cells] W fun e w' => e = .returned (.int .i64 0) ∧ Hid (KS w w' b kd2)) := Lib.hid (fun b W h => h.save (HTW.out W h.b).1 (HTW.out W h.b).2 (by rw [a5]; omega) (someU 2) (someU_fits 2 (by omega)) a8 a2)
  have HL : Hid (∀ (b : Nat) (W : World), KS w W b kd2 → Calls Tryd.prog 10 #[.pointer (some ⟨b, 0, none⟩)] W fun e w' => e = .returned (.tuple #[.agg (someU 2).cells, .int .i64 0]) ∧ Hid (KS w w' b kd2)) := Lib.hid (fun b W h => h.load (HTW.out W h.b).1 (HTW.out W h.b).2 (by rw [a6]; omega) a3 a4)
  have HO1 : Hid (∀ W, Calls Tryd.prog 6 #[.int .u64 1] W fun e w' => e = .returned (.agg (someU 1).cells) ∧ Below W.heap.size W w') := Lib.hid (fun W => some_any W 1)
  have HO2 : Hid (∀ W, Calls Tryd.prog 6 #[.int .u64 2] W fun e w' => e = .returned (.agg (someU 2).cells) ∧ Below W.heap.size W w') := Lib.hid (fun W => some_any W 2)
  clear a1 a2 a3 a4 a5 a6 a7 a8 hT hW hb
  obtain ⟨c1, hc1⟩ : ∃ c, (someU 1).cells = c := ⟨_, rfl⟩
  obtain ⟨cl, hc2⟩ : ∃ cl : List Value, (someU 2).cells = cl.toArray := ⟨(someU 2).cells.toList, by simp⟩
  have heq : ∀ w, (binOp .eql 36 (.agg cl.toArray) (.agg cl.toArray)).run Tryd.prog w = .ok (.bool true) w := fun w => by
    have := eql_sup (someU 2) (someU 2) w
    rw [(eqS_iff _ _).2 rfl, hc2] at this
    exact this
  have hs2 : cl.length = 19 := by
    have : (someU 2).cells.size = 19 := rfl
    rw [hc2] at this
    simpa using this
  rw [hc1] at HS1 HO1
  rw [hc2] at HS2 HL HO2
  have hst := fun w => store_sup w cl.toArray (by simpa using hs2) (by rw [← hc2]; exact cellsS_all _)
  simp only at hst
  have hinf : (Tryd.prog.info? 36).map (·.size) = some cl.length := by rw [hs2]; kernel_rfl
  have hzs := sup_zero
  clear hc1 hc2
  go_enter Tryd.func4, Tryd.ntmps4
  go_wp2_with (first
    | (go_at_call 5; (with_reducible refine HN.out.mono ?_); rintro e w1 ⟨b, rfl, hk1⟩; have HK1 := Lib.hid hk1.out; clear hk1)
    | (go_at_call 6; first
        | ((with_reducible refine (HO1.out _).mono ?_); rintro e w2 ⟨rfl, hb2⟩; have HK2 := Lib.hid (HK1.out.below hb2); clear hb2)
        | ((with_reducible refine (HO2.out _).mono ?_); rintro e w4 ⟨rfl, hb4⟩; have HK4 := Lib.hid (HK3.out.below hb4); clear hb4))
    | (go_at_call 7; first
        | ((with_reducible refine (HS1.out _ _ HK2.out).mono ?_); rintro e w3 ⟨rfl, hk3⟩; have HK3 := Lib.hid hk3.out; clear hk3)
        | ((with_reducible refine (HS2.out _ _ HK4.out).mono ?_); rintro e w5 ⟨rfl, hk5⟩; have HK5 := Lib.hid hk5.out; clear hk5))
    | (go_at_call 10; (with_reducible refine (HL.out _ _ HK5.out).mono ?_); rintro e w6 ⟨rfl, hk6⟩; have HK6 := Lib.hid hk6.out; clear hk6)
    | fail)
  have hx6 := heap_alloc_new w6 (.cells cl.toArray 36)
  have HR6 : Hid ((w6.alloc (.cells cl.toArray 36)).drew.rangeAt w6.heap.size 0 cl) := Lib.hid (by
    have := range_of (w := (w6.alloc (.cells cl.toArray 36)).drew) hx6
    simpa using this)
  have HR8 : Hid (∀ W, Below (w6.alloc (.cells cl.toArray 36)).drew.heap.size (w6.alloc (.cells cl.toArray 36)).drew W → W.rangeAt w6.heap.size 0 cl) := Lib.hid (fun W hb => by
    have := range_of ((hb.block w6.heap.size (by simp)).trans hx6)
    simpa using this)
  have HK7 := Lib.hid (HK6.out.below ((Below.refl _ w6).alloc (Nat.le_refl _) (.cells cl.toArray 36)).drew)
  clear hx6
  refine wp_region_held_drew (S := fun W' => W'.rangeAt w6.heap.size 0 cl) (by kernel_rfl) HR6.out (fun hHeld => ?_)
  refine wpAnyH_take (i := 0) (v := .int .i64 0) rfl (by kernel_rfl) (by kernel_rfl) (by kernel_rfl) (fun _ _ _ h => h) (Or.inl ⟨by rfl, fun w hSw => by go_simp⟩) hHeld ?_
  refine wpAnyH_take (i := 1) (v := .bool true) rfl (by kernel_rfl) (by kernel_rfl) (by kernel_rfl) (fun _ _ _ h => h) (Or.inl ⟨by rfl, fun w hSw => by go_simp⟩) hHeld ?_
  refine wpAnyH_take (i := 2) (v := .bool true) rfl (by kernel_rfl) (by kernel_rfl) (by kernel_rfl) (fun _ _ _ h => h) (Or.inl ⟨by rfl, fun w hSw => by go_simp⟩) hHeld ?_
  refine wpAnyH_take (i := 3) (v := .agg cl.toArray) rfl (by kernel_rfl) (by kernel_rfl) (by kernel_rfl) (fun _ _ _ h => h) (yieldsIf_load_mid (by rfl) 36 (.tmp 3) rfl w6.heap.size 0 rfl cl _ (fun w hw => hw) Tryd.underlying36 rfl hinf) hHeld ?_
  refine wpAnyH_ready (rs := [4]) (by kernel_rfl) (by simp) ?_
  refine AllReadyH.cons rfl (fun K hK => ?_) AllReadyH.nil
  go_simp
  (with_reducible refine (HO2.out _).mono ?_)
  rintro e w8 ⟨rfl, hb8⟩
  have HK8 := Lib.hid (HK7.out.below hb8)
  refine hK.out _ _ (HR8.out _ hb8) (fun hHeld => ?_)
  clear hK K
  refine wpAnyH_take (i := 5) (v := .bool true) rfl (by kernel_rfl) (by kernel_rfl) (by kernel_rfl) (fun _ _ _ h => h) (Or.inl ⟨by rfl, fun w hSw => by go_simp⟩) hHeld ?_
  refine wpAnyH_take (i := 6) (v := .bool true) rfl (by kernel_rfl) (by kernel_rfl) (by kernel_rfl) (fun _ _ _ h => h) (Or.inl ⟨by rfl, fun w hSw => by go_simp⟩) hHeld ?_
  refine wpAnyH_take (i := 7) (v := .bool true) rfl (by kernel_rfl) (by kernel_rfl) (by kernel_rfl) (fun _ _ _ h => h) (Or.inl ⟨by rfl, fun w hSw => by go_simp⟩) hHeld ?_
  refine wpAnyH_done (by kernel_rfl) ?_ _
  go_wp2
  go_ret
  exact ⟨rfl, HK8.out.b⟩
end Go.Proofs.YtmfcbndgambfmaaDoor.Q
