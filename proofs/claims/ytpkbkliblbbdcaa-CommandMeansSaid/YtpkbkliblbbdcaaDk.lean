/- The walk of the document's Of. -/
import Derived.Test.YtpkbkliblbbdcaaDj
set_option linter.unusedVariables false
namespace Go.Proofs.Ytpkbkliblbbdcaa
open Go.RowKit
set_option maxRecDepth 20000

/-- the document's letter at a place, and what it stands for -/
theorem rtxt_get (k : Int) (i : Nat) (hi : i < (rtxtK k).size) : ∃ hl : i < ((namesL k).getD []).length, (((rtxtK k)[i]'hi).toNat : Int) = ((((namesL k).getD [])[i]'hl).toNat : Int) + 32 ∧ isL ((((namesL k).getD [])[i]'hl).toNat : Int) := by
  cases hN : namesL k with
  | none =>
    have : (rtxtK k).size = 0 := by simp [rtxtK, ByteArray.size, hN]
    omega
  | some L =>
    obtain ⟨hl, h⟩ := rtxt_at hN i hi
    exact ⟨hl, h, (names_L hN i hl).1⟩
theorem rtxt_len2 (k : Int) : (rtxtK k).size = ((namesL k).getD []).length := by simp [rtxtK, ByteArray.size]

set_option maxHeartbeats 16000000 in
theorem rof_cons (b : UInt8) (tl : List UInt8) (A : Option Addr) (cap : Nat) (w : World) (hl2 : tl.length + 1 ≤ 9000) (hs : Shows w w.heap.size A (tl.length + 1) (cells8 (b :: tl))) (hc : tl.length + 1 ≤ cap) (hcm : cap ≤ 9223372036854775807) :
    Calls Try.prog 20 #[.slice A (tl.length + 1) cap] w (OOf w (opOf (b :: tl)) (fun u => u = .bool (opOf (b :: tl)).isSome)) := by
  obtain ⟨p, u0, rfl, hpb, hu0, hcell⟩ := hs.cell (show 0 < tl.length + 1 by omega)
  obtain rfl : u0 = .int .u8 (b.toNat : Int) := by
    have h : (cells8 (b :: tl))[0]? = some (.int .u8 (b.toNat : Int)) := rfl
    rw [h] at hu0
    exact (Option.some.inj hu0).symm
  have hp0 : p.add 0 = p := by simp [Addr.add]
  rw [hp0] at hcell
  have hcell2 : (w.alloc (.cells #[.int .i64 0, .int .u64 0, .int .u64 0, .int .i64 0, .int .i64 0, .int .i64 0, .slice none 0 0] 26)).cell? p = some (.int .u8 (b.toNat : Int)) := (World.cell?_alloc_lt w _ p hpb).trans hcell
  have hbl := b.toNat_lt
  have hwb : IntKind.i64.wrap (b.toNat : Int) = (b.toNat : Int) := toI_nat _ (by omega)
  have hne : (((tl.length + 1 : Nat) : Int) == 0) = false := by rw [beq_eq_false_iff_ne]; omega
  have HB0 := Lib.hid (OfB.new w b)
  have hst : Shows w w.heap.size (if cap = 1 then some p else some (p.add 1)) tl.length (cells8 tl) := by
    have h := hs.from_ (show 1 ≤ tl.length + 1 by omega) hc
    rw [show (if cap = 1 then some p else (some p).map (·.add 1)) = (if cap = 1 then some p else some (p.add 1)) from rfl] at h
    exact h
  have HSL := Lib.hid (fun W => slice_tail W p tl.length cap hc)
  generalize (if cap = 1 then some p else some (p.add 1)) = A1 at *
  have HST := Lib.hid hst
  rw [op_cons2 b tl]
  have HN := Lib.hid (rnames_any (b.toNat : Int))
  have HSH := Lib.hid (rshape_any (b.toNat : Int))
  have HRG := Lib.hid (rtxt_get (b.toNat : Int))
  have hRL := rtxt_len2 (b.toNat : Int)
  have h3 := rtxt_size (b.toNat : Int)
  have hrs : bs (rshS (bs (rtxtK (b.toNat : Int)))) = ((namesL (b.toNat : Int)).getD []).map shapeF := rshape_eq
  generalize rtxtK (b.toNat : Int) = R at *
  generalize (namesL (b.toNat : Int)).getD [] = L at *
  have HRS := Lib.hid hrs
  have hss : (rshS (bs R)).size ≤ 1000 := by
    show ((bs R).map rshapeF).toArray.size ≤ 1000
    simp [bs_length]
    omega
  have HU := Lib.hid (fun W hS hB => runpack_any (rshS (bs R)) w.heap.size A1 (cap - 1) tl W hss hS hB (by omega) (by omega) (by omega))
  have HMS : Hid (mayS (L.map shapeF) = true) := mayS_shape L
  clear hs hu0 hcell hst hrs hss
  cases hu : unpZ (L.map shapeF) tl with
  | none =>
    have HUN := Lib.hid hu
    simp only []
    clear hu
    go_enter Try.func20, Try.ntmps20
    go_wp2_with (go_at_call 42; refine (HN.out _).mono ?_; rintro e w' ⟨rfl, rfl⟩)
    obtain ⟨wr, hwr⟩ : ∃ wr, ((w.alloc (.cells #[.int .i64 0, .int .u64 0, .int .u64 0, .int .i64 0, .int .i64 0, .int .i64 0, .slice none 0 0] 26)).alloc (.cells #[.int .i64 (b.toNat : Int), .int .u64 0, .int .u64 0, .int .i64 0, .int .i64 0, .int .i64 0, .slice none 0 0] 26)) = wr := ⟨_, rfl⟩
    rw [hwr] at HB0 ⊢
    clear hwr hcell2
    have HBD := Lib.hid (HB0.out.on ((Below.refl _ wr).drew))
    refine wp_region_noPanic ?_
    refine wp_region_held_drew (S := fun w' => Below wr.heap.size wr w') (by kernel_rfl) ((Below.refl _ wr).drew) (fun hHeld => ?_)
    refine takeN (i := 0) (oi := _) (v := .pointer (some ⟨w.heap.size + 1, 0, none⟩)) 23 rfl rfl (by kernel_rfl) (by kernel_rfl) (by kernel_rfl) (fun _ _ _ h => h) (Or.inl ⟨by rfl, fun w2 hSw => by (go_simp)⟩) hHeld ?_
    try simp only [Act.put, List.setIfInBounds_toArray, List.set_cons_zero, List.set_cons_succ]
    refine takeN (i := 1) (oi := _) (v := .int .i64 (b.toNat : Int)) 24 rfl rfl (by kernel_rfl) (by kernel_rfl) (by kernel_rfl) (fun _ _ _ h => h) (Or.inl ⟨by rfl, fun w2 hSw => by (obtain ⟨l0, l1, l2, l3, l4, l5, l6⟩ := (HB0.out.on hSw).ob.cells; go_simp; try rfl)⟩) hHeld ?_
    try simp only [Act.put, List.setIfInBounds_toArray, List.set_cons_zero, List.set_cons_succ]
    refine takeN (i := 3) (oi := _) (v := .slice (some p) (tl.length + 1) cap) 26 rfl rfl (by kernel_rfl) (by kernel_rfl) (by kernel_rfl) (fun _ _ _ h => h) (Or.inl ⟨by rfl, fun w2 hSw => by (go_simp)⟩) hHeld ?_
    try simp only [Act.put, List.setIfInBounds_toArray, List.set_cons_zero, List.set_cons_succ]
    refine takeN (i := 4) (oi := _) (v := .slice A1 tl.length (cap - 1)) 27 rfl rfl (by kernel_rfl) (by kernel_rfl) (by kernel_rfl) (fun _ _ _ h => h) (Or.inl ⟨by rfl, fun w2 hSw => by (have hsl := HSL.out w2; go_simp)⟩) hHeld ?_
    try simp only [Act.put, List.setIfInBounds_toArray, List.set_cons_zero, List.set_cons_succ]
    refine wpAnyH_ready (rs := [2]) (by kernel_rfl) (by simp) ?_
    refine AllReadyH.cons rfl (fun K hK => ?_) AllReadyH.nil
    go_simp
    go_wp2_with (first | (go_at_call 45; refine (HSH.out _).mono ?_; rintro e w' ⟨rfl, rfl⟩) | fail)
    refine hK.out _ _ hHeld (fun hHeld => ?_)
    clear hK K
    try simp only [Act.put, List.setIfInBounds_toArray, List.set_cons_zero, List.set_cons_succ]
    refine wpAnyH_ready (rs := [5]) (by kernel_rfl) (by simp) ?_
    refine AllReadyH.cons rfl (fun K hK => ?_) AllReadyH.nil
    go_simp
    refine (HU.out _ (HST.out.below HBD.out.bel) HBD.out.bel.size).mono ?_
    intro e w2 hun
    rw [HRS.out] at hun
    obtain ⟨rfl, hb2⟩ := hun.no HMS.out HUN.out
    have hBQ : Below wr.heap.size wr w2 := hHeld.trans (hb2.mono hHeld.size)
    refine hK.out _ _ hBQ (fun hHeld => ?_)
    clear hK K hBQ
    try simp only [Act.put, List.setIfInBounds_toArray, List.set_cons_zero, List.set_cons_succ]
    refine takeN (i := 6) (oi := _) (v := .tuple #[.slice none 0 0, .int .i64 0, .int .i64 4]) 22 rfl rfl (by kernel_rfl) (by kernel_rfl) (by kernel_rfl) (fun _ _ _ h => h) (Or.inl ⟨by rfl, fun w2 hSw => by (go_simp)⟩) hHeld ?_
    try simp only [Act.put, List.setIfInBounds_toArray, List.set_cons_zero, List.set_cons_succ]
    refine takeN (i := 7) (oi := _) (v := .slice none 0 0) 29 rfl rfl (by kernel_rfl) (by kernel_rfl) (by kernel_rfl) (fun _ _ _ h => h) (Or.inl ⟨by rfl, fun w2 hSw => by (go_simp)⟩) hHeld ?_
    try simp only [Act.put, List.setIfInBounds_toArray, List.set_cons_zero, List.set_cons_succ]
    refine takeN (i := 8) (oi := _) (v := .int .i64 0) 30 rfl rfl (by kernel_rfl) (by kernel_rfl) (by kernel_rfl) (fun _ _ _ h => h) (Or.inl ⟨by rfl, fun w2 hSw => by (go_simp)⟩) hHeld ?_
    try simp only [Act.put, List.setIfInBounds_toArray, List.set_cons_zero, List.set_cons_succ]
    refine takeN (i := 9) (oi := _) (v := .int .i64 4) 31 rfl rfl (by kernel_rfl) (by kernel_rfl) (by kernel_rfl) (fun _ _ _ h => h) (Or.inl ⟨by rfl, fun w2 hSw => by (go_simp)⟩) hHeld ?_
    try simp only [Act.put, List.setIfInBounds_toArray, List.set_cons_zero, List.set_cons_succ]
    refine takeN (i := 10) (oi := _) (v := .slice none 0 0) 6 rfl rfl (by kernel_rfl) (by kernel_rfl) (by kernel_rfl) (fun _ _ _ h => h) (Or.inl ⟨by rfl, fun w2 hSw => by (go_simp)⟩) hHeld ?_
    try simp only [Act.put, List.setIfInBounds_toArray, List.set_cons_zero, List.set_cons_succ]
    refine takeN (i := 11) (oi := _) (v := .int .i64 0) 7 rfl rfl (by kernel_rfl) (by kernel_rfl) (by kernel_rfl) (fun _ _ _ h => h) (Or.inl ⟨by rfl, fun w2 hSw => by (go_simp)⟩) hHeld ?_
    try simp only [Act.put, List.setIfInBounds_toArray, List.set_cons_zero, List.set_cons_succ]
    refine takeN (i := 12) (oi := _) (v := .int .i64 4) 8 rfl rfl (by kernel_rfl) (by kernel_rfl) (by kernel_rfl) (fun _ _ _ h => h) (Or.inl ⟨by rfl, fun w2 hSw => by (go_simp)⟩) hHeld ?_
    try simp only [Act.put, List.setIfInBounds_toArray, List.set_cons_zero, List.set_cons_succ]
    refine wpAnyH_done (by kernel_rfl) ?_ _
    refine NoPanic.normal ?_
    have HB2 := Lib.hid (HBD.out.on hb2)
    clear hb2
    obtain ⟨⟨z0, z1, z2, z3, z4, z5, z6⟩, zf⟩ := (HB2.out.zb).cells
    go_wp2_with fail
    rw [seven (HB2.out.zb)]
    refine bodyPost_ret (results_cell_tmp rfl _ _ w.heap.size 26 _ (0, 0) _ _ rfl rfl (setRow_heap _ _ _ _ _ _ (HB2.out.zb)) Try.underlying26 rfl op_size) rfl ?_
    exact OOf.zero rfl (below_setRow (HB2.out.bel) (Nat.le_refl _) _)
  | some r =>
    obtain ⟨qs, n⟩ := r
    have HUN := Lib.hid hu
    have hfl := unp_fits L tl qs n hu
    have HFI := Lib.hid hfl.2
    have hql : qs.length = L.length := hfl.1
    have hnl := (unpZ_bounds hu).2.1
    clear hfl
    by_cases hn : n = tl.length
    · simp only [hn, true_and]
      have hlp : laidPs (zeroO (b.toNat : Int)) (L.take R.size) (qs.take R.size) = laidPs (zeroO (b.toNat : Int)) L qs := by rw [hRL, List.take_length, ← hql, List.take_length]
      have HLP := Lib.hid hlp
      generalize hmb : mayO (laidPs (zeroO (b.toNat : Int)) L qs) = mb at *
      have HMB := Lib.hid hmb
      generalize hfo : laidPs (zeroO (b.toNat : Int)) L qs = fo at *
      subst hn
      clear hu hmb hfo hlp
      go_enter Try.func20, Try.ntmps20
      go_wp2_with (go_at_call 42; refine (HN.out _).mono ?_; rintro e w' ⟨rfl, rfl⟩)
      obtain ⟨wr, hwr⟩ : ∃ wr, ((w.alloc (.cells #[.int .i64 0, .int .u64 0, .int .u64 0, .int .i64 0, .int .i64 0, .int .i64 0, .slice none 0 0] 26)).alloc (.cells #[.int .i64 (b.toNat : Int), .int .u64 0, .int .u64 0, .int .i64 0, .int .i64 0, .int .i64 0, .slice none 0 0] 26)) = wr := ⟨_, rfl⟩
      rw [hwr] at HB0 ⊢
      clear hwr hcell2
      have HBD := Lib.hid (HB0.out.on ((Below.refl _ wr).drew))
      refine wp_region_noPanic ?_
      refine wp_region_held_drew (S := fun w' => Below wr.heap.size wr w') (by kernel_rfl) ((Below.refl _ wr).drew) (fun hHeld => ?_)
      refine takeN (i := 0) (oi := _) (v := .pointer (some ⟨w.heap.size + 1, 0, none⟩)) 23 rfl rfl (by kernel_rfl) (by kernel_rfl) (by kernel_rfl) (fun _ _ _ h => h) (Or.inl ⟨by rfl, fun w2 hSw => by (go_simp)⟩) hHeld ?_
      try simp only [Act.put, List.setIfInBounds_toArray, List.set_cons_zero, List.set_cons_succ]
      refine takeN (i := 1) (oi := _) (v := .int .i64 (b.toNat : Int)) 24 rfl rfl (by kernel_rfl) (by kernel_rfl) (by kernel_rfl) (fun _ _ _ h => h) (Or.inl ⟨by rfl, fun w2 hSw => by (obtain ⟨l0, l1, l2, l3, l4, l5, l6⟩ := (HB0.out.on hSw).ob.cells; go_simp; try rfl)⟩) hHeld ?_
      try simp only [Act.put, List.setIfInBounds_toArray, List.set_cons_zero, List.set_cons_succ]
      refine takeN (i := 3) (oi := _) (v := .slice (some p) (tl.length + 1) cap) 26 rfl rfl (by kernel_rfl) (by kernel_rfl) (by kernel_rfl) (fun _ _ _ h => h) (Or.inl ⟨by rfl, fun w2 hSw => by (go_simp)⟩) hHeld ?_
      try simp only [Act.put, List.setIfInBounds_toArray, List.set_cons_zero, List.set_cons_succ]
      refine takeN (i := 4) (oi := _) (v := .slice A1 tl.length (cap - 1)) 27 rfl rfl (by kernel_rfl) (by kernel_rfl) (by kernel_rfl) (fun _ _ _ h => h) (Or.inl ⟨by rfl, fun w2 hSw => by (have hsl := HSL.out w2; go_simp)⟩) hHeld ?_
      try simp only [Act.put, List.setIfInBounds_toArray, List.set_cons_zero, List.set_cons_succ]
      refine wpAnyH_ready (rs := [2]) (by kernel_rfl) (by simp) ?_
      refine AllReadyH.cons rfl (fun K hK => ?_) AllReadyH.nil
      go_simp
      go_wp2_with (first | (go_at_call 45; refine (HSH.out _).mono ?_; rintro e w' ⟨rfl, rfl⟩) | fail)
      refine hK.out _ _ hHeld (fun hHeld => ?_)
      clear hK K
      try simp only [Act.put, List.setIfInBounds_toArray, List.set_cons_zero, List.set_cons_succ]
      refine wpAnyH_ready (rs := [5]) (by kernel_rfl) (by simp) ?_
      refine AllReadyH.cons rfl (fun K hK => ?_) AllReadyH.nil
      go_simp
      refine (HU.out _ (HST.out.below HBD.out.bel) HBD.out.bel.size).mono ?_
      intro e w2 hun
      rw [HRS.out] at hun
      obtain ⟨A3, c3, xs, vals, rfl, hown, hvals, htold, hb2⟩ := hun.ok HMS.out HUN.out
      have hBQ : Below wr.heap.size wr w2 := hHeld.trans (hb2.mono hHeld.size)
      refine hK.out _ _ hBQ (fun hHeld => ?_)
      clear hK K hBQ
      try simp only [Act.put, List.setIfInBounds_toArray, List.set_cons_zero, List.set_cons_succ]
      refine takeN (i := 6) (oi := _) (v := .tuple #[.slice A3 qs.length c3, .int .i64 (tl.length : Int), .int .i64 0]) 22 rfl rfl (by kernel_rfl) (by kernel_rfl) (by kernel_rfl) (fun _ _ _ h => h) (Or.inl ⟨by rfl, fun w2 hSw => by (go_simp)⟩) hHeld ?_
      try simp only [Act.put, List.setIfInBounds_toArray, List.set_cons_zero, List.set_cons_succ]
      refine takeN (i := 7) (oi := _) (v := .slice A3 qs.length c3) 29 rfl rfl (by kernel_rfl) (by kernel_rfl) (by kernel_rfl) (fun _ _ _ h => h) (Or.inl ⟨by rfl, fun w2 hSw => by (go_simp)⟩) hHeld ?_
      try simp only [Act.put, List.setIfInBounds_toArray, List.set_cons_zero, List.set_cons_succ]
      refine takeN (i := 8) (oi := _) (v := .int .i64 (tl.length : Int)) 30 rfl rfl (by kernel_rfl) (by kernel_rfl) (by kernel_rfl) (fun _ _ _ h => h) (Or.inl ⟨by rfl, fun w2 hSw => by (go_simp)⟩) hHeld ?_
      try simp only [Act.put, List.setIfInBounds_toArray, List.set_cons_zero, List.set_cons_succ]
      refine takeN (i := 9) (oi := _) (v := .int .i64 0) 31 rfl rfl (by kernel_rfl) (by kernel_rfl) (by kernel_rfl) (fun _ _ _ h => h) (Or.inl ⟨by rfl, fun w2 hSw => by (go_simp)⟩) hHeld ?_
      try simp only [Act.put, List.setIfInBounds_toArray, List.set_cons_zero, List.set_cons_succ]
      refine takeN (i := 10) (oi := _) (v := .slice A3 qs.length c3) 6 rfl rfl (by kernel_rfl) (by kernel_rfl) (by kernel_rfl) (fun _ _ _ h => h) (Or.inl ⟨by rfl, fun w2 hSw => by (go_simp)⟩) hHeld ?_
      try simp only [Act.put, List.setIfInBounds_toArray, List.set_cons_zero, List.set_cons_succ]
      refine takeN (i := 11) (oi := _) (v := .int .i64 (tl.length : Int)) 7 rfl rfl (by kernel_rfl) (by kernel_rfl) (by kernel_rfl) (fun _ _ _ h => h) (Or.inl ⟨by rfl, fun w2 hSw => by (go_simp)⟩) hHeld ?_
      try simp only [Act.put, List.setIfInBounds_toArray, List.set_cons_zero, List.set_cons_succ]
      refine takeN (i := 12) (oi := _) (v := .int .i64 0) 8 rfl rfl (by kernel_rfl) (by kernel_rfl) (by kernel_rfl) (fun _ _ _ h => h) (Or.inl ⟨by rfl, fun w2 hSw => by (go_simp)⟩) hHeld ?_
      try simp only [Act.put, List.setIfInBounds_toArray, List.set_cons_zero, List.set_cons_succ]
      refine wpAnyH_done (by kernel_rfl) ?_ _
      refine NoPanic.normal ?_
      have HB2 := Lib.hid (HBD.out.on hb2)
      have hvl : vals.length = qs.length := by rw [← htold, List.length_map]
      have HTO : Hid (∀ (i : Nat) (h : i < vals.length) (h2 : i < qs.length), toldP vals[i] = qs[i]) := fun i h h2 => by
        have h3 : (vals.map toldP)[i]'(by rw [List.length_map]; exact h) = qs[i] := by simp only [htold]
        rw [List.getElem_map] at h3
        exact h3
      have HI0 : Hid (RfI w w2 (zeroO (b.toNat : Int)) none 0 A3 qs.length c3 xs vals) := by
        have hlw := (Array.getElem?_eq_some_iff.1 HBD.out.ob).1
        exact ⟨HB2.out.zb, HB2.out.ob, HB2.out.bel, Shows.empty _ _ _, ⟨Nat.le_refl _, by omega⟩, own_lo hown (by omega), hvals.below (hb2.mono HBD.out.bel.size), ⟨by show (0 : Nat) < _; omega, by show (0 : Nat) < _; omega, ⟨by show _ ≤ (b.toNat : Int); omega, by show (b.toNat : Int) ≤ _; omega⟩, ⟨by show _ ≤ (0 : Int); omega, by show (0 : Int) ≤ _; omega⟩, ⟨by show _ ≤ (0 : Int); omega, by show (0 : Int) ≤ _; omega⟩, ⟨by show _ ≤ (0 : Int); omega, by show (0 : Int) ≤ _; omega⟩⟩, by show (0 : Nat) ≤ _; omega⟩
      clear hown hvals htold hb2 hHeld HB0 HBD hun
      go_wp2_with fail
      go_loopw [9] (fun j wr => ∃ i own A' cap', i ≤ R.size ∧ j = .int .i64 (i : Int) ∧ Hid (RfI w wr own A' cap' A3 qs.length c3 xs vals) ∧ Hid (own = laidPs (zeroO (b.toNat : Int)) (L.take i) (qs.take i))) (fun j _ => R.size - (intOf j).toNat)
      case atStart => exact ⟨0, _, _, _, Nat.zero_le _, rfl, HI0, rfl⟩
      case round =>
        obtain ⟨i, own, A', cap', hp, rfl, HI, HE⟩ := hrel
        clear HI0 HB2
        by_cases hlt : i < R.size
        · obtain ⟨hil, hrx, hx⟩ := HRG.out i hlt
          have hiq : i < qs.length := by omega
          have hiv : i < vals.length := by omega
          have hft := HFI.out i hil hiq
          have hto := HTO.out i hiv hiq
          have hle : laid own ((L[i]'hil).toNat : Int) qs[i] = laidPs (zeroO (b.toNat : Int)) (L.take (i + 1)) (qs.take (i + 1)) := by
            rw [List.take_succ_eq_append_getElem hil, List.take_succ_eq_append_getElem hiq, laidPs_snoc _ _ _ _ _ (by rw [List.length_take, List.length_take, hql]), ← HE.out]
          have HLE := Lib.hid hle
          have hfit2 := laid_fit (w := own) HI.out.fit hft
          obtain ⟨g, hg⟩ := own_addr260 HI.out.row (by omega)
          obtain ⟨Ai, ci, hxi, hsi, hci, hcim⟩ := HI.out.vals_.at hiv
          have hrow := HI.out.row
          rw [hg] at hrow
          have k1 : wr.cell? ⟨g, i * 260 + 1, none⟩ = some (.int .u64 ((vals[i]'hiv).n : Int)) := (hrow.cellAt (i * 260 + 1) (by omega)).trans (hxi 1 (by omega))
          have k3 : wr.cell? ⟨g, i * 260 + 3, none⟩ = some (.slice Ai (vals[i]'hiv).b.length ci) := (hrow.cellAt (i * 260 + 3) (by omega)).trans (hxi 3 (by omega))
          generalize vals[i]'hiv = vi at *
          generalize qs[i]'hiq = qi at *
          generalize hch : L[i]'hil = ch at *
          generalize hrr : ((R[i]'hlt).toNat : Int) = rr at *
          obtain ⟨l0, l1, l2, l3, l4, l5, l6⟩ := HI.out.ob.cells
          have lf := fun j => frozen_of_row wr (w.heap.size + 1) j _ _ HI.out.ob
          have hfc := hft
          unfold fits at hfc
          clear hle hrow hxi HE HRG HFI HTO
          subst hg
          rcases hx with hx | hx | hx | hx | hx | hx
          · obtain rfl : ch = 86 := UInt8.toNat.inj (by show _ = 86; omega)
            rw [hx] at hrx
            subst hrx
            rw [if_neg (by decide)] at hfc
            obtain ⟨m, rfl, hm⟩ := hfc
            rw [told_num hto] at k1
            have RF : Hid (RfI w (wr.setCell ⟨w.heap.size + 1, 1, none⟩ (.int .u64 (m : Int))) (laid own (86 : Int) (.num m)) A' cap' (some ⟨g, 0, none⟩) qs.length c3 xs vals) := by
              have h := HI.out.set (laid own (86 : Int) (.num m)) A' cap' HI.out.shw HI.out.capl hfit2 HI.out.dle
              rw [setCell_eq_setRow wr (w.heap.size + 1) 1 _ _ _ _ HI.out.ob]
              exact h
            clear hft hfit2 hsi hci HI hto
            go_wp2_with fail
            go_roundw
            case rel => exact ⟨i + 1, _, _, _, hlt, by go_num, RF, HLE.out⟩
            case measure => simp [intOf]; omega
          · obtain rfl : ch = 84 := UInt8.toNat.inj (by show _ = 84; omega)
            rw [hx] at hrx
            subst hrx
            rw [if_neg (by decide)] at hfc
            obtain ⟨m, rfl, hm⟩ := hfc
            rw [told_num hto] at k1
            have RF : Hid (RfI w (wr.setCell ⟨w.heap.size + 1, 2, none⟩ (.int .u64 (m : Int))) (laid own (84 : Int) (.num m)) A' cap' (some ⟨g, 0, none⟩) qs.length c3 xs vals) := by
              have h := HI.out.set (laid own (84 : Int) (.num m)) A' cap' HI.out.shw HI.out.capl hfit2 HI.out.dle
              rw [setCell_eq_setRow wr (w.heap.size + 1) 2 _ _ _ _ HI.out.ob]
              exact h
            clear hft hfit2 hsi hci HI hto
            go_wp2_with fail
            go_roundw
            case rel => exact ⟨i + 1, _, _, _, hlt, by go_num, RF, HLE.out⟩
            case measure => simp [intOf]; omega
          · obtain rfl : ch = 83 := UInt8.toNat.inj (by show _ = 83; omega)
            rw [hx] at hrx
            subst hrx
            rw [if_neg (by decide)] at hfc
            obtain ⟨m, rfl, hm⟩ := hfc
            rw [told_num hto] at k1
            have hwm : IntKind.i64.wrap (m : Int) = (m : Int) := toI_nat m (by omega)
            have htm : toI m = (m : Int) := toI_nat m (by omega)
            have RF : Hid (RfI w (wr.setCell ⟨w.heap.size + 1, 3, none⟩ (.int .i64 (m : Int))) (laid own (83 : Int) (.num m)) A' cap' (some ⟨g, 0, none⟩) qs.length c3 xs vals) := by
              have h := HI.out.set (laid own (83 : Int) (.num m)) A' cap' HI.out.shw HI.out.capl hfit2 HI.out.dle
              rw [setCell_eq_setRow wr (w.heap.size + 1) 3 _ _ _ _ HI.out.ob]
              have e : ((laid own (83 : Int) (.num m))).s = (m : Int) := htm
              rw [e] at h
              exact h
            clear hft hfit2 hsi hci HI hto
            go_wp2_with fail
            go_roundw
            case rel => exact ⟨i + 1, _, _, _, hlt, by go_num, RF, HLE.out⟩
            case measure => simp [intOf]; omega
          · obtain rfl : ch = 65 := UInt8.toNat.inj (by show _ = 65; omega)
            rw [hx] at hrx
            subst hrx
            rw [if_neg (by decide)] at hfc
            obtain ⟨m, rfl, hm⟩ := hfc
            rw [told_num hto] at k1
            have hwm : IntKind.i64.wrap (m : Int) = (m : Int) := toI_nat m (by omega)
            have htm : toI m = (m : Int) := toI_nat m (by omega)
            have RF : Hid (RfI w (wr.setCell ⟨w.heap.size + 1, 4, none⟩ (.int .i64 (m : Int))) (laid own (65 : Int) (.num m)) A' cap' (some ⟨g, 0, none⟩) qs.length c3 xs vals) := by
              have h := HI.out.set (laid own (65 : Int) (.num m)) A' cap' HI.out.shw HI.out.capl hfit2 HI.out.dle
              rw [setCell_eq_setRow wr (w.heap.size + 1) 4 _ _ _ _ HI.out.ob]
              have e : ((laid own (65 : Int) (.num m))).a = (m : Int) := htm
              rw [e] at h
              exact h
            clear hft hfit2 hsi hci HI hto
            go_wp2_with fail
            go_roundw
            case rel => exact ⟨i + 1, _, _, _, hlt, by go_num, RF, HLE.out⟩
            case measure => simp [intOf]; omega
          · obtain rfl : ch = 67 := UInt8.toNat.inj (by show _ = 67; omega)
            rw [hx] at hrx
            subst hrx
            rw [if_neg (by decide)] at hfc
            obtain ⟨m, rfl, hm⟩ := hfc
            rw [told_num hto] at k1
            have hwm : IntKind.i64.wrap (m : Int) = (m : Int) := toI_nat m (by omega)
            have htm : toI m = (m : Int) := toI_nat m (by omega)
            have RF : Hid (RfI w (wr.setCell ⟨w.heap.size + 1, 5, none⟩ (.int .i64 (m : Int))) (laid own (67 : Int) (.num m)) A' cap' (some ⟨g, 0, none⟩) qs.length c3 xs vals) := by
              have h := HI.out.set (laid own (67 : Int) (.num m)) A' cap' HI.out.shw HI.out.capl hfit2 HI.out.dle
              rw [setCell_eq_setRow wr (w.heap.size + 1) 5 _ _ _ _ HI.out.ob]
              have e : ((laid own (67 : Int) (.num m))).c = (m : Int) := htm
              rw [e] at h
              exact h
            clear hft hfit2 hsi hci HI hto
            go_wp2_with fail
            go_roundw
            case rel => exact ⟨i + 1, _, _, _, hlt, by go_num, RF, HLE.out⟩
            case measure => simp [intOf]; omega
          · obtain rfl : ch = 68 := UInt8.toNat.inj (by show _ = 68; omega)
            rw [hx] at hrx
            subst hrx
            rw [if_pos rfl] at hfc
            obtain ⟨dd, rfl, hdd⟩ := hfc
            have htb := told_blob hto
            rw [htb] at k3 hsi hci
            have RF : Hid (RfI w (wr.setCell ⟨w.heap.size + 1, 6, none⟩ (.slice Ai dd.length ci)) (laid own (68 : Int) (.blob dd)) Ai ci (some ⟨g, 0, none⟩) qs.length c3 xs vals) := by
              have h := HI.out.set (laid own (68 : Int) (.blob dd)) Ai ci hsi ⟨hci, hcim⟩ hfit2 hdd
              rw [setCell_eq_setRow wr (w.heap.size + 1) 6 _ _ _ _ HI.out.ob]
              exact h
            clear hft hfit2 hsi hci HI hto
            go_wp2_with fail
            go_roundw
            case rel => exact ⟨i + 1, _, _, _, hlt, by go_num, RF, HLE.out⟩
            case measure => simp [intOf]; omega
        · obtain rfl : i = R.size := by omega
          have hfin : own = fo := by rw [HE.out]; exact HLP.out
          subst hfin
          obtain ⟨l0, l1, l2, l3, l4, l5, l6⟩ := HI.out.ob.cells
          have HMY : Hid (Calls Try.prog 11 #[.agg #[.int .i64 own.k, .int .u64 (own.v : Int), .int .u64 (own.t : Int), .int .i64 own.s, .int .i64 own.a, .int .i64 own.c, .slice A' own.d.length cap']] wr fun e w' => e = .returned (.bool mb) ∧ Below wr.heap.size wr w') := by
            have h := rmayO_any own.k own.v own.t own.s own.a own.c own.d A' cap' wr (by have := HI.out.dle; omega)
            rw [← may_same ⟨own.k, own.v, own.t, own.s, own.a, own.c, own.d⟩ HI.out.fit, show mayO ⟨own.k, own.v, own.t, own.s, own.a, own.c, own.d⟩ = mb from HMB.out] at h
            exact h
          clear HMB HRG HFI HTO
          go_wp2_with fail
          refine HMY.out.mono ?_
          rintro e w5 ⟨rfl, hb5⟩
          have HZ5 := Lib.hid (HI.out.zb.below hb5 (Array.getElem?_eq_some_iff.1 HI.out.zb).1)
          have ho5 := HI.out.ob.below hb5 (Array.getElem?_eq_some_iff.1 HI.out.ob).1
          have HB5 : Hid (Below w.heap.size w w5) := HI.out.bel.trans (hb5.mono HI.out.bel.size)
          have HS5 := Lib.hid (HI.out.shw.below (hb5.mono HI.out.bel.size))
          have hcl := HI.out.capl
          clear l0 l1 l2 l3 l4 l5 l6 hb5 HI HMY
          obtain ⟨l0, l1, l2, l3, l4, l5, l6⟩ := ho5.cells
          clear ho5
          cases mb with
          | false =>
            obtain ⟨⟨z0, z1, z2, z3, z4, z5, z6⟩, zf⟩ := (HZ5.out).cells
            go_wp2_with fail
            rw [seven (HZ5.out)]
            refine bodyPost_ret (results_cell_tmp rfl _ _ w.heap.size 26 _ (0, 0) _ _ rfl rfl (setRow_heap _ _ _ _ _ _ (HZ5.out)) Try.underlying26 rfl op_size) rfl ?_
            exact OOf.zero rfl (below_setRow (HB5.out) (Nat.le_refl _) _)
          | true =>
            obtain ⟨⟨z0, z1, z2, z3, z4, z5, z6⟩, zf⟩ := HZ5.out.cells
            go_wp2_with fail
            rw [seven HZ5.out]
            refine bodyPost_ret (results_cell_tmp rfl _ _ w.heap.size 26 _ (0, 0) _ _ rfl rfl (setRow_heap _ _ _ _ _ _ HZ5.out) Try.underlying26 rfl op_size) rfl ?_
            show OOf w (some own) _ _ _
            exact ⟨A', cap', _, rfl, rfl, ((HS5.out.below (below_setRow (Below.refl w.heap.size w5) (Nat.le_refl _) _)).wide (by have := HB5.out.size; simp; omega)), hcl.1, hcl.2, below_setRow HB5.out (Nat.le_refl _) _⟩
    · have hr : (if n = tl.length ∧ mayO (laidPs (zeroO (b.toNat : Int)) L qs) = true then some (laidPs (zeroO (b.toNat : Int)) L qs) else none) = none := if_neg (fun h => hn h.1)
      simp only []
      rw [hr]
      have hnI : ((n : Int) + 1 != (tl.length : Int) + 1) = true := by rw [bne_iff_ne]; omega
      clear hr hu hn
      go_enter Try.func20, Try.ntmps20
      go_wp2_with (go_at_call 42; refine (HN.out _).mono ?_; rintro e w' ⟨rfl, rfl⟩)
      obtain ⟨wr, hwr⟩ : ∃ wr, ((w.alloc (.cells #[.int .i64 0, .int .u64 0, .int .u64 0, .int .i64 0, .int .i64 0, .int .i64 0, .slice none 0 0] 26)).alloc (.cells #[.int .i64 (b.toNat : Int), .int .u64 0, .int .u64 0, .int .i64 0, .int .i64 0, .int .i64 0, .slice none 0 0] 26)) = wr := ⟨_, rfl⟩
      rw [hwr] at HB0 ⊢
      clear hwr hcell2
      have HBD := Lib.hid (HB0.out.on ((Below.refl _ wr).drew))
      refine wp_region_noPanic ?_
      refine wp_region_held_drew (S := fun w' => Below wr.heap.size wr w') (by kernel_rfl) ((Below.refl _ wr).drew) (fun hHeld => ?_)
      refine takeN (i := 0) (oi := _) (v := .pointer (some ⟨w.heap.size + 1, 0, none⟩)) 23 rfl rfl (by kernel_rfl) (by kernel_rfl) (by kernel_rfl) (fun _ _ _ h => h) (Or.inl ⟨by rfl, fun w2 hSw => by (go_simp)⟩) hHeld ?_
      try simp only [Act.put, List.setIfInBounds_toArray, List.set_cons_zero, List.set_cons_succ]
      refine takeN (i := 1) (oi := _) (v := .int .i64 (b.toNat : Int)) 24 rfl rfl (by kernel_rfl) (by kernel_rfl) (by kernel_rfl) (fun _ _ _ h => h) (Or.inl ⟨by rfl, fun w2 hSw => by (obtain ⟨l0, l1, l2, l3, l4, l5, l6⟩ := (HB0.out.on hSw).ob.cells; go_simp; try rfl)⟩) hHeld ?_
      try simp only [Act.put, List.setIfInBounds_toArray, List.set_cons_zero, List.set_cons_succ]
      refine takeN (i := 3) (oi := _) (v := .slice (some p) (tl.length + 1) cap) 26 rfl rfl (by kernel_rfl) (by kernel_rfl) (by kernel_rfl) (fun _ _ _ h => h) (Or.inl ⟨by rfl, fun w2 hSw => by (go_simp)⟩) hHeld ?_
      try simp only [Act.put, List.setIfInBounds_toArray, List.set_cons_zero, List.set_cons_succ]
      refine takeN (i := 4) (oi := _) (v := .slice A1 tl.length (cap - 1)) 27 rfl rfl (by kernel_rfl) (by kernel_rfl) (by kernel_rfl) (fun _ _ _ h => h) (Or.inl ⟨by rfl, fun w2 hSw => by (have hsl := HSL.out w2; go_simp)⟩) hHeld ?_
      try simp only [Act.put, List.setIfInBounds_toArray, List.set_cons_zero, List.set_cons_succ]
      refine wpAnyH_ready (rs := [2]) (by kernel_rfl) (by simp) ?_
      refine AllReadyH.cons rfl (fun K hK => ?_) AllReadyH.nil
      go_simp
      go_wp2_with (first | (go_at_call 45; refine (HSH.out _).mono ?_; rintro e w' ⟨rfl, rfl⟩) | fail)
      refine hK.out _ _ hHeld (fun hHeld => ?_)
      clear hK K
      try simp only [Act.put, List.setIfInBounds_toArray, List.set_cons_zero, List.set_cons_succ]
      refine wpAnyH_ready (rs := [5]) (by kernel_rfl) (by simp) ?_
      refine AllReadyH.cons rfl (fun K hK => ?_) AllReadyH.nil
      go_simp
      refine (HU.out _ (HST.out.below HBD.out.bel) HBD.out.bel.size).mono ?_
      intro e w2 hun
      rw [HRS.out] at hun
      obtain ⟨A3, c3, xs, vals, rfl, hown, hvals, htold, hb2⟩ := hun.ok HMS.out HUN.out
      have hBQ : Below wr.heap.size wr w2 := hHeld.trans (hb2.mono hHeld.size)
      refine hK.out _ _ hBQ (fun hHeld => ?_)
      clear hK K hBQ
      try simp only [Act.put, List.setIfInBounds_toArray, List.set_cons_zero, List.set_cons_succ]
      refine takeN (i := 6) (oi := _) (v := .tuple #[.slice A3 qs.length c3, .int .i64 (n : Int), .int .i64 0]) 22 rfl rfl (by kernel_rfl) (by kernel_rfl) (by kernel_rfl) (fun _ _ _ h => h) (Or.inl ⟨by rfl, fun w2 hSw => by (go_simp)⟩) hHeld ?_
      try simp only [Act.put, List.setIfInBounds_toArray, List.set_cons_zero, List.set_cons_succ]
      refine takeN (i := 7) (oi := _) (v := .slice A3 qs.length c3) 29 rfl rfl (by kernel_rfl) (by kernel_rfl) (by kernel_rfl) (fun _ _ _ h => h) (Or.inl ⟨by rfl, fun w2 hSw => by (go_simp)⟩) hHeld ?_
      try simp only [Act.put, List.setIfInBounds_toArray, List.set_cons_zero, List.set_cons_succ]
      refine takeN (i := 8) (oi := _) (v := .int .i64 (n : Int)) 30 rfl rfl (by kernel_rfl) (by kernel_rfl) (by kernel_rfl) (fun _ _ _ h => h) (Or.inl ⟨by rfl, fun w2 hSw => by (go_simp)⟩) hHeld ?_
      try simp only [Act.put, List.setIfInBounds_toArray, List.set_cons_zero, List.set_cons_succ]
      refine takeN (i := 9) (oi := _) (v := .int .i64 0) 31 rfl rfl (by kernel_rfl) (by kernel_rfl) (by kernel_rfl) (fun _ _ _ h => h) (Or.inl ⟨by rfl, fun w2 hSw => by (go_simp)⟩) hHeld ?_
      try simp only [Act.put, List.setIfInBounds_toArray, List.set_cons_zero, List.set_cons_succ]
      refine takeN (i := 10) (oi := _) (v := .slice A3 qs.length c3) 6 rfl rfl (by kernel_rfl) (by kernel_rfl) (by kernel_rfl) (fun _ _ _ h => h) (Or.inl ⟨by rfl, fun w2 hSw => by (go_simp)⟩) hHeld ?_
      try simp only [Act.put, List.setIfInBounds_toArray, List.set_cons_zero, List.set_cons_succ]
      refine takeN (i := 11) (oi := _) (v := .int .i64 (n : Int)) 7 rfl rfl (by kernel_rfl) (by kernel_rfl) (by kernel_rfl) (fun _ _ _ h => h) (Or.inl ⟨by rfl, fun w2 hSw => by (go_simp)⟩) hHeld ?_
      try simp only [Act.put, List.setIfInBounds_toArray, List.set_cons_zero, List.set_cons_succ]
      refine takeN (i := 12) (oi := _) (v := .int .i64 0) 8 rfl rfl (by kernel_rfl) (by kernel_rfl) (by kernel_rfl) (fun _ _ _ h => h) (Or.inl ⟨by rfl, fun w2 hSw => by (go_simp)⟩) hHeld ?_
      try simp only [Act.put, List.setIfInBounds_toArray, List.set_cons_zero, List.set_cons_succ]
      refine wpAnyH_done (by kernel_rfl) ?_ _
      refine NoPanic.normal ?_
      have HB2 := Lib.hid (HBD.out.on hb2)
      clear hb2 hown hvals htold
      obtain ⟨⟨z0, z1, z2, z3, z4, z5, z6⟩, zf⟩ := (HB2.out.zb).cells
      go_wp2_with fail
      rw [seven (HB2.out.zb)]
      refine bodyPost_ret (results_cell_tmp rfl _ _ w.heap.size 26 _ (0, 0) _ _ rfl rfl (setRow_heap _ _ _ _ _ _ (HB2.out.zb)) Try.underlying26 rfl op_size) rfl ?_
      exact OOf.zero rfl (below_setRow (HB2.out.bel) (Nat.le_refl _) _)

end Go.Proofs.Ytpkbkliblbbdcaa
