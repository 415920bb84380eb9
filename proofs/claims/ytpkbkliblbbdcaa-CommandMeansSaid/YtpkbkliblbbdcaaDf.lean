/- The walk of the document's AnswerOf. -/
import Derived.Test.YtpkbkliblbbdcaaDe
import Derived.Test.YtpkbkliblbbdcaaWg
set_option linter.unusedVariables false
namespace Go.Proofs.Ytpkbkliblbbdcaa
open Go.RowKit
set_option maxRecDepth 20000

theorem told_num {v : LVal} {a : Nat} (h : toldP v = .num a) : v.n = a := by
  unfold toldP at h
  repeat' split at h
  all_goals first | (cases h; rfl) | cases h
theorem told_blob {v : LVal} {d : List UInt8} (h : toldP v = .blob d) : v.b = d := by
  unfold toldP at h
  repeat' split at h
  all_goals first | (cases h; rfl) | cases h
theorem Vals.at {w : World} {B : Nat} {xs : List Value} {vals : List LVal} (h : Vals w B xs vals) {i : Nat} (hi : i < vals.length) : ∃ A cap, (∀ j, j < 260 → xs[i * 260 + j]? = (lvCells vals[i] A cap)[j]?) ∧ Shows w B A vals[i].b.length (cells8 vals[i].b) ∧ vals[i].b.length ≤ cap ∧ cap ≤ 9223372036854775807 := by
  obtain ⟨A, cap, e, hx, hn, hs, hc, hcm⟩ := h i hi
  refine ⟨A, cap, fun j hj => ?_, hs, hc, hcm⟩
  rw [← e, List.getElem?_take_of_lt hj, List.getElem?_drop]

/-- what the document's Unpack hands back, where it goes well -/
theorem RUnp.ok {w w' : World} {B : Nat} {s l : List UInt8} {e : Ending} {ps : List PV} {n : Nat} (h : RUnp w B s l e w') (hm : mayS s = true) (hu : unpZ s l = some (ps, n)) :
    ∃ A c xs vals, e = .returned (.tuple #[.slice A ps.length c, .int .i64 (n : Int), .int .i64 0]) ∧ w'.ownsRow w.heap.size 78 260 (.slice A ps.length c) ps.length xs ∧ Vals w B xs vals ∧ vals.map toldP = ps ∧ Below w.heap.size w w' := by
  obtain ⟨hb, h⟩ := h
  rw [if_pos hm, hu] at h
  obtain ⟨v, xs, vals, he, ho, hv, ht⟩ := h
  have hl : vals.length = ps.length := by rw [← ht, List.length_map]
  rw [hl] at ho
  obtain ⟨A, c, rfl⟩ := own_form260 ho
  exact ⟨A, c, xs, vals, he, ho, hv, ht, hb⟩
theorem RUnp.no {w w' : World} {B : Nat} {s l : List UInt8} {e : Ending} (h : RUnp w B s l e w') (hm : mayS s = true) (hu : unpZ s l = none) : e = .returned (.tuple #[.slice none 0 0, .int .i64 0, .int .i64 4]) ∧ Below w.heap.size w w' := by
  obtain ⟨hb, h⟩ := h
  rw [if_pos hm, hu] at h
  exact ⟨h, hb⟩
theorem own_addr260 {w : World} {base m c : Nat} {A : Option Addr} {e : TypeId} {xs : List Value} (h : w.ownsRow base e 260 (.slice A m c) m xs) (hm : 0 < m) : ∃ g, A = some ⟨g, 0, none⟩ := by
  rcases h.2 with ⟨_, h0⟩ | ⟨g, cap, cur, hv, _⟩
  · omega
  · injection hv with hv _ _
    exact ⟨g, hv⟩

set_option maxHeartbeats 8000000 in
theorem ransOf_any (A : Option Addr) (cap : Nat) (l : List UInt8) (w : World) (hl2 : l.length ≤ 1000000000) (hs : Shows w w.heap.size A l.length (cells8 l)) (hc : l.length ≤ cap) (hcm : cap ≤ 9223372036854775807) :
    Calls Try.prog 22 #[.slice A l.length cap] w (AOf w (ansOf l) (fun u => u = .bool (ansOf l).isSome)) := by
  have HU := Lib.hid (fun W hS => runpack_any ⟨#[49, 52, 42]⟩ w.heap.size A cap l W (by decide) hS)
  have HS := Lib.hid hs
  have e0 : bs (⟨#[49, 52, 42]⟩ : ByteArray) = [49, 52, 42] := rfl
  have HE0 := Lib.hid e0
  clear hs e0
  cases hu : unpZ [49, 52, 42] l with
  | none =>
    have hr : ansOf l = none := by simp only [ansOf, hu]
    rw [hr]
    clear hr
    have HUZ := Lib.hid hu
    clear hu
    go_enter Try.func22, Try.ntmps22
    go_wp2_with fail
    refine (HU.out _ (HS.out.alloc (Nat.le_refl _) _) (by simp) hc hcm hl2).mono ?_
    intro e w1 hun
    rw [HE0.out] at hun
    obtain ⟨rfl, hb1⟩ := hun.no (by decide) HUZ.out
    clear hun
    have hz : ZA w1 w.heap.size := (hb1.block _ (by simp)).trans (heap_alloc_new _ _)
    obtain ⟨⟨z0, z1, z2⟩, zf⟩ := hz.cells
    have HZ := Lib.hid hz
    have HB := Lib.hid (((Below.refl _ w).alloc (Nat.le_refl _) (.cells #[.int .i64 0, .int .i64 0, .slice none 0 0] 41)).trans (hb1.mono (by simp)))
    clear hb1 hz
    go_wp2_with fail
    rw [three HZ.out]
    refine bodyPost_ret (results_cell_tmp rfl _ _ w.heap.size 41 _ (0, 0) _ _ rfl rfl (setRow_heap _ _ _ _ _ _ HZ.out) Try.underlying41 rfl an_size) rfl ?_
    exact AOf.zero rfl (below_setRow HB.out (Nat.le_refl _) _)
  | some r =>
    obtain ⟨ps, n⟩ := r
    obtain ⟨a, c, d, rfl, ha, hc4, hd⟩ := unp_ans hu
    have HUZ := Lib.hid hu
    have hwa : IntKind.i64.wrap (a : Int) = (a : Int) := toI_nat a (by omega)
    have hwc : IntKind.i64.wrap (c : Int) = (c : Int) := toI_nat c (by omega)
    by_cases hn : n = l.length
    · have HMA := Lib.hid (fun Ax cx W => rmayA_any (a : Int) (c : Int) d Ax cx W (by omega))
      have hr : ansOf l = if mayA ⟨(a : Int), (c : Int), d⟩ = true then some ⟨(a : Int), (c : Int), d⟩ else none := by
        simp only [ansOf, hu, hn, true_and]
      rw [hr]
      clear hr hu
      generalize mayA ⟨(a : Int), (c : Int), d⟩ = mb at *
      go_enter Try.func22, Try.ntmps22
      go_wp2_with fail
      refine (HU.out _ (HS.out.alloc (Nat.le_refl _) _) (by simp) hc hcm hl2).mono ?_
      intro e w1 hun
      rw [HE0.out] at hun
      obtain ⟨A3, c3, xs, vals, rfl, hown, hvals, htold, hb1⟩ := hun.ok (by decide) HUZ.out
      clear hun
      have hz : ZA w1 w.heap.size := (hb1.block _ (by simp)).trans (heap_alloc_new _ _)
      have HB := Lib.hid (((Below.refl _ w).alloc (Nat.le_refl _) (.cells #[.int .i64 0, .int .i64 0, .slice none 0 0] 41)).trans (hb1.mono (by simp)))
      obtain ⟨g, rfl⟩ := own_addr260 hown (show 0 < 3 by omega)
      have hvl : vals.length = 3 := by
        have h := congrArg List.length htold
        rw [List.length_map] at h
        exact h
      match vals, hvl with
      | [v0, v1, v2], _ =>
      simp only [List.map_cons, List.map_nil, List.cons.injEq, and_true] at htold
      have t0 := told_num htold.1
      have t1 := told_num htold.2.1
      have t2 := told_blob htold.2.2
      obtain ⟨A0, c0', hx0, _⟩ := hvals.at (show 0 < 3 by omega)
      obtain ⟨A1, c1', hx1, _⟩ := hvals.at (show 1 < 3 by omega)
      obtain ⟨Ad, cd, hx2, hsd, hcd, hcdm⟩ := hvals.at (show 2 < 3 by omega)
      have k0 : w1.cell? ⟨g, 1, none⟩ = some (.int .u64 (a : Int)) := by
        rw [hown.cellAt 1 (show 1 < 3 * 260 by omega)]
        have h := hx0 1 (by omega)
        rw [← t0]
        exact h
      have k1 : w1.cell? ⟨g, 261, none⟩ = some (.int .u64 (c : Int)) := by
        rw [hown.cellAt 261 (show 261 < 3 * 260 by omega)]
        have h := hx1 1 (by omega)
        rw [← t1]
        exact h
      have k2 : w1.cell? ⟨g, 523, none⟩ = some (.slice Ad d.length cd) := by
        rw [hown.cellAt 523 (show 523 < 3 * 260 by omega)]
        have h := hx2 3 (by omega)
        rw [← t2]
        exact h
      have hsd2 : Shows (w.alloc (.cells #[.int .i64 0, .int .i64 0, .slice none 0 0] 41)) w.heap.size Ad d.length (cells8 d) := by rw [← t2]; exact hsd
      have hcd2 : d.length ≤ cd := by rw [← t2]; exact hcd
      have hgl := (hown.lt g rfl).2
      have HK : Hid (∀ w2, Below w1.heap.size w1 w2 → w2.cell? ⟨g, 1, none⟩ = some (.int .u64 (a : Int)) ∧ w2.cell? ⟨g, 261, none⟩ = some (.int .u64 (c : Int)) ∧ w2.cell? ⟨g, 523, none⟩ = some (.slice Ad d.length cd)) := fun w2 hb => ⟨(hb.cell (p := ⟨g, 1, none⟩) hgl).trans k0, (hb.cell (p := ⟨g, 261, none⟩) hgl).trans k1, (hb.cell (p := ⟨g, 523, none⟩) hgl).trans k2⟩
      have HSD := Lib.hid (hsd2.below (hb1.mono (by simp)))
      have hn3 : ([PV.num a, PV.num c, PV.blob d] : List PV).length = 3 := rfl
      rw [hn3]
      subst hn
      have HZ := Lib.hid hz
      clear hown hvals htold hx0 hx1 hx2 t0 t1 t2 hsd hcd hsd2 hb1 hz hn3 k0 k1 k2
      go_upto_region 4 with fail
      refine wp_region_noPanic ?_
      refine wp_region_held_drew (S := fun w' => Below w1.heap.size w1 w') (by kernel_rfl) ((Below.refl _ w1).drew) (fun hHeld => ?_)
      refine takeN (i := 0) (oi := _) (v := .slice (some ⟨g, 0, none⟩) 3 c3) 23 rfl rfl (by kernel_rfl) (by kernel_rfl) (by kernel_rfl) (fun _ _ _ h => h) (Or.inl ⟨by rfl, fun w2 hSw => by (go_simp)⟩) hHeld ?_
      try simp only [Act.put, List.setIfInBounds_toArray, List.set_cons_zero, List.set_cons_succ]
      refine takeN (i := 1) (oi := _) (v := .pointer (some ⟨g, 0, none⟩)) 24 rfl rfl (by kernel_rfl) (by kernel_rfl) (by kernel_rfl) (fun _ _ _ h => h) (Or.inl ⟨by rfl, fun w2 hSw => by (go_simp)⟩) hHeld ?_
      try simp only [Act.put, List.setIfInBounds_toArray, List.set_cons_zero, List.set_cons_succ]
      refine takeN (i := 2) (oi := _) (v := .pointer (some ⟨g, 1, none⟩)) 25 rfl rfl (by kernel_rfl) (by kernel_rfl) (by kernel_rfl) (fun _ _ _ h => h) (Or.inl ⟨by rfl, fun w2 hSw => by (go_simp)⟩) hHeld ?_
      try simp only [Act.put, List.setIfInBounds_toArray, List.set_cons_zero, List.set_cons_succ]
      refine takeN (i := 3) (oi := _) (v := .int .u64 (a : Int)) 26 rfl rfl (by kernel_rfl) (by kernel_rfl) (by kernel_rfl) (fun _ _ _ h => h) (Or.inl ⟨by rfl, fun w2 hSw => by (obtain ⟨k0, k1, k2⟩ := HK.out w2 hSw; go_simp)⟩) hHeld ?_
      try simp only [Act.put, List.setIfInBounds_toArray, List.set_cons_zero, List.set_cons_succ]
      refine takeN (i := 4) (oi := _) (v := .int .i64 (a : Int)) 27 rfl rfl (by kernel_rfl) (by kernel_rfl) (by kernel_rfl) (fun _ _ _ h => h) (Or.inl ⟨by rfl, fun w2 hSw => by (go_simp)⟩) hHeld ?_
      try simp only [Act.put, List.setIfInBounds_toArray, List.set_cons_zero, List.set_cons_succ]
      refine takeN (i := 5) (oi := _) (v := .slice (some ⟨g, 0, none⟩) 3 c3) 28 rfl rfl (by kernel_rfl) (by kernel_rfl) (by kernel_rfl) (fun _ _ _ h => h) (Or.inl ⟨by rfl, fun w2 hSw => by (go_simp)⟩) hHeld ?_
      try simp only [Act.put, List.setIfInBounds_toArray, List.set_cons_zero, List.set_cons_succ]
      refine takeN (i := 6) (oi := _) (v := .pointer (some ⟨g, 260, none⟩)) 29 rfl rfl (by kernel_rfl) (by kernel_rfl) (by kernel_rfl) (fun _ _ _ h => h) (Or.inl ⟨by rfl, fun w2 hSw => by (go_simp)⟩) hHeld ?_
      try simp only [Act.put, List.setIfInBounds_toArray, List.set_cons_zero, List.set_cons_succ]
      refine takeN (i := 7) (oi := _) (v := .pointer (some ⟨g, 261, none⟩)) 30 rfl rfl (by kernel_rfl) (by kernel_rfl) (by kernel_rfl) (fun _ _ _ h => h) (Or.inl ⟨by rfl, fun w2 hSw => by (go_simp)⟩) hHeld ?_
      try simp only [Act.put, List.setIfInBounds_toArray, List.set_cons_zero, List.set_cons_succ]
      refine takeN (i := 8) (oi := _) (v := .int .u64 (c : Int)) 31 rfl rfl (by kernel_rfl) (by kernel_rfl) (by kernel_rfl) (fun _ _ _ h => h) (Or.inl ⟨by rfl, fun w2 hSw => by (obtain ⟨k0, k1, k2⟩ := HK.out w2 hSw; go_simp)⟩) hHeld ?_
      try simp only [Act.put, List.setIfInBounds_toArray, List.set_cons_zero, List.set_cons_succ]
      refine takeN (i := 9) (oi := _) (v := .int .i64 (c : Int)) 32 rfl rfl (by kernel_rfl) (by kernel_rfl) (by kernel_rfl) (fun _ _ _ h => h) (Or.inl ⟨by rfl, fun w2 hSw => by (go_simp)⟩) hHeld ?_
      try simp only [Act.put, List.setIfInBounds_toArray, List.set_cons_zero, List.set_cons_succ]
      refine takeN (i := 10) (oi := _) (v := .slice (some ⟨g, 0, none⟩) 3 c3) 33 rfl rfl (by kernel_rfl) (by kernel_rfl) (by kernel_rfl) (fun _ _ _ h => h) (Or.inl ⟨by rfl, fun w2 hSw => by (go_simp)⟩) hHeld ?_
      try simp only [Act.put, List.setIfInBounds_toArray, List.set_cons_zero, List.set_cons_succ]
      refine takeN (i := 11) (oi := _) (v := .pointer (some ⟨g, 520, none⟩)) 34 rfl rfl (by kernel_rfl) (by kernel_rfl) (by kernel_rfl) (fun _ _ _ h => h) (Or.inl ⟨by rfl, fun w2 hSw => by (go_simp)⟩) hHeld ?_
      try simp only [Act.put, List.setIfInBounds_toArray, List.set_cons_zero, List.set_cons_succ]
      refine takeN (i := 12) (oi := _) (v := .pointer (some ⟨g, 523, none⟩)) 35 rfl rfl (by kernel_rfl) (by kernel_rfl) (by kernel_rfl) (fun _ _ _ h => h) (Or.inl ⟨by rfl, fun w2 hSw => by (go_simp)⟩) hHeld ?_
      try simp only [Act.put, List.setIfInBounds_toArray, List.set_cons_zero, List.set_cons_succ]
      refine takeN (i := 13) (oi := _) (v := .slice Ad d.length cd) 36 rfl rfl (by kernel_rfl) (by kernel_rfl) (by kernel_rfl) (fun _ _ _ h => h) (Or.inl ⟨by rfl, fun w2 hSw => by (obtain ⟨k0, k1, k2⟩ := HK.out w2 hSw; go_simp)⟩) hHeld ?_
      try simp only [Act.put, List.setIfInBounds_toArray, List.set_cons_zero, List.set_cons_succ]
      refine takeN (i := 14) (oi := _) (v := .agg #[.int .i64 (a : Int), .int .i64 (c : Int), .slice Ad d.length cd]) 37 rfl rfl (by kernel_rfl) (by kernel_rfl) (by kernel_rfl) (fun _ _ _ h => h) (Or.inl ⟨by rfl, fun w2 hSw => by (go_simp)⟩) hHeld ?_
      try simp only [Act.put, List.setIfInBounds_toArray, List.set_cons_zero, List.set_cons_succ]
      refine wpAnyH_ready (rs := [15]) (by kernel_rfl) (by simp) ?_
      refine AllReadyH.cons rfl (fun K hK => ?_) AllReadyH.nil
      go_simp
      refine hK.out _ _ (hHeld.alloc hHeld.size _) (fun hHeld => ?_)
      clear hK K
      try simp only [Act.put, List.setIfInBounds_toArray, List.set_cons_zero, List.set_cons_succ]
      refine wpAnyH_ready (rs := [16]) (by kernel_rfl) (by simp) ?_
      refine AllReadyH.cons rfl (fun K hK => ?_) AllReadyH.nil
      go_simp
      have hB5 : Below w1.heap.size w1 (w1.drew.alloc (.cells #[.int .i64 (a : Int), .int .i64 (c : Int), .slice Ad d.length cd] 41)) := ((Below.refl _ w1).drew).alloc (Nat.le_refl _) _
      refine hK.out _ _ hB5 (fun hHeld => ?_)
      clear hK K
      try simp only [Act.put, List.setIfInBounds_toArray, List.set_cons_zero, List.set_cons_succ]
      refine wpAnyH_done (by kernel_rfl) ?_ _
      refine NoPanic.normal ?_
      go_wp2_with fail
      refine (HMA.out Ad cd _).mono ?_
      rintro e w2 ⟨rfl, hb2⟩
      have hbx : BoxA w2 w1.heap.size ⟨(a : Int), (c : Int), d⟩ Ad cd := (hb2.block _ (by simp)).trans (heap_alloc_new _ _)
      have hlt : w.heap.size < w1.heap.size := (Array.getElem?_eq_some_iff.1 HZ.out).1
      have hbu : Below w1.heap.size w1 w2 := hB5.trans (hb2.mono (by simp))
      have hz2 : ZA w2 w.heap.size := HZ.out.below hbu hlt
      have HB2 : Hid (Below w.heap.size w w2) := HB.out.trans (hbu.mono HB.out.size)
      have HSD2 := Lib.hid (HSD.out.below (hbu.mono (Nat.le_of_lt hlt)))
      obtain ⟨⟨z0, z1, z2⟩, zf⟩ := hz2.cells
      obtain ⟨l0, l1, l2⟩ := hbx.cells
      have HZ2 := Lib.hid hz2
      clear hbx hbu hz2 hb2 hB5 HB HZ HSD HK HMA HU HUZ hwa hwc hHeld
      cases mb with
      | false =>
        go_wp2_with fail
        rw [three HZ2.out]
        refine bodyPost_ret (results_cell_tmp rfl _ _ w.heap.size 41 _ (0, 0) _ _ rfl rfl (setRow_heap _ _ _ _ _ _ HZ2.out) Try.underlying41 rfl an_size) rfl ?_
        exact AOf.zero (en := fun u => u = .bool false) rfl (below_setRow HB2.out (Nat.le_refl _) _)
      | true =>
        go_wp2_with fail
        rw [three HZ2.out]
        refine bodyPost_ret (results_cell_tmp rfl _ _ w.heap.size 41 _ (0, 0) _ _ rfl rfl (setRow_heap _ _ _ _ _ _ HZ2.out) Try.underlying41 rfl an_size) rfl ?_
        show AOf w (some ⟨(a : Int), (c : Int), d⟩) _ _ _
        exact ⟨Ad, cd, _, rfl, rfl, ((HSD2.out.below (below_setRow (Below.refl w.heap.size w2) (Nat.le_refl _) _)).wide (by have := HB2.out.size; simp; omega)), hcd2, hcdm, below_setRow HB2.out (Nat.le_refl _) _⟩
    · have hr : ansOf l = none := by
        simp only [ansOf, hu]
        exact if_neg (fun h => hn h.1)
      rw [hr]
      have hnI : ((n : Int) != (l.length : Int)) = true := by rw [bne_iff_ne]; omega
      clear hr hu hn
      go_enter Try.func22, Try.ntmps22
      go_wp2_with fail
      refine (HU.out _ (HS.out.alloc (Nat.le_refl _) _) (by simp) hc hcm hl2).mono ?_
      intro e w1 hun
      rw [HE0.out] at hun
      obtain ⟨A3, c3, xs, vals, rfl, hown, hvals, htold, hb1⟩ := hun.ok (by decide) HUZ.out
      clear hun
      have hz : ZA w1 w.heap.size := (hb1.block _ (by simp)).trans (heap_alloc_new _ _)
      obtain ⟨⟨z0, z1, z2⟩, zf⟩ := hz.cells
      have HZ := Lib.hid hz
      have HB := Lib.hid (((Below.refl _ w).alloc (Nat.le_refl _) (.cells #[.int .i64 0, .int .i64 0, .slice none 0 0] 41)).trans (hb1.mono (by simp)))
      clear hb1 hz hown hvals htold
      go_wp2_with fail
      rw [three HZ.out]
      refine bodyPost_ret (results_cell_tmp rfl _ _ w.heap.size 41 _ (0, 0) _ _ rfl rfl (setRow_heap _ _ _ _ _ _ HZ.out) Try.underlying41 rfl an_size) rfl ?_
      exact AOf.zero rfl (below_setRow HB.out (Nat.le_refl _) _)

end Go.Proofs.Ytpkbkliblbbdcaa
