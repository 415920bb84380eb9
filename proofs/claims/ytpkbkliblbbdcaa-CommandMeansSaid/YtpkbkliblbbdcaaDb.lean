/- The walk of the document's PackAnswer. -/
import Derived.Test.YtpkbkliblbbdcaaDa
set_option linter.unusedVariables false
namespace Go.Proofs.Ytpkbkliblbbdcaa
open Go.RowKit
set_option maxRecDepth 20000

/-- a slice literal of three values -/
theorem wp_three_val {o : Oper} {a : Act} {w : World} {K : Act → World → Prop} {Q : Exit → Act → World → Prop} (x y z : Operand) (ho : o.op = .buildSlice 80 3 #[(0, x), (1, y), (2, z)])
    (v1 v2 v3 : LVal) (A1 A2 A3 : Option Addr) (c1 c2 c3 : Nat) (h1 : v1.x.length = 256) (h2 : v2.x.length = 256) (h3 : v3.x.length = 256) (e1 : a.eval x = .agg (lvCells v1 A1 c1).toArray) (e2 : a.eval y = .agg (lvCells v2 A2 c2).toArray) (e3 : a.eval z = .agg (lvCells v3 A3 c3).toArray)
    (h : K (a.put o.dst (.slice (some ⟨w.heap.size, 0, none⟩) 3 3)) (w.alloc (.cells (lvCells v1 A1 c1 ++ (lvCells v2 A2 c2 ++ lvCells v3 A3 c3)).toArray 78))) : o.wp Try.prog a w K Q := by
  obtain ⟨i0, hi, hz0, hz1, hz2⟩ := info_parts val_info
  refine wp_buildSlice 80 78 3 _ ho _ i0 _ Try.underlying80 hi hz0 (by rw [hz1]; decide) (by rw [hz1]; decide) ?_ h
  rw [hz1, Array.toList_map]
  have := Great.fill_whole (s := 260) (by decide) [.agg (lvCells v1 A1 c1).toArray, .agg (lvCells v2 A2 c2).toArray, .agg (lvCells v3 A3 c3).toArray] ((Array.range (3 * 260)).map ((Value.agg (lvCells lv0 none 0).toArray).cells[· % (Value.agg (lvCells lv0 none 0).toArray).cells.size]!))
    (by intro u hu; simp only [List.mem_cons, List.not_mem_nil, or_false] at hu; rcases hu with rfl | rfl | rfl; exact cells_sz h1 A1 c1; exact cells_sz h2 A2 c2; exact cells_sz h3 A3 c3) (by simp)
  simp only [List.flatMap_cons, List.flatMap_nil, List.append_nil] at this
  show Instr.fill _ _ [(0, a.eval x), (1, a.eval y), (2, a.eval z)] = _
  rw [e1, e2, e3]
  simpa [Value.cells] using this

theorem told_three (kn sn : Nat) (d : List UInt8) : [lvN kn, lvN sn, lvB d].map toldP = [.num kn, .num sn, .blob d] := rfl

/-- the answer's box that came, and what lay -/
structure BA (w wr : World) (a : AN) (A : Option Addr) (cap : Nat) : Prop where
  box : BoxA wr w.heap.size a A cap
  bel : Below w.heap.size w wr
theorem BA.on {w wr w' : World} {a : AN} {A : Option Addr} {cap : Nat} (h : BA w wr a A cap) (hb : Below wr.heap.size wr w') : BA w w' a A cap :=
  ⟨h.box.below hb (Array.getElem?_eq_some_iff.1 h.box).1, h.bel.trans (hb.mono h.bel.size)⟩
theorem BA.new (w : World) (a : AN) (A : Option Addr) (cap : Nat) : BA w (w.alloc (.cells #[.int .i64 a.k, .int .i64 a.s, .slice A a.d.length cap] 41)) a A cap := ⟨heap_alloc_new _ _, (Below.refl _ _).alloc (Nat.le_refl _) _⟩

set_option maxHeartbeats 8000000 in
theorem rpackA_any (k s : Int) (d : List UInt8) (A : Option Addr) (cap : Nat) (w : World) (hd : d.length ≤ 16777216) (hcap : d.length ≤ cap) (hcm : cap ≤ 9223372036854775807) (hs : Shows w w.heap.size A d.length (cells8 d)) (hM : mayA ⟨k, s, d⟩ = true) (l : List UInt8) (hl : packA ⟨k, s, d⟩ = some l) :
    Calls Try.prog 29 #[.agg #[.int .i64 k, .int .i64 s, .slice A d.length cap]] w (PackIs w l) := by
  obtain ⟨⟨h1, h2⟩, ⟨h3, h4⟩, _⟩ := mayA_iff.1 hM
  obtain ⟨kn, rfl⟩ := int_nat h1
  obtain ⟨sn, rfl⟩ := int_nat h3
  have hkw := wrap_u kn (by omega)
  have hsw := wrap_u sn (by omega)
  have HS := Lib.hid hs
  have HPP : Hid (packR (bs ⟨#[49, 52, 42]⟩) ([lvN kn, lvN sn, lvB d].map toldP) = some l) := hl
  have hk9 : kn < 18446744073709551616 := by omega
  have hs9 : sn < 18446744073709551616 := by omega
  have HI0 := Lib.hid (BA.new w ⟨(kn : Int), (sn : Int), d⟩ A cap)
  clear hM h1 h3 hs hl
  go_enter Try.func29, Try.ntmps29
  go_upto_region 1 with fail
  obtain ⟨wr, hwr⟩ : ∃ wr, w.alloc (.cells #[.int .i64 (kn : Int), .int .i64 (sn : Int), .slice A d.length cap] 41) = wr := ⟨_, rfl⟩
  have HI : Hid (BA w wr ⟨(kn : Int), (sn : Int), d⟩ A cap) := by rw [← hwr]; exact HI0.out
  rw [hwr]
  clear hwr HI0
  refine wp_region_noPanic ?_
  refine wp_region_held_drew (S := fun w' => Below wr.heap.size wr w') (by kernel_rfl) ((Below.refl _ wr).drew) (fun hHeld => ?_)
  refine takeN (i := 0) (oi := _) (v := .pointer (some ⟨w.heap.size, 0, none⟩)) 6 rfl rfl (by kernel_rfl) (by kernel_rfl) (by kernel_rfl) (fun _ _ _ h => h) (Or.inl ⟨by rfl, fun w2 hSw => by (go_simp)⟩) hHeld ?_
  try simp only [Act.put, List.setIfInBounds_toArray, List.set_cons_zero, List.set_cons_succ]
  refine takeN (i := 1) (oi := _) (v := .int .i64 (kn : Int)) 7 rfl rfl (by kernel_rfl) (by kernel_rfl) (by kernel_rfl) (fun _ _ _ h => h) (Or.inl ⟨by rfl, fun w2 hSw => by (obtain ⟨l0, l1, l2⟩ := (HI.out.on hSw).box.cells; go_simp)⟩) hHeld ?_
  try simp only [Act.put, List.setIfInBounds_toArray, List.set_cons_zero, List.set_cons_succ]
  refine takeN (i := 2) (oi := _) (v := .int .u64 (kn : Int)) 8 rfl rfl (by kernel_rfl) (by kernel_rfl) (by kernel_rfl) (fun _ _ _ h => h) (Or.inl ⟨by rfl, fun w2 hSw => by (go_simp)⟩) hHeld ?_
  try simp only [Act.put, List.setIfInBounds_toArray, List.set_cons_zero, List.set_cons_succ]
  refine takeN (i := 4) (oi := _) (v := .pointer (some ⟨w.heap.size, 1, none⟩)) 10 rfl rfl (by kernel_rfl) (by kernel_rfl) (by kernel_rfl) (fun _ _ _ h => h) (Or.inl ⟨by rfl, fun w2 hSw => by (go_simp)⟩) hHeld ?_
  try simp only [Act.put, List.setIfInBounds_toArray, List.set_cons_zero, List.set_cons_succ]
  refine takeN (i := 5) (oi := _) (v := .int .i64 (sn : Int)) 11 rfl rfl (by kernel_rfl) (by kernel_rfl) (by kernel_rfl) (fun _ _ _ h => h) (Or.inl ⟨by rfl, fun w2 hSw => by (obtain ⟨l0, l1, l2⟩ := (HI.out.on hSw).box.cells; go_simp)⟩) hHeld ?_
  try simp only [Act.put, List.setIfInBounds_toArray, List.set_cons_zero, List.set_cons_succ]
  refine takeN (i := 6) (oi := _) (v := .int .u64 (sn : Int)) 12 rfl rfl (by kernel_rfl) (by kernel_rfl) (by kernel_rfl) (fun _ _ _ h => h) (Or.inl ⟨by rfl, fun w2 hSw => by (go_simp)⟩) hHeld ?_
  try simp only [Act.put, List.setIfInBounds_toArray, List.set_cons_zero, List.set_cons_succ]
  refine takeN (i := 8) (oi := _) (v := .pointer (some ⟨w.heap.size, 2, none⟩)) 14 rfl rfl (by kernel_rfl) (by kernel_rfl) (by kernel_rfl) (fun _ _ _ h => h) (Or.inl ⟨by rfl, fun w2 hSw => by (go_simp)⟩) hHeld ?_
  try simp only [Act.put, List.setIfInBounds_toArray, List.set_cons_zero, List.set_cons_succ]
  refine takeN (i := 9) (oi := _) (v := .slice A d.length cap) 15 rfl rfl (by kernel_rfl) (by kernel_rfl) (by kernel_rfl) (fun _ _ _ h => h) (Or.inl ⟨by rfl, fun w2 hSw => by (obtain ⟨l0, l1, l2⟩ := (HI.out.on hSw).box.cells; go_simp)⟩) hHeld ?_
  try simp only [Act.put, List.setIfInBounds_toArray, List.set_cons_zero, List.set_cons_succ]
  refine wpAnyH_ready (rs := [3]) (by kernel_rfl) (by simp) ?_
  refine AllReadyH.cons rfl (fun K hK => ?_) AllReadyH.nil
  go_simp
  go_wp2_with (first | (go_at_call 41; refine (number_val kn _).mono ?_; rintro e wq ⟨rfl, hq⟩) | fail)
  have hBQ := hHeld.trans (hq.mono hHeld.size)
  have HBQ := Lib.hid hBQ
  clear hq hBQ
  refine hK.out _ _ HBQ.out (fun hHeld => ?_)
  clear hK K
  try simp only [Act.put, List.setIfInBounds_toArray, List.set_cons_zero, List.set_cons_succ]
  refine wpAnyH_ready (rs := [7]) (by kernel_rfl) (by simp) ?_
  refine AllReadyH.cons rfl (fun K hK => ?_) AllReadyH.nil
  go_simp
  go_wp2_with (first | (go_at_call 41; refine (number_val sn _).mono ?_; rintro e wq ⟨rfl, hq⟩) | fail)
  have hBQ := hHeld.trans (hq.mono hHeld.size)
  have HBQ := Lib.hid hBQ
  clear hq hBQ
  refine hK.out _ _ HBQ.out (fun hHeld => ?_)
  clear hK K
  try simp only [Act.put, List.setIfInBounds_toArray, List.set_cons_zero, List.set_cons_succ]
  refine wpAnyH_ready (rs := [10]) (by kernel_rfl) (by simp) ?_
  refine AllReadyH.cons rfl (fun K hK => ?_) AllReadyH.nil
  go_simp
  go_wp2_with (first | (go_at_call 49; refine (bytes_val d A cap _).mono ?_; rintro e wq ⟨rfl, hq⟩) | fail)
  have hBQ := hHeld.trans (hq.mono hHeld.size)
  have HBQ := Lib.hid hBQ
  clear hq hBQ
  refine hK.out _ _ HBQ.out (fun hHeld => ?_)
  clear hK K
  try simp only [Act.put, List.setIfInBounds_toArray, List.set_cons_zero, List.set_cons_succ]
  refine wpAnyH_ready (rs := [11]) (by kernel_rfl) (by simp) ?_
  refine AllReadyH.cons rfl (fun K hK => ?_) AllReadyH.nil
  rw [if_pos (by rfl)]
  refine wp_three_val (.tmp 9) (.tmp 13) (.tmp 16) rfl (lvN kn) (lvN sn) (lvB d) none none A 0 0 cap zeros256_length zeros256_length zeros256_length rfl rfl rfl ?_
  have hB4 := hHeld.alloc hHeld.size (.cells ((lvCells (lvN kn) none 0) ++ ((lvCells (lvN sn) none 0) ++ (lvCells (lvB d) A cap))).toArray 78)
  refine hK.out _ _ hB4 (fun hHeld => ?_)
  clear hK K
  try simp only [Act.put, List.setIfInBounds_toArray]
  refine wpAnyH_ready (rs := [12]) (by kernel_rfl) (by simp) ?_
  refine AllReadyH.cons rfl (fun K hK => ?_) AllReadyH.nil
  have hlen1 : (lvCells (lvN kn) none 0).length = 260 := lv_length zeros256_length _ _
  have hlen2 : (lvCells (lvN sn) none 0).length = 260 := lv_length zeros256_length _ _
  have hlen3 : (lvCells (lvB d) A cap).length = 260 := lv_length zeros256_length _ _
  have hlen : ((lvCells (lvN kn) none 0) ++ ((lvCells (lvN sn) none 0) ++ (lvCells (lvB d) A cap))).length = 780 := by rw [List.length_append, List.length_append, hlen1, hlen2, hlen3]
  have hvals : Vals (wq.alloc (.cells ((lvCells (lvN kn) none 0) ++ ((lvCells (lvN sn) none 0) ++ (lvCells (lvB d) A cap))).toArray 78)) w.heap.size ((lvCells (lvN kn) none 0) ++ ((lvCells (lvN sn) none 0) ++ (lvCells (lvB d) A cap))) [lvN kn, lvN sn, lvB d] := by
    have hbw : Below w.heap.size w (wq.alloc (.cells ((lvCells (lvN kn) none 0) ++ ((lvCells (lvN sn) none 0) ++ (lvCells (lvB d) A cap))).toArray 78)) := HI.out.bel.trans (hHeld.mono HI.out.bel.size)
    have v1 : Vals (wq.alloc (.cells ((lvCells (lvN kn) none 0) ++ ((lvCells (lvN sn) none 0) ++ (lvCells (lvB d) A cap))).toArray 78)) w.heap.size ([] ++ (lvCells (lvN kn) none 0)) ([] ++ [lvN kn]) := Vals.snoc (Vals.nil _ _) rfl ⟨none, 0, rfl, zeros256_length, hk9, Shows.empty _ _ _, Nat.le_refl _, by omega⟩
    have v2 := Vals.snoc (cs := (lvCells (lvN sn) none 0)) (v := lvN sn) v1 (by rw [List.nil_append, hlen1]; rfl) ⟨none, 0, rfl, zeros256_length, hs9, Shows.empty _ _ _, Nat.le_refl _, by omega⟩
    have v3 := Vals.snoc (cs := (lvCells (lvB d) A cap)) (v := lvB d) v2 (by rw [List.nil_append, List.length_append, hlen1, hlen2]; rfl) ⟨A, cap, rfl, zeros256_length, show (0 : Nat) < 18446744073709551616 by omega, HS.out.below hbw, hcap, hcm⟩
    rw [List.nil_append, List.append_assoc] at v3
    exact v3
  have hown : (wq.alloc (.cells ((lvCells (lvN kn) none 0) ++ ((lvCells (lvN sn) none 0) ++ (lvCells (lvB d) A cap))).toArray 78)).ownsRow w.heap.size 78 260 (.slice (some ⟨wq.heap.size, 0, none⟩) 3 3) 3 ((lvCells (lvN kn) none 0) ++ ((lvCells (lvN sn) none 0) ++ (lvCells (lvB d) A cap))) :=
    ⟨by rw [hlen], .inr ⟨wq.heap.size, 3, ((lvCells (lvN kn) none 0) ++ ((lvCells (lvN sn) none 0) ++ (lvCells (lvB d) A cap))).toArray, rfl, (HI.out.bel.trans (HBQ.out.mono HI.out.bel.size)).size, heap_alloc_new _ _, Nat.le_refl _, by unfold maxLen; omega, by rw [List.size_toArray, hlen], by rw [List.toList_toArray]; exact List.take_of_length_le (by rw [hlen]; exact Nat.le_refl _)⟩⟩
  have hvr := hvals.vrow hown rfl (Below.refl _ _) (HI.out.bel.trans (hHeld.mono HI.out.bel.size)).size
  have HPK := Lib.hid (rpack_any ⟨#[49, 52, 42]⟩ (some ⟨wq.heap.size, 0, none⟩) 3 [lvN kn, lvN sn, lvB d] _ (by decide) hvr)
  rw [HPP.out] at HPK
  clear hlen1 hlen2 hlen3 hlen hvals hown hvr HPP
  go_simp
  refine HPK.out.mono ?_
  intro e w5 hpk
  obtain ⟨A5, c5, rfl, ho5, hb5, _, _⟩ := packed_ok hpk
  clear HPK hpk
  have HB5 := Lib.hid (hHeld.trans (hb5.mono hHeld.size))
  refine hK.out _ _ HB5.out (fun hHeld => ?_)
  clear hK K
  try simp only [Act.put, List.setIfInBounds_toArray, List.set_cons_zero, List.set_cons_succ]
  refine takeN (i := 13) (oi := _) (v := .tuple #[.slice A5 l.length c5, .int .i64 0]) 5 rfl rfl (by kernel_rfl) (by kernel_rfl) (by kernel_rfl) (fun _ _ _ h => h) (Or.inl ⟨by rfl, fun w2 hSw => by (go_simp)⟩) hHeld ?_
  try simp only [Act.put, List.setIfInBounds_toArray, List.set_cons_zero, List.set_cons_succ]
  refine takeN (i := 14) (oi := _) (v := .slice A5 l.length c5) 19 rfl rfl (by kernel_rfl) (by kernel_rfl) (by kernel_rfl) (fun _ _ _ h => h) (Or.inl ⟨by rfl, fun w2 hSw => by (go_simp)⟩) hHeld ?_
  try simp only [Act.put, List.setIfInBounds_toArray, List.set_cons_zero, List.set_cons_succ]
  refine takeN (i := 15) (oi := _) (v := .int .i64 0) 20 rfl rfl (by kernel_rfl) (by kernel_rfl) (by kernel_rfl) (fun _ _ _ h => h) (Or.inl ⟨by rfl, fun w2 hSw => by (go_simp)⟩) hHeld ?_
  try simp only [Act.put, List.setIfInBounds_toArray, List.set_cons_zero, List.set_cons_succ]
  refine takeN (i := 16) (oi := _) (v := .slice A5 l.length c5) 3 rfl rfl (by kernel_rfl) (by kernel_rfl) (by kernel_rfl) (fun _ _ _ h => h) (Or.inl ⟨by rfl, fun w2 hSw => by (go_simp)⟩) hHeld ?_
  try simp only [Act.put, List.setIfInBounds_toArray, List.set_cons_zero, List.set_cons_succ]
  refine takeN (i := 17) (oi := _) (v := .int .i64 0) 4 rfl rfl (by kernel_rfl) (by kernel_rfl) (by kernel_rfl) (fun _ _ _ h => h) (Or.inl ⟨by rfl, fun w2 hSw => by (go_simp)⟩) hHeld ?_
  try simp only [Act.put, List.setIfInBounds_toArray, List.set_cons_zero, List.set_cons_succ]
  refine wpAnyH_done (by kernel_rfl) ?_ _
  refine NoPanic.normal ?_
  go_wp2
  go_ret
  exact ⟨A5, c5, rfl, Shows.owned ho5, HI.out.bel.trans (HB5.out.mono HI.out.bel.size)⟩

end Go.Proofs.Ytpkbkliblbbdcaa
