/- The walk of the document's Pack of an operation. -/
import Derived.Test.YtpkbkliblbbdcaaCt
import Derived.Test.YtpkbkliblbbdcaaCq
import Derived.Deep.DeepCutAuto
import Derived.Deep.CutBlock
set_option linter.unusedVariables false
namespace Go.Proofs.Ytpkbkliblbbdcaa
open Go.RowKit
set_option maxRecDepth 20000

theorem rtxt_at {k : Int} {L : List UInt8} (h : namesL k = some L) (i : Nat) (hi : i < (rtxtK k).size) : ∃ hl : i < L.length, (((rtxtK k)[i]'hi).toNat : Int) = ((L[i]'hl).toNat : Int) + 32 := by
  have hs : (rtxtK k).size = L.length := by simp [rtxtK, ByteArray.size, h]
  have hl : i < L.length := by omega
  refine ⟨hl, ?_⟩
  have hg : (rtxtK k)[i]'hi = L[i] + 32 := by
    show (rtxtK k).data[i] = _
    simp [rtxtK, h]
  rw [hg]
  have := namesL_ascii h (L[i]'hl) (List.getElem_mem _)
  rcases this with e | e | e | e | e | e <;> rw [e] <;> rfl
theorem rtxt_len {k : Int} {L : List UInt8} (h : namesL k = some L) : (rtxtK k).size = L.length := by simp [rtxtK, ByteArray.size, h]
theorem lvP_len {o : OP} {x : Int} : (lvP (valP o x)).x.length = 256 := by
  unfold valP
  repeat' split
  all_goals exact zeros256_length

theorem own_form260 {w : World} {base n : Nat} {e : TypeId} {v : Value} {xs : List Value} (h : w.ownsRow base e 260 v n xs) : ∃ A c, v = .slice A n c := by
  rcases h.2 with ⟨rfl, rfl⟩ | ⟨g, cap, cur, rfl, _⟩
  · exact ⟨none, 0, rfl⟩
  · exact ⟨_, cap, rfl⟩

/-- the bytes that Pack hands back -/
def PackIs (w : World) (l : List UInt8) (e : Ending) (w' : World) : Prop := ∃ A c, e = .returned (.slice A l.length c) ∧ Shows w' w'.heap.size A l.length (cells8 l) ∧ Below w.heap.size w w'

set_option maxHeartbeats 8000000 in
theorem rpackO_any (k : Int) (v t : Nat) (s a c : Int) (d : List UInt8) (A : Option Addr) (cap : Nat) (w : World) (hv : v < 18446744073709551616) (ht : t < 18446744073709551616) (hd : d.length ≤ 16777216) (hcap : d.length ≤ cap) (hcm : cap ≤ 9223372036854775807) (hs : Shows w w.heap.size A d.length (cells8 d)) (hM : mayO ⟨k, v, t, s, a, c, d⟩ = true) (l : List UInt8) (hl : packO ⟨k, v, t, s, a, c, d⟩ = some l) :
    Calls Try.prog 18 #[.agg #[.int .i64 k, .int .u64 (v : Int), .int .u64 (t : Int), .int .i64 s, .int .i64 a, .int .i64 c, .slice A d.length cap]] w (PackIs w l) := by
  obtain ⟨L, hN, hall, hlaid⟩ := mayO_parts hM
  have hk : 1 ≤ k ∧ k ≤ 9 := kind_of hN
  have hP : packR (49 :: L.map shapeF) (.num k.toNat :: L.map fun c' => valP ⟨k, v, t, s, a, c, d⟩ (c'.toNat : Int)) = some l := by
    rw [← hl]
    unfold packO valsO
    show _ = packR (bs (shapeS ((namesL k).getD []))) (.num k.toNat :: ((namesL k).getD []).map fun c' => valP ⟨k, v, t, s, a, c, d⟩ (c'.toNat : Int))
    rw [hN]
    rfl
  have hl3 := names_len hN
  obtain ⟨kn, rfl⟩ := int_nat (show 0 ≤ k by omega)
  have hkw := wrap_u kn (by omega)
  have HN := Lib.hid (rnames_any (kn : Int))
  have HSH := Lib.hid (rshape_any (kn : Int))
  have hrs : (bs (rtxtK kn)).map rshapeF = L.map shapeF := by rw [rshape_eq, hN]; rfl
  have hRL := rtxt_len hN
  have HAT := Lib.hid (rtxt_at hN)
  have HBN := Lib.hid (fun (i : Nat) (hi : i < L.length) => List.all_eq_true.1 hall _ (List.getElem_mem hi))
  have HIL := Lib.hid (fun (i : Nat) (hi : i < L.length) => (names_L hN i hi).1)
  generalize rtxtK kn = R at *
  have HRS := Lib.hid hrs
  have HPP := Lib.hid hP
  have HVA := Lib.hid (fun x hx W hS hB hb => rvalue_any kn v t s a c d A cap W x hx w.heap.size hv ht hcap hcm hS hB hb)
  have HS := Lib.hid hs
  clear hM hN hall hlaid hP hs hrs hl
  have HLW := Lib.hid hRL
  have hR3 : R.size ≤ 3 := by omega
  clear hRL
  go_enter Try.func18, Try.ntmps18
  go_wp2_with fail
  refine (number_val kn _).mono ?_
  rintro e w1 ⟨rfl, hb1⟩
  have hbx : Box w1 w.heap.size ⟨kn, v, t, s, a, c, d⟩ A cap := (hb1.block _ (by simp)).trans (heap_alloc_new _ _)
  have hb01 : Below w.heap.size w w1 := ((Below.refl _ _).alloc (Nat.le_refl _) _).trans (hb1.mono (by simp))
  have hsz1 : w.heap.size + 1 ≤ w1.heap.size := by simpa using hb1.size
  have HB1 := Lib.hid (BoxB.on (w := w) (wr := w1) ⟨hbx, hb01⟩ ((Below.refl w1.heap.size w1).alloc (Nat.le_refl _) (.cells (lvCells (lvN kn) none 0).toArray 78)))
  have HI0 : Hid (PkI w (w1.alloc (.cells (lvCells (lvN kn) none 0).toArray 78)) ⟨kn, v, t, s, a, c, d⟩ A cap (.slice (some ⟨w1.heap.size, 0, none⟩) 1 1) (lvCells (lvN kn) none 0) (gath ⟨kn, v, t, s, a, c, d⟩ kn (L.take 0))) := by
    have hlen : (lvCells (lvN kn) none 0).length = 260 := lv_length zeros256_length _ _
    refine ⟨HB1.out.1, HB1.out.2, ⟨by rw [hlen]; rfl, .inr ⟨w1.heap.size, 1, (lvCells (lvN kn) none 0).toArray, rfl, hsz1, heap_alloc_new _ _, Nat.le_refl _, by unfold maxLen; omega, by rw [List.size_toArray, hlen], by rw [List.toList_toArray]; exact List.take_of_length_le (by show (lvCells (lvN kn) none 0).length ≤ 1 * 260; rw [hlen]; exact Nat.le_refl _)⟩⟩, ?_⟩
    refine Vals.snoc (Vals.nil _ _) rfl ⟨none, 0, rfl, zeros256_length, show kn < 18446744073709551616 by omega, Shows.empty _ _ _, Nat.le_refl _, by omega⟩
  obtain ⟨l0, l1, l2, l3, l4, l5, l6⟩ := HB1.out.1.cells
  go_wp2_with (first
    | refine wpList_one_val rfl (.tmp 11) rfl (lvN kn) none 0 zeros256_length rfl ?_
    | (go_at_call 42; refine (HN.out _).mono ?_; rintro e w' ⟨rfl, rfl⟩)
    | fail)
  clear l0 l1 l2 l3 l4 l5 l6
  generalize hW1 : w1.alloc (.cells (lvCells (lvN kn) none 0).toArray 78) = W1 at *
  clear hW1 HB1 hbx hb01
  go_loopw [3, 5] (fun u j wr => ∃ (i : Nat) (xs : List Value), i ≤ R.size ∧ j = .int .i64 (i : Int) ∧ Hid (PkI w wr ⟨kn, v, t, s, a, c, d⟩ A cap u xs (gath ⟨kn, v, t, s, a, c, d⟩ kn (L.take i)))) (fun _ j _ => R.size - (intOf j).toNat)
  case atStart => exact ⟨0, _, Nat.zero_le _, rfl, HI0⟩
  case round =>
    obtain ⟨i, xs, hp, rfl, HI⟩ := hrel
    clear HI0
    by_cases hlt : i < R.size
    · obtain ⟨hil, hrx⟩ := HAT.out i hlt
      have HX := Lib.hid (HIL.out i hil)
      have HBX := Lib.hid (HBN.out i hil)
      have HGS := Lib.hid (gath_snoc ⟨kn, v, t, s, a, c, d⟩ kn L i hil)
      have HVX : Hid (∀ W, Below w.heap.size w W → Calls Try.prog 43 #[.agg #[.int .i64 (kn : Int), .int .u64 (v : Int), .int .u64 (t : Int), .int .i64 s, .int .i64 a, .int .i64 c, .slice A d.length cap], .int .u8 ((R[i]'hlt).toNat : Int)] W (ValAt W w.heap.size (valP ⟨(kn : Int), v, t, s, a, c, d⟩ ((L[i]'hil).toNat : Int)))) := fun W hW => by
        rw [hrx]
        exact HVA.out _ HX.out W (HS.out.below hW) hW.size HBX.out
      generalize hpv : valP ⟨(kn : Int), v, t, s, a, c, d⟩ ((L[i]'hil).toNat : Int) = pv at *
      have HLL : Hid ((lvP pv).x.length = 256) := by rw [← hpv]; exact lvP_len
      have hgl : (gath ⟨kn, v, t, s, a, c, d⟩ kn (L.take i)).length ≤ 1000 := by
        unfold gath
        simp
        omega
      generalize hch : ((R[i]'hlt).toNat : Int) = ch at *
      generalize gath ⟨kn, v, t, s, a, c, d⟩ kn (L.take i) = vals at *
      clear HAT HBN HIL HVA hpv hrx
      go_upto_region 6 with fail
      refine wp_region_noPanic ?_
      have hszr : w.heap.size + 1 ≤ wr.heap.size := (Array.getElem?_eq_some_iff.1 HI.out.box).1
      have HID := Lib.hid (HI.out.on ((Below.refl _ wr).drew))
      refine wp_region_held_drew (S := fun w' => Below (w.heap.size + 1) wr w') (by kernel_rfl) ((Below.refl _ wr).drew) (fun hHeld => ?_)
      refine takeN (i := 0) (oi := _) (v := u3) 22 rfl rfl (by kernel_rfl) (by kernel_rfl) (by kernel_rfl) (fun _ _ _ h => h) (Or.inl ⟨by rfl, fun w2 hSw => by (go_simp)⟩) hHeld ?_
      try simp only [Act.put, List.setIfInBounds_toArray, List.set_cons_zero, List.set_cons_succ]
      refine takeN (i := 1) (oi := _) (v := .agg #[.int .i64 (kn : Int), .int .u64 (v : Int), .int .u64 (t : Int), .int .i64 s, .int .i64 a, .int .i64 c, .slice A d.length cap]) 23 rfl rfl (by kernel_rfl) (by kernel_rfl) (by kernel_rfl) (fun _ _ _ h => h) (Or.inl ⟨by rfl, fun w2 hSw => by (obtain ⟨l0, l1, l2, l3, l4, l5, l6⟩ := (HI.out.box.below hSw (by omega)).cells; go_simp)⟩) hHeld ?_
      try simp only [Act.put, List.setIfInBounds_toArray, List.set_cons_zero, List.set_cons_succ]
      refine takeN (i := 2) (oi := _) (v := .string R) 24 rfl rfl (by kernel_rfl) (by kernel_rfl) (by kernel_rfl) (fun _ _ _ h => h) (Or.inl ⟨by rfl, fun w2 hSw => by (go_simp)⟩) hHeld ?_
      try simp only [Act.put, List.setIfInBounds_toArray, List.set_cons_zero, List.set_cons_succ]
      refine takeN (i := 3) (oi := _) (v := .int .i64 (i : Int)) 25 rfl rfl (by kernel_rfl) (by kernel_rfl) (by kernel_rfl) (fun _ _ _ h => h) (Or.inl ⟨by rfl, fun w2 hSw => by (go_simp)⟩) hHeld ?_
      try simp only [Act.put, List.setIfInBounds_toArray, List.set_cons_zero, List.set_cons_succ]
      refine takeN (i := 4) (oi := _) (v := .int .u8 ch) 26 rfl rfl (by kernel_rfl) (by kernel_rfl) (by kernel_rfl) (fun _ _ _ h => h) (Or.inl ⟨by rfl, fun w2 hSw => by (go_simp)⟩) hHeld ?_
      try simp only [Act.put, List.setIfInBounds_toArray, List.set_cons_zero, List.set_cons_succ]
      refine wpAnyH_ready (rs := [5]) (by kernel_rfl) (by simp) ?_
      refine AllReadyH.cons rfl (fun K hK => ?_) AllReadyH.nil
      go_simp
      go_wp2_with (first
        | (go_at_call 43; (with_reducible refine (HVX.out _ HID.out.bel).mono ?_); rintro e w3 ⟨A', c', rfl, hok, hb3⟩)
        | fail)
      have HI3 := Lib.hid (HID.out.on hb3)
      have hB3 : Below (w.heap.size + 1) wr w3 := hHeld.trans (hb3.mono hszr)
      have hsz3 : w.heap.size + 1 ≤ w3.heap.size := (Array.getElem?_eq_some_iff.1 HI3.out.box).1
      refine hK.out _ _ hB3 (fun hHeld => ?_)
      clear hK K
      try simp only [Act.put, List.setIfInBounds_toArray, List.set_cons_zero, List.set_cons_succ]
      refine wpAnyH_ready (rs := [6]) (by kernel_rfl) (by simp) ?_
      refine AllReadyH.cons rfl (fun K hK => ?_) AllReadyH.nil
      rw [if_pos (by rfl)]
      refine wp_one_val (.tmp 27) rfl (lvP pv) A' c' HLL.out rfl ?_
      have hB4 : Below (w.heap.size + 1) wr (w3.alloc (.cells (lvCells (lvP pv) A' c').toArray 78)) := hB3.alloc hsz3 _
      refine hK.out _ _ hB4 (fun hHeld => ?_)
      clear hK K
      try simp only [Act.put, List.setIfInBounds_toArray]
      refine wpAnyH_ready (rs := [7]) (by kernel_rfl) (by simp) ?_
      refine AllReadyH.cons rfl (fun K hK => ?_) AllReadyH.nil
      rw [if_pos (by rfl)]
      refine wp_append_val (.tmp 22) (.tmp 28) rfl (w.heap.size + 1) u3 vals.length xs rfl HI3.out.own (lvP pv) A' c' HLL.out rfl hgl hsz3 ?_
      intro v6 w6 hown6 hb6
      have HI6 := Lib.hid (HI3.out.add hb6 hown6 hok.out)
      have hB6 : Below (w.heap.size + 1) wr w6 := hB3.trans hb6
      refine hK.out _ _ hB6 (fun hHeld => ?_)
      clear hK K
      try simp only [Act.put]
      refine takeN (i := 8) (oi := _) (v := v6) 3 rfl rfl (by kernel_rfl) (by kernel_rfl) (by kernel_rfl) (fun _ _ _ h => h) (Or.inl ⟨by rfl, fun w2 hSw => by (go_simp)⟩) hHeld ?_
      try simp only [Act.put]
      refine wpAnyH_done (by kernel_rfl) ?_ _
      refine NoPanic.normal ?_
      go_wp2
      go_roundw
      case rel => exact ⟨i + 1, _, hlt, by go_num, by rw [HGS.out]; exact HI6⟩
      case measure => simp [intOf]; omega
    · obtain rfl : i = R.size := by omega
      have htk : L.take R.size = L := by rw [HLW.out, List.take_length]
      rw [htk] at HI
      have HGT := Lib.hid (gath_told ⟨(kn : Int), v, t, s, a, c, d⟩ kn L)
      have hgl : (gath ⟨(kn : Int), v, t, s, a, c, d⟩ kn L).length ≤ 1000 := by
        unfold gath
        simp
        omega
      generalize gath ⟨(kn : Int), v, t, s, a, c, d⟩ kn L = vals at *
      have hown := HI.out.own
      obtain ⟨A2, c2, rfl⟩ := own_form260 hown
      have hz : (rshS (bs R)).size ≤ 1000 := by
        show ((bs R).map rshapeF).toArray.size ≤ 1000
        simp [bs_length]
        omega
      have hz2 : ((⟨#[49]⟩ : ByteArray) ++ rshS (bs R)).size ≤ 1000 := by
        rw [ByteArray.size_append]
        show 1 + ((bs R).map rshapeF).toArray.size ≤ 1000
        simp [bs_length]
        omega
      have hbs : bs ((⟨#[49]⟩ : ByteArray) ++ rshS (bs R)) = 49 :: L.map shapeF := by
        rw [bs_app, ← HRS.out]
        rfl
      have HVR : Hid (VRow wr wr.heap.size A2 vals) := HI.out.vals_.vrow hown rfl (Below.refl _ _) HI.out.bel.size
      have HPK := Lib.hid (rpack_any ((⟨#[49]⟩ : ByteArray) ++ rshS (bs R)) A2 c2 vals wr hz2 HVR.out)
      rw [hbs, HGT.out] at HPK
      have HPQ : Hid (packR (49 :: L.map shapeF) (.num kn :: L.map fun c' => valP ⟨(kn : Int), v, t, s, a, c, d⟩ (c'.toNat : Int)) = some l) := HPP.out
      rw [HPQ.out] at HPK
      obtain ⟨l0, l1, l2, l3, l4, l5, l6⟩ := HI.out.box.cells
      clear HPP HPQ HRS htk hbs hown HGT HVA HBN HIL HAT HN
      go_wp2_with (go_at_call 45; refine (HSH.out _).mono ?_; rintro e w' ⟨rfl, rfl⟩)
      refine HPK.out.mono ?_
      intro e w5 hpk
      obtain ⟨A5, c5, rfl, ho5, hb5, _, _⟩ := packed_ok hpk
      clear HPK hpk
      go_wp2_with fail
      go_ret
      exact ⟨A5, c5, rfl, Shows.owned ho5, HI.out.bel.trans (hb5.mono HI.out.bel.size)⟩

end Go.Proofs.Ytpkbkliblbbdcaa
