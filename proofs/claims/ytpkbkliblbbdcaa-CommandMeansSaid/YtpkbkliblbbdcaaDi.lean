/- The walk of Of of package command, on. -/
import Derived.Test.YtpkbkliblbbdcaaDh
set_option linter.unusedVariables false
namespace Go.Proofs.Ytpkbkliblbbdcaa
open Go.RowKit
set_option maxRecDepth 20000

set_option maxHeartbeats 4000000 in
theorem of_nil (A : Option Addr) (cap : Nat) (w : World) (en : Value → Prop) (hen : en (.int .i64 4)) :
    Calls Try.prog 19 #[.slice A 0 cap] w (OOf w none en) := by
  have hz : ZO (w.alloc (.cells #[.int .i64 0, .int .u64 0, .int .u64 0, .int .i64 0, .int .i64 0, .int .i64 0, .slice none 0 0] 26)) w.heap.size := heap_alloc_new _ _
  have HZ := Lib.hid hz
  clear hz
  go_enter Try.func19, Try.ntmps19
  go_wp2_with fail
  refine bodyPost_ret (results_cell_tmp rfl _ _ w.heap.size 26 _ (0, 0) _ _ rfl rfl HZ.out Try.underlying26 rfl op_size) rfl ?_
  exact OOf.zero hen ((Below.refl _ _).alloc (Nat.le_refl _) _)

/-- behind the two boxes: the result's, the operation's -/
structure OfB (w wr : World) (b : UInt8) : Prop where
  zb : ZO wr w.heap.size
  ob : Box wr (w.heap.size + 1) (zeroO (b.toNat : Int)) none 0
  bel : Below w.heap.size w wr
theorem OfB.on {w wr w' : World} {b : UInt8} (h : OfB w wr b) (hb : Below wr.heap.size wr w') : OfB w w' b :=
  ⟨h.zb.below hb (Array.getElem?_eq_some_iff.1 h.zb).1, h.ob.below hb (Array.getElem?_eq_some_iff.1 h.ob).1, h.bel.trans (hb.mono h.bel.size)⟩
theorem OfB.new (w : World) (b : UInt8) : OfB w ((w.alloc (.cells #[.int .i64 0, .int .u64 0, .int .u64 0, .int .i64 0, .int .i64 0, .int .i64 0, .slice none 0 0] 26)).alloc (.cells #[.int .i64 (b.toNat : Int), .int .u64 0, .int .u64 0, .int .i64 0, .int .i64 0, .int .i64 0, .slice none 0 0] 26)) b := by
  refine ⟨(Below.heap_alloc _ _ _ (by simp)).trans (heap_alloc_new _ _), ?_, below2 _ _ _⟩
  have h := heap_alloc_new (w.alloc (.cells #[.int .i64 0, .int .u64 0, .int .u64 0, .int .i64 0, .int .i64 0, .int .i64 0, .slice none 0 0] 26)) (.cells #[.int .i64 (b.toNat : Int), .int .u64 0, .int .u64 0, .int .i64 0, .int .i64 0, .int .i64 0, .slice none 0 0] 26)
  rw [World.size_alloc] at h
  exact h

theorem op_cons (b : UInt8) (tl : List UInt8) {L : List UInt8} (hN : namesL (b.toNat : Int) = some L) : opOf (b :: tl) = match unpZ (L.map shapeF) tl with
      | none => none
      | some (qs, n) => if n = tl.length ∧ mayO (laidPs (zeroO (b.toNat : Int)) L qs) = true then some (laidPs (zeroO (b.toNat : Int)) L qs) else none := by
  simp only [opOf, hN]
  cases unpZ (L.map shapeF) tl with
  | none => rfl
  | some r => rfl

theorem laid_kind (w : OP) (c : Int) (p : PV) : (laid w c p).k = w.k := by
  unfold laid
  repeat' split
  all_goals rfl

set_option maxHeartbeats 8000000 in
theorem of_cons (b : UInt8) (tl : List UInt8) (A : Option Addr) (cap : Nat) (w : World) (hs : Shows w w.heap.size A (tl.length + 1) (cells8 (b :: tl))) (hc : tl.length + 1 ≤ cap) (hcm : cap ≤ 9223372036854775807) :
    Calls Try.prog 19 #[.slice A (tl.length + 1) cap] w (OOf w (opOf (b :: tl)) (fun u => u = .int .i64 (if (opOf (b :: tl)).isSome then 0 else 4))) := by
  obtain ⟨p, u0, rfl, hpb, hu0, hcell⟩ := hs.cell (show 0 < tl.length + 1 by omega)
  obtain rfl : u0 = .int .u8 (b.toNat : Int) := by
    have h : (cells8 (b :: tl))[0]? = some (.int .u8 (b.toNat : Int)) := rfl
    rw [h] at hu0
    exact (Option.some.inj hu0).symm
  have hp0 : p.add 0 = p := by simp [Addr.add]
  rw [hp0] at hcell
  have hcell2 : (w.alloc (.cells #[.int .i64 0, .int .u64 0, .int .u64 0, .int .i64 0, .int .i64 0, .int .i64 0, .slice none 0 0] 26)).cell? p = some (.int .u8 (b.toNat : Int)) := (World.cell?_alloc_lt w _ p hpb).trans hcell
  have hbl := b.toNat_lt
  have hwb : IntKind.i64.wrap (b.toNat : Int) = (b.toNat : Int) := toI_nat _ (by omega)
  have hltI : ((tl.length + 1 : Nat) : Int) = (tl.length : Int) + 1 := by omega
  have hne : (((tl.length + 1 : Nat) : Int) == 0) = false := by rw [beq_eq_false_iff_ne]; omega
  have HB0 := Lib.hid (OfB.new w b)
  have HS := Lib.hid hs
  have HN0 := named_any (b.toNat : Int)
  cases hN : namesL (b.toNat : Int) with
  | none =>
    have hr : opOf (b :: tl) = none := by simp only [opOf, hN]
    rw [hr]
    rw [hN] at HN0
    have HN := Lib.hid HN0
    clear hr hN HN0 hs hu0 hcell
    go_enter Try.func19, Try.ntmps19
    go_wp2_with (go_at_call 31; refine (HN.out _).mono ?_; rintro e w' ⟨rfl, rfl⟩)
    obtain ⟨⟨z0, z1, z2, z3, z4, z5, z6⟩, zf⟩ := (HB0.out.zb).cells
    go_wp2_with fail
    refine bodyPost_ret (results_cell_tmp rfl _ _ w.heap.size 26 _ (0, 0) _ _ rfl rfl HB0.out.zb Try.underlying26 rfl op_size) rfl ?_
    exact OOf.zero rfl HB0.out.bel
  | some L =>
    rw [op_cons b tl hN]
    have e2 : (namesL (b.toNat : Int)).isSome = true := by rw [hN]; rfl
    rw [e2] at HN0
    have HN := Lib.hid HN0
    have HL := Lib.hid (names_L hN)
    have hl3 := names_len hN
    have hbR : bs (txtK (b.toNat : Int)) = L := by rw [bs_txt, hN]; rfl
    generalize txtK (b.toNat : Int) = R at *
    subst hbR
    have hss : (shapeS (bs R)).size ≤ 1000 := by
      show (49 :: (bs R).map shapeF).toArray.size ≤ 1000
      simp
      omega
    have hRs : R.size ≤ 3 := by rw [bs_length] at hl3; exact hl3
    have HSH := Lib.hid (fun W => shape_any R W (by omega) (fun i h => by
      have := (HL.out i (by rw [bs_length]; exact h)).2
      rw [bs_get R i h] at this
      exact this))
    have HU := Lib.hid (fun W hS hB => unpack_at (shapeS (bs R)) w.heap.size (some p) (tl.length + 1) cap (b :: tl) W hss hS hB hc hcm)
    have hms : mayS (bs (shapeS (bs R))) = true := by
      rw [bs_shape]
      show (letter 49 && mayS ((bs R).map shapeF)) = true
      rw [mayS_shape]
      decide
    have HMS := Lib.hid hms
    have huz : unpZ (bs (shapeS (bs R))) (b :: tl) = (unpZ ((bs R).map shapeF) tl).map fun r => (.num b.toNat :: r.1, r.2 + 1) := by rw [bs_shape, unp_head]
    have HUZ := Lib.hid huz
    clear e2 HN0 hN hs hu0 hcell hms huz hss
    cases hu : unpZ ((bs R).map shapeF) tl with
    | none =>
      have HUN := Lib.hid hu
      simp only []
      clear hu
      go_enter Try.func19, Try.ntmps19
      go_wp2_with (go_at_call 31; refine (HN.out _).mono ?_; rintro e w' ⟨rfl, rfl⟩)
      refine (HSH.out _).mono ?_
      rintro e w1 ⟨rfl, hb1⟩
      have HB1 := Lib.hid (HB0.out.on hb1)
      clear hb1 HB0
      go_wp2_with fail
      refine (HU.out _ (HS.out.below HB1.out.bel) HB1.out.bel.size).mono ?_
      intro e w2 hun
      obtain ⟨hb2, hun⟩ := hun
      rw [if_pos HMS.out, HUZ.out, HUN.out] at hun
      subst hun
      have HB2 := Lib.hid (HB1.out.on hb2)
      clear hb2 HB1
      obtain ⟨⟨z0, z1, z2, z3, z4, z5, z6⟩, zf⟩ := (HB2.out.zb).cells
      go_wp2_with fail
      rw [seven (HB2.out.zb)]
      refine bodyPost_ret (results_cell_tmp rfl _ _ w.heap.size 26 _ (0, 0) _ _ rfl rfl (setRow_heap _ _ _ _ _ _ (HB2.out.zb)) Try.underlying26 rfl op_size) rfl ?_
      exact OOf.zero rfl (below_setRow (HB2.out.bel) (Nat.le_refl _) _)
    | some r =>
      obtain ⟨qs, n⟩ := r
      have HUN := Lib.hid hu
      have hfl := unp_fits (bs R) tl qs n hu
      have HFI := Lib.hid hfl.2
      have hql : qs.length = R.size := by rw [hfl.1, bs_length]
      have hnl := (unpZ_bounds hu).2.1
      have HUS : Hid (unpZ (bs (shapeS (bs R))) (b :: tl) = some (.num b.toNat :: qs, n + 1)) := by rw [HUZ.out, hu]; rfl
      clear hfl
      by_cases hn : n = tl.length
      · simp only [hn, true_and]
        have hlp : laidPs (zeroO (b.toNat : Int)) ((bs R).take R.size) (qs.take R.size) = laidPs (zeroO (b.toNat : Int)) (bs R) qs := by rw [bs_all, ← hql, List.take_length]
        have HLP := Lib.hid hlp
        generalize hmb : mayO (laidPs (zeroO (b.toNat : Int)) (bs R) qs) = mb at *
        have HMB := Lib.hid hmb
        generalize hfo : laidPs (zeroO (b.toNat : Int)) (bs R) qs = fo at *
        subst hn
        clear hu hmb hfo hlp
        go_enter Try.func19, Try.ntmps19
        go_wp2_with (go_at_call 31; refine (HN.out _).mono ?_; rintro e w' ⟨rfl, rfl⟩)
        refine (HSH.out _).mono ?_
        rintro e w1 ⟨rfl, hb1⟩
        have HB1 := Lib.hid (HB0.out.on hb1)
        clear hb1 HB0
        go_wp2_with fail
        refine (HU.out _ (HS.out.below HB1.out.bel) HB1.out.bel.size).mono ?_
        intro e w2 hun
        obtain ⟨A3, c3, vs, rfl, hown, hall, hb2⟩ := unpacked_ok hun HMS.out HUS.out
        have HB2 := Lib.hid (HB1.out.on hb2)
        have hlt1 := (Array.getElem?_eq_some_iff.1 HB1.out.ob).1
        obtain ⟨g, rfl⟩ := own_addr hown (by simp)
        have HI0 : Hid (OfI w (w2.iter R 0) (zeroO (b.toNat : Int)) none 0 w2.heap.size R 0 (.slice (some ⟨g, 0, none⟩) (PV.num b.toNat :: qs).length c3) vs (.num b.toNat :: qs)) := by
          have hs2 := HB2.out.bel.size
          have hl2 := (Array.getElem?_eq_some_iff.1 HB2.out.ob).1
          exact ⟨(Below.heap_alloc _ _ _ (by omega)).trans HB2.out.zb, (Below.heap_alloc _ _ _ hl2).trans HB2.out.ob, World.iter_heap w2 R 0, hl2, HB2.out.bel.alloc hs2 _, ⟨rfl, .inl ⟨rfl, rfl⟩⟩, own_lo (hown.alloc _) (by omega), (hall.kept (BytesKept.alloc w2 _)).mono (by omega), ⟨by show (0 : Nat) < _; omega, by show (0 : Nat) < _; omega⟩, by show (0 : Nat) ≤ _; omega⟩
        have hvl : (PV.num b.toNat :: qs).length = R.size + 1 := by simp [hql]
        rw [hvl]
        clear hun hown hall hb2 HB1 hlt1
        go_wp2_with fail
        generalize hK : w2.heap.size = K at *
        have HKK := Lib.hid hK
        clear hK
        go_loopw [11] (fun _ wr => ∃ pos own A' cap', pos ≤ R.size ∧ Hid (OfI w wr own A' cap' K R pos (.slice (some ⟨g, 0, none⟩) (PV.num b.toNat :: qs).length c3) vs (.num b.toNat :: qs)) ∧ Hid (own = laidPs (zeroO (b.toNat : Int)) ((bs R).take pos) (qs.take pos))) (fun _ wr => R.size - wr.iterPos K)
        case atStart => exact ⟨0, _, _, _, Nat.zero_le _, HI0, rfl⟩
        case round =>
          obtain ⟨pos, own, A', cap', hp, HI, HE⟩ := hrel
          have HP0 := Lib.hid (iterPos_at HI.out.iter)
          clear HI0
          by_cases hlt : pos < R.size
          · have hlb : pos < (bs R).length := by rw [bs_length]; exact hlt
            have hlq : pos < qs.length := by omega
            have hL := HL.out pos hlb
            rw [bs_get R pos hlt] at hL
            have hnx : ∀ ty, (Instr.next (.pointer (some ⟨K, 0, none⟩)) true ty).run Try.prog wr = _ := fun ty => Lib.run_next_any_at wr K R pos ty HI.out.iter hlt
            have hdc := rune_asc R pos hlt hL.2
            simp only [hdc] at hnx
            have N1 := Lib.hid (HI.out.next (pos + 1))
            have hft := HFI.out pos hlb hlq
            rw [bs_get R pos hlt] at hft
            have HFT := Lib.hid hft
            have hx := Lib.hid hL.1
            have HEN : Hid (laid own ((R[pos]'hlt).toNat : Int) qs[pos] = laidPs (zeroO (b.toNat : Int)) ((bs R).take (pos + 1)) (qs.take (pos + 1))) := by
              show laid own _ _ = _
              rw [bs_take R pos hlt, List.take_succ_eq_append_getElem hlq, laidPs_snoc _ _ _ _ _ (by rw [List.length_take, List.length_take, bs_length, hql]), ← HE.out]
            obtain ⟨x, hvx, hox⟩ := N1.out.all.2 (pos + 1) (show pos + 1 < (PV.num b.toNat :: qs).length by simp; omega)
            have hox2 : OV (wr.iterAt K R (pos + 1)) (w.heap.size + 2) x qs[pos] := hox
            have hcx : (wr.iterAt K R (pos + 1)).cell? ⟨g, pos + 1, none⟩ = some x := (N1.out.vals.cellAt (pos + 1) (show pos + 1 < (PV.num b.toNat :: qs).length * 1 by simp; omega)).trans hvx
            have HOX := Lib.hid hox2
            clear hdc hL HI HE hft hox hox2 hvx
            generalize wr.iterAt K R (pos + 1) = W1 at *
            generalize hch : R[pos]'hlt = ch at *
            generalize hqp : qs[pos] = qp at *
            clear hch hqp
            go_wp2_with fail
            refine (N1.out.lay hx.out HOX.out HFT.out).mono ?_
            rintro e w4 ⟨rfl, A2, c2, N4⟩
            clear N1 HOX hnx hcx
            go_wp2_with fail
            go_roundw
            case rel => exact ⟨pos + 1, _, A2, c2, hlt, N4, HEN.out⟩
            case measure => rw [iterPos_at N4.out.iter, HP0.out]; omega
          · obtain rfl : pos = R.size := by omega
            have hnx : ∀ ty, (Instr.next (.pointer (some ⟨K, 0, none⟩)) true ty).run Try.prog wr = _ := fun ty => Lib.run_next_end_at wr K R R.size ty HI.out.iter hlt
            have hfin : own = fo := by rw [HE.out]; exact HLP.out
            subst hfin
            have hrow := HI.out.row
            obtain ⟨_, _, hve, hcl, hclm⟩ := own_form hrow
            injection hve with e1 e2 e3
            subst e1
            subst e3
            unfold maxLen at hclm
            have hcl9 : cap' ≤ 9223372036854775807 := by omega
            obtain ⟨l0, l1, l2, l3, l4, l5, l6⟩ := HI.out.ob.cells
            have HMY : Hid (Calls Try.prog 13 #[.agg #[.int .i64 own.k, .int .u64 (own.v : Int), .int .u64 (own.t : Int), .int .i64 own.s, .int .i64 own.a, .int .i64 own.c, .slice A' own.d.length cap']] wr fun e w' => e = .returned (.bool mb) ∧ Below wr.heap.size wr w') := by
              have h := mayO_any own.k own.v own.t own.s own.a own.c own.d A' cap' wr HI.out.fit.1 HI.out.fit.2 (by have := HI.out.dle; omega) hcl (Shows.owned hrow)
              rw [show mayO ⟨own.k, own.v, own.t, own.s, own.a, own.c, own.d⟩ = mb from HMB.out] at h
              exact h
            clear HMB hrow
            go_wp2_with fail
            refine HMY.out.mono ?_
            rintro e w5 ⟨rfl, hb5⟩
            have HZ5 := Lib.hid (HI.out.zb.below hb5 (Array.getElem?_eq_some_iff.1 HI.out.zb).1)
            have ho5 := HI.out.ob.below hb5 (Array.getElem?_eq_some_iff.1 HI.out.ob).1
            have HB5 : Hid (Below w.heap.size w w5) := HI.out.bel.trans (hb5.mono HI.out.bel.size)
            have HR5 := Lib.hid (own_below HI.out.row hb5)
            clear l0 l1 l2 l3 l4 l5 l6 hnx hb5 HI HMY
            obtain ⟨l0, l1, l2, l3, l4, l5, l6⟩ := ho5.cells
            clear ho5
            cases mb with
            | false =>
              obtain ⟨⟨z0, z1, z2, z3, z4, z5, z6⟩, zf⟩ := (HZ5.out).cells
              go_wp2_with fail
              rw [seven (HZ5.out)]
              refine bodyPost_ret (results_cell_tmp rfl _ _ w.heap.size 26 _ (0, 0) _ _ rfl rfl (setRow_heap _ _ _ _ _ _ (HZ5.out)) Try.underlying26 rfl op_size) rfl ?_
              exact OOf.zero rfl (below_setRow (HB5.out) (Nat.le_refl _) _)
            | true =>
              obtain ⟨⟨z0, z1, z2, z3, z4, z5, z6⟩, zf⟩ := HZ5.out.cells
              go_wp2_with fail
              rw [seven HZ5.out]
              refine bodyPost_ret (results_cell_tmp rfl _ _ w.heap.size 26 _ (0, 0) _ _ rfl rfl (setRow_heap _ _ _ _ _ _ HZ5.out) Try.underlying26 rfl op_size) rfl ?_
              show OOf w (some own) _ _ _
              exact ⟨A', cap', _, rfl, rfl, Shows.owned (own_setRow HR5.out (by omega) _), hcl, hcl9, below_setRow HB5.out (Nat.le_refl _) _⟩
      · have hr : (if n = tl.length ∧ mayO (laidPs (zeroO (b.toNat : Int)) (bs R) qs) = true then some (laidPs (zeroO (b.toNat : Int)) (bs R) qs) else none) = none := if_neg (fun h => hn h.1)
        refine (show ∀ r : Option OP, r = none → Calls Try.prog 19 #[.slice (some p) (tl.length + 1) cap] w (OOf w r (fun u => u = .int .i64 (if r.isSome then 0 else 4))) from fun r hr => ?_) _ hr
        subst hr
        have hnI : (((n + 1 : Nat) : Int) != ((tl.length + 1 : Nat) : Int)) = true := by rw [bne_iff_ne]; omega
        clear hu hn
        go_enter Try.func19, Try.ntmps19
        go_wp2_with (go_at_call 31; refine (HN.out _).mono ?_; rintro e w' ⟨rfl, rfl⟩)
        refine (HSH.out _).mono ?_
        rintro e w1 ⟨rfl, hb1⟩
        have HB1 := Lib.hid (HB0.out.on hb1)
        clear hb1 HB0
        go_wp2_with fail
        refine (HU.out _ (HS.out.below HB1.out.bel) HB1.out.bel.size).mono ?_
        intro e w2 hun
        obtain ⟨A3, c3, vs, rfl, hown, hall, hb2⟩ := unpacked_ok hun HMS.out HUS.out
        have HB2 := Lib.hid (HB1.out.on hb2)
        clear hun hown hall hb2 HB1
        obtain ⟨⟨z0, z1, z2, z3, z4, z5, z6⟩, zf⟩ := (HB2.out.zb).cells
        go_wp2_with fail
        rw [seven (HB2.out.zb)]
        refine bodyPost_ret (results_cell_tmp rfl _ _ w.heap.size 26 _ (0, 0) _ _ rfl rfl (setRow_heap _ _ _ _ _ _ (HB2.out.zb)) Try.underlying26 rfl op_size) rfl ?_
        exact OOf.zero rfl (below_setRow (HB2.out.bel) (Nat.le_refl _) _)

end Go.Proofs.Ytpkbkliblbbdcaa
