/- The walk of May of package command, on. -/
import Derived.Test.YtpkbkliblbbdcaaCj
set_option linter.unusedVariables false
namespace Go.Proofs.Ytpkbkliblbbdcaa
open Go.RowKit
set_option maxRecDepth 20000

theorem may_stop {o : OP} {L : List UInt8} (hN : namesL o.k = some L) {i : Nat} (hi : i < L.length) (hb : bnd o ((L[i]'hi).toNat : Int) = false) : mayO o = false := by
  unfold mayO
  rw [hN]
  show (L.all (fun c => bnd o (c.toNat : Int)) && _) = false
  have : L.all (fun c => bnd o (c.toNat : Int)) = false := by
    rw [List.all_eq_false]
    exact ⟨L[i], List.getElem_mem _, by rw [hb]; decide⟩
  rw [this]
  rfl
theorem may_end {o : OP} {L : List UInt8} (hN : namesL o.k = some L) (ha : L.all (fun c => bnd o (c.toNat : Int)) = true) : mayO o = decide (o = laidAll o (zeroO o.k) L) := by
  unfold mayO
  rw [hN]
  show (L.all (fun c => bnd o (c.toNat : Int)) && _) = _
  rw [ha]
  rfl

theorem Box.cells {w : World} {g : Nat} {o : OP} {A : Option Addr} {cap : Nat} (h : Box w g o A cap) : w.cell? ⟨g, 0, none⟩ = some (.int .i64 o.k) ∧ w.cell? ⟨g, 1, none⟩ = some (.int .u64 (o.v : Int)) ∧ w.cell? ⟨g, 2, none⟩ = some (.int .u64 (o.t : Int)) ∧ w.cell? ⟨g, 3, none⟩ = some (.int .i64 o.s) ∧ w.cell? ⟨g, 4, none⟩ = some (.int .i64 o.a) ∧ w.cell? ⟨g, 5, none⟩ = some (.int .i64 o.c) ∧ w.cell? ⟨g, 6, none⟩ = some (.slice A o.d.length cap) :=
  ⟨cell_of_row w g 0 _ _ (0, 0) h, cell_of_row w g 1 _ _ (0, 0) h, cell_of_row w g 2 _ _ (0, 0) h, cell_of_row w g 3 _ _ (0, 0) h, cell_of_row w g 4 _ _ (0, 0) h, cell_of_row w g 5 _ _ (0, 0) h, cell_of_row w g 6 _ _ (0, 0) h⟩

theorem mayI_start (w : World) (o : OP) (A : Option Addr) (cap : Nat) (R : ByteArray) (C1 C2 : Array Value) (h1 : C1 = #[.int .i64 o.k, .int .u64 (o.v : Int), .int .u64 (o.t : Int), .int .i64 o.s, .int .i64 o.a, .int .i64 o.c, .slice A o.d.length cap]) (h2 : C2 = #[.int .i64 o.k, .int .u64 0, .int .u64 0, .int .i64 0, .int .i64 0, .int .i64 0, .slice none 0 0]) :
    MayI w (((w.alloc (.cells C1 26)).alloc (.cells C2 26)).iter R 0) o A cap R 0 (zeroO o.k) none 0 := by
  have e0 : (((w.alloc (.cells C1 26)).alloc (.cells C2 26)).iter R 0).heap[w.heap.size + 2]? = some (.stringIter R 0) := by
    have := World.iter_heap ((w.alloc (.cells C1 26)).alloc (.cells C2 26)) R 0
    simpa using this
  have hb : Below w.heap.size w (((w.alloc (.cells C1 26)).alloc (.cells C2 26)).iter R 0) := (below2 w _ _).alloc (by simp; omega) _
  refine ⟨?_, ?_, e0, hb, Shows.empty _ _ _, Nat.le_refl _⟩
  · show (((w.alloc (.cells C1 26)).alloc (.cells C2 26)).alloc _).heap[w.heap.size]? = _
    rw [Below.heap_alloc _ _ _ (by simp; omega), Below.heap_alloc _ _ _ (by simp), h1]
    exact heap_alloc_new _ _
  · show (((w.alloc (.cells C1 26)).alloc (.cells C2 26)).alloc _).heap[w.heap.size + 1]? = _
    rw [Below.heap_alloc _ _ _ (by simp), h2]
    have h := heap_alloc_new (w.alloc (.cells C1 26)) (.cells #[.int .i64 o.k, .int .u64 0, .int .u64 0, .int .i64 0, .int .i64 0, .int .i64 0, .slice none 0 0] 26)
    rw [World.size_alloc] at h
    exact h

theorem MayI.on {w wr w' : World} {o : OP} {A : Option Addr} {cap : Nat} {R : ByteArray} {pos : Nat} {own : OP} {A' : Option Addr} {cap' : Nat} (h : MayI w wr o A cap R pos own A' cap') (hb : Below wr.heap.size wr w') : MayI w w' o A cap R pos own A' cap' := by
  have hl := (Array.getElem?_eq_some_iff.1 h.iter).1
  exact ⟨h.box.below hb (by omega), h.own_.below hb (by omega), (hb.block _ hl).trans h.iter, h.bel.trans (hb.mono h.bel.size), h.shw.below (hb.mono h.bel.size), h.capl⟩

theorem MayI.next {w wr : World} {o : OP} {A : Option Addr} {cap : Nat} {R : ByteArray} {pos : Nat} {own : OP} {A' : Option Addr} {cap' : Nat} (h : MayI w wr o A cap R pos own A' cap') (q : Nat) : MayI w (wr.iterAt (w.heap.size + 2) R q) o A cap R q own A' cap' := by
  have hb := Lib.below_iterAt h.bel (k := w.heap.size + 2) (by omega) R q
  have hb2 : Below w.heap.size wr (wr.iterAt (w.heap.size + 2) R q) := Lib.below_iterAt (Below.refl _ _) (k := w.heap.size + 2) (by omega) R q
  exact ⟨(Lib.iterAt_other _ _ _ _ _ (by omega)).trans h.box, (Lib.iterAt_other _ _ _ _ _ (by omega)).trans h.own_, Lib.iterAt_heap wr _ R pos q h.iter, hb, h.shw.below hb2, h.capl⟩

/-- a value is laid into the second box -/
theorem MayI.lay {w wr : World} {o : OP} {A : Option Addr} {cap : Nat} {R : ByteArray} {pos : Nat} {own : OP} {A' : Option Addr} {cap' : Nat} (h : MayI w wr o A cap R pos own A' cap') {x : Int} (hx : isL x) {u : Value} (hu : IV wr w.heap.size u (valP o x)) :
    Calls Try.prog 39 #[.pointer (some ⟨w.heap.size + 1, 0, none⟩), .int .i32 x, u] wr fun e w' => e = .returned (.bool true) ∧ ∃ A2 c2, Hid (MayI w w' o A cap R pos (laid own x (valP o x)) A2 c2) := by
  refine (lay_val hx hu h.own_ h.shw h.capl (by omega)).mono ?_
  rintro e w' ⟨rfl, A2, c2, rfl, h1, h2⟩
  have hB : Below w.heap.size wr (wr.setRow (w.heap.size + 1) #[.int .i64 (laid own x (valP o x)).k, .int .u64 ((laid own x (valP o x)).v : Int), .int .u64 ((laid own x (valP o x)).t : Int), .int .i64 (laid own x (valP o x)).s, .int .i64 (laid own x (valP o x)).a, .int .i64 (laid own x (valP o x)).c, .slice A2 (laid own x (valP o x)).d.length c2]) := below_setRow (Below.refl _ _) (by omega) _
  exact ⟨rfl, A2, c2, (setRow_other _ _ _ _ (by omega)).trans h.box, setRow_heap _ _ _ _ _ _ h.own_, (setRow_other _ _ _ _ (by omega)).trans h.iter, below_setRow h.bel (by omega) _, h1.below hB, h2⟩

theorem all_next {o : OP} {R : ByteArray} {pos : Nat} (hlt : pos < R.size) (ha : ((bs R).take pos).all (fun c => bnd o (c.toNat : Int)) = true) (hb : bnd o ((R[pos]'hlt).toNat : Int) = true) : ((bs R).take (pos + 1)).all (fun c => bnd o (c.toNat : Int)) = true := by
  rw [bs_take R pos hlt, List.all_append, ha]
  simp [hb]
theorem laid_next {o own : OP} {R : ByteArray} {pos : Nat} (hlt : pos < R.size) (he : own = laidAll o (zeroO o.k) ((bs R).take pos)) : laid own ((R[pos]'hlt).toNat : Int) (valP o ((R[pos]'hlt).toNat : Int)) = laidAll o (zeroO o.k) ((bs R).take (pos + 1)) := by
  rw [bs_take R pos hlt, laidAll_snoc, ← he]

set_option maxHeartbeats 4000000 in
theorem mayO_any (k : Int) (v t : Nat) (s a c : Int) (d : List UInt8) (A : Option Addr) (cap : Nat) (w : World) (hv : v < 18446744073709551616) (ht : t < 18446744073709551616) (hd : d.length ≤ 1073741824) (hcap : d.length ≤ cap) (hs : Shows w w.heap.size A d.length (cells8 d)) :
    Calls Try.prog 13 #[.agg #[.int .i64 k, .int .u64 (v : Int), .int .u64 (t : Int), .int .i64 s, .int .i64 a, .int .i64 c, .slice A d.length cap]] w fun e w' => e = .returned (.bool (mayO ⟨k, v, t, s, a, c, d⟩)) ∧ Below w.heap.size w w' := by
  cases hN : namesL k with
  | none =>
    have HN := Lib.hid (named_any k)
    have e : mayO ⟨k, v, t, s, a, c, d⟩ = false := by simp only [mayO, hN]
    have e2 : (namesL k).isSome = false := by rw [hN]; rfl
    rw [e2] at HN
    rw [e]
    clear e e2 hN
    go_enter Try.func13, Try.ntmps13
    go_wp2_with (go_at_call 31; refine (HN.out _).mono ?_; rintro e w' ⟨rfl, rfl⟩)
    go_ret
    exact ⟨rfl, (Below.refl _ _).alloc (Nat.le_refl _) _⟩
  | some L =>
    have HN0 := named_any k
    have e2 : (namesL k).isSome = true := by rw [hN]; rfl
    rw [e2] at HN0
    have HN := Lib.hid HN0
    have HL := Lib.hid (names_L hN)
    have HMS := Lib.hid (fun (i : Nat) (hi : i < L.length) h => may_stop (o := ⟨k, v, t, s, a, c, d⟩) hN hi h)
    have HME := Lib.hid (may_end (o := ⟨k, v, t, s, a, c, d⟩) hN)
    have hbR : bs (txtK k) = L := by rw [bs_txt, hN]; rfl
    generalize txtK k = R at *
    subst hbR
    have HVA := Lib.hid (fun x hx W B hS hB hb => value_any k v t s a c d A cap W x hx B hd hv ht hcap hS hB hb)
    have HBO := Lib.hid (fun x hx W => bounded_any k v t s a c d A cap W x hx (by omega))
    generalize hO : mayO ⟨k, v, t, s, a, c, d⟩ = mo at *
    clear hO e2 hN HN0
    have HS := Lib.hid hs
    clear hs
    go_enter Try.func13, Try.ntmps13
    go_wp2_with (go_at_call 31; refine (HN.out _).mono ?_; rintro e w' ⟨rfl, rfl⟩)
    go_loopw [7] (fun _ wr => ∃ pos own A' cap', pos ≤ R.size ∧ Hid (MayI w wr ⟨k, v, t, s, a, c, d⟩ A cap R pos own A' cap') ∧ Hid (own = laidAll ⟨k, v, t, s, a, c, d⟩ (zeroO k) ((bs R).take pos)) ∧ Hid (((bs R).take pos).all (fun x => bnd ⟨k, v, t, s, a, c, d⟩ (x.toNat : Int)) = true)) (fun _ wr => R.size - wr.iterPos (w.heap.size + 2))
    case atStart => exact ⟨0, zeroO k, none, 0, Nat.zero_le _, mayI_start w ⟨k, v, t, s, a, c, d⟩ A cap R _ _ rfl rfl, rfl, rfl⟩
    case round =>
      obtain ⟨pos, own, A', cap', hp, HI, HE, HA⟩ := hrel
      have HP0 := Lib.hid (iterPos_at HI.out.iter)
      by_cases hlt : pos < R.size
      · have hlb : pos < (bs R).length := by rw [bs_length]; exact hlt
        have hL := HL.out pos hlb
        rw [bs_get R pos hlt] at hL
        have hnx : ∀ ty, (Instr.next (.pointer (some ⟨w.heap.size + 2, 0, none⟩)) true ty).run Try.prog wr = _ := fun ty => Lib.run_next_any_at wr (w.heap.size + 2) R pos ty HI.out.iter hlt
        have hdc := rune_asc R pos hlt hL.2
        simp only [hdc] at hnx
        have N1 := Lib.hid (HI.out.next (pos + 1))
        have hms := HMS.out pos hlb
        rw [bs_get R pos hlt] at hms
        have hx := Lib.hid hL.1
        have HAN := Lib.hid (fun h => all_next (o := ⟨k, v, t, s, a, c, d⟩) hlt HA.out h)
        have HLN := Lib.hid (laid_next (o := ⟨k, v, t, s, a, c, d⟩) hlt HE.out)
        clear hdc hL HI HA HE
        generalize wr.iterAt (w.heap.size + 2) R (pos + 1) = W1 at *
        generalize hch : R[pos]'hlt = ch at *
        obtain ⟨l0, l1, l2, l3, l4, l5, l6⟩ := N1.out.box.cells
        cases hbd : bnd ⟨k, v, t, s, a, c, d⟩ (ch.toNat : Int) with
        | false =>
          have HB := Lib.hid hbd
          have HM := Lib.hid (hms hbd)
          clear hbd hms
          go_wp2_with (go_at_call 38; refine (HBO.out _ hx.out _).mono ?_; rintro e w2 ⟨rfl, hb2⟩; rw [HB.out])
          go_ret
          exact ⟨by rw [HM.out]; rfl, N1.out.bel.trans (hb2.mono N1.out.bel.size)⟩
        | true =>
          have HB := Lib.hid hbd
          clear hbd hms
          go_wp2_with fail
          refine (HBO.out _ hx.out _).mono ?_
          rintro e w2 ⟨rfl, hb2⟩
          rw [HB.out]
          have N2 := Lib.hid (N1.out.on hb2)
          clear l0 l1 l2 l3 l4 l5 l6 hnx N1 hb2
          obtain ⟨l0, l1, l2, l3, l4, l5, l6⟩ := N2.out.box.cells
          go_wp2_with fail
          refine (HVA.out _ hx.out _ w.heap.size (HS.out.below N2.out.bel) N2.out.bel.size HB.out).mono ?_
          rintro e w3 ⟨u, rfl, hu, hb3⟩
          have N3 := Lib.hid (N2.out.on hb3)
          clear l0 l1 l2 l3 l4 l5 l6 N2 hb3
          have HU := Lib.hid hu
          clear hu
          go_wp2_with fail
          refine (N3.out.lay hx.out HU.out).mono ?_
          rintro e w4 ⟨rfl, A2, c2, N4⟩
          clear N3 HU
          go_wp2_with fail
          go_roundw
          case rel => exact ⟨pos + 1, _, A2, c2, hlt, N4, HLN.out, HAN.out HB.out⟩
          case measure => rw [iterPos_at N4.out.iter, HP0.out]; omega
      · obtain rfl : pos = R.size := by omega
        have hnx : ∀ ty, (Instr.next (.pointer (some ⟨w.heap.size + 2, 0, none⟩)) true ty).run Try.prog wr = _ := fun ty => Lib.run_next_end_at wr (w.heap.size + 2) R R.size ty HI.out.iter hlt
        obtain ⟨l0, l1, l2, l3, l4, l5, l6⟩ := HI.out.box.cells
        obtain ⟨m0, m1, m2, m3, m4, m5, m6⟩ := HI.out.own_.cells
        have HF : Hid (decide ((⟨k, v, t, s, a, c, d⟩ : OP) = ⟨own.k, own.v, own.t, own.s, own.a, own.c, own.d⟩) = mo) := by
          have h1 := HA.out
          have h2 := HE.out
          rw [bs_all] at h1 h2
          show decide ((⟨k, v, t, s, a, c, d⟩ : OP) = own) = mo
          rw [HME.out h1, h2]
        have HS1 := Lib.hid (HS.out.below HI.out.bel)
        clear HE HA HME HMS
        go_wp2_with fail
        refine (same_any (HS1.out.wide HI.out.bel.size) (HI.out.shw.wide HI.out.bel.size)).mono ?_
        rintro e w5 ⟨rfl, hb5⟩
        rw [HF.out]
        go_wp2_with fail
        go_ret
        exact ⟨rfl, HI.out.bel.trans (hb5.mono HI.out.bel.size)⟩

end Go.Proofs.Ytpkbkliblbbdcaa
