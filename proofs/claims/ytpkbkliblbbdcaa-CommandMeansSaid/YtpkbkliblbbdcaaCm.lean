/- The walk of Bytes of package command. -/
import Derived.Test.YtpkbkliblbbdcaaCl
set_option linter.unusedVariables false
namespace Go.Proofs.Ytpkbkliblbbdcaa
open Go.RowKit
set_option maxRecDepth 20000

/-- a row of values of wire's -/
def AllIV (w : World) (B : Nat) (vs : List Value) (ps : List PV) : Prop := vs.length = ps.length ∧ ∀ i (h : i < ps.length), ∃ x, vs[i]? = some x ∧ IV w B x ps[i]
theorem IV.wide {w : World} {B C : Nat} {v : Value} {p : PV} (h : IV w B v p) (hC : B ≤ C) : IV w C v p := by
  cases p with
  | blob l => obtain ⟨A, c, e, hs, hc⟩ := h; exact ⟨A, c, e, hs.wide hC, hc⟩
  | block l => exact h
  | num n => exact h
  | flag b => exact h
  | other => exact h
theorem IV.form {w : World} {B : Nat} {v : Value} {o : OP} {x : Int} (h : IV w B v (valP o x)) : ∃ T y, v = .iface T y := by
  cases hp : valP o x with
  | num n => rw [hp] at h; obtain ⟨rfl, _⟩ := h; exact ⟨_, _, rfl⟩
  | blob l => rw [hp] at h; obtain ⟨A, c, rfl, _⟩ := h; exact ⟨_, _, rfl⟩
  | flag b => unfold valP at hp; repeat' split at hp <;> first | cases hp | skip
  | block l => unfold valP at hp; repeat' split at hp <;> first | cases hp | skip
  | other => unfold valP at hp; repeat' split at hp <;> first | cases hp | skip
theorem AllIV.below {w w' : World} {B : Nat} {vs : List Value} {ps : List PV} (h : AllIV w B vs ps) (hb : Below B w w') : AllIV w' B vs ps :=
  ⟨h.1, fun i hi => by obtain ⟨x, hx, ho⟩ := h.2 i hi; exact ⟨x, hx, ho.below hb⟩⟩
theorem AllIV.wide {w : World} {B C : Nat} {vs : List Value} {ps : List PV} (h : AllIV w B vs ps) (hC : B ≤ C) : AllIV w C vs ps :=
  ⟨h.1, fun i hi => by obtain ⟨x, hx, ho⟩ := h.2 i hi; exact ⟨x, hx, ho.wide hC⟩⟩
theorem AllIV.snoc {w : World} {B : Nat} {vs : List Value} {ps : List PV} {v : Value} {p : PV} (h : AllIV w B vs ps) (hv : IV w B v p) : AllIV w B (vs ++ [v]) (ps ++ [p]) := by
  refine ⟨by simp [h.1], fun i hi => ?_⟩
  rcases Nat.lt_or_ge i ps.length with hlt | hge
  · obtain ⟨x, hx, ho⟩ := h.2 i hlt
    refine ⟨x, ?_, ?_⟩
    · rw [List.getElem?_append_left (by rw [h.1]; exact hlt)]; exact hx
    · rw [List.getElem_append_left hlt]; exact ho
  · have e : i = ps.length := by simp at hi; omega
    subst e
    refine ⟨v, ?_, ?_⟩
    · rw [← h.1, List.getElem?_append_right (Nat.le_refl _)]; simp
    · simp; exact hv

theorem own_lo {w : World} {b b' : Nat} {e : TypeId} {s n : Nat} {v : Value} {xs : List Value} (h : w.ownsRow b e s v n xs) (hb : b' ≤ b) : w.ownsRow b' e s v n xs := by
  refine ⟨h.1, ?_⟩
  rcases h.2 with h | ⟨g, cap, cur, hv, hg, hh, h1, h2, h3, h4⟩
  · exact .inl h
  · exact .inr ⟨g, cap, cur, hv, Nat.le_trans hb hg, hh, h1, h2, h3, h4⟩

/-- while the values are gathered: the box at b0, the text's iterator at K -/
structure ByI (w wr : World) (o : OP) (A : Option Addr) (cap : Nat) (K : Nat) (R : ByteArray) (pos : Nat) (v : Value) (vs : List Value) (ps : List PV) : Prop where
  box : Box wr w.heap.size o A cap
  iter : wr.heap[K]? = some (.stringIter R pos)
  kb : w.heap.size < K
  bel : Below w.heap.size w wr
  own : wr.ownsRow (w.heap.size + 1) 20 1 v ps.length vs
  all : AllIV wr w.heap.size vs ps

theorem ByI.on {w wr w' : World} {o : OP} {A : Option Addr} {cap K : Nat} {R : ByteArray} {pos : Nat} {v : Value} {vs : List Value} {ps : List PV} (h : ByI w wr o A cap K R pos v vs ps) (hb : Below wr.heap.size wr w') : ByI w w' o A cap K R pos v vs ps :=
  ⟨h.box.below hb (Array.getElem?_eq_some_iff.1 h.box).1, (hb.block _ (Array.getElem?_eq_some_iff.1 h.iter).1).trans h.iter, h.kb, h.bel.trans (hb.mono h.bel.size), own_below h.own hb, h.all.below (hb.mono h.bel.size)⟩
theorem ByI.next {w wr : World} {o : OP} {A : Option Addr} {cap K : Nat} {R : ByteArray} {pos : Nat} {v : Value} {vs : List Value} {ps : List PV} (h : ByI w wr o A cap K R pos v vs ps) (q : Nat) : ByI w (wr.iterAt K R q) o A cap K R q v vs ps :=
  ⟨(Lib.iterAt_other _ _ _ _ _ (by have := h.kb; omega)).trans h.box, Lib.iterAt_heap wr _ R pos q h.iter, h.kb, Lib.below_iterAt h.bel (k := K) (by have := h.kb; omega) R q, row_iterAt h.own h.iter q, h.all.below (Lib.below_iterAt (Below.refl _ _) (k := K) (by have := h.kb; omega) R q)⟩
theorem ByI.add {w wr w' : World} {o : OP} {A : Option Addr} {cap K : Nat} {R : ByteArray} {pos : Nat} {v v' u : Value} {vs : List Value} {ps : List PV} {p : PV} (h : ByI w wr o A cap K R pos v vs ps) (hg : Grew wr w' v v') (ho : w'.ownsRow (w.heap.size + 1) 20 1 v' (ps.length + 1) (vs ++ [u])) (hu : IV wr w.heap.size u p) : ByI w w' o A cap K R pos v' (vs ++ [u]) (ps ++ [p]) := by
  have hB : Below w.heap.size wr w' := hg.below h.own (by omega) h.bel.size
  have hbl := (Array.getElem?_eq_some_iff.1 h.box).1
  refine ⟨(hg.by_.block _ hbl (fun e => ?_)).trans h.box, grew_iter hg h.own h.iter, h.kb, h.bel.trans hB, by rw [List.length_append]; exact ho, (h.all.below hB).snoc (hu.below hB)⟩
  have := (h.own.lt _ e.symm).1
  omega

theorem map_next {o : OP} {R : ByteArray} {pos : Nat} (hlt : pos < R.size) : (((bs R).take (pos + 1)).map fun c => valP o (c.toNat : Int)) = (((bs R).take pos).map fun c => valP o (c.toNat : Int)) ++ [valP o ((R[pos]'hlt).toNat : Int)] := by
  rw [bs_take R pos hlt, List.map_append]
  rfl

set_option maxHeartbeats 4000000 in
theorem bytesO_any (k : Int) (v t : Nat) (s a c : Int) (d : List UInt8) (A : Option Addr) (cap : Nat) (w : World) (hv : v < 18446744073709551616) (ht : t < 18446744073709551616) (hd : d.length ≤ 16777216) (hcap : d.length ≤ cap) (hs : Shows w w.heap.size A d.length (cells8 d)) :
    Calls Try.prog 10 #[.agg #[.int .i64 k, .int .u64 (v : Int), .int .u64 (t : Int), .int .i64 s, .int .i64 a, .int .i64 c, .slice A d.length cap]] w (Packed w (if mayO ⟨k, v, t, s, a, c, d⟩ = true then packO ⟨k, v, t, s, a, c, d⟩ else none)) := by
  obtain ⟨i0, hi, hz0, hz1, hz2⟩ := info_parts any_info
  cases hM : mayO ⟨k, v, t, s, a, c, d⟩ with
  | false =>
    rw [if_neg (by decide)]
    have HM := Lib.hid hM
    have hs1 := Lib.hid (hs.alloc (Nat.le_refl _) (.cells #[.int .i64 k, .int .u64 (v : Int), .int .u64 (t : Int), .int .i64 s, .int .i64 a, .int .i64 c, .slice A d.length cap] 26))
    clear hM hs
    go_enter Try.func10, Try.ntmps10
    go_wp2_with (go_at_call 13; refine (mayO_any k v t s a c d A cap _ hv ht (by omega) hcap (hs1.out.wide (by simp))).mono ?_; rintro e w1 ⟨rfl, hb1⟩; rw [HM.out])
    go_ret2
    exact ⟨rfl, ((Below.refl _ _).alloc (Nat.le_refl _) _).trans (hb1.mono (by simp))⟩
  | true =>
    rw [if_pos rfl]
    obtain ⟨L, hN, hall, hlaid⟩ := mayO_parts hM
    have hk : 1 ≤ k ∧ k ≤ 9 := kind_of hN
    have hP : packO ⟨k, v, t, s, a, c, d⟩ = packR (bs (shapeS L)) (.num k.toNat :: L.map fun c' => valP ⟨k, v, t, s, a, c, d⟩ (c'.toNat : Int)) := by
      unfold packO valsO
      show packR (bs (shapeS ((namesL k).getD []))) (.num k.toNat :: ((namesL k).getD []).map fun c' => valP ⟨k, v, t, s, a, c, d⟩ (c'.toNat : Int)) = _
      rw [hN]
      rfl
    have hl3 := names_len hN
    rw [hP]
    have HN0 := named_any k
    have e2 : (namesL k).isSome = true := by rw [hN]; rfl
    rw [e2] at HN0
    have HN := Lib.hid HN0
    have HL := Lib.hid (names_L hN)
    have hbR : bs (txtK k) = L := by rw [bs_txt, hN]; rfl
    generalize txtK k = R at *
    subst hbR
    have HBN := Lib.hid (fun (i : Nat) (hi : i < (bs R).length) => List.all_eq_true.1 hall _ (List.getElem_mem hi))
    have HVA := Lib.hid (fun x hx W B hS hB hb => value_any k v t s a c d A cap W x hx B (by omega) hv ht hcap hS hB hb)
    have HMA := Lib.hid (fun W hS => mayO_any k v t s a c d A cap W hv ht (by omega) hcap hS)
    rw [hM] at HMA
    have HS := Lib.hid hs
    obtain ⟨kn, rfl⟩ := int_nat (show 0 ≤ k by omega)
    have hkw := wrap_u kn (by omega)
    clear hM hN hall hlaid hP e2 HN0 hs
    generalize hrr : packR (bs (shapeS (bs R))) (.num ((kn : Int).toNat) :: (bs R).map fun c' => valP ⟨kn, v, t, s, a, c, d⟩ (c'.toNat : Int)) = rr
    have HRR := Lib.hid (show packR (bs (shapeS (bs R))) (.num kn :: (bs R).map fun c' => valP ⟨kn, v, t, s, a, c, d⟩ (c'.toNat : Int)) = rr from hrr)
    clear hrr
    go_enter Try.func10, Try.ntmps10
    go_wp2_with fail
    have hs1 : Shows (w.alloc (.cells #[.int .i64 (kn : Int), .int .u64 (v : Int), .int .u64 (t : Int), .int .i64 s, .int .i64 a, .int .i64 c, .slice A d.length cap] 26)) (w.heap.size + 1) A d.length (cells8 d) := (HS.out.alloc (Nat.le_refl _) _).wide (by omega)
    refine (HMA.out _ (by simpa using hs1)).mono ?_
    rintro e w1 ⟨rfl, hb1⟩
    have hbx : Box w1 w.heap.size ⟨kn, v, t, s, a, c, d⟩ A cap := (hb1.block _ (by simp)).trans (heap_alloc_new _ _)
    have hb01 : Below w.heap.size w w1 := ((Below.refl _ _).alloc (Nat.le_refl _) _).trans (hb1.mono (by simp))
    obtain ⟨l0, l1, l2, l3, l4, l5, l6⟩ := hbx.cells
    have HBX := Lib.hid hbx
    have HB01 := Lib.hid hb01
    clear hs1 hb1 hbx hb01
    go_wp2_with (go_at_call 31; refine (HN.out _).mono ?_; rintro e w' ⟨rfl, rfl⟩)
    have hsz1 : w.heap.size + 1 ≤ w1.heap.size := by have := (Array.getElem?_eq_some_iff.1 HBX.out).1; omega
    have hst : Hid (ByI w ((w1.alloc (.cells #[.iface 23 (.int .u64 (kn : Int))] 20)).iter R 0) ⟨kn, v, t, s, a, c, d⟩ A cap (w1.heap.size + 1) R 0 (.slice (some ⟨w1.heap.size, 0, none⟩) 1 1) [.iface 23 (.int .u64 (kn : Int))] [.num kn]) := by
      have h0 : (w1.alloc (.cells #[.iface 23 (.int .u64 (kn : Int))] 20)).ownsRow (w.heap.size + 1) 20 1 (.slice (some ⟨w1.heap.size, 0, none⟩) 1 1) 1 [.iface 23 (.int .u64 (kn : Int))] :=
        ⟨rfl, .inr ⟨w1.heap.size, 1, #[.iface 23 (.int .u64 (kn : Int))], rfl, hsz1, heap_alloc_new _ _, Nat.le_refl _, by unfold maxLen; omega, rfl, by simp⟩⟩
      refine ⟨?_, ?_, by omega, (HB01.out.alloc HB01.out.size _).alloc (by simp; omega) _, h0.alloc _, ⟨rfl, fun i hi => ?_⟩⟩
      · show ((w1.alloc _).alloc _).heap[w.heap.size]? = _
        rw [Below.heap_alloc _ _ _ (by simp; omega), Below.heap_alloc _ _ _ (by omega)]
        exact HBX.out
      · have := World.iter_heap (w1.alloc (.cells #[.iface 23 (.int .u64 (kn : Int))] 20)) R 0
        simpa using this
      · obtain rfl : i = 0 := by simp at hi; omega
        exact ⟨_, rfl, rfl, by omega⟩
    clear HBX HB01 l0 l1 l2 l3 l4 l5 l6
    generalize hKK : w1.heap.size + 1 = K at *
    have hKK2 := Lib.hid hKK
    clear hKK
    go_loopw [6] (fun u wr => ∃ pos vs, pos ≤ R.size ∧ Hid (ByI w wr ⟨kn, v, t, s, a, c, d⟩ A cap K R pos u vs (.num kn :: ((bs R).take pos).map fun c' => valP ⟨kn, v, t, s, a, c, d⟩ (c'.toNat : Int)))) (fun _ wr => R.size - wr.iterPos K)
    case atStart => exact ⟨0, _, Nat.zero_le _, hst⟩
    case round =>
      obtain ⟨pos, vs, hp, HI⟩ := hrel
      clear hst
      have HP0 := Lib.hid (iterPos_at HI.out.iter)
      by_cases hlt : pos < R.size
      · have hlb : pos < (bs R).length := by rw [bs_length]; exact hlt
        have hL := HL.out pos hlb
        have hB := HBN.out pos hlb
        rw [bs_get R pos hlt] at hL hB
        have hnx : ∀ ty, (Instr.next (.pointer (some ⟨K, 0, none⟩)) true ty).run Try.prog wr = _ := fun ty => Lib.run_next_any_at wr K R pos ty HI.out.iter hlt
        have hdc := rune_asc R pos hlt hL.2
        simp only [hdc] at hnx
        have N1 := Lib.hid (HI.out.next (pos + 1))
        have HMN := Lib.hid (map_next (o := ⟨kn, v, t, s, a, c, d⟩) hlt)
        have hx := Lib.hid hL.1
        have HB := Lib.hid hB
        clear hdc hL HI hB
        generalize wr.iterAt K R (pos + 1) = W1 at *
        generalize hch : R[pos]'hlt = ch at *
        obtain ⟨l0, l1, l2, l3, l4, l5, l6⟩ := N1.out.box.cells
        go_wp2_with fail
        refine (HVA.out _ hx.out _ w.heap.size (HS.out.below N1.out.bel) N1.out.bel.size HB.out).mono ?_
        rintro e w3 ⟨u, rfl, hu, hb3⟩
        have N3 := Lib.hid (N1.out.on hb3)
        clear l0 l1 l2 l3 l4 l5 l6 N1 hb3 hnx
        obtain ⟨T, y, rfl⟩ := hu.form
        have HU := Lib.hid hu
        clear hu
        have hpl : (PV.num kn :: ((bs R).take pos).map fun c' => valP ⟨kn, v, t, s, a, c, d⟩ (c'.toNat : Int)).length ≤ 1000 := by
          simp
          omega
        go_wp2_with (at_builtin; refine wpList_append_shows _ rfl (.tmp 28) (.tmp 32) 65 rfl (w.heap.size + 1) 20 i0 .nilIface 16 Try.underlying65 hi hz0 hz1 hz2 rfl _ _ _ rfl (N3.out.own.alloc _) (w3.heap.size + 1) _ 1 1 [.iface T y] rfl (shows_new w3 _ _) (by simp [Value.oneCell']) (by unfold maxLen; omega) (by omega) (by have := N3.out.bel.size; simp; omega) ?_; intro v6 w6 hown6 hgrow6)
        have N4 := N3.out.on ((Below.refl w3.heap.size w3).alloc (Nat.le_refl _) (.cells #[.iface T y] 20))
        have N5 := Lib.hid (N4.add hgrow6 hown6 (HU.out.below ((Below.refl w3.heap.size w3).alloc (Nat.le_refl _) _ |>.mono N3.out.bel.size)))
        clear N3 N4 hown6 hgrow6 HU
        go_roundw
        case rel => exact ⟨pos + 1, _, hlt, by rw [HMN.out]; exact N5⟩
        case measure => rw [iterPos_at N5.out.iter, HP0.out]; omega
      · obtain rfl : pos = R.size := by omega
        have hnx : ∀ ty, (Instr.next (.pointer (some ⟨K, 0, none⟩)) true ty).run Try.prog wr = _ := fun ty => Lib.run_next_end_at wr K R R.size ty HI.out.iter hlt
        have hpl : (PV.num kn :: ((bs R).take R.size).map fun c' => valP ⟨kn, v, t, s, a, c, d⟩ (c'.toNat : Int)).length ≤ 1000 := by
          simp
          omega
        have HAA := Lib.hid (show (PV.num kn :: ((bs R).take R.size).map fun c' => valP ⟨kn, v, t, s, a, c, d⟩ (c'.toNat : Int)) = PV.num kn :: (bs R).map fun c' => valP ⟨kn, v, t, s, a, c, d⟩ (c'.toNat : Int) by rw [bs_all R])
        generalize (PV.num kn :: ((bs R).take R.size).map fun c' => valP ⟨kn, v, t, s, a, c, d⟩ (c'.toNat : Int)) = ps at *
        have hown := HI.out.own
        obtain ⟨A2, c2, rfl, hc2, hm2⟩ := own_form hown
        have hss : (shapeS (bs R)).size ≤ 1000 := by
          show (49 :: (bs R).map shapeF).toArray.size ≤ 1000
          simp
          omega
        have HSH := Lib.hid (shape_any R wr (by rw [bs_length] at hl3; omega) (fun i h => by
          have := (HL.out i (by rw [bs_length]; exact h)).2
          rw [bs_get R i h] at this
          exact this))
        clear hown
        go_wp2_with fail
        refine HSH.out.mono ?_
        rintro e w4 ⟨rfl, hb4⟩
        have N4 := Lib.hid (HI.out.on hb4)
        clear HI HSH hb4 hnx
        go_wp2_with fail
        refine (pack_any (shapeS (bs R)) A2 ps.length c2 vs ps w4 hss (by omega) (Shows.owned N4.out.own) rfl (N4.out.all.wide N4.out.bel.size).2).mono ?_
        rw [HAA.out, HRR.out]
        intro e w5 hpk
        clear HRR
        cases rr with
        | none =>
          obtain ⟨rfl, hb5⟩ := hpk
          go_wp2_with fail
          go_ret2
          exact ⟨rfl, N4.out.bel.trans (hb5.mono N4.out.bel.size)⟩
        | some l =>
          obtain ⟨v5, rfl, ho5, hb5⟩ := hpk
          go_wp2_with fail
          go_ret2
          exact ⟨v5, rfl, own_lo ho5 N4.out.bel.size, N4.out.bel.trans (hb5.mono N4.out.bel.size)⟩

end Go.Proofs.Ytpkbkliblbbdcaa
