/- The walk of Unpack of package wire. -/
import Derived.Test.YtpkbkliblbbdcaaUnp
namespace Go.Proofs.Ytpkbkliblbbdcaa
open Go.RowKit
set_option maxRecDepth 20000

theorem any_info : (Try.prog.info? 20).map (fun i => (i.zero, i.size, i.bytes)) = some (some .nilIface, 1, 16) := by kernel_rfl

theorem unpZ_go (s : ByteArray) (l : List UInt8) (pos : Nat) (h : pos < s.size) {ps : List PV} {n : Nat} {p : PV} {k : Nat} (hu : unpZ ((bs s).take pos) l = some (ps, n)) (hd : dec1 ((s[pos]'h).toNat : Int) (l.drop n) = some (p, k)) :
    unpZ ((bs s).take (pos + 1)) l = some (ps ++ [p], n + k) := by
  rw [bs_take s pos h, unpZ_snoc, hu]
  simp [hd]
theorem unpZ_stop (s : ByteArray) (l : List UInt8) (pos : Nat) (h : pos < s.size) {ps : List PV} {n : Nat} (hu : unpZ ((bs s).take pos) l = some (ps, n)) (hd : dec1 ((s[pos]'h).toNat : Int) (l.drop n) = none) : unpZ (bs s) l = none := by
  rw [← List.take_append_drop (pos + 1) (bs s)]
  apply unpZ_none
  rw [bs_take s pos h, unpZ_snoc, hu]
  simp [hd]

set_option maxHeartbeats 2000000 in
theorem unpack_any (s : ByteArray) (B : Nat) (A : Option Addr) (cap : Nat) (l : List UInt8) (w : World) (hs : s.size ≤ 1000) (hl : Shows w B A l.length (cells8 l)) (hB : B ≤ w.heap.size) (hc : l.length ≤ cap) (hcm : cap ≤ 9223372036854775807) :
    Calls Try.prog 46 #[.string s, .slice A l.length cap] w (Unpacked w (bs s) l) := by
  obtain ⟨i0, hi, hz0, hz1, hz2⟩ := info_parts any_info
  cases hm : mayS (bs s) with
  | false =>
    have HM := Lib.hid hm
    clear hm
    go_enter Try.func46, Try.ntmps46
    go_wp2_with fail
    refine (may_any s w).mono ?_
    rintro e w1 ⟨rfl, hb1⟩
    rw [HM.out]
    go_wp2_with fail
    go_ret3
    exact unpacked_arg hb1 HM.out rfl
  | true =>
    have hlm : leastM (bs s) = leastS (bs s) := by rw [leastM, if_pos hm]
    have hlb : leastS (bs s) ≤ 256000 := by
      have := leastS_le (bs s)
      rw [bs_length] at this
      omega
    have HM := Lib.hid hm
    have HLM := Lib.hid hlm
    clear hm hlm
    by_cases hsh : l.length < leastS (bs s)
    · go_enter Try.func46, Try.ntmps46
      go_wp2_with fail
      refine (may_any s w).mono ?_
      rintro e w1 ⟨rfl, hb1⟩
      rw [HM.out]
      go_wp2_with fail
      refine (least_any s w1 (by omega)).mono ?_
      rintro e w2 ⟨rfl, hb2⟩
      rw [HLM.out]
      go_wp2_with fail
      go_ret3
      refine unpacked_none (hb1.trans (hb2.mono hb1.size)) HM.out ?_ rfl
      cases hu : unpZ (bs s) l with
      | none => rfl
      | some r =>
        have := unpZ_bounds (ps := r.1) (n := r.2) hu
        omega
    · go_enter Try.func46, Try.ntmps46
      go_wp2_with fail
      refine (may_any s w).mono ?_
      rintro e w1 ⟨rfl, hb1⟩
      rw [HM.out]
      go_wp2_with fail
      refine (least_any s w1 (by omega)).mono ?_
      rintro e w2 ⟨rfl, hb2⟩
      rw [HLM.out]
      have hb12 : Below w.heap.size w w2 := hb1.trans (hb2.mono hb1.size)
      go_wp2_with (at_make; refine wpList_make_own _ rfl _ _ 65 rfl w.heap.size 20 i0 _ 1 Try.underlying65 hi hz0 hz1 _ _ _ s.size rfl rfl rfl (by rw [hz2]; omega) (by unfold maxLen; omega) hb12.size ?_; intro w3 hown3 hg3)
      have hb3 : Below w.heap.size w w3 := hb12.grown hg3 hb12.size (by simp)
      have hown4 : (w3.iter s 0).ownsRow w.heap.size 20 1 (.slice (some ⟨w2.heap.size, 0, none⟩) 0 s.size) 0 [] := hown3.alloc _
      have hb4 : Below w.heap.size w (w3.iter s 0) := hb3.alloc hb3.size _
      have hit := World.iter_heap w3 s 0
      have hK : w.heap.size ≤ w3.heap.size := hb3.size
      clear hg3 hown3 hb3 hb12 hb1 hb2
      generalize w3.heap.size = K at *
      generalize w3.iter s 0 = w4 at *
      generalize (Value.slice (some ⟨w2.heap.size, 0, none⟩) 0 s.size) = v0 at *
      go_loopw [7, 8] (fun v t wr => ∃ (pos : Nat) (ps : List PV) (n : Nat) (vs : List Value), pos ≤ s.size ∧ wr.heap[K]? = some (.stringIter s pos) ∧ t = .int .i64 (n : Int) ∧ wr.ownsRow w.heap.size 20 1 v ps.length vs ∧ AllOV wr w.heap.size vs ps ∧ Below w.heap.size w wr ∧ Hid (unpZ ((bs s).take pos) l = some (ps, n))) (fun _ _ wr => s.size - wr.iterPos K)
      case atStart => exact ⟨0, [], 0, [], Nat.zero_le _, hit, rfl, hown4, AllOV.nil _ _, hb4, rfl⟩
      case round =>
        obtain ⟨pos, ps, n, vs, hp, hitr, rfl, hown, hall, hbr, HA⟩ := hrel
        have HP0 := Lib.hid (iterPos_at hitr)
        clear hit hown4 hb4
        have hbd := unpZ_bounds HA.out
        have hpsl : ps.length = pos := by rw [hbd.2.2, List.length_take, bs_length]; omega
        have hnl : n ≤ l.length := hbd.2.1
        have HPL := Lib.hid hpsl
        have hpsb : ps.length ≤ 1000 := by omega
        clear hbd hpsl
        by_cases hlt : pos < s.size
        · have hnx : ∀ ty, (Instr.next (.pointer (some ⟨K, 0, none⟩)) true ty).run Try.prog wr = _ := fun ty => Lib.run_next_any_at wr K s pos ty hitr hlt
          have hd := rune_of s pos hlt (mayS_at s pos hlt HM.out)
          simp only [hd] at hnx
          clear hd
          have hit2 := Lib.iterAt_heap wr K s pos (pos + 1) hitr
          have hbr2 := Lib.below_iterAt hbr (k := K) hK s (pos + 1)
          have hown2 := row_iterAt hown hitr (pos + 1)
          have hall2 := hall.kept (BytesKept.iterAt hitr (pos + 1))
          generalize wr.iterAt K s (pos + 1) = W1 at *
          clear hitr hown hbr hall
          by_cases hcn : cap = n
          · obtain rfl : n = cap := hcn.symm
            clear hcn
            have hl2 : Shows W1 B A 0 (cells8 (l.drop n)) := by
              rw [List.drop_of_length_le (by omega)]
              exact Shows.empty _ _ _
            cases hd : dec1 ((s[pos]'hlt).toNat : Int) (l.drop n) with
            | none =>
              have HD := Lib.hid hd
              clear hd
              go_wp2_with fail
              refine (cutValue_at _ B A 0 0 (l.drop n) W1 hl2 (Nat.le_trans hB hbr2.size) (by omega) (by omega)).mono ?_
              rw [HD.out]
              rintro e w5 ⟨hb5, rfl⟩
              go_wp2_with fail
              go_ret3
              exact unpacked_none (hbr2.trans (hb5.mono hbr2.size)) HM.out (unpZ_stop s l pos hlt HA.out HD.out) rfl
            | some q =>
              obtain ⟨q1, q2⟩ := q
              have hqb := dec1_bounds hd
              rw [List.length_drop] at hqb
              have hq2 : n + q2 ≤ l.length := by omega
              have HD := Lib.hid hd
              clear hd hqb
              go_wp2_with fail
              refine (cutValue_at _ B A 0 0 (l.drop n) W1 hl2 (Nat.le_trans hB hbr2.size) (by omega) (by omega)).mono ?_
              rw [HD.out]
              rintro e w5 ⟨hb5, v5, rfl, hv5⟩
              obtain ⟨T5, x5, hvx⟩ := hv5.form
              subst hvx
              have hit5 : w5.heap[K]? = some (.stringIter s (pos + 1)) := by rw [hb5.block K (Array.getElem?_eq_some_iff.1 hit2).1]; exact hit2
              have hown5 : w5.ownsRow w.heap.size 20 1 _ ps.length vs := hown2.kept (row := none) ⟨hb5.os, hb5.tape, hb5.output, hb5.size, fun k hk _ => hb5.block k hk⟩ (by
                rcases hown2.2 with ⟨rfl, _⟩ | ⟨g, _, _, rfl, _⟩
                · exact .inl rfl
                · exact .inr (by simp [Value.ownBlock]))
              have hall5 := hall2.kept (BytesKept.below hb5)
              have hbr5 : Below w.heap.size w w5 := hbr2.trans (hb5.mono hbr2.size)
              have hov5 := hv5.mono hbr2.size
              clear hit2 hown2 hall2 hbr2 hb5 hv5 hnx hl2
              go_wp2_with (at_builtin; refine wpList_append_shows _ rfl (.tmp 41) (.tmp 43) 65 rfl w.heap.size 20 i0 .nilIface 16 Try.underlying65 hi hz0 hz1 hz2 rfl _ _ _ rfl (hown5.alloc _) (w5.heap.size + 1) _ 1 1 [.iface T5 x5] rfl (shows_new w5 _ _) (by simp [hov5.one]) (by unfold maxLen; omega) (by omega) (by have := hbr5.size; simp; omega) ?_; intro v6 w6 hown6 hgrow6)
              have hgr6 : Grew w5 w6 _ v6 := ((Grew.refl w5 _).alloc _).trans hgrow6
              have hit6 := grew_iter hgr6 hown5 hit5
              have hk6 := BytesKept.grew hgr6 hown5 (by decide)
              have hall6 := (hall5.kept hk6).snoc (hov5.kept hk6)
              have hb6 : Below w.heap.size w w6 := hbr5.trans (hgr6.below hown5 (Nat.le_refl _) hbr5.size)
              clear hgr6 hgrow6 hk6 hown5 hall5 hov5 hit5 hbr5
              go_roundw
              case rel => exact ⟨pos + 1, ps ++ [q1], n + q2, vs ++ [.iface T5 x5], hlt, hit6, by go_num, by rw [List.length_append]; exact hown6, hall6, hb6, unpZ_go s l pos hlt HA.out HD.out⟩
              case measure => rw [iterPos_at hit6, HP0.out]; omega
          · have hl2 := (hl.below (hbr2.mono hB)).from_ hnl hc
            rw [if_neg hcn, ← cells8_drop] at hl2
            cases hd : dec1 ((s[pos]'hlt).toNat : Int) (l.drop n) with
            | none =>
              have HD := Lib.hid hd
              clear hd
              go_wp2_with fail
              refine (cutValue_at _ B (A.map fun x => x.add n) (l.length - n) (cap - n) (l.drop n) W1 hl2 (Nat.le_trans hB hbr2.size) (by omega) (by omega)).mono ?_
              rw [HD.out]
              rintro e w5 ⟨hb5, rfl⟩
              go_wp2_with fail
              go_ret3
              exact unpacked_none (hbr2.trans (hb5.mono hbr2.size)) HM.out (unpZ_stop s l pos hlt HA.out HD.out) rfl
            | some q =>
              obtain ⟨q1, q2⟩ := q
              have hqb := dec1_bounds hd
              rw [List.length_drop] at hqb
              have hq2 : n + q2 ≤ l.length := by omega
              have HD := Lib.hid hd
              clear hd hqb
              go_wp2_with fail
              refine (cutValue_at _ B (A.map fun x => x.add n) (l.length - n) (cap - n) (l.drop n) W1 hl2 (Nat.le_trans hB hbr2.size) (by omega) (by omega)).mono ?_
              rw [HD.out]
              rintro e w5 ⟨hb5, v5, rfl, hv5⟩
              obtain ⟨T5, x5, hvx⟩ := hv5.form
              subst hvx
              have hit5 : w5.heap[K]? = some (.stringIter s (pos + 1)) := by rw [hb5.block K (Array.getElem?_eq_some_iff.1 hit2).1]; exact hit2
              have hown5 : w5.ownsRow w.heap.size 20 1 _ ps.length vs := hown2.kept (row := none) ⟨hb5.os, hb5.tape, hb5.output, hb5.size, fun k hk _ => hb5.block k hk⟩ (by
                rcases hown2.2 with ⟨rfl, _⟩ | ⟨g, _, _, rfl, _⟩
                · exact .inl rfl
                · exact .inr (by simp [Value.ownBlock]))
              have hall5 := hall2.kept (BytesKept.below hb5)
              have hbr5 : Below w.heap.size w w5 := hbr2.trans (hb5.mono hbr2.size)
              have hov5 := hv5.mono hbr2.size
              clear hit2 hown2 hall2 hbr2 hb5 hv5 hnx hl2
              go_wp2_with (at_builtin; refine wpList_append_shows _ rfl (.tmp 41) (.tmp 43) 65 rfl w.heap.size 20 i0 .nilIface 16 Try.underlying65 hi hz0 hz1 hz2 rfl _ _ _ rfl (hown5.alloc _) (w5.heap.size + 1) _ 1 1 [.iface T5 x5] rfl (shows_new w5 _ _) (by simp [hov5.one]) (by unfold maxLen; omega) (by omega) (by have := hbr5.size; simp; omega) ?_; intro v6 w6 hown6 hgrow6)
              have hgr6 : Grew w5 w6 _ v6 := ((Grew.refl w5 _).alloc _).trans hgrow6
              have hit6 := grew_iter hgr6 hown5 hit5
              have hk6 := BytesKept.grew hgr6 hown5 (by decide)
              have hall6 := (hall5.kept hk6).snoc (hov5.kept hk6)
              have hb6 : Below w.heap.size w w6 := hbr5.trans (hgr6.below hown5 (Nat.le_refl _) hbr5.size)
              clear hgr6 hgrow6 hk6 hown5 hall5 hov5 hit5 hbr5
              go_roundw
              case rel => exact ⟨pos + 1, ps ++ [q1], n + q2, vs ++ [.iface T5 x5], hlt, hit6, by go_num, by rw [List.length_append]; exact hown6, hall6, hb6, unpZ_go s l pos hlt HA.out HD.out⟩
              case measure => rw [iterPos_at hit6, HP0.out]; omega
        · have hnx : ∀ ty, (Instr.next (.pointer (some ⟨K, 0, none⟩)) true ty).run Try.prog wr = _ := fun ty => Lib.run_next_end_at wr K s pos ty hitr hlt
          obtain rfl : pos = s.size := by omega
          go_wp2_with fail
          go_ret3
          exact unpacked_some hbr HM.out (by rw [← bs_all]; exact HA.out) rfl hown hall

end Go.Proofs.Ytpkbkliblbbdcaa
