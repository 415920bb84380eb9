/- The document's page Block. -/
import Derived.Test.YtojbajbghldoeaaDoorVe
import Derived.Test.YtojbajbghldoeaaDoorBl
set_option linter.unusedVariables false
namespace Go.Proofs.YtojbajbghldoeaaDoor
open Go.RowKit

/-- while the document's bytes grow -/
structure PB (w wr : World) (base rc : Nat) (v : Value) (l : List UInt8) : Prop where
  res : Holds8 wr rc 29 noughts
  own : wr.ownsRow base 5 1 v l.length (cells8 l)
  bel : Below w.heap.size w wr
  n2 : rc < base
  n3 : w.heap.size ≤ base
  n4 : base ≤ wr.heap.size
theorem PB.on {w wr w2 : World} {base rc : Nat} {v : Value} {l : List UInt8} (h : PB w wr base rc v l) (hb : Below wr.heap.size wr w2) : PB w w2 base rc v l :=
  ⟨h.res.below hb, own_on h.own hb, h.bel.trans (hb.mono h.bel.size), h.n2, h.n3, Nat.le_trans h.n4 hb.size⟩
theorem PB.low {w wr : World} {base rc : Nat} {v : Value} {l : List UInt8} (h : PB w wr base rc v l) (k n : Nat) (K N : Int) (hK : K = k) (hN : N = n) (hn : n < 18446744073709551616) (hk : k ≤ 8) :
    Calls Tryd.prog 47 #[.int .u64 N, .int .i64 K] wr fun e w' => ∃ A c, e = .returned (.slice A k c) ∧ Shows w' w'.heap.size A k (cells8 (leN k n)) ∧ Hid (PB w w' base rc v l) := by
  subst hK hN
  refine (rlow_any n k wr hn hk).mono fun e w' hp => ?_
  obtain ⟨v', he, ho, hb⟩ := hp
  obtain ⟨A, c, rfl, _⟩ := own_form4 ho
  exact ⟨A, c, he, Shows.owned ho, h.on hb⟩
theorem PB.app {w wr w2 : World} {base rc : Nat} {v v2 : Value} {l m : List UInt8} {k : Nat} (h : PB w wr base rc v l) (hk : m.length = k) (ho : w2.ownsRow base 5 1 v2 (l.length + k) (cells8 l ++ cells8 m)) (hg : Grew wr w2 v v2) : PB w w2 base rc v2 (l ++ m) := by
  have hb := hg.below h.own (Nat.le_refl _) h.n4
  refine ⟨(hb.block rc h.n2).trans h.res, ?_, h.bel.trans (hb.mono h.n3), h.n2, h.n3, Nat.le_trans h.n4 hb.size⟩
  rw [List.length_append, hk, cells8_append]
  exact ho
theorem PB.own8 {w wr : World} {base rc k : Nat} {v : Value} {l : List UInt8} (h : PB w wr base rc v l) (hl : l.length = k) : wr.ownsRow base 5 1 v k (cells8 l) := by
  have := h.own
  rwa [hl] at this
theorem shows_four (w : World) : Shows (w.alloc (.cells #[.int .u8 0, .int .u8 0, .int .u8 0, .int .u8 0] 5)) (w.heap.size + 1) (some ⟨w.heap.size, 0, none⟩) 4 (cells8 [0, 0, 0, 0]) := shows_new w #[.int .u8 0, .int .u8 0, .int .u8 0, .int .u8 0] 5
theorem PB.start (w : World) (b2 : UInt8) :
    PB w ((w.alloc (.cells (cells8 noughts).toArray 29)).alloc (.cells #[.int .u8 80, .int .u8 71, .int .u8 (b2.toNat : Int), .int .u8 0] 5)) (w.heap.size + 1) w.heap.size (.slice (some ⟨w.heap.size + 1, 0, none⟩) 4 4) [80, 71, b2, 0] := by
  have h2 := Holds8.new w 29 noughts _ rfl
  have h3 := heap_alloc_new (w.alloc (.cells (cells8 noughts).toArray 29)) (.cells #[.int .u8 80, .int .u8 71, .int .u8 (b2.toNat : Int), .int .u8 0] 5)
  simp only [World.size_alloc] at h2 h3
  refine ⟨h2.alloc _, ⟨rfl, .inr ⟨w.heap.size + 1, 4, _, rfl, Nat.le_refl _, h3, Nat.le_refl _, by decide, rfl, rfl⟩⟩, ((Below.refl w.heap.size w).alloc (Nat.le_refl _) _).alloc (by simp) _, by omega, by omega, by simp⟩

set_option maxRecDepth 10000 in
set_option maxHeartbeats 4000000 in
theorem rvblock_any (w : World) (no ix : Nat) (hno : no < 4294967296) (hix : ix ≤ 255) (cnt : List Nat) (hl : cnt.length ≤ 120) (hf : ∀ k ∈ cnt, k < 65536) (A : Option Addr) (c : Nat) (hs : Shows w w.heap.size A cnt.length (nums16 cnt)) :
    Calls Tryd.prog 40 #[.int .u32 (no : Int), .int .i64 (ix : Int), .slice A cnt.length c] w fun e w' => e = .returned (.agg (cells8 (imgP no ix cnt)).toArray) ∧ Below w.heap.size w w' := by
  obtain ⟨i0, hi0, hz0, hz1, hz2⟩ := info_parts u8_info
  have hz := blk_zero
  have HCS : Hid ((cells8 noughts).toArray.size = 256) := (cells8_size _).trans noughts_len
  have hS := PB.start w (UInt8.ofNat ix)
  have e1 : ((UInt8.ofNat ix).toNat : Int) = (ix : Int) := by rw [UInt8.toNat_ofNat']; omega
  rw [e1] at hS
  have hw1 : IntKind.u8.wrap (ix : Int) = (ix : Int) := by rw [IntKind.wrap_u8']; omega
  have HS := Lib.hid hs
  have HF := Lib.hid hf
  have HL := Lib.hid (hS.low 4 no 4 (no : Int) rfl rfl (by omega) (by omega))
  clear hS e1 hs hf
  generalize hnz : noughts = z at *
  have HZ := Lib.hid hnz
  clear hnz
  go_enter Tryd.func40, Tryd.ntmps40
  go_wp2_with fail
  refine HL.out.mono ?_
  rintro e w3 ⟨A3, c3, rfl, hs3, h3⟩
  clear HL
  go_wp2_with (first
    | (at_builtin; refine wpList_append_shows _ rfl (.tmp 12) (.tmp 15) 61 rfl (w.heap.size + 1) 5 i0 (.int .u8 0) 1 Tryd.underlying61 hi0 hz0 hz1 hz2 rfl (.slice (some ⟨w.heap.size + 1, 0, none⟩) 4 4) 4 (cells8 [80, 71, UInt8.ofNat ix, 0]) rfl h3.out.own _ A3 4 c3 (cells8 (leN 4 no)) rfl hs3 (cells8_one _) (by unfold maxLen; omega) (by omega) h3.out.n4 ?_; intro v4 w4 hown hg; have h4 := Lib.hid (h3.out.app (leN_length 4 no) hown hg); clear hown hg h3 hs3; have H5 : Hid (PB w (w4.alloc (.cells #[.int .u8 0, .int .u8 0, .int .u8 0, .int .u8 0] 5)) (w.heap.size + 1) w.heap.size v4 ([80, 71, UInt8.ofNat ix, 0] ++ leN 4 no)) := h4.out.on ((Below.refl _ _).alloc (Nat.le_refl _) _); have hn8 : ([80, 71, UInt8.ofNat ix, 0] ++ leN 4 no).length = 8 := by simp [leN_length])
    | (at_builtin; refine wpList_append_shows _ rfl (.tmp 17) (.tmp 18) 61 rfl (w.heap.size + 1) 5 i0 (.int .u8 0) 1 Tryd.underlying61 hi0 hz0 hz1 hz2 rfl _ 8 (cells8 ([80, 71, UInt8.ofNat ix, 0] ++ leN 4 no)) rfl (H5.out.own8 hn8) (w4.heap.size + 1) (some ⟨w4.heap.size, 0, none⟩) 4 4 (cells8 [0, 0, 0, 0]) rfl (shows_four w4) (cells8_one _) (by unfold maxLen; omega) (by omega) H5.out.n4 ?_; intro v6 w6 hown hg)
    | fail)
  have H6 := H5.out.app (m := [0, 0, 0, 0]) rfl (by rw [hn8]; exact hown) hg
  have hh : [80, 71, UInt8.ofNat ix, 0] ++ leN 4 no ++ [0, 0, 0, 0] = headP no ix := by simp [headP]
  rw [hh] at H6
  have HH := Lib.hid H6
  have HNL := Lib.hid (headP_length no ix)
  clear H6 hh hown hg hn8 H5 h4
  go_loopw [7, 8] (fun v j wr => ∃ i : Nat, i ≤ cnt.length ∧ j = .int .i64 (i : Int) ∧ Hid (PB w wr (w.heap.size + 1) w.heap.size v (headP no ix ++ cntB cnt i))) (fun _ j _ => cnt.length - (intOf j).toNat)
  case atStart => exact ⟨0, Nat.zero_le _, rfl, by rw [cntB, List.append_nil]; exact HH⟩
  case round =>
    obtain ⟨i, hi, rfl, HR⟩ := hrel
    rename_i wr
    clear HH
    have hlen : (headP no ix ++ cntB cnt i).length ≤ 252 := by rw [bodyP_length]; omega
    have hsuc : headP no ix ++ cntB cnt (i + 1) = headP no ix ++ cntB cnt i ++ leN 2 (cnt.getD i 0) := by rw [cntB]; simp [List.append_assoc]
    have HSUC := Lib.hid hsuc
    have hlt250 : i < cnt.length → (headP no ix ++ cntB cnt i).length ≤ 250 := fun h => by rw [bodyP_length]; omega
    have HALL : Hid (i = cnt.length → headP no ix ++ cntB cnt i = headP no ix ++ cntB cnt cnt.length) := fun e => by rw [e]
    clear hsuc
    generalize headP no ix ++ cntB cnt i = L at *
    by_cases hlt : i < cnt.length
    · obtain ⟨p, rfl, hp, hck⟩ := (HS.out.below HR.out.bel).num16 i hlt
      have hl250 := hlt250 hlt
      have hltI : (i : Int) < (cnt.length : Int) := by omega
      have hx16 : cnt.getD i 0 < 65536 := HF.out _ (by simp [List.getD, hlt])
      clear HALL hlen hlt250
      generalize cnt.getD i 0 = x at *
      have HL := Lib.hid (HR.out.low 2 x 2 (x : Int) rfl rfl (by omega) (by omega))
      clear HR
      go_wp2_with fail
      refine HL.out.mono ?_
      rintro e w7 ⟨A7, c7, rfl, hs7, h7⟩
      clear HL hck
      have ho7 := h7.out.own
      go_wp2_with (first
        | (at_builtin; refine wpList_append_shows _ rfl (.tmp 26) (.tmp 32) 61 rfl (w.heap.size + 1) 5 i0 (.int .u8 0) 1 Tryd.underlying61 hi0 hz0 hz1 hz2 rfl _ L.length _ rfl ho7 _ A7 2 c7 (cells8 (leN 2 x)) rfl hs7 (cells8_one _) (by unfold maxLen; omega) (by omega) h7.out.n4 ?_; intro v8 w8 hown hg)
        | fail)
      have hA := Lib.hid (h7.out.app (leN_length 2 x) hown hg)
      rw [← HSUC.out] at hA
      clear hown hg ho7 h7 hs7
      go_wp2
      go_roundw
      case rel => exact ⟨i + 1, hlt, by go_num, hA⟩
      case measure => simp [intOf]; omega
    · obtain rfl : i = cnt.length := by omega
      have hltI : ¬ (cnt.length : Int) < (cnt.length : Int) := by omega
      obtain ⟨AL, cL, hV, _⟩ := own_form4 HR.out.own
      subst hV
      have hsm := rsummed_any wr AL cL L (Shows.owned HR.out.own) (by omega)
      have him : summed (padB L) = imgP no ix cnt := by rw [HALL.out rfl]; rfl
      rw [him] at hsm
      have HSM := Lib.hid hsm
      have hil := imgP_length no ix cnt hl
      have HIL : Hid ((cells8 (imgP no ix cnt)).toArray.size = 256) := (cells8_size _).trans hil
      have hrs := HR.out.res
      rw [HZ.out] at hrs
      have HRS := Lib.hid hrs
      have HBL := Lib.hid HR.out.bel
      clear hsm him hil hrs HR HALL HSUC hlt250
      generalize hI : imgP no ix cnt = I at *
      have HI := Lib.hid hI
      clear hI
      go_wp2_with fail
      refine HSM.out.mono ?_
      rintro e w11 ⟨rfl, hb⟩
      have HR2 := Lib.hid (HRS.out.below hb)
      have HB2 := Lib.hid (HBL.out.trans (hb.mono HBL.out.size))
      go_wp2_with (first
        | refine wpList_store_row rfl 29 (.tmp 6) (.tmp 35) rfl w.heap.size (cells8 I).toArray rfl rfl 29 (cells8 z).toArray HR2.out (by rw [blk_size, HIL.out]) (by rw [HCS.out, HIL.out]) (cells8_all _) ?_
        | fail)
      exact bodyPost_ret (results_cell_row rfl _ _ w.heap.size 29 (cells8 I).toArray (0, 0) _ rfl (HR2.out.row I) Tryd.underlying29 rfl (by rw [blk_size, HIL.out])) rfl ⟨by rw [HI.out], below_setRow HB2.out (Nat.le_refl _) _⟩
end Go.Proofs.YtojbajbghldoeaaDoor
