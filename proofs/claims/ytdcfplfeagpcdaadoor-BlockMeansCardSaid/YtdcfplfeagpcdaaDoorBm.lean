/- The document's Block. -/
import Derived.Test.YtdcfplfeagpcdaaDoorBl
import Derived.Test.YtdcfplfeagpcdaaDoorBe
set_option linter.unusedVariables false
namespace Go.Proofs.YtdcfplfeagpcdaaDoor
open Go.RowKit

/-- while the document's bytes grow -/
structure LB (w wr : World) (base bn rc : Nat) (nd : Array Value) (v : Value) (l : List UInt8) : Prop where
  node : wr.heap[bn]? = some (.cells nd 27 (0, 0))
  res : Holds8 wr rc 29 noughts
  own : wr.ownsRow base 5 1 v l.length (cells8 l)
  bel : Below w.heap.size w wr
  n1 : bn < base
  n2 : rc < base
  n3 : w.heap.size ≤ base
  n4 : base ≤ wr.heap.size
theorem LB.on {w wr w2 : World} {base bn rc : Nat} {nd : Array Value} {v : Value} {l : List UInt8} (h : LB w wr base bn rc nd v l) (hb : Below wr.heap.size wr w2) : LB w w2 base bn rc nd v l :=
  ⟨(hb.block bn (lt_of_block h.node)).trans h.node, h.res.below hb, own_on h.own hb, h.bel.trans (hb.mono h.bel.size), h.n1, h.n2, h.n3, Nat.le_trans h.n4 hb.size⟩
theorem LB.low {w wr : World} {base bn rc : Nat} {nd : Array Value} {v : Value} {l : List UInt8} (h : LB w wr base bn rc nd v l) (k n : Nat) (K N : Int) (hK : K = k) (hN : N = n) (hn : n < 18446744073709551616) (hk : k ≤ 8) :
    Calls Tryd.prog 40 #[.int .u64 N, .int .i64 K] wr fun e w' => ∃ A c, e = .returned (.slice A k c) ∧ Shows w' w'.heap.size A k (cells8 (leN k n)) ∧ Hid (LB w w' base bn rc nd v l) := by
  subst hK hN
  refine (rlow_any n k wr hn hk).mono fun e w' hp => ?_
  obtain ⟨v', he, ho, hb⟩ := hp
  obtain ⟨A, c, rfl, _⟩ := own_form4 ho
  exact ⟨A, c, he, Shows.owned ho, h.on hb⟩
theorem LB.app {w wr w2 : World} {base bn rc : Nat} {nd : Array Value} {v v2 : Value} {l m : List UInt8} {k : Nat} (h : LB w wr base bn rc nd v l) (hk : m.length = k) (ho : w2.ownsRow base 5 1 v2 (l.length + k) (cells8 l ++ cells8 m)) (hg : Grew wr w2 v v2) : LB w w2 base bn rc nd v2 (l ++ m) := by
  have hb := hg.below h.own (Nat.le_refl _) h.n4
  refine ⟨(hb.block bn h.n1).trans h.node, (hb.block rc h.n2).trans h.res, ?_, h.bel.trans (hb.mono h.n3), h.n1, h.n2, h.n3, Nat.le_trans h.n4 hb.size⟩
  rw [List.length_append, hk, cells8_append]
  exact ho
theorem LB.cell {w wr : World} {base bn rc : Nat} {nd : Array Value} {v : Value} {l : List UInt8} (h : LB w wr base bn rc nd v l) (i : Nat) : wr.cell? ⟨bn, i, none⟩ = nd[i]? := by
  rw [cell_of_row wr bn i _ _ _ h.node]
theorem LB.start (w : World) (nd : Array Value) (b0 b1 : UInt8) :
    LB w (((w.alloc (.cells nd 27)).alloc (.cells (cells8 noughts).toArray 29)).alloc (.cells #[.int .u8 (b0.toNat : Int), .int .u8 (b1.toNat : Int), .int .u8 0, .int .u8 0] 5)) (w.heap.size + 2) w.heap.size (w.heap.size + 1) nd (.slice (some ⟨w.heap.size + 2, 0, none⟩) 4 4) [b0, b1, 0, 0] := by
  have h1 := heap_alloc_new w (.cells nd 27)
  have h2 := Holds8.new (w.alloc (.cells nd 27)) 29 noughts _ rfl
  have h3 := heap_alloc_new ((w.alloc (.cells nd 27)).alloc (.cells (cells8 noughts).toArray 29)) (.cells #[.int .u8 (b0.toNat : Int), .int .u8 (b1.toNat : Int), .int .u8 0, .int .u8 0] 5)
  simp only [World.size_alloc] at h2 h3
  refine ⟨heap_alloc' (heap_alloc' h1), h2.alloc _, ⟨rfl, .inr ⟨w.heap.size + 2, 4, _, rfl, Nat.le_refl _, h3, Nat.le_refl _, by decide, rfl, rfl⟩⟩, (((Below.refl w.heap.size w).alloc (Nat.le_refl _) _).alloc (by simp) _).alloc (by simp; omega) _, by omega, by omega, by omega, by simp⟩

set_option maxRecDepth 10000 in
set_option maxHeartbeats 4000000 in
theorem rblock_okn (w : World) (no : Nat) (hno : no < 4294967296) (kind : Nat) (birth : Nat) (hbi : birth < 18446744073709551616) (keys vals : List Nat) (hk3 : kind ≤ 3) (h6 : keys.length ≤ 6) (hvk : vals.length = keys.length) (hfk : ∀ i, keys.getD i 0 < 18446744073709551616) (hfv : ∀ i, vals.getD i 0 < 18446744073709551616) (A A' : Option Addr) (ck cv : Nat) (hs : Shows w w.heap.size A keys.length (nums64 keys)) (hv : Shows w w.heap.size A' vals.length (nums64 vals)) :
    Calls Tryd.prog 13 #[.int .u32 no, .agg #[.int .i64 (kind : Int), .int .u64 (birth : Int), .slice A keys.length ck, .slice A' vals.length cv]] w fun e w' => e = .returned (.agg (cells8 (img no ⟨(kind : Int), birth, keys, vals⟩)).toArray) ∧ Below w.heap.size w w' := by
  obtain ⟨i0, hi0, hz0, hz1, hz2⟩ := info_parts u8_info
  have hz := blk_zero
  have HCS : Hid ((cells8 noughts).toArray.size = 256) := (cells8_size _).trans noughts_len
  have hkk : ((kind : Int) % 256) = ((UInt8.ofNat kind).toNat : Int) := by rw [UInt8.toNat_ofNat']; omega
  have hS := LB.start w #[.int .i64 (kind : Int), .int .u64 (birth : Int), .slice A keys.length ck, .slice A' vals.length cv] (UInt8.ofNat kind) (UInt8.ofNat keys.length)
  have e1 : ((UInt8.ofNat kind).toNat : Int) = (kind : Int) := by rw [UInt8.toNat_ofNat']; omega
  have e2 : ((UInt8.ofNat keys.length).toNat : Int) = (keys.length : Int) := by rw [UInt8.toNat_ofNat']; omega
  rw [e1, e2] at hS
  have hw1 : IntKind.u8.wrap (kind : Int) = (kind : Int) := by rw [IntKind.wrap_u8']; omega
  have hw2 : IntKind.u8.wrap (keys.length : Int) = (keys.length : Int) := by rw [IntKind.wrap_u8']; omega
  have HSK := Lib.hid hs
  have HSV := Lib.hid hv
  have HVK := Lib.hid hvk
  have HFK := Lib.hid hfk
  have HFV := Lib.hid hfv
  have H0 := Lib.hid hS
  have hL := hS.low 4 no 4 (no : Int) rfl rfl (by omega) (by omega)
  have HL := Lib.hid hL
  clear hkk hS e1 e2 hs hv hvk hfk hfv hL
  generalize hnz : noughts = z at *
  have HZ := Lib.hid hnz
  clear hnz
  go_enter Tryd.func13, Tryd.ntmps13
  go_wp2_with fail
  refine HL.out.mono ?_
  rintro e w3 ⟨A3, c3, rfl, hs3, h3⟩
  clear HL H0
  go_wp2_with (first
    | (at_builtin; refine wpList_append_shows _ rfl (.tmp 15) (.tmp 18) 61 rfl (w.heap.size + 2) 5 i0 (.int .u8 0) 1 Tryd.underlying61 hi0 hz0 hz1 hz2 rfl (.slice (some ⟨w.heap.size + 2, 0, none⟩) 4 4) 4 (cells8 [UInt8.ofNat kind, UInt8.ofNat keys.length, 0, 0]) rfl h3.out.own _ A3 4 c3 (cells8 (leN 4 no)) rfl hs3 (cells8_one _) (by unfold maxLen; omega) (by omega) h3.out.n4 ?_; intro v4 w4 hown hg; have h4 := Lib.hid (h3.out.app (leN_length 4 no) hown hg); have c1 : w4.cell? ⟨w.heap.size, 1, none⟩ = some (.int .u64 (birth : Int)) := h4.out.cell 1; clear hown hg)
    | fail)
  have HL := Lib.hid (h4.out.low 8 birth 8 (birth : Int) rfl rfl hbi (by omega))
  clear h3 hs3 c1
  refine HL.out.mono ?_
  rintro e w5 ⟨A5, c5, rfl, hs5, h5⟩
  clear HL h4
  have hn8 : ([UInt8.ofNat kind, UInt8.ofNat keys.length, 0, 0] ++ leN 4 no).length = 8 := by simp [leN_length]
  have ho5 := h5.out.own
  rw [hn8] at ho5
  go_wp2_with (first
    | (at_builtin; refine wpList_append_shows _ rfl (.tmp 20) (.tmp 23) 61 rfl (w.heap.size + 2) 5 i0 (.int .u8 0) 1 Tryd.underlying61 hi0 hz0 hz1 hz2 rfl _ 8 _ rfl ho5 _ A5 8 c5 (cells8 (leN 8 birth)) rfl hs5 (cells8_one _) (by unfold maxLen; omega) (by omega) h5.out.n4 ?_; intro v6 w6 hown hg)
    | fail)
  have H6 := h5.out.app (leN_length 8 birth) (by rw [hn8]; exact hown) hg
  have hh : [UInt8.ofNat kind, UInt8.ofNat keys.length, 0, 0] ++ leN 4 no ++ leN 8 birth = headB no ⟨(kind : Int), birth, keys, vals⟩ := by simp [headB]
  rw [hh] at H6
  have HH := Lib.hid H6
  have HNL := Lib.hid (headB_length no ⟨(kind : Int), birth, keys, vals⟩)
  clear H6 hh hown hg ho5 hn8 h5 hs5
  go_loopw [5, 6] (fun v j wr => ∃ i : Nat, i ≤ keys.length ∧ j = .int .i64 (i : Int) ∧ Hid (LB w wr (w.heap.size + 2) w.heap.size (w.heap.size + 1) #[.int .i64 (kind : Int), .int .u64 (birth : Int), .slice A keys.length ck, .slice A' vals.length cv] v (headB no ⟨(kind : Int), birth, keys, vals⟩ ++ pairsB keys vals i))) (fun _ j _ => keys.length - (intOf j).toNat)
  case atStart => exact ⟨0, Nat.zero_le _, rfl, by rw [pairsB, List.append_nil]; exact HH⟩
  case round =>
    obtain ⟨i, hi, rfl, HR⟩ := hrel
    clear HH
    have hpl := pairsB_length keys vals i
    have hlen : (headB no ⟨(kind : Int), birth, keys, vals⟩ ++ pairsB keys vals i).length ≤ 112 := by rw [List.length_append, HNL.out, hpl]; omega
    have hsuc : headB no ⟨(kind : Int), birth, keys, vals⟩ ++ pairsB keys vals (i + 1) = headB no ⟨(kind : Int), birth, keys, vals⟩ ++ pairsB keys vals i ++ leN 8 (keys.getD i 0) ++ leN 8 (vals.getD i 0) := by rw [pairsB]; simp [List.append_assoc]
    have HSUC := Lib.hid hsuc
    have hall : i = keys.length → headB no ⟨(kind : Int), birth, keys, vals⟩ ++ pairsB keys vals i = bodyB no ⟨(kind : Int), birth, keys, vals⟩ := fun e => by rw [e]; rfl
    have HALL := Lib.hid hall
    clear hpl hsuc hall
    have c2 := HR.out.cell 2
    generalize headB no ⟨(kind : Int), birth, keys, vals⟩ ++ pairsB keys vals i = L at *
    by_cases hlt : i < keys.length
    · have c2' : wr.cell? ⟨w.heap.size, 2, none⟩ = some (.slice A keys.length ck) := c2
      clear c2
      obtain ⟨p, rfl, hp, hck⟩ := (HSK.out.below HR.out.bel).num i hlt
      obtain ⟨p2, rfl, hp2, hcv⟩ := (HSV.out.below HR.out.bel).num i (by rw [HVK.out]; exact hlt)
      have HCV : Hid (∀ W, Below w.heap.size w W → W.cell? (p2.add i) = some (.int .u64 ((vals.getD i 0 : Nat) : Int))) := fun W hW => by
        rw [hW.cell (p := p2.add i) (by rw [addr_block]; exact hp2)]
        rw [HR.out.bel.cell (p := p2.add i) (by rw [addr_block]; exact hp2)] at hcv
        exact hcv
      have hltI : (i : Int) < (keys.length : Int) := by omega
      have hltV : (i : Int) < (vals.length : Int) := by rw [HVK.out]; exact hltI
      have hx64 := HFK.out i
      have hy64 := HFV.out i
      clear hcv
      generalize keys.getD i 0 = x at *
      generalize vals.getD i 0 = y at *
      have HL := Lib.hid (HR.out.low 8 x 8 (x : Int) rfl rfl hx64 (by omega))
      clear HR
      go_wp2_with fail
      refine HL.out.mono ?_
      rintro e w7 ⟨A7, c7, rfl, hs7, h7⟩
      clear HL hck
      have ho7 := h7.out.own
      go_wp2_with (first
        | (at_builtin; refine wpList_append_shows _ rfl (.tmp 32) (.tmp 38) 61 rfl (w.heap.size + 2) 5 i0 (.int .u8 0) 1 Tryd.underlying61 hi0 hz0 hz1 hz2 rfl _ L.length _ rfl ho7 _ A7 8 c7 (cells8 (leN 8 x)) rfl hs7 (cells8_one _) (by unfold maxLen; omega) (by omega) h7.out.n4 ?_; intro v8 w8 hown hg; have h8 := Lib.hid (h7.out.app (leN_length 8 x) hown hg); have c3 : w8.cell? ⟨w.heap.size, 3, none⟩ = some (.slice (some p2) vals.length cv) := h8.out.cell 3; have hcv := HCV.out _ h8.out.bel; clear hown hg)
        | fail)
      have HL := Lib.hid (h8.out.low 8 y 8 (y : Int) rfl rfl hy64 (by omega))
      clear h7 hs7 ho7 hcv c3
      refine HL.out.mono ?_
      rintro e w9 ⟨A9, c9, rfl, hs9, h9⟩
      clear HL h8
      have ho9 := h9.out.own
      have hl9 : (L ++ leN 8 x).length ≤ 120 := by rw [List.length_append, leN_length]; omega
      go_wp2_with (first
        | (at_builtin; refine wpList_append_shows _ rfl (.tmp 40) (.tmp 46) 61 rfl (w.heap.size + 2) 5 i0 (.int .u8 0) 1 Tryd.underlying61 hi0 hz0 hz1 hz2 rfl _ (L ++ leN 8 x).length _ rfl ho9 _ A9 8 c9 (cells8 (leN 8 y)) rfl hs9 (cells8_one _) (by unfold maxLen; omega) (by omega) h9.out.n4 ?_; intro v10 w10 hown hg)
        | fail)
      have hA := Lib.hid (h9.out.app (leN_length 8 y) hown hg)
      rw [← HSUC.out] at hA
      clear hown hg ho9 h9 hs9
      go_wp2
      go_roundw
      case rel => exact ⟨i + 1, hlt, by go_num, hA⟩
      case measure => simp [intOf]; omega
    · obtain rfl : i = keys.length := by omega
      have c2' : wr.cell? ⟨w.heap.size, 2, none⟩ = some (.slice A keys.length ck) := c2
      clear c2
      have hltI : ¬ (keys.length : Int) < (keys.length : Int) := by omega
      obtain ⟨AL, cL, hV, _⟩ := own_form4 HR.out.own
      subst hV
      have hsm := rsummed_any wr AL cL L (Shows.owned HR.out.own) (by omega)
      rw [HALL.out rfl] at hsm
      have him : summed (padB (bodyB no ⟨(kind : Int), birth, keys, vals⟩)) = img no ⟨(kind : Int), birth, keys, vals⟩ := rfl
      rw [him, ← HALL.out rfl] at hsm
      have HSM := Lib.hid hsm
      have hil := img_length no ⟨(kind : Int), birth, keys, vals⟩ h6
      have HIL : Hid ((cells8 (img no ⟨(kind : Int), birth, keys, vals⟩)).toArray.size = 256) := (cells8_size _).trans hil
      have hrs := HR.out.res
      rw [HZ.out] at hrs
      have HRS := Lib.hid hrs
      have HBL := Lib.hid HR.out.bel
      clear hsm him hil hrs HR HALL HSUC
      generalize hI : img no ⟨(kind : Int), birth, keys, vals⟩ = I at *
      have HI := Lib.hid hI
      clear hI
      go_wp2_with fail
      refine HSM.out.mono ?_
      rintro e w11 ⟨rfl, hb⟩
      have HR2 := Lib.hid (HRS.out.below hb)
      have HB2 := Lib.hid (HBL.out.trans (hb.mono HBL.out.size))
      clear hb HSM
      go_wp2_with (first
        | refine wpList_store_row rfl 29 (.tmp 4) (.tmp 49) rfl (w.heap.size + 1) (cells8 I).toArray rfl rfl 29 (cells8 z).toArray HR2.out (by rw [blk_size, HIL.out]) (by rw [HCS.out, HIL.out]) (cells8_all _) ?_
        | fail)
      exact bodyPost_ret (results_cell_row rfl _ _ (w.heap.size + 1) 29 (cells8 I).toArray (0, 0) _ rfl (HR2.out.row I) Tryd.underlying29 rfl (by rw [blk_size, HIL.out])) rfl ⟨by rw [HI.out], below_setRow HB2.out (by simp) _⟩
theorem rblock_any (w : World) (no : Nat) (hno : no < 4294967296) (n : ND) (hm : mayB n = true) (hf : n.fits) (A A' : Option Addr) (ck cv : Nat) (hs : Shows w w.heap.size A n.keys.length (nums64 n.keys)) (hv : Shows w w.heap.size A' n.vals.length (nums64 n.vals)) :
    Calls Tryd.prog 13 #[.int .u32 no, .agg #[.int .i64 n.kind, .int .u64 (n.birth : Int), .slice A n.keys.length ck, .slice A' n.vals.length cv]] w fun e w' => e = .returned (.agg (cells8 (img no n)).toArray) ∧ Below w.heap.size w w' := by
  obtain ⟨kind, birth, keys, vals⟩ := n
  obtain ⟨h1, h2, h3, _⟩ := mayB_yes hm
  simp only at h1 h2 h3 hs hv
  obtain ⟨k, rfl⟩ := Int.eq_ofNat_of_zero_le (show 0 ≤ kind by omega)
  exact rblock_okn w no hno k birth hf.1 keys vals (by omega) h2 h3 (getD_fits hf.2.1) (getD_fits hf.2.2) A A' ck cv hs hv
end Go.Proofs.YtdcfplfeagpcdaaDoor
