/- The walk of the law CommandOps, on: up to the loop. -/
import Derived.Test.YtpkbkliblbbdcaaCw
set_option linter.unusedVariables false
namespace Go.Proofs.Ytpkbkliblbbdcaa
open Go.RowKit
set_option maxRecDepth 20000

/-- the two operations' boxes -/
structure TB (w wr : World) (o p : OP) (A A2 : Option Addr) (cap cap2 : Nat) : Prop where
  bo : Box wr w.heap.size o A cap
  bp : Box wr (w.heap.size + 1) p A2 cap2
  bel : Below w.heap.size w wr
theorem TB.on {w wr w' : World} {o p : OP} {A A2 : Option Addr} {cap cap2 : Nat} (h : TB w wr o p A A2 cap cap2) (hb : Below wr.heap.size wr w') : TB w w' o p A A2 cap cap2 :=
  ⟨h.bo.below hb (Array.getElem?_eq_some_iff.1 h.bo).1, h.bp.below hb (Array.getElem?_eq_some_iff.1 h.bp).1, h.bel.trans (hb.mono h.bel.size)⟩
theorem TB.new (w : World) (o p : OP) (A A2 : Option Addr) (cap cap2 : Nat) : TB w ((w.alloc (.cells #[.int .i64 o.k, .int .u64 (o.v : Int), .int .u64 (o.t : Int), .int .i64 o.s, .int .i64 o.a, .int .i64 o.c, .slice A o.d.length cap] 26)).alloc (.cells #[.int .i64 p.k, .int .u64 (p.v : Int), .int .u64 (p.t : Int), .int .i64 p.s, .int .i64 p.a, .int .i64 p.c, .slice A2 p.d.length cap2] 26)) o p A A2 cap cap2 := by
  refine ⟨(Below.heap_alloc _ _ _ (by simp)).trans (heap_alloc_new _ _), ?_, below2 _ _ _⟩
  have h := heap_alloc_new (w.alloc (.cells #[.int .i64 o.k, .int .u64 (o.v : Int), .int .u64 (o.t : Int), .int .i64 o.s, .int .i64 o.a, .int .i64 o.c, .slice A o.d.length cap] 26)) (.cells #[.int .i64 p.k, .int .u64 (p.v : Int), .int .u64 (p.t : Int), .int .i64 p.s, .int .i64 p.a, .int .i64 p.c, .slice A2 p.d.length cap2] 26)
  rw [World.size_alloc] at h
  exact h

set_option maxHeartbeats 8000000 in
theorem ops_main (k : Int) (v t : Nat) (s a c : Int) (d : List UInt8) (A : Option Addr) (cap : Nat) (k2 : Int) (v2 t2 : Nat) (s2 a2 c2 : Int) (d2 : List UInt8) (A2 : Option Addr) (cap2 : Nat) (w : World) (hf : OP.fit ⟨k, v, t, s, a, c, d⟩) (hd : d.length ≤ 9000) (hcap : d.length ≤ cap) (hcm : cap ≤ 9223372036854775807) (hs : Shows w w.heap.size A d.length (cells8 d)) (hd2 : d2.length ≤ 9000) (hcap2 : d2.length ≤ cap2) (hs2 : Shows w w.heap.size A2 d2.length (cells8 d2)) (m : Bool) (hm : mayO ⟨k, v, t, s, a, c, d⟩ = m) :
    Calls Try.prog 3 #[.agg #[.int .i64 k, .int .u64 (v : Int), .int .u64 (t : Int), .int .i64 s, .int .i64 a, .int .i64 c, .slice A d.length cap], .agg #[.int .i64 k2, .int .u64 (v2 : Int), .int .u64 (t2 : Int), .int .i64 s2, .int .i64 a2, .int .i64 c2, .slice A2 d2.length cap2]] w fun e w' => e = .returned (.bool true) ∧ Below w.heap.size w w' := by
  obtain ⟨i0, hi, hz0, hz1, hz2⟩ := info_parts u8_info
  have HM1 := Lib.hid (much_any k v t s a c d A cap)
  have HM2 := Lib.hid (much_any k2 v2 t2 s2 a2 c2 d2 A2 cap2)
  rw [dec_f (by omega)] at HM1 HM2
  have hv := hf.1
  have ht := hf.2.1
  have HBY0 := fun W hS => bytesO_any k v t s a c d A cap W hv ht (by omega) hcap hS
  rw [hm] at HBY0
  have HRM0 := fun W => rmayO_any k v t s a c d A cap W (by omega)
  rw [← may_same _ hf, hm] at HRM0
  have HMA0 := fun W hS => mayO_any k v t s a c d A cap W hv ht (by omega) hcap hS
  rw [hm] at HMA0
  have HBY := Lib.hid HBY0
  have HRM := Lib.hid HRM0
  have HMA := Lib.hid HMA0
  have HPA := Lib.hid (fun (W : World) hS (h : mayO ⟨k, v, t, s, a, c, d⟩ = true) l hl => rpackO_any k v t s a c d A cap W hv ht (by omega) hcap hcm hS h l hl)
  have HPS := Lib.hid (fun (h : mayO ⟨k, v, t, s, a, c, d⟩ = true) => packO_some h (show d.length ≤ 16777216 by omega))
  have HCO := Lib.hid (fun AX cx W hS => copyO_any k v t s a c d AX cx W (by omega) hS)
  have HCH := Lib.hid (changes_any k v t s a c d A cap)
  have HS := Lib.hid hs
  have HS2 := Lib.hid hs2
  have HT0 := Lib.hid (TB.new w ⟨k, v, t, s, a, c, d⟩ ⟨k2, v2, t2, s2, a2, c2, d2⟩ A A2 cap cap2)
  clear hs hs2 HBY0 HRM0 HMA0 hf hcm
  go_enter Try.func3, Try.ntmps3
  go_wp2_with fail
  refine (HM1.out _).mono ?_
  rintro e w1 ⟨rfl, hb1⟩
  have HT1 := Lib.hid (HT0.out.on hb1)
  obtain ⟨l0, l1, l2, l3, l4, l5, l6⟩ := HT1.out.bp.cells
  clear hb1 HT0
  go_wp2_with fail
  refine (HM2.out _).mono ?_
  rintro e w2 ⟨rfl, hb2⟩
  have HT2 := Lib.hid (HT1.out.on hb2)
  clear l0 l1 l2 l3 l4 l5 l6 hb2 HT1
  obtain ⟨l0, l1, l2, l3, l4, l5, l6⟩ := HT2.out.bo.cells
  go_wp2_with fail
  refine (HBY.out _ ((HS.out.below HT2.out.bel).wide HT2.out.bel.size)).mono ?_
  intro e w3 hpk
  obtain ⟨Ab, nb, cb, rfl, HPB⟩ := hpk.bytes
  have HT3 := Lib.hid (HT2.out.on HPB.out.2.2)
  have hnb : nb = ((if m = true then packO ⟨k, v, t, s, a, c, d⟩ else none).getD []).length := HPB.out.1
  subst hnb
  have HSB : Hid (Shows w3 w3.heap.size Ab ((if m = true then packO ⟨k, v, t, s, a, c, d⟩ else none).getD []).length (cells8 ((if m = true then packO ⟨k, v, t, s, a, c, d⟩ else none).getD []))) := HPB.out.2.1
  clear l0 l1 l2 l3 l4 l5 l6 HT2 HPB hpk
  generalize hr : (if m = true then packO ⟨k, v, t, s, a, c, d⟩ else none) = r at *
  generalize hlb : r.getD [] = lb at *
  obtain ⟨l0, l1, l2, l3, l4, l5, l6⟩ := HT3.out.bo.cells
  go_wp2_with fail
  refine (HRM.out _).mono ?_
  rintro e w4 ⟨rfl, hb4⟩
  have HT4 := Lib.hid (HT3.out.on hb4)
  have HSB4 := Lib.hid (HSB.out.below hb4)
  have hsz4 := hb4.size
  clear l0 l1 l2 l3 l4 l5 l6 HT3 hb4 HSB
  obtain ⟨l0, l1, l2, l3, l4, l5, l6⟩ := HT4.out.bo.cells
  go_upto_region 6 with fail
  have HT5 := Lib.hid (HT4.out.on ((Below.refl w4.heap.size w4).alloc (Nat.le_refl _) (.cells #[.int .i64 k, .int .u64 (v : Int), .int .u64 (t : Int), .int .i64 s, .int .i64 a, .int .i64 c, .slice A d.length cap] 26)))
  have HB8 : Hid (Box (w4.alloc (.cells #[.int .i64 k, .int .u64 (v : Int), .int .u64 (t : Int), .int .i64 s, .int .i64 a, .int .i64 c, .slice A d.length cap] 26)) w4.heap.size ⟨k, v, t, s, a, c, d⟩ A cap) := heap_alloc_new _ _
  have HSB5 := Lib.hid (HSB4.out.below (((Below.refl w4.heap.size w4).alloc (Nat.le_refl _) (.cells #[.int .i64 k, .int .u64 (v : Int), .int .u64 (t : Int), .int .i64 s, .int .i64 a, .int .i64 c, .slice A d.length cap] 26)).mono hsz4))
  have hsz5 : w4.heap.size + 1 = (w4.alloc (.cells #[.int .i64 k, .int .u64 (v : Int), .int .u64 (t : Int), .int .i64 s, .int .i64 a, .int .i64 c, .slice A d.length cap] 26)).heap.size := by simp
  obtain ⟨W5, hW5⟩ : ∃ W5, w4.alloc (.cells #[.int .i64 k, .int .u64 (v : Int), .int .u64 (t : Int), .int .i64 s, .int .i64 a, .int .i64 c, .slice A d.length cap] 26) = W5 := ⟨_, rfl⟩
  rw [hW5] at HT5 HB8 HSB5 hsz5 ⊢
  generalize hg8 : w4.heap.size = g8 at *
  have hT8 : w.heap.size + 1 < g8 := by rw [← hg8]; exact (Array.getElem?_eq_some_iff.1 HT4.out.bp).1
  have HS5 := Lib.hid (HS.out.below HT5.out.bel)
  clear l0 l1 l2 l3 l4 l5 l6 hW5 hg8 HT4 HSB4
  obtain ⟨l0, l1, l2, l3, l4, l5, l6⟩ := HT5.out.bo.cells
  have hwl := HT5.out.bel.size
  go_wp2_with (first
    | (at_builtin; refine wpList_append_shows _ rfl _ _ 24 rfl (g8 + 1) 5 i0 _ 1 Try.underlying24 hi hz0 hz1 hz2 rfl _ 0 [] rfl (World.ownsRow_nil _ _ _ _) w.heap.size A d.length cap (cells8 d) rfl HS5.out (cells8_one _) (by unfold maxLen; omega) (by omega) (by omega) ?_; intro vo w6 hown hgr; obtain ⟨AO, cO, hvo, hso, hco⟩ := own_dw hown; subst hvo; have hb6 := hgr.below_from (Nat.le_refl W5.heap.size) (fun k hk => by cases hk); have HT6 := Lib.hid (HT5.out.on hb6); have HB86 := Lib.hid (HB8.out.below hb6 (by omega)); have HSO6 := Lib.hid hso; have HSB6 := Lib.hid (HSB5.out.below (hb6.mono (by omega))); have hsz6 := hb6.size; clear l0 l1 l2 l3 l4 l5 l6 HS5 hown hgr hso hb6; obtain ⟨l0, l1, l2, l3, l4, l5, l6⟩ := HB86.out.cells; have hf8 := frozen_of_row w6 g8 6 _ _ HB86.out)
    | fail)
  have e1 := setCell_eq_setRow w6 g8 6 _ _ _ (.slice AO d.length cO) HB86.out
  have hT8' := hT8
  have HT7 : Hid (TB w (w6.setCell ⟨g8, 6, none⟩ (.slice AO d.length cO)) ⟨k, v, t, s, a, c, d⟩ ⟨k2, v2, t2, s2, a2, c2, d2⟩ A A2 cap cap2) := by
    rw [e1]
    exact ⟨(setRow_other _ _ _ _ (by omega)).trans HT6.out.bo, (setRow_other _ _ _ _ (by omega)).trans HT6.out.bp, below_setRow HT6.out.bel (by omega) _⟩
  have HB87 : Hid (Box (w6.setCell ⟨g8, 6, none⟩ (.slice AO d.length cO)) g8 ⟨k, v, t, s, a, c, d⟩ AO cO) := by
    rw [e1]
    exact setRow_heap _ _ _ _ _ _ HB86.out
  have HSO7 : Hid ((w6.setCell ⟨g8, 6, none⟩ (.slice AO d.length cO)).ownsRow (g8 + 1) 5 1 (.slice AO d.length cO) d.length (cells8 d)) := by
    rw [e1]
    exact own_setRow HSO6.out (by omega) _
  have HSB7 : Hid (Shows (w6.setCell ⟨g8, 6, none⟩ (.slice AO d.length cO)) g8 Ab lb.length (cells8 lb)) := by
    rw [e1]
    exact (HSB6.out.wide (by omega)).below (below_setRow (Below.refl _ _) (Nat.le_refl _) _)
  obtain ⟨W7, hW7⟩ : ∃ W7, w6.setCell ⟨g8, 6, none⟩ (.slice AO d.length cO) = W7 := ⟨_, rfl⟩
  rw [hW7] at HT7 HB87 HSO7 HSB7 ⊢
  clear l0 l1 l2 l3 l4 l5 l6 hf8 e1 hW7 HT6 HB86 HSO6 HSB6
  refine (HCO.out AO cO W7 (Shows.owned HSO7.out)).mono ?_
  rintro e w8 ⟨AC, cC, rfl, hac, hb8⟩
  have hlt7 := (Array.getElem?_eq_some_iff.1 HB87.out).1
  have HI8 : Hid (OpsI w (w8.alloc (.cells #[.int .i64 k, .int .u64 (v : Int), .int .u64 (t : Int), .int .i64 s, .int .i64 a, .int .i64 c, .slice AC d.length cC] 26)) ⟨k, v, t, s, a, c, d⟩ ⟨k2, v2, t2, s2, a2, c2, d2⟩ A A2 cap cap2 g8 W7.heap.size w8.heap.size AO cO AC cC Ab lb d) := by
    have hb9 : Below W7.heap.size W7 (w8.alloc (.cells #[.int .i64 k, .int .u64 (v : Int), .int .u64 (t : Int), .int .i64 s, .int .i64 a, .int .i64 c, .slice AC d.length cC] 26)) := hb8.alloc hb8.size _
    have HT9 := HT7.out.on hb9
    exact ⟨HT9.bo, HT9.bp, HB87.out.below hb9 hlt7, heap_alloc_new _ _, HT9.bel, own_below HSO7.out hb9, fun k hk => (HSO7.out.lt k hk).2, (hac.out.alloc _), HSB7.out.below (hb9.mono (by omega)), hT8, hlt7, hb8.size⟩
  clear HT7 HB87 HSO7 HSB7 hac hb8
  go_wp2_with fail
  obtain ⟨W9, hW9⟩ : ∃ W9, w8.alloc (.cells #[.int .i64 k, .int .u64 (v : Int), .int .u64 (t : Int), .int .i64 s, .int .i64 a, .int .i64 c, .slice AC d.length cC] 26) = W9 := ⟨_, rfl⟩
  rw [hW9] at HI8 ⊢
  generalize W7.heap.size = H2 at *
  generalize w8.heap.size = g9 at *
  clear hW9
  go_loopw [10] (fun i wr => ∃ n : Nat, n ≤ d.length ∧ i = .int .i64 (n : Int) ∧ Hid (∃ L, OpsI w wr ⟨k, v, t, s, a, c, d⟩ ⟨k2, v2, t2, s2, a2, c2, d2⟩ A A2 cap cap2 g8 H2 g9 AO cO AC cC Ab lb L)) (fun i _ => d.length - (intOf i).toNat)
  case atStart => exact ⟨0, by omega, rfl, _, HI8.out⟩
  case round =>
    obtain ⟨n, hn, rfl, HR⟩ := hrel
    clear HI8
    by_cases hlt : n < d.length
    · obtain ⟨L, hL⟩ := HR.out
      have hltI : (n : Int) < (d.length : Int) := by omega
      obtain ⟨g, rfl⟩ := own_addr hL.own (show 0 < d.length by omega)
      have hkL : n < L.length := by have := hL.len; show n < L.length; rw [this]; exact hlt
      have hck : wr.cell? ⟨g, n, none⟩ = some (.int .u8 ((L[n]).toNat : Int)) := by
        rw [hL.own.cellAt n (show n < d.length * 1 by omega)]
        exact cells8_get L n hkL
      have hfz := hL.own.frozenAt n
      have HLD := Lib.hid (hL.on ((Below.refl _ wr).drew))
      have HSE := Lib.hid (HLD.out.set (i := n) (L[n] + 1))
      have hbs := byte_succ L[n]
      have hg8g := (hL.own.lt g rfl).1
      generalize L[n] + 1 = bb at HSE hbs
      generalize L[n] = bc at hck hbs
      have HBS := Lib.hid hbs
      have HL := Lib.hid hL
      obtain ⟨l0, l1, l2, l3, l4, l5, l6⟩ := hL.b8.cells
      clear hbs HR hL
      go_upto_region 11 with fail
      refine wp_region_noPanic ?_
      refine wp_region_held_drew (S := fun w' => Below (g8 + 1) wr w') (by kernel_rfl) ((Below.refl _ wr).drew) (fun hHeld => ?_)
      refine takeN (i := 0) (oi := _) (v := .pointer (some ⟨g8, 6, none⟩)) 39 rfl rfl (by kernel_rfl) (by kernel_rfl) (by kernel_rfl) (fun _ _ _ h => h) (Or.inl ⟨by rfl, fun w2 hSw => by (go_simp)⟩) hHeld ?_
      try simp only [Act.put, List.setIfInBounds_toArray, List.set_cons_zero, List.set_cons_succ]
      refine takeN (i := 1) (oi := _) (v := .slice (some ⟨g, 0, none⟩) d.length cO) 40 rfl rfl (by kernel_rfl) (by kernel_rfl) (by kernel_rfl) (fun _ _ _ h => h) (Or.inl ⟨by rfl, fun w2 hSw => by (obtain ⟨l0, l1, l2, l3, l4, l5, l6⟩ := (HL.out.b8.below hSw (by omega)).cells; go_simp)⟩) hHeld ?_
      try simp only [Act.put, List.setIfInBounds_toArray, List.set_cons_zero, List.set_cons_succ]
      refine takeN (i := 2) (oi := _) (v := .int .i64 (n : Int)) 41 rfl rfl (by kernel_rfl) (by kernel_rfl) (by kernel_rfl) (fun _ _ _ h => h) (Or.inl ⟨by rfl, fun w2 hSw => by (go_simp)⟩) hHeld ?_
      try simp only [Act.put, List.setIfInBounds_toArray, List.set_cons_zero, List.set_cons_succ]
      refine takeN (i := 3) (oi := _) (v := .pointer (some ⟨g8, 6, none⟩)) 42 rfl rfl (by kernel_rfl) (by kernel_rfl) (by kernel_rfl) (fun _ _ _ h => h) (Or.inl ⟨by rfl, fun w2 hSw => by (go_simp)⟩) hHeld ?_
      try simp only [Act.put, List.setIfInBounds_toArray, List.set_cons_zero, List.set_cons_succ]
      refine takeN (i := 4) (oi := _) (v := .slice (some ⟨g, 0, none⟩) d.length cO) 43 rfl rfl (by kernel_rfl) (by kernel_rfl) (by kernel_rfl) (fun _ _ _ h => h) (Or.inl ⟨by rfl, fun w2 hSw => by (obtain ⟨l0, l1, l2, l3, l4, l5, l6⟩ := (HL.out.b8.below hSw (by omega)).cells; go_simp)⟩) hHeld ?_
      try simp only [Act.put, List.setIfInBounds_toArray, List.set_cons_zero, List.set_cons_succ]
      refine takeN (i := 5) (oi := _) (v := .int .i64 (n : Int)) 44 rfl rfl (by kernel_rfl) (by kernel_rfl) (by kernel_rfl) (fun _ _ _ h => h) (Or.inl ⟨by rfl, fun w2 hSw => by (go_simp)⟩) hHeld ?_
      try simp only [Act.put, List.setIfInBounds_toArray, List.set_cons_zero, List.set_cons_succ]
      refine takeN (i := 6) (oi := _) (v := .pointer (some ⟨g, n, none⟩)) 45 rfl rfl (by kernel_rfl) (by kernel_rfl) (by kernel_rfl) (fun _ _ _ h => h) (Or.inl ⟨by rfl, fun w2 hSw => by (go_simp)⟩) hHeld ?_
      try simp only [Act.put, List.setIfInBounds_toArray, List.set_cons_zero, List.set_cons_succ]
      refine wpAnyH_ready (rs := [7]) (by kernel_rfl) (by simp) ?_
      refine AllReadyH.cons rfl (fun K hK => ?_) AllReadyH.nil
      go_simp
      refine hK.out _ _ hHeld (fun hHeld => ?_)
      clear hK K
      try simp only [Act.put, List.setIfInBounds_toArray, List.set_cons_zero, List.set_cons_succ]
      refine takeN (i := 8) (oi := _) (v := .int .u8 (bb.toNat : Int)) 47 rfl rfl (by kernel_rfl) (by kernel_rfl) (by kernel_rfl) (fun _ _ _ h => h) (Or.inl ⟨by rfl, fun w2 hSw => by (have h9 := HBS.out; go_simp; first | done | exact congrArg _ (congrArg _ h9) | simpa using h9)⟩) hHeld ?_
      try simp only [Act.put, List.setIfInBounds_toArray, List.set_cons_zero, List.set_cons_succ]
      refine takeN (i := 9) (oi := _) (v := .pointer (some ⟨g, n, none⟩)) 48 rfl rfl (by kernel_rfl) (by kernel_rfl) (by kernel_rfl) (fun _ _ _ h => h) (Or.inl ⟨by rfl, fun w2 hSw => by (go_simp)⟩) hHeld ?_
      try simp only [Act.put, List.setIfInBounds_toArray, List.set_cons_zero, List.set_cons_succ]
      refine wpAnyH_ready (rs := [10]) (by kernel_rfl) (by simp) ?_
      refine AllReadyH.cons rfl (fun K hK => ?_) AllReadyH.nil
      go_simp
      refine hK.out _ _ ((Below.refl _ wr).drew.setCell (p := ⟨g, n, none⟩) hg8g _) (fun hHeld => ?_)
      clear hK K
      try simp only [Act.put, List.setIfInBounds_toArray, List.set_cons_zero, List.set_cons_succ]
      refine wpAnyH_done (by kernel_rfl) ?_ _
      refine NoPanic.normal ?_
      go_wp2
      go_roundw
      case rel => exact ⟨n + 1, hlt, by go_num, _, HSE.out.out⟩
      case measure => simp [intOf]; omega
    · obtain rfl : n = d.length := by omega
      obtain ⟨L, hL⟩ := HR.out
      have HL := Lib.hid hL
      obtain ⟨l0, l1, l2, l3, l4, l5, l6⟩ := hL.b8.cells
      have hltI : ¬ (d.length : Int) < (d.length : Int) := by omega
      clear HR hL
      go_upto_region 12 with fail
      clear l0 l1 l2 l3 l4 l5 l6
      have HSA := Lib.hid (fun W (hb : Below wr.heap.size wr W) => same_any (k := k) (v := v) (t := t) (s := s) (a := a) (c := c) (k2 := k2) (v2 := v2) (t2 := t2) (s2 := s2) (a2 := a2) (c2 := c2) (cap := cap) (cap2 := cap2) ((HS.out.below (HL.out.on hb).bel).wide (HL.out.on hb).bel.size) ((HS2.out.below (HL.out.on hb).bel).wide (HL.out.on hb).bel.size))
      have HRS := Lib.hid (fun W (hb : Below wr.heap.size wr W) => rsame_any (k := k) (v := v) (t := t) (s := s) (a := a) (c := c) (k2 := k2) (v2 := v2) (t2 := t2) (s2 := s2) (a2 := a2) (c2 := c2) (cap := cap) (cap2 := cap2) ((HS.out.below (HL.out.on hb).bel).wide (HL.out.on hb).bel.size) ((HS2.out.below (HL.out.on hb).bel).wide (HL.out.on hb).bel.size))
      generalize decide ((⟨k, v, t, s, a, c, d⟩ : OP) = ⟨k2, v2, t2, s2, a2, c2, d2⟩) = q at *
      have hoo : decide ((⟨k, v, t, s, a, c, d⟩ : OP) = ⟨k, v, t, s, a, c, d⟩) = true := decide_eq_true rfl
      have HSO0 := fun W (hb : Below wr.heap.size wr W) => same_any (k := k) (v := v) (t := t) (s := s) (a := a) (c := c) (k2 := k) (v2 := v) (t2 := t) (s2 := s) (a2 := a) (c2 := c) (cap := cap) (cap2 := cap) ((HS.out.below (HL.out.on hb).bel).wide (HL.out.on hb).bel.size) ((HS.out.below (HL.out.on hb).bel).wide (HL.out.on hb).bel.size)
      have HRO0 := fun W (hb : Below wr.heap.size wr W) => rsame_any (k := k) (v := v) (t := t) (s := s) (a := a) (c := c) (k2 := k) (v2 := v) (t2 := t) (s2 := s) (a2 := a) (c2 := c) (d := d) (d2 := d) (cap := cC) (cap2 := cap) (Shows.owned (HL.out.on hb).crow) ((HS.out.below (HL.out.on hb).bel).wide (HL.out.on hb).bel.size)
      rw [hoo] at HSO0 HRO0
      have HSO := Lib.hid HSO0
      have HRO := Lib.hid HRO0
      have HMY := Lib.hid (fun W (hb : Below wr.heap.size wr W) => HMA.out W ((HS.out.below (HL.out.on hb).bel).wide (HL.out.on hb).bel.size))
      clear HSO0 HRO0 hoo

      by_cases h8 : k = 8
      · have n8 : (k != 8) = false := by rw [bne_eq_false_iff_eq]; exact h8
        have HCH2 : Hid (∀ W, Calls Try.prog 16 #[.agg #[.int .i64 k, .int .u64 (v : Int), .int .u64 (t : Int), .int .i64 s, .int .i64 a, .int .i64 c, .slice A d.length cap]] W fun e w' => e = .returned (.bool false) ∧ Below W.heap.size W w') := by
          have h := HCH.out
          rw [dec_t h8] at h
          exact h
        clear h8
        refine wp_region_noPanic ?_
        refine wp_region_held_drew (S := fun w' => Below wr.heap.size wr w') (by kernel_rfl) ((Below.refl _ wr).drew) (fun hHeld => ?_)
        refine takeN (i := 0) (oi := _) (v := .agg #[.int .i64 k, .int .u64 (v : Int), .int .u64 (t : Int), .int .i64 s, .int .i64 a, .int .i64 c, .slice A d.length cap]) 49 rfl rfl (by kernel_rfl) (by kernel_rfl) (by kernel_rfl) (fun _ _ _ h => h) (Or.inl ⟨by rfl, fun w2 hSw => by (obtain ⟨l0, l1, l2, l3, l4, l5, l6⟩ := (HL.out.on hSw).bo.cells; go_simp)⟩) hHeld ?_
        try simp only [Act.put, List.setIfInBounds_toArray, List.set_cons_zero, List.set_cons_succ]
        refine takeN (i := 2) (oi := _) (v := .bool m) 51 rfl rfl (by kernel_rfl) (by kernel_rfl) (by kernel_rfl) (fun _ _ _ h => h) (Or.inl ⟨by rfl, fun w2 hSw => by (go_simp)⟩) hHeld ?_
        try simp only [Act.put, List.setIfInBounds_toArray, List.set_cons_zero, List.set_cons_succ]
        refine wpAnyH_ready (rs := [1]) (by kernel_rfl) (by simp) ?_
        refine AllReadyH.cons rfl (fun K hK => ?_) AllReadyH.nil
        go_simp
        go_wp2_with (first | (go_at_call 13; (with_reducible refine (HMY.out _ hHeld).mono ?_); rintro e wq ⟨rfl, hq⟩) | fail)
        have hBQ := hHeld.trans (hq.mono hHeld.size)
        have HBQ := Lib.hid hBQ
        clear hq hBQ
        refine hK.out _ _ HBQ.out (fun hHeld => ?_)
        clear hK K
        try simp only [Act.put, List.setIfInBounds_toArray, List.set_cons_zero, List.set_cons_succ]
        refine takeN (i := 3) (oi := _) (v := .bool false) 52 rfl rfl (by kernel_rfl) (by kernel_rfl) (by kernel_rfl) (fun _ _ _ h => h) (Or.inl ⟨by rfl, fun w2 hSw => by (go_simp; try simp)⟩) hHeld ?_
        try simp only [Act.put, List.setIfInBounds_toArray, List.set_cons_zero, List.set_cons_succ]
        refine takeN (i := 4) (oi := _) (v := .bool false) 53 rfl rfl (by kernel_rfl) (by kernel_rfl) (by kernel_rfl) (fun _ _ _ h => h) (Or.inl ⟨by rfl, fun w2 hSw => by (go_simp)⟩) hHeld ?_
        try simp only [Act.put, List.setIfInBounds_toArray, List.set_cons_zero, List.set_cons_succ]
        refine takeN (i := 5) (oi := _) (v := .agg #[.int .i64 k, .int .u64 (v : Int), .int .u64 (t : Int), .int .i64 s, .int .i64 a, .int .i64 c, .slice A d.length cap]) 54 rfl rfl (by kernel_rfl) (by kernel_rfl) (by kernel_rfl) (fun _ _ _ h => h) (Or.inl ⟨by rfl, fun w2 hSw => by (obtain ⟨l0, l1, l2, l3, l4, l5, l6⟩ := (HL.out.on hSw).bo.cells; go_simp)⟩) hHeld ?_
        try simp only [Act.put, List.setIfInBounds_toArray, List.set_cons_zero, List.set_cons_succ]
        refine takeN (i := 6) (oi := _) (v := .agg #[.int .i64 k2, .int .u64 (v2 : Int), .int .u64 (t2 : Int), .int .i64 s2, .int .i64 a2, .int .i64 c2, .slice A2 d2.length cap2]) 55 rfl rfl (by kernel_rfl) (by kernel_rfl) (by kernel_rfl) (fun _ _ _ h => h) (Or.inl ⟨by rfl, fun w2 hSw => by (obtain ⟨l0, l1, l2, l3, l4, l5, l6⟩ := (HL.out.on hSw).bp.cells; go_simp)⟩) hHeld ?_
        try simp only [Act.put, List.setIfInBounds_toArray, List.set_cons_zero, List.set_cons_succ]
        refine takeN (i := 8) (oi := _) (v := .agg #[.int .i64 k, .int .u64 (v : Int), .int .u64 (t : Int), .int .i64 s, .int .i64 a, .int .i64 c, .slice A d.length cap]) 57 rfl rfl (by kernel_rfl) (by kernel_rfl) (by kernel_rfl) (fun _ _ _ h => h) (Or.inl ⟨by rfl, fun w2 hSw => by (obtain ⟨l0, l1, l2, l3, l4, l5, l6⟩ := (HL.out.on hSw).bo.cells; go_simp)⟩) hHeld ?_
        try simp only [Act.put, List.setIfInBounds_toArray, List.set_cons_zero, List.set_cons_succ]
        refine takeN (i := 9) (oi := _) (v := .agg #[.int .i64 k2, .int .u64 (v2 : Int), .int .u64 (t2 : Int), .int .i64 s2, .int .i64 a2, .int .i64 c2, .slice A2 d2.length cap2]) 58 rfl rfl (by kernel_rfl) (by kernel_rfl) (by kernel_rfl) (fun _ _ _ h => h) (Or.inl ⟨by rfl, fun w2 hSw => by (obtain ⟨l0, l1, l2, l3, l4, l5, l6⟩ := (HL.out.on hSw).bp.cells; go_simp)⟩) hHeld ?_
        try simp only [Act.put, List.setIfInBounds_toArray, List.set_cons_zero, List.set_cons_succ]
        refine wpAnyH_ready (rs := [7]) (by kernel_rfl) (by simp) ?_
        refine AllReadyH.cons rfl (fun K hK => ?_) AllReadyH.nil
        go_simp
        go_wp2_with (first | (go_at_call 14; (with_reducible refine (HSA.out _ hHeld).mono ?_); rintro e wq ⟨rfl, hq⟩) | fail)
        have hBQ := hHeld.trans (hq.mono hHeld.size)
        have HBQ := Lib.hid hBQ
        clear hq hBQ
        refine hK.out _ _ HBQ.out (fun hHeld => ?_)
        clear hK K
        try simp only [Act.put, List.setIfInBounds_toArray, List.set_cons_zero, List.set_cons_succ]
        refine wpAnyH_ready (rs := [10]) (by kernel_rfl) (by simp) ?_
        refine AllReadyH.cons rfl (fun K hK => ?_) AllReadyH.nil
        go_simp
        go_wp2_with (first | (go_at_call 15; (with_reducible refine (HRS.out _ hHeld).mono ?_); rintro e wq ⟨rfl, hq⟩) | fail)
        have hBQ := hHeld.trans (hq.mono hHeld.size)
        have HBQ := Lib.hid hBQ
        clear hq hBQ
        refine hK.out _ _ HBQ.out (fun hHeld => ?_)
        clear hK K
        try simp only [Act.put, List.setIfInBounds_toArray, List.set_cons_zero, List.set_cons_succ]
        refine takeN (i := 11) (oi := _) (v := .bool false) 60 rfl rfl (by kernel_rfl) (by kernel_rfl) (by kernel_rfl) (fun _ _ _ h => h) (Or.inl ⟨by rfl, fun w2 hSw => by (go_simp; try simp)⟩) hHeld ?_
        try simp only [Act.put, List.setIfInBounds_toArray, List.set_cons_zero, List.set_cons_succ]
        refine takeN (i := 12) (oi := _) (v := .bool false) 61 rfl rfl (by kernel_rfl) (by kernel_rfl) (by kernel_rfl) (fun _ _ _ h => h) (Or.inl ⟨by rfl, fun w2 hSw => by (go_simp)⟩) hHeld ?_
        try simp only [Act.put, List.setIfInBounds_toArray, List.set_cons_zero, List.set_cons_succ]
        refine takeN (i := 13) (oi := _) (v := .bool false) 62 rfl rfl (by kernel_rfl) (by kernel_rfl) (by kernel_rfl) (fun _ _ _ h => h) (Or.inl ⟨by rfl, fun w2 hSw => by (go_simp)⟩) hHeld ?_
        try simp only [Act.put, List.setIfInBounds_toArray, List.set_cons_zero, List.set_cons_succ]
        refine takeN (i := 14) (oi := _) (v := .agg #[.int .i64 k, .int .u64 (v : Int), .int .u64 (t : Int), .int .i64 s, .int .i64 a, .int .i64 c, .slice A d.length cap]) 63 rfl rfl (by kernel_rfl) (by kernel_rfl) (by kernel_rfl) (fun _ _ _ h => h) (Or.inl ⟨by rfl, fun w2 hSw => by (obtain ⟨l0, l1, l2, l3, l4, l5, l6⟩ := (HL.out.on hSw).bo.cells; go_simp)⟩) hHeld ?_
        try simp only [Act.put, List.setIfInBounds_toArray, List.set_cons_zero, List.set_cons_succ]
        refine takeN (i := 15) (oi := _) (v := .agg #[.int .i64 k, .int .u64 (v : Int), .int .u64 (t : Int), .int .i64 s, .int .i64 a, .int .i64 c, .slice A d.length cap]) 64 rfl rfl (by kernel_rfl) (by kernel_rfl) (by kernel_rfl) (fun _ _ _ h => h) (Or.inl ⟨by rfl, fun w2 hSw => by (obtain ⟨l0, l1, l2, l3, l4, l5, l6⟩ := (HL.out.on hSw).bo.cells; go_simp)⟩) hHeld ?_
        try simp only [Act.put, List.setIfInBounds_toArray, List.set_cons_zero, List.set_cons_succ]
        refine wpAnyH_ready (rs := [16]) (by kernel_rfl) (by simp) ?_
        refine AllReadyH.cons rfl (fun K hK => ?_) AllReadyH.nil
        go_simp
        go_wp2_with (first | (go_at_call 14; (with_reducible refine (HSO.out _ hHeld).mono ?_); rintro e wq ⟨rfl, hq⟩) | fail)
        have hBQ := hHeld.trans (hq.mono hHeld.size)
        have HBQ := Lib.hid hBQ
        clear hq hBQ
        refine hK.out _ _ HBQ.out (fun hHeld => ?_)
        clear hK K
        try simp only [Act.put, List.setIfInBounds_toArray, List.set_cons_zero, List.set_cons_succ]
        refine takeN (i := 17) (oi := _) (v := .bool false) 66 rfl rfl (by kernel_rfl) (by kernel_rfl) (by kernel_rfl) (fun _ _ _ h => h) (Or.inl ⟨by rfl, fun w2 hSw => by (go_simp)⟩) hHeld ?_
        try simp only [Act.put, List.setIfInBounds_toArray, List.set_cons_zero, List.set_cons_succ]
        refine takeN (i := 18) (oi := _) (v := .bool false) 67 rfl rfl (by kernel_rfl) (by kernel_rfl) (by kernel_rfl) (fun _ _ _ h => h) (Or.inl ⟨by rfl, fun w2 hSw => by (go_simp)⟩) hHeld ?_
        try simp only [Act.put, List.setIfInBounds_toArray, List.set_cons_zero, List.set_cons_succ]
        refine takeN (i := 19) (oi := _) (v := .bool false) 68 rfl rfl (by kernel_rfl) (by kernel_rfl) (by kernel_rfl) (fun _ _ _ h => h) (Or.inl ⟨by rfl, fun w2 hSw => by (go_simp)⟩) hHeld ?_
        try simp only [Act.put, List.setIfInBounds_toArray, List.set_cons_zero, List.set_cons_succ]
        refine takeN (i := 20) (oi := _) (v := .agg #[.int .i64 k, .int .u64 (v : Int), .int .u64 (t : Int), .int .i64 s, .int .i64 a, .int .i64 c, .slice AC d.length cC]) 69 rfl rfl (by kernel_rfl) (by kernel_rfl) (by kernel_rfl) (fun _ _ _ h => h) (Or.inl ⟨by rfl, fun w2 hSw => by (obtain ⟨l0, l1, l2, l3, l4, l5, l6⟩ := (HL.out.on hSw).b9.cells; go_simp)⟩) hHeld ?_
        try simp only [Act.put, List.setIfInBounds_toArray, List.set_cons_zero, List.set_cons_succ]
        refine takeN (i := 21) (oi := _) (v := .agg #[.int .i64 k, .int .u64 (v : Int), .int .u64 (t : Int), .int .i64 s, .int .i64 a, .int .i64 c, .slice A d.length cap]) 70 rfl rfl (by kernel_rfl) (by kernel_rfl) (by kernel_rfl) (fun _ _ _ h => h) (Or.inl ⟨by rfl, fun w2 hSw => by (obtain ⟨l0, l1, l2, l3, l4, l5, l6⟩ := (HL.out.on hSw).bo.cells; go_simp)⟩) hHeld ?_
        try simp only [Act.put, List.setIfInBounds_toArray, List.set_cons_zero, List.set_cons_succ]
        refine wpAnyH_ready (rs := [22]) (by kernel_rfl) (by simp) ?_
        refine AllReadyH.cons rfl (fun K hK => ?_) AllReadyH.nil
        go_simp
        go_wp2_with (first | (go_at_call 15; (with_reducible refine (HRO.out _ hHeld).mono ?_); rintro e wq ⟨rfl, hq⟩) | fail)
        have hBQ := hHeld.trans (hq.mono hHeld.size)
        have HBQ := Lib.hid hBQ
        clear hq hBQ
        refine hK.out _ _ HBQ.out (fun hHeld => ?_)
        clear hK K
        try simp only [Act.put, List.setIfInBounds_toArray, List.set_cons_zero, List.set_cons_succ]
        refine takeN (i := 23) (oi := _) (v := .bool false) 72 rfl rfl (by kernel_rfl) (by kernel_rfl) (by kernel_rfl) (fun _ _ _ h => h) (Or.inl ⟨by rfl, fun w2 hSw => by (go_simp)⟩) hHeld ?_
        try simp only [Act.put, List.setIfInBounds_toArray, List.set_cons_zero, List.set_cons_succ]
        refine takeN (i := 24) (oi := _) (v := .bool false) 73 rfl rfl (by kernel_rfl) (by kernel_rfl) (by kernel_rfl) (fun _ _ _ h => h) (Or.inl ⟨by rfl, fun w2 hSw => by (go_simp)⟩) hHeld ?_
        try simp only [Act.put, List.setIfInBounds_toArray, List.set_cons_zero, List.set_cons_succ]
        refine takeN (i := 25) (oi := _) (v := .bool false) 74 rfl rfl (by kernel_rfl) (by kernel_rfl) (by kernel_rfl) (fun _ _ _ h => h) (Or.inl ⟨by rfl, fun w2 hSw => by (go_simp)⟩) hHeld ?_
        try simp only [Act.put, List.setIfInBounds_toArray, List.set_cons_zero, List.set_cons_succ]
        refine takeN (i := 26) (oi := _) (v := .agg #[.int .i64 k, .int .u64 (v : Int), .int .u64 (t : Int), .int .i64 s, .int .i64 a, .int .i64 c, .slice A d.length cap]) 75 rfl rfl (by kernel_rfl) (by kernel_rfl) (by kernel_rfl) (fun _ _ _ h => h) (Or.inl ⟨by rfl, fun w2 hSw => by (obtain ⟨l0, l1, l2, l3, l4, l5, l6⟩ := (HL.out.on hSw).bo.cells; go_simp)⟩) hHeld ?_
        try simp only [Act.put, List.setIfInBounds_toArray, List.set_cons_zero, List.set_cons_succ]
        refine takeN (i := 28) (oi := _) (v := .pointer (some ⟨w.heap.size, 0, none⟩)) 77 rfl rfl (by kernel_rfl) (by kernel_rfl) (by kernel_rfl) (fun _ _ _ h => h) (Or.inl ⟨by rfl, fun w2 hSw => by (go_simp)⟩) hHeld ?_
        try simp only [Act.put, List.setIfInBounds_toArray, List.set_cons_zero, List.set_cons_succ]
        refine takeN (i := 29) (oi := _) (v := .int .i64 k) 78 rfl rfl (by kernel_rfl) (by kernel_rfl) (by kernel_rfl) (fun _ _ _ h => h) (Or.inl ⟨by rfl, fun w2 hSw => by (obtain ⟨l0, l1, l2, l3, l4, l5, l6⟩ := (HL.out.on hSw).bo.cells; go_simp)⟩) hHeld ?_
        try simp only [Act.put, List.setIfInBounds_toArray, List.set_cons_zero, List.set_cons_succ]
        refine takeN (i := 30) (oi := _) (v := .bool false) 79 rfl rfl (by kernel_rfl) (by kernel_rfl) (by kernel_rfl) (fun _ _ _ h => h) (Or.inl ⟨by rfl, fun w2 hSw => by (go_simp)⟩) hHeld ?_
        try simp only [Act.put, List.setIfInBounds_toArray, List.set_cons_zero, List.set_cons_succ]
        refine wpAnyH_ready (rs := [27]) (by kernel_rfl) (by simp) ?_
        refine AllReadyH.cons rfl (fun K hK => ?_) AllReadyH.nil
        go_simp
        go_wp2_with (first | (go_at_call 16; (with_reducible refine (HCH2.out _).mono ?_); rintro e wq ⟨rfl, hq⟩) | fail)
        have hBQ := hHeld.trans (hq.mono hHeld.size)
        have HBQ := Lib.hid hBQ
        clear hq hBQ
        refine hK.out _ _ HBQ.out (fun hHeld => ?_)
        clear hK K
        try simp only [Act.put, List.setIfInBounds_toArray, List.set_cons_zero, List.set_cons_succ]
        refine takeN (i := 31) (oi := _) (v := .bool false) 80 rfl rfl (by kernel_rfl) (by kernel_rfl) (by kernel_rfl) (fun _ _ _ h => h) (Or.inl ⟨by rfl, fun w2 hSw => by (go_simp)⟩) hHeld ?_
        try simp only [Act.put, List.setIfInBounds_toArray, List.set_cons_zero, List.set_cons_succ]
        refine takeN (i := 32) (oi := _) (v := undef) 81 rfl rfl (by kernel_rfl) (by kernel_rfl) (by kernel_rfl) (fun _ _ _ h => h) (Or.inr ⟨by rfl, rfl⟩) hHeld ?_
        try simp only [Act.put, List.setIfInBounds_toArray, List.set_cons_zero, List.set_cons_succ]
        refine takeN (i := 33) (oi := _) (v := undef) 82 rfl rfl (by kernel_rfl) (by kernel_rfl) (by kernel_rfl) (fun _ _ _ h => h) (Or.inr ⟨by rfl, rfl⟩) hHeld ?_
        try simp only [Act.put, List.setIfInBounds_toArray, List.set_cons_zero, List.set_cons_succ]
        refine takeN (i := 34) (oi := _) (v := undef) 83 rfl rfl (by kernel_rfl) (by kernel_rfl) (by kernel_rfl) (fun _ _ _ h => h) (Or.inr ⟨by rfl, rfl⟩) hHeld ?_
        try simp only [Act.put, List.setIfInBounds_toArray, List.set_cons_zero, List.set_cons_succ]
        refine takeN (i := 35) (oi := _) (v := .bool false) 84 rfl rfl (by kernel_rfl) (by kernel_rfl) (by kernel_rfl) (fun _ _ _ h => h) (Or.inl ⟨by rfl, fun w2 hSw => by (go_simp)⟩) hHeld ?_
        try simp only [Act.put, List.setIfInBounds_toArray, List.set_cons_zero, List.set_cons_succ]
        refine takeN (i := 36) (oi := _) (v := .bool false) 85 rfl rfl (by kernel_rfl) (by kernel_rfl) (by kernel_rfl) (fun _ _ _ h => h) (Or.inl ⟨by rfl, fun w2 hSw => by (go_simp; try simp)⟩) hHeld ?_
        try simp only [Act.put, List.setIfInBounds_toArray, List.set_cons_zero, List.set_cons_succ]
        refine takeN (i := 37) (oi := _) (v := .bool false) 86 rfl rfl (by kernel_rfl) (by kernel_rfl) (by kernel_rfl) (fun _ _ _ h => h) (Or.inl ⟨by rfl, fun w2 hSw => by (go_simp)⟩) hHeld ?_
        try simp only [Act.put, List.setIfInBounds_toArray, List.set_cons_zero, List.set_cons_succ]
        refine wpAnyH_done (by kernel_rfl) ?_ _
        refine NoPanic.normal ?_
        have HIQ := Lib.hid (HL.out.on hHeld)
        cases m with
        | false =>
          obtain rfl : r = none := by rw [← hr]; rfl
          obtain rfl : lb = [] := by rw [← hlb]; rfl
          have hpe : packE none = 2 := rfl
          rw [hpe]
          clear hpe
          go_wp2_with (first
            | (go_at_call 17; refine (num_any _ _).mono ?_; rintro e w' ⟨rfl, rfl⟩)
            | (go_at_call 9; refine (known_any _).mono ?_; rintro e w12 ⟨rfl, hb12⟩)
            | fail)
          go_ret
          exact ⟨rfl, HIQ.out.bel.trans (hb12.mono HIQ.out.bel.size)⟩
        | true =>
          obtain ⟨l, hl, _⟩ := HPS.out hm
          obtain rfl : r = some l := by rw [← hr, if_pos rfl]; exact hl
          obtain rfl : lb = l := by rw [← hlb]; rfl
          have hpe : packE (some lb) = 0 := rfl
          rw [hpe]
          have HCV : Hid (∀ w', Below wq.heap.size wq w' → (convert 24 9 (.slice Ab lb.length cb)).run Try.prog w' = .ok (.string ⟨lb.toArray⟩) w') := fun w' hb => str_shows 24 9 5 Try.underlying24 Try.underlying5 Try.underlying9 (HIQ.out.on hb).sb
          have HPK : Hid (∀ w', Below wq.heap.size wq w' → Calls Try.prog 18 #[.agg #[.int .i64 k, .int .u64 (v : Int), .int .u64 (t : Int), .int .i64 s, .int .i64 a, .int .i64 c, .slice A d.length cap]] w' fun e w3 => ∃ AR cR, e = .returned (.slice AR lb.length cR) ∧ (convert 24 9 (.slice AR lb.length cR)).run Try.prog w3 = .ok (.string ⟨lb.toArray⟩) w3 ∧ Below w'.heap.size w' w3) := fun w' hb =>
            (HPA.out w' ((HS.out.below (HIQ.out.on hb).bel).wide (HIQ.out.on hb).bel.size) hm lb hl).mono fun e w3 ⟨AR, cR, he, hsh, hb3⟩ => ⟨AR, cR, he, str_shows 24 9 5 Try.underlying24 Try.underlying5 Try.underlying9 hsh, hb3⟩
          clear hpe hl hm hHeld
          go_upto_region 16 with fail
          refine wp_region_noPanic ?_
          refine wp_region_held_drew (S := fun w' => Below wq.heap.size wq w') (by kernel_rfl) ((Below.refl _ wq).drew) (fun hHeld => ?_)
          refine takeN (i := 0) (oi := _) (v := .slice Ab lb.length cb) 100 rfl rfl (by kernel_rfl) (by kernel_rfl) (by kernel_rfl) (fun _ _ _ h => h) (Or.inl ⟨by rfl, fun w2 hSw => by (go_simp)⟩) hHeld ?_
          try simp only [Act.put, List.setIfInBounds_toArray, List.set_cons_zero, List.set_cons_succ]
          refine takeN (i := 1) (oi := _) (v := .string ⟨lb.toArray⟩) 101 rfl rfl (by kernel_rfl) (by kernel_rfl) (by kernel_rfl) (fun _ _ _ h => h) (Or.inl ⟨by rfl, fun w2 hSw => by (have hcv := HCV.out w2 hSw; go_simp)⟩) hHeld ?_
          try simp only [Act.put, List.setIfInBounds_toArray, List.set_cons_zero, List.set_cons_succ]
          refine takeN (i := 2) (oi := _) (v := .agg #[.int .i64 k, .int .u64 (v : Int), .int .u64 (t : Int), .int .i64 s, .int .i64 a, .int .i64 c, .slice A d.length cap]) 102 rfl rfl (by kernel_rfl) (by kernel_rfl) (by kernel_rfl) (fun _ _ _ h => h) (Or.inl ⟨by rfl, fun w2 hSw => by (obtain ⟨l0, l1, l2, l3, l4, l5, l6⟩ := (HIQ.out.on hSw).bo.cells; go_simp)⟩) hHeld ?_
          try simp only [Act.put, List.setIfInBounds_toArray, List.set_cons_zero, List.set_cons_succ]
          refine wpAnyH_ready (rs := [3]) (by kernel_rfl) (by simp) ?_
          refine AllReadyH.cons rfl (fun K hK => ?_) AllReadyH.nil
          go_simp
          go_wp2_with (first | (go_at_call 18; (with_reducible refine (HPK.out _ hHeld).mono ?_); rintro e wp ⟨AR, cR, rfl, hcv, hbp⟩) | fail)
          have hBQ := hHeld.trans (hbp.mono hHeld.size)
          have HBQ := Lib.hid hBQ
          clear hbp hBQ
          refine hK.out _ _ HBQ.out (fun hHeld => ?_)
          clear hK K
          try simp only [Act.put, List.setIfInBounds_toArray, List.set_cons_zero, List.set_cons_succ]
          refine wpAnyH_ready (rs := [4]) (by kernel_rfl) (by simp) ?_
          refine AllReadyH.cons rfl (fun K hK => ?_) AllReadyH.nil
          go_simp
          refine hK.out _ _ hHeld (fun hHeld => ?_)
          clear hK K hcv
          try simp only [Act.put, List.setIfInBounds_toArray, List.set_cons_zero, List.set_cons_succ]
          refine takeN (i := 5) (oi := _) (v := .bool true) 105 rfl rfl (by kernel_rfl) (by kernel_rfl) (by kernel_rfl) (fun _ _ _ h => h) (Or.inl ⟨by rfl, fun w2 hSw => by (go_simp)⟩) hHeld ?_
          try simp only [Act.put, List.setIfInBounds_toArray, List.set_cons_zero, List.set_cons_succ]
          refine takeN (i := 6) (oi := _) (v := .bool true) 106 rfl rfl (by kernel_rfl) (by kernel_rfl) (by kernel_rfl) (fun _ _ _ h => h) (Or.inl ⟨by rfl, fun w2 hSw => by (go_simp)⟩) hHeld ?_
          try simp only [Act.put, List.setIfInBounds_toArray, List.set_cons_zero, List.set_cons_succ]
          refine takeN (i := 7) (oi := _) (v := .int .i64 0) 107 rfl rfl (by kernel_rfl) (by kernel_rfl) (by kernel_rfl) (fun _ _ _ h => h) (Or.inl ⟨by rfl, fun w2 hSw => by (go_simp)⟩) hHeld ?_
          try simp only [Act.put, List.setIfInBounds_toArray, List.set_cons_zero, List.set_cons_succ]
          refine wpAnyH_ready (rs := [8]) (by kernel_rfl) (by simp) ?_
          refine AllReadyH.cons rfl (fun K hK => ?_) AllReadyH.nil
          go_simp
          go_wp2_with (first | (go_at_call 17; refine (num_any _ _).mono ?_; rintro e w' ⟨rfl, rfl⟩) | fail)
          refine hK.out _ _ hHeld (fun hHeld => ?_)
          clear hK K
          try simp only [Act.put, List.setIfInBounds_toArray, List.set_cons_zero, List.set_cons_succ]
          refine takeN (i := 9) (oi := _) (v := .bool true) 109 rfl rfl (by kernel_rfl) (by kernel_rfl) (by kernel_rfl) (fun _ _ _ h => h) (Or.inl ⟨by rfl, fun w2 hSw => by (go_simp)⟩) hHeld ?_
          try simp only [Act.put, List.setIfInBounds_toArray, List.set_cons_zero, List.set_cons_succ]
          refine takeN (i := 10) (oi := _) (v := .bool true) 110 rfl rfl (by kernel_rfl) (by kernel_rfl) (by kernel_rfl) (fun _ _ _ h => h) (Or.inl ⟨by rfl, fun w2 hSw => by (go_simp)⟩) hHeld ?_
          try simp only [Act.put, List.setIfInBounds_toArray, List.set_cons_zero, List.set_cons_succ]
          refine takeN (i := 11) (oi := _) (v := .bool true) 111 rfl rfl (by kernel_rfl) (by kernel_rfl) (by kernel_rfl) (fun _ _ _ h => h) (Or.inl ⟨by rfl, fun w2 hSw => by (go_simp)⟩) hHeld ?_
          try simp only [Act.put, List.setIfInBounds_toArray, List.set_cons_zero, List.set_cons_succ]
          refine wpAnyH_ready (rs := [12]) (by kernel_rfl) (by simp) ?_
          refine AllReadyH.cons rfl (fun K hK => ?_) AllReadyH.nil
          go_simp
          go_wp2_with (first | (go_at_call 9; refine (known_any _).mono ?_; rintro e wk ⟨rfl, hbk⟩) | fail)
          have hBQ := hHeld.trans (hbk.mono hHeld.size)
          have HBQ := Lib.hid hBQ
          clear hbk hBQ
          refine hK.out _ _ HBQ.out (fun hHeld => ?_)
          clear hK K
          try simp only [Act.put, List.setIfInBounds_toArray, List.set_cons_zero, List.set_cons_succ]
          refine takeN (i := 13) (oi := _) (v := .bool true) 113 rfl rfl (by kernel_rfl) (by kernel_rfl) (by kernel_rfl) (fun _ _ _ h => h) (Or.inl ⟨by rfl, fun w2 hSw => by (go_simp)⟩) hHeld ?_
          try simp only [Act.put, List.setIfInBounds_toArray, List.set_cons_zero, List.set_cons_succ]
          refine takeN (i := 14) (oi := _) (v := .bool true) 4 rfl rfl (by kernel_rfl) (by kernel_rfl) (by kernel_rfl) (fun _ _ _ h => h) (Or.inl ⟨by rfl, fun w2 hSw => by (go_simp)⟩) hHeld ?_
          try simp only [Act.put, List.setIfInBounds_toArray, List.set_cons_zero, List.set_cons_succ]
          refine wpAnyH_done (by kernel_rfl) ?_ _
          refine NoPanic.normal ?_
          go_wp2
          go_ret
          exact ⟨rfl, HIQ.out.bel.trans (hHeld.mono HIQ.out.bel.size)⟩
      · have n8 : (k != 8) = true := by rw [bne_iff_ne]; exact h8
        have n9 : (k != 9) = !decide (k = 9) := by
          by_cases h9 : k = 9
          · rw [decide_eq_true h9, h9]; rfl
          · rw [decide_eq_false h9, Bool.not_false, bne_iff_ne]; exact h9
        have HCH2 : Hid (∀ W, Calls Try.prog 16 #[.agg #[.int .i64 k, .int .u64 (v : Int), .int .u64 (t : Int), .int .i64 s, .int .i64 a, .int .i64 c, .slice A d.length cap]] W fun e w' => e = .returned (.bool (!decide (k = 9))) ∧ Below W.heap.size W w') := by
          have h := HCH.out
          rw [dec_f h8, Bool.not_false] at h
          simp only [Bool.true_and] at h
          exact h
        generalize (!decide (k = 9)) = e9 at *
        clear h8
        refine wp_region_noPanic ?_
        refine wp_region_held_drew (S := fun w' => Below wr.heap.size wr w') (by kernel_rfl) ((Below.refl _ wr).drew) (fun hHeld => ?_)
        refine takeN (i := 0) (oi := _) (v := .agg #[.int .i64 k, .int .u64 (v : Int), .int .u64 (t : Int), .int .i64 s, .int .i64 a, .int .i64 c, .slice A d.length cap]) 49 rfl rfl (by kernel_rfl) (by kernel_rfl) (by kernel_rfl) (fun _ _ _ h => h) (Or.inl ⟨by rfl, fun w2 hSw => by (obtain ⟨l0, l1, l2, l3, l4, l5, l6⟩ := (HL.out.on hSw).bo.cells; go_simp)⟩) hHeld ?_
        try simp only [Act.put, List.setIfInBounds_toArray, List.set_cons_zero, List.set_cons_succ]
        refine takeN (i := 2) (oi := _) (v := .bool m) 51 rfl rfl (by kernel_rfl) (by kernel_rfl) (by kernel_rfl) (fun _ _ _ h => h) (Or.inl ⟨by rfl, fun w2 hSw => by (go_simp)⟩) hHeld ?_
        try simp only [Act.put, List.setIfInBounds_toArray, List.set_cons_zero, List.set_cons_succ]
        refine wpAnyH_ready (rs := [1]) (by kernel_rfl) (by simp) ?_
        refine AllReadyH.cons rfl (fun K hK => ?_) AllReadyH.nil
        go_simp
        go_wp2_with (first | (go_at_call 13; (with_reducible refine (HMY.out _ hHeld).mono ?_); rintro e wq ⟨rfl, hq⟩) | fail)
        have hBQ := hHeld.trans (hq.mono hHeld.size)
        have HBQ := Lib.hid hBQ
        clear hq hBQ
        refine hK.out _ _ HBQ.out (fun hHeld => ?_)
        clear hK K
        try simp only [Act.put, List.setIfInBounds_toArray, List.set_cons_zero, List.set_cons_succ]
        refine takeN (i := 3) (oi := _) (v := .bool false) 52 rfl rfl (by kernel_rfl) (by kernel_rfl) (by kernel_rfl) (fun _ _ _ h => h) (Or.inl ⟨by rfl, fun w2 hSw => by (go_simp; try simp)⟩) hHeld ?_
        try simp only [Act.put, List.setIfInBounds_toArray, List.set_cons_zero, List.set_cons_succ]
        refine takeN (i := 4) (oi := _) (v := .bool false) 53 rfl rfl (by kernel_rfl) (by kernel_rfl) (by kernel_rfl) (fun _ _ _ h => h) (Or.inl ⟨by rfl, fun w2 hSw => by (go_simp)⟩) hHeld ?_
        try simp only [Act.put, List.setIfInBounds_toArray, List.set_cons_zero, List.set_cons_succ]
        refine takeN (i := 5) (oi := _) (v := .agg #[.int .i64 k, .int .u64 (v : Int), .int .u64 (t : Int), .int .i64 s, .int .i64 a, .int .i64 c, .slice A d.length cap]) 54 rfl rfl (by kernel_rfl) (by kernel_rfl) (by kernel_rfl) (fun _ _ _ h => h) (Or.inl ⟨by rfl, fun w2 hSw => by (obtain ⟨l0, l1, l2, l3, l4, l5, l6⟩ := (HL.out.on hSw).bo.cells; go_simp)⟩) hHeld ?_
        try simp only [Act.put, List.setIfInBounds_toArray, List.set_cons_zero, List.set_cons_succ]
        refine takeN (i := 6) (oi := _) (v := .agg #[.int .i64 k2, .int .u64 (v2 : Int), .int .u64 (t2 : Int), .int .i64 s2, .int .i64 a2, .int .i64 c2, .slice A2 d2.length cap2]) 55 rfl rfl (by kernel_rfl) (by kernel_rfl) (by kernel_rfl) (fun _ _ _ h => h) (Or.inl ⟨by rfl, fun w2 hSw => by (obtain ⟨l0, l1, l2, l3, l4, l5, l6⟩ := (HL.out.on hSw).bp.cells; go_simp)⟩) hHeld ?_
        try simp only [Act.put, List.setIfInBounds_toArray, List.set_cons_zero, List.set_cons_succ]
        refine takeN (i := 8) (oi := _) (v := .agg #[.int .i64 k, .int .u64 (v : Int), .int .u64 (t : Int), .int .i64 s, .int .i64 a, .int .i64 c, .slice A d.length cap]) 57 rfl rfl (by kernel_rfl) (by kernel_rfl) (by kernel_rfl) (fun _ _ _ h => h) (Or.inl ⟨by rfl, fun w2 hSw => by (obtain ⟨l0, l1, l2, l3, l4, l5, l6⟩ := (HL.out.on hSw).bo.cells; go_simp)⟩) hHeld ?_
        try simp only [Act.put, List.setIfInBounds_toArray, List.set_cons_zero, List.set_cons_succ]
        refine takeN (i := 9) (oi := _) (v := .agg #[.int .i64 k2, .int .u64 (v2 : Int), .int .u64 (t2 : Int), .int .i64 s2, .int .i64 a2, .int .i64 c2, .slice A2 d2.length cap2]) 58 rfl rfl (by kernel_rfl) (by kernel_rfl) (by kernel_rfl) (fun _ _ _ h => h) (Or.inl ⟨by rfl, fun w2 hSw => by (obtain ⟨l0, l1, l2, l3, l4, l5, l6⟩ := (HL.out.on hSw).bp.cells; go_simp)⟩) hHeld ?_
        try simp only [Act.put, List.setIfInBounds_toArray, List.set_cons_zero, List.set_cons_succ]
        refine wpAnyH_ready (rs := [7]) (by kernel_rfl) (by simp) ?_
        refine AllReadyH.cons rfl (fun K hK => ?_) AllReadyH.nil
        go_simp
        go_wp2_with (first | (go_at_call 14; (with_reducible refine (HSA.out _ hHeld).mono ?_); rintro e wq ⟨rfl, hq⟩) | fail)
        have hBQ := hHeld.trans (hq.mono hHeld.size)
        have HBQ := Lib.hid hBQ
        clear hq hBQ
        refine hK.out _ _ HBQ.out (fun hHeld => ?_)
        clear hK K
        try simp only [Act.put, List.setIfInBounds_toArray, List.set_cons_zero, List.set_cons_succ]
        refine wpAnyH_ready (rs := [10]) (by kernel_rfl) (by simp) ?_
        refine AllReadyH.cons rfl (fun K hK => ?_) AllReadyH.nil
        go_simp
        go_wp2_with (first | (go_at_call 15; (with_reducible refine (HRS.out _ hHeld).mono ?_); rintro e wq ⟨rfl, hq⟩) | fail)
        have hBQ := hHeld.trans (hq.mono hHeld.size)
        have HBQ := Lib.hid hBQ
        clear hq hBQ
        refine hK.out _ _ HBQ.out (fun hHeld => ?_)
        clear hK K
        try simp only [Act.put, List.setIfInBounds_toArray, List.set_cons_zero, List.set_cons_succ]
        refine takeN (i := 11) (oi := _) (v := .bool false) 60 rfl rfl (by kernel_rfl) (by kernel_rfl) (by kernel_rfl) (fun _ _ _ h => h) (Or.inl ⟨by rfl, fun w2 hSw => by (go_simp; try simp)⟩) hHeld ?_
        try simp only [Act.put, List.setIfInBounds_toArray, List.set_cons_zero, List.set_cons_succ]
        refine takeN (i := 12) (oi := _) (v := .bool false) 61 rfl rfl (by kernel_rfl) (by kernel_rfl) (by kernel_rfl) (fun _ _ _ h => h) (Or.inl ⟨by rfl, fun w2 hSw => by (go_simp)⟩) hHeld ?_
        try simp only [Act.put, List.setIfInBounds_toArray, List.set_cons_zero, List.set_cons_succ]
        refine takeN (i := 13) (oi := _) (v := .bool false) 62 rfl rfl (by kernel_rfl) (by kernel_rfl) (by kernel_rfl) (fun _ _ _ h => h) (Or.inl ⟨by rfl, fun w2 hSw => by (go_simp)⟩) hHeld ?_
        try simp only [Act.put, List.setIfInBounds_toArray, List.set_cons_zero, List.set_cons_succ]
        refine takeN (i := 14) (oi := _) (v := .agg #[.int .i64 k, .int .u64 (v : Int), .int .u64 (t : Int), .int .i64 s, .int .i64 a, .int .i64 c, .slice A d.length cap]) 63 rfl rfl (by kernel_rfl) (by kernel_rfl) (by kernel_rfl) (fun _ _ _ h => h) (Or.inl ⟨by rfl, fun w2 hSw => by (obtain ⟨l0, l1, l2, l3, l4, l5, l6⟩ := (HL.out.on hSw).bo.cells; go_simp)⟩) hHeld ?_
        try simp only [Act.put, List.setIfInBounds_toArray, List.set_cons_zero, List.set_cons_succ]
        refine takeN (i := 15) (oi := _) (v := .agg #[.int .i64 k, .int .u64 (v : Int), .int .u64 (t : Int), .int .i64 s, .int .i64 a, .int .i64 c, .slice A d.length cap]) 64 rfl rfl (by kernel_rfl) (by kernel_rfl) (by kernel_rfl) (fun _ _ _ h => h) (Or.inl ⟨by rfl, fun w2 hSw => by (obtain ⟨l0, l1, l2, l3, l4, l5, l6⟩ := (HL.out.on hSw).bo.cells; go_simp)⟩) hHeld ?_
        try simp only [Act.put, List.setIfInBounds_toArray, List.set_cons_zero, List.set_cons_succ]
        refine wpAnyH_ready (rs := [16]) (by kernel_rfl) (by simp) ?_
        refine AllReadyH.cons rfl (fun K hK => ?_) AllReadyH.nil
        go_simp
        go_wp2_with (first | (go_at_call 14; (with_reducible refine (HSO.out _ hHeld).mono ?_); rintro e wq ⟨rfl, hq⟩) | fail)
        have hBQ := hHeld.trans (hq.mono hHeld.size)
        have HBQ := Lib.hid hBQ
        clear hq hBQ
        refine hK.out _ _ HBQ.out (fun hHeld => ?_)
        clear hK K
        try simp only [Act.put, List.setIfInBounds_toArray, List.set_cons_zero, List.set_cons_succ]
        refine takeN (i := 17) (oi := _) (v := .bool false) 66 rfl rfl (by kernel_rfl) (by kernel_rfl) (by kernel_rfl) (fun _ _ _ h => h) (Or.inl ⟨by rfl, fun w2 hSw => by (go_simp)⟩) hHeld ?_
        try simp only [Act.put, List.setIfInBounds_toArray, List.set_cons_zero, List.set_cons_succ]
        refine takeN (i := 18) (oi := _) (v := .bool false) 67 rfl rfl (by kernel_rfl) (by kernel_rfl) (by kernel_rfl) (fun _ _ _ h => h) (Or.inl ⟨by rfl, fun w2 hSw => by (go_simp)⟩) hHeld ?_
        try simp only [Act.put, List.setIfInBounds_toArray, List.set_cons_zero, List.set_cons_succ]
        refine takeN (i := 19) (oi := _) (v := .bool false) 68 rfl rfl (by kernel_rfl) (by kernel_rfl) (by kernel_rfl) (fun _ _ _ h => h) (Or.inl ⟨by rfl, fun w2 hSw => by (go_simp)⟩) hHeld ?_
        try simp only [Act.put, List.setIfInBounds_toArray, List.set_cons_zero, List.set_cons_succ]
        refine takeN (i := 20) (oi := _) (v := .agg #[.int .i64 k, .int .u64 (v : Int), .int .u64 (t : Int), .int .i64 s, .int .i64 a, .int .i64 c, .slice AC d.length cC]) 69 rfl rfl (by kernel_rfl) (by kernel_rfl) (by kernel_rfl) (fun _ _ _ h => h) (Or.inl ⟨by rfl, fun w2 hSw => by (obtain ⟨l0, l1, l2, l3, l4, l5, l6⟩ := (HL.out.on hSw).b9.cells; go_simp)⟩) hHeld ?_
        try simp only [Act.put, List.setIfInBounds_toArray, List.set_cons_zero, List.set_cons_succ]
        refine takeN (i := 21) (oi := _) (v := .agg #[.int .i64 k, .int .u64 (v : Int), .int .u64 (t : Int), .int .i64 s, .int .i64 a, .int .i64 c, .slice A d.length cap]) 70 rfl rfl (by kernel_rfl) (by kernel_rfl) (by kernel_rfl) (fun _ _ _ h => h) (Or.inl ⟨by rfl, fun w2 hSw => by (obtain ⟨l0, l1, l2, l3, l4, l5, l6⟩ := (HL.out.on hSw).bo.cells; go_simp)⟩) hHeld ?_
        try simp only [Act.put, List.setIfInBounds_toArray, List.set_cons_zero, List.set_cons_succ]
        refine wpAnyH_ready (rs := [22]) (by kernel_rfl) (by simp) ?_
        refine AllReadyH.cons rfl (fun K hK => ?_) AllReadyH.nil
        go_simp
        go_wp2_with (first | (go_at_call 15; (with_reducible refine (HRO.out _ hHeld).mono ?_); rintro e wq ⟨rfl, hq⟩) | fail)
        have hBQ := hHeld.trans (hq.mono hHeld.size)
        have HBQ := Lib.hid hBQ
        clear hq hBQ
        refine hK.out _ _ HBQ.out (fun hHeld => ?_)
        clear hK K
        try simp only [Act.put, List.setIfInBounds_toArray, List.set_cons_zero, List.set_cons_succ]
        refine takeN (i := 23) (oi := _) (v := .bool false) 72 rfl rfl (by kernel_rfl) (by kernel_rfl) (by kernel_rfl) (fun _ _ _ h => h) (Or.inl ⟨by rfl, fun w2 hSw => by (go_simp)⟩) hHeld ?_
        try simp only [Act.put, List.setIfInBounds_toArray, List.set_cons_zero, List.set_cons_succ]
        refine takeN (i := 24) (oi := _) (v := .bool false) 73 rfl rfl (by kernel_rfl) (by kernel_rfl) (by kernel_rfl) (fun _ _ _ h => h) (Or.inl ⟨by rfl, fun w2 hSw => by (go_simp)⟩) hHeld ?_
        try simp only [Act.put, List.setIfInBounds_toArray, List.set_cons_zero, List.set_cons_succ]
        refine takeN (i := 25) (oi := _) (v := .bool false) 74 rfl rfl (by kernel_rfl) (by kernel_rfl) (by kernel_rfl) (fun _ _ _ h => h) (Or.inl ⟨by rfl, fun w2 hSw => by (go_simp)⟩) hHeld ?_
        try simp only [Act.put, List.setIfInBounds_toArray, List.set_cons_zero, List.set_cons_succ]
        refine takeN (i := 26) (oi := _) (v := .agg #[.int .i64 k, .int .u64 (v : Int), .int .u64 (t : Int), .int .i64 s, .int .i64 a, .int .i64 c, .slice A d.length cap]) 75 rfl rfl (by kernel_rfl) (by kernel_rfl) (by kernel_rfl) (fun _ _ _ h => h) (Or.inl ⟨by rfl, fun w2 hSw => by (obtain ⟨l0, l1, l2, l3, l4, l5, l6⟩ := (HL.out.on hSw).bo.cells; go_simp)⟩) hHeld ?_
        try simp only [Act.put, List.setIfInBounds_toArray, List.set_cons_zero, List.set_cons_succ]
        refine takeN (i := 28) (oi := _) (v := .pointer (some ⟨w.heap.size, 0, none⟩)) 77 rfl rfl (by kernel_rfl) (by kernel_rfl) (by kernel_rfl) (fun _ _ _ h => h) (Or.inl ⟨by rfl, fun w2 hSw => by (go_simp)⟩) hHeld ?_
        try simp only [Act.put, List.setIfInBounds_toArray, List.set_cons_zero, List.set_cons_succ]
        refine takeN (i := 29) (oi := _) (v := .int .i64 k) 78 rfl rfl (by kernel_rfl) (by kernel_rfl) (by kernel_rfl) (fun _ _ _ h => h) (Or.inl ⟨by rfl, fun w2 hSw => by (obtain ⟨l0, l1, l2, l3, l4, l5, l6⟩ := (HL.out.on hSw).bo.cells; go_simp)⟩) hHeld ?_
        try simp only [Act.put, List.setIfInBounds_toArray, List.set_cons_zero, List.set_cons_succ]
        refine takeN (i := 30) (oi := _) (v := .bool true) 79 rfl rfl (by kernel_rfl) (by kernel_rfl) (by kernel_rfl) (fun _ _ _ h => h) (Or.inl ⟨by rfl, fun w2 hSw => by (go_simp)⟩) hHeld ?_
        try simp only [Act.put, List.setIfInBounds_toArray, List.set_cons_zero, List.set_cons_succ]
        refine wpAnyH_ready (rs := [27]) (by kernel_rfl) (by simp) ?_
        refine AllReadyH.cons rfl (fun K hK => ?_) AllReadyH.nil
        go_simp
        go_wp2_with (first | (go_at_call 16; (with_reducible refine (HCH2.out _).mono ?_); rintro e wq ⟨rfl, hq⟩) | fail)
        have hBQ := hHeld.trans (hq.mono hHeld.size)
        have HBQ := Lib.hid hBQ
        clear hq hBQ
        refine hK.out _ _ HBQ.out (fun hHeld => ?_)
        clear hK K
        try simp only [Act.put, List.setIfInBounds_toArray, List.set_cons_zero, List.set_cons_succ]
        refine takeN (i := 31) (oi := _) (v := .bool true) 80 rfl rfl (by kernel_rfl) (by kernel_rfl) (by kernel_rfl) (fun _ _ _ h => h) (Or.inl ⟨by rfl, fun w2 hSw => by (go_simp)⟩) hHeld ?_
        try simp only [Act.put, List.setIfInBounds_toArray, List.set_cons_zero, List.set_cons_succ]
        refine takeN (i := 32) (oi := _) (v := .pointer (some ⟨w.heap.size, 0, none⟩)) 81 rfl rfl (by kernel_rfl) (by kernel_rfl) (by kernel_rfl) (fun _ _ _ h => h) (Or.inl ⟨by rfl, fun w2 hSw => by (go_simp)⟩) hHeld ?_
        try simp only [Act.put, List.setIfInBounds_toArray, List.set_cons_zero, List.set_cons_succ]
        refine takeN (i := 33) (oi := _) (v := .int .i64 k) 82 rfl rfl (by kernel_rfl) (by kernel_rfl) (by kernel_rfl) (fun _ _ _ h => h) (Or.inl ⟨by rfl, fun w2 hSw => by (obtain ⟨l0, l1, l2, l3, l4, l5, l6⟩ := (HL.out.on hSw).bo.cells; go_simp)⟩) hHeld ?_
        try simp only [Act.put, List.setIfInBounds_toArray, List.set_cons_zero, List.set_cons_succ]
        refine takeN (i := 34) (oi := _) (v := .bool e9) 83 rfl rfl (by kernel_rfl) (by kernel_rfl) (by kernel_rfl) (fun _ _ _ h => h) (Or.inl ⟨by rfl, fun w2 hSw => by (go_simp)⟩) hHeld ?_
        try simp only [Act.put, List.setIfInBounds_toArray, List.set_cons_zero, List.set_cons_succ]
        refine takeN (i := 35) (oi := _) (v := .bool e9) 84 rfl rfl (by kernel_rfl) (by kernel_rfl) (by kernel_rfl) (fun _ _ _ h => h) (Or.inl ⟨by rfl, fun w2 hSw => by (go_simp)⟩) hHeld ?_
        try simp only [Act.put, List.setIfInBounds_toArray, List.set_cons_zero, List.set_cons_succ]
        refine takeN (i := 36) (oi := _) (v := .bool false) 85 rfl rfl (by kernel_rfl) (by kernel_rfl) (by kernel_rfl) (fun _ _ _ h => h) (Or.inl ⟨by rfl, fun w2 hSw => by (go_simp; try simp)⟩) hHeld ?_
        try simp only [Act.put, List.setIfInBounds_toArray, List.set_cons_zero, List.set_cons_succ]
        refine takeN (i := 37) (oi := _) (v := .bool false) 86 rfl rfl (by kernel_rfl) (by kernel_rfl) (by kernel_rfl) (fun _ _ _ h => h) (Or.inl ⟨by rfl, fun w2 hSw => by (go_simp)⟩) hHeld ?_
        try simp only [Act.put, List.setIfInBounds_toArray, List.set_cons_zero, List.set_cons_succ]
        refine wpAnyH_done (by kernel_rfl) ?_ _
        refine NoPanic.normal ?_
        have HIQ := Lib.hid (HL.out.on hHeld)
        cases m with
        | false =>
          obtain rfl : r = none := by rw [← hr]; rfl
          obtain rfl : lb = [] := by rw [← hlb]; rfl
          have hpe : packE none = 2 := rfl
          rw [hpe]
          clear hpe
          go_wp2_with (first
            | (go_at_call 17; refine (num_any _ _).mono ?_; rintro e w' ⟨rfl, rfl⟩)
            | (go_at_call 9; refine (known_any _).mono ?_; rintro e w12 ⟨rfl, hb12⟩)
            | fail)
          go_ret
          exact ⟨rfl, HIQ.out.bel.trans (hb12.mono HIQ.out.bel.size)⟩
        | true =>
          obtain ⟨l, hl, _⟩ := HPS.out hm
          obtain rfl : r = some l := by rw [← hr, if_pos rfl]; exact hl
          obtain rfl : lb = l := by rw [← hlb]; rfl
          have hpe : packE (some lb) = 0 := rfl
          rw [hpe]
          have HCV : Hid (∀ w', Below wq.heap.size wq w' → (convert 24 9 (.slice Ab lb.length cb)).run Try.prog w' = .ok (.string ⟨lb.toArray⟩) w') := fun w' hb => str_shows 24 9 5 Try.underlying24 Try.underlying5 Try.underlying9 (HIQ.out.on hb).sb
          have HPK : Hid (∀ w', Below wq.heap.size wq w' → Calls Try.prog 18 #[.agg #[.int .i64 k, .int .u64 (v : Int), .int .u64 (t : Int), .int .i64 s, .int .i64 a, .int .i64 c, .slice A d.length cap]] w' fun e w3 => ∃ AR cR, e = .returned (.slice AR lb.length cR) ∧ (convert 24 9 (.slice AR lb.length cR)).run Try.prog w3 = .ok (.string ⟨lb.toArray⟩) w3 ∧ Below w'.heap.size w' w3) := fun w' hb =>
            (HPA.out w' ((HS.out.below (HIQ.out.on hb).bel).wide (HIQ.out.on hb).bel.size) hm lb hl).mono fun e w3 ⟨AR, cR, he, hsh, hb3⟩ => ⟨AR, cR, he, str_shows 24 9 5 Try.underlying24 Try.underlying5 Try.underlying9 hsh, hb3⟩
          clear hpe hl hm hHeld
          go_upto_region 16 with fail
          refine wp_region_noPanic ?_
          refine wp_region_held_drew (S := fun w' => Below wq.heap.size wq w') (by kernel_rfl) ((Below.refl _ wq).drew) (fun hHeld => ?_)
          refine takeN (i := 0) (oi := _) (v := .slice Ab lb.length cb) 100 rfl rfl (by kernel_rfl) (by kernel_rfl) (by kernel_rfl) (fun _ _ _ h => h) (Or.inl ⟨by rfl, fun w2 hSw => by (go_simp)⟩) hHeld ?_
          try simp only [Act.put, List.setIfInBounds_toArray, List.set_cons_zero, List.set_cons_succ]
          refine takeN (i := 1) (oi := _) (v := .string ⟨lb.toArray⟩) 101 rfl rfl (by kernel_rfl) (by kernel_rfl) (by kernel_rfl) (fun _ _ _ h => h) (Or.inl ⟨by rfl, fun w2 hSw => by (have hcv := HCV.out w2 hSw; go_simp)⟩) hHeld ?_
          try simp only [Act.put, List.setIfInBounds_toArray, List.set_cons_zero, List.set_cons_succ]
          refine takeN (i := 2) (oi := _) (v := .agg #[.int .i64 k, .int .u64 (v : Int), .int .u64 (t : Int), .int .i64 s, .int .i64 a, .int .i64 c, .slice A d.length cap]) 102 rfl rfl (by kernel_rfl) (by kernel_rfl) (by kernel_rfl) (fun _ _ _ h => h) (Or.inl ⟨by rfl, fun w2 hSw => by (obtain ⟨l0, l1, l2, l3, l4, l5, l6⟩ := (HIQ.out.on hSw).bo.cells; go_simp)⟩) hHeld ?_
          try simp only [Act.put, List.setIfInBounds_toArray, List.set_cons_zero, List.set_cons_succ]
          refine wpAnyH_ready (rs := [3]) (by kernel_rfl) (by simp) ?_
          refine AllReadyH.cons rfl (fun K hK => ?_) AllReadyH.nil
          go_simp
          go_wp2_with (first | (go_at_call 18; (with_reducible refine (HPK.out _ hHeld).mono ?_); rintro e wp ⟨AR, cR, rfl, hcv, hbp⟩) | fail)
          have hBQ := hHeld.trans (hbp.mono hHeld.size)
          have HBQ := Lib.hid hBQ
          clear hbp hBQ
          refine hK.out _ _ HBQ.out (fun hHeld => ?_)
          clear hK K
          try simp only [Act.put, List.setIfInBounds_toArray, List.set_cons_zero, List.set_cons_succ]
          refine wpAnyH_ready (rs := [4]) (by kernel_rfl) (by simp) ?_
          refine AllReadyH.cons rfl (fun K hK => ?_) AllReadyH.nil
          go_simp
          refine hK.out _ _ hHeld (fun hHeld => ?_)
          clear hK K hcv
          try simp only [Act.put, List.setIfInBounds_toArray, List.set_cons_zero, List.set_cons_succ]
          refine takeN (i := 5) (oi := _) (v := .bool true) 105 rfl rfl (by kernel_rfl) (by kernel_rfl) (by kernel_rfl) (fun _ _ _ h => h) (Or.inl ⟨by rfl, fun w2 hSw => by (go_simp)⟩) hHeld ?_
          try simp only [Act.put, List.setIfInBounds_toArray, List.set_cons_zero, List.set_cons_succ]
          refine takeN (i := 6) (oi := _) (v := .bool true) 106 rfl rfl (by kernel_rfl) (by kernel_rfl) (by kernel_rfl) (fun _ _ _ h => h) (Or.inl ⟨by rfl, fun w2 hSw => by (go_simp)⟩) hHeld ?_
          try simp only [Act.put, List.setIfInBounds_toArray, List.set_cons_zero, List.set_cons_succ]
          refine takeN (i := 7) (oi := _) (v := .int .i64 0) 107 rfl rfl (by kernel_rfl) (by kernel_rfl) (by kernel_rfl) (fun _ _ _ h => h) (Or.inl ⟨by rfl, fun w2 hSw => by (go_simp)⟩) hHeld ?_
          try simp only [Act.put, List.setIfInBounds_toArray, List.set_cons_zero, List.set_cons_succ]
          refine wpAnyH_ready (rs := [8]) (by kernel_rfl) (by simp) ?_
          refine AllReadyH.cons rfl (fun K hK => ?_) AllReadyH.nil
          go_simp
          go_wp2_with (first | (go_at_call 17; refine (num_any _ _).mono ?_; rintro e w' ⟨rfl, rfl⟩) | fail)
          refine hK.out _ _ hHeld (fun hHeld => ?_)
          clear hK K
          try simp only [Act.put, List.setIfInBounds_toArray, List.set_cons_zero, List.set_cons_succ]
          refine takeN (i := 9) (oi := _) (v := .bool true) 109 rfl rfl (by kernel_rfl) (by kernel_rfl) (by kernel_rfl) (fun _ _ _ h => h) (Or.inl ⟨by rfl, fun w2 hSw => by (go_simp)⟩) hHeld ?_
          try simp only [Act.put, List.setIfInBounds_toArray, List.set_cons_zero, List.set_cons_succ]
          refine takeN (i := 10) (oi := _) (v := .bool true) 110 rfl rfl (by kernel_rfl) (by kernel_rfl) (by kernel_rfl) (fun _ _ _ h => h) (Or.inl ⟨by rfl, fun w2 hSw => by (go_simp)⟩) hHeld ?_
          try simp only [Act.put, List.setIfInBounds_toArray, List.set_cons_zero, List.set_cons_succ]
          refine takeN (i := 11) (oi := _) (v := .bool true) 111 rfl rfl (by kernel_rfl) (by kernel_rfl) (by kernel_rfl) (fun _ _ _ h => h) (Or.inl ⟨by rfl, fun w2 hSw => by (go_simp)⟩) hHeld ?_
          try simp only [Act.put, List.setIfInBounds_toArray, List.set_cons_zero, List.set_cons_succ]
          refine wpAnyH_ready (rs := [12]) (by kernel_rfl) (by simp) ?_
          refine AllReadyH.cons rfl (fun K hK => ?_) AllReadyH.nil
          go_simp
          go_wp2_with (first | (go_at_call 9; refine (known_any _).mono ?_; rintro e wk ⟨rfl, hbk⟩) | fail)
          have hBQ := hHeld.trans (hbk.mono hHeld.size)
          have HBQ := Lib.hid hBQ
          clear hbk hBQ
          refine hK.out _ _ HBQ.out (fun hHeld => ?_)
          clear hK K
          try simp only [Act.put, List.setIfInBounds_toArray, List.set_cons_zero, List.set_cons_succ]
          refine takeN (i := 13) (oi := _) (v := .bool true) 113 rfl rfl (by kernel_rfl) (by kernel_rfl) (by kernel_rfl) (fun _ _ _ h => h) (Or.inl ⟨by rfl, fun w2 hSw => by (go_simp)⟩) hHeld ?_
          try simp only [Act.put, List.setIfInBounds_toArray, List.set_cons_zero, List.set_cons_succ]
          refine takeN (i := 14) (oi := _) (v := .bool true) 4 rfl rfl (by kernel_rfl) (by kernel_rfl) (by kernel_rfl) (fun _ _ _ h => h) (Or.inl ⟨by rfl, fun w2 hSw => by (go_simp)⟩) hHeld ?_
          try simp only [Act.put, List.setIfInBounds_toArray, List.set_cons_zero, List.set_cons_succ]
          refine wpAnyH_done (by kernel_rfl) ?_ _
          refine NoPanic.normal ?_
          go_wp2
          go_ret
          exact ⟨rfl, HIQ.out.bel.trans (hHeld.mono HIQ.out.bel.size)⟩

theorem ops_law (o p : OP) (A A2 : Option Addr) (cap cap2 : Nat) (w : World) (hf : o.fit) (hs : Shows w w.heap.size A o.d.length (cells8 o.d)) (hcap : o.d.length ≤ cap) (hcm : cap ≤ 9223372036854775807) (hs2 : Shows w w.heap.size A2 p.d.length (cells8 p.d)) (hcap2 : p.d.length ≤ cap2) :
    Calls Try.prog 3 #[.agg #[.int .i64 o.k, .int .u64 (o.v : Int), .int .u64 (o.t : Int), .int .i64 o.s, .int .i64 o.a, .int .i64 o.c, .slice A o.d.length cap], .agg #[.int .i64 p.k, .int .u64 (p.v : Int), .int .u64 (p.t : Int), .int .i64 p.s, .int .i64 p.a, .int .i64 p.c, .slice A2 p.d.length cap2]] w fun e w' => e = .returned (.bool true) ∧ Below w.heap.size w w' := by
  by_cases hmu : 9000 < o.d.length ∨ 9000 < p.d.length
  · exact ops_much o.k o.v o.t o.s o.a o.c o.d A cap p.k p.v p.t p.s p.a p.c p.d A2 cap2 w hmu
  · exact ops_main o.k o.v o.t o.s o.a o.c o.d A cap p.k p.v p.t p.s p.a p.c p.d A2 cap2 w hf (by omega) hcap hcm hs (by omega) hcap2 hs2 (mayO o) rfl

end Go.Proofs.Ytpkbkliblbbdcaa
