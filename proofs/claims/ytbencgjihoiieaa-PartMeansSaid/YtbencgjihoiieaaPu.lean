/- PartData: the law's walk. -/
import Derived.Test.YtbencgjihoiieaaPt
import Derived.Test.YtbencgjihoiieaaPm
import Derived.Deep.RegionHeldLaw
set_option linter.unusedVariables false
namespace Go.Proofs.Ytbencgjihoiieaa
open Go.RowKit

theorem str_shows {P : Program} (src dst e : TypeId) (hs : P.underlying src = some (.slice e)) (he : P.underlying e = some (.int .u8)) (hd : P.underlying dst = some .string)
    {w : World} {B : Nat} {A : Option Addr} {n c : Nat} {l : List UInt8} (h : Shows w B A n (cells8 l)) : (convert src dst (.slice A n c)).run P w = .ok (.string ⟨l.toArray⟩) w := by
  rw [run_convert_bytes_string w src dst e A n c hs he hd]
  have hn : n = l.length := by rw [← h.len, cells8_length]
  cases A with
  | none =>
    have hl : l = [] := by
      rcases Nat.eq_zero_or_pos n with h0 | h0
      · exact List.eq_nil_of_length_eq_zero (by omega)
      · obtain ⟨p, hp, _⟩ := h.lies h0
        cases hp
    subst hl
    simp [Conv.bytesToString]
    rfl
  | some p =>
    have hload : (loadCells p (cells8 l).length).run P w = .ok (cells8 l).toArray w := by
      refine run_loadCells_list (P := P) w p (cells8 l) fun j v hv => ?_
      have hj : j < (cells8 l).length := by
        rcases Nat.lt_or_ge j (cells8 l).length with h1 | h1
        · exact h1
        · rw [List.getElem?_eq_none h1] at hv; cases hv
      obtain ⟨q, hq, _, hx⟩ := h.lies (by rw [← h.len]; omega)
      injection hq with hq
      subst hq
      exact hx j v hv
    rw [cells8_length, ← hn] at hload
    have hc : cells8 l = (l.map fun b => (b.toNat : Int)).map (Value.int .u8) := by simp [cells8]
    rw [hc] at hload
    rw [run_bytesToString w p n c _ hload, foldl_push_byteCells]
    simp
theorem str_bytes {w : World} {B : Nat} {A : Option Addr} {n c : Nat} {l : List UInt8} (h : Shows w B A n (cells8 l)) : (convert 32 9 (.slice A n c)).run Try.prog w = .ok (.string ⟨l.toArray⟩) w :=
  str_shows 32 9 5 Try.underlying32 Try.underlying5 Try.underlying9 h


theorem Shows.on {w w' : World} {A : Option Addr} {n : Nat} {xs : List Value} (h : Shows w w.heap.size A n xs) (hb : Below w.heap.size w w') : Shows w' w'.heap.size A n xs := (h.below hb).wide hb.size
/-- Data, whatever it is asked for: the slice, where it lies -/
def DataIs (w : World) (l : List UInt8) (e : Ending) (w' : World) : Prop := ∃ A c, e = .returned (.slice A l.length c) ∧ Hid (w'.ownsRow w.heap.size 5 1 (.slice A l.length c) l.length (cells8 l) ∧ Below w.heap.size w w')
theorem DataAs.is {w : World} {l : List UInt8} {e : Ending} {w' : World} (h : DataAs w l e w') : DataIs w l e w' := by
  obtain ⟨v, rfl, h1, h2⟩ := h
  rcases h1.2 with ⟨rfl, h0⟩ | ⟨g, cap, cur, rfl, _⟩
  · exact ⟨none, 0, by rw [h0], by rw [h0] at h1 ⊢; exact ⟨h1, h2⟩⟩
  · exact ⟨_, cap, rfl, h1, h2⟩
theorem data_any (w : World) (b f t x : Int) (A : Option Addr) (cap : Nat) (d : List UInt8) (hm : d.length ≤ 5000) (hc : d.length ≤ cap) (hs : Shows w w.heap.size A d.length (cells8 d)) :
    Calls Try.prog 13 #[.agg #[.int .i64 b, .int .i64 f, .int .i64 t], .int .i64 x, .slice A d.length cap] w (DataIs w (dataL ⟨b, f, t⟩ x d)) := by
  cases hk : okD ⟨b, f, t⟩ x with
  | false => exact (data_bad w ⟨b, f, t⟩ x A d.length cap d hk).mono fun e w' h => h.is
  | true => exact (data_good w b f t x A cap d hk hm hc hs).mono fun e w' h => h.is
theorem rdata_any (w : World) (b f t x : Int) (A : Option Addr) (cap : Nat) (d : List UInt8) (hm : d.length ≤ 5000) (hc : d.length ≤ cap) (hs : Shows w w.heap.size A d.length (cells8 d)) :
    Calls Try.prog 14 #[.agg #[.int .i64 b, .int .i64 f, .int .i64 t], .int .i64 x, .slice A d.length cap] w (DataIs w (dataL ⟨b, f, t⟩ x d)) := by
  cases hk : okD ⟨b, f, t⟩ x with
  | false => exact (rdata_bad w b f t x A d.length cap d hk).mono fun e w' h => h.is
  | true => exact (rdata_good w b f t x A cap d hk hm hc hs).mono fun e w' h => h.is
/-- bytes of the call's own, changed one by one -/
structure XI (w1 w2 wr : World) (A : Option Addr) (m c : Nat) (L : List UInt8) : Prop where
  own : wr.ownsRow w1.heap.size 5 1 (.slice A m c) m (cells8 L)
  len : L.length = m
  bel : Below w1.heap.size w2 wr
theorem cells8_set (L : List UInt8) (i : Nat) (b : UInt8) : (cells8 L).set i (.int .u8 (b.toNat : Int)) = cells8 (L.set i b) := by simp [cells8, List.map_set]
theorem XI.set {w1 w2 wr : World} {g m c i : Nat} {L : List UInt8} (h : XI w1 w2 wr (some ⟨g, 0, none⟩) m c L) (b : UInt8) : Hid (XI w1 w2 (wr.setCell ⟨g, i, none⟩ (.int .u8 (b.toNat : Int))) (some ⟨g, 0, none⟩) m c (L.set i b)) := by
  refine ⟨?_, by rw [List.length_set]; exact h.len, h.bel.setCell (p := ⟨g, i, none⟩) (h.own.lt g rfl).1 _⟩
  rw [← cells8_set]
  exact (h.own.stored i _).1
theorem own_addr {w : World} {base m c : Nat} {A : Option Addr} {e : TypeId} {xs : List Value} (h : w.ownsRow base e 1 (.slice A m c) m xs) (hm : 0 < m) : ∃ g, A = some ⟨g, 0, none⟩ := by
  rcases h.2 with ⟨_, h0⟩ | ⟨g, cap, cur, hv, _⟩
  · omega
  · injection hv with hv _ _
    exact ⟨g, hv⟩
theorem byte_succ (b : UInt8) : IntKind.u8.wrap ((b.toNat : Int) + 1) = ((b + 1).toNat : Int) := by
  rw [UInt8.toNat_add]
  show ((b.toNat : Int) + 1) % 256 = (((b.toNat + (1 : UInt8).toNat) % 2 ^ 8 : Nat) : Int)
  simp
/-- behind Data: its bytes are known, and all that lay ahead -/
structure DW (w w2 : World) (b f t : Int) (A AX : Option Addr) (d l : List UInt8) : Prop where
  sx : Shows w2 w2.heap.size AX l.length (cells8 l)
  sd : Shows w2 w2.heap.size A d.length (cells8 d)
  box : w2.heap[w.heap.size]? = some (.cells #[.int .i64 b, .int .i64 f, .int .i64 t] 23 (0, 0))

theorem own_below {w w' : World} {base n s : Nat} {e : TypeId} {v : Value} {xs : List Value} (h : w.ownsRow base e s v n xs) (hb : Below w.heap.size w w') : w'.ownsRow base e s v n xs := by
  refine ⟨h.1, ?_⟩
  rcases h.2 with h | ⟨g, cap, cur, hv, hg, hh, h1, h2, h3, h4⟩
  · exact .inl h
  · exact .inr ⟨g, cap, cur, hv, hg, (hb.block g (Array.getElem?_eq_some_iff.1 hh).1).trans hh, h1, h2, h3, h4⟩
theorem own_dw {w w1 : World} {d : List UInt8} {v : Value} (h : w1.ownsRow w.heap.size 5 1 v (0 + d.length) ([] ++ cells8 d)) (hg : Grew w w1 (.slice none 0 0) v) : ∃ A c, v = .slice A d.length c ∧ Shows w1 w1.heap.size A d.length (cells8 d) ∧ Below w.heap.size w w1 ∧ d.length ≤ c := by
  rw [Nat.zero_add, List.nil_append] at h
  have hb : Below w.heap.size w w1 := hg.below_from (Nat.le_refl _) (fun k hk => by cases hk)
  rcases h.2 with ⟨rfl, h0⟩ | ⟨g, cap, cur, rfl, _, _, hc, _⟩
  · exact ⟨none, 0, by rw [h0], Shows.owned (by rw [h0] at h ⊢; exact h), hb, by omega⟩
  · exact ⟨_, cap, rfl, Shows.owned h, hb, hc⟩
set_option maxRecDepth 100000 in
set_option maxHeartbeats 8000000 in
theorem data_law (w : World) (b f t x : Int) (A : Option Addr) (cap : Nat) (d : List UInt8) (hc : d.length ≤ cap) (hs : Shows w w.heap.size A d.length (cells8 d)) :
    Calls Try.prog 4 #[.agg #[.int .i64 b, .int .i64 f, .int .i64 t], .int .i64 x, .slice A d.length cap] w fun e w' => e = .returned (.bool true) ∧ Below w.heap.size w w' := by
  obtain ⟨i0, hi, hz0, hz1, hz2⟩ := info_parts u8_info
  have HKN := Lib.hid (fun W => known_any W)
  have hb0 := Lib.hid ((Below.refl w.heap.size w).alloc (Nat.le_refl _) (.cells #[.int .i64 b, .int .i64 f, .int .i64 t] 23))
  by_cases hm : 5000 < d.length
  · clear hc hs
    have hmI : (5000 : Int) < (d.length : Int) := by omega
    go_enter Try.func4, Try.ntmps4
    go_wp2_with (first
      | (go_at_call 6; (with_reducible refine (HKN.out _).mono ?_); rintro e w1 ⟨rfl, hb1⟩; have HB1 := Lib.hid hb1; clear hb1)
      | fail)
    go_ret
    exact ⟨rfl, hb0.out.trans (HB1.out.mono (by simp))⟩
  · have hm2 : d.length ≤ 5000 := by omega
    have hmI : ¬ (5000 : Int) < (d.length : Int) := by omega
    clear hm
    obtain ⟨W0, hW0⟩ : ∃ W0, w.alloc (.cells #[.int .i64 b, .int .i64 f, .int .i64 t] 23) = W0 := ⟨_, rfl⟩
    have hsz : w.heap.size + 1 = W0.heap.size := by rw [← hW0]; simp
    have hbx0 : W0.heap[w.heap.size]? = some (.cells #[.int .i64 b, .int .i64 f, .int .i64 t] 23 (0, 0)) := by rw [← hW0]; exact heap_alloc_new _ _
    have hs0 : Shows W0 W0.heap.size A d.length (cells8 d) := by rw [← hW0]; exact (hs.alloc (Nat.le_refl _) _).wide (by simp)
    rw [hW0] at hb0
    have HS := Lib.hid hs0
    have HX0 := Lib.hid hbx0
    have HZ := Lib.hid hsz
    have HDL := Lib.hid (dataL_length ⟨b, f, t⟩ x d)
    clear hs hs0 hbx0 hsz
    have HD := Lib.hid (fun W Ax ca (h1 : d.length ≤ ca) h => data_any W b f t x Ax ca d hm2 h1 h)
    have HRD := Lib.hid (fun W h => rdata_any W b f t x A cap d hm2 hc h)
    go_enter Try.func4, Try.ntmps4
    go_wp2_with (first
      | (at_builtin; refine wpList_append_shows _ rfl _ _ 32 rfl W0.heap.size 5 i0 _ 1 Try.underlying32 hi hz0 hz1 hz2 rfl _ 0 [] rfl (World.ownsRow_nil _ _ _ _) W0.heap.size A d.length cap (cells8 d) rfl HS.out (cells8_one _) (by unfold maxLen; omega) (by omega) (Nat.le_refl _) ?_; intro vo w1 hown hgr; obtain ⟨AO, cO, hvo, hso, hbo, hco⟩ := own_dw hown hgr; subst hvo; have HSO := Lib.hid hso; have HB1 := Lib.hid hbo; have HCO := Lib.hid hco; have HX1 := Lib.hid ((hbo.block _ (by have := HZ.out; omega)).trans HX0.out); have hq0 : w1.cell? ⟨w.heap.size, 0, none⟩ = some (.int .i64 b) := (by rw [Joins.cell_of_block HX1.out 0]; rfl); have hq1 : w1.cell? ⟨w.heap.size, 1, none⟩ = some (.int .i64 f) := (by rw [Joins.cell_of_block HX1.out 1]; rfl); have hq2 : w1.cell? ⟨w.heap.size, 2, none⟩ = some (.int .i64 t) := (by rw [Joins.cell_of_block HX1.out 2]; rfl); clear hown hgr hso hbo hco)
      | (go_at_call 13; (with_reducible refine (HD.out _ _ _ HCO.out HSO.out).mono ?_); rintro e w2 ⟨AX, cX, rfl, hx⟩; have HX := Lib.hid hx; clear hx)
      | fail)
    generalize dataL ⟨b, f, t⟩ x d = l at *
    have HW : Hid (DW w w2 b f t A AX d l) := ⟨Shows.owned HX.out.1, (HS.out.on HB1.out).on HX.out.2, (HX.out.2.block _ (by have := HZ.out; have := HB1.out.size; omega)).trans HX1.out⟩
    have HSO2 := Lib.hid (HSO.out.on HX.out.2)
    have HB2 := Lib.hid (hb0.out.trans ((HB1.out.mono (by have := HZ.out; omega)).trans (HX.out.2.mono (by have := HB1.out.size; have := HZ.out; omega))))
    have HST : Hid (∀ w', Below w2.heap.size w2 w' → (convert 32 9 (.slice AX l.length cX)).run Try.prog w' = .ok (.string ⟨l.toArray⟩) w') := fun w' hb => str_bytes (HW.out.sx.on hb)
    have HCE : Hid (∀ w', Below w2.heap.size w2 w' → w'.cell? ⟨w.heap.size, 0, none⟩ = some (.int .i64 b) ∧ w'.cell? ⟨w.heap.size, 1, none⟩ = some (.int .i64 f) ∧ w'.cell? ⟨w.heap.size, 2, none⟩ = some (.int .i64 t)) := fun w' hb => by
      have h := (hb.block _ (Array.getElem?_eq_some_iff.1 HW.out.box).1).trans HW.out.box
      exact ⟨by rw [Joins.cell_of_block h 0]; rfl, by rw [Joins.cell_of_block h 1]; rfl, by rw [Joins.cell_of_block h 2]; rfl⟩
    have HRC : Hid (∀ w', Below w2.heap.size w2 w' → Calls Try.prog 14 #[.agg #[.int .i64 b, .int .i64 f, .int .i64 t], .int .i64 x, .slice A d.length cap] w' fun e w3 => ∃ AR cR, e = .returned (.slice AR l.length cR) ∧ (convert 32 9 (.slice AR l.length cR)).run Try.prog w3 = .ok (.string ⟨l.toArray⟩) w3 ∧ Below w2.heap.size w2 w3) := fun w' hb =>
      (HRD.out w' (HW.out.sd.on hb)).mono fun e w3 ⟨AR, cR, he, hq⟩ => ⟨AR, cR, he, str_bytes (Shows.owned hq.out.1), hb.trans (hq.out.2.mono hb.size)⟩
    have HB0 := Lib.hid hb0.out
    clear HRD HD hq0 hq1 hq2 hb0 hW0
    go_region_held_law (fun w' => Below w2.heap.size w2 w' ∧ (convert 32 9 (.slice AX l.length cX)).run Try.prog w' = .ok (.string ⟨l.toArray⟩) w' ∧ w'.cell? ⟨w.heap.size, 0, none⟩ = some (.int .i64 b) ∧ w'.cell? ⟨w.heap.size, 1, none⟩ = some (.int .i64 f) ∧ w'.cell? ⟨w.heap.size, 2, none⟩ = some (.int .i64 t))
        (first | exact ⟨Below.refl _ _, HST.out _ (Below.refl _ _), HCE.out _ (Below.refl _ _)⟩ | exact ⟨by assumption, HST.out _ (by assumption), HCE.out _ (by assumption)⟩ | assumption | exact ⟨(Below.refl _ _).drew, HST.out _ (Below.refl _ _).drew, HCE.out _ (Below.refl _ _).drew⟩)
        (first
          | (go_at_call 14; refine (HRC.out _ (by first | assumption | exact (‹Below w2.heap.size w2 _ ∧ _›).1)).mono ?_; rintro e w3 ⟨AR, cR, rfl, hcv, hb3⟩))
    clear HRC HST HCE
    have HB3 := Lib.hid hb3
    have HXI : Hid (XI w1 w2 w3 AX l.length cX l) := ⟨own_below HX.out.1 hb3, rfl, hb3.mono HX.out.2.size⟩
    clear hcv hb3
    go_wp2
    go_loopw [9] (fun i wr => ∃ k : Nat, k ≤ l.length ∧ i = .int .i64 (k : Int) ∧ Hid (∃ L, XI w1 w2 wr AX l.length cX L)) (fun i _ => l.length - (intOf i).toNat)
    case atStart => exact ⟨0, by omega, rfl, _, HXI.out⟩
    case round =>
      obtain ⟨k, hk, rfl, HR⟩ := hrel
      clear HXI
      by_cases hlt : k < l.length
      · have hltI : (k : Int) < (l.length : Int) := by omega
        obtain ⟨L, hL⟩ := HR.out
        obtain ⟨g, rfl⟩ := own_addr hL.own (by omega)
        have hkL : k < L.length := by rw [hL.len]; exact hlt
        have hck : wr.cell? ⟨g, k, none⟩ = some (.int .u8 ((L[k]).toNat : Int)) := by
          rw [hL.own.cellAt k (by omega)]
          exact cells8_get L k hkL
        have hfz := hL.own.frozenAt k
        have HSE := Lib.hid (hL.set (i := k) (L[k] + 1))
        have hbs := byte_succ L[k]
        generalize L[k] + 1 = bb at HSE hbs
        generalize L[k] = bc at hck hbs
        have HBS := Lib.hid hbs
        have hl2 : l.length ≤ 5000 := by have := HDL.out; omega
        clear hbs HR hL
        go_wp2
        go_roundw
        case rel =>
          refine ⟨k + 1, hlt, by go_num, ⟨L.set k bb, ?_⟩⟩
          have e : ((bc.toNat : Int) + 1) % 256 = (bb.toNat : Int) := HBS.out
          rw [e]
          exact HSE.out.out
        case measure => simp [intOf]; omega
      · obtain rfl : k = l.length := by omega
        have hltI : ¬ (l.length : Int) < (l.length : Int) := by omega
        obtain ⟨L, hL⟩ := HR.out
        have hb4 : Below w1.heap.size w1 wr := HX.out.2.trans hL.bel
        have hcv1 : (convert 32 9 (.slice AO d.length cO)).run Try.prog wr = .ok (.string ⟨d.toArray⟩) wr := str_bytes (HSO.out.on hb4)
        have hcv2 : (convert 32 9 (.slice A d.length cap)).run Try.prog wr = .ok (.string ⟨d.toArray⟩) wr := str_bytes ((HS.out.on HB1.out).on hb4)
        have HB4 := Lib.hid hb4
        clear hL hb4 HR
        go_wp2_with (first
          | (go_at_call 6; (with_reducible refine (HKN.out _).mono ?_); rintro e w5 ⟨rfl, hb5⟩; have HB5 := Lib.hid hb5; clear hb5)
          | fail)
        go_ret
        exact ⟨rfl, HB0.out.trans (((HB1.out.mono (by have := HZ.out; omega)).trans (HB4.out.mono (by have := HB1.out.size; have := HZ.out; omega))).trans (HB5.out.mono (by have := HB1.out.size; have := HB4.out.size; have := HZ.out; omega)))⟩
end Go.Proofs.Ytbencgjihoiieaa
