/- The document's Data. -/
import Derived.Test.YtbencgjihoiieaaPs
set_option linter.unusedVariables false
namespace Go.Proofs.Ytbencgjihoiieaa
open Go.RowKit

set_option maxHeartbeats 4000000 in
theorem rdata_bad (w : World) (b f t x : Int) (A : Option Addr) (n cap : Nat) (d : List UInt8) (hk : okD ⟨b, f, t⟩ x = false) :
    Calls Try.prog 14 #[.agg #[.int .i64 b, .int .i64 f, .int .i64 t], .int .i64 x, .slice A n cap] w (DataAs w (dataL ⟨b, f, t⟩ x d)) := by
  have hnil : dataL ⟨b, f, t⟩ x d = [] := by unfold dataL; rw [hk]
  rw [hnil]
  have HX := Lib.hid (fun W => span_any W ⟨b, f, t⟩)
  dsimp only at HX
  have hb0 := Lib.hid ((Below.refl w.heap.size w).alloc (Nat.le_refl _) (.cells #[.int .i64 b, .int .i64 f, .int .i64 t] 23))
  have hfin : ∀ w1, Below (w.alloc (.cells #[.int .i64 b, .int .i64 f, .int .i64 t] 23)).heap.size (w.alloc (.cells #[.int .i64 b, .int .i64 f, .int .i64 t] 23)) w1 → Hid (Below w.heap.size w w1) := fun w1 h => hb0.out.trans (h.mono (by simp))
  have HF := Lib.hid hfin
  clear hfin hnil
  cases ho : okS ⟨b, f, t⟩ with
  | false =>
    rw [ho] at HX
    clear hk
    go_enter Try.func14, Try.ntmps14
    go_wp2_with (first
      | (go_at_call 22; (with_reducible refine (HX.out _).mono ?_); rintro e w1 ⟨rfl, hbel⟩; have hq0 : w1.cell? ⟨w.heap.size, 0, none⟩ = some (.int .i64 b) := (hbel.cell (p := ⟨w.heap.size, 0, none⟩) (by simp)).trans (by simp); have HBE := Lib.hid hbel; clear hbel)
      | fail)
    go_ret
    exact DataAs.nil rfl (HF.out _ HBE.out).out
  | true =>
    have hor : b < 0 ∨ 268435456 < b ∨ x < 0 ∨ 1073741824 < x := by
      unfold okD at hk
      rw [ho] at hk
      simp at hk
      omega
    rw [ho] at HX
    clear hk
    by_cases h1 : b < 0
    · clear hor
      go_enter Try.func14, Try.ntmps14
      go_wp2_with (first
        | (go_at_call 22; (with_reducible refine (HX.out _).mono ?_); rintro e w1 ⟨rfl, hbel⟩; have hq0 : w1.cell? ⟨w.heap.size, 0, none⟩ = some (.int .i64 b) := (hbel.cell (p := ⟨w.heap.size, 0, none⟩) (by simp)).trans (by simp); have HBE := Lib.hid hbel; clear hbel)
        | fail)
      go_ret
      exact DataAs.nil rfl (HF.out _ HBE.out).out
    by_cases h2 : 268435456 < b
    · clear hor
      go_enter Try.func14, Try.ntmps14
      go_wp2_with (first
        | (go_at_call 22; (with_reducible refine (HX.out _).mono ?_); rintro e w1 ⟨rfl, hbel⟩; have hq0 : w1.cell? ⟨w.heap.size, 0, none⟩ = some (.int .i64 b) := (hbel.cell (p := ⟨w.heap.size, 0, none⟩) (by simp)).trans (by simp); have HBE := Lib.hid hbel; clear hbel)
        | fail)
      go_ret
      exact DataAs.nil rfl (HF.out _ HBE.out).out
    by_cases h3 : x < 0
    · clear hor
      go_enter Try.func14, Try.ntmps14
      go_wp2_with (first
        | (go_at_call 22; (with_reducible refine (HX.out _).mono ?_); rintro e w1 ⟨rfl, hbel⟩; have hq0 : w1.cell? ⟨w.heap.size, 0, none⟩ = some (.int .i64 b) := (hbel.cell (p := ⟨w.heap.size, 0, none⟩) (by simp)).trans (by simp); have HBE := Lib.hid hbel; clear hbel)
        | fail)
      go_ret
      exact DataAs.nil rfl (HF.out _ HBE.out).out
    have h4 : 1073741824 < x := by omega
    clear hor
    go_enter Try.func14, Try.ntmps14
    go_wp2_with (first
      | (go_at_call 22; (with_reducible refine (HX.out _).mono ?_); rintro e w1 ⟨rfl, hbel⟩; have hq0 : w1.cell? ⟨w.heap.size, 0, none⟩ = some (.int .i64 b) := (hbel.cell (p := ⟨w.heap.size, 0, none⟩) (by simp)).trans (by simp); have HBE := Lib.hid hbel; clear hbel)
      | fail)
    go_ret
    exact DataAs.nil rfl (HF.out _ HBE.out).out

/-- while the document's Data are put together -/
structure RD (w wr : World) (b f t x : Int) (A : Option Addr) (d : List UInt8) (k : Int) (v : Value) : Prop where
  own : wr.ownsRow w.heap.size 5 1 v (toD ⟨b, f, t⟩ x d k).length (cells8 (toD ⟨b, f, t⟩ x d k))
  sh : Shows wr w.heap.size A d.length (cells8 d)
  c0 : wr.heap[w.heap.size]? = some (.cells #[.int .i64 b, .int .i64 f, .int .i64 t] 23 (0, 0))
  bel : Below w.heap.size w wr
  at_ : ∀ j, v.ownBlock = some j → w.heap.size + 1 ≤ j
theorem rd_skip {w wr : World} {b f t x : Int} {A : Option Addr} {d : List UInt8} {z : Int} {v : Value} (h : RD w wr b f t x A d z v) (hm : toD ⟨b, f, t⟩ x d (z + 1) = toD ⟨b, f, t⟩ x d z) : Hid (RD w wr b f t x A d (z + 1) v) := by
  refine ⟨?_, h.sh, h.c0, h.bel, h.at_⟩
  rw [hm]
  exact h.own
theorem rd_more {w wr w1 : World} {b f t x : Int} {A : Option Addr} {d : List UInt8} {z : Int} {v v' : Value} {n : Nat} (h : RD w wr b f t x A d z v) (hm : toD ⟨b, f, t⟩ x d (z + 1) = toD ⟨b, f, t⟩ x d z ++ cutD d n (n + 1)) (hl : (cutD d n (n + 1)).length = 64 * (n + 1 - n))
    (ho : w1.ownsRow w.heap.size 5 1 v' ((toD ⟨b, f, t⟩ x d z).length + 64) (cells8 (toD ⟨b, f, t⟩ x d z) ++ cells8 (cutD d n (n + 1)))) (hg : Grew wr w1 v v') : Hid (RD w w1 b f t x A d (z + 1) v') := by
  have hb : Below (w.heap.size + 1) wr w1 := hg.below_from (by have := (Array.getElem?_eq_some_iff.1 h.c0).1; omega) h.at_
  refine ⟨?_, h.sh.below (hb.mono (by omega)), (hb.block _ (by omega)).trans h.c0, h.bel.trans (hb.mono (by omega)), fun j hj => ?_⟩
  · rw [hm, List.length_append, hl, cells8_append, show 64 * (n + 1 - n) = 64 by omega]
    exact ho
  · rcases hg.at_ with e | ⟨g, e, hge⟩
    · exact h.at_ j (by rw [← e]; exact hj)
    · rw [e] at hj
      injection hj with hj
      have := (Array.getElem?_eq_some_iff.1 h.c0).1
      omega
set_option maxRecDepth 100000 in
set_option maxHeartbeats 8000000 in
theorem rdata_good (w : World) (b f t x : Int) (A : Option Addr) (cap : Nat) (d : List UInt8) (hk : okD ⟨b, f, t⟩ x = true) (hm : d.length ≤ 5000) (hc : d.length ≤ cap) (hs : Shows w w.heap.size A d.length (cells8 d)) :
    Calls Try.prog 14 #[.agg #[.int .i64 b, .int .i64 f, .int .i64 t], .int .i64 x, .slice A d.length cap] w (DataAs w (dataL ⟨b, f, t⟩ x d)) := by
  obtain ⟨i0, hi, hz0, hz1, hz2⟩ := info_parts u8_info
  have HX := Lib.hid (fun W => span_any W ⟨b, f, t⟩)
  dsimp only at HX
  have hk2 := hk
  unfold okD okS at hk2
  simp at hk2
  obtain ⟨⟨hf0, ht4, hft⟩, hb0', hb1', hx0', hx1'⟩ := hk2
  have ho : okS ⟨b, f, t⟩ = true := by unfold okS; simp; omega
  rw [ho] at HX
  have hdl : dataL ⟨b, f, t⟩ x d = toD ⟨b, f, t⟩ x d t := by unfold dataL; rw [hk]
  rw [hdl]
  have HS := Lib.hid hs
  have HC := Lib.hid hc
  clear hdl ho hk hs hc
  go_enter Try.func14, Try.ntmps14
  go_wp2_with (first
    | (go_at_call 22; (with_reducible refine (HX.out _).mono ?_); rintro e w1 ⟨rfl, hbel⟩; have hbx : w1.heap[w.heap.size]? = some (.cells #[.int .i64 b, .int .i64 f, .int .i64 t] 23 (0, 0)) := (hbel.block _ (by simp)).trans (heap_alloc_new _ _); have HB1 := Lib.hid (((Below.refl _ w).alloc (Nat.le_refl _) _).trans (hbel.mono (by simp))); have hq0 : w1.cell? ⟨w.heap.size, 0, none⟩ = some (.int .i64 b) := (by rw [Joins.cell_of_block hbx 0]; rfl); have hq1 : w1.cell? ⟨w.heap.size, 1, none⟩ = some (.int .i64 f) := (by rw [Joins.cell_of_block hbx 1]; rfl); have HBX := Lib.hid hbx; have HBE := Lib.hid hbel; clear hbel hbx)
    | fail)
  have H0 : Hid (RD w w1 b f t x A d f (.slice none 0 0)) := by
    refine ⟨?_, (HS.out.below HB1.out), HBX.out, HB1.out, fun j hj => by cases hj⟩
    rw [toD_start ⟨b, f, t⟩ x d]
    exact World.ownsRow_nil _ _ _ _
  clear HBX HB1 HBE hq0 hq1
  go_loopw [7, 8] (fun v k wr => ∃ z : Int, f ≤ z ∧ z ≤ t ∧ k = .int .i64 z ∧ Hid (RD w wr b f t x A d z v)) (fun _ k _ => t.toNat - (intOf k).toNat)
  case atStart => exact ⟨f, by omega, by omega, rfl, H0⟩
  case round =>
    obtain ⟨z, hz1', hz2', rfl, HR⟩ := hrel
    clear H0
    have hq0 : wr.cell? ⟨w.heap.size, 0, none⟩ = some (.int .i64 b) := by rw [Joins.cell_of_block HR.out.c0 0]; rfl
    have hq2 : wr.cell? ⟨w.heap.size, 2, none⟩ = some (.int .i64 t) := by rw [Joins.cell_of_block HR.out.c0 2]; rfl
    obtain ⟨Av, cv, rfl⟩ : ∃ A c, u7 = .slice A (toD ⟨b, f, t⟩ x d z).length c := by
      rcases HR.out.own.2 with ⟨rfl, h0⟩ | ⟨g, cap, cur, rfl, _⟩
      · exact ⟨none, 0, by rw [h0]⟩
      · exact ⟨_, cap, rfl⟩
    by_cases hlt : z < t
    · by_cases g1 : 0 ≤ 4 * b + z - x
      · by_cases g2 : 4 * b + z - x < (d.length : Int) / 64
        · obtain ⟨n, hn⟩ := Int.eq_ofNat_of_zero_le g1
          obtain ⟨p0, rfl, _, _⟩ := HR.out.sh.lies (by omega)
          have HM := Lib.hid (toD_more ⟨b, f, t⟩ x d z n hz1' hn (by omega))
          have hcl := cutD_length d n (n + 1) (by omega)
          have hcs : Shows wr w.heap.size (some (p0.add (64 * n))) 64 (cells8 (cutD d n (n + 1))) := by
            have h := HR.out.sh.cut n (n + 1) (by omega) (by omega)
            rwa [show 64 * (n + 1) - 64 * n = 64 by omega] at h
          have hsl : ∀ W : World, (Instr.sliceAt 32 (.slice (some p0) d.length cap) (some (.int .i64 (64 * (4 * b + z - x)))) (some (.int .i64 (64 * (4 * b + z - x) + 64))) none).run Try.prog W = .ok (.slice (some (p0.add (64 * n))) 64 (cap - 64 * n)) W := fun W => by
            have e1 : 64 * (4 * b + z - x) = ((64 * n : Nat) : Int) := by omega
            have e2 : 64 * (4 * b + z - x) + 64 = ((64 * n + 64 : Nat) : Int) := by omega
            rw [e1, show ((64 * n : Nat) : Int) + 64 = ((64 * n + 64 : Nat) : Int) by omega]
            have h := slice_bytes W p0 d.length cap (64 * n) (64 * n + 64) (by omega) (by omega) HC.out
            rwa [show 64 * n + 64 - 64 * n = 64 by omega] at h
          have hll := toD_length ⟨b, f, t⟩ x d z
          have HCS := Lib.hid hcs
          have HCL := Lib.hid hcl
          have HN := Lib.hid hn
          have hnb : n ≤ 5000 := by omega
          clear hcs hcl hn
          go_wp2_with (first
            | (at_builtin; refine wpList_append_shows _ rfl _ _ 32 rfl w.heap.size 5 i0 _ 1 Try.underlying32 hi hz0 hz1 hz2 rfl _ _ _ rfl HR.out.own w.heap.size (some (p0.add (64 * n))) 64 (cap - 64 * n) (cells8 (cutD d n (n + 1))) rfl HCS.out (cells8_one _) (by unfold maxLen; omega) (by omega) HR.out.bel.size ?_; intro v' w1 hown hgr; have HO := Lib.hid hown; have HG := Lib.hid hgr; clear hown hgr)
            | fail)
          go_roundw
          case rel => exact ⟨z + 1, by omega, by omega, by go_num, rd_more HR.out HM.out HCL.out HO.out HG.out⟩
          case measure => simp [intOf]; omega
        · have HM := Lib.hid (toD_skip ⟨b, f, t⟩ x d z (by right; show _ ≤ 4 * b + z - x; omega))
          go_wp2
          go_roundw
          case rel => exact ⟨z + 1, by omega, by omega, by go_num, rd_skip HR.out HM.out⟩
          case measure => simp [intOf]; omega
      · have HM := Lib.hid (toD_skip ⟨b, f, t⟩ x d z (by left; show 4 * b + z - x < 0; omega))
        go_wp2
        go_roundw
        case rel => exact ⟨z + 1, by omega, by omega, by go_num, rd_skip HR.out HM.out⟩
        case measure => simp [intOf]; omega
    · obtain rfl : z = t := by omega
      go_wp2
      go_ret
      exact ⟨_, rfl, HR.out.own, HR.out.bel⟩
end Go.Proofs.Ytbencgjihoiieaa
