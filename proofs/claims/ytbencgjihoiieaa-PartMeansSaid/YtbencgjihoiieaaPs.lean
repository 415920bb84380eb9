/- Bytes of sectors: Clone, sectors, Data; the document's Data. -/
import Derived.Test.YtbencgjihoiieaaPf
import Derived.Lib.AppendZeros
set_option linter.unusedVariables false
namespace Go.Proofs.Ytbencgjihoiieaa
open Go.RowKit

theorem u8_info : (Try.prog.info? 5).map (fun i => (i.zero, i.size, i.bytes)) = some (some (.int .u8 0), 1, 1) := by kernel_rfl
theorem slb_ht : Try.prog.underlying 32 = some (.slice (Try.prog.elem 32)) := by kernel_rfl
theorem slb_sz (w : World) : (sizeOf (Try.prog.elem 32)).run Try.prog w = .ok 1 w := by kernel_rfl
theorem slice_bytes (w : World) (p : Addr) (L cap l h : Nat) (h1 : l < h) (h2 : h ≤ L) (hc : L ≤ cap) : (Instr.sliceAt 32 (.slice (some p) L cap) (some (.int .i64 (l : Int))) (some (.int .i64 (h : Int))) none).run Try.prog w = .ok (.slice (some (p.add l)) (h - l) (cap - l)) w := by
  rw [run_sliceAt_slice w _ _ _ _ _ slb_ht, run_slice_lh w _ _ _ _ slb_ht .i64 .i64 (l : Int) (h : Int) (by omega) (by omega) (by omega), slb_sz]
  simp only [Result.andThen, sliced, Int.toNat_natCast, Nat.mul_one, Option.map_some, if_neg (show ¬ cap = l by omega)]
theorem Shows.cut {w : World} {B : Nat} {p : Addr} {d : List UInt8} (h : Shows w B (some p) d.length (cells8 d)) (lo hi : Nat) (h1 : lo < hi) (h2 : 64 * hi ≤ d.length) : Shows w B (some (p.add (64 * lo))) (64 * hi - 64 * lo) (cells8 (cutD d lo hi)) := by
  have hl := cutD_length d lo hi h2
  refine ⟨by rw [cells8_length, hl]; omega, fun hp => ?_⟩
  obtain ⟨q, hq, hb, hx⟩ := h.lies (by omega)
  injection hq with hq
  subst hq
  refine ⟨_, rfl, by rw [addr_block]; exact hb, fun j u hj => ?_⟩
  rw [addr_twice]
  refine hx _ u ?_
  unfold cutD at hj
  rw [cells8_take, cells8_drop, List.getElem?_take] at hj
  split at hj
  · rwa [List.getElem?_drop] at hj
  · cases hj

/-- Clone of some bytes -/
theorem clone_any (w : World) (p : Addr) (n c : Nat) (l : List UInt8) (hn : n = l.length) (hm : l.length ≤ 1000000) (h : Shows w w.heap.size (some p) n (cells8 l)) :
    Calls Try.prog 24 #[.slice (some p) n c] w fun e w' => ∃ v, e = .returned v ∧ Hid (w'.ownsRow w.heap.size 5 1 v n (cells8 l) ∧ Below w.heap.size w w') := by
  obtain ⟨i0, hi, hz0, hz1, hz2⟩ := info_parts u8_info
  have he2 : (Op.equal 32 (.slice (some p) n c) (.slice none 0 0)).run Try.prog w = .ok false w := run_equal_slice_nil w _ _ (some p) n c Try.underlying32
  have heq : (binOp .eql 32 (.slice (some p) n c) (.slice none 0 0)).run Try.prog w = .ok (.bool false) w := by
    simp only [binOp]
    simp [he2]
  have H := Lib.hid h
  have HN := Lib.hid hn
  have hm2 : n ≤ 1000000 := by omega
  clear h hn hm he2
  have H0 : Hid ((w.alloc (.cells #[] 5)).ownsRow w.heap.size 5 1 (.slice (some ⟨w.heap.size, 0, none⟩) 0 0) 0 (cells8 [])) :=
    ⟨by simp [cells8], .inr ⟨w.heap.size, 0, #[], rfl, Nat.le_refl _, heap_alloc_new _ _, Nat.le_refl _, by unfold maxLen; omega, rfl, by simp [cells8]⟩⟩
  go_enter Try.func24, Try.ntmps24
  go_wp2_with (first
    | (at_builtin; refine wpList_append_shows _ rfl _ _ 32 rfl w.heap.size 5 i0 _ 1 Try.underlying32 hi hz0 hz1 hz2 rfl _ 0 _ rfl H0.out w.heap.size (some p) n c (cells8 l) rfl (H.out.alloc (Nat.le_refl _) _) (cells8_one _) (by unfold maxLen; omega) (by omega) (by simp) ?_; intro v' w1 hown hgr; have HO := Lib.hid hown; have HG := Lib.hid hgr; clear hown hgr)
    | fail)
  go_ret
  refine ⟨_, rfl, ?_, ?_⟩
  · have h := HO.out
    rw [Nat.zero_add] at h
    exact h
  · exact ((Below.refl _ w).alloc (Nat.le_refl _) _).trans (HG.out.below H0.out (Nat.le_refl _) (by simp))

/-- some of the sectors of bytes, in new memory -/
theorem sectors_any (w : World) (p : Addr) (cap : Nat) (d : List UInt8) (lo hi : Nat) (h1 : lo < hi) (h2 : 64 * hi ≤ d.length) (hm : d.length ≤ 1000000) (hc : d.length ≤ cap) (h : Shows w w.heap.size (some p) d.length (cells8 d)) :
    Calls Try.prog 21 #[.slice (some p) d.length cap, .int .i64 (lo : Int), .int .i64 (hi : Int)] w fun e w' => ∃ v, e = .returned v ∧ Hid (w'.ownsRow w.heap.size 5 1 v (cutD d lo hi).length (cells8 (cutD d lo hi)) ∧ Below w.heap.size w w') := by
  have hl := cutD_length d lo hi h2
  have hln : (cutD d lo hi).length = 64 * hi - 64 * lo := by omega
  rw [hln]
  have HC := Lib.hid (clone_any w (p.add (64 * lo)) (64 * hi - 64 * lo) (cap - 64 * lo) (cutD d lo hi) hln.symm (by omega) (h.cut lo hi h1 h2))
  have hsl : ∀ W : World, (Instr.sliceAt 32 (.slice (some p) d.length cap) (some (.int .i64 ((lo : Int) * 64))) (some (.int .i64 ((hi : Int) * 64))) none).run Try.prog W = .ok (.slice (some (p.add (64 * lo))) (64 * hi - 64 * lo) (cap - 64 * lo)) W := fun W => by
    have e1 : (lo : Int) * 64 = ((64 * lo : Nat) : Int) := by omega
    have e2 : (hi : Int) * 64 = ((64 * hi : Nat) : Int) := by omega
    rw [e1, e2]
    exact slice_bytes W p d.length cap (64 * lo) (64 * hi) (by omega) h2 hc
  have hlo : lo ≤ 1000000 := by omega
  have hhi : hi ≤ 1000000 := by omega
  clear hl hln h h1 h2 hm hc
  go_enter Try.func21, Try.ntmps21
  go_wp2_with (first
    | (go_at_call 24; (with_reducible refine HC.out.mono ?_); rintro e w1 ⟨v, rfl, hv⟩; have HV := Lib.hid hv; clear hv)
    | fail)
  go_ret
  exact ⟨_, rfl, HV.out⟩

/-- Data of what is not to be asked for -/
theorem okS_cells (s : SP) : okS s = decide (0 ≤ s.f ∧ s.t ≤ 4 ∧ s.f < s.t) := rfl
/-- what Data tells -/
def DataAs (w : World) (l : List UInt8) (e : Ending) (w' : World) : Prop := ∃ v, e = .returned v ∧ Hid (w'.ownsRow w.heap.size 5 1 v l.length (cells8 l) ∧ Below w.heap.size w w')
theorem DataAs.nil {w w' : World} {l : List UInt8} (hl : l = []) (hb : Below w.heap.size w w') : DataAs w l (.returned (.slice none 0 0)) w' := by
  subst hl
  exact ⟨_, rfl, World.ownsRow_nil _ _ _ _, hb⟩
set_option maxHeartbeats 4000000 in
theorem data_bad (w : World) (s : SP) (x : Int) (A : Option Addr) (n cap : Nat) (d : List UInt8) (hk : okD s x = false) :
    Calls Try.prog 13 #[.agg #[.int .i64 s.b, .int .i64 s.f, .int .i64 s.t], .int .i64 x, .slice A n cap] w (DataAs w (dataL s x d)) := by
  have hnil : dataL s x d = [] := by unfold dataL; rw [hk]
  rw [hnil]
  have HX := Lib.hid (fun W => has_any W s)
  have HE := fun p q r u w => eql_none p q r u w
  obtain ⟨b, f, t⟩ := s
  dsimp only at HX ⊢
  have hb0 := Lib.hid ((Below.refl w.heap.size w).alloc (Nat.le_refl _) (.cells #[.int .i64 b, .int .i64 f, .int .i64 t] 23))
  have hfin : ∀ w1, Below (w.alloc (.cells #[.int .i64 b, .int .i64 f, .int .i64 t] 23)).heap.size (w.alloc (.cells #[.int .i64 b, .int .i64 f, .int .i64 t] 23)) w1 → Hid (Below w.heap.size w w1) := fun w1 h => hb0.out.trans (h.mono (by simp))
  have HF := Lib.hid hfin
  clear hfin hnil
  cases ho : okS ⟨b, f, t⟩ with
  | false =>
    rw [ho] at HX
    clear hk
    go_enter Try.func13, Try.ntmps13
    go_wp2_with (first
      | (go_at_call 20; (with_reducible refine (HX.out _).mono ?_); rintro e w1 ⟨⟨p, q, r, u, rfl, hh⟩, hbel⟩; have HBE := Lib.hid hbel; have hz := hh.out.1; clear hh hbel)
      | fail)
    go_ret
    exact DataAs.nil rfl (HF.out _ HBE.out).out
  | true =>
    have hor : b < 0 ∨ 268435456 < b ∨ x < 0 ∨ 1073741824 < x := by
      unfold okD at hk
      rw [ho] at hk
      simp at hk
      omega
    rw [ho] at HX
    clear hk
    by_cases h1 : b < 0
    · clear hor
      go_enter Try.func13, Try.ntmps13
      go_wp2_with (first
      | (go_at_call 20; (with_reducible refine (HX.out _).mono ?_); rintro e w1 ⟨⟨p, q, r, u, rfl, hh⟩, hbel⟩; have hq0 : w1.cell? ⟨w.heap.size, 0, none⟩ = some (.int .i64 b) := (hbel.cell (p := ⟨w.heap.size, 0, none⟩) (by simp)).trans (by simp); have hq1 : w1.cell? ⟨w.heap.size, 1, none⟩ = some (.int .i64 f) := (hbel.cell (p := ⟨w.heap.size, 1, none⟩) (by simp)).trans (by simp); have hq2 : w1.cell? ⟨w.heap.size, 2, none⟩ = some (.int .i64 t) := (hbel.cell (p := ⟨w.heap.size, 2, none⟩) (by simp)).trans (by simp); have HBE := Lib.hid hbel; have hz := hh.out.1; clear hh hbel)
      | fail)
      go_ret
      exact DataAs.nil rfl (HF.out _ HBE.out).out
    by_cases h2 : 268435456 < b
    · clear hor
      go_enter Try.func13, Try.ntmps13
      go_wp2_with (first
      | (go_at_call 20; (with_reducible refine (HX.out _).mono ?_); rintro e w1 ⟨⟨p, q, r, u, rfl, hh⟩, hbel⟩; have hq0 : w1.cell? ⟨w.heap.size, 0, none⟩ = some (.int .i64 b) := (hbel.cell (p := ⟨w.heap.size, 0, none⟩) (by simp)).trans (by simp); have hq1 : w1.cell? ⟨w.heap.size, 1, none⟩ = some (.int .i64 f) := (hbel.cell (p := ⟨w.heap.size, 1, none⟩) (by simp)).trans (by simp); have hq2 : w1.cell? ⟨w.heap.size, 2, none⟩ = some (.int .i64 t) := (hbel.cell (p := ⟨w.heap.size, 2, none⟩) (by simp)).trans (by simp); have HBE := Lib.hid hbel; have hz := hh.out.1; clear hh hbel)
      | fail)
      go_ret
      exact DataAs.nil rfl (HF.out _ HBE.out).out
    by_cases h3 : x < 0
    · clear hor
      go_enter Try.func13, Try.ntmps13
      go_wp2_with (first
      | (go_at_call 20; (with_reducible refine (HX.out _).mono ?_); rintro e w1 ⟨⟨p, q, r, u, rfl, hh⟩, hbel⟩; have hq0 : w1.cell? ⟨w.heap.size, 0, none⟩ = some (.int .i64 b) := (hbel.cell (p := ⟨w.heap.size, 0, none⟩) (by simp)).trans (by simp); have hq1 : w1.cell? ⟨w.heap.size, 1, none⟩ = some (.int .i64 f) := (hbel.cell (p := ⟨w.heap.size, 1, none⟩) (by simp)).trans (by simp); have hq2 : w1.cell? ⟨w.heap.size, 2, none⟩ = some (.int .i64 t) := (hbel.cell (p := ⟨w.heap.size, 2, none⟩) (by simp)).trans (by simp); have HBE := Lib.hid hbel; have hz := hh.out.1; clear hh hbel)
      | fail)
      go_ret
      exact DataAs.nil rfl (HF.out _ HBE.out).out
    have h4 : 1073741824 < x := by omega
    clear hor
    go_enter Try.func13, Try.ntmps13
    go_wp2_with (first
      | (go_at_call 20; (with_reducible refine (HX.out _).mono ?_); rintro e w1 ⟨⟨p, q, r, u, rfl, hh⟩, hbel⟩; have hq0 : w1.cell? ⟨w.heap.size, 0, none⟩ = some (.int .i64 b) := (hbel.cell (p := ⟨w.heap.size, 0, none⟩) (by simp)).trans (by simp); have hq1 : w1.cell? ⟨w.heap.size, 1, none⟩ = some (.int .i64 f) := (hbel.cell (p := ⟨w.heap.size, 1, none⟩) (by simp)).trans (by simp); have hq2 : w1.cell? ⟨w.heap.size, 2, none⟩ = some (.int .i64 t) := (hbel.cell (p := ⟨w.heap.size, 2, none⟩) (by simp)).trans (by simp); have HBE := Lib.hid hbel; have hz := hh.out.1; clear hh hbel)
      | fail)
    go_ret
    exact DataAs.nil rfl (HF.out _ HBE.out).out
theorem sec_arg {w : World} {v : Value} {a b : Int} {lo hi : Nat} {R : Ending → World → Prop} (h : Calls Try.prog 21 #[v, .int .i64 (lo : Int), .int .i64 (hi : Int)] w R) (ha : a = (lo : Int)) (hb : b = (hi : Int)) : Calls Try.prog 21 #[v, .int .i64 a, .int .i64 b] w R := by rw [ha, hb]; exact h
theorem own_mono {W : World} {B B' n s : Nat} {e : TypeId} {v : Value} {xs : List Value} (h : W.ownsRow B e s v n xs) (hB : B' ≤ B) : W.ownsRow B' e s v n xs := by
  refine ⟨h.1, ?_⟩
  rcases h.2 with h | ⟨g, cap, cur, hv, hg, hh, h1, h2, h3, h4⟩
  · exact .inl h
  · exact .inr ⟨g, cap, cur, hv, Nat.le_trans hB hg, hh, h1, h2, h3, h4⟩

set_option maxHeartbeats 8000000 in
theorem data_good (w : World) (b f t x : Int) (A : Option Addr) (cap : Nat) (d : List UInt8) (hk : okD ⟨b, f, t⟩ x = true) (hm : d.length ≤ 5000) (hc : d.length ≤ cap) (hs : Shows w w.heap.size A d.length (cells8 d)) :
    Calls Try.prog 13 #[.agg #[.int .i64 b, .int .i64 f, .int .i64 t], .int .i64 x, .slice A d.length cap] w (DataAs w (dataL ⟨b, f, t⟩ x d)) := by
  have HX := Lib.hid (fun W => has_any W ⟨b, f, t⟩)
  have HE := fun p q r u w => eql_none p q r u w
  dsimp only at HX
  have hk2 := hk
  unfold okD okS at hk2
  simp at hk2
  obtain ⟨⟨hf0, ht4, hft⟩, hb0', hb1', hx0', hx1'⟩ := hk2
  have ho : okS ⟨b, f, t⟩ = true := by unfold okS; simp; omega
  rw [ho] at HX
  have hdl : dataL ⟨b, f, t⟩ x d = toD ⟨b, f, t⟩ x d t := by unfold dataL; rw [hk]
  rw [hdl]
  have hb0 := Lib.hid ((Below.refl w.heap.size w).alloc (Nat.le_refl _) (.cells #[.int .i64 b, .int .i64 f, .int .i64 t] 23))
  have hfin : ∀ w1, Below (w.alloc (.cells #[.int .i64 b, .int .i64 f, .int .i64 t] 23)).heap.size (w.alloc (.cells #[.int .i64 b, .int .i64 f, .int .i64 t] 23)) w1 → Hid (Below w.heap.size w w1) := fun w1 h => hb0.out.trans (h.mono (by simp))
  have HF := Lib.hid hfin
  have HS := Lib.hid hs
  have HDL := Lib.hid (show toD ⟨b, f, t⟩ x d t = cutD d (max (4 * b + f - x) 0).toNat (min (4 * b + t - x) ((d.length / 64 : Nat) : Int)).toNat from rfl)
  have hq64 : ((d.length / 64 : Nat) : Int) = (d.length : Int) / 64 := by omega
  rw [hq64] at HDL
  clear hfin hdl ho hk hs hq64
  have hlq : (0 : Int) ≤ (d.length : Int) / 64 := by omega
  rcases (show b * 4 + f - x < 0 ∨ 0 ≤ b * 4 + f - x by omega) with g1 | g1 <;> rcases (show (d.length : Int) / 64 < b * 4 + t - x ∨ b * 4 + t - x ≤ (d.length : Int) / 64 by omega) with g2 | g2
  · by_cases g3 : (d.length : Int) / 64 ≤ (0 : Int)
    · have hnil : toD ⟨b, f, t⟩ x d t = [] := by rw [HDL.out]; exact cutD_none _ _ _ (by omega)
      have HN := Lib.hid hnil
      clear hnil HDL HS
      go_enter Try.func13, Try.ntmps13
      go_wp2_with (first
            | (go_at_call 20; (with_reducible refine (HX.out _).mono ?_); rintro e w1 ⟨⟨p, q, r, u, rfl, hh⟩, hbel⟩; have hq0 : w1.cell? ⟨w.heap.size, 0, none⟩ = some (.int .i64 b) := (hbel.cell (p := ⟨w.heap.size, 0, none⟩) (by simp)).trans (by simp); have hq1 : w1.cell? ⟨w.heap.size, 1, none⟩ = some (.int .i64 f) := (hbel.cell (p := ⟨w.heap.size, 1, none⟩) (by simp)).trans (by simp); have hq2 : w1.cell? ⟨w.heap.size, 2, none⟩ = some (.int .i64 t) := (hbel.cell (p := ⟨w.heap.size, 2, none⟩) (by simp)).trans (by simp); have HBE := Lib.hid hbel; have hz := hh.out.1; clear hh hbel)
            | fail)
      go_ret
      exact DataAs.nil HN.out (HF.out _ HBE.out).out
    · obtain ⟨lo, hlo⟩ := Int.eq_ofNat_of_zero_le (show 0 ≤ (0 : Int) by omega)
      obtain ⟨hi, hhi⟩ := Int.eq_ofNat_of_zero_le (show 0 ≤ (d.length : Int) / 64 by omega)
      have hcut : toD ⟨b, f, t⟩ x d t = cutD d lo hi := by
        rw [HDL.out]
        congr 1
        · omega
        · omega
      obtain ⟨p0, rfl, _, _⟩ := HS.out.lies (by omega)
      have HSEC := Lib.hid (fun W hW => sectors_any W p0 cap d lo hi (by omega) (by omega) (by omega) hc (show Shows W W.heap.size (some p0) d.length (cells8 d) from hW))
      have HCUT := Lib.hid hcut
      have HE1 := Lib.hid hlo
      have HE2 := Lib.hid hhi
      have hSW : ∀ w1, Below (w.alloc (.cells #[.int .i64 b, .int .i64 f, .int .i64 t] 23)).heap.size (w.alloc (.cells #[.int .i64 b, .int .i64 f, .int .i64 t] 23)) w1 → Hid (Shows w1 w1.heap.size (some p0) d.length (cells8 d)) := fun w1 h => (((HS.out.alloc (Nat.le_refl _) (.cells #[.int .i64 b, .int .i64 f, .int .i64 t] 23)).wide (by simp)).below h).wide h.size
      have HSW := Lib.hid hSW
      clear hcut hlo hhi hSW HDL
      go_enter Try.func13, Try.ntmps13
      go_wp2_with (first
        | (go_at_call 20; (with_reducible refine (HX.out _).mono ?_); rintro e w1 ⟨⟨p, q, r, u, rfl, hh⟩, hbel⟩; have hq0 : w1.cell? ⟨w.heap.size, 0, none⟩ = some (.int .i64 b) := (hbel.cell (p := ⟨w.heap.size, 0, none⟩) (by simp)).trans (by simp); have hq1 : w1.cell? ⟨w.heap.size, 1, none⟩ = some (.int .i64 f) := (hbel.cell (p := ⟨w.heap.size, 1, none⟩) (by simp)).trans (by simp); have hq2 : w1.cell? ⟨w.heap.size, 2, none⟩ = some (.int .i64 t) := (hbel.cell (p := ⟨w.heap.size, 2, none⟩) (by simp)).trans (by simp); have HBE := Lib.hid hbel; have hz := hh.out.1; clear hh hbel)
        | (go_at_call 21; (with_reducible refine (sec_arg (HSEC.out _ (HSW.out _ HBE.out).out) HE1.out HE2.out).mono ?_); rintro e w2 ⟨v, rfl, hv⟩; have HV := Lib.hid hv; clear hv)
        | fail)
      go_ret
      refine ⟨_, rfl, ?_, ?_⟩
      · rw [HCUT.out]
        exact own_mono HV.out.1 (by have := (HF.out _ HBE.out).out.size; omega)
      · exact (HF.out _ HBE.out).out.trans (HV.out.2.mono (HF.out _ HBE.out).out.size)
  · by_cases g3 : b * 4 + t - x ≤ (0 : Int)
    · have hnil : toD ⟨b, f, t⟩ x d t = [] := by rw [HDL.out]; exact cutD_none _ _ _ (by omega)
      have HN := Lib.hid hnil
      clear hnil HDL HS
      go_enter Try.func13, Try.ntmps13
      go_wp2_with (first
            | (go_at_call 20; (with_reducible refine (HX.out _).mono ?_); rintro e w1 ⟨⟨p, q, r, u, rfl, hh⟩, hbel⟩; have hq0 : w1.cell? ⟨w.heap.size, 0, none⟩ = some (.int .i64 b) := (hbel.cell (p := ⟨w.heap.size, 0, none⟩) (by simp)).trans (by simp); have hq1 : w1.cell? ⟨w.heap.size, 1, none⟩ = some (.int .i64 f) := (hbel.cell (p := ⟨w.heap.size, 1, none⟩) (by simp)).trans (by simp); have hq2 : w1.cell? ⟨w.heap.size, 2, none⟩ = some (.int .i64 t) := (hbel.cell (p := ⟨w.heap.size, 2, none⟩) (by simp)).trans (by simp); have HBE := Lib.hid hbel; have hz := hh.out.1; clear hh hbel)
            | fail)
      go_ret
      exact DataAs.nil HN.out (HF.out _ HBE.out).out
    · obtain ⟨lo, hlo⟩ := Int.eq_ofNat_of_zero_le (show 0 ≤ (0 : Int) by omega)
      obtain ⟨hi, hhi⟩ := Int.eq_ofNat_of_zero_le (show 0 ≤ b * 4 + t - x by omega)
      have hcut : toD ⟨b, f, t⟩ x d t = cutD d lo hi := by
        rw [HDL.out]
        congr 1
        · omega
        · omega
      obtain ⟨p0, rfl, _, _⟩ := HS.out.lies (by omega)
      have HSEC := Lib.hid (fun W hW => sectors_any W p0 cap d lo hi (by omega) (by omega) (by omega) hc (show Shows W W.heap.size (some p0) d.length (cells8 d) from hW))
      have HCUT := Lib.hid hcut
      have HE1 := Lib.hid hlo
      have HE2 := Lib.hid hhi
      have hSW : ∀ w1, Below (w.alloc (.cells #[.int .i64 b, .int .i64 f, .int .i64 t] 23)).heap.size (w.alloc (.cells #[.int .i64 b, .int .i64 f, .int .i64 t] 23)) w1 → Hid (Shows w1 w1.heap.size (some p0) d.length (cells8 d)) := fun w1 h => (((HS.out.alloc (Nat.le_refl _) (.cells #[.int .i64 b, .int .i64 f, .int .i64 t] 23)).wide (by simp)).below h).wide h.size
      have HSW := Lib.hid hSW
      clear hcut hlo hhi hSW HDL
      go_enter Try.func13, Try.ntmps13
      go_wp2_with (first
        | (go_at_call 20; (with_reducible refine (HX.out _).mono ?_); rintro e w1 ⟨⟨p, q, r, u, rfl, hh⟩, hbel⟩; have hq0 : w1.cell? ⟨w.heap.size, 0, none⟩ = some (.int .i64 b) := (hbel.cell (p := ⟨w.heap.size, 0, none⟩) (by simp)).trans (by simp); have hq1 : w1.cell? ⟨w.heap.size, 1, none⟩ = some (.int .i64 f) := (hbel.cell (p := ⟨w.heap.size, 1, none⟩) (by simp)).trans (by simp); have hq2 : w1.cell? ⟨w.heap.size, 2, none⟩ = some (.int .i64 t) := (hbel.cell (p := ⟨w.heap.size, 2, none⟩) (by simp)).trans (by simp); have HBE := Lib.hid hbel; have hz := hh.out.1; clear hh hbel)
        | (go_at_call 21; (with_reducible refine (sec_arg (HSEC.out _ (HSW.out _ HBE.out).out) HE1.out HE2.out).mono ?_); rintro e w2 ⟨v, rfl, hv⟩; have HV := Lib.hid hv; clear hv)
        | fail)
      go_ret
      refine ⟨_, rfl, ?_, ?_⟩
      · rw [HCUT.out]
        exact own_mono HV.out.1 (by have := (HF.out _ HBE.out).out.size; omega)
      · exact (HF.out _ HBE.out).out.trans (HV.out.2.mono (HF.out _ HBE.out).out.size)
  · by_cases g3 : (d.length : Int) / 64 ≤ b * 4 + f - x
    · have hnil : toD ⟨b, f, t⟩ x d t = [] := by rw [HDL.out]; exact cutD_none _ _ _ (by omega)
      have HN := Lib.hid hnil
      clear hnil HDL HS
      go_enter Try.func13, Try.ntmps13
      go_wp2_with (first
            | (go_at_call 20; (with_reducible refine (HX.out _).mono ?_); rintro e w1 ⟨⟨p, q, r, u, rfl, hh⟩, hbel⟩; have hq0 : w1.cell? ⟨w.heap.size, 0, none⟩ = some (.int .i64 b) := (hbel.cell (p := ⟨w.heap.size, 0, none⟩) (by simp)).trans (by simp); have hq1 : w1.cell? ⟨w.heap.size, 1, none⟩ = some (.int .i64 f) := (hbel.cell (p := ⟨w.heap.size, 1, none⟩) (by simp)).trans (by simp); have hq2 : w1.cell? ⟨w.heap.size, 2, none⟩ = some (.int .i64 t) := (hbel.cell (p := ⟨w.heap.size, 2, none⟩) (by simp)).trans (by simp); have HBE := Lib.hid hbel; have hz := hh.out.1; clear hh hbel)
            | fail)
      go_ret
      exact DataAs.nil HN.out (HF.out _ HBE.out).out
    · obtain ⟨lo, hlo⟩ := Int.eq_ofNat_of_zero_le (show 0 ≤ b * 4 + f - x by omega)
      obtain ⟨hi, hhi⟩ := Int.eq_ofNat_of_zero_le (show 0 ≤ (d.length : Int) / 64 by omega)
      have hcut : toD ⟨b, f, t⟩ x d t = cutD d lo hi := by
        rw [HDL.out]
        congr 1
        · omega
        · omega
      obtain ⟨p0, rfl, _, _⟩ := HS.out.lies (by omega)
      have HSEC := Lib.hid (fun W hW => sectors_any W p0 cap d lo hi (by omega) (by omega) (by omega) hc (show Shows W W.heap.size (some p0) d.length (cells8 d) from hW))
      have HCUT := Lib.hid hcut
      have HE1 := Lib.hid hlo
      have HE2 := Lib.hid hhi
      have hSW : ∀ w1, Below (w.alloc (.cells #[.int .i64 b, .int .i64 f, .int .i64 t] 23)).heap.size (w.alloc (.cells #[.int .i64 b, .int .i64 f, .int .i64 t] 23)) w1 → Hid (Shows w1 w1.heap.size (some p0) d.length (cells8 d)) := fun w1 h => (((HS.out.alloc (Nat.le_refl _) (.cells #[.int .i64 b, .int .i64 f, .int .i64 t] 23)).wide (by simp)).below h).wide h.size
      have HSW := Lib.hid hSW
      clear hcut hlo hhi hSW HDL
      go_enter Try.func13, Try.ntmps13
      go_wp2_with (first
        | (go_at_call 20; (with_reducible refine (HX.out _).mono ?_); rintro e w1 ⟨⟨p, q, r, u, rfl, hh⟩, hbel⟩; have hq0 : w1.cell? ⟨w.heap.size, 0, none⟩ = some (.int .i64 b) := (hbel.cell (p := ⟨w.heap.size, 0, none⟩) (by simp)).trans (by simp); have hq1 : w1.cell? ⟨w.heap.size, 1, none⟩ = some (.int .i64 f) := (hbel.cell (p := ⟨w.heap.size, 1, none⟩) (by simp)).trans (by simp); have hq2 : w1.cell? ⟨w.heap.size, 2, none⟩ = some (.int .i64 t) := (hbel.cell (p := ⟨w.heap.size, 2, none⟩) (by simp)).trans (by simp); have HBE := Lib.hid hbel; have hz := hh.out.1; clear hh hbel)
        | (go_at_call 21; (with_reducible refine (sec_arg (HSEC.out _ (HSW.out _ HBE.out).out) HE1.out HE2.out).mono ?_); rintro e w2 ⟨v, rfl, hv⟩; have HV := Lib.hid hv; clear hv)
        | fail)
      go_ret
      refine ⟨_, rfl, ?_, ?_⟩
      · rw [HCUT.out]
        exact own_mono HV.out.1 (by have := (HF.out _ HBE.out).out.size; omega)
      · exact (HF.out _ HBE.out).out.trans (HV.out.2.mono (HF.out _ HBE.out).out.size)
  · by_cases g3 : b * 4 + t - x ≤ b * 4 + f - x
    · exact absurd g3 (by omega)
    · obtain ⟨lo, hlo⟩ := Int.eq_ofNat_of_zero_le (show 0 ≤ b * 4 + f - x by omega)
      obtain ⟨hi, hhi⟩ := Int.eq_ofNat_of_zero_le (show 0 ≤ b * 4 + t - x by omega)
      have hcut : toD ⟨b, f, t⟩ x d t = cutD d lo hi := by
        rw [HDL.out]
        congr 1
        · omega
        · omega
      obtain ⟨p0, rfl, _, _⟩ := HS.out.lies (by omega)
      have HSEC := Lib.hid (fun W hW => sectors_any W p0 cap d lo hi (by omega) (by omega) (by omega) hc (show Shows W W.heap.size (some p0) d.length (cells8 d) from hW))
      have HCUT := Lib.hid hcut
      have HE1 := Lib.hid hlo
      have HE2 := Lib.hid hhi
      have hSW : ∀ w1, Below (w.alloc (.cells #[.int .i64 b, .int .i64 f, .int .i64 t] 23)).heap.size (w.alloc (.cells #[.int .i64 b, .int .i64 f, .int .i64 t] 23)) w1 → Hid (Shows w1 w1.heap.size (some p0) d.length (cells8 d)) := fun w1 h => (((HS.out.alloc (Nat.le_refl _) (.cells #[.int .i64 b, .int .i64 f, .int .i64 t] 23)).wide (by simp)).below h).wide h.size
      have HSW := Lib.hid hSW
      clear hcut hlo hhi hSW HDL
      go_enter Try.func13, Try.ntmps13
      go_wp2_with (first
        | (go_at_call 20; (with_reducible refine (HX.out _).mono ?_); rintro e w1 ⟨⟨p, q, r, u, rfl, hh⟩, hbel⟩; have hq0 : w1.cell? ⟨w.heap.size, 0, none⟩ = some (.int .i64 b) := (hbel.cell (p := ⟨w.heap.size, 0, none⟩) (by simp)).trans (by simp); have hq1 : w1.cell? ⟨w.heap.size, 1, none⟩ = some (.int .i64 f) := (hbel.cell (p := ⟨w.heap.size, 1, none⟩) (by simp)).trans (by simp); have hq2 : w1.cell? ⟨w.heap.size, 2, none⟩ = some (.int .i64 t) := (hbel.cell (p := ⟨w.heap.size, 2, none⟩) (by simp)).trans (by simp); have HBE := Lib.hid hbel; have hz := hh.out.1; clear hh hbel)
        | (go_at_call 21; (with_reducible refine (sec_arg (HSEC.out _ (HSW.out _ HBE.out).out) HE1.out HE2.out).mono ?_); rintro e w2 ⟨v, rfl, hv⟩; have HV := Lib.hid hv; clear hv)
        | fail)
      go_ret
      refine ⟨_, rfl, ?_, ?_⟩
      · rw [HCUT.out]
        exact own_mono HV.out.1 (by have := (HF.out _ HBE.out).out.size; omega)
      · exact (HF.out _ HBE.out).out.trans (HV.out.2.mono (HF.out _ HBE.out).out.size)
end Go.Proofs.Ytbencgjihoiieaa
