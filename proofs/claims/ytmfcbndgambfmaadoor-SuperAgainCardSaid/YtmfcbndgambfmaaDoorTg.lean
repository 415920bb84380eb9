/- Two superblocks, compared; a living disk's saves. -/
import Derived.Test.YtmfcbndgambfmaaDoorTe
import Derived.Test.YtmfcbndgambfmaaDoorTf
import Derived.DeepKeys
set_option linter.unusedVariables false
namespace Go.Proofs.YtmfcbndgambfmaaDoor.Q
open Go.RowKit

def eqP (a b : SU) : Bool := (a.p0 : Int) == (b.p0 : Int) && ((a.p1 : Int) == (b.p1 : Int) && ((a.p2 : Int) == (b.p2 : Int) && ((a.p3 : Int) == (b.p3 : Int) && ((a.p4 : Int) == (b.p4 : Int) && (a.p5 : Int) == (b.p5 : Int)))))
def eqS (a b : SU) : Bool := (a.tx : Int) == (b.tx : Int) && (a.m == b.m && (a.d == b.d && (eqP a b && ((a.tp : Int) == (b.tp : Int) && ((a.ba : Int) == (b.ba : Int) && ((a.sg : Int) == (b.sg : Int) && (a.c == b.c && ((a.ep : Int) == (b.ep : Int) && ((a.la : Int) == (b.la : Int) && ((a.sq : Int) == (b.sq : Int) && ((a.bl : Int) == (b.bl : Int) && ((a.bs : Int) == (b.bs : Int) && a.mkd == b.mkd))))))))))))
theorem eqS_iff (a b : SU) : eqS a b = true ↔ a = b := by
  obtain ⟨a0, a1, a2, a3, a4, a5, a6, a7, a8, a9, a10, a11, a12, a13, a14, a15, a16, a17, a18⟩ := a
  obtain ⟨b0, b1, b2, b3, b4, b5, b6, b7, b8, b9, b10, b11, b12, b13, b14, b15, b16, b17, b18⟩ := b
  simp [eqS, eqP, Int.ofNat_inj]
  intro _ _ _
  constructor
  · rintro ⟨⟨h3, h4, h5, h6, h7, h8⟩, h9⟩
    exact ⟨h3, h4, h5, h6, h7, h8, h9⟩
  · rintro ⟨h3, h4, h5, h6, h7, h8, h9⟩
    exact ⟨⟨h3, h4, h5, h6, h7, h8⟩, h9⟩
theorem ite_and {p : Prop} [Decidable p] {t : Bool} {w : World} : (if p then Result.ok (Value.bool t) w else Result.ok (Value.bool false) w) = Result.ok (Value.bool (decide p && t)) w := by split <;> simp [*]
theorem beq_dec (x y : Int) : (x == y) = decide (x = y) := by by_cases h : x = y <;> simp [h]
theorem beq_decb (x y : Bool) : (x == y) = decide (x = y) := by cases x <;> cases y <;> rfl
theorem u32_cells : Tryd.prog.cellsOf 33 = 1 := by kernel_rfl
theorem eql_arr (a0 a1 a2 a3 a4 a5 b0 b1 b2 b3 b4 b5 : Int) (w : World) : (Op.equalIn 9999 34 (.agg #[.int .u32 a0, .int .u32 a1, .int .u32 a2, .int .u32 a3, .int .u32 a4, .int .u32 a5]) (.agg #[.int .u32 b0, .int .u32 b1, .int .u32 b2, .int .u32 b3, .int .u32 b4, .int .u32 b5])).run Tryd.prog w = .ok (a0 == b0 && (a1 == b1 && (a2 == b2 && (a3 == b3 && (a4 == b4 && a5 == b5))))) w := by
  obtain ⟨i, hi, _⟩ := info_parts u32_info
  rw [run_equalIn_array w 9998 _ _ Tryd.underlying34 hi, u32_cells]
  have e : List.range 6 = [0, 1, 2, 3, 4, 5] := by decide
  rw [e]
  simp only [Op.eqItems]
  go_simp
  repeat' split
  all_goals simp_all
set_option maxHeartbeats 2000000 in
theorem eql_sup (a b : SU) (w : World) : (binOp .eql 36 (.agg a.cells) (.agg b.cells)).run Tryd.prog w = .ok (.bool (eqS a b)) w := by
  rw [run_eql_struct]
  unfold SU.cells
  have harr := eql_arr a.p0 a.p1 a.p2 a.p3 a.p4 a.p5 b.p0 b.p1 b.p2 b.p3 b.p4 b.p5
  obtain ⟨r, hr⟩ : ∃ r, eqP a b = r := ⟨_, rfl⟩
  have hr2 := hr
  unfold eqP at hr2
  rw [hr2] at harr
  clear hr2
  have he : eqS a b = ((a.tx : Int) == (b.tx : Int) && (a.m == b.m && (a.d == b.d && (r && ((a.tp : Int) == (b.tp : Int) && ((a.ba : Int) == (b.ba : Int) && ((a.sg : Int) == (b.sg : Int) && (a.c == b.c && ((a.ep : Int) == (b.ep : Int) && ((a.la : Int) == (b.la : Int) && ((a.sq : Int) == (b.sq : Int) && ((a.bl : Int) == (b.bl : Int) && ((a.bs : Int) == (b.bs : Int) && a.mkd == b.mkd))))))))))))) := by rw [eqS, hr]
  rw [he]
  clear he hr
  cases r
  · go_simp
  · go_simp
    simp only [ite_and, beq_dec, beq_decb, Bool.and_true]

/-! ### a living disk -/
def lastD (d : RD) (i : Nat) : SB := (d.s.getD i []).getLastD 0
structure Live (d : RD) : Prop where
  fuse : d.fuse < 0
  dead : d.dead = false
theorem Live.moves {d : RD} (h : Live d) : movesB d = true ∧ movesD d = d := by
  have h1 := h.fuse
  have h2 := h.dead
  have h3 : ¬ (d.dead = true ∨ d.fuse = 0) := by rw [h2]; simp; omega
  refine ⟨(movesB_iff d).2 h3, ?_⟩
  unfold movesD
  rw [if_neg h3, if_neg (by omega)]
theorem rdC_last {d : RD} {n : Int} (h : thereN d n) : rdC d n = lastD d n.toNat := if_pos h
theorem last_set (d : RD) (n : Nat) (x : List SB) (h : n < d.s.length) (i : Nat) : ((d.s.set n x).getD i []).getLastD 0 = if i = n then x.getLastD 0 else lastD d i := by
  by_cases e : i = n
  · subst e
    rw [if_pos rfl, List.getD_eq_getElem?_getD, List.getElem?_set_self h]
    rfl
  · rw [if_neg e, List.getD_eq_getElem?_getD, List.getElem?_set_ne (fun x => e x.symm), ← List.getD_eq_getElem?_getD]
    rfl
theorem Live.wr {d : RD} (h : Live d) (n : Nat) (hn : n < d.s.length) (c : SB) : Live (wrD d (n : Int) c) ∧ ∀ i, lastD (wrD d (n : Int) c) i = if i = n then c else lastD d i := by
  have e : wrD d (n : Int) c = writeD d n c := by
    unfold wrD
    rw [if_pos ⟨by omega, by omega⟩, if_pos h.moves.1, h.moves.2]
    rfl
  rw [e]
  refine ⟨⟨h.fuse, h.dead⟩, fun i => ?_⟩
  show ((d.s.set n (d.s.getD n [] ++ [c])).getD i []).getLastD 0 = _
  rw [last_set d n _ hn]
  simp
theorem Live.fl {d : RD} (h : Live d) : flR d = 0 ∧ Live (flD d) ∧ ∀ i, lastD (flD d) i = lastD d i := by
  have e : flD d = flushD d := by unfold flD; rw [if_pos h.moves.1, h.moves.2]
  refine ⟨if_pos h.moves.1, ?_, fun i => ?_⟩
  · rw [e]; exact ⟨h.fuse, h.dead⟩
  · rw [e]
    show ((d.s.map fun l => [l.getLastD 0]).getD i []).getLastD 0 = (d.s.getD i []).getLastD 0
    rw [List.getD_eq_getElem?_getD, List.getElem?_map, List.getD_eq_getElem?_getD]
    cases d.s[i]? <;> rfl
theorem Live.wrK {d : RD} (h : Live d) (k : Nat) (l : List UInt8) : ∀ (n i : Nat), k * 4 + i + n ≤ d.s.length → (Q.wrK d k l n i).1 = 0 ∧ Live (Q.wrK d k l n i).2 ∧ ∀ j, lastD (Q.wrK d k l n i).2 j = if k * 4 + i ≤ j ∧ j < k * 4 + i + n then partS l (j - k * 4) else lastD d j := by
  intro n
  induction n generalizing d with
  | zero =>
    intro i _
    refine ⟨rfl, h, fun j => ?_⟩
    rw [if_neg (by omega)]
    rfl
  | succ n ih =>
    intro i hl
    have e : ((k : Int) * 4 + (i : Int)) = ((k * 4 + i : Nat) : Int) := by push_cast; rfl
    obtain ⟨h1, h2⟩ := h.wr (k * 4 + i) (by omega) (partS l i)
    have e2 : Q.wrK d k l (n + 1) i = Q.wrK (wrD d ((k * 4 + i : Nat) : Int) (partS l i)) k l n (i + 1) := by
      rw [Q.wrK, if_pos h.moves.1, e]
    rw [e2]
    obtain ⟨i1, i2, i3⟩ := ih h1 (i + 1) (by rw [wrD_len]; omega)
    refine ⟨i1, i2, fun j => ?_⟩
    rw [i3, h2]
    by_cases c1 : j = k * 4 + i
    · subst c1
      rw [if_neg (by omega), if_pos rfl, if_pos (by omega)]
      congr 1
      omega
    · by_cases c2 : k * 4 + (i + 1) ≤ j ∧ j < k * 4 + (i + 1) + n
      · rw [if_pos c2, if_pos (by omega)]
      · rw [if_neg c2, if_neg c1, if_neg (by omega)]
/-- a save on a living disk -/
theorem Live.save {d : RD} (h : Live d) (h8 : 8 ≤ d.s.length) (s : SU) (hm : s.may = true) : (saveK d s).1 = 0 ∧ Live (saveK d s).2 ∧ (saveK d s).2.s.length = d.s.length ∧
    ∀ j, lastD (saveK d s).2 j = if s.tx % 2 * 4 ≤ j ∧ j < s.tx % 2 * 4 + 4 then partS s.img (j - s.tx % 2 * 4) else lastD d j := by
  have hk : s.tx % 2 < 2 := by omega
  obtain ⟨k, hkk⟩ : ∃ k, s.tx % 2 = k := ⟨_, rfl⟩
  have hs : saveK d s = if (wipeK d k).1 = 0 then if (writeK (wipeK d k).2 k s.img).1 = 0 then (flR (writeK (wipeK d k).2 k s.img).2, flD (writeK (wipeK d k).2 k s.img).2) else writeK (wipeK d k).2 k s.img else wipeK d k := by
    unfold saveK; rw [if_pos hm, hkk]
  rw [hs, hkk]
  rw [hkk] at hk
  have hw : (wipeK d k).1 = 0 ∧ Live (wipeK d k).2 ∧ ∀ j, ¬ (k * 4 ≤ j ∧ j < k * 4 + 4) → lastD (wipeK d k).2 j = lastD d j := by
    unfold wipeK
    split
    · exact ⟨rfl, h, fun _ _ => rfl⟩
    · rw [if_pos h.moves.1]
      have e : ((k : Int) * 4) = ((k * 4 : Nat) : Int) := by push_cast; rfl
      rw [e]
      obtain ⟨h1, h2⟩ := h.wr (k * 4) (by omega) 0
      obtain ⟨f1, f2, f3⟩ := h1.fl
      exact ⟨f1, f2, fun j hj => by rw [f3, h2, if_neg (by omega)]⟩
  obtain ⟨w1, w2, w3⟩ := hw
  have wl := wipeK_len d k
  obtain ⟨v1, v2, v3⟩ := w2.wrK k s.img 4 0 (by omega)
  obtain ⟨f1, f2, f3⟩ := v2.fl
  have hv : (writeK (wipeK d k).2 k s.img).1 = 0 := v1
  rw [if_pos w1, if_pos hv]
  refine ⟨f1, f2, ?_, fun j => ?_⟩
  · show (flD _).s.length = _
    rw [flD_len]
    exact (wrK_len k s.img 4 0 _).trans wl
  · show lastD (flD (Q.wrK (wipeK d k).2 k s.img 4 0).2) j = _
    rw [f3, v3]
    by_cases c : k * 4 ≤ j ∧ j < k * 4 + 4
    · rw [if_pos (by omega), if_pos c]
    · rw [if_neg (by omega), if_neg c, w3 j c]
theorem parts_all (l : List UInt8) (hl : l.length = 256) : (partS l 0).1 ++ (partS l 1).1 ++ (partS l 2).1 ++ (partS l 3).1 = l := by
  rw [partS_eq l hl 0 (by omega), partS_eq l hl 1 (by omega), partS_eq l hl 2 (by omega), partS_eq l hl 3 (by omega)]
  unfold part
  have t : ∀ (l : List UInt8) n m, l.take n ++ (l.drop n).take m = l.take (n + m) := fun l n m => by rw [List.take_add]
  rw [show (l.drop (0 * 64)).take 64 = l.take 64 by simp, t l 64 64, show 2 * 64 = 64 + 64 by rfl, t l (64 + 64) 64, show 3 * 64 = 64 + 64 + 64 by rfl, t l (64 + 64 + 64) 64]
  exact List.take_of_length_le (by omega)
/-- a block of the disk, by its last sectors -/
theorem blkAt_last (d : RD) (k : Nat) (hk : k * 4 + 4 ≤ d.s.length) : blkAt d k = (lastD d (k * 4)).1 ++ (lastD d (k * 4 + 1)).1 ++ (lastD d (k * 4 + 2)).1 ++ (lastD d (k * 4 + 3)).1 := by
  have h : ∀ i, i < 4 → rdC d ((k * 4 + i : Nat) : Int) = lastD d (k * 4 + i) := fun i hi => rdC_last ⟨by omega, by omega⟩
  show (((([] ++ (rdC d ((k * 4 + 0 : Nat) : Int)).1) ++ (rdC d ((k * 4 + 1 : Nat) : Int)).1) ++ (rdC d ((k * 4 + 2 : Nat) : Int)).1) ++ (rdC d ((k * 4 + 3 : Nat) : Int)).1) = _
  rw [h 0 (by omega), h 1 (by omega), h 2 (by omega), h 3 (by omega)]
  rfl
theorem Live.saved {d : RD} (h : Live d) (h8 : 8 ≤ d.s.length) (s : SU) (hm : s.may = true) : blkAt (saveK d s).2 (s.tx % 2) = s.img ∧ ∀ k, k ≠ s.tx % 2 → k * 4 + 4 ≤ d.s.length → blkAt (saveK d s).2 k = blkAt d k := by
  obtain ⟨_, _, hl, hj⟩ := h.save h8 s hm
  have hk : s.tx % 2 < 2 := by omega
  refine ⟨?_, fun k hne hk4 => ?_⟩
  · rw [blkAt_last _ _ (by omega), hj, hj, hj, hj, if_pos (by omega), if_pos (by omega), if_pos (by omega), if_pos (by omega)]
    rw [show s.tx % 2 * 4 - s.tx % 2 * 4 = 0 by omega, show s.tx % 2 * 4 + 1 - s.tx % 2 * 4 = 1 by omega, show s.tx % 2 * 4 + 2 - s.tx % 2 * 4 = 2 by omega, show s.tx % 2 * 4 + 3 - s.tx % 2 * 4 = 3 by omega]
    exact parts_all _ s.img_len
  · rw [blkAt_last _ _ (by omega), blkAt_last _ _ hk4, hj, hj, hj, hj, if_neg (by omega), if_neg (by omega), if_neg (by omega), if_neg (by omega)]
end Go.Proofs.YtmfcbndgambfmaaDoor.Q
