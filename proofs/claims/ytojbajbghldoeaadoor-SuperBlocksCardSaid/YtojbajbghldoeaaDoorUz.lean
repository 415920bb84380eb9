/- SuperBlocks: what the walk needs, and the walk (Tl Ua Bs Ti Tj Tk Ub Uc in one text) -/
import Derived.Test.YtojbajbghldoeaaDoorTh
import Derived.Laws.MakeOwn
import Derived.Test.YtojbajbghldoeaaDoorRows
import Derived.Test.YtojbajbghldoeaaDoorBc
import Derived.Test.YtojbajbghldoeaaDoorCa
import Derived.ProofKit
import Derived.LaidMore
import Derived.OpenShut
import Derived.Stop.Joined
import Derived.Lib.LaidTab
import Derived.Lib.SmallJoins
import Derived.Deep.Slices
import Derived.Deep.RegionHeld3
import Derived.Deep.DeepCutAuto
section
/- Write to a block that a disk has not. -/
set_option linter.unusedVariables false
namespace Go.Proofs.YtojbajbghldoeaaDoor.Q
open Go.RowKit
set_option maxRecDepth 100000 in
set_option maxHeartbeats 4000000 in
theorem write_out {w : World} {F : Nat → Prop} {b : Nat} {d : RD} (h : PD w F b d) (k : Int) (hk : ¬ hasK d k) (l : List UInt8) (hl : l.length = 256) : Calls Tryd.prog 30 #[.pointer (some ⟨b, 0, none⟩), .int .i64 k, .agg (cells8 l).toArray] w fun e w' => e = .returned (.int .i64 2) ∧ Below w.heap.size w w' := by
  have hcs := cells8_size l
  have HP := Lib.hid (fun (W : World) (hb : Below w.heap.size w W) => place_any' (h.below hb) k)
  rw [plK_no hk] at HP
  have HB := Lib.hid ((Below.refl _ w).alloc (Nat.le_refl _) (.cells (cells8 l).toArray 29))
  clear h
  go_enter Tryd.func30, Tryd.ntmps30
  go_wp2_with (first
    | (go_at_call 58; (with_reducible refine (HP.out _ HB.out).mono ?_); rintro e w1 ⟨rfl, rfl⟩)
    | fail)
  go_ret
  exact ⟨rfl, HB.out⟩
/-- a block is written on a living disk -/
theorem Live.writeK {d : RD} (h : Live d) (k : Nat) (hk : k * 4 + 4 ≤ d.s.length) (l : List UInt8) (hl : l.length = 256) : (Q.writeK d k l).1 = 0 ∧ Live (Q.writeK d k l).2 ∧ (Q.writeK d k l).2.s.length = d.s.length ∧ blkAt (Q.writeK d k l).2 k = l ∧ ∀ j, j ≠ k → j * 4 + 4 ≤ d.s.length → blkAt (Q.writeK d k l).2 j = blkAt d j := by
  obtain ⟨v1, v2, v3⟩ := h.wrK k l 4 0 (by omega)
  have vl : (Q.writeK d k l).2.s.length = d.s.length := wrK_len k l 4 0 d
  refine ⟨v1, v2, vl, ?_, fun j hj hj4 => ?_⟩
  · rw [blkAt_last _ _ (by omega)]
    show (lastD (Q.wrK d k l 4 0).2 _).1 ++ (lastD (Q.wrK d k l 4 0).2 _).1 ++ (lastD (Q.wrK d k l 4 0).2 _).1 ++ (lastD (Q.wrK d k l 4 0).2 _).1 = l
    rw [v3, v3, v3, v3, if_pos (by omega), if_pos (by omega), if_pos (by omega), if_pos (by omega)]
    rw [show k * 4 - k * 4 = 0 by omega, show k * 4 + 1 - k * 4 = 1 by omega, show k * 4 + 2 - k * 4 = 2 by omega, show k * 4 + 3 - k * 4 = 3 by omega]
    exact parts_all l hl
  · rw [blkAt_last _ _ (by omega), blkAt_last _ _ hj4]
    show (lastD (Q.wrK d k l 4 0).2 _).1 ++ (lastD (Q.wrK d k l 4 0).2 _).1 ++ (lastD (Q.wrK d k l 4 0).2 _).1 ++ (lastD (Q.wrK d k l 4 0).2 _).1 = _
    rw [v3, v3, v3, v3, if_neg (by omega), if_neg (by omega), if_neg (by omega), if_neg (by omega)]
theorem KS.write {w W : World} {b : Nat} {d : RD} (h : KS w W b d) (k : Nat) (hk : hasK d (k : Int)) (l : List UInt8) (hl : l.length = 256) (hs : Short d 4) {er : Int} (he : (writeK d k l).1 = er) :
    Calls Tryd.prog 30 #[.pointer (some ⟨b, 0, none⟩), .int .i64 (k : Int), .agg (cells8 l).toArray] W fun e w' => e = .returned (.int .i64 er) ∧ Hid (KS w w' b (writeK d k l).2) := by
  obtain ⟨F, h1, h2, h3⟩ := h
  refine (write_any' h1 k hk l hl hs).mono fun e w' hp => ⟨?_, KS.done h3 h2 hp⟩
  rw [← he]
  exact hp.1
theorem KS.write_out {w W : World} {b : Nat} {d : RD} (h : KS w W b d) (k : Int) (hk : ¬ hasK d k) (l : List UInt8) (hl : l.length = 256) :
    Calls Tryd.prog 30 #[.pointer (some ⟨b, 0, none⟩), .int .i64 k, .agg (cells8 l).toArray] W fun e w' => e = .returned (.int .i64 2) ∧ Hid (KS w w' b d) := by
  have h0 := h
  obtain ⟨F, h1, h2, h3⟩ := h
  exact (Q.write_out h1 k hk l hl).mono fun e w' hp => ⟨hp.1, h0.below hp.2⟩
theorem KS.read {w W : World} {b : Nat} {d : RD} (h : KS w W b d) (k : Nat) (hk : hasK d (k : Int)) :
    Calls Tryd.prog 31 #[.pointer (some ⟨b, 0, none⟩), .int .i64 (k : Int)] W fun e w' => e = .returned (.tuple #[.agg (cells8 (blkAt d k)).toArray, .int .i64 0]) ∧ Hid (KS w w' b d) := by
  have h0 := h
  obtain ⟨F, h1, h2, h3⟩ := h
  exact (read_any' h1 k hk).mono fun e w' hp => ⟨hp.1, h0.below hp.2⟩
theorem KS.read_out {w W : World} {b : Nat} {d : RD} (h : KS w W b d) (k : Int) (hk : ¬ hasK d k) :
    Calls Tryd.prog 31 #[.pointer (some ⟨b, 0, none⟩), .int .i64 k] W fun e w' => e = .returned (.tuple #[.agg (cells8 noughts).toArray, .int .i64 2]) ∧ Hid (KS w w' b d) := by
  have h0 := h
  obtain ⟨F, h1, h2, h3⟩ := h
  exact (Q.read_out h1 k hk).mono fun e w' hp => ⟨hp.1, h0.below hp.2⟩
end Go.Proofs.YtojbajbghldoeaaDoor.Q
end

section
/- Ten blocks in a row, and a disk beside them. -/
set_option linter.unusedVariables false
namespace Go.Proofs.YtojbajbghldoeaaDoor.Q
open Go.RowKit

/-- the k-th block of a row of blocks -/
def blkH (H : List UInt8) (k : Nat) : List UInt8 := (H.drop (k * 256)).take 256
/-- it is another -/
def setH (H : List UInt8) (k : Nat) (l : List UInt8) : List UInt8 := H.take (k * 256) ++ l ++ H.drop (k * 256 + 256)
theorem blkH_get (H : List UInt8) (k i : Nat) : (blkH H k)[i]? = if i < 256 then H[k * 256 + i]? else none := by
  unfold blkH
  rw [List.getElem?_take]
  split
  · rw [List.getElem?_drop]
  · rfl
theorem blkH_len (H : List UInt8) (k : Nat) (h : k * 256 + 256 ≤ H.length) : (blkH H k).length = 256 := by
  rw [blkH, List.length_take, List.length_drop]
  omega
theorem setH_len (H l : List UInt8) (k : Nat) (h : k * 256 + 256 ≤ H.length) (hl : l.length = 256) : (setH H k l).length = H.length := by
  rw [setH, List.length_append, List.length_append, List.length_take, List.length_drop]
  omega
theorem setH_get (H l : List UInt8) (k x : Nat) (h : k * 256 + 256 ≤ H.length) (hl : l.length = 256) : (setH H k l)[x]? = if k * 256 ≤ x ∧ x < k * 256 + 256 then l[x - k * 256]? else H[x]? := by
  have h1 : (H.take (k * 256)).length = k * 256 := by rw [List.length_take]; omega
  unfold setH
  rcases Nat.lt_or_ge x (k * 256) with hx | hx
  · rw [if_neg (by omega), List.append_assoc, List.getElem?_append_left (by omega), List.getElem?_take, if_pos hx]
  · rcases Nat.lt_or_ge x (k * 256 + 256) with hy | hy
    · rw [if_pos ⟨hx, hy⟩, List.append_assoc, List.getElem?_append_right (show (H.take (k * 256)).length ≤ x by rw [h1]; exact hx), h1, List.getElem?_append_left (show x - k * 256 < l.length by omega)]
    · have h2 : (H.take (k * 256) ++ l).length = k * 256 + 256 := by rw [List.length_append, h1, hl]
      rw [if_neg (by omega), List.getElem?_append_right (show (H.take (k * 256) ++ l).length ≤ x by rw [h2]; exact hy), h2, List.getElem?_drop, show k * 256 + 256 + (x - (k * 256 + 256)) = x by omega]
set_option maxRecDepth 10000 in
theorem blkH_same (H l : List UInt8) (k : Nat) (h : k * 256 + 256 ≤ H.length) (hl : l.length = 256) : blkH (setH H k l) k = l := by
  apply List.ext_getElem?
  intro i
  rw [blkH_get, setH_get H l k _ h hl]
  by_cases hi : i < 256
  · rw [if_pos hi, if_pos (by omega)]
    congr 1
    omega
  · rw [if_neg hi, List.getElem?_eq_none (by omega)]
theorem blkH_other (H l : List UInt8) (k j : Nat) (h : k * 256 + 256 ≤ H.length) (hl : l.length = 256) (hj : j ≠ k) : blkH (setH H k l) j = blkH H j := by
  apply List.ext_getElem?
  intro i
  rw [blkH_get, blkH_get, setH_get H l k _ h hl]
  by_cases hi : i < 256
  · rw [if_pos hi, if_pos hi, if_neg (by omega)]
  · rw [if_neg hi, if_neg hi]
theorem blkH_noughts (k : Nat) (h : k < 10) : blkH (List.replicate 2560 0) k = noughts := by
  apply List.ext_getElem?
  intro i
  rw [blkH_get]
  unfold noughts
  rw [List.getElem?_replicate, List.getElem?_replicate]
  by_cases hi : i < 256
  · rw [if_pos hi, if_pos hi, if_pos (by omega)]
  · rw [if_neg hi, if_neg hi]
set_option maxRecDepth 10000 in
theorem new_blk (n k : Nat) (hk : k * 4 + 4 ≤ n) : blkAt (newD n) k = noughts := by
  have hl : (newD n).s.length = n := by simp [newD]
  have h0 : ∀ i, i < n → (lastD (newD n) i).1 = List.replicate 64 0 := fun i hi => by
    show (((List.replicate n [(0 : SB)]).getD i []).getLastD 0).1 = _
    rw [List.getD_eq_getElem?_getD, List.getElem?_replicate, if_pos hi]
    rfl
  rw [blkAt_last _ _ (by omega), h0 _ (by omega), h0 _ (by omega), h0 _ (by omega), h0 _ (by omega)]
  unfold noughts
  simp only [List.replicate_append_replicate]

theorem blk_info : (Tryd.prog.info? 29).map (fun i => (i.zero, i.size, i.bytes)) = some (some (.agg (cells8 noughts).toArray), 256, 256) := by kernel_rfl
set_option maxRecDepth 10000 in
theorem made_blk : madeCells (cells8 noughts).toArray 2560 = (cells8 (List.replicate 2560 0)).toArray := by
  have e1 : cells8 noughts = List.replicate 256 (.int .u8 0) := by
    unfold cells8 noughts
    rw [List.map_replicate]
    rfl
  have e2 : cells8 (List.replicate 2560 0) = List.replicate 2560 (.int .u8 0) := by
    unfold cells8
    rw [List.map_replicate]
    rfl
  rw [e1, e2]
  apply Array.ext
  · rw [size_madeCells, List.size_toArray, List.length_replicate]
  · intro i h1 h2
    have hs : (List.replicate 256 (Value.int .u8 0)).toArray.size = 256 := by rw [List.size_toArray, List.length_replicate]
    have hi : i % 256 < 256 := Nat.mod_lt _ (by omega)
    simp only [madeCells, Array.getElem_map, Array.getElem_range, hs]
    rw [getElem!_pos _ _ (by rw [hs]; exact hi)]
    simp only [List.getElem_toArray, List.getElem_replicate]
set_option maxRecDepth 10000 in
theorem make_blks (w : World) : (Instr.makeSlice 65 (.int .i64 10) (.int .i64 10)).run Tryd.prog w = .ok (.slice (some ⟨w.heap.size, 0, none⟩) 10 10) (w.alloc (.cells (cells8 (List.replicate 2560 0)).toArray 29)) := by
  obtain ⟨i, hi, hzz⟩ := Option.map_eq_some_iff.1 blk_info
  simp only [Prod.mk.injEq] at hzz
  obtain ⟨hz, hs, hb⟩ := hzz
  have h := run_makeSlice (P := Tryd.prog) w 65 29 i _ Tryd.underlying65 hi hz .i64 .i64 10 10 (by omega) (by omega) (by rw [hs]; decide) (by rw [hb]; decide) (by omega)
  rw [hs] at h
  have e : (Value.agg (cells8 noughts).toArray).cells = (cells8 noughts).toArray := rfl
  rw [e, show (10 : Int).toNat * 256 = 2560 from rfl, made_blk] at h
  exact h

/-- a disk of the call's own, and a row beside it -/
def KH (w W : World) (b g : Nat) (d : RD) (H : List UInt8) : Prop := ∃ F, PD W F b d ∧ (∀ k, F k → w.heap.size ≤ k ∧ k ≠ g) ∧ Below w.heap.size w W ∧ Holds8 W g 29 H ∧ w.heap.size ≤ g
theorem KH.b {w W : World} {b g : Nat} {d : RD} {H : List UInt8} (h : KH w W b g d H) : Below w.heap.size w W := h.elim fun _ h => h.2.2.1
theorem KH.row {w W : World} {b g : Nat} {d : RD} {H : List UInt8} (h : KH w W b g d H) : Holds8 W g 29 H := h.elim fun _ h => h.2.2.2.1
theorem KH.below {w W W' : World} {b g : Nat} {d : RD} {H : List UInt8} (h : KH w W b g d H) (hb : Below W.heap.size W W') : KH w W' b g d H := by
  obtain ⟨F, h1, h2, h3, h4, h5⟩ := h
  exact ⟨F, h1.below hb, h2, h3.trans (hb.mono h3.size), h4.below hb, h5⟩
theorem KH.make {w W : World} {b : Nat} {d : RD} (h : KS w W b d) (H : List UInt8) : KH w (W.alloc (.cells (cells8 H).toArray 29)) b W.heap.size d H := by
  obtain ⟨F, h1, h2, h3⟩ := h
  have ha := (Below.refl W.heap.size W).alloc (Nat.le_refl _) (.cells (cells8 H).toArray 29)
  exact ⟨F, h1.below ha, fun k hk => ⟨h2 k hk, fun e => by have := h1.lt hk; omega⟩, h3.trans (ha.mono h3.size), Holds8.new W _ H _ rfl, h3.size⟩
theorem KH.write {w W : World} {b g : Nat} {d : RD} {H : List UInt8} (h : KH w W b g d H) (k : Nat) (hk : hasK d (k : Int)) (l : List UInt8) (hl : l.length = 256) (hs : Short d 4) {er : Int} (he : (writeK d k l).1 = er) :
    Calls Tryd.prog 30 #[.pointer (some ⟨b, 0, none⟩), .int .i64 (k : Int), .agg (cells8 l).toArray] W fun e w' => e = .returned (.int .i64 er) ∧ Hid (KH w w' b g (writeK d k l).2 H) := by
  obtain ⟨F, h1, h2, h3, h4, h5⟩ := h
  refine (write_any' h1 k hk l hl hs).mono fun e w' hp => ⟨?_, ?_⟩
  · rw [← he]; exact hp.1
  · obtain ⟨_, F', g1, g2, g3⟩ := hp
    have hs3 := h3.size
    have hg := h4.lt
    exact ⟨F', g1, fun j hj => (g2 j hj).elim (h2 j) (fun e => ⟨by omega, by omega⟩), h3.trans (g3.below hs3 (fun j hj => (h2 j hj).1)), (g3.block g hg (fun e => (h2 g e).2 rfl)).trans h4, h5⟩
theorem KH.write_out {w W : World} {b g : Nat} {d : RD} {H : List UInt8} (h : KH w W b g d H) (k : Int) (hk : ¬ hasK d k) (l : List UInt8) (hl : l.length = 256) :
    Calls Tryd.prog 30 #[.pointer (some ⟨b, 0, none⟩), .int .i64 k, .agg (cells8 l).toArray] W fun e w' => e = .returned (.int .i64 2) ∧ Hid (KH w w' b g d H) := by
  have h0 := h
  obtain ⟨F, h1, _⟩ := h
  exact (Q.write_out h1 k hk l hl).mono fun e w' hp => ⟨hp.1, h0.below hp.2⟩
theorem KH.read {w W : World} {b g : Nat} {d : RD} {H : List UInt8} (h : KH w W b g d H) (k : Nat) (hk : hasK d (k : Int)) :
    Calls Tryd.prog 31 #[.pointer (some ⟨b, 0, none⟩), .int .i64 (k : Int)] W fun e w' => e = .returned (.tuple #[.agg (cells8 (blkAt d k)).toArray, .int .i64 0]) ∧ Hid (KH w w' b g d H) := by
  have h0 := h
  obtain ⟨F, h1, _⟩ := h
  exact (read_any' h1 k hk).mono fun e w' hp => ⟨hp.1, h0.below hp.2⟩
theorem KH.read_out {w W : World} {b g : Nat} {d : RD} {H : List UInt8} (h : KH w W b g d H) (k : Int) (hk : ¬ hasK d k) :
    Calls Tryd.prog 31 #[.pointer (some ⟨b, 0, none⟩), .int .i64 k] W fun e w' => e = .returned (.tuple #[.agg (cells8 noughts).toArray, .int .i64 2]) ∧ Hid (KH w w' b g d H) := by
  have h0 := h
  obtain ⟨F, h1, _⟩ := h
  exact (Q.read_out h1 k hk).mono fun e w' hp => ⟨hp.1, h0.below hp.2⟩
/-- a block of the row is another -/
theorem KH.put {w W : World} {b g : Nat} {d : RD} {H : List UInt8} (h : KH w W b g d H) (k : Nat) (l : List UInt8) : KH w (W.setRow g (cells8 (setH H k l)).toArray) b g d (setH H k l) := by
  obtain ⟨F, h1, h2, h3, h4, h5⟩ := h
  have ho : ∀ j, j ≠ g → (W.setRow g (cells8 (setH H k l)).toArray).heap[j]? = W.heap[j]? := fun j hj => setRow_other _ _ _ _ hj
  refine ⟨F, h1.on (fun j hj => ho j (h2 j hj).2), h2, below_setRow h3 h5 _, ?_, h5⟩
  exact setRow_heap _ _ _ _ _ _ h4
set_option maxRecDepth 10000 in
theorem KH.store {w W : World} {b g : Nat} {d : RD} {H : List UInt8} (h : KH w W b g d H) (k : Nat) (l : List UInt8) (hl : l.length = 256) (hk : k * 256 + 256 ≤ H.length) :
    (storeVar 29 ⟨g, k * 256, none⟩ (.agg (cells8 l).toArray)).run Tryd.prog W = .ok () (W.setRow g (cells8 (setH H k l)).toArray) := by
  have h4 := h.row
  have hst := run_storeCells_at (P := Tryd.prog) g (k * 256) 29 (cells8 l) 0 (cells8 H).toArray W h4 (by rw [cells8_length, cells8_size]; omega) (cells8_one l)
  have e : (cells8 H).toArray.toList.take (k * 256 + 0) ++ cells8 l ++ (cells8 H).toArray.toList.drop (k * 256 + 0 + (cells8 l).length) = cells8 (setH H k l) := by
    rw [List.toList_toArray, cells8_length, hl, Nat.add_zero, setH, cells8_append, cells8_append, cells8_take, cells8_drop]
  rw [e] at hst
  obtain ⟨i, hq, hzz⟩ := Option.map_eq_some_iff.1 blk_info
  simp only [Prod.mk.injEq] at hzz
  have key : ∀ cs : Array Value, cs.size = i.size → (storeCells ⟨g, k * 256, none⟩ cs.toList).run Tryd.prog W = .ok () (W.setRow g (cells8 (setH H k l)).toArray) → (storeVar 29 ⟨g, k * 256, none⟩ (.agg cs)).run Tryd.prog W = .ok () (W.setRow g (cells8 (setH H k l)).toArray) := by
    intro cs h1 h2
    simp [storeVar, sizeOf, typeInfo, hq, Value.cells, h1, h2]
  exact key (cells8 l).toArray (by rw [cells8_size, hl, hzz.2.1]) hst
end Go.Proofs.YtojbajbghldoeaaDoor.Q
end

section
/- From what the row lists to what the walks ask; nodes, blocks that came in as arguments. -/
namespace Go.Proofs.YtojbajbghldoeaaDoor
open Go.RowKit Go.ChangeShapes Go.WideShapes Go.Deep Go.WideMaps Go.WideElems

def laidL : List (String × DataW Unit) := [("math/bits.deBruijn32tab", Rows.laid_math_bits_deBruijn32tab), ("math/bits.deBruijn64tab", Rows.laid_math_bits_deBruijn64tab)]

theorem door_met (os : Os) (args : Array Value) : laidMetH Tryd.prog laidL ((World.doorLaid Tryd.prog 400 os).forCall (fun _ _ => 0) ⟨#[], args, []⟩).memory :=
  laidMetH_of_parts3 (fuel := 8) (laidMet_of_run' 8 (by kernel_rfl) (by kernel_rfl)) (by kernel_rfl) (by kernel_rfl)

theorem gTab : Tryd.prog.globalNamed "math/bits.deBruijn64tab" = some 2 := by kernel_rfl
theorem tTab : (Tryd.prog.globals[2]?).map (·.type) = some 113 := by kernel_rfl
theorem tabs_of {W : World} (h : laidMetH Tryd.prog laidL W) : Tabs W := by
  rw [MakeChecks.laidMetH_plain _ _ _ (by kernel_rfl)] at h
  obtain ⟨ps, ⟨g0, t0, cs0, f0, p0, q0, hg0, ht0, hv0, hd0, ⟨g1, t1, cs1, f1, p1, q1, hg1, ht1, hv1, hd1, _, _⟩, _⟩, _, _⟩ := h
  obtain rfl := Option.some.inj (gTab.symm.trans hg1)
  obtain rfl := Option.some.inj (tTab.symm.trans ht1)
  have e : (Rows.laid_math_bits_deBruijn64tab : DataW Unit) = Lib.tabData .u8 db64 := rfl
  rw [e] at hd1
  have hcs := Lib.cells_of_tab Tryd.underlying113 Tryd.underlying5 (by kernel_rfl) (by kernel_rfl) hd1
  have hT : Lib.TabIs Tryd.prog W "math/bits.deBruijn64tab" .u8 db64 := by
    unfold Lib.TabIs
    rw [hv1, ← hcs]
  intro i hi
  exact hT.cell gTab i (by simpa [db64] using hi)

theorem nat32 {z : Int} (h : (Lit.int .u32 z).wf = true) : ∃ u : Nat, z = (u : Int) ∧ u < 4294967296 := by
  have hb := bounds_u32 h
  exact ⟨z.toNat, by omega, by omega⟩
theorem nat64 {z : Int} (h : (Lit.int .u64 z).wf = true) : ∃ u : Nat, z = (u : Int) ∧ u < 18446744073709551616 := by
  have hb := bounds_u64 h
  exact ⟨z.toNat, by omega, by omega⟩
theorem byte_of {z : Int} (h : (Lit.int .u8 z).wf = true) : ∃ b : UInt8, z = (b.toNat : Int) := by
  have hb := bounds_u8 h
  exact ⟨UInt8.ofNat z.toNat, by simp; omega⟩
theorem bytes_list : ∀ {cs : List Value}, (∀ i, i < cs.length → ∃ z : Int, cs[i]? = some (.int .u8 z) ∧ (Lit.int .u8 z).wf = true) → ∃ l : List UInt8, l.length = cs.length ∧ cs = cells8 l
  | [], _ => ⟨[], rfl, rfl⟩
  | c :: cs, h => by
    obtain ⟨z, hz, hw⟩ := h 0 (by simp)
    obtain ⟨b, rfl⟩ := byte_of hw
    obtain ⟨l, hl, he⟩ := bytes_list (cs := cs) fun i hi => h (i + 1) (by simpa using hi)
    refine ⟨b :: l, by simp [hl], ?_⟩
    simp at hz
    rw [hz, he]
    simp [cells8]

section
variable {H : Type} {enc : TypeId × Value → H} {w : World} {base : Nat} {held : Bool}
/-- a slice of numbers, read -/
theorem nums_of {fuel : Nat} {v : Value} {x : DataW H × List MemPlace} (h : DataW.trod enc Tryd.prog w base (fun _ => true) held fuel 25 [v] = some x) :
    ∃ (A : Option Addr) (l : List Nat) (cap : Nat), v = .slice A l.length cap ∧ Shows w w.heap.size A l.length (nums64 l) ∧ ∀ k ∈ l, k < 18446744073709551616 := by
  rcases open_ints Tryd.underlying25 Tryd.underlying24 (by kernel_rfl) h with ⟨hcs, _⟩ | ⟨a, len, cap, zs, hcs, _, hl, hm, hz, _, hcell, hwz⟩
  · injection hcs with hcs _
    exact ⟨none, [], 0, hcs, Shows.empty _ _ _, by simp⟩
  · injection hcs with hcs _
    have hz' : zs.length = cap := by simpa using hz
    have hlen : ((zs.take len).map Int.toNat).length = len := by simp; omega
    refine ⟨some a, (zs.take len).map Int.toNat, cap, by rw [hlen]; exact hcs, ?_, ?_⟩
    · have hc : ∀ j u, (nums64 ((zs.take len).map Int.toNat))[j]? = some u → w.cell? (a.add j) = some u := by
        intro j u hu
        have hj : j < len := by
          rcases Nat.lt_or_ge j len with h1 | h1
          · exact h1
          · rw [List.getElem?_eq_none (by rw [nums64_length, hlen]; exact h1)] at hu; cases hu
        have hjz : j < zs.length := by omega
        rw [hcell j (by omega), ← hu, nums64_get _ j (by rw [hlen]; exact hj)]
        have hb := bounds_u64 (hwz _ (List.getElem_mem hjz))
        simp [List.getD, hjz, hj]
        omega
      refine ⟨by rw [nums64_length], fun hp => ⟨a, rfl, ?_, hc⟩⟩
      rw [hlen] at hp
      have h0 := hcell 0 (by omega)
      have := block_lt_of_cell h0
      rwa [addr_block] at this
    · intro k hk
      obtain ⟨z, hzm, rfl⟩ := List.mem_map.1 hk
      have hb := bounds_u64 (hwz _ (List.mem_of_mem_take hzm))
      omega

theorem node_fields : ∃ f0 f1 f2 f3 : Field, Tryd.prog.underlying 27 = some (.struct #[f0, f1, f2, f3]) ∧
    (f0.type = 23 ∧ f0.offset = 0) ∧ (f1.type = 24 ∧ f1.offset = 1) ∧ (f2.type = 25 ∧ f2.offset = 2) ∧ (f3.type = 25 ∧ f3.offset = 3) := by
  exact ⟨_, _, _, _, Tryd.underlying27, ⟨rfl, rfl⟩, ⟨rfl, rfl⟩, ⟨rfl, rfl⟩, ⟨rfl, rfl⟩⟩

set_option maxRecDepth 100000 in
/-- a node, read -/
theorem node_of {b0 : Nat} {v : Value} {d : DataW H} {p : List MemPlace} (hv : Value.okWide Tryd.prog w .any b0 27 v) (h : DataW.Trod enc Tryd.prog w base (fun _ => true) held 27 v d p) :
    ∃ (kind : Int) (birth : Nat) (keys vals : List Nat) (A A' : Option Addr) (ck cv : Nat), v = .agg #[.int .i64 kind, .int .u64 (birth : Int), .slice A keys.length ck, .slice A' vals.length cv] ∧ (ND.mk kind birth keys vals).fits ∧
      Shows w w.heap.size A keys.length (nums64 keys) ∧ Shows w w.heap.size A' vals.length (nums64 vals) := by
  have s4 : Tryd.prog.cellsOf 27 = 4 := by kernel_rfl
  have s0 : Tryd.prog.cellsOf 23 = 1 := by kernel_rfl
  have s1 : Tryd.prog.cellsOf 24 = 1 := by kernel_rfl
  have s2 : Tryd.prog.cellsOf 25 = 1 := by kernel_rfl
  obtain ⟨f0, f1, f2, f3, hu, ⟨t0, o0⟩, ⟨t1, o1⟩, ⟨t2, o2⟩, ⟨t3, o3⟩⟩ := node_fields
  have hv2 := okWide_struct hu hv
  obtain ⟨cs, hv3, hsz⟩ := hv2
  subst hv3
  obtain ⟨fuel, hf0⟩ := h
  have hf0 : DataW.trod enc Tryd.prog w base (fun _ => true) held fuel 27 cs.toList = some (d, p) := by simpa [Value.cells] using hf0
  obtain ⟨xs, n, _, _, _, hxl, hf⟩ := DataW.trod_struct hu hf0
  rw [s4] at hsz
  obtain ⟨a0, a1, a2, a3, rfl⟩ := Joins.array4 hsz
  have hx : ∀ i, i < 4 → ∃ y, xs[i]? = some y := fun i hi => ⟨xs[i]'(by rw [hxl]; exact hi), List.getElem?_eq_getElem _⟩
  obtain ⟨y0, e0⟩ := hx 0 (by omega)
  obtain ⟨y1, e1⟩ := hx 1 (by omega)
  obtain ⟨y2, e2⟩ := hx 2 (by omega)
  obtain ⟨y3, e3⟩ := hx 3 (by omega)
  have h0 := (hf 0 f0 rfl).trans e0
  have h1 := (hf 1 f1 rfl).trans e1
  have h2 := (hf 2 f2 rfl).trans e2
  have h3 := (hf 3 f3 rfl).trans e3
  rw [t0, o0, s0] at h0
  rw [t1, o1, s1] at h1
  rw [t2, o2, s2] at h2
  rw [t3, o3, s2] at h3
  simp only [List.drop_zero, List.drop_succ_cons, List.take_succ_cons, List.take_zero] at h0 h1 h2 h3
  obtain ⟨z0, c0, _, w0⟩ := DataW.trod_int Tryd.underlying23 h0
  obtain ⟨z1, c1, _, w1⟩ := DataW.trod_int Tryd.underlying24 h1
  injection c0 with c0 _
  injection c1 with c1 _
  subst c0
  subst c1
  obtain ⟨b1, rfl, hb1⟩ := nat64 w1
  obtain ⟨A, keys, ck, rfl, hs, hk⟩ := nums_of h2
  obtain ⟨A', vals, cv, rfl, hs', hk'⟩ := nums_of h3
  exact ⟨z0, b1, keys, vals, A, A', ck, cv, rfl, ⟨hb1, hk, hk'⟩, hs, hs'⟩

set_option maxRecDepth 100000 in
/-- a block, read -/
theorem block_of {b0 : Nat} {v : Value} {d : DataW H} {p : List MemPlace} (hv : Value.okWide Tryd.prog w .any b0 29 v) (h : DataW.Trod enc Tryd.prog w base (fun _ => true) held 29 v d p) :
    ∃ l : List UInt8, l.length = 256 ∧ v = .agg (cells8 l).toArray := by
  have s256 : Tryd.prog.cellsOf 29 = 256 := by kernel_rfl
  have s1 : Tryd.prog.cellsOf 5 = 1 := by kernel_rfl
  obtain ⟨cs, rfl⟩ : ∃ cs, v = .agg cs := by
    simp only [Value.okWide, Tryd.underlying29] at hv
    obtain ⟨cs, h1, _⟩ := hv
    exact ⟨cs, h1⟩
  obtain ⟨fuel, hf⟩ := h
  have hf : DataW.trod enc Tryd.prog w base (fun _ => true) held fuel 29 cs.toList = some (d, p) := by simpa [Value.cells] using hf
  obtain ⟨xs, m, _, _, hl, hxl, hi⟩ := DataW.trod_array Tryd.underlying29 hf
  rw [s256] at hl
  obtain ⟨l, hll, he⟩ := bytes_list (cs := cs.toList) fun i hlt => by
    have hi' := hi i (by omega)
    rw [s1, Nat.mul_one, List.drop_eq_getElem_cons hlt] at hi'
    simp only [List.take_succ_cons, List.take_zero] at hi'
    obtain ⟨y, hy⟩ : ∃ y, xs[i]? = some y := ⟨xs[i]'(by omega), List.getElem?_eq_getElem _⟩
    obtain ⟨z, hz, _, hw⟩ := DataW.trod_int Tryd.underlying5 (hi'.trans hy)
    have hz := (List.cons.inj hz).1
    exact ⟨z, by rw [List.getElem?_eq_getElem hlt, hz], hw⟩
  refine ⟨l, by omega, ?_⟩
  rw [← he]
end
end Go.Proofs.YtojbajbghldoeaaDoor
end

section
/- Super without a disk, or with a short one. -/
set_option linter.unusedVariables false
namespace Go.Proofs.YtojbajbghldoeaaDoor.Q
open Go.RowKit

theorem sectors_nil (w : World) : Calls Tryd.prog 62 #[.pointer none] w fun e w' => e = .returned (.int .i64 0) ∧ w' = w := by
  go_enter Tryd.func62, Tryd.ntmps62
  go_wp2_with (go_at_call 66; refine (none_nil _).mono ?_; rintro e w' ⟨rfl, rfl⟩)
  go_ret
  exact ⟨rfl, rfl⟩
set_option maxRecDepth 100000 in
set_option maxHeartbeats 4000000 in
theorem read_nil (w : World) (k : Int) : Calls Tryd.prog 31 #[.pointer none, .int .i64 k] w fun e w' => e = .returned (.tuple #[.agg (cells8 noughts).toArray, .int .i64 1]) ∧ Below w.heap.size w w' := by
  have hz := blk_zero
  have hcs := cells8_size noughts
  have HP := Lib.hid (fun (W : World) => place_nil W k (sectors_nil W))
  have HB := Lib.hid ((Below.refl _ w).alloc (Nat.le_refl _) (.cells (cells8 noughts).toArray 29))
  have HNEW := Lib.hid (heap_alloc_new w (.cells (cells8 noughts).toArray 29))
  go_enter Tryd.func31, Tryd.ntmps31
  go_wp2_with (first
    | (go_at_call 58; (with_reducible refine (HP.out _).mono ?_); rintro e w1 ⟨rfl, rfl⟩)
    | refine wpList_store_row rfl 29 (.tmp 4) (.tmp 16) rfl w.heap.size (cells8 noughts).toArray rfl rfl 29 (cells8 noughts).toArray HNEW.out (by rw [blk_sz _ noughts_len]; simp) rfl (all_oneCell_toArray (cells8_one _)) ?_
    | fail)
  exact bodyPost_ret (results_cell_tmp rfl _ _ w.heap.size 29 (cells8 noughts).toArray (0, 0) _ (.int .i64 1) rfl rfl (setRow_heap _ _ _ _ _ _ HNEW.out) blk_u rfl (by rw [blk_sz _ noughts_len]; simp)) rfl ⟨rfl, below_setRow HB.out (Nat.le_refl _) _⟩
set_option maxRecDepth 100000 in
set_option maxHeartbeats 4000000 in
theorem write_nil (w : World) (k : Int) (l : List UInt8) (hl : l.length = 256) : Calls Tryd.prog 30 #[.pointer none, .int .i64 k, .agg (cells8 l).toArray] w fun e w' => e = .returned (.int .i64 1) ∧ Below w.heap.size w w' := by
  have hcs := cells8_size l
  have HP := Lib.hid (fun (W : World) => place_nil W k (sectors_nil W))
  have HB := Lib.hid ((Below.refl _ w).alloc (Nat.le_refl _) (.cells (cells8 l).toArray 29))
  go_enter Tryd.func30, Tryd.ntmps30
  go_wp2_with (first
    | (go_at_call 58; (with_reducible refine (HP.out _).mono ?_); rintro e w1 ⟨rfl, rfl⟩)
    | fail)
  go_ret
  exact ⟨rfl, HB.out⟩
set_option maxRecDepth 100000 in
set_option maxHeartbeats 4000000 in
theorem save_nil (w : World) (s : SU) : Calls Tryd.prog 33 #[.pointer none, .agg s.cells] w fun e w' => e = .returned (.int .i64 1) ∧ Below w.heap.size w w' := by
  have HB := Lib.hid ((Below.refl _ w).alloc (Nat.le_refl _) (.cells s.cells 50))
  have hs : s.cells.size = 19 := rfl
  obtain ⟨cs, hcs⟩ : ∃ cs, s.cells = cs := ⟨_, rfl⟩
  rw [hcs] at HB hs ⊢
  clear hcs
  go_enter Tryd.func33, Tryd.ntmps33
  go_wp2_with (first
    | (go_at_call 62; (with_reducible refine (sectors_nil _).mono ?_); rintro e w1 ⟨rfl, rfl⟩)
    | fail)
  go_ret
  exact ⟨rfl, HB.out⟩
set_option maxRecDepth 100000 in
set_option maxHeartbeats 4000000 in
theorem save_bad {w : World} {F : Nat → Prop} {b : Nat} {d : RD} (hT : Tabs w) (hW : Wids w) (h : PD w F b d) (s : SU) (hf : s.fits) (hm : s.may = false) :
    Calls Tryd.prog 33 #[.pointer (some ⟨b, 0, none⟩), .agg s.cells] w (PDone w F b 2 d) := by
  have HTW : Hid (∀ W, Below w.heap.size w W → Tabs W ∧ Wids W) := Lib.hid (fun W hb => ⟨hT.below hb hT.size, hW.below hb hW.size⟩)
  have HH := Lib.hid h
  have n0 : ((d.s.length : Int) == 0) = false := by have := h.n0; rw [beq_eq_false_iff_ne]; omega
  have HSEC := Lib.hid (fun (W : World) (hb : Below w.heap.size w W) => pd_sectors (h.below hb))
  have HBL := Lib.hid (fun (W : World) (hb : Below w.heap.size w W) => SU.block W (HTW.out W hb).1 (HTW.out W hb).2 s hf)
  have HSL := Lib.hid (fun (W : World) => slotOf_any W s hf)
  have hz2 := blk_zero
  have hsc : s.cells.size = 19 := rfl
  have hbl : s.blk.length = 256 := blkB_len _ _ s.img_len
  have hst := fun w => store_blk w noughts s.blk noughts_len hbl
  have hbc : (cells8 s.blk).length = 256 := by rw [cells8_length, hbl]
  have HIM := Lib.hid s.img_len
  have e1 : s.err = 2 := by rw [SU.err, hm]; rfl
  rw [e1] at HBL
  have HBA := Lib.hid ((Below.refl _ w).alloc (Nat.le_refl _) (.cells s.cells 50))
  have HRG : Hid (∀ W, Below (w.alloc (.cells s.cells 50)).heap.size (w.alloc (.cells s.cells 50)) W → W.rangeAt w.heap.size 0 s.cells.toList) := Lib.hid (fun W hb j u hu => by
    rw [Joins.cell_of_block ((hb.block _ (by simp)).trans (heap_alloc_new w _)), Nat.zero_add, ← Array.getElem?_toList]; exact hu)
  obtain ⟨cl, hcl⟩ : ∃ cl : List Value, s.cells = cl.toArray := ⟨s.cells.toList, by simp⟩
  rw [hcl] at HBL HSL HBA hsc HRG ⊢
  rw [List.toList_toArray] at HRG
  have hsc' : cl.length = 19 := by simpa using hsc
  have hinf : (Tryd.prog.info? 50).map (·.size) = some cl.length := by rw [hsc']; kernel_rfl
  clear hT hW h hf hm e1 hcl HSL
  generalize s.blk = l at *
  go_enter Tryd.func33, Tryd.ntmps33
  go_wp2_with (first
    | (go_at_call 62; (with_reducible refine (HSEC.out _ HBA.out).mono ?_); rintro e w1 ⟨rfl, rfl⟩)
    | refine wpList_load_mid rfl 50 (.tmp 3) rfl w.heap.size 0 rfl cl _ (HRG.out _ (by with_reducible first | exact Below.refl _ _ | exact HB2.out)) Tryd.underlying50 rfl hinf ?_
    | (go_at_call 24; (with_reducible refine (HBL.out _ HBA.out).mono ?_); rintro e w2 ⟨rfl, hb2⟩; have HB2 := Lib.hid (hb2.alloc hb2.size (.cells (cells8 l).toArray 29)); clear hb2)
    | fail)
  go_ret
  exact PDone.same HH.out (HBA.out.trans (HB2.out.mono (by simp)))
set_option maxRecDepth 100000 in
set_option maxHeartbeats 4000000 in
theorem load_nil (w : World) : Calls Tryd.prog 36 #[.pointer none] w fun e w' => e = .returned (.tuple #[.agg zeroSC, .int .i64 1]) ∧ Below w.heap.size w w' := by
  have hzs := sup_zero
  have hz2 := blk_zero
  have hnc : (cells8 noughts).length = 256 := by rw [cells8_length, noughts_len]
  have hst := fun w => store_blk w noughts noughts noughts_len noughts_len
  have HL0 : Hid (LL w ((w.alloc (.cells zeroSC 50)).alloc (.cells zeroSC 50)) zeroSU) := by
    have hn := heap_alloc_new (w.alloc (.cells zeroSC 50)) (.cells zeroSC 50)
    rw [World.size_alloc] at hn
    exact Lib.hid ⟨(Below.heap_alloc _ _ _ (by simp)).trans (heap_alloc_new w _), hn, (((Below.refl _ w).alloc (Nat.le_refl _) _).alloc (by simp) _)⟩
  go_enter Tryd.func36, Tryd.ntmps36
  go_wp2_with fail
  go_loopw [9] (fun j wr => j = .int .i64 0 ∧ Hid (LL w wr zeroSU)) (fun j _ => 0)
  case atStart => exact ⟨rfl, HL0.out⟩
  case round =>
    obtain ⟨rfl, HLL⟩ := hrel
    go_wp2_with (first
      | (go_at_call 31; (with_reducible refine (read_nil _ _).mono ?_); rintro e w1 ⟨rfl, hb1⟩; have HL1 := Lib.hid ((HLL.out.below hb1).below ((Below.refl _ w1).alloc (Nat.le_refl _) (.cells (cells8 noughts).toArray 29))); clear hb1)
      | refine wpList_store_row rfl 50 (.tmp 2) (.tmp 20) rfl w.heap.size zeroSC rfl rfl 50 zeroSC HL1.out.n (sup_info zeroSU) rfl (by simp [zeroSC, Value.oneCell']) ?_
      | fail)
    exact bodyPost_ret (results_cell_tmp rfl _ _ w.heap.size 50 zeroSC (0, 0) _ (.int .i64 1) rfl rfl (setRow_heap _ _ _ _ _ _ HL1.out.n) Tryd.underlying50 rfl (sup_info zeroSU)) rfl ⟨rfl, below_setRow HL1.out.bel (Nat.le_refl _) _⟩
theorem short_blk : blkAt (newD 7) 0 = noughts := by
  have h : ∀ i, i < 7 → (lastD (newD 7) i).1 = List.replicate 64 0 := fun i hi => by
    have e : lastD (newD 7) i = 0 := by
      show ((List.replicate 7 [(0 : SB)]).getD i []).getLastD 0 = 0
      rw [List.getD_eq_getElem?_getD, List.getElem?_replicate, if_pos hi]
      rfl
    rw [e]
    rfl
  rw [blkAt_last _ _ (by simp [newD]), h _ (by omega), h _ (by omega), h _ (by omega), h _ (by omega), List.replicate_append_replicate, List.replicate_append_replicate, List.replicate_append_replicate]
  rfl
set_option maxRecDepth 100000 in
set_option maxHeartbeats 4000000 in
theorem load_7 {w : World} {F : Nat → Prop} {b : Nat} (hT : Tabs w) (hW : Wids w) (h : PD w F b (newD 7)) :
    Calls Tryd.prog 36 #[.pointer (some ⟨b, 0, none⟩)] w fun e w' => e = .returned (.tuple #[.agg zeroSC, .int .i64 2]) ∧ Below w.heap.size w w' := by
  have HTW : Hid (∀ W, Below w.heap.size w W → Tabs W ∧ Wids W) := Lib.hid (fun W hb => ⟨hT.below hb hT.size, hW.below hb hW.size⟩)
  have hl7 : (newD 7).s.length = 7 := by simp [newD]
  have HR0 : Hid (∀ W, Below w.heap.size w W → Calls Tryd.prog 31 #[.pointer (some ⟨b, 0, none⟩), .int .i64 0] W fun e w' => e = .returned (.tuple #[.agg (cells8 noughts).toArray, .int .i64 0]) ∧ Below W.heap.size W w') := Lib.hid (fun W hb => by
    have := read_any' (h.below hb) 0 ⟨by omega, by rw [hl7]; decide⟩
    rw [short_blk] at this
    exact this)
  have HR1 : Hid (∀ W, Below w.heap.size w W → Calls Tryd.prog 31 #[.pointer (some ⟨b, 0, none⟩), .int .i64 1] W fun e w' => e = .returned (.tuple #[.agg (cells8 noughts).toArray, .int .i64 2]) ∧ Below W.heap.size W w') := Lib.hid (fun W hb => read_out (h.below hb) 1 (fun hk => by have := hk.2; rw [hl7] at this; omega))
  have HOF : Hid (∀ W, Below w.heap.size w W → Calls Tryd.prog 26 #[.agg (cells8 noughts).toArray] W fun e w' => e = .returned (.tuple #[.agg zeroSC, .int .i64 4]) ∧ Below W.heap.size W w') := Lib.hid (fun W hb => by
    have := sof_any W (HTW.out W hb).1 (HTW.out W hb).2 noughts noughts_len
    rw [ofB_noughts] at this
    exact this)
  have hzs := sup_zero
  have hz2 := blk_zero
  have hnc : (cells8 noughts).length = 256 := by rw [cells8_length, noughts_len]
  have hst := fun w => store_blk w noughts noughts noughts_len noughts_len
  have hVst := fun w => store_sup w zeroSC rfl (by simp [zeroSC, Value.oneCell'])
  have hVs : zeroSC.size = 19 := rfl
  have HG : Hid (∀ (w1 W : World), Below (w1.alloc (.cells (cells8 noughts).toArray 29)).heap.size (w1.alloc (.cells (cells8 noughts).toArray 29)) W → W.rangeAt w1.heap.size 0 (cells8 noughts)) := Lib.hid (fun w1 W hb j u hu => by
    rw [Joins.cell_of_block ((hb.block _ (by simp)).trans (heap_alloc_new w1 _)), List.getElem?_toArray, Nat.zero_add]; exact hu)
  have HL0 : Hid (LL w ((w.alloc (.cells zeroSC 50)).alloc (.cells zeroSC 50)) zeroSU) := by
    have hn := heap_alloc_new (w.alloc (.cells zeroSC 50)) (.cells zeroSC 50)
    rw [World.size_alloc] at hn
    exact Lib.hid ⟨(Below.heap_alloc _ _ _ (by simp)).trans (heap_alloc_new w _), hn, (((Below.refl _ w).alloc (Nat.le_refl _) _).alloc (by simp) _)⟩
  clear hT hW h hl7
  go_enter Tryd.func36, Tryd.ntmps36
  go_wp2_with fail
  go_loopw [9] (fun j wr => ∃ i : Nat, i ≤ 1 ∧ j = .int .i64 (i : Int) ∧ Hid (LL w wr zeroSU)) (fun j _ => 2 - (intOf j).toNat)
  case atStart => exact ⟨0, by omega, rfl, HL0.out⟩
  case round =>
    obtain ⟨i, hi, rfl, HLL⟩ := hrel
    by_cases h0 : i = 0
    · subst h0
      go_wp2_with (first
        | (go_at_call 31; (with_reducible refine (HR0.out _ HLL.out.bel).mono ?_); rintro e w1 ⟨rfl, hb1⟩; have HB1 := Lib.hid (hb1.alloc hb1.size (.cells (cells8 noughts).toArray 29)); clear hb1)
        | refine wpList_load_mid rfl 29 (.tmp 6) rfl w1.heap.size 0 rfl (cells8 noughts) _ (HG.out _ _ (Below.refl _ _)) blk_u rfl (blk_sz noughts noughts_len) ?_
        | (go_at_call 26; (with_reducible refine (HOF.out _ (HLL.out.below HB1.out).bel).mono ?_); rintro e w2 ⟨rfl, hb2⟩; have HB2 := Lib.hid hb2; clear hb2)
        | fail)
      exact ⟨⟨1, by omega, rfl, (HLL.out.below HB1.out).below (HB2.out.alloc HB2.out.size _)⟩, by simp [intOf]⟩
    · obtain rfl : i = 1 := by omega
      go_wp2_with (first
        | (go_at_call 31; (with_reducible refine (HR1.out _ HLL.out.bel).mono ?_); rintro e w1 ⟨rfl, hb1⟩; have HL1 := Lib.hid ((HLL.out.below hb1).below ((Below.refl _ w1).alloc (Nat.le_refl _) (.cells (cells8 noughts).toArray 29))); clear hb1)
        | refine wpList_store_row rfl 50 (.tmp 2) (.tmp 20) rfl w.heap.size zeroSC rfl rfl 50 zeroSC HL1.out.n (sup_info zeroSU) rfl (by simp [zeroSC, Value.oneCell']) ?_
        | fail)
      exact bodyPost_ret (results_cell_tmp rfl _ _ w.heap.size 50 zeroSC (0, 0) _ (.int .i64 2) rfl rfl (setRow_heap _ _ _ _ _ _ HL1.out.n) Tryd.underlying50 rfl (sup_info zeroSU)) rfl ⟨rfl, below_setRow HL1.out.bel (Nat.le_refl _) _⟩
end Go.Proofs.YtojbajbghldoeaaDoor.Q
end

section
/- SuperNil, walked. -/
set_option linter.unusedVariables false
namespace Go.Proofs.YtojbajbghldoeaaDoor.Q
open Go.RowKit

def nd7 : RD := newD 7
set_option maxRecDepth 100000 in
set_option maxHeartbeats 8000000 in
theorem nil_law (w : World) (hT : Tabs w) (hW : Wids w) : Calls Tryd.prog 8 #[] w fun e w' => e = .returned (.bool true) ∧ Below w.heap.size w w' := by
  have HTW : Hid (∀ W, Below w.heap.size w W → Tabs W ∧ Wids W) := Lib.hid (fun W hb => ⟨hT.below hb hT.size, hW.below hb hW.size⟩)
  have HN : Hid (∀ W, Below w.heap.size w W → Calls Tryd.prog 29 #[.int .i64 7] W fun e w' => ∃ b, e = .returned (.tuple #[.pointer (some ⟨b, 0, none⟩), .int .i64 0]) ∧ Hid (KS w w' b nd7)) := Lib.hid (fun W hb => KS.new 7 w W hb (by omega))
  have HLD : Hid (∀ (b : Nat) (W : World), KS w W b nd7 → Calls Tryd.prog 36 #[.pointer (some ⟨b, 0, none⟩)] W fun e w' => e = .returned (.tuple #[.agg zeroSC, .int .i64 2]) ∧ Hid (KS w w' b nd7)) := Lib.hid (fun b W h => by
    have h0 := h
    obtain ⟨F, h1, h2, h3⟩ := h
    exact (load_7 (HTW.out W h3).1 (HTW.out W h3).2 h1).mono fun e w' hp => ⟨hp.1, h0.below hp.2⟩)
  have HSV : Hid (∀ (b : Nat) (W : World), KS w W b nd7 → Calls Tryd.prog 33 #[.pointer (some ⟨b, 0, none⟩), .agg zeroSC] W fun e w' => e = .returned (.int .i64 2) ∧ Hid (KS w w' b nd7)) := Lib.hid (fun b W h => by
    obtain ⟨F, h1, h2, h3⟩ := h
    have hm : zeroSU.may = false := mayS_no (fun h => by have := h.2.2.1.1; simp [zeroSU] at this)
    exact (save_bad (HTW.out W h3).1 (HTW.out W h3).2 h1 zeroSU zeroSU_fits hm).mono fun e w' hp => ⟨hp.1, KS.done h3 h2 hp⟩)
  have HO1 : Hid (∀ W, Calls Tryd.prog 32 #[.int .u64 1] W fun e w' => e = .returned (.agg (someU 1).cells) ∧ Below W.heap.size W w') := Lib.hid (fun W => some_any W 1)
  have HSN : Hid (∀ W, Calls Tryd.prog 33 #[.pointer none, .agg (someU 1).cells] W fun e w' => e = .returned (.int .i64 1) ∧ Below W.heap.size W w') := Lib.hid (fun W => save_nil W (someU 1))
  have HWN : Hid (∀ W, Calls Tryd.prog 30 #[.pointer none, .int .i64 0, .agg (cells8 noughts).toArray] W fun e w' => e = .returned (.int .i64 1) ∧ Below W.heap.size W w') := Lib.hid (fun W => write_nil W 0 noughts noughts_len)
  have HKN : Hid (∀ W, Below w.heap.size w W → Calls Tryd.prog 28 #[] W fun e w' => e = .returned (.bool true) ∧ Below w.heap.size w w') := Lib.hid (fun W hb => known_any w W hb hT hW)
  obtain ⟨c1, hc1⟩ : ∃ c, (someU 1).cells = c := ⟨_, rfl⟩
  rw [hc1] at HO1 HSN
  have hzs := sup_zero
  have hz2 := blk_zero
  have hnc : (cells8 noughts).length = 256 := by rw [cells8_length, noughts_len]
  have hst := fun w => store_blk w noughts noughts noughts_len noughts_len
  have hVst := fun w => store_sup w zeroSC rfl (by simp [zeroSC, Value.oneCell'])
  have hVs : zeroSC.size = 19 := rfl
  clear hT hW hc1
  go_enter Tryd.func8, Tryd.ntmps8
  go_wp2_with (first
    | (go_at_call 36; first
        | ((with_reducible refine (load_nil _).mono ?_); rintro e w1 ⟨rfl, hb1⟩; have HB1 := Lib.hid (hb1.alloc hb1.size (.cells zeroSC 50)); clear hb1)
        | ((with_reducible refine (HLD.out _ _ HK3.out).mono ?_); rintro e w4 ⟨rfl, hk4⟩; have HK4 := Lib.hid (hk4.out.below ((Below.refl _ w4).alloc (Nat.le_refl _) (.cells zeroSC 50))); clear hk4))
    | (go_at_call 31; (with_reducible refine (read_nil _ _).mono ?_); rintro e w2 ⟨rfl, hb2⟩; have HB2 := Lib.hid ((HB1.out.trans (hb2.mono HB1.out.size)).alloc (Nat.le_trans HB1.out.size hb2.size) (.cells (cells8 noughts).toArray 29)); clear hb2)
    | (go_at_call 29; (with_reducible refine (HN.out _ HB2.out).mono ?_); rintro e w3 ⟨b, rfl, hk3⟩; have HK3 := Lib.hid hk3.out; clear hk3)
    | (go_at_call 30; (with_reducible refine (HWN.out _).mono ?_); rintro e w5 ⟨rfl, hb5⟩; have HK5 := Lib.hid (HK4.out.below hb5); clear hb5)
    | (go_at_call 32; (with_reducible refine (HO1.out _).mono ?_); rintro e w6 ⟨rfl, hb6⟩; have HK6 := Lib.hid (HK5.out.below hb6); clear hb6)
    | (go_at_call 33; first
        | ((with_reducible refine (HSN.out _).mono ?_); rintro e w7 ⟨rfl, hb7⟩; have HK7 := Lib.hid (HK6.out.below hb7); clear hb7)
        | ((with_reducible refine (HSV.out _ _ HK7.out).mono ?_); rintro e w8 ⟨rfl, hk8⟩; have HK8 := Lib.hid hk8.out; clear hk8))
    | (go_at_call 28; (with_reducible refine (HKN.out _ HK8.out.b).mono ?_); rintro e w9 ⟨rfl, hb9⟩; have HB9 := Lib.hid hb9; clear hb9)
    | fail)
  go_ret
  exact ⟨rfl, HB9.out⟩
end Go.Proofs.YtojbajbghldoeaaDoor.Q
end

section
/- From what a row of super's lists to what the walks ask. -/
namespace Go.Proofs.YtojbajbghldoeaaDoor
open Go.RowKit Go.ChangeShapes Go.WideShapes Go.Deep Go.WideMaps Go.WideElems

def laidS : List (String × DataW Unit) := [("math/bits.deBruijn32tab", Rows.laid_math_bits_deBruijn32tab), ("math/bits.deBruijn64tab", Rows.laid_math_bits_deBruijn64tab), ("voile/super.widths", Rows.laid_voile_super_widths)]
theorem door_metS (os : Os) (args : Array Value) : laidMetH Tryd.prog laidS ((World.doorLaid Tryd.prog 400 os).forCall (fun _ _ => 0) ⟨#[], args, []⟩).memory :=
  laidMetH_of_parts3 (fuel := 8) (laidMet_of_run' 8 (by kernel_rfl) (by kernel_rfl)) (by kernel_rfl) (by kernel_rfl)
theorem gTabS : Tryd.prog.globalNamed "math/bits.deBruijn64tab" = some 2 := by kernel_rfl
theorem tTabS : (Tryd.prog.globals[2]?).map (·.type) = some 113 := by kernel_rfl
theorem gWid : Tryd.prog.globalNamed "voile/super.widths" = some 0 := by kernel_rfl
theorem tWid : (Tryd.prog.globals[0]?).map (·.type) = some 102 := by kernel_rfl
def widZ : List Int := [8, 4, 4, 4, 4, 4, 4, 4, 4, 4, 4, 4, 4, 8, 8, 8, 8, 8, 1]
theorem widZ_at : ∀ i, i < 19 → widZ.getD i 0 = ((widL.getD i 0 : Nat) : Int) := by decide
theorem tabs_ofS {W : World} (h : laidMetH Tryd.prog laidS W) : Tabs W ∧ Wids W := by
  rw [MakeChecks.laidMetH_plain _ _ _ (by kernel_rfl)] at h
  obtain ⟨ps, ⟨g0, t0, cs0, f0, p0, q0, hg0, ht0, hv0, hd0, ⟨g1, t1, cs1, f1, p1, q1, hg1, ht1, hv1, hd1, ⟨g2, t2, cs2, f2, p2, q2, hg2, ht2, hv2, hd2, _, _⟩, _⟩, _⟩, _, _⟩ := h
  obtain rfl := Option.some.inj (gTabS.symm.trans hg1)
  obtain rfl := Option.some.inj (tTabS.symm.trans ht1)
  obtain rfl := Option.some.inj (gWid.symm.trans hg2)
  obtain rfl := Option.some.inj (tWid.symm.trans ht2)
  have e : (Rows.laid_math_bits_deBruijn64tab : DataW Unit) = Lib.tabData .u8 db64 := rfl
  rw [e] at hd1
  have hcs := Lib.cells_of_tab Tryd.underlying113 Tryd.underlying5 (by kernel_rfl) (by kernel_rfl) hd1
  have hT : Lib.TabIs Tryd.prog W "math/bits.deBruijn64tab" .u8 db64 := by
    unfold Lib.TabIs
    rw [hv1, ← hcs]
  have e2 : (Rows.laid_voile_super_widths : DataW Unit) = Lib.tabData .i64 widZ := rfl
  rw [e2] at hd2
  have hcs2 := Lib.cells_of_tab Tryd.underlying102 Tryd.underlying3 (by kernel_rfl) (by kernel_rfl) hd2
  have hT2 : Lib.TabIs Tryd.prog W "voile/super.widths" .i64 widZ := by
    unfold Lib.TabIs
    rw [hv2, ← hcs2]
  refine ⟨fun i hi => hT.cell gTabS i (by simpa [db64] using hi), fun i hi => ?_⟩
  rw [hT2.cell gWid i (by simpa [widZ] using hi), widZ_at i hi]
end Go.Proofs.YtojbajbghldoeaaDoor
end

section
/- Ints that came in as an argument. -/
namespace Go.Proofs.YtojbajbghldoeaaDoor
open Go.RowKit Go.ChangeShapes Go.WideShapes Go.Deep Go.WideMaps Go.WideElems

def numsI (l : List Int) : List Value := l.map fun n => .int .i64 n
theorem numsI_len (l : List Int) : (numsI l).length = l.length := by simp [numsI]
theorem Shows.numI {w : World} {B : Nat} {A : Option Addr} {l : List Int} (h : Shows w B A l.length (numsI l)) (i : Nat) (hi : i < l.length) : ∃ p : Addr, A = some p ∧ p.block < B ∧ w.cell? (p.add i) = some (.int .i64 (l[i]'hi)) := by
  obtain ⟨p, u, h1, h2, h3, h4⟩ := h.cell hi
  have e : (numsI l)[i]? = some (.int .i64 (l[i]'hi)) := by simp [numsI, hi]
  rw [e] at h3
  exact ⟨p, h1, h2, by rw [h4, ← h3]⟩
section
variable {H : Type} {enc : TypeId × Value → H} {w : World} {base : Nat} {held : Bool}
theorem ints_of {fuel : Nat} {v : Value} {x : DataW H × List MemPlace} (h : DataW.trod enc Tryd.prog w base (fun _ => true) held fuel 60 [v] = some x) :
    ∃ (A : Option Addr) (l : List Int) (cap : Nat), v = .slice A l.length cap ∧ Shows w w.heap.size A l.length (numsI l) ∧ l.length ≤ cap ∧ cap ≤ 9223372036854775807 := by
  rcases open_ints Tryd.underlying60 Tryd.underlying3 (by kernel_rfl) h with ⟨hcs, _⟩ | ⟨a, len, cap, zs, hcs, _, hl, hm, hz, _, hcell, hwz⟩
  · injection hcs with hcs _
    exact ⟨none, [], 0, hcs, Shows.empty _ _ _, Nat.le_refl _, by omega⟩
  · injection hcs with hcs _
    have hz' : zs.length = cap := by simpa using hz
    have hlen : (zs.take len).length = len := by simp; omega
    refine ⟨some a, zs.take len, cap, by rw [hlen]; exact hcs, ?_, by omega, hm⟩
    have hc : ∀ j u, (numsI (zs.take len))[j]? = some u → w.cell? (a.add j) = some u := by
      intro j u hu
      have hj : j < len := by
        rcases Nat.lt_or_ge j len with h1 | h1
        · exact h1
        · rw [List.getElem?_eq_none (by simp [numsI]; omega)] at hu; cases hu
      rw [hcell j (by omega), ← hu]
      simp [numsI, List.getD, hj]
      have : j < zs.length := by omega
      simp [this]
    refine ⟨by simp [numsI], fun hp => ⟨a, rfl, ?_, hc⟩⟩
    rw [hlen] at hp
    have h0 := hcell 0 (by omega)
    have := block_lt_of_cell h0
    rwa [addr_block] at this
/-- bytes, read -/
theorem bytes_of {fuel : Nat} {v : Value} {x : DataW H × List MemPlace} (h : DataW.trod enc Tryd.prog w base (fun _ => true) held fuel 61 [v] = some x) :
    ∃ (A : Option Addr) (l : List UInt8) (cap : Nat), v = .slice A l.length cap ∧ Shows w w.heap.size A l.length (cells8 l) ∧ l.length ≤ cap ∧ cap ≤ 9223372036854775807 := by
  rcases open_ints Tryd.underlying61 Tryd.underlying5 (by kernel_rfl) h with ⟨hcs, _⟩ | ⟨a, len, cap, zs, hcs, _, hl, hm, hz, _, hcell, hwz⟩
  · injection hcs with hcs _
    exact ⟨none, [], 0, hcs, Shows.empty _ _ _, Nat.le_refl _, by omega⟩
  · injection hcs with hcs _
    have hz' : zs.length = cap := by simpa using hz
    have hlen : ((zs.take len).map fun z => UInt8.ofNat z.toNat).length = len := by simp; omega
    refine ⟨some a, (zs.take len).map fun z => UInt8.ofNat z.toNat, cap, by rw [hlen]; exact hcs, ?_, by omega, hm⟩
    have hc : ∀ j u, (cells8 ((zs.take len).map fun z => UInt8.ofNat z.toNat))[j]? = some u → w.cell? (a.add j) = some u := by
      intro j u hu
      have hj : j < len := by
        rcases Nat.lt_or_ge j len with h1 | h1
        · exact h1
        · rw [List.getElem?_eq_none (by rw [cells8_length, hlen]; exact h1)] at hu; cases hu
      have hjz : j < zs.length := by omega
      rw [hcell j (by omega), ← hu, cells8_get _ j (by rw [hlen]; exact hj)]
      have hb := bounds_u8 (hwz _ (List.getElem_mem hjz))
      simp [List.getD, hjz]
      omega
    refine ⟨by rw [cells8_length], fun hp => ⟨a, rfl, ?_, hc⟩⟩
    rw [hlen] at hp
    have h0 := hcell 0 (by omega)
    have := block_lt_of_cell h0
    rwa [addr_block] at this
end
end Go.Proofs.YtojbajbghldoeaaDoor
end

section
/- SuperBlocks, walked. -/
set_option linter.unusedVariables false
namespace Go.Proofs.YtojbajbghldoeaaDoor.Q
open Go.RowKit

/-- what the law keeps is what the disk has -/
structure Good (n r : Nat) (d : RD) (H : List UInt8) : Prop where
  live : Live d
  len : d.s.length = n
  short : Short d (4 * r + 10)
  hl : H.length = 2560
  eq : ∀ j, j * 4 + 4 ≤ n → blkH H j = blkAt d j
theorem Good.start (n : Nat) (h : n ≤ 40) : Good n 10 (newD n) (List.replicate 2560 0) :=
  ⟨⟨(by show (-1 : Int) < 0; omega), rfl⟩, (by show (List.replicate n _).length = n; rw [List.length_replicate]), newD_short n _ (by omega), List.length_replicate .., fun j hj => by rw [blkH_noughts j (by omega), new_blk n j hj]⟩
theorem Good.put {n r : Nat} {d : RD} {H : List UInt8} (h : Good n (r + 1) d H) (hn : n ≤ 40) (k : Nat) (hk : k * 4 + 4 ≤ n) (l : List UInt8) (hl : l.length = 256) : (writeK d k l).1 = 0 ∧ Good n r (writeK d k l).2 (setH H k l) := by
  have hlen := h.len
  obtain ⟨h1, h2, h3, h4, h5⟩ := h.live.writeK k (by omega) l hl
  have hHl := h.hl
  refine ⟨h1, h2, by omega, ?_, by rw [setH_len H l k (by omega) hl, hHl], fun j hj => ?_⟩
  · exact Short.wrAll k l 4 0 (h.short.less (by omega))
  · by_cases e : j = k
    · subst e
      rw [blkH_same H l j (by omega) hl, h4]
    · rw [blkH_other H l k j (by omega) hl e, h5 j e (by omega), h.eq j hj]
theorem Good.less {n r : Nat} {d : RD} {H : List UInt8} (h : Good n (r + 1) d H) : Good n r d H := ⟨h.live, h.len, h.short.less (by omega), h.hl, h.eq⟩
theorem takeN {P : Program} {ops : Array Oper} {Q : Exit → Act → World → Prop} {md : Region.Mode} {S : World → Prop} {i : Nat} {oi : Oper} {v : Value} {fuel : Nat} {listed : Array Bool} {a : Act} {w : World} (n : Nat) (hi : ops[i]? = some oi) (hd : oi.dst = some n)
    (hs : Region.noSelect ops = true) (hf : Region.free md ops listed i = true) (hr : (Region.ready md ops listed).contains i = true)
    (hQ : ∀ c a w, Q (.panic c) (a.put (some n) v) w → Q (.panic c) a w) (hy : YieldsIf P ops S oi v a) (hS : S w)
    (h : wpAnyH P md ops Q S fuel (listed.setIfInBounds i true) (a.put (some n) v) w) : wpAnyH P md ops Q S (fuel + 1) listed a w :=
  wpAnyH_take hi hs hf hr (by rw [hd]; exact hQ) hy hS (by rw [hd]; exact h)
theorem wp_store_run {P : Program} {op : Oper} {a : Act} {w : World} {K : Act → World → Prop} {Q : Exit → Act → World → Prop} (ty : TypeId) (x y : Operand) (ho : op.op = .store ty x y)
    (b o : Nat) (v : Value) (w' : World) (hx : a.eval x = .pointer (some ⟨b, o, none⟩)) (hy : a.eval y = v) (hs : (storeVar ty ⟨b, o, none⟩ v).run P w = .ok () w')
    (h : K (a.put op.dst undef) w') : op.wp P a w K Q := by
  unfold Oper.wp execOp
  simp only [ho, hx, hy, Instr.storeAt, Instr.sureAddr, Sem.run_bind, Sem.run_pure, Result.andThen_ok, hs]
  exact h
theorem KH.range {w W : World} {b g : Nat} {d : RD} {H : List UInt8} (h : KH w W b g d H) (k : Nat) : W.rangeAt g (k * 256) (cells8 (blkH H k)) := fun j v hv => by
  rw [cell_of_row W g (k * 256 + j) _ _ _ h.row]
  have hj : j < (blkH H k).length := by
    have := (List.getElem?_eq_some_iff.1 hv).1
    rwa [cells8_length] at this
  have hj2 : j < 256 := by
    have : (blkH H k).length ≤ 256 := by unfold blkH; rw [List.length_take]; omega
    omega
  have e : (cells8 H)[k * 256 + j]? = (cells8 (blkH H k))[j]? := by
    unfold cells8
    rw [List.getElem?_map, List.getElem?_map, blkH_get, if_pos hj2]
  simpa [← e] using hv
theorem box_range {W : World} {q : Nat} {l : List UInt8} (h : Holds8 W q 29 l) : W.rangeAt q 0 (cells8 l) := fun j v hv => by
  rw [Nat.zero_add, cell_of_row W q j _ _ _ h]
  simpa using hv
theorem blk_len8 (l : List UInt8) (h : l.length = 256) : (Tryd.prog.info? 29).map (·.size) = some (cells8 l).length := by rw [blk_size, cells8_length, h]
theorem ms8 (n i : Nat) (h : i < n) : n - (intOf (.int .i64 ((i : Int) + 1))).toNat < n - (intOf (.int .i64 (i : Int))).toNat := by
  have e1 : (intOf (.int .i64 ((i : Int) + 1))).toNat = i + 1 := by show ((i : Int) + 1).toNat = i + 1; omega
  have e2 : (intOf (.int .i64 (i : Int))).toNat = i := by show ((i : Int)).toNat = i; omega
  omega
theorem tBD : 29 ≠ 110 ∧ 29 ≠ 114 := by decide
theorem PD.not_blk {w : World} {F : Nat → Prop} {b yb : Nat} {d : RD} {y : List UInt8} (h : PD w F b d) (hy : Holds8 w yb 29 y) : ¬ F yb := fun hF => by
  unfold Holds8 at hy
  rcases h.kind hF with ⟨cs, hc⟩ | ⟨cs, hc⟩ | ⟨es, c, hc⟩
  · rw [hy] at hc
    injection hc with hc
    injection hc with _ hc
    exact tBD.1 hc
  · rw [hy] at hc
    injection hc with hc
    injection hc with _ hc
    exact tBD.2 hc
  · rw [hy] at hc
    cases hc
theorem KH.write2 {w W : World} {b g yb : Nat} {d : RD} {H y : List UInt8} (h : KH w W b g d H) (k : Nat) (hk : hasK d (k : Int)) (l : List UInt8) (hl : l.length = 256) (hs : Short d 4) {er : Int} (he : (writeK d k l).1 = er) (hy : Holds8 W yb 29 y) :
    Calls Tryd.prog 30 #[.pointer (some ⟨b, 0, none⟩), .int .i64 (k : Int), .agg (cells8 l).toArray] W fun e w' => e = .returned (.int .i64 er) ∧ KH w w' b g (writeK d k l).2 H ∧ Holds8 w' yb 29 y := by
  obtain ⟨F, h1, h2, h3, h4, h5⟩ := h
  refine (write_any' h1 k hk l hl hs).mono fun e w' hp => ⟨?_, ?_, ?_⟩
  · rw [← he]; exact hp.1
  · obtain ⟨_, F', g1, g2, g3⟩ := hp
    have hs3 := h3.size
    have hg := h4.lt
    exact ⟨F', g1, fun j hj => (g2 j hj).elim (h2 j) (fun e => ⟨by omega, by omega⟩), h3.trans (g3.below hs3 (fun j hj => (h2 j hj).1)), (g3.block g hg (fun e => (h2 g e).2 rfl)).trans h4, h5⟩
  · obtain ⟨_, F', g1, g2, g3⟩ := hp
    exact (g3.block yb hy.lt (h1.not_blk hy)).trans hy
theorem KH.write_out2 {w W : World} {b g : Nat} {d : RD} {H : List UInt8} (h : KH w W b g d H) (k : Int) (hk : ¬ hasK d k) (l : List UInt8) (hl : l.length = 256) :
    Calls Tryd.prog 30 #[.pointer (some ⟨b, 0, none⟩), .int .i64 k, .agg (cells8 l).toArray] W fun e w' => e = .returned (.int .i64 2) ∧ KH w w' b g d H ∧ Below W.heap.size W w' := by
  have h0 := h
  obtain ⟨F, h1, _⟩ := h
  exact (Q.write_out h1 k hk l hl).mono fun e w' hp => ⟨hp.1, h0.below hp.2, hp.2⟩
theorem build_blk (zz : List UInt8) (hz : zz.length = 256) (c : UInt8) (w : World) : (storeCells ⟨w.heap.size, 0, none⟩ ((cells8 zz).set 0 (.int .u8 (c.toNat : Int)))).run Tryd.prog (w.alloc (.cells (cells8 zz).toArray 29)) = .ok () (w.alloc (.cells (cells8 (zz.set 0 c)).toArray 29)) := by
  have e : (cells8 zz).set 0 (.int .u8 (c.toNat : Int)) = cells8 (zz.set 0 c) := by simp [cells8, List.map_set]
  rw [e]
  exact store_blk w zz (zz.set 0 c) hz (by rw [List.length_set, hz])
set_option maxRecDepth 20000 in
set_option maxHeartbeats 4000000 in
theorem blocks_law (w : World) (hT : Tabs w) (hW : Wids w) (sec : Int) (A1 A2 : Option Addr) (cap1 cap2 : Nat) (at_ : List Int) (by_ : List UInt8) (ha : Shows w w.heap.size A1 at_.length (numsI at_)) (hy : Shows w w.heap.size A2 by_.length (cells8 by_)) :
    Calls Tryd.prog 6 #[.int .i64 sec, .slice A1 at_.length cap1, .slice A2 by_.length cap2] w fun e w' => e = .returned (.bool true) ∧ Below w.heap.size w w' := by
  have HK := Lib.hid (known_any w w (Below.refl _ _) hT hW)
  have HKW := Lib.hid (fun W hb => known_any w W hb hT hW)
  by_cases c0 : sec < 1
  · clear ha hy
    go_enter Tryd.func6, Tryd.ntmps6
    go_wp2_with (first
      | (go_at_call 28; (with_reducible refine HK.out.mono ?_); rintro e wk ⟨rfl, hbk⟩)
      | fail)
    go_ret
    exact ⟨rfl, hbk⟩
  have c0I : ¬ sec < 1 := c0
  clear c0
  by_cases c1 : (40 : Int) < sec
  · clear ha hy
    go_enter Tryd.func6, Tryd.ntmps6
    go_wp2_with (first
      | (go_at_call 28; (with_reducible refine HK.out.mono ?_); rintro e wk ⟨rfl, hbk⟩)
      | fail)
    go_ret
    exact ⟨rfl, hbk⟩
  have c1I : ¬ (40 : Int) < sec := c1
  clear c1
  by_cases c2 : (10 : Int) < (at_.length : Int)
  · clear ha hy
    go_enter Tryd.func6, Tryd.ntmps6
    go_wp2_with (first
      | (go_at_call 28; (with_reducible refine HK.out.mono ?_); rintro e wk ⟨rfl, hbk⟩)
      | fail)
    go_ret
    exact ⟨rfl, hbk⟩
  have c2I : ¬ (10 : Int) < (at_.length : Int) := c2
  clear c2
  by_cases c3 : (by_.length : Int) < (at_.length : Int)
  · clear ha hy
    go_enter Tryd.func6, Tryd.ntmps6
    go_wp2_with (first
      | (go_at_call 28; (with_reducible refine HK.out.mono ?_); rintro e wk ⟨rfl, hbk⟩)
      | fail)
    go_ret
    exact ⟨rfl, hbk⟩
  have c3I : ¬ (by_.length : Int) < (at_.length : Int) := c3
  clear c3
  obtain ⟨n, rfl⟩ := Int.eq_ofNat_of_zero_le (show 0 ≤ sec by omega)
  have hn40 : n ≤ 40 := by omega
  have hm10 : at_.length ≤ 10 := by omega
  have HN := Lib.hid (KS.new n w w (Below.refl _ _) (by omega))
  have HA := Lib.hid ha
  have HY := Lib.hid hy
  have hmk := make_blks
  have HG0 := Lib.hid (Good.start n hn40)
  have HMK := Lib.hid (fun (W : World) b d (h : KS w W b d) => KH.make h (List.replicate 2560 0))
  obtain ⟨q, HQ⟩ : ∃ q : Nat, Hid (q = n / 4) := ⟨_, Lib.hid rfl⟩
  have hqn : ((n : Int) / 4) = (q : Int) := by have := HQ.out; omega
  have hqt : Int.tdiv (n : Int) 4 = (q : Int) := by rw [Int.tdiv_eq_ediv_of_nonneg (by omega), hqn]
  clear ha hy HK
  generalize List.replicate 2560 (0 : UInt8) = H0 at *
  go_enter Tryd.func6, Tryd.ntmps6
  go_wp2_with (first
    | (go_at_call 29; (with_reducible refine HN.out.mono ?_); rintro e w1 ⟨b, rfl, HK1⟩; have HH0 := Lib.hid (HMK.out _ _ _ HK1.out))
    | fail)
  clear HN HMK HK1 hmk
  generalize w1.alloc (.cells (cells8 H0).toArray 29) = w2 at *
  generalize w1.heap.size = g at *
  go_loopw [10] (fun j wr => ∃ i : Nat, i ≤ at_.length ∧ j = .int .i64 (i : Int) ∧ ∃ d H, Hid (KH w wr b g d H ∧ Good n (10 - i) d H)) (fun j _ => at_.length - (intOf j).toNat)
  case atStart => exact ⟨0, Nat.zero_le _, rfl, _, _, HH0.out, HG0.out⟩
  case round =>
    obtain ⟨i, hi, rfl, d, H, HR⟩ := hrel
    clear HH0 HG0
    by_cases hlt : i < at_.length
    · have hltI : (i : Int) < (at_.length : Int) := by omega
      have hltB : (i : Int) < (by_.length : Int) := by omega
      obtain ⟨pa, rfl, hpa, hca⟩ := (HA.out.below HR.out.1.b).numI i hlt
      obtain ⟨pb, u, rfl, hpb, hu, hcb⟩ := (HY.out.below HR.out.1.b).cell (k := i) (by omega)
      rw [cells8_get by_ i (by omega)] at hu
      injection hu with hu
      subst hu
      have HCA : Hid (∀ W, Below wr.heap.size wr W → W.cell? (pa.add i) = some (.int .i64 at_[i])) := fun W hb => by rw [hb.cell (by rw [addr_block]; have := HR.out.1.b.size; omega)]; exact hca
      have HCB : Hid (∀ W, Below wr.heap.size wr W → W.cell? (pb.add i) = some (.int .u8 ((by_[i]'(by omega)).toNat : Int))) := fun W hb => by rw [hb.cell (by rw [addr_block]; have := HR.out.1.b.size; omega)]; exact hcb
      have hG : Good n ((10 - (i + 1)) + 1) d H := by rw [show 10 - (i + 1) + 1 = 10 - i by omega]; exact HR.out.2
      have HG := Lib.hid hG
      have HH := Lib.hid HR.out.1
      clear hG HR
      generalize at_[i] = z at *
      generalize by_[i]'_ = c at *
      have hz := blk_zero
      have hzl := noughts_len
      have hcs : (cells8 noughts).toArray.size = 256 := (cells8_size _).trans noughts_len
      have hbd := build_blk noughts noughts_len c
      have hst := fun w => store_blk w noughts noughts noughts_len noughts_len
      have HRO := Lib.hid (fun (W : World) (h : KH w W b g d H) (hk : ¬ hasK d z) => h.read_out z hk)
      generalize noughts = zz at *
      have hcl8 : (cells8 zz).length = 256 := (cells8_length zz).trans hzl
      have hne : ¬ cells8 zz = [] := fun h => by
        have := congrArg List.length h
        rw [cells8_length, hzl] at this
        cases this
      have hyl : ((zz.set 0 c).set 255 c).length = 256 := by rw [List.length_set, List.length_set, hzl]
      have hcy : ((cells8 (zz.set 0 c)).set 255 (.int .u8 (c.toNat : Int))).toArray = (cells8 ((zz.set 0 c).set 255 c)).toArray := by simp [cells8, List.map_set]
      have HB1 : Hid (Holds8 (wr.alloc (.cells ((cells8 (zz.set 0 c)).set 255 (.int .u8 (c.toNat : Int))).toArray 29)) wr.heap.size 29 ((zz.set 0 c).set 255 c)) := Holds8.new wr _ _ _ hcy
      have HBA : Hid (Below wr.heap.size wr (wr.alloc (.cells ((cells8 (zz.set 0 c)).set 255 (.int .u8 (c.toNat : Int))).toArray 29))) := (Below.refl _ wr).alloc (Nat.le_refl _) _
      clear hcy
      have hcb2 : (wr.alloc (.cells (cells8 (zz.set 0 c)).toArray 29)).cell? (pb.add i) = some (.int .u8 (c.toNat : Int)) := HCB.out _ ((Below.refl _ wr).alloc (Nat.le_refl _) _)
      obtain ⟨v255, h255⟩ : ∃ v, (cells8 (zz.set 0 c))[255]? = some v := ⟨_, List.getElem?_eq_getElem (by rw [cells8_length, List.length_set, hzl]; omega)⟩
      go_upto_region 12 with fail
      clear h255
      have HH5 : Hid (KH w (wr.alloc (.cells ((cells8 (zz.set 0 c)).set 255 (.int .u8 (c.toNat : Int))).toArray 29)) b g d H) := HH.out.below HBA.out
      have hca5 : (wr.alloc (.cells ((cells8 (zz.set 0 c)).set 255 (.int .u8 (c.toNat : Int))).toArray 29)).cell? (pa.add i) = some (.int .i64 z) := HCA.out _ HBA.out
      have HAB : Hid (∀ W, Below w.heap.size w W → W.cell? (pa.add i) = some (.int .i64 z)) := fun W hb => by
        rw [hb.cell (by rw [addr_block]; exact hpa)]
        rwa [HH.out.b.cell (by rw [addr_block]; exact hpa)] at hca
      have HYG : Hid (wr.heap.size ≠ g) := fun e => by have := HH.out.row.lt; omega
      clear hcb2 hcb hca HCA HCB HBA hbd HH
      generalize wr.alloc (.cells ((cells8 (zz.set 0 c)).set 255 (.int .u8 (c.toNat : Int))).toArray 29) = w5 at *
      generalize hyy : (zz.set 0 c).set 255 c = y at *
      clear hyy
      generalize wr.heap.size = yb at *
      have HYL := Lib.hid hyl
      have hu := Tryd.underlying29
      have z1 := blk_len8 y hyl
      have HS0 : Hid (w5.drew.cell? (pa.add i) = some (.int .i64 z) ∧ w5.drew.rangeAt yb 0 (cells8 y)) := ⟨hca5, (box_range HB1.out)⟩
      by_cases hk : hasK d z
      · obtain ⟨k, rfl⟩ := Int.eq_ofNat_of_zero_le hk.1
        have hk4 : k * 4 + 4 ≤ n := by have h2 := hk.2; rw [HG.out.len] at h2; omega
        have hk10 : (k : Int) < 10 := by omega
        have hk10n : k < 10 := by omega
        have hk0 : ¬ (k : Int) < 0 := by omega
        have hkq : ¬ (q : Int) ≤ (k : Int) := by have := HQ.out; omega
        obtain ⟨hw1, hgd⟩ := HG.out.put hn40 k hk4 y HYL.out
        have HGD := Lib.hid hgd
        have HC : Hid (∀ W, KH w W b g d H → Below w5.heap.size w5 W → Calls Tryd.prog 30 #[.pointer (some ⟨b, 0, none⟩), .int .i64 (k : Int), .agg (cells8 y).toArray] W fun e w' => e = .returned (.int .i64 0) ∧ (w'.cell? (pa.add i) = some (.int .i64 (k : Int)) ∧ w'.rangeAt yb 0 (cells8 y)) ∧ Hid (KH w w' b g (writeK d k y).2 H ∧ Holds8 w' yb 29 y)) := fun W h hb => (h.write2 k hk y HYL.out (HG.out.short.less (by omega)) hw1 (HB1.out.below hb)).mono fun e w' hp => ⟨hp.1, ⟨HAB.out w' hp.2.1.b, box_range hp.2.2⟩, hp.2.1, hp.2.2⟩
        first | go_region_held3 (fun w' => w'.cell? (pa.add i) = some (.int .i64 (k : Int)) ∧ w'.rangeAt yb 0 (cells8 y))
          (first | with_reducible exact HS0.out | with_reducible exact hSb)
          ((go_at_call 30; (with_reducible refine (HC.out _ (HH5.out.below (Below.refl _ _).drew) (Below.refl _ _).drew).mono ?_); rintro e wb ⟨rfl, hSb, hbb⟩)) | fail
        all_goals
          have hcb := hSb.1
          clear hSb hu z1 HC HS0 HH5
          go_upto_region 19 with fail
          have HGW : Hid (KH w wb.drew b g (writeK d k y).2 H) := Lib.hid (hbb.out.1.below (Below.refl _ _).drew)
          refine wp_region_noPanic ?_
          refine wp_region_held_drew (S := fun W => W.cell? (pa.add i) = some (.int .i64 (k : Int)) ∧ W.rangeAt yb 0 (cells8 y)) (by kernel_rfl) ⟨hcb, box_range hbb.out.2⟩ (fun hHeld => ?_)
          clear hcb
          refine takeN (i := 0) (oi := _) (v := .slice (some ⟨g, 0, none⟩) 10 10) 99 rfl rfl (by kernel_rfl) (by kernel_rfl) (by kernel_rfl) (fun _ _ _ h => h) (Or.inl ⟨by rfl, fun w hSw => by (go_simp)⟩) hHeld ?_
          try simp only [Act.put, List.setIfInBounds_toArray, List.set_cons_zero, List.set_cons_succ]
          refine takeN (i := 1) (oi := _) (v := .slice (some pa) at_.length cap1) 100 rfl rfl (by kernel_rfl) (by kernel_rfl) (by kernel_rfl) (fun _ _ _ h => h) (Or.inl ⟨by rfl, fun w hSw => by (go_simp)⟩) hHeld ?_
          try simp only [Act.put, List.setIfInBounds_toArray, List.set_cons_zero, List.set_cons_succ]
          refine takeN (i := 2) (oi := _) (v := .int .i64 (i : Int)) 101 rfl rfl (by kernel_rfl) (by kernel_rfl) (by kernel_rfl) (fun _ _ _ h => h) (Or.inl ⟨by rfl, fun w hSw => by (go_simp)⟩) hHeld ?_
          try simp only [Act.put, List.setIfInBounds_toArray, List.set_cons_zero, List.set_cons_succ]
          refine takeN (i := 3) (oi := _) (v := .pointer (some (pa.add i))) 102 rfl rfl (by kernel_rfl) (by kernel_rfl) (by kernel_rfl) (fun _ _ _ h => h) (Or.inl ⟨by rfl, fun w hSw => by (go_simp)⟩) hHeld ?_
          try simp only [Act.put, List.setIfInBounds_toArray, List.set_cons_zero, List.set_cons_succ]
          refine takeN (i := 4) (oi := _) (v := .int .i64 (k : Int)) 103 rfl rfl (by kernel_rfl) (by kernel_rfl) (by kernel_rfl) (fun _ _ _ h => h) (Or.inl ⟨by rfl, fun w hSw => by (go_simp)⟩) hHeld ?_
          try simp only [Act.put, List.setIfInBounds_toArray, List.set_cons_zero, List.set_cons_succ]
          have hu := Tryd.underlying29
          have z1 := blk_len8 y HYL.out
          refine takeN (i := 5) (oi := _) 104 rfl rfl (by kernel_rfl) (by kernel_rfl) (by kernel_rfl) (fun _ _ _ h => h) (yieldsIf_load_mid (by rfl) 29 (.tmp 11) rfl yb 0 rfl (cells8 y) _ (fun w hSw => hSw.2) hu rfl z1) hHeld ?_
          try simp only [Act.put, List.setIfInBounds_toArray, List.set_cons_zero, List.set_cons_succ]
          clear hu z1
          refine takeN (i := 6) (oi := _) (v := .pointer (some ⟨g, k * 256, none⟩)) 105 rfl rfl (by kernel_rfl) (by kernel_rfl) (by kernel_rfl) (fun _ _ _ h => h) (Or.inl ⟨by rfl, fun w hSw => by (go_simp)⟩) hHeld ?_
          try simp only [Act.put, List.setIfInBounds_toArray, List.set_cons_zero, List.set_cons_succ]
          refine wpAnyH_ready (rs := [7]) (by kernel_rfl) (by simp) ?_
          refine AllReadyH.cons rfl (fun K hK => ?_) AllReadyH.nil
          rw [if_pos (by rfl)]
          refine wp_store_run 29 (.tmp 105) (.tmp 104) rfl g (k * 256) (.agg (cells8 y).toArray) _ (by rfl) (by rfl) (HGW.out.store k y HYL.out (by rw [HG.out.hl]; omega)) ?_
          have HGP := Lib.hid (HGW.out.put k y)
          have hS9 : (wb.drew.setRow g (cells8 (setH H k y)).toArray).cell? (pa.add i) = some (.int .i64 (k : Int)) ∧ (wb.drew.setRow g (cells8 (setH H k y)).toArray).rangeAt yb 0 (cells8 y) := ⟨HAB.out _ HGP.out.b, box_range ((setRow_other wb.drew g yb _ HYG.out).trans hbb.out.2)⟩
          refine hK.out _ _ hS9 (fun hHeld => ?_)
          clear hK K hS9
          refine wpAnyH_done (by kernel_rfl) ?_ _
          refine NoPanic.normal ?_
          go_wp2_with fail
          go_roundw
          case rel => exact ⟨i + 1, by omega, by go_num, _, _, HGP.out, HGD.out⟩
          case measure => exact ms8 _ _ hlt
      · have hkz : z < 0 ∨ (q : Int) ≤ z := by
          have hq := HQ.out
          by_cases h0 : z < 0
          · exact .inl h0
          · refine .inr ?_
            by_cases h1 : z < (q : Int)
            · exact absurd ⟨by omega, by rw [HG.out.len, ← hq]; exact h1⟩ hk
            · omega
        have HGL := Lib.hid HG.out.less
        have HC : Hid (∀ W, KH w W b g d H → Below w5.heap.size w5 W → Calls Tryd.prog 30 #[.pointer (some ⟨b, 0, none⟩), .int .i64 z, .agg (cells8 y).toArray] W fun e w' => e = .returned (.int .i64 2) ∧ (w'.cell? (pa.add i) = some (.int .i64 z) ∧ w'.rangeAt yb 0 (cells8 y)) ∧ Hid (KH w w' b g d H)) := fun W h hb => (h.write_out2 z hk y HYL.out).mono fun e w' hp => ⟨hp.1, ⟨HAB.out w' hp.2.1.b, box_range (HB1.out.below (hb.trans (hp.2.2.mono hb.size)))⟩, hp.2.1⟩
        first | go_region_held3 (fun w' => w'.cell? (pa.add i) = some (.int .i64 z) ∧ w'.rangeAt yb 0 (cells8 y))
          (first | with_reducible exact HS0.out | with_reducible exact hSb)
          ((go_at_call 30; (with_reducible refine (HC.out _ (HH5.out.below (Below.refl _ _).drew) (Below.refl _ _).drew).mono ?_); rintro e wb ⟨rfl, hSb, hbb⟩)) | fail
        all_goals
          have hcb := hSb.1
          clear hSb hu z1 HC HS0 HH5
          have HRD := Lib.hid (HRO.out _ hbb.out hk)
          rcases hkz with h0 | h1
          · go_wp2_with (first
              | (go_at_call 31; (with_reducible refine HRD.out.mono ?_); rintro e w7 ⟨rfl, h7⟩; have HX7 := Lib.hid (h7.out.below ((Below.refl _ w7).alloc (Nat.le_refl _) (.cells (cells8 zz).toArray 29))))
              | fail)
            go_roundw
            case rel => exact ⟨i + 1, by omega, by go_num, d, H, HX7.out, HGL.out⟩
            case measure => exact ms8 _ _ hlt
          · have h0 : ¬ z < 0 := by omega
            go_wp2_with (first
              | (go_at_call 31; (with_reducible refine HRD.out.mono ?_); rintro e w7 ⟨rfl, h7⟩; have HX7 := Lib.hid (h7.out.below ((Below.refl _ w7).alloc (Nat.le_refl _) (.cells (cells8 zz).toArray 29))))
              | fail)
            go_roundw
            case rel => exact ⟨i + 1, by omega, by go_num, d, H, HX7.out, HGL.out⟩
            case measure => exact ms8 _ _ hlt
    · have hgeI : ¬ (i : Int) < (at_.length : Int) := by omega
      have HH := Lib.hid HR.out.1
      have HG := Lib.hid HR.out.2
      clear HR
      go_wp2_with fail
      go_loopw [15] (fun j wr => ∃ t : Nat, t ≤ q ∧ j = .int .i64 (t : Int) ∧ Hid (KH w wr b g d H)) (fun j _ => q - (intOf j).toNat)
      case atStart => exact ⟨0, Nat.zero_le _, rfl, HH.out⟩
      case round =>
        obtain ⟨t, ht, rfl, HR⟩ := hrel
        clear HH
        by_cases hlt2 : t < q
        · have hltI : (t : Int) < (q : Int) := by omega
          have ht4 : t * 4 + 4 ≤ n := by have := HQ.out; omega
          have ht10 : (t : Int) < 10 := by have := HQ.out; omega
          have hht : hasK d (t : Int) := ⟨by omega, by rw [HG.out.len, ← HQ.out]; omega⟩
          have HRD := Lib.hid (KH.read HR.out t hht)
          have hbl := blkAt_len d t
          have hjb := HG.out.eq t ht4
          have hst := fun w => store_blk w noughts (blkAt d t) noughts_len hbl
          have hcs : (cells8 noughts).toArray.size = 256 := (cells8_size _).trans noughts_len
          have hz := blk_zero
          have hzl := noughts_len
          generalize noughts = zz at *
          have HJB := Lib.hid hjb
          clear hjb
          generalize hrr : blkAt d t = rr at *
          clear hrr
          have hcl8 : (cells8 rr).length = 256 := (cells8_length rr).trans hbl
          have hne : ¬ cells8 rr = [] := fun h => by
            have := congrArg List.length h
            rw [cells8_length, hbl] at this
            cases this
          go_upto_region 24 with (first
            | (go_at_call 31; (with_reducible refine HRD.out.mono ?_); rintro e w7 ⟨rfl, h7⟩; have HX7 := Lib.hid (h7.out.below (((Below.refl _ w7).alloc (Nat.le_refl _) (.cells (cells8 rr).toArray 29)).drew)); have HB7 : Hid ((w7.alloc (.cells (cells8 rr).toArray 29)).rangeAt w7.heap.size 0 (cells8 rr)) := Lib.hid (box_range (Holds8.new w7 _ _ _ rfl)))
            | fail)
          refine wp_region_noPanic ?_
          refine wp_region_held_drew (S := fun W => W.rangeAt w7.heap.size 0 (cells8 rr) ∧ W.rangeAt g (t * 256) (cells8 rr)) (by kernel_rfl) ⟨HB7.out, by have := HX7.out.range t; rw [HJB.out] at this; exact this⟩ (fun hHeld => ?_)
          generalize w7.heap.size = rb at *
          refine takeN (i := 0) (oi := _) (v := .int .i64 0) 118 rfl rfl (by kernel_rfl) (by kernel_rfl) (by kernel_rfl) (fun _ _ _ h => h) (Or.inl ⟨by rfl, fun w hSw => by (go_simp)⟩) hHeld ?_
          try simp only [Act.put, List.setIfInBounds_toArray, List.set_cons_zero, List.set_cons_succ]
          refine takeN (i := 1) (oi := _) (v := .bool false) 119 rfl rfl (by kernel_rfl) (by kernel_rfl) (by kernel_rfl) (fun _ _ _ h => h) (Or.inl ⟨by rfl, fun w hSw => by (go_simp)⟩) hHeld ?_
          try simp only [Act.put, List.setIfInBounds_toArray, List.set_cons_zero, List.set_cons_succ]
          refine takeN (i := 2) (oi := _) (v := .bool false) 120 rfl rfl (by kernel_rfl) (by kernel_rfl) (by kernel_rfl) (fun _ _ _ h => h) (Or.inl ⟨by rfl, fun w hSw => by (go_simp)⟩) hHeld ?_
          try simp only [Act.put, List.setIfInBounds_toArray, List.set_cons_zero, List.set_cons_succ]
          have hu := Tryd.underlying29
          have z1 := blk_len8 rr hbl
          refine takeN (i := 3) (oi := _) 121 rfl rfl (by kernel_rfl) (by kernel_rfl) (by kernel_rfl) (fun _ _ _ h => h) (yieldsIf_load_mid (by rfl) 29 (.tmp 16) rfl rb 0 rfl (cells8 rr) _ (fun w hSw => hSw.1) hu rfl z1) hHeld ?_
          try simp only [Act.put, List.setIfInBounds_toArray, List.set_cons_zero, List.set_cons_succ]
          clear hu z1
          refine takeN (i := 4) (oi := _) (v := .slice (some ⟨g, 0, none⟩) 10 10) 122 rfl rfl (by kernel_rfl) (by kernel_rfl) (by kernel_rfl) (fun _ _ _ h => h) (Or.inl ⟨by rfl, fun w hSw => by (go_simp)⟩) hHeld ?_
          try simp only [Act.put, List.setIfInBounds_toArray, List.set_cons_zero, List.set_cons_succ]
          refine takeN (i := 5) (oi := _) (v := .int .i64 (t : Int)) 123 rfl rfl (by kernel_rfl) (by kernel_rfl) (by kernel_rfl) (fun _ _ _ h => h) (Or.inl ⟨by rfl, fun w hSw => by (go_simp)⟩) hHeld ?_
          try simp only [Act.put, List.setIfInBounds_toArray, List.set_cons_zero, List.set_cons_succ]
          refine takeN (i := 6) (oi := _) (v := .pointer (some ⟨g, t * 256, none⟩)) 124 rfl rfl (by kernel_rfl) (by kernel_rfl) (by kernel_rfl) (fun _ _ _ h => h) (Or.inl ⟨by rfl, fun w hSw => by (go_simp)⟩) hHeld ?_
          try simp only [Act.put, List.setIfInBounds_toArray, List.set_cons_zero, List.set_cons_succ]
          have hu := Tryd.underlying29
          have z1 := blk_len8 rr hbl
          refine takeN (i := 7) (oi := _) 125 rfl rfl (by kernel_rfl) (by kernel_rfl) (by kernel_rfl) (fun _ _ _ h => h) (yieldsIf_load_mid (by rfl) 29 (.tmp 124) rfl g (t * 256) rfl (cells8 rr) _ (fun w hSw => hSw.2) hu rfl z1) hHeld ?_
          try simp only [Act.put, List.setIfInBounds_toArray, List.set_cons_zero, List.set_cons_succ]
          clear hu z1
          have hneq := fun w => neq_blk rr rr hbl hbl w
          rw [show (!(rr == rr)) = false by simp] at hneq
          refine takeN (i := 8) (oi := _) (v := .bool false) 126 rfl rfl (by kernel_rfl) (by kernel_rfl) (by kernel_rfl) (fun _ _ _ h => h) (Or.inl ⟨by rfl, fun w hSw => by (go_simp)⟩) hHeld ?_
          try simp only [Act.put, List.setIfInBounds_toArray, List.set_cons_zero, List.set_cons_succ]
          clear hneq
          refine takeN (i := 9) (oi := _) (v := .bool false) 127 rfl rfl (by kernel_rfl) (by kernel_rfl) (by kernel_rfl) (fun _ _ _ h => h) (Or.inl ⟨by rfl, fun w hSw => by (go_simp)⟩) hHeld ?_
          try simp only [Act.put, List.setIfInBounds_toArray, List.set_cons_zero, List.set_cons_succ]
          refine wpAnyH_done (by kernel_rfl) ?_ _
          refine NoPanic.normal ?_
          go_wp2_with fail
          go_roundw
          case rel => exact ⟨t + 1, by omega, by go_num, HX7.out⟩
          case measure => exact ms8 _ _ hlt2
        · have hnt : ¬ (t : Int) < (q : Int) := by omega
          have HKE := Lib.hid (HKW.out _ HR.out.b)
          go_wp2_with (first
            | (go_at_call 28; (with_reducible refine HKE.out.mono ?_); rintro e wk ⟨rfl, hbk⟩)
            | fail)
          go_ret
          exact ⟨rfl, hbk⟩
end Go.Proofs.YtojbajbghldoeaaDoor.Q
end
