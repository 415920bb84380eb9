/- Bytes in a block of memory; the program's lay. -/
import Derived.Test.YtoclhiaidbfheaaGreatDoorBa
import Derived.Test.YtoclhiaidbfheaaGreatDoorCf
import Derived.Laws.CopyOwn
import Derived.RegionTactic
import Derived.ChangeAlike
import Derived.StillTailTactics
set_option linter.unusedVariables false
namespace Go.Proofs.YtoclhiaidbfheaaGreatDoor
open Go.RowKit

/-- a block holds bytes -/
def Holds8 (w : World) (b : Nat) (t : TypeId) (l : List UInt8) : Prop := w.heap[b]? = some (.cells (cells8 l).toArray t (0, 0))
theorem Holds8.cell {w : World} {b : Nat} {t : TypeId} {l : List UInt8} (h : Holds8 w b t l) (i : Nat) (hi : i < l.length) : w.cell? ⟨b, i, none⟩ = some (.int .u8 ((l[i]'hi).toNat : Int)) := by
  rw [cell_of_row w b i _ _ _ h]
  simpa using cells8_get l i hi
theorem Holds8.frozen {w : World} {b : Nat} {t : TypeId} {l : List UInt8} (h : Holds8 w b t l) (i : Nat) : w.frozen? ⟨b, i, none⟩ = false := by
  unfold Holds8 at h
  simp [World.frozen?, h]
theorem Holds8.set {w : World} {b : Nat} {t : TypeId} {l : List UInt8} (h : Holds8 w b t l) (i : Nat) (c : UInt8) : Holds8 (w.setCell ⟨b, i, none⟩ (.int .u8 (c.toNat : Int))) b t (l.set i c) := by
  unfold Holds8
  have e : (cells8 (l.set i c)).toArray = (cells8 l).toArray.setIfInBounds i (.int .u8 (c.toNat : Int)) := by simp [cells8, List.map_set]
  rw [e]
  exact Joins.block_setCell h _
theorem Holds8.other {w : World} {b : Nat} {t : TypeId} {l : List UInt8} (h : Holds8 w b t l) {a : Addr} (ha : b ≠ a.block) (u : Value) : Holds8 (w.setCell a u) b t l := by
  unfold Holds8
  rw [Below.heap_setCell w a u b ha]
  exact h
theorem Holds8.new (w : World) (t : TypeId) (l : List UInt8) (cs : Array Value) (h : cs = (cells8 l).toArray) : Holds8 (w.alloc (.cells cs t)) w.heap.size t l := by
  subst h
  exact heap_alloc_new w _
theorem Holds8.lt {w : World} {b : Nat} {t : TypeId} {l : List UInt8} (h : Holds8 w b t l) : b < w.heap.size := (Array.getElem?_eq_some_iff.1 h).1
theorem Holds8.alloc {w : World} {b : Nat} {t : TypeId} {l : List UInt8} (h : Holds8 w b t l) (o : Obj) : Holds8 (w.alloc o) b t l := by
  have hl := h.lt
  unfold Holds8 at *
  rw [Below.heap_alloc w o b hl]
  exact h
theorem Holds8.below {w w' : World} {b : Nat} {t : TypeId} {l : List UInt8} (h : Holds8 w b t l) (hb : Below w.heap.size w w') : Holds8 w' b t l :=
  (hb.block b h.lt).trans h
theorem Holds8.shows {w : World} {b : Nat} {t : TypeId} {l : List UInt8} (h : Holds8 w b t l) : Shows w w.heap.size (some ⟨b, 0, none⟩) l.length (cells8 l) := by
  refine ⟨cells8_length l, fun _ => ⟨_, rfl, h.lt, fun j u hu => ?_⟩⟩
  have ha : (⟨b, 0, none⟩ : Addr).add j = ⟨b, j, none⟩ := by
    unfold Addr.add
    by_cases hj0 : j = 0 <;> simp [hj0]
  rw [ha, cell_of_row w b j _ _ _ h]
  simpa using hu
theorem cells8_all (l : List UInt8) : (cells8 l).toArray.all (·.oneCell') = true := by simp [cells8, Value.oneCell']
theorem cells8_size (l : List UInt8) : (cells8 l).toArray.size = l.length := by simp [cells8]

/-- all but two blocks are as they were -/
structure Apart2 (w w' : World) (x y : Nat) : Prop where
  os : w'.os = w.os
  tape : w'.tape = w.tape
  output : w'.output = w.output
  size : w.heap.size = w'.heap.size
  block : ∀ k, k ≠ x → k ≠ y → w'.heap[k]? = w.heap[k]?
theorem Apart2.refl (w : World) (x y : Nat) : Apart2 w w x y := ⟨rfl, rfl, rfl, rfl, fun _ _ _ => rfl⟩
theorem Apart2.drew {w w' : World} {x y : Nat} (h : Apart2 w w' x y) : Apart2 w w'.drew x y := ⟨h.os, h.tape, h.output, h.size, h.block⟩
theorem Apart2.setCell {w w' : World} {x y : Nat} (h : Apart2 w w' x y) (a : Addr) (v : Value) (ha : a.block = x ∨ a.block = y) : Apart2 w (w'.setCell a v) x y := by
  have hb := (Below.refl a.block w').setCell (Nat.le_refl _) v (p := a)
  refine ⟨hb.os.trans h.os, hb.tape.trans h.tape, hb.output.trans h.output, by simp [h.size], fun k hx hy => ?_⟩
  rw [Below.heap_setCell w' a v k (by rcases ha with e | e <;> omega)]
  exact h.block k hx hy
theorem Apart2.below {w w' : World} {x y B : Nat} (h : Apart2 w w' x y) (hx : B ≤ x) (hy : B ≤ y) : Below B w w' := ⟨h.os, h.tape, h.output, Nat.le_of_eq h.size, fun k hk => h.block k (by omega) (by omega)⟩

theorem shr_val (n i : Nat) : Value.int .u8 ((n : Int) / 2 ^ (8 * i) % 256) = Value.int .u8 ((UInt8.ofNat (n / 256 ^ i)).toNat : Int) := by
  have e : ((n / 2 ^ (8 * i) % 256 : Nat) : Int) = (n : Int) / 2 ^ (8 * i) % 256 := by
    rw [Int.natCast_emod, Int.natCast_ediv, Int.natCast_pow]
    rfl
  rw [UInt8.toNat_ofNat', ← e, Nat.pow_mul]
theorem set_mid (pre a mid post : List UInt8) (i : Nat) (c : UInt8) (ha : a.length = i) (hi : i < mid.length) : (pre ++ (a ++ (mid.drop i ++ post))).set (pre.length + i) c = pre ++ (a ++ [c] ++ (mid.drop (i + 1) ++ post)) := by
  subst ha
  rw [List.drop_eq_getElem_cons hi, List.set_append_right _ _ (by omega), show pre.length + a.length - pre.length = a.length by omega, List.set_append_right _ _ (by omega), Nat.sub_self, List.cons_append, List.set_cons_zero, List.append_assoc]
  rfl

set_option maxHeartbeats 1000000 in
theorem lay_any (w : World) (bb ba : Nat) (pre post : List UInt8) (mid : List UInt8) (n : Nat) (h8 : mid.length ≤ 8) (h256 : (pre ++ (mid ++ post)).length = 256)
    (hb : Holds8 w bb 151 (pre ++ (mid ++ post))) (ha : w.heap[ba]? = some (.cells #[.int .i64 (pre.length : Int)] 3 (0, 0))) (hne : bb ≠ ba) :
    Calls Tryz.prog 253 #[.int .i64 (mid.length : Int), .int .u64 n, .pointer (some ⟨bb, 0, none⟩), .pointer (some ⟨ba, 0, none⟩)] w fun e w' => e = .returned (.tuple #[]) ∧ Holds8 w' bb 151 (pre ++ (leN mid.length n ++ post)) ∧ w'.heap[ba]? = some (.cells #[.int .i64 ((pre.length + mid.length : Nat) : Int)] 3 (0, 0)) ∧ Apart2 w w' bb ba := by
  have HNE := Lib.hid hne
  clear hne
  go_enter Tryz.func253, Tryz.ntmps253
  go_wp2
  go_loopw [8] (fun j wr => ∃ i : Nat, i ≤ mid.length ∧ j = .int .i64 (i : Int) ∧ Holds8 wr bb 151 (pre ++ (leN i n ++ (mid.drop i ++ post))) ∧ wr.heap[ba]? = some (.cells #[.int .i64 (pre.length : Int)] 3 (0, 0)) ∧ Apart2 w wr bb ba) (fun j _ => mid.length - (intOf j).toNat)
  case atStart => exact ⟨0, Nat.zero_le _, rfl, by simpa [leN] using hb, ha, Apart2.refl _ _ _⟩
  case round =>
    obtain ⟨i, hi, rfl, H0, H1, H2⟩ := hrel
    have hpm : pre.length + mid.length ≤ 256 := by simp at h256; omega
    by_cases hlt : i < mid.length
    · have hlen : (pre ++ (leN i n ++ (mid.drop i ++ post))).length = 256 := by simp [leN_length] at h256 ⊢; omega
      have hfz := H0.frozen (pre.length + i)
      have hc0 := H0.cell (pre.length + i) (by rw [hlen]; omega)
      have hc1 := cell_of_one H1
      have HS := Lib.hid (H0.set (pre.length + i) (UInt8.ofNat (n / 256 ^ i)))
      rw [set_mid _ _ _ _ _ _ (leN_length i n) hlt, ← leN_snoc] at HS
      have HB1o : Hid ((wr.setCell { block := bb, off := pre.length + i } (Value.int .u8 ((UInt8.ofNat (n / 256 ^ i)).toNat : Int))).drew.heap[ba]? = some (.cells #[.int .i64 (pre.length : Int)] 3 (0, 0))) := (Below.heap_setCell wr ⟨bb, pre.length + i, none⟩ _ ba (fun h => HNE.out h.symm)).trans H1
      clear H0 H1
      go_wp2
      go_region
      go_wp2
      rw [shr_val]
      go_roundw
      case rel => exact ⟨i + 1, hlt, by go_num, HS.out, HB1o.out, (H2.setCell _ _ (.inl rfl)).drew⟩
      case measure => simp [intOf]; omega
    · obtain rfl : i = mid.length := by omega
      have hc1 := cell_of_one H1
      have hfz := free_of_one H1
      have HB0 := Lib.hid (H0.other (a := ⟨ba, 0, none⟩) HNE.out (.int .i64 ((pre.length + mid.length : Nat) : Int)))
      have HB1 := Lib.hid (one_setCell (u := .int .i64 ((pre.length + mid.length : Nat) : Int)) H1)
      clear H0 H1
      go_wp2

      go_end0
      rw [List.drop_length] at HB0
      exact ⟨rfl, by simpa using HB0.out, HB1.out, H2.setCell _ _ (.inr rfl)⟩
end Go.Proofs.YtoclhiaidbfheaaGreatDoor
