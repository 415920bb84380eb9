/- Blocks of 256 bytes: Merge. -/
import Derived.Test.YtbencgjihoiieaaPs
import Derived.Laws.CopyOwn
import Derived.Stop.BytesEq
set_option linter.unusedVariables false
namespace Go.Proofs.Ytbencgjihoiieaa
open Go.RowKit

/-- a block holds bytes -/
def Holds8 (w : World) (b : Nat) (t : TypeId) (l : List UInt8) : Prop := w.heap[b]? = some (.cells (cells8 l).toArray t (0, 0))
theorem Holds8.cell {w : World} {b : Nat} {t : TypeId} {l : List UInt8} (h : Holds8 w b t l) (i : Nat) (hi : i < l.length) : w.cell? ⟨b, i, none⟩ = some (.int .u8 ((l[i]'hi).toNat : Int)) := by
  rw [cell_of_row w b i _ _ _ h]
  simpa using cells8_get l i hi
theorem Holds8.frozen {w : World} {b : Nat} {t : TypeId} {l : List UInt8} (h : Holds8 w b t l) (i : Nat) : w.frozen? ⟨b, i, none⟩ = false := by
  unfold Holds8 at h
  simp [World.frozen?, h]
theorem Holds8.set {w : World} {b : Nat} {t : TypeId} {l : List UInt8} (h : Holds8 w b t l) (i : Nat) (c : UInt8) : Holds8 (w.setCell ⟨b, i, none⟩ (.int .u8 (c.toNat : Int))) b t (l.set i c) := by
  unfold Holds8
  have e : (cells8 (l.set i c)).toArray = (cells8 l).toArray.setIfInBounds i (.int .u8 (c.toNat : Int)) := by simp [cells8, List.map_set]
  rw [e]
  exact Joins.block_setCell h _
theorem Holds8.other {w : World} {b : Nat} {t : TypeId} {l : List UInt8} (h : Holds8 w b t l) {a : Addr} (ha : b ≠ a.block) (u : Value) : Holds8 (w.setCell a u) b t l := by
  unfold Holds8
  rw [Below.heap_setCell w a u b ha]
  exact h
theorem Holds8.new (w : World) (t : TypeId) (l : List UInt8) (cs : Array Value) (h : cs = (cells8 l).toArray) : Holds8 (w.alloc (.cells cs t)) w.heap.size t l := by
  subst h
  exact heap_alloc_new w _
theorem Holds8.lt {w : World} {b : Nat} {t : TypeId} {l : List UInt8} (h : Holds8 w b t l) : b < w.heap.size := (Array.getElem?_eq_some_iff.1 h).1
theorem Holds8.alloc {w : World} {b : Nat} {t : TypeId} {l : List UInt8} (h : Holds8 w b t l) (o : Obj) : Holds8 (w.alloc o) b t l := by
  have hl := h.lt
  unfold Holds8 at *
  rw [Below.heap_alloc w o b hl]
  exact h
theorem Holds8.below {w w' : World} {b : Nat} {t : TypeId} {l : List UInt8} (h : Holds8 w b t l) (hb : Below w.heap.size w w') : Holds8 w' b t l :=
  (hb.block b h.lt).trans h
theorem Holds8.shows {w : World} {b : Nat} {t : TypeId} {l : List UInt8} (h : Holds8 w b t l) : Shows w w.heap.size (some ⟨b, 0, none⟩) l.length (cells8 l) := by
  refine ⟨cells8_length l, fun _ => ⟨_, rfl, h.lt, fun j u hu => ?_⟩⟩
  have ha : (⟨b, 0, none⟩ : Addr).add j = ⟨b, j, none⟩ := by
    unfold Addr.add
    by_cases hj0 : j = 0 <;> simp [hj0]
  rw [ha, cell_of_row w b j _ _ _ h]
  simpa using hu
theorem cells8_all (l : List UInt8) : (cells8 l).toArray.all (·.oneCell') = true := by simp [cells8, Value.oneCell']
theorem cells8_size (l : List UInt8) : (cells8 l).toArray.size = l.length := by simp [cells8]

theorem blk_size : (Try.prog.info? 36).map (·.size) = some 256 := by kernel_rfl
/-- a block of noughts -/
def noughts : List UInt8 := List.replicate 256 0
theorem blk_zero (w : World) : (zeroValue 36).run Try.prog w = .ok (.agg (cells8 noughts).toArray) w := by kernel_rfl
theorem blk_zero' : (Try.prog.info? 36).map (·.zero) = some (some (.agg (cells8 noughts).toArray)) := by kernel_rfl
theorem Holds8.row {w : World} {b : Nat} {t : TypeId} {l : List UInt8} (h : Holds8 w b t l) (m : List UInt8) : Holds8 (w.setRow b (cells8 m).toArray) b t m := setRow_heap w b _ _ t _ h

theorem noughts_len : noughts.length = 256 := by rw [noughts, List.length_replicate]
theorem results_cell_tmp {P : Program} {fn : Func} {p q : Tmp} {ty : TypeId} (h : fn.results = #[.cell p ty, .tmp q]) (tmps : Array Value) (w : World) (g : Nat) (t : TypeId) (cs : Array Value) (fr : Nat × Nat) (d : TypeDesc) (u : Value)
    (hp : tmps.getD p undef = .pointer (some ⟨g, 0, none⟩)) (hq : tmps.getD q undef = u) (hg : w.heap[g]? = some (.cells cs t fr))
    (hu : P.underlying ty = some d) (hd : (match d with | .struct _ | .array _ _ => true | _ => false) = true) (hi : (P.info? ty).map (·.size) = some cs.size) :
    (results fn tmps).run P w = .ok (.tuple #[.agg cs, u]) w := by
  have hp' : tmps[p]?.getD undef = .pointer (some ⟨g, 0, none⟩) := by simpa using hp
  have hq' : tmps[q]?.getD undef = u := by simpa using hq
  simp [results, h, hp', hq', asAddr, run_loadVar_row w g t ty cs fr d hg hu hd hi]

theorem neq_blk (a b : List UInt8) (ha : a.length = 256) (hb : b.length = 256) (w : World) : (binOp .neq 36 (.agg (cells8 a).toArray) (.agg (cells8 b).toArray)).run Try.prog w = .ok (.bool (!(a == b))) w := by
  have h := run_equalIn_bytes (P := Try.prog) w 9998 36 5 256 Try.underlying36 Try.underlying5 (fun w => by kernel_rfl) a b ha hb
  have h2 : (Op.equalIn 10000 36 (.agg (cells8 a).toArray) (.agg (cells8 b).toArray)).run Try.prog w = .ok (a == b) w := h
  rw [run_neq_struct, h2]
  rfl

theorem slice_from (g f : Nat) (h : f ≤ 3) (w : World) : (Instr.sliceAt 36 (.pointer (some ⟨g, 0, none⟩)) (some (.int .i64 ((f : Int) * 64))) none none).run Try.prog w = .ok (.slice (some ⟨g, 64 * f, none⟩) (256 - 64 * f) (256 - 64 * f)) w := by
  have hl : Try.prog.arrayLen 36 = 256 := by kernel_rfl
  have hE : Try.prog.elem 36 = 5 := by kernel_rfl
  have h1 : ∀ w, (sizeOf 5).run Try.prog w = .ok 1 w := fun w => by kernel_rfl
  rw [run_sliceAt_array_l (P := Try.prog) w 36 ⟨g, 0, none⟩ (by rw [hl, hE]; exact Try.underlying36) .i64 ((f : Int) * 64) (by omega) (by rw [hl]; omega), hl, hE, h1]
  have e1 : ((f : Int) * 64).toNat = 64 * f := by omega
  simp only [Result.andThen, slicedAt, e1, Nat.mul_one]
  rw [if_neg (by omega)]
  have e2 : (⟨g, 0, none⟩ : Addr).add (64 * f) = ⟨g, 64 * f, none⟩ := by
    unfold Addr.add
    by_cases hf : 64 * f = 0 <;> simp [hf]
  simp [e2]
set_option maxRecDepth 100000 in
set_option maxHeartbeats 4000000 in
theorem merge_ok (w : World) (B : List UInt8) (hB : B.length = 256) (f k : Nat) (hf : f ≤ 3) (hk : 0 < k) (hfk : f + k ≤ 4) (d : List UInt8) (hd : d.length = 64 * k) (A : Option Addr) (c : Nat) (hs : Shows w w.heap.size A d.length (cells8 d)) :
    Calls Try.prog 15 #[.agg (cells8 B).toArray, .int .i64 (f : Int), .slice A d.length c] w fun e w' => e = .returned (.tuple #[.agg (cells8 (mergeL B f d)).toArray, .int .i64 0]) ∧ Hid (Below w.heap.size w w') := by
  obtain ⟨p, rfl, hpb, hx⟩ := hs.lies (by omega)
  have hz := blk_zero
  have hcs := cells8_size noughts
  have hl := noughts_len
  have hsl := fun W => slice_from w.heap.size f hf W
  generalize hnz : noughts = z at *
  have HL := Lib.hid hl
  have HCS := Lib.hid hcs
  have hB8 := cells8_size B
  have H0 : Hid (Holds8 ((w.alloc (.cells (cells8 B).toArray 36)).alloc (.cells (cells8 z).toArray 36)) w.heap.size 36 B) := (Holds8.new w _ B _ rfl).alloc _
  have H1 : Hid (Holds8 ((w.alloc (.cells (cells8 B).toArray 36)).alloc (.cells (cells8 z).toArray 36)) (w.heap.size + 1) 36 z) := by
    have := Holds8.new (w.alloc (.cells (cells8 B).toArray 36)) 36 z _ rfl
    rw [World.size_alloc] at this
    exact this
  have HB1 : Hid (Below w.heap.size w ((w.alloc (.cells (cells8 B).toArray 36)).alloc (.cells (cells8 z).toArray 36))) := ((Below.refl _ w).alloc (Nat.le_refl _) _).alloc (by simp) _
  have HBL := Lib.hid hB
  have hrow : (((cells8 B).toArray.toList.take (64 * f) ++ cells8 d ++ (cells8 B).toArray.toList.drop (64 * f + (cells8 d).length))).toArray = (cells8 (mergeL B f d)).toArray := by
    rw [List.toList_toArray, cells8_length]
    unfold mergeL
    rw [cells8_append, cells8_append, cells8_take, cells8_drop]
  have hcp : (Builtin.copy_ #[32, 32] 3 #[.slice (some ⟨w.heap.size, 64 * f, none⟩) (256 - 64 * f) (256 - 64 * f), .slice (some p) (64 * k) c]).run Try.prog ((w.alloc (.cells (cells8 B).toArray 36)).alloc (.cells (cells8 z).toArray 36)) = .ok (goInt (64 * k)) (((w.alloc (.cells (cells8 B).toArray 36)).alloc (.cells (cells8 z).toArray 36)).setRow w.heap.size (cells8 (mergeL B f d)).toArray) := by
    have h := run_copy_row (P := Try.prog) ((w.alloc (.cells (cells8 B).toArray 36)).alloc (.cells (cells8 z).toArray 36)) 32 32 3 5 w.heap.size (64 * f) (256 - 64 * f) (256 - 64 * f) p (64 * k) c (cells8 B).toArray 36 (cells8 d) Try.underlying32 (by kernel_rfl) H0.out (by rw [cells8_length, hd]; exact (Nat.min_eq_left (by omega)).symm) (fun j u hj => by rw [HB1.out.cell (by rw [addr_block]; exact hpb)]; exact hx j u hj) (by rw [cells8_length, cells8_size, hB]; omega) (cells8_one _)
    rw [hrow, cells8_length, hd] at h
    exact h
  have H2 : Hid (Holds8 (((w.alloc (.cells (cells8 B).toArray 36)).alloc (.cells (cells8 z).toArray 36)).setRow w.heap.size (cells8 (mergeL B f d)).toArray) w.heap.size 36 (mergeL B f d)) := H0.out.row _
  have H3 : Hid (Holds8 (((w.alloc (.cells (cells8 B).toArray 36)).alloc (.cells (cells8 z).toArray 36)).setRow w.heap.size (cells8 (mergeL B f d)).toArray) (w.heap.size + 1) 36 z) := by
    exact (setRow_other _ _ _ _ (by omega)).trans H1.out
  have HB2 : Hid (Below w.heap.size w (((w.alloc (.cells (cells8 B).toArray 36)).alloc (.cells (cells8 z).toArray 36)).setRow w.heap.size (cells8 (mergeL B f d)).toArray)) := below_setRow HB1.out (Nat.le_refl _) _
  have HM := Lib.hid (mergeL_length B f d hB (by omega))
  have HCP := Lib.hid hcp
  clear hnz hl hcs hB8 hrow hcp
  generalize mergeL B f d = M at *
  go_enter Try.func15, Try.ntmps15
  go_wp2_with fail
  rw [HCP.out]
  generalize ((w.alloc (.cells (cells8 B).toArray 36)).alloc (.cells (cells8 z).toArray 36)).setRow w.heap.size (cells8 M).toArray = W2 at *
  have hms := cells8_size M
  go_wp2_with (first
    | (refine wpList_load_row rfl 36 (.tmp 3) rfl w.heap.size rfl 36 (cells8 M).toArray (0, 0) _ H2.out Try.underlying36 rfl (by rw [blk_size, hms, HM.out]) ?_)
    | (refine wpList_store_row rfl 36 (.tmp 6) (.tmp 34) rfl (w.heap.size + 1) (cells8 M).toArray rfl rfl 36 (cells8 z).toArray H3.out (by rw [blk_size, hms, HM.out]) (by rw [hms, HM.out, HCS.out, HL.out]) (cells8_all _) ?_)
    | fail)
  exact bodyPost_ret (results_cell_tmp rfl _ _ (w.heap.size + 1) 36 (cells8 M).toArray (0, 0) _ (.int .i64 0) rfl rfl (H3.out.row M) Try.underlying36 rfl (by rw [blk_size, hms, HM.out])) rfl ⟨rfl, below_setRow HB2.out (by omega) _⟩
end Go.Proofs.Ytbencgjihoiieaa
