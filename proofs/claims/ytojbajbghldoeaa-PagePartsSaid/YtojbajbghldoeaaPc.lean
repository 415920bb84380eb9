/- A page of an area; the document's; which are the same. -/
import Derived.Test.YtojbajbghldoeaaPb
set_option linter.unusedVariables false
namespace Go.Proofs.Ytojbajbghldoeaa
open Go.RowKit

/-- a block of memory holds counts -/
def Holds16 (w : World) (b : Nat) (t : TypeId) (l : List Nat) : Prop := w.heap[b]? = some (.cells (nums16 l).toArray t (0, 0))
theorem Holds16.cell {w : World} {b : Nat} {t : TypeId} {l : List Nat} (h : Holds16 w b t l) (i : Nat) (hi : i < l.length) : w.cell? ⟨b, i, none⟩ = some (.int .u16 ((l.getD i 0 : Nat) : Int)) := by
  rw [cell_of_row w b i _ _ _ h]
  simpa using nums16_get l i hi
theorem Holds16.frozen {w : World} {b : Nat} {t : TypeId} {l : List Nat} (h : Holds16 w b t l) (i : Nat) : w.frozen? ⟨b, i, none⟩ = false := by
  unfold Holds16 at h
  simp [World.frozen?, h]
theorem Holds16.set {w : World} {b : Nat} {t : TypeId} {l : List Nat} (h : Holds16 w b t l) (i : Nat) (c : Nat) : Holds16 (w.setCell ⟨b, i, none⟩ (.int .u16 (c : Int))) b t (l.set i c) := by
  unfold Holds16
  have e : (nums16 (l.set i c)).toArray = (nums16 l).toArray.setIfInBounds i (.int .u16 (c : Int)) := by simp [nums16, List.map_set]
  rw [e]
  exact Joins.block_setCell h _
theorem Holds16.other {w : World} {b : Nat} {t : TypeId} {l : List Nat} (h : Holds16 w b t l) {a : Addr} (ha : b ≠ a.block) (u : Value) : Holds16 (w.setCell a u) b t l := by
  unfold Holds16
  rw [Below.heap_setCell w a u b ha]
  exact h
theorem Holds16.new (w : World) (t : TypeId) (l : List Nat) : Holds16 (w.alloc (.cells (nums16 l).toArray t)) w.heap.size t l := heap_alloc_new w _
theorem Holds16.lt {w : World} {b : Nat} {t : TypeId} {l : List Nat} (h : Holds16 w b t l) : b < w.heap.size := (Array.getElem?_eq_some_iff.1 h).1
theorem Holds16.alloc {w : World} {b : Nat} {t : TypeId} {l : List Nat} (h : Holds16 w b t l) (o : Obj) : Holds16 (w.alloc o) b t l := by
  have hl := h.lt
  unfold Holds16 at *
  rw [Below.heap_alloc w o b hl]
  exact h
theorem Holds16.below {w w' : World} {b : Nat} {t : TypeId} {l : List Nat} (h : Holds16 w b t l) (hb : Below w.heap.size w w') : Holds16 w' b t l := (hb.block b h.lt).trans h
theorem Holds16.row {w : World} {b : Nat} {t : TypeId} {l : List Nat} (h : Holds16 w b t l) (m : List Nat) : Holds16 (w.setRow b (nums16 m).toArray) b t m := setRow_heap w b _ _ t _ h
theorem Holds16.shows {w : World} {b : Nat} {t : TypeId} {l : List Nat} (h : Holds16 w b t l) : Shows w w.heap.size (some ⟨b, 0, none⟩) l.length (nums16 l) := by
  refine ⟨nums16_length l, fun _ => ⟨_, rfl, h.lt, fun j u hu => ?_⟩⟩
  have ha : (⟨b, 0, none⟩ : Addr).add j = ⟨b, j, none⟩ := by
    unfold Addr.add
    by_cases hj0 : j = 0 <;> simp [hj0]
  rw [ha, cell_of_row w b j _ _ _ h]
  simpa using hu
theorem nums16_all (l : List Nat) : (nums16 l).toArray.all (·.oneCell') = true := by simp [nums16, Value.oneCell']
theorem nums16_size (l : List Nat) : (nums16 l).toArray.size = l.length := by simp [nums16]
def none16 : List Nat := List.replicate 120 0
theorem none16_len : none16.length = 120 := by rw [none16, List.length_replicate]
theorem pg_zero (w : World) : (zeroValue 34).run Try.prog w = .ok (.agg (nums16 none16).toArray) w := by kernel_rfl
theorem pg_size : (Try.prog.info? 34).map (·.size) = some 120 := by kernel_rfl
set_option maxHeartbeats 1000000 in
theorem vsame_ok (w : World) (l : List Nat) (A A' : Option Addr) (c c' : Nat) (hlen : l.length ≤ 2000) (hs : Shows w w.heap.size A l.length (nums16 l)) (hv : Shows w w.heap.size A' l.length (nums16 l)) :
    Calls Try.prog 6 #[.slice A l.length c, .slice A' l.length c'] w fun e w' => e = .returned (.bool true) ∧ Below w.heap.size w w' := by
  have HS := Lib.hid hs
  have HV := Lib.hid hv
  clear hs hv
  go_enter Try.func6, Try.ntmps6
  go_wp2
  go_loopw [5] (fun j wr => ∃ i : Nat, i ≤ l.length ∧ j = .int .i64 (i : Int) ∧ Below w.heap.size w wr) (fun j _ => l.length - (intOf j).toNat)
  case atStart => exact ⟨0, Nat.zero_le _, rfl, Below.refl _ _⟩
  case round =>
    obtain ⟨i, hi, rfl, hbr⟩ := hrel
    by_cases hlt : i < l.length
    · have hltI : (i : Int) < (l.length : Int) := by omega
      obtain ⟨p, rfl, hp, hck⟩ := (HS.out.below hbr).num16 i hlt
      obtain ⟨p2, rfl, hp2, hcv⟩ := (HV.out.below hbr).num16 i hlt
      generalize l.getD i 0 = x at *
      have hck2 : wr.drew.cell? (p.add i) = some (.int .u16 (x : Int)) := hck
      have hcv2 : wr.drew.cell? (p2.add i) = some (.int .u16 (x : Int)) := hcv
      go_wp2
      first
        | go_region
        | fail
      go_wp2
      go_roundw
      case rel => exact ⟨i + 1, hlt, by go_num, hbr.drew⟩
      case measure => simp [intOf]; omega
    · obtain rfl : i = l.length := by omega
      have hltI : ¬ (l.length : Int) < (l.length : Int) := by omega
      go_wp2
      go_ret
      exact ⟨rfl, hbr⟩

theorem cut_cells {w : World} {B : Nat} {p : Addr} {l : List Nat} (k m : Nat) (h : Shows w B (some p) l.length (nums16 l)) (hm : k + m ≤ l.length) (hB : B ≤ w.heap.size) (w2 : World) (hb : Below w.heap.size w w2) : ∀ j v, (nums16 ((l.drop k).take m))[j]? = some v → w2.cell? ((p.add k).add j) = some v := by
  intro j v hv
  have hj : j < m := by
    rcases Nat.lt_or_ge j m with h1 | h1
    · exact h1
    · rw [List.getElem?_eq_none (by rw [nums16_length, List.length_take]; omega)] at hv; cases hv
  obtain ⟨q, hq, hqb, hx⟩ := h.lies (by omega)
  injection hq with hq
  subst hq
  rw [addr_twice, hb.cell (by rw [addr_block]; omega)]
  refine hx _ v ?_
  rw [← hv, nums16_get l (k + j) (by omega), nums16_get _ j (by simp; omega)]
  simp [List.getD, hj]
theorem part_row (l : List Nat) (k : Nat) (h : k * 120 ≤ l.length) : ((nums16 none16).toArray.toList.take 0 ++ nums16 ((l.drop (k * 120)).take (cutN l.length k)) ++ (nums16 none16).toArray.toList.drop (0 + (nums16 ((l.drop (k * 120)).take (cutN l.length k))).length)) = nums16 (partL l (k : Int)) := by
  have hc : cutN l.length k ≤ l.length - k * 120 := Nat.min_le_left _ _
  have e : ((l.drop (k * 120)).take (cutN l.length k)).length = cutN l.length k := by simp; omega
  have e2 : nums16 none16 = List.replicate 120 (.int .u16 0) := by
    unfold nums16 none16
    rw [List.map_replicate]
    rfl
  have e3 : nums16 (List.replicate (120 - cutN l.length k) 0) = List.replicate (120 - cutN l.length k) (.int .u16 0) := by
    unfold nums16
    rw [List.map_replicate]
    rfl
  rw [partL_cut l k h, nums16_append, nums16_length, e, e2, e3, List.toList_toArray, List.drop_replicate, Nat.zero_add, List.take_zero, List.nil_append]
set_option maxRecDepth 10000 in
set_option maxHeartbeats 2000000 in
theorem part_any (w : World) (A : Option Addr) (l : List Nat) (cap : Nat) (h1010 : l.length ≤ 1010) (hc : l.length ≤ cap) (hs : Shows w w.heap.size A l.length (nums16 l)) (ix : Int) :
    Calls Try.prog 7 #[.slice A l.length cap, .int .i64 ix] w fun e w' => e = .returned (.slice (some ⟨w.heap.size, 0, none⟩) 120 120) ∧ Holds16 w' w.heap.size 34 (partL l ix) ∧ Below w.heap.size w w' ∧ w.heap.size < w'.heap.size := by
  have hz := pg_zero
  have h0 : Holds16 (w.alloc (.cells (nums16 none16).toArray 34)).drew w.heap.size 34 none16 := Holds16.new w _ none16
  have hb := ((Below.refl w.heap.size w).alloc (Nat.le_refl _) (.cells (nums16 none16).toArray 34)).drew
  have H0 := Lib.hid h0
  have HB := Lib.hid hb
  clear h0
  by_cases hin : ix < 0 ∨ (pagesN l.length : Int) ≤ ix
  · have HC := Lib.hid (cut_none (w.alloc (.cells (nums16 none16).toArray 34)).drew A l.length cap ix h1010 hin)
    have hpl := partL_none l ix hin
    have hcp : ∀ W : World, (Builtin.copy_ #[22, 22] 3 #[.slice (some ⟨w.heap.size, 0, none⟩) 120 120, .slice none 0 0]).run Try.prog W = .ok (.int .i64 0) W := fun W => run_copy_nil Try.prog W 22 22 3 31 _ 120 120 Try.underlying22 (by kernel_rfl)
    have hpl2 : partL l ix = none16 := hpl
    rw [hpl2]
    clear hin hs hb hpl hpl2
    generalize none16 = z at *
    go_enter Try.func7, Try.ntmps7
    go_wp2_with fail
    first | go_region_with (go_at_call 11; (with_reducible refine HC.out.mono ?_); rintro e w1 ⟨rfl, rfl⟩) | fail
    all_goals go_wp2
    all_goals go_ret
    all_goals exact ⟨rfl, H0.out, HB.out, H0.out.lt⟩
  · obtain ⟨k, rfl⟩ := Int.eq_ofNat_of_zero_le (show 0 ≤ ix by omega)
    have hk : k < pagesN l.length := by omega
    have hkl : k * 120 < l.length := by unfold pagesN at hk; omega
    obtain ⟨p, rfl, hpb, _⟩ := hs.num16 (k * 120) hkl
    have hc2 : cutN l.length k ≤ l.length - k * 120 := Nat.min_le_left _ _
    have hc3 : cutN l.length k ≤ 120 := Nat.min_le_right _ _
    have HC := Lib.hid (cut_any (w.alloc (.cells (nums16 none16).toArray 34)).drew p l.length cap k h1010 hc hk)
    have hcl : (nums16 ((l.drop (k * 120)).take (cutN l.length k))).length = cutN l.length k := by rw [nums16_length]; simp; omega
    have hcp : (Builtin.copy_ #[22, 22] 3 #[.slice (some ⟨w.heap.size, 0, none⟩) 120 120, .slice (some (p.add (k * 120))) (cutN l.length k) (cutN l.length k)]).run Try.prog (w.alloc (.cells (nums16 none16).toArray 34)).drew = .ok (.int .i64 (cutN l.length k : Int)) ((w.alloc (.cells (nums16 none16).toArray 34)).drew.setRow w.heap.size (nums16 (partL l (k : Int))).toArray) := by
      have h := run_copy_row (P := Try.prog) (w.alloc (.cells (nums16 none16).toArray 34)).drew 22 22 3 31 w.heap.size 0 120 120 (p.add (k * 120)) (cutN l.length k) (cutN l.length k) (nums16 none16).toArray 34 (nums16 ((l.drop (k * 120)).take (cutN l.length k))) Try.underlying22 (by kernel_rfl) H0.out (by rw [hcl]; exact (Nat.min_eq_left hc3).symm) (cut_cells (k * 120) (cutN l.length k) hs (by omega) (Nat.le_refl _) _ hb) (by rw [hcl, nums16_size, none16_len]; omega) (nums16_one _)
      rw [part_row l k (by omega), hcl] at h
      exact h
    have HR : Hid (Holds16 ((w.alloc (.cells (nums16 none16).toArray 34)).drew.setRow w.heap.size (nums16 (partL l (k : Int))).toArray) w.heap.size 34 (partL l (k : Int))) := H0.out.row _
    have HB2 : Hid (Below w.heap.size w ((w.alloc (.cells (nums16 none16).toArray 34)).drew.setRow w.heap.size (nums16 (partL l (k : Int))).toArray)) := below_setRow HB.out (Nat.le_refl _) _
    clear hin hs hb hpb hk hkl hc2 hc3 hcl
    generalize none16 = z at *
    go_enter Try.func7, Try.ntmps7
    go_wp2_with fail
    first | go_region_with (go_at_call 11; (with_reducible refine HC.out.mono ?_); rintro e w1 ⟨rfl, rfl⟩) | fail
    all_goals go_wp2
    all_goals go_ret
    all_goals exact ⟨rfl, HR.out, HB2.out, HR.out.lt⟩
end Go.Proofs.Ytojbajbghldoeaa
