/- Layer 7: an area's counts as pages. No program is named here. How many pages; a page cut; what is known. A page of an area; the document's; which are the same. The document's page. Join, and what it calls. -/
import Derived.Test.YtoclhiaidbfheaaGreatDoorMem
import Derived.Lib.Hide
import Derived.Test.YtoclhiaidbfheaaGreatDoorProg
import Derived.Test.YtoclhiaidbfheaaGreatDoorRow
import Derived.WalkKit
import Derived.WalkSpells
import Derived.WalkLawsBesides
import Derived.LoopTactic
import Derived.Lib.SmallJoins
import Derived.Deep.QuietTactic
import Derived.Deep.WholeRow
import Derived.Laws.Rows
import Derived.Laws.OwnMore
import Derived.Laws.BitsAllLaws
import Derived.RegionTactic
import Derived.Deep.RegionWith
import Derived.Deep.RegionHeld3
import Derived.Deep.DeepCutAuto
import Derived.BigQuiet
import Derived.Deep.OwnRows
section
set_option linter.unusedVariables false
namespace Go.Proofs.YtoclhiaidbfheaaGreatDoor.K
open Go.RowKit

/-- counts, as they lie -/
def nums16 (l : List Nat) : List Value := l.map fun n : Nat => .int .u16 (n : Int)
theorem nums16_length (l : List Nat) : (nums16 l).length = l.length := by simp [nums16]
theorem nums16_append (a b : List Nat) : nums16 (a ++ b) = nums16 a ++ nums16 b := by simp [nums16]
theorem nums16_one (l : List Nat) : ∀ v ∈ nums16 l, v.oneCell' = true := by
  intro v hv
  obtain ⟨x, _, rfl⟩ := List.mem_map.1 hv
  rfl
theorem nums16_get (l : List Nat) (i : Nat) (h : i < l.length) : (nums16 l)[i]? = some (.int .u16 ((l.getD i 0 : Nat) : Int)) := by
  simp [nums16, h]
theorem _root_.Go.Proofs.YtoclhiaidbfheaaGreatDoor.Shows.num16K {w : World} {B : Nat} {A : Option Addr} {l : List Nat} (h : Shows w B A l.length (nums16 l)) (i : Nat) (hi : i < l.length) : ∃ p : Addr, A = some p ∧ p.block < B ∧ w.cell? (p.add i) = some (.int .u16 ((l.getD i 0 : Nat) : Int)) := by
  obtain ⟨p, u, h1, h2, h3, h4⟩ := h.cell hi
  rw [nums16_get l i hi] at h3
  exact ⟨p, h1, h2, by rw [h4, ← h3]⟩

def pagesN (n : Nat) : Nat := (n + 119) / 120
/-- the counts from a place on, noughts behind the end -/
def rowL (l : List Nat) (a k : Nat) : List Nat := (List.range k).map fun i => l.getD (a + i) 0
theorem rowL_length (l : List Nat) (a k : Nat) : (rowL l a k).length = k := by simp [rowL]
theorem rowL_get (l : List Nat) (a k i : Nat) (h : i < k) : (rowL l a k).getD i 0 = l.getD (a + i) 0 := by simp [rowL, List.getD, h]
theorem rowL_append (l : List Nat) (a m k : Nat) : rowL l a (m + k) = rowL l a m ++ rowL l (a + m) k := by
  simp only [rowL, List.range_add, List.map_append, List.map_map]
  congr 1
  apply List.map_congr_left
  intro i _
  simp [Nat.add_assoc]
theorem getD_ext {a b : List Nat} (hl : a.length = b.length) (h : ∀ i, i < a.length → a.getD i 0 = b.getD i 0) : a = b := by
  apply List.ext_getElem hl
  intro i h1 h2
  have := h i h1
  simpa [List.getD, h1, h2] using this
theorem rowL_in (l : List Nat) (a k : Nat) (h : a + k ≤ l.length) : rowL l a k = (l.drop a).take k := by
  refine getD_ext (by simp [rowL_length]; omega) fun i hi => ?_
  rw [rowL_length] at hi
  rw [rowL_get l a k i hi]
  simp [List.getD, hi]
theorem rowL_out (l : List Nat) (a k : Nat) (h : l.length ≤ a) : rowL l a k = List.replicate k 0 := by
  refine getD_ext (by simp [rowL_length]) fun i hi => ?_
  rw [rowL_length] at hi
  rw [rowL_get l a k i hi]
  simp [List.getD, hi, show ¬ a + i < l.length by omega]
/-- a page of an area -/
def partL (l : List Nat) (ix : Int) : List Nat := if ix < 0 then List.replicate 120 0 else rowL l (ix.toNat * 120) 120
theorem partL_length (l : List Nat) (ix : Int) : (partL l ix).length = 120 := by unfold partL; split <;> simp [rowL_length]
theorem partL_nat (l : List Nat) (k : Nat) : partL l (k : Int) = rowL l (k * 120) 120 := by rw [partL, if_neg (by omega), Int.toNat_natCast]
theorem partL_none (l : List Nat) (ix : Int) (h : ix < 0 ∨ (pagesN l.length : Int) ≤ ix) : partL l ix = List.replicate 120 0 := by
  unfold partL
  split
  · rfl
  · have hp : l.length ≤ pagesN l.length * 120 := by unfold pagesN; omega
    exact rowL_out l _ _ (by omega)
/-- how many counts of an area a page has -/
def cutN (n k : Nat) : Nat := min (n - k * 120) 120
theorem partL_cut (l : List Nat) (k : Nat) (h : k * 120 ≤ l.length) : partL l (k : Int) = (l.drop (k * 120)).take (cutN l.length k) ++ List.replicate (120 - cutN l.length k) 0 := by
  have hc : cutN l.length k ≤ 120 := Nat.min_le_right _ _
  have hc2 : cutN l.length k ≤ l.length - k * 120 := Nat.min_le_left _ _
  rw [partL_nat, ← rowL_in l (k * 120) (cutN l.length k) (by omega)]
  have e := rowL_append l (k * 120) (cutN l.length k) (120 - cutN l.length k)
  rw [show cutN l.length k + (120 - cutN l.length k) = 120 by omega] at e
  rw [e]
  congr 1
  rcases Nat.lt_or_ge (cutN l.length k) 120 with h1 | h1
  · have : cutN l.length k = l.length - k * 120 := by unfold cutN at *; omega
    exact rowL_out l _ _ (by omega)
  · rw [show 120 - cutN l.length k = 0 by omega]; rfl
theorem pages_cover (n : Nat) : n ≤ pagesN n * 120 := by unfold pagesN; omega
/-- a flat row of 120s, one count of one of them another -/
theorem flat_len : ∀ (L : List (List Nat)), (∀ p ∈ L, p.length = 120) → L.flatten.length = L.length * 120
  | [], _ => rfl
  | p :: L, h => by
    rw [List.flatten_cons, List.length_append, flat_len L (fun q hq => h q (List.mem_cons_of_mem _ hq)), h p (List.mem_cons_self ..), List.length_cons]
    omega
/-- is there a count behind the end? -/
def anyN (l : List Nat) : Bool := l.any fun x => decide (x ≠ 0)
theorem anyN_zero (k : Nat) : anyN (List.replicate k 0) = false := by simp [anyN]
theorem anyN_mem {l : List Nat} {i : Nat} (hi : i < l.length) (h : l.getD i 0 ≠ 0) : anyN l = true := by
  unfold anyN
  rw [List.any_eq_true]
  exact ⟨l[i], List.getElem_mem hi, by simpa [List.getD, hi] using h⟩
end Go.Proofs.YtoclhiaidbfheaaGreatDoor.K
end

section
set_option linter.unusedVariables false
namespace Go.Proofs.YtoclhiaidbfheaaGreatDoor.K
open Go.RowKit

theorem slice_ret {A : Option Addr} {n m c d : Nat} (h : n = m) (h2 : c = d) : Ending.returned (.slice A n c) = .returned (.slice A m d) := by rw [h, h2]
set_option maxHeartbeats 1000000 in
theorem pages_any (w : World) (z : Int) (h : z ≤ 100000) : Calls Tryz.prog 138 #[.int .i64 z] w fun e w' => e = .returned (.int .i64 ((pagesN z.toNat : Nat) : Int)) ∧ w' = w := by
  by_cases h1 : z < 1
  · have e : z.toNat = 0 := by omega
    rw [e]
    go_enter Tryz.func138, Tryz.ntmps138
    go_wp2
    go_ret
    exact ⟨rfl, rfl⟩
  · obtain ⟨n, rfl⟩ := Int.eq_ofNat_of_zero_le (show 0 ≤ z by omega)
    have e : ((n : Int) - 1) / 120 + 1 = ((pagesN n : Nat) : Int) := by unfold pagesN; omega
    rw [Int.toNat_natCast]
    go_enter Tryz.func138, Tryz.ntmps138
    go_wp2
    go_ret
    exact ⟨by rw [← e]; rfl, rfl⟩
set_option maxRecDepth 10000 in
set_option maxHeartbeats 2000000 in
theorem cut_any (w : World) (p : Addr) (n cap k : Nat) (h1010 : n ≤ 1010) (hc : n ≤ cap) (h : k < pagesN n) :
    Calls Tryz.prog 200 #[.slice (some p) n cap, .int .i64 (k : Int)] w fun e w' => e = .returned (.slice (some (p.add (k * 120))) (cutN n k) (cutN n k)) ∧ w' = w := by
  have HP := Lib.hid (pages_any w (n : Int) (by omega))
  have hk : k * 120 < n := by unfold pagesN at h; omega
  have h1 : (k : Int) < ((pagesN n : Nat) : Int) := by omega
  have hk9 : k ≤ 8 := by omega
  have hkI : (k : Int) * 120 < (n : Int) := by omega
  have hcut : cutN n k = min (n - k * 120) 120 := rfl
  have HCUT := Lib.hid hcut
  clear hk h hcut
  go_enter Tryz.func200, Tryz.ntmps200
  go_wp2_with (first
    | (go_at_call 138; (with_reducible refine HP.out.mono ?_); rintro e w1 ⟨rfl, rfl⟩; rw [Int.toNat_natCast])
    | fail)
  all_goals go_ret
  all_goals
    have hcut := HCUT.out
    exact ⟨slice_ret (by omega) (by omega), rfl⟩
theorem cut_none (w : World) (A : Option Addr) (n cap : Nat) (ix : Int) (h1010 : n ≤ 1010) (h : ix < 0 ∨ (pagesN n : Int) ≤ ix) :
    Calls Tryz.prog 200 #[.slice A n cap, .int .i64 ix] w fun e w' => e = .returned (.slice none 0 0) ∧ w' = w := by
  have HP := Lib.hid (pages_any w (n : Int) (by omega))
  by_cases h0 : ix < 0
  · clear h
    go_enter Tryz.func200, Tryz.ntmps200
    go_wp2
    go_ret
    exact ⟨rfl, rfl⟩
  · have h1 : ¬ ix < ((pagesN n : Nat) : Int) := by omega
    have h2 : ((pagesN n : Nat) : Int) ≤ ix := by omega
    clear h
    go_enter Tryz.func200, Tryz.ntmps200
    go_wp2_with (first
      | (go_at_call 138; (with_reducible refine HP.out.mono ?_); rintro e w1 ⟨rfl, rfl⟩; rw [Int.toNat_natCast])
      | fail)
    go_ret
    exact ⟨rfl, rfl⟩
end Go.Proofs.YtoclhiaidbfheaaGreatDoor.K
end

section
set_option linter.unusedVariables false
namespace Go.Proofs.YtoclhiaidbfheaaGreatDoor.K
open Go.RowKit

/-- a block of memory holds counts -/
def Holds16 (w : World) (b : Nat) (t : TypeId) (l : List Nat) : Prop := w.heap[b]? = some (.cells (nums16 l).toArray t (0, 0))
theorem Holds16.cell {w : World} {b : Nat} {t : TypeId} {l : List Nat} (h : Holds16 w b t l) (i : Nat) (hi : i < l.length) : w.cell? ⟨b, i, none⟩ = some (.int .u16 ((l.getD i 0 : Nat) : Int)) := by
  rw [cell_of_row w b i _ _ _ h]
  simpa using nums16_get l i hi
theorem Holds16.frozen {w : World} {b : Nat} {t : TypeId} {l : List Nat} (h : Holds16 w b t l) (i : Nat) : w.frozen? ⟨b, i, none⟩ = false := by
  unfold Holds16 at h
  simp [World.frozen?, h]
theorem Holds16.set {w : World} {b : Nat} {t : TypeId} {l : List Nat} (h : Holds16 w b t l) (i : Nat) (c : Nat) : Holds16 (w.setCell ⟨b, i, none⟩ (.int .u16 (c : Int))) b t (l.set i c) := by
  unfold Holds16
  have e : (nums16 (l.set i c)).toArray = (nums16 l).toArray.setIfInBounds i (.int .u16 (c : Int)) := by simp [nums16, List.map_set]
  rw [e]
  exact Joins.block_setCell h _
theorem Holds16.other {w : World} {b : Nat} {t : TypeId} {l : List Nat} (h : Holds16 w b t l) {a : Addr} (ha : b ≠ a.block) (u : Value) : Holds16 (w.setCell a u) b t l := by
  unfold Holds16
  rw [Below.heap_setCell w a u b ha]
  exact h
theorem Holds16.new (w : World) (t : TypeId) (l : List Nat) : Holds16 (w.alloc (.cells (nums16 l).toArray t)) w.heap.size t l := heap_alloc_new w _
theorem Holds16.lt {w : World} {b : Nat} {t : TypeId} {l : List Nat} (h : Holds16 w b t l) : b < w.heap.size := (Array.getElem?_eq_some_iff.1 h).1
theorem Holds16.alloc {w : World} {b : Nat} {t : TypeId} {l : List Nat} (h : Holds16 w b t l) (o : Obj) : Holds16 (w.alloc o) b t l := by
  have hl := h.lt
  unfold Holds16 at *
  rw [Below.heap_alloc w o b hl]
  exact h
theorem Holds16.below {w w' : World} {b : Nat} {t : TypeId} {l : List Nat} (h : Holds16 w b t l) (hb : Below w.heap.size w w') : Holds16 w' b t l := (hb.block b h.lt).trans h
theorem Holds16.row {w : World} {b : Nat} {t : TypeId} {l : List Nat} (h : Holds16 w b t l) (m : List Nat) : Holds16 (w.setRow b (nums16 m).toArray) b t m := setRow_heap w b _ _ t _ h
theorem Holds16.shows {w : World} {b : Nat} {t : TypeId} {l : List Nat} (h : Holds16 w b t l) : Shows w w.heap.size (some ⟨b, 0, none⟩) l.length (nums16 l) := by
  refine ⟨nums16_length l, fun _ => ⟨_, rfl, h.lt, fun j u hu => ?_⟩⟩
  have ha : (⟨b, 0, none⟩ : Addr).add j = ⟨b, j, none⟩ := by
    unfold Addr.add
    by_cases hj0 : j = 0 <;> simp [hj0]
  rw [ha, cell_of_row w b j _ _ _ h]
  simpa using hu
theorem nums16_all (l : List Nat) : (nums16 l).toArray.all (·.oneCell') = true := by simp [nums16, Value.oneCell']
theorem nums16_size (l : List Nat) : (nums16 l).toArray.size = l.length := by simp [nums16]
def none16 : List Nat := List.replicate 120 0
theorem none16_len : none16.length = 120 := by rw [none16, List.length_replicate]
theorem pg_zero (w : World) : (zeroValue 309).run Tryz.prog w = .ok (.agg (nums16 none16).toArray) w := by kernel_rfl
theorem pg_size : (Tryz.prog.info? 309).map (·.size) = some 120 := by kernel_rfl
theorem cut_cells {w : World} {B : Nat} {p : Addr} {l : List Nat} (k m : Nat) (h : Shows w B (some p) l.length (nums16 l)) (hm : k + m ≤ l.length) (hB : B ≤ w.heap.size) (w2 : World) (hb : Below w.heap.size w w2) : ∀ j v, (nums16 ((l.drop k).take m))[j]? = some v → w2.cell? ((p.add k).add j) = some v := by
  intro j v hv
  have hj : j < m := by
    rcases Nat.lt_or_ge j m with h1 | h1
    · exact h1
    · rw [List.getElem?_eq_none (by rw [nums16_length, List.length_take]; omega)] at hv; cases hv
  obtain ⟨q, hq, hqb, hx⟩ := h.lies (by omega)
  injection hq with hq
  subst hq
  rw [addr_twice, hb.cell (by rw [addr_block]; omega)]
  refine hx _ v ?_
  rw [← hv, nums16_get l (k + j) (by omega), nums16_get _ j (by simp; omega)]
  simp [List.getD, hj]
theorem part_row (l : List Nat) (k : Nat) (h : k * 120 ≤ l.length) : ((nums16 none16).toArray.toList.take 0 ++ nums16 ((l.drop (k * 120)).take (cutN l.length k)) ++ (nums16 none16).toArray.toList.drop (0 + (nums16 ((l.drop (k * 120)).take (cutN l.length k))).length)) = nums16 (partL l (k : Int)) := by
  have hc : cutN l.length k ≤ l.length - k * 120 := Nat.min_le_left _ _
  have e : ((l.drop (k * 120)).take (cutN l.length k)).length = cutN l.length k := by simp; omega
  have e2 : nums16 none16 = List.replicate 120 (.int .u16 0) := by
    unfold nums16 none16
    rw [List.map_replicate]
    rfl
  have e3 : nums16 (List.replicate (120 - cutN l.length k) 0) = List.replicate (120 - cutN l.length k) (.int .u16 0) := by
    unfold nums16
    rw [List.map_replicate]
    rfl
  rw [partL_cut l k h, nums16_append, nums16_length, e, e2, e3, List.toList_toArray, List.drop_replicate, Nat.zero_add, List.take_zero, List.nil_append]
set_option maxRecDepth 10000 in
set_option maxHeartbeats 2000000 in
theorem part_any (w : World) (A : Option Addr) (l : List Nat) (cap : Nat) (h1010 : l.length ≤ 1010) (hc : l.length ≤ cap) (hs : Shows w w.heap.size A l.length (nums16 l)) (ix : Int) :
    Calls Tryz.prog 144 #[.slice A l.length cap, .int .i64 ix] w fun e w' => e = .returned (.slice (some ⟨w.heap.size, 0, none⟩) 120 120) ∧ Holds16 w' w.heap.size 309 (partL l ix) ∧ Below w.heap.size w w' ∧ w.heap.size < w'.heap.size := by
  have hz := pg_zero
  have h0 : Holds16 (w.alloc (.cells (nums16 none16).toArray 309)).drew w.heap.size 309 none16 := Holds16.new w _ none16
  have hb := ((Below.refl w.heap.size w).alloc (Nat.le_refl _) (.cells (nums16 none16).toArray 309)).drew
  have H0 := Lib.hid h0
  have HB := Lib.hid hb
  clear h0
  by_cases hin : ix < 0 ∨ (pagesN l.length : Int) ≤ ix
  · have HC := Lib.hid (cut_none (w.alloc (.cells (nums16 none16).toArray 309)).drew A l.length cap ix h1010 hin)
    have hpl := partL_none l ix hin
    have hcp : ∀ W : World, (Builtin.copy_ #[160, 160] 3 #[.slice (some ⟨w.heap.size, 0, none⟩) 120 120, .slice none 0 0]).run Tryz.prog W = .ok (.int .i64 0) W := fun W => run_copy_nil Tryz.prog W 160 160 3 161 _ 120 120 Tryz.underlying160 (by kernel_rfl)
    have hpl2 : partL l ix = none16 := hpl
    rw [hpl2]
    clear hin hs hb hpl hpl2
    generalize none16 = z at *
    go_enter Tryz.func144, Tryz.ntmps144
    go_wp2_with fail
    first | go_region_with (go_at_call 200; (with_reducible refine HC.out.mono ?_); rintro e w1 ⟨rfl, rfl⟩) | fail
    all_goals go_wp2
    all_goals go_ret
    all_goals exact ⟨rfl, H0.out, HB.out, H0.out.lt⟩
  · obtain ⟨k, rfl⟩ := Int.eq_ofNat_of_zero_le (show 0 ≤ ix by omega)
    have hk : k < pagesN l.length := by omega
    have hkl : k * 120 < l.length := by unfold pagesN at hk; omega
    obtain ⟨p, rfl, hpb, _⟩ := hs.num16K (k * 120) hkl
    have hc2 : cutN l.length k ≤ l.length - k * 120 := Nat.min_le_left _ _
    have hc3 : cutN l.length k ≤ 120 := Nat.min_le_right _ _
    have HC := Lib.hid (cut_any (w.alloc (.cells (nums16 none16).toArray 309)).drew p l.length cap k h1010 hc hk)
    have hcl : (nums16 ((l.drop (k * 120)).take (cutN l.length k))).length = cutN l.length k := by rw [nums16_length]; simp; omega
    have hcp : (Builtin.copy_ #[160, 160] 3 #[.slice (some ⟨w.heap.size, 0, none⟩) 120 120, .slice (some (p.add (k * 120))) (cutN l.length k) (cutN l.length k)]).run Tryz.prog (w.alloc (.cells (nums16 none16).toArray 309)).drew = .ok (.int .i64 (cutN l.length k : Int)) ((w.alloc (.cells (nums16 none16).toArray 309)).drew.setRow w.heap.size (nums16 (partL l (k : Int))).toArray) := by
      have h := run_copy_row (P := Tryz.prog) (w.alloc (.cells (nums16 none16).toArray 309)).drew 160 160 3 161 w.heap.size 0 120 120 (p.add (k * 120)) (cutN l.length k) (cutN l.length k) (nums16 none16).toArray 309 (nums16 ((l.drop (k * 120)).take (cutN l.length k))) Tryz.underlying160 (by kernel_rfl) H0.out (by rw [hcl]; exact (Nat.min_eq_left hc3).symm) (cut_cells (k * 120) (cutN l.length k) hs (by omega) (Nat.le_refl _) _ hb) (by rw [hcl, nums16_size, none16_len]; omega) (nums16_one _)
      rw [part_row l k (by omega), hcl] at h
      exact h
    have HR : Hid (Holds16 ((w.alloc (.cells (nums16 none16).toArray 309)).drew.setRow w.heap.size (nums16 (partL l (k : Int))).toArray) w.heap.size 309 (partL l (k : Int))) := H0.out.row _
    have HB2 : Hid (Below w.heap.size w ((w.alloc (.cells (nums16 none16).toArray 309)).drew.setRow w.heap.size (nums16 (partL l (k : Int))).toArray)) := below_setRow HB.out (Nat.le_refl _) _
    clear hin hs hb hpb hk hkl hc2 hc3 hcl
    generalize none16 = z at *
    go_enter Tryz.func144, Tryz.ntmps144
    go_wp2_with fail
    first | go_region_with (go_at_call 200; (with_reducible refine HC.out.mono ?_); rintro e w1 ⟨rfl, rfl⟩) | fail
    all_goals go_wp2
    all_goals go_ret
    all_goals exact ⟨rfl, HR.out, HB2.out, HR.out.lt⟩
end Go.Proofs.YtoclhiaidbfheaaGreatDoor.K
end

section
set_option linter.unusedVariables false
namespace Go.Proofs.YtoclhiaidbfheaaGreatDoor.K
open Go.RowKit

theorem u16_info : (Tryz.prog.info? 161).map (fun i => (i.zero, i.size, i.bytes)) = some (some (.int .u16 0), 1, 2) := by kernel_rfl
end Go.Proofs.YtoclhiaidbfheaaGreatDoor.K
end

section
set_option linter.unusedVariables false
namespace Go.Proofs.YtoclhiaidbfheaaGreatDoor.K
open Go.RowKit

theorem fj_any (w : World) (x : Nat) : Calls Tryz.prog 236 #[.int .u16 (x : Int)] w fun e w' => e = .returned (.bool (decide (x ≠ 0))) ∧ w' = w := by
  by_cases h : x = 0
  · subst h
    go_enter Tryz.func236, Tryz.ntmps236
    go_wp2
    go_ret
    exact ⟨rfl, rfl⟩
  · have hb : ((x : Int) != 0) = true := by simp [h]
    have h2 : decide (x ≠ 0) = true := by simp [h]
    rw [h2]
    clear h h2
    go_enter Tryz.func236, Tryz.ntmps236
    go_wp2
    go_ret
    exact ⟨rfl, rfl⟩
theorem anyN_none {l : List Nat} (h : ∀ m, m < l.length → l.getD m 0 = 0) : anyN l = false := by
  unfold anyN
  rw [List.any_eq_false]
  intro x hx
  obtain ⟨i, hi, rfl⟩ := List.getElem_of_mem hx
  have := h i hi
  simpa [List.getD, hi] using this
set_option maxHeartbeats 1000000 in
theorem index_any (w : World) (A : Option Addr) (cap : Nat) (l : List Nat) (hl : l.length ≤ 2000) (hs : Shows w w.heap.size A l.length (nums16 l)) :
    Calls Tryz.prog 250 #[.slice A l.length cap, .func (.func 236) #[] #[]] w fun e w' => (∃ z : Int, e = .returned (.int .i64 z) ∧ decide (0 ≤ z) = anyN l) ∧ w' = w := by
  have HS := Lib.hid hs
  clear hs
  go_enter Tryz.func250, Tryz.ntmps250
  go_wp2
  go_loopw [5, 8] (fun _ j wr => ∃ i : Nat, i ≤ l.length ∧ j = .int .i64 (i : Int) ∧ wr = w ∧ Hid (∀ m, m < i → l.getD m 0 = 0)) (fun _ j _ => l.length - (intOf j).toNat)
  case atStart => exact ⟨0, Nat.zero_le _, rfl, rfl, fun m hm => by omega⟩
  case round =>
    obtain ⟨i, hi, rfl, rfl, HZ⟩ := hrel
    by_cases hlt : i < l.length
    · have hltI : (i : Int) < (l.length : Int) := by omega
      obtain ⟨p, rfl, hp, hck⟩ := HS.out.num16K i hlt
      have HM : Hid (l.getD i 0 ≠ 0 → anyN l = true) := fun h => anyN_mem hlt h
      have HN : Hid (l.getD i 0 = 0 → ∀ m, m < i + 1 → l.getD m 0 = 0) := fun h m hm => by
        rcases Nat.lt_or_ge m i with h1 | h1
        · exact HZ.out m h1
        · obtain rfl : m = i := by omega
          exact h
      generalize l.getD i 0 = x at *
      by_cases hx : x = 0
      · have HF := Lib.hid (fj_any wr x)
        rw [show decide (x ≠ 0) = false by simp [hx]] at HF
        have hn := Lib.hid (HN.out hx)
        clear HN HM hx HZ
        go_wp2_with (first
          | (go_at_call 236; (with_reducible refine HF.out.mono ?_); rintro e w1 ⟨rfl, rfl⟩)
          | fail)
        go_roundw
        case rel => exact ⟨i + 1, hlt, by go_num, by first | rfl | trivial, hn⟩
        case measure => simp [intOf]; omega
      · have HF := Lib.hid (fj_any wr x)
        rw [show decide (x ≠ 0) = true by simp [hx]] at HF
        have hn := Lib.hid (HM.out hx)
        clear HN HM hx HZ
        go_wp2_with (first
          | (go_at_call 236; (with_reducible refine HF.out.mono ?_); rintro e w1 ⟨rfl, rfl⟩)
          | fail)
        go_ret
        exact ⟨⟨(i : Int), rfl, by rw [hn.out]; simp⟩, rfl⟩
    · obtain rfl : i = l.length := by omega
      have hltI : ¬ (l.length : Int) < (l.length : Int) := by omega
      have hn := Lib.hid (anyN_none HZ.out)
      clear HZ
      go_wp2
      go_ret
      exact ⟨⟨-1, rfl, by rw [hn.out]; rfl⟩, rfl⟩
theorem contains_any (w : World) (A : Option Addr) (cap : Nat) (l : List Nat) (hl : l.length ≤ 2000) (hs : Shows w w.heap.size A l.length (nums16 l)) :
    Calls Tryz.prog 235 #[.slice A l.length cap, .func (.func 236) #[] #[]] w fun e w' => e = .returned (.bool (anyN l)) ∧ w' = w := by
  have HI := Lib.hid (index_any w A cap l hl hs)
  clear hs
  go_enter Tryz.func235, Tryz.ntmps235
  go_wp2_with (first
    | (go_at_call 250; (with_reducible refine HI.out.mono ?_); rintro e w1 ⟨⟨z, rfl, hz⟩, rfl⟩; have HZ := Lib.hid hz; clear hz)
    | fail)
  go_ret
  exact ⟨by rw [← HZ.out]; rfl, rfl⟩
/-- a page that was told: where it lies, its counts -/
def slV (p : Addr × List Nat) : Value := .slice (some p.1) 120 120
def flatP (ps : List (Addr × List Nat)) : List Nat := (ps.map (·.2)).flatten
theorem flatP_length (ps : List (Addr × List Nat)) (h : ∀ p ∈ ps, p.2.length = 120) : (flatP ps).length = ps.length * 120 := by
  unfold flatP
  rw [flat_len _ (fun q hq => by obtain ⟨p, hp, rfl⟩ := List.mem_map.1 hq; exact h p hp), List.length_map]
theorem flatP_take (ps : List (Addr × List Nat)) (i : Nat) (hi : i < ps.length) : flatP (ps.take (i + 1)) = flatP (ps.take i) ++ (ps[i]).2 := by
  unfold flatP
  rw [List.take_succ_eq_append_getElem hi, List.map_append, List.flatten_append]
  simp
/-- where a slice lies that is cut at its front -/
def cutA (p : Addr) (l cap : Nat) : Option Addr := if cap = l then some p else some (p.add l)
theorem cutA_shows {w : World} {B L l m cap : Nat} {p : Addr} {xs : List Value} (h : Shows w B (some p) L xs) (hl : l + m ≤ L) (hc : L ≤ cap) : Shows w B (cutA p l cap) m ((xs.drop l).take m) := by
  refine ⟨by rw [List.length_take, List.length_drop, h.len]; omega, fun hp => ?_⟩
  obtain ⟨q, hq, hb, hx⟩ := h.lies (by omega)
  injection hq with hq
  subst hq
  unfold cutA
  rw [if_neg (by omega)]
  refine ⟨p.add l, rfl, by rw [addr_block]; exact hb, fun j u hj => ?_⟩
  rw [addr_twice]
  rw [List.getElem?_take] at hj
  split at hj
  · rw [List.getElem?_drop] at hj
    exact hx _ u hj
  · cases hj
theorem sl_ht : Tryz.prog.underlying 160 = some (.slice (Tryz.prog.elem 160)) := by kernel_rfl
theorem sl_sz (w : World) : (sizeOf (Tryz.prog.elem 160)).run Tryz.prog w = .ok 1 w := by kernel_rfl
theorem slice_from (w : World) (p : Addr) (L cap n : Nat) (h : n ≤ L) : (Instr.sliceAt 160 (.slice (some p) L cap) (some (.int .i64 (n : Int))) none none).run Tryz.prog w = .ok (.slice (cutA p n cap) (L - n) (cap - n)) w := by
  rw [run_sliceAt_slice w _ _ _ _ _ sl_ht, run_slice_l w _ _ _ _ sl_ht .i64 (n : Int) (by omega) (by omega), sl_sz]
  simp only [Result.andThen, sliced, Int.toNat_natCast, Nat.mul_one, Option.map_some, cutA]
theorem slice_upto (w : World) (p : Addr) (L cap n : Nat) (h0 : 0 < n) (h : n ≤ cap) : (Instr.sliceAt 160 (.slice (some p) L cap) none (some (.int .i64 (n : Int))) (some (.int .i64 (n : Int)))).run Tryz.prog w = .ok (.slice (some p) n n) w := by
  rw [run_sliceAt_slice w _ _ _ _ _ sl_ht, run_slice_hm w _ _ _ _ sl_ht .i64 .i64 (n : Int) (n : Int) (by omega) (by omega) (by omega), sl_sz]
  have e : p.add 0 = p := by unfold Addr.add; simp
  simp only [Result.andThen, sliced, Int.toNat_natCast, Nat.zero_mul, Option.map_some, e, if_neg (show ¬ n = 0 by omega), Nat.sub_zero]
/-- while all are joined -/
structure JS (w wr : World) (v : Value) (L : List Nat) : Prop where
  own : wr.ownsRow w.heap.size 161 1 v L.length (nums16 L)
  bel : Below w.heap.size w wr
theorem JS.app {w wr w2 : World} {v v2 : Value} {L m : List Nat} {k : Nat} (h : JS w wr v L) (hk : m.length = k) (ho : w2.ownsRow w.heap.size 161 1 v2 (L.length + k) (nums16 L ++ nums16 m)) (hg : Grew wr w2 v v2) : JS w w2 v2 (L ++ m) := by
  have hb := hg.below h.own (Nat.le_refl _) h.bel.size
  refine ⟨?_, h.bel.trans hb⟩
  rw [List.length_append, hk, nums16_append]
  exact ho
theorem own_form4 {w : World} {base n : Nat} {e : TypeId} {v : Value} {xs : List Value} (h : w.ownsRow base e 1 v n xs) : ∃ A c, v = .slice A n c ∧ n ≤ c ∧ c ≤ maxLen := by
  rcases h.2 with ⟨rfl, rfl⟩ | ⟨g, cap, cur, rfl, _, _, hc, hm, _⟩
  · exact ⟨none, 0, rfl, Nat.le_refl _, Nat.zero_le _⟩
  · exact ⟨_, cap, rfl, hc, hm⟩

/-- what Join answers -/
def JoinAs (w : World) (n : Nat) (bad : Bool) (L : List Nat) (e : Ending) (w' : World) : Prop :=
  Below w.heap.size w w' ∧ match bad with
    | true => e = .returned (.tuple #[.slice none 0 0, .int .i64 4])
    | false => ∃ p : Addr, e = .returned (.tuple #[.slice (some p) n n, .int .i64 0]) ∧ Shows w' w'.heap.size (some p) n (nums16 (L.take n))
set_option maxRecDepth 10000 in
set_option maxHeartbeats 2000000 in
theorem join_any (w : World) (n : Nat) (A : Option Addr) (cap : Nat) (ps : List (Addr × List Nat)) (h1 : 1 ≤ n) (h2 : n ≤ 1000) (hm : ps.length = pagesN n) (hr : Shows w w.heap.size A ps.length (ps.map slV)) (h120 : ∀ p ∈ ps, p.2.length = 120) (hp : ∀ p ∈ ps, Shows w w.heap.size (some p.1) 120 (nums16 p.2)) :
    Calls Tryz.prog 204 #[.int .i64 (n : Int), .slice A ps.length cap] w (JoinAs w n (anyN ((flatP ps).drop n)) (flatP ps)) := by
  obtain ⟨i0, hi0, hz0, hz1, hz2⟩ := info_parts u16_info
  have HP := Lib.hid (pages_any w (n : Int) (by omega))
  have h1I : ¬ (n : Int) < 1 := by omega
  have h2I : ¬ (1000 : Int) < (n : Int) := by omega
  have h3 : (ps.length : Int) = ((pagesN n : Nat) : Int) := by omega
  have hm9 : ps.length ≤ 9 := by rw [hm]; unfold pagesN; omega
  have hcov : n ≤ ps.length * 120 := by rw [hm]; exact pages_cover n
  have HR := Lib.hid hr
  have HQ := Lib.hid hp
  have H120 := Lib.hid h120
  have HCOV := Lib.hid hcov
  clear hr hp hm hcov h120
  go_enter Tryz.func204, Tryz.ntmps204
  go_wp2_with (first
    | (go_at_call 138; (with_reducible refine HP.out.mono ?_); rintro e w1 ⟨rfl, rfl⟩; rw [Int.toNat_natCast])
    | fail)
  go_loopw [6, 8, 24] (fun v _ j wr => ∃ i : Nat, i ≤ ps.length ∧ j = .int .i64 (i : Int) ∧ Hid (JS w1 wr v (flatP (ps.take i)))) (fun _ _ j _ => ps.length - (intOf j).toNat)
  case atStart => exact ⟨0, Nat.zero_le _, rfl, ⟨⟨rfl, .inl ⟨rfl, rfl⟩⟩, Below.refl _ _⟩⟩
  case round =>
    obtain ⟨i, hi, rfl, HJ⟩ := hrel
    have hfl := flatP_length (ps.take i) (fun q hq => H120.out q (List.mem_of_mem_take hq))
    rw [List.length_take, Nat.min_eq_left hi] at hfl
    by_cases hlt : i < ps.length
    · have hltI : (i : Int) < (ps.length : Int) := by omega
      obtain ⟨p, u, rfl, hpb, hu, hck⟩ := (HR.out.below HJ.out.bel).cell hlt
      have hu2 : u = .slice (some (ps[i]'hlt).1) 120 120 := by
        rw [List.getElem?_map, List.getElem?_eq_getElem hlt] at hu
        injection hu with hu
        exact hu.symm
      subst hu2
      have hmem : ps[i]'hlt ∈ ps := List.getElem_mem hlt
      have HSH := Lib.hid ((HQ.out _ hmem).below HJ.out.bel)
      have HL := Lib.hid (H120.out _ hmem)
      have HSU := Lib.hid (flatP_take ps i hlt)
      have HFL := Lib.hid hfl
      have hb := HJ.out.bel.size
      clear hu hmem hfl
      generalize ps[i]'hlt = pg at *
      obtain ⟨pa, pl⟩ := pg
      simp only at HSH HL HSU hck
      generalize flatP (ps.take i) = L at *
      have hlL : L.length ≤ 1080 := by rw [HFL.out]; omega
      go_wp2_with (first
        | (at_builtin; refine wpList_append_shows _ rfl (.tmp 31) (.tmp 32) 160 rfl w1.heap.size 161 i0 (.int .u16 0) 2 Tryz.underlying160 hi0 hz0 hz1 hz2 rfl _ L.length (nums16 L) rfl HJ.out.own w1.heap.size (some pa) 120 120 (nums16 pl) rfl HSH.out (nums16_one _) (by unfold maxLen; omega) (by omega) hb ?_; intro v2 w2 hown hg; have HA := Lib.hid (HJ.out.app HL.out hown hg); clear hown hg)
        | fail)
      rw [← HSU.out] at HA
      go_roundw
      case rel => exact ⟨i + 1, by omega, by go_num, HA⟩
      case measure => simp [intOf]; omega
    · obtain rfl : i = ps.length := by omega
      have hltI : ¬ (ps.length : Int) < (ps.length : Int) := by omega
      rw [List.take_length] at HJ hfl
      obtain ⟨AL, cL, hV, hc1, hc2⟩ := own_form4 HJ.out.own
      rw [hfl] at hV hc1
      subst hV
      have ho := HJ.out.own
      rw [hfl] at ho
      have hsh := Shows.owned ho
      have HB := Lib.hid HJ.out.bel
      have hcov := HCOV.out
      obtain ⟨p, rfl, _, _⟩ := hsh.lies (by omega)
      have hdl : ((flatP ps).drop n).length = ps.length * 120 - n := by rw [List.length_drop, hfl]
      have hcn := cutA_shows (l := n) (m := ps.length * 120 - n) hsh (by omega) hc1
      have e : ((nums16 (flatP ps)).drop n).take (ps.length * 120 - n) = nums16 ((flatP ps).drop n) := by
        rw [List.take_of_length_le (by rw [List.length_drop, nums16_length, hfl]; omega)]
        unfold nums16
        rw [List.map_drop]
      rw [e, ← hdl] at hcn
      have hcf := contains_any wr (cutA p n cL) (cL - n) ((flatP ps).drop n) (by rw [hdl]; omega) hcn
      rw [hdl] at hcf
      have hup := hsh.upto (k := n) hcov
      have e2 : (nums16 (flatP ps)).take n = nums16 ((flatP ps).take n) := by unfold nums16; rw [List.map_take]
      rw [e2] at hup
      have HUP := Lib.hid hup
      have HCF := Lib.hid hcf
      have hs1 := fun W => slice_from W p (ps.length * 120) cL n hcov
      have hs2 := fun W => slice_upto W p (ps.length * 120) cL n (by omega) (by omega)
      clear hcf hcn e e2 hup hdl hsh ho hfl HJ
      generalize anyN ((flatP ps).drop n) = bad at *
      cases bad with
      | true =>
        go_wp2_with (first
          | (go_at_call 235; (with_reducible refine HCF.out.mono ?_); rintro e w2 ⟨rfl, rfl⟩)
          | fail)
        go_ret2
        exact ⟨HB.out, rfl⟩
      | false =>
        go_wp2_with (first
          | (go_at_call 235; (with_reducible refine HCF.out.mono ?_); rintro e w2 ⟨rfl, rfl⟩)
          | fail)
        go_ret2
        exact ⟨HB.out, p, rfl, HUP.out⟩
end Go.Proofs.YtoclhiaidbfheaaGreatDoor.K
end
