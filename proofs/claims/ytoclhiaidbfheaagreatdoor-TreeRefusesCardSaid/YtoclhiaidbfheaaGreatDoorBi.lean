/- The program's read. -/
import Derived.Test.YtoclhiaidbfheaaGreatDoorBg
import Derived.Test.YtoclhiaidbfheaaGreatDoorBh
import Derived.IntWalk
import Derived.Deep.DeepCutAuto
import Derived.Deep.CutRange
set_option linter.unusedVariables false
namespace Go.Proofs.YtoclhiaidbfheaaGreatDoor
open Go.RowKit

theorem Holds8.drew {w : World} {b : Nat} {t : TypeId} {l : List UInt8} (h : Holds8 w b t l) : Holds8 w.drew b t l := h
theorem heap_alloc' {w : World} {b : Nat} {x : Obj} {o : Obj} (h : w.heap[b]? = some x) : (w.alloc o).heap[b]? = some x := (Below.heap_alloc w o b (Array.getElem?_eq_some_iff.1 h).1).trans h
theorem u64_info : (Tryz.prog.info? 23).map (fun i => (i.zero, i.size, i.bytes)) = some (some (.int .u64 0), 1, 8) := by kernel_rfl
/-- while a block is read -/
structure RS (w wr : World) (bb rc ba bn : Nat) (l : List UInt8) (at_ : Nat) (kind birth : Int) (K V : Value) (ks vs : List Nat) : Prop where
  ns : NS w wr (bn + 1) bn kind birth K V ks vs
  blk : Holds8 wr bb 151 l
  at' : wr.heap[ba]? = some (.cells #[.int .i64 (at_ : Int)] 3 (0, 0))
  res : wr.heap[rc]? = some (.cells #[.int .i64 0, .int .u64 0, .slice none 0 0, .slice none 0 0] 45 (0, 0))
  n1 : w.heap.size ≤ bb ∧ bb < rc
  n2 : rc < ba
  n3 : ba < bn
theorem RS.drew {w wr : World} {bb rc ba bn : Nat} {l : List UInt8} {at_ : Nat} {kind birth : Int} {K V : Value} {ks vs : List Nat} (h : RS w wr bb rc ba bn l at_ kind birth K V ks vs) : RS w wr.drew bb rc ba bn l at_ kind birth K V ks vs :=
  ⟨h.ns.drewN 1, h.blk, h.at', h.res, h.n1, h.n2, h.n3⟩
theorem RS.next {w wr : World} {bb rc ba bn : Nat} {l : List UInt8} {at_ : Nat} {kind birth : Int} {K V : Value} {ks vs : List Nat} (h : RS w wr bb rc ba bn l at_ kind birth K V ks vs) (hl : l.length = 256) (hat : at_ + 8 ≤ 256) :
    Calls Tryz.prog 252 #[.pointer (some ⟨bb, 0, none⟩), .pointer (some ⟨ba, 0, none⟩)] wr fun e w' => e = .returned (.int .u64 ((at8 l at_ : Nat) : Int)) ∧ (w'.cell? ⟨bn, 2, none⟩ = some K ∧ w'.cell? ⟨bn, 3, none⟩ = some V) ∧ Hid (RS w w' bb rc ba bn l (at_ + 8) kind birth K V ks vs) := by
  have n1 := h.n1
  have n2 := h.n2
  have n3 := h.n3
  refine (next_any wr _ _ at_ l hl hat h.blk h.at').mono fun e w' hp => ?_
  obtain ⟨he, rfl⟩ := hp
  have hr : RS w (wr.setCell ⟨ba, 0, none⟩ (.int .i64 ((at_ + 8 : Nat) : Int))) bb rc ba bn l (at_ + 8) kind birth K V ks vs :=
    ⟨h.ns.other ba (grown_set _ _ _) (by omega) (by omega) (by omega), h.blk.other (by simp; omega) _, one_setCell h.at', (Below.heap_setCell _ _ _ _ (by simp; omega)).trans h.res, n1, n2, n3⟩
  exact ⟨he, ⟨hr.ns.cell 2, hr.ns.cell 3⟩, hr⟩
theorem RS.start (w : World) (l : List UInt8) (k8 : UInt8) :
    RS w ((((w.alloc (.cells (cells8 l).toArray 151)).alloc (.cells #[.int .i64 0, .int .u64 0, .slice none 0 0, .slice none 0 0] 45)).alloc (.cells #[.int .i64 20] 3)).alloc (.cells #[.int .i64 (k8.toNat : Int), .int .u64 ((at8 l 12 : Nat) : Int), .slice none 0 0, .slice none 0 0] 45)).drew w.heap.size (w.heap.size + 1) (w.heap.size + 1 + 1) (w.heap.size + 1 + 1 + 1) l 20 (k8.toNat : Int) ((at8 l 12 : Nat) : Int) (.slice none 0 0) (.slice none 0 0) [] [] := by
  have hb := (((Holds8.new w 151 l _ rfl).alloc (.cells #[.int .i64 0, .int .u64 0, .slice none 0 0, .slice none 0 0] 45)).alloc (.cells #[.int .i64 20] 3)).alloc (.cells #[.int .i64 (k8.toNat : Int), .int .u64 ((at8 l 12 : Nat) : Int), .slice none 0 0, .slice none 0 0] 45)
  have hr := heap_alloc' (o := (.cells #[.int .i64 (k8.toNat : Int), .int .u64 ((at8 l 12 : Nat) : Int), .slice none 0 0, .slice none 0 0] 45)) (heap_alloc' (o := .cells #[.int .i64 20] 3) (heap_alloc_new (w.alloc (.cells (cells8 l).toArray 151)) (.cells #[.int .i64 0, .int .u64 0, .slice none 0 0, .slice none 0 0] 45)))
  have ha := heap_alloc' (o := (.cells #[.int .i64 (k8.toNat : Int), .int .u64 ((at8 l 12 : Nat) : Int), .slice none 0 0, .slice none 0 0] 45)) (heap_alloc_new (((w.alloc (.cells (cells8 l).toArray 151)).alloc (.cells #[.int .i64 0, .int .u64 0, .slice none 0 0, .slice none 0 0] 45))) (.cells #[.int .i64 20] 3))
  have hn := heap_alloc_new (((w.alloc (.cells (cells8 l).toArray 151)).alloc (.cells #[.int .i64 0, .int .u64 0, .slice none 0 0, .slice none 0 0] 45)).alloc (.cells #[.int .i64 20] 3)) (.cells #[.int .i64 (k8.toNat : Int), .int .u64 ((at8 l 12 : Nat) : Int), .slice none 0 0, .slice none 0 0] 45)
  have hbel := ((((Below.refl w.heap.size w).alloc (Nat.le_refl _) (.cells (cells8 l).toArray 151)).alloc (by simp) (.cells #[.int .i64 0, .int .u64 0, .slice none 0 0, .slice none 0 0] 45)).alloc (by simp; omega) (.cells #[.int .i64 20] 3)).alloc (by simp; omega) (.cells #[.int .i64 (k8.toNat : Int), .int .u64 ((at8 l 12 : Nat) : Int), .slice none 0 0, .slice none 0 0] 45)
  simp only [World.size_alloc] at hr ha hn
  refine ⟨⟨hn, ⟨rfl, .inl ⟨rfl, rfl⟩⟩, ⟨rfl, .inl ⟨rfl, rfl⟩⟩, (fun g hg => by cases hg), by omega, by omega, ?_, drewN_below hbel 1⟩, hb, ha, hr, ⟨by omega, by omega⟩, by omega, by omega⟩
  simp

theorem grown_row (w : World) (g : Nat) (cs : Array Value) : w.grownBy (w.setRow g cs) (some g) := ⟨rfl, rfl, rfl, by simp, fun i hi hne => setRow_other w g i cs (fun e => hne (by rw [e]))⟩
theorem node_size : (Tryz.prog.info? 45).map (·.size) = some 4 := by kernel_rfl
theorem own_low {w : World} {base b n : Nat} {e : TypeId} {v : Value} {xs : List Value} (h : w.ownsRow base e 1 v n xs) (hb : b ≤ base) : w.ownsRow b e 1 v n xs := by
  refine ⟨h.1, ?_⟩
  rcases h.2 with h | ⟨g, cap, cur, h1, h2, h3⟩
  · exact .inl h
  · exact .inr ⟨g, cap, cur, h1, Nat.le_trans hb h2, h3⟩
theorem own_form4 {w : World} {base n : Nat} {e : TypeId} {v : Value} {xs : List Value} (h : w.ownsRow base e 1 v n xs) : ∃ A c, v = .slice A n c ∧ n ≤ c ∧ c ≤ maxLen := by
  rcases h.2 with ⟨rfl, rfl⟩ | ⟨g, cap, cur, rfl, _, _, hc, hm, _⟩
  · exact ⟨none, 0, rfl, Nat.le_refl _, Nat.zero_le _⟩
  · exact ⟨_, cap, rfl, hc, hm⟩

set_option maxHeartbeats 1000000 in
theorem read_no (w : World) (l : List UInt8) (hl : l.length = 256) (h6 : 6 < manyB l) :
    Calls Tryz.prog 247 #[.agg (cells8 l).toArray] w fun e w' => e = .returned (.tuple #[.agg #[.int .i64 0, .int .u64 0, .slice none 0 0, .slice none 0 0], .bool false]) ∧ Below w.heap.size w w' := by
  have h5 : Holds8 ((w.alloc (.cells (cells8 l).toArray 151)).alloc (.cells #[.int .i64 0, .int .u64 0, .slice none 0 0, .slice none 0 0] 45)) w.heap.size 151 l := (Holds8.new w _ l _ rfl).alloc _
  have c5 := h5.cell 5 (by omega)
  have e5 : (l[5]'(by omega)).toNat = manyB l := by simp [manyB, List.getD, show 5 < l.length by omega]
  rw [e5] at c5
  have hlt : manyB l < 256 := by unfold manyB; exact UInt8.toNat_lt _
  generalize manyB l = m at *
  have hm0 : (6 : Int) < (m : Int) := by omega
  have hbel : Below w.heap.size w ((w.alloc (.cells (cells8 l).toArray 151)).alloc (.cells #[.int .i64 0, .int .u64 0, .slice none 0 0, .slice none 0 0] 45)) := ((Below.refl w.heap.size w).alloc (Nat.le_refl _) _).alloc (by simp) _
  have hg : ((w.alloc (.cells (cells8 l).toArray 151)).alloc (.cells #[.int .i64 0, .int .u64 0, .slice none 0 0, .slice none 0 0] 45)).heap[w.heap.size + 1]? = some (.cells #[.int .i64 0, .int .u64 0, .slice none 0 0, .slice none 0 0] 45 (0, 0)) := by
    have := heap_alloc_new (w.alloc (.cells (cells8 l).toArray 151)) (.cells #[.int .i64 0, .int .u64 0, .slice none 0 0, .slice none 0 0] 45)
    simpa using this
  have HB := Lib.hid hbel
  have HG := Lib.hid hg
  clear h5 e5 hbel hg hl h6
  go_enter Tryz.func247, Tryz.ntmps247
  go_wp2_with (first
    | refine wpList_store_row rfl 45 (.tmp 2) (.tmp 13) rfl (w.heap.size + 1) #[.int .i64 0, .int .u64 0, .slice none 0 0, .slice none 0 0] rfl rfl 45 #[.int .i64 0, .int .u64 0, .slice none 0 0, .slice none 0 0] HG.out (by rw [node_size]; rfl) rfl (by simp [Value.oneCell']) ?_
    | fail)
  exact bodyPost_ret (results_cell_tmp rfl _ _ (w.heap.size + 1) 45 #[.int .i64 0, .int .u64 0, .slice none 0 0, .slice none 0 0] (0, 0) _ (.bool false) rfl rfl (setRow_heap _ _ _ _ _ _ HG.out) Tryz.underlying45 rfl (by rw [node_size]; rfl)) rfl ⟨rfl, below_setRow HB.out (by simp) _⟩
end Go.Proofs.YtoclhiaidbfheaaGreatDoor
