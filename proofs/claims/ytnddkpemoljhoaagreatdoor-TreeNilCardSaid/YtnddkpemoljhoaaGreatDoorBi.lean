/- The program's read. -/
import Derived.Test.YtnddkpemoljhoaaGreatDoorBg
import Derived.Test.YtnddkpemoljhoaaGreatDoorBh
import Derived.IntWalk
import Derived.Deep.DeepCutAuto
import Derived.Deep.CutRange
set_option linter.unusedVariables false
namespace Go.Proofs.YtnddkpemoljhoaaGreatDoor
open Go.RowKit

theorem Holds8.drew {w : World} {b : Nat} {t : TypeId} {l : List UInt8} (h : Holds8 w b t l) : Holds8 w.drew b t l := h
theorem heap_drew' {w : World} {b : Nat} {x : Option Obj} (h : w.heap[b]? = x) : w.drew.heap[b]? = x := h
theorem heap_alloc' {w : World} {b : Nat} {x : Obj} {o : Obj} (h : w.heap[b]? = some x) : (w.alloc o).heap[b]? = some x := (Below.heap_alloc w o b (Array.getElem?_eq_some_iff.1 h).1).trans h
theorem u64_info : (Tryz.prog.info? 22).map (fun i => (i.zero, i.size, i.bytes)) = some (some (.int .u64 0), 1, 8) := by kernel_rfl
/-- while a block is read -/
structure RS (w wr : World) (bb rc ba bn : Nat) (l : List UInt8) (at_ : Nat) (kind birth : Int) (K V : Value) (ks vs : List Nat) : Prop where
  ns : NS w wr (bn + 1) bn kind birth K V ks vs
  blk : Holds8 wr bb 153 l
  at' : wr.heap[ba]? = some (.cells #[.int .i64 (at_ : Int)] 3 (0, 0))
  res : wr.heap[rc]? = some (.cells #[.int .i64 0, .int .u64 0, .slice none 0 0, .slice none 0 0] 62 (0, 0))
  n1 : w.heap.size ≤ bb ∧ bb < rc
  n2 : rc < ba
  n3 : ba < bn
theorem RS.drew {w wr : World} {bb rc ba bn : Nat} {l : List UInt8} {at_ : Nat} {kind birth : Int} {K V : Value} {ks vs : List Nat} (h : RS w wr bb rc ba bn l at_ kind birth K V ks vs) : RS w wr.drew bb rc ba bn l at_ kind birth K V ks vs :=
  ⟨h.ns.drewN 1, h.blk, h.at', h.res, h.n1, h.n2, h.n3⟩
theorem RS.next {w wr : World} {bb rc ba bn : Nat} {l : List UInt8} {at_ : Nat} {kind birth : Int} {K V : Value} {ks vs : List Nat} (h : RS w wr bb rc ba bn l at_ kind birth K V ks vs) (hl : l.length = 256) (hat : at_ + 8 ≤ 256) :
    Calls Tryz.prog 188 #[.pointer (some ⟨bb, 0, none⟩), .pointer (some ⟨ba, 0, none⟩)] wr fun e w' => e = .returned (.int .u64 ((at8 l at_ : Nat) : Int)) ∧ (w'.cell? ⟨bn, 2, none⟩ = some K ∧ w'.cell? ⟨bn, 3, none⟩ = some V) ∧ Hid (RS w w' bb rc ba bn l (at_ + 8) kind birth K V ks vs) := by
  have n1 := h.n1
  have n2 := h.n2
  have n3 := h.n3
  refine (next_any wr _ _ at_ l hl hat h.blk h.at').mono fun e w' hp => ?_
  obtain ⟨he, rfl⟩ := hp
  have hr : RS w (wr.setCell ⟨ba, 0, none⟩ (.int .i64 ((at_ + 8 : Nat) : Int))) bb rc ba bn l (at_ + 8) kind birth K V ks vs :=
    ⟨h.ns.other ba (grown_set _ _ _) (by omega) (by omega) (by omega), h.blk.other (by simp; omega) _, one_setCell h.at', (Below.heap_setCell _ _ _ _ (by simp; omega)).trans h.res, n1, n2, n3⟩
  exact ⟨he, ⟨hr.ns.cell 2, hr.ns.cell 3⟩, hr⟩
theorem RS.app2 {w wr : World} {bb rc ba bn : Nat} {l : List UInt8} {at_ : Nat} {kind birth : Int} {K V : Value} {ks vs : List Nat} (h : RS w wr bb rc ba bn l at_ kind birth K V ks vs) (x : Nat) (fr : Nat × Nat) (T : TypeId) (g cap : Nat) (w3 : World)
    (hown : w3.ownsRow (bn + 1) 22 1 (.slice (some ⟨g, 0, none⟩) (ks.length + 1) cap) (ks.length + 1) (nums64 ks ++ [.int .u64 (x : Int)]))
    (hgrow : (wr.alloc (.cells #[.int .u64 (x : Int)] T fr)).grownBy w3 K.ownBlock) (hat : K.ownBlock = some g ∨ g = wr.heap.size + 1) :
    w3.cell? ⟨bn, 2, none⟩ = some K ∧ w3.frozen? ⟨bn, 2, none⟩ = false ∧ Hid (RS w (w3.setCell ⟨bn, 2, none⟩ (.slice (some ⟨g, 0, none⟩) (ks.length + 1) cap)) bb rc ba bn l at_ kind birth (.slice (some ⟨g, 0, none⟩) (ks.length + 1) cap) V (ks ++ [x]) vs) := by
  have n1 := h.n1
  have n2 := h.n2
  have n3 := h.n3
  obtain ⟨h1, h2, h3, h4⟩ := h.ns.app2 x fr T g cap w3 hown hgrow hat
  exact ⟨h1, h2, h3, (h4 _ (by omega) (by omega)).trans h.blk, (h4 _ (by omega) (by omega)).trans h.at', (h4 _ (by omega) (by omega)).trans h.res, n1, n2, n3⟩
theorem RS.app3 {w wr : World} {bb rc ba bn : Nat} {l : List UInt8} {at_ : Nat} {kind birth : Int} {K V : Value} {ks vs : List Nat} (h : RS w wr bb rc ba bn l at_ kind birth K V ks vs) (x : Nat) (fr : Nat × Nat) (T : TypeId) (g cap : Nat) (w3 : World)
    (hown : w3.ownsRow (bn + 1) 22 1 (.slice (some ⟨g, 0, none⟩) (vs.length + 1) cap) (vs.length + 1) (nums64 vs ++ [.int .u64 (x : Int)]))
    (hgrow : (wr.alloc (.cells #[.int .u64 (x : Int)] T fr)).grownBy w3 V.ownBlock) (hat : V.ownBlock = some g ∨ g = wr.heap.size + 1) :
    w3.cell? ⟨bn, 3, none⟩ = some V ∧ w3.frozen? ⟨bn, 3, none⟩ = false ∧ Hid (RS w (w3.setCell ⟨bn, 3, none⟩ (.slice (some ⟨g, 0, none⟩) (vs.length + 1) cap)) bb rc ba bn l at_ kind birth K (.slice (some ⟨g, 0, none⟩) (vs.length + 1) cap) ks (vs ++ [x])) := by
  have n1 := h.n1
  have n2 := h.n2
  have n3 := h.n3
  obtain ⟨h1, h2, h3, h4⟩ := h.ns.app3 x fr T g cap w3 hown hgrow hat
  exact ⟨h1, h2, h3, (h4 _ (by omega) (by omega)).trans h.blk, (h4 _ (by omega) (by omega)).trans h.at', (h4 _ (by omega) (by omega)).trans h.res, n1, n2, n3⟩

theorem RS.start (w : World) (l : List UInt8) (k8 : UInt8) :
    RS w ((((w.alloc (.cells (cells8 l).toArray 153)).alloc (.cells #[.int .i64 0, .int .u64 0, .slice none 0 0, .slice none 0 0] 62)).alloc (.cells #[.int .i64 20] 3)).alloc (.cells #[.int .i64 (k8.toNat : Int), .int .u64 ((at8 l 12 : Nat) : Int), .slice none 0 0, .slice none 0 0] 62)).drew w.heap.size (w.heap.size + 1) (w.heap.size + 1 + 1) (w.heap.size + 1 + 1 + 1) l 20 (k8.toNat : Int) ((at8 l 12 : Nat) : Int) (.slice none 0 0) (.slice none 0 0) [] [] := by
  have hb := (((Holds8.new w 153 l _ rfl).alloc (.cells #[.int .i64 0, .int .u64 0, .slice none 0 0, .slice none 0 0] 62)).alloc (.cells #[.int .i64 20] 3)).alloc (.cells #[.int .i64 (k8.toNat : Int), .int .u64 ((at8 l 12 : Nat) : Int), .slice none 0 0, .slice none 0 0] 62)
  have hr := heap_alloc' (o := (.cells #[.int .i64 (k8.toNat : Int), .int .u64 ((at8 l 12 : Nat) : Int), .slice none 0 0, .slice none 0 0] 62)) (heap_alloc' (o := .cells #[.int .i64 20] 3) (heap_alloc_new (w.alloc (.cells (cells8 l).toArray 153)) (.cells #[.int .i64 0, .int .u64 0, .slice none 0 0, .slice none 0 0] 62)))
  have ha := heap_alloc' (o := (.cells #[.int .i64 (k8.toNat : Int), .int .u64 ((at8 l 12 : Nat) : Int), .slice none 0 0, .slice none 0 0] 62)) (heap_alloc_new (((w.alloc (.cells (cells8 l).toArray 153)).alloc (.cells #[.int .i64 0, .int .u64 0, .slice none 0 0, .slice none 0 0] 62))) (.cells #[.int .i64 20] 3))
  have hn := heap_alloc_new (((w.alloc (.cells (cells8 l).toArray 153)).alloc (.cells #[.int .i64 0, .int .u64 0, .slice none 0 0, .slice none 0 0] 62)).alloc (.cells #[.int .i64 20] 3)) (.cells #[.int .i64 (k8.toNat : Int), .int .u64 ((at8 l 12 : Nat) : Int), .slice none 0 0, .slice none 0 0] 62)
  have hbel := ((((Below.refl w.heap.size w).alloc (Nat.le_refl _) (.cells (cells8 l).toArray 153)).alloc (by simp) (.cells #[.int .i64 0, .int .u64 0, .slice none 0 0, .slice none 0 0] 62)).alloc (by simp; omega) (.cells #[.int .i64 20] 3)).alloc (by simp; omega) (.cells #[.int .i64 (k8.toNat : Int), .int .u64 ((at8 l 12 : Nat) : Int), .slice none 0 0, .slice none 0 0] 62)
  simp only [World.size_alloc] at hr ha hn
  refine ⟨⟨hn, ⟨rfl, .inl ⟨rfl, rfl⟩⟩, ⟨rfl, .inl ⟨rfl, rfl⟩⟩, (fun g hg => by cases hg), by omega, by omega, ?_, drewN_below hbel 1⟩, hb, ha, hr, ⟨by omega, by omega⟩, by omega, by omega⟩
  simp

theorem grown_row (w : World) (g : Nat) (cs : Array Value) : w.grownBy (w.setRow g cs) (some g) := ⟨rfl, rfl, rfl, by simp, fun i hi hne => setRow_other w g i cs (fun e => hne (by rw [e]))⟩
theorem node_size : (Tryz.prog.info? 62).map (·.size) = some 4 := by kernel_rfl
/-- what read answers, where there is room for so many keys -/
def ReadAs (w : World) (l : List UInt8) (m : Nat) (e : Ending) (w' : World) : Prop :=
  ∃ A A' ck cv, e = .returned (.tuple #[.agg #[.int .i64 ((l.getD 4 0).toNat : Int), .int .u64 ((at8 l 12 : Nat) : Int), .slice A m ck, .slice A' m cv], .bool true]) ∧ w'.ownsRow w.heap.size 22 1 (.slice A m ck) m (nums64 (keysOf l m)) ∧ w'.ownsRow w.heap.size 22 1 (.slice A' m cv) m (nums64 (valsOf l m)) ∧ Below w.heap.size w w'
theorem own_low {w : World} {base b n : Nat} {e : TypeId} {v : Value} {xs : List Value} (h : w.ownsRow base e 1 v n xs) (hb : b ≤ base) : w.ownsRow b e 1 v n xs := by
  refine ⟨h.1, ?_⟩
  rcases h.2 with h | ⟨g, cap, cur, h1, h2, h3⟩
  · exact .inl h
  · exact .inr ⟨g, cap, cur, h1, Nat.le_trans hb h2, h3⟩
theorem own_on {w w' : World} {base n : Nat} {e : TypeId} {v : Value} {xs : List Value} (h : w.ownsRow base e 1 v n xs) (hb : Below w.heap.size w w') : w'.ownsRow base e 1 v n xs :=
  h.kept (row := none) ⟨hb.os, hb.tape, hb.output, hb.size, fun i hi _ => hb.block i hi⟩ (by cases hv : v.ownBlock <;> simp)
theorem own_form4 {w : World} {base n : Nat} {e : TypeId} {v : Value} {xs : List Value} (h : w.ownsRow base e 1 v n xs) : ∃ A c, v = .slice A n c ∧ n ≤ c ∧ c ≤ maxLen := by
  rcases h.2 with ⟨rfl, rfl⟩ | ⟨g, cap, cur, rfl, _, _, hc, hm, _⟩
  · exact ⟨none, 0, rfl, Nat.le_refl _, Nat.zero_le _⟩
  · exact ⟨_, cap, rfl, hc, hm⟩

set_option maxRecDepth 10000 in
set_option maxHeartbeats 2000000 in
theorem read_ok (w : World) (l : List UInt8) (hl : l.length = 256) (m : Nat) (hm : m = manyB l) (h6 : m ≤ 6) :
    Calls Tryz.prog 183 #[.agg (cells8 l).toArray] w (ReadAs w l m) := by
  have hmf : ∀ (fn : Fn) (first cap : Array Value) (w : World), (Instr.makeFunc fn first cap).run Tryz.prog w = .ok (.func fn first cap) w := fun _ _ _ _ => rfl
  have h5 : Holds8 ((w.alloc (.cells (cells8 l).toArray 153)).alloc (.cells #[.int .i64 0, .int .u64 0, .slice none 0 0, .slice none 0 0] 62)) w.heap.size 153 l := (Holds8.new w _ l _ rfl).alloc _
  have h4 := h5.alloc (.cells #[.int .i64 12] 3)
  have hat : (((w.alloc (.cells (cells8 l).toArray 153)).alloc (.cells #[.int .i64 0, .int .u64 0, .slice none 0 0, .slice none 0 0] 62)).alloc (.cells #[.int .i64 12] 3)).heap[w.heap.size + 2]? = some (.cells #[.int .i64 12] 3 (0, 0)) := by
    have := heap_alloc_new ((w.alloc (.cells (cells8 l).toArray 153)).alloc (.cells #[.int .i64 0, .int .u64 0, .slice none 0 0, .slice none 0 0] 62)) (.cells #[.int .i64 12] 3)
    simpa using this
  have c5 := h5.cell 5 (by omega)
  have c4 := h4.cell 4 (by omega)
  have e5 : l[5]'(by omega) = UInt8.ofNat m := by
    have : l.getD 5 0 = l[5]'(by omega) := by simp [List.getD, show 5 < l.length by omega]
    rw [hm, manyB, this]
    simp
  rw [e5] at c5
  have hm5 : (UInt8.ofNat m).toNat = m := by rw [UInt8.toNat_ofNat']; omega
  rw [hm5] at c5
  have HM := Lib.hid hm
  clear hm
  have h4b : Holds8 (((w.alloc (.cells (cells8 l).toArray 153)).alloc (.cells #[.int .i64 0, .int .u64 0, .slice none 0 0, .slice none 0 0] 62)).alloc (.cells #[.int .i64 20] 3)) w.heap.size 153 l := h5.alloc _
  have c4b := h4b.cell 4 (by omega)
  have c4c := (h4.alloc (.cells #[.int .i64 0, .int .u64 0, .slice none 0 0, .slice none 0 0] 62)).cell 4 (by omega)
  have c4d := (h4b.alloc (.cells #[.int .i64 0, .int .u64 0, .slice none 0 0, .slice none 0 0] 62)).cell 4 (by omega)
  have hk4 : ((l.getD 4 0).toNat : Int) = ((l[4]'(by omega)).toNat : Int) := by simp [List.getD, show 4 < l.length by omega]
  have HK4 := Lib.hid hk4
  clear hk4
  generalize l[4]'(by omega) = k8 at *
  have hk8 : IntKind.i64.wrap (k8.toNat : Int) = (k8.toNat : Int) := IntWalk.i64_in _ (by have := k8.toNat_lt; omega)
  have c4e := (World.cell?_alloc_lt _ (.cells #[.int .i64 (k8.toNat : Int), .int .u64 ((at8 l 12 : Nat) : Int), .slice none 0 0, .slice none 0 0] 62) ⟨w.heap.size, 4, none⟩ (by simp; omega)).trans c4b
  have hnx : ∀ W : World, Holds8 W w.heap.size 153 l → W.heap[w.heap.size + 2]? = some (.cells #[.int .i64 12] 3 (0, 0)) → W.cell? ⟨w.heap.size, 4, none⟩ = some (.int .u8 (k8.toNat : Int)) → Calls Tryz.prog 188 #[.pointer (some ⟨w.heap.size, 0, none⟩), .pointer (some ⟨w.heap.size + 2, 0, none⟩)] W fun e w' => e = .returned (.int .u64 ((at8 l 12 : Nat) : Int)) ∧ w'.cell? ⟨w.heap.size, 4, none⟩ = some (.int .u8 (k8.toNat : Int)) ∧ w' = W.setCell ⟨w.heap.size + 2, 0, none⟩ (.int .i64 20) := fun W h1 h2 h3 =>
    (next_any W _ _ 12 l hl (by omega) h1 h2).mono fun e w' hp => ⟨hp.1, by rw [hp.2, World.cell?_setCell_far _ _ _ _ (by simp)]; exact h3, hp.2⟩
  have HNX := Lib.hid hnx
  have H4 := Lib.hid h4
  have HAT := Lib.hid hat
  have hm0 : ¬ (6 : Int) < (m : Int) := by omega
  have HL := Lib.hid hl
  clear hnx h4 h4b h5 hat e5 hm5 hl
  go_enter Tryz.func183, Tryz.ntmps183
  go_upto_region 6 with fail
  go_cut [7] (fun s7 wx => s7 = .pointer (some ⟨w.heap.size + 1 + 1 + 1, 0, none⟩) ∧ Hid (RS w wx w.heap.size (w.heap.size + 1) (w.heap.size + 1 + 1) (w.heap.size + 1 + 1 + 1) l 20 (k8.toNat : Int) ((at8 l 12 : Nat) : Int) (.slice none 0 0) (.slice none 0 0) [] []))
  case first =>
    go_region_held3 (fun w' => w'.cell? ⟨w.heap.size, 4, none⟩ = some (.int .u8 (k8.toNat : Int))) (first | exact c4 | exact c4b | exact c4c | exact c4d | exact c4e | assumption)
      ((go_at_call 188; (with_reducible refine (HNX.out _ (by first | exact H4.out.drew | exact H4.out.drew.alloc _ | exact (H4.out.alloc _).drew) (by first | exact heap_drew' HAT.out | exact heap_alloc' (heap_drew' HAT.out) | exact heap_drew' (heap_alloc' HAT.out)) (by assumption)).mono ?_); rintro e w3 ⟨rfl, hc3, rfl⟩))
    all_goals (go_wp2_with fail; go_meet; exact ⟨rfl, RS.start w l k8⟩)
  case rest =>
    obtain ⟨rfl, HRS⟩ := hcut
    clear c4 c4b c4c c4d c4e HNX H4 HAT hk8
    go_wp2
    generalize w.heap.size + 1 + 1 + 1 = bn at *
    generalize w.heap.size + 1 + 1 = ba at *
    generalize w.heap.size + 1 = rc at *
    generalize (k8.toNat : Int) = kd at *
    generalize hbi : ((at8 l 12 : Nat) : Int) = bi at *
    have HBI := Lib.hid hbi
    clear hbi
    clear c5 hm0
    go_loopw [22] (fun j wr => ∃ i : Nat, i ≤ m ∧ j = .int .i64 (i : Int) ∧ ∃ K V, Hid (RS w wr w.heap.size rc ba bn l (20 + 16 * i) kd bi K V (keysOf l i) (valsOf l i))) (fun j _ => m - (intOf j).toNat)
    case atStart => exact ⟨0, Nat.zero_le _, rfl, _, _, HRS⟩
    case round =>
      obtain ⟨i, hi, rfl, K, V, HR⟩ := hrel
      by_cases hlt : i < m
      · have hkl := keysOf_length l i
        have hvl := valsOf_length l i
        have hltI : (i : Int) < (m : Int) := by omega
        have e1 : keysOf l (i + 1) = keysOf l i ++ [at8 l (20 + 16 * i)] := rfl
        have e2 : valsOf l (i + 1) = valsOf l i ++ [at8 l (28 + 16 * i)] := rfl
        have HE1 := Lib.hid e1
        have HE2 := Lib.hid e2
        have hkl1 : (keysOf l i).length ≤ 6 := by omega
        have hvl1 : (valsOf l i).length ≤ 6 := by omega
        clear e1 e2 hkl hvl
        generalize keysOf l i = ks at *
        generalize valsOf l i = vs at *
        have hS0 : wr.cell? ⟨bn, 2, none⟩ = some K := HR.out.ns.cell 2
        have hn1 := HR.out.drew.next HL.out (by omega)
        have HN1 := Lib.hid hn1
        clear hn1
        generalize hx1 : at8 l (20 + 16 * i) = x1 at *
        have HX1 := Lib.hid hx1
        clear hx1
        obtain ⟨i0, hi0, hz0, hz1, hz2⟩ := info_parts u64_info
        go_upto_region 9 with fail
        go_cut [22] from 22 to 38 (fun j wx => j = .int .i64 (i : Int) ∧ ∃ K2, Hid (RS w wx w.heap.size rc ba bn l (20 + 16 * i + 8) kd bi K2 V (ks ++ [x1]) vs))
        case first =>
          go_region_law (first
            | (go_simp; go_at_call 188; (with_reducible refine HN1.out.mono ?_); rintro e wa ⟨rfl, ⟨hSa, hSa3⟩, HRa⟩; have hSb : (wa.alloc (.cells #[.int .u64 (x1 : Int)] 22)).cell? ⟨bn, 2, none⟩ = some K := (HRa.out.ns.alloc1 _).cell 2)
            | (refine step_append_lies _ (by rfl) (.tmp 25) (.tmp 28) 60 (by rfl) (bn + 1) 22 i0 (.int .u64 0) 1 8 Tryz.underlying60 hi0 hz0 hz1 hz2 rfl (by omega) K ks.length (nums64 ks) (by rfl) (HRa.out.ns.ok.alloc _) ⟨wa.heap.size, 0, none⟩ 1 1 [.int .u64 (x1 : Int)] (by rfl) rfl (World.news_of_block (heap_alloc_new wa _)) (by simp [Value.oneCell']) (by omega) (by unfold maxLen; omega) (by omega) (by have := HRa.out.ns.bs; simp; omega) (wa.heap.size + 1) (by simp) ?_; intro g cap wb hown hgrow hat hltg; obtain ⟨hcB, hfB, HRb⟩ := HRa.out.app2 x1 _ _ g cap wb hown hgrow hat)
            | fail)
          all_goals (go_wp2_with fail; go_meet; exact ⟨rfl, _, HRb⟩)
        case rest =>
          obtain ⟨rfl, K2, HRb⟩ := hcut
          clear HN1 hS0
          have hS0 : wc.cell? ⟨bn, 3, none⟩ = some V := HRb.out.ns.cell 3
          have hn1 := HRb.out.drew.next HL.out (by omega)
          have HN1 := Lib.hid hn1
          clear hn1 HRb
          have hp28 : 20 + 16 * i + 8 = 28 + 16 * i := by omega
          rw [hp28] at HN1
          clear hp28
          generalize hx2 : at8 l (28 + 16 * i) = x2 at *
          have HX2 := Lib.hid hx2
          clear hx2
          go_upto_region 10 with fail
          go_region_law (first
            | (go_simp; go_at_call 188; (with_reducible refine HN1.out.mono ?_); rintro e wa2 ⟨rfl, ⟨hSa3, hSa⟩, HRa⟩; have hSb : (wa2.alloc (.cells #[.int .u64 (x2 : Int)] 22)).cell? ⟨bn, 3, none⟩ = some V := (HRa.out.ns.alloc1 _).cell 3)
            | (refine step_append_lies _ (by rfl) (.tmp 32) (.tmp 35) 60 (by rfl) (bn + 1) 22 i0 (.int .u64 0) 1 8 Tryz.underlying60 hi0 hz0 hz1 hz2 rfl (by omega) V vs.length (nums64 vs) (by rfl) (HRa.out.ns.ov.alloc _) ⟨wa2.heap.size, 0, none⟩ 1 1 [.int .u64 (x2 : Int)] (by rfl) rfl (World.news_of_block (heap_alloc_new wa2 _)) (by simp [Value.oneCell']) (by omega) (by unfold maxLen; omega) (by omega) (by have := HRa.out.ns.bs; simp; omega) (wa2.heap.size + 1) (by simp) ?_; intro g2 cap2 wb2 hown hgrow hat hltg; obtain ⟨hcB, hfB, HRc⟩ := HRa.out.app3 x2 _ _ g2 cap2 wb2 hown hgrow hat)
            | fail)
          all_goals
            clear HN1 hS0 hown hgrow hat hltg hcB hfB hSb hSa hSa3 HRa
            go_wp2
            go_roundw
            case rel => exact ⟨i + 1, by omega, by go_num, _, _, by rw [HE1.out, HE2.out, show 20 + 16 * (i + 1) = 28 + 16 * i + 8 by omega]; exact HRc⟩
            case measure => simp [intOf]; omega
      · obtain rfl : i = m := by omega
        have hltI : ¬ (i : Int) < (i : Int) := by omega
        obtain ⟨A, ck, hK, _⟩ := own_form4 HR.out.ns.ok
        obtain ⟨A', cv, hV, _⟩ := own_form4 HR.out.ns.ov
        rw [keysOf_length] at hK
        rw [valsOf_length] at hV
        subst hK
        subst hV
        have ho1 := HR.out.ns.ok
        have ho2 := HR.out.ns.ov
        rw [keysOf_length] at ho1
        rw [valsOf_length] at ho2
        have hg : wr.grownBy (wr.setRow rc #[.int .i64 kd, .int .u64 bi, .slice A i ck, .slice A' i cv]) (some rc) := grown_row _ _ _
        have hne : ∀ v, (∀ k, Value.ownBlock v = some k → bn + 1 ≤ k ∧ k < wr.heap.size) → v.ownBlock = none ∨ v.ownBlock ≠ some rc := fun v hv => .inr fun e => by have := (hv rc e).1; have := HR.out.n2; have := HR.out.n3; omega
        have HS1 := Lib.hid (own_low (ho1.kept hg (hne _ ho1.lt)) (show w.heap.size ≤ bn + 1 by have := HR.out.n1; have := HR.out.n2; have := HR.out.n3; omega))
        have HS2 := Lib.hid (own_low (ho2.kept hg (hne _ ho2.lt)) (show w.heap.size ≤ bn + 1 by have := HR.out.n1; have := HR.out.n2; have := HR.out.n3; omega))
        clear ho1 ho2 hg hne
        have hrc : w.heap.size ≤ rc := by have := HR.out.n1; omega
        go_wp2_with (first
          | refine wpList_load_row rfl 62 (.tmp 7) rfl bn rfl 62 #[.int .i64 kd, .int .u64 bi, .slice A i ck, .slice A' i cv] (0, 0) _ HR.out.ns.node Tryz.underlying62 rfl (by rw [node_size]; rfl) ?_
          | refine wpList_store_row rfl 62 (.tmp 2) (.tmp 39) rfl rc #[.int .i64 kd, .int .u64 bi, .slice A i ck, .slice A' i cv] rfl rfl 62 #[.int .i64 0, .int .u64 0, .slice none 0 0, .slice none 0 0] HR.out.res (by rw [node_size]; rfl) rfl (by simp [Value.oneCell']) ?_
          | fail)
        refine bodyPost_ret (results_cell_tmp rfl _ _ rc 62 #[.int .i64 kd, .int .u64 bi, .slice A i ck, .slice A' i cv] (0, 0) _ (.bool true) rfl rfl (setRow_heap wr rc _ _ _ _ HR.out.res) Tryz.underlying62 rfl (by rw [node_size]; rfl)) rfl ?_
        exact ⟨A, A', ck, cv, by rw [HK4.out, HBI.out], HS1.out, HS2.out, below_setRow HR.out.ns.bel hrc _⟩

set_option maxHeartbeats 1000000 in
theorem read_no (w : World) (l : List UInt8) (hl : l.length = 256) (h6 : 6 < manyB l) :
    Calls Tryz.prog 183 #[.agg (cells8 l).toArray] w fun e w' => e = .returned (.tuple #[.agg #[.int .i64 0, .int .u64 0, .slice none 0 0, .slice none 0 0], .bool false]) ∧ Below w.heap.size w w' := by
  have h5 : Holds8 ((w.alloc (.cells (cells8 l).toArray 153)).alloc (.cells #[.int .i64 0, .int .u64 0, .slice none 0 0, .slice none 0 0] 62)) w.heap.size 153 l := (Holds8.new w _ l _ rfl).alloc _
  have c5 := h5.cell 5 (by omega)
  have e5 : (l[5]'(by omega)).toNat = manyB l := by simp [manyB, List.getD, show 5 < l.length by omega]
  rw [e5] at c5
  have hlt : manyB l < 256 := by unfold manyB; exact UInt8.toNat_lt _
  generalize manyB l = m at *
  have hm0 : (6 : Int) < (m : Int) := by omega
  have hbel : Below w.heap.size w ((w.alloc (.cells (cells8 l).toArray 153)).alloc (.cells #[.int .i64 0, .int .u64 0, .slice none 0 0, .slice none 0 0] 62)) := ((Below.refl w.heap.size w).alloc (Nat.le_refl _) _).alloc (by simp) _
  have hg : ((w.alloc (.cells (cells8 l).toArray 153)).alloc (.cells #[.int .i64 0, .int .u64 0, .slice none 0 0, .slice none 0 0] 62)).heap[w.heap.size + 1]? = some (.cells #[.int .i64 0, .int .u64 0, .slice none 0 0, .slice none 0 0] 62 (0, 0)) := by
    have := heap_alloc_new (w.alloc (.cells (cells8 l).toArray 153)) (.cells #[.int .i64 0, .int .u64 0, .slice none 0 0, .slice none 0 0] 62)
    simpa using this
  have HB := Lib.hid hbel
  have HG := Lib.hid hg
  clear h5 e5 hbel hg hl h6
  go_enter Tryz.func183, Tryz.ntmps183
  go_wp2_with (first
    | refine wpList_store_row rfl 62 (.tmp 2) (.tmp 13) rfl (w.heap.size + 1) #[.int .i64 0, .int .u64 0, .slice none 0 0, .slice none 0 0] rfl rfl 62 #[.int .i64 0, .int .u64 0, .slice none 0 0, .slice none 0 0] HG.out (by rw [node_size]; rfl) rfl (by simp [Value.oneCell']) ?_
    | fail)
  exact bodyPost_ret (results_cell_tmp rfl _ _ (w.heap.size + 1) 62 #[.int .i64 0, .int .u64 0, .slice none 0 0, .slice none 0 0] (0, 0) _ (.bool false) rfl rfl (setRow_heap _ _ _ _ _ _ HG.out) Tryz.underlying62 rfl (by rw [node_size]; rfl)) rfl ⟨rfl, below_setRow HB.out (by simp) _⟩
end Go.Proofs.YtnddkpemoljhoaaGreatDoor
