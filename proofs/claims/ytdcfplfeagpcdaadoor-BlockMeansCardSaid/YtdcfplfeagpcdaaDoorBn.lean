/- The document's Of. -/
import Derived.Test.YtdcfplfeagpcdaaDoorBm
import Derived.Test.YtdcfplfeagpcdaaDoorBj
import Derived.Deep.RegionWith
set_option linter.unusedVariables false
namespace Go.Proofs.YtdcfplfeagpcdaaDoor
open Go.RowKit

/-- while the document's node grows -/
structure QS (w wr : World) (bb rc bn : Nat) (l : List UInt8) (kind birth : Int) (K V : Value) (ks vs : List Nat) : Prop where
  ns : NS w wr (bn + 1) bn kind birth K V ks vs
  blk : Holds8 wr bb 29 l
  res : wr.heap[rc]? = some (.cells #[.int .i64 0, .int .u64 0, .slice none 0 0, .slice none 0 0] 27 (0, 0))
  n1 : w.heap.size ≤ bb ∧ bb < rc
  n2 : rc < bn
theorem QS.drew {w wr : World} {bb rc bn : Nat} {l : List UInt8} {kind birth : Int} {K V : Value} {ks vs : List Nat} (h : QS w wr bb rc bn l kind birth K V ks vs) : QS w wr.drew bb rc bn l kind birth K V ks vs :=
  ⟨h.ns.drewN 1, h.blk, h.res, h.n1, h.n2⟩
theorem QS.drewN {w wr : World} {bb rc bn : Nat} {l : List UInt8} {kind birth : Int} {K V : Value} {ks vs : List Nat} (h : QS w wr bb rc bn l kind birth K V ks vs) (n : Nat) : QS w (wr.drewN n) bb rc bn l kind birth K V ks vs :=
  ⟨h.ns.drewN n, h.blk, h.res, h.n1, h.n2⟩
theorem QS.num {w wr : World} {bb rc bn : Nat} {l : List UInt8} {kind birth : Int} {K V : Value} {ks vs : List Nat} (h : QS w wr bb rc bn l kind birth K V ks vs) (hl : l.length = 256) (at_ c : Nat) (hat : at_ + 8 ≤ 256) :
    Calls Tryd.prog 43 #[.slice (some ⟨bb, at_, none⟩) 8 c] wr fun e w' => e = .returned (.int .u64 ((at8 l at_ : Nat) : Int)) ∧ w' = wr := by
  have hsh : Shows wr wr.heap.size (some ⟨bb, at_, none⟩) ((l.drop at_).take 8).length (cells8 ((l.drop at_).take 8)) := by
    have h1 := h.blk.shows.from_ (k := at_) (cap := 257) (by omega) (by omega)
    rw [if_neg (by omega), ← cells8_drop] at h1
    have h2 := h1.upto (k := 8) (by omega)
    rw [← cells8_take] at h2
    have e : ((l.drop at_).take 8).length = 8 := by simp; omega
    rw [e]
    have e2 : (⟨bb, 0, none⟩ : Addr).add at_ = ⟨bb, at_, none⟩ := by unfold Addr.add; split <;> simp_all
    simpa [e2] using h2
  have e : ((l.drop at_).take 8).length = 8 := by simp; omega
  have := rnumber_any wr wr.heap.size _ c _ hsh (by omega)
  rw [e] at this
  exact this
theorem QS.app2 {w wr : World} {bb rc bn : Nat} {l : List UInt8} {kind birth : Int} {K V : Value} {ks vs : List Nat} (h : QS w wr bb rc bn l kind birth K V ks vs) (x : Nat) (fr : Nat × Nat) (T : TypeId) (g cap : Nat) (w3 : World)
    (hown : w3.ownsRow (bn + 1) 24 1 (.slice (some ⟨g, 0, none⟩) (ks.length + 1) cap) (ks.length + 1) (nums64 ks ++ [.int .u64 (x : Int)]))
    (hgrow : (wr.alloc (.cells #[.int .u64 (x : Int)] T fr)).grownBy w3 K.ownBlock) (hat : K.ownBlock = some g ∨ g = wr.heap.size + 1) :
    w3.cell? ⟨bn, 2, none⟩ = some K ∧ w3.frozen? ⟨bn, 2, none⟩ = false ∧ Hid (QS w (w3.setCell ⟨bn, 2, none⟩ (.slice (some ⟨g, 0, none⟩) (ks.length + 1) cap)) bb rc bn l kind birth (.slice (some ⟨g, 0, none⟩) (ks.length + 1) cap) V (ks ++ [x]) vs) := by
  have n1 := h.n1
  have n2 := h.n2
  obtain ⟨h1, h2, h3, h4⟩ := h.ns.app2 x fr T g cap w3 hown hgrow hat
  exact ⟨h1, h2, h3, (h4 _ (by omega) (by omega)).trans h.blk, (h4 _ (by omega) (by omega)).trans h.res, n1, n2⟩
theorem QS.app3 {w wr : World} {bb rc bn : Nat} {l : List UInt8} {kind birth : Int} {K V : Value} {ks vs : List Nat} (h : QS w wr bb rc bn l kind birth K V ks vs) (x : Nat) (fr : Nat × Nat) (T : TypeId) (g cap : Nat) (w3 : World)
    (hown : w3.ownsRow (bn + 1) 24 1 (.slice (some ⟨g, 0, none⟩) (vs.length + 1) cap) (vs.length + 1) (nums64 vs ++ [.int .u64 (x : Int)]))
    (hgrow : (wr.alloc (.cells #[.int .u64 (x : Int)] T fr)).grownBy w3 V.ownBlock) (hat : V.ownBlock = some g ∨ g = wr.heap.size + 1) :
    w3.cell? ⟨bn, 3, none⟩ = some V ∧ w3.frozen? ⟨bn, 3, none⟩ = false ∧ Hid (QS w (w3.setCell ⟨bn, 3, none⟩ (.slice (some ⟨g, 0, none⟩) (vs.length + 1) cap)) bb rc bn l kind birth K (.slice (some ⟨g, 0, none⟩) (vs.length + 1) cap) ks (vs ++ [x])) := by
  have n1 := h.n1
  have n2 := h.n2
  obtain ⟨h1, h2, h3, h4⟩ := h.ns.app3 x fr T g cap w3 hown hgrow hat
  exact ⟨h1, h2, h3, (h4 _ (by omega) (by omega)).trans h.blk, (h4 _ (by omega) (by omega)).trans h.res, n1, n2⟩
theorem QS.start (w : World) (l : List UInt8) (k8 : UInt8) :
    QS w (((w.alloc (.cells (cells8 l).toArray 29)).alloc (.cells #[.int .i64 0, .int .u64 0, .slice none 0 0, .slice none 0 0] 27)).alloc (.cells #[.int .i64 (k8.toNat : Int), .int .u64 ((at8 l 12 : Nat) : Int), .slice none 0 0, .slice none 0 0] 27)).drew w.heap.size (w.heap.size + 1) (w.heap.size + 1 + 1) l (k8.toNat : Int) ((at8 l 12 : Nat) : Int) (.slice none 0 0) (.slice none 0 0) [] [] := by
  have hb := ((Holds8.new w 29 l _ rfl).alloc (.cells #[.int .i64 0, .int .u64 0, .slice none 0 0, .slice none 0 0] 27)).alloc (.cells #[.int .i64 (k8.toNat : Int), .int .u64 ((at8 l 12 : Nat) : Int), .slice none 0 0, .slice none 0 0] 27)
  have hr := heap_alloc' (o := (.cells #[.int .i64 (k8.toNat : Int), .int .u64 ((at8 l 12 : Nat) : Int), .slice none 0 0, .slice none 0 0] 27)) (heap_alloc_new (w.alloc (.cells (cells8 l).toArray 29)) (.cells #[.int .i64 0, .int .u64 0, .slice none 0 0, .slice none 0 0] 27))
  have hn := heap_alloc_new ((w.alloc (.cells (cells8 l).toArray 29)).alloc (.cells #[.int .i64 0, .int .u64 0, .slice none 0 0, .slice none 0 0] 27)) (.cells #[.int .i64 (k8.toNat : Int), .int .u64 ((at8 l 12 : Nat) : Int), .slice none 0 0, .slice none 0 0] 27)
  have hbel := (((Below.refl w.heap.size w).alloc (Nat.le_refl _) (.cells (cells8 l).toArray 29)).alloc (by simp) (.cells #[.int .i64 0, .int .u64 0, .slice none 0 0, .slice none 0 0] 27)).alloc (by simp; omega) (.cells #[.int .i64 (k8.toNat : Int), .int .u64 ((at8 l 12 : Nat) : Int), .slice none 0 0, .slice none 0 0] 27)
  simp only [World.size_alloc] at hr hn
  refine ⟨⟨hn, ⟨rfl, .inl ⟨rfl, rfl⟩⟩, ⟨rfl, .inl ⟨rfl, rfl⟩⟩, (fun g hg => by cases hg), by omega, by omega, ?_, drewN_below hbel 1⟩, hb, hr, ⟨by omega, by omega⟩, by omega⟩
  simp

/-- what the document's Of answers -/
def ROfAs (w : World) (o : Option ND) (e : Ending) (w' : World) : Prop :=
  Below w.heap.size w w' ∧ match o with
    | none => e = .returned (.tuple #[.agg #[.int .i64 0, .int .u64 0, .slice none 0 0, .slice none 0 0], .bool false])
    | some n => ∃ A A' ck cv, e = .returned (.tuple #[.agg #[.int .i64 n.kind, .int .u64 (n.birth : Int), .slice A n.keys.length ck, .slice A' n.vals.length cv], .bool true]) ∧ Shows w' w'.heap.size A n.keys.length (nums64 n.keys) ∧ Shows w' w'.heap.size A' n.vals.length (nums64 n.vals)
theorem QS.on {w wr : World} {bb rc bn : Nat} {l : List UInt8} {kind birth : Int} {K V : Value} {ks vs : List Nat} {w2 : World} (h : QS w wr bb rc bn l kind birth K V ks vs) (hb : Below wr.heap.size wr w2) : QS w w2 bb rc bn l kind birth K V ks vs :=
  ⟨⟨(hb.block bn (lt_of_block h.ns.node)).trans h.ns.node, own_on h.ns.ok hb, own_on h.ns.ov hb, h.ns.ap, h.ns.lt, h.ns.le, Nat.le_trans h.ns.bs hb.size, h.ns.bel.trans (hb.mono h.ns.bel.size)⟩, h.blk.below hb, (hb.block rc (lt_of_block h.res)).trans h.res, h.n1, h.n2⟩
theorem QS.ss {w wr : World} {bb rc bn : Nat} {l : List UInt8} {kind birth : Int} {K V : Value} {ks vs : List Nat} (h : QS w wr bb rc bn l kind birth K V ks vs) (h256 : l.length = 256) (m : Nat) (hm : manyB l = m) : wr.cell? ⟨bn, 0, none⟩ = some (.int .i64 kind) ∧ wr.cell? ⟨bn, 1, none⟩ = some (.int .u64 birth) ∧ wr.cell? ⟨bn, 2, none⟩ = some K ∧ wr.cell? ⟨bn, 3, none⟩ = some V ∧ wr.cell? ⟨bb, 5, none⟩ = some (.int .u8 (m : Int)) ∧ wr.rangeAt bb 0 (cells8 l) := by
  refine ⟨h.ns.cell 0, h.ns.cell 1, h.ns.cell 2, h.ns.cell 3, ?_, fun j v hv => ?_⟩
  · rw [h.blk.cell 5 (by omega), ← hm]
    simp [manyB, List.getD, show 5 < l.length by omega]
  · rw [Nat.zero_add, cell_of_row wr bb j _ _ _ h.blk]
    simpa using hv
theorem own_len {w : World} {base n m : Nat} {e : TypeId} {v : Value} {xs : List Value} (h : n = m) (ho : w.ownsRow base e 1 v n xs) : w.ownsRow base e 1 v m xs := by subst h; exact ho
theorem blk_size' (l : List UInt8) (h : l.length = 256) : (Tryd.prog.info? 29).map (·.size) = some (cells8 l).length := by rw [blk_size, cells8_length, h]
theorem fits_read (l : List UInt8) (h : l.length = 256) (m : Nat) (h6 : m ≤ 6) : (readB l m).fits := by
  refine ⟨at8_lt l 12 (by omega), fun k hk => ?_, fun k hk => ?_⟩
  · have hk' : k ∈ keysOf l m := hk
    obtain ⟨i, hi, rfl⟩ := List.getElem_of_mem hk'
    rw [keysOf_length] at hi
    have := keysOf_getD l m i hi
    simp [List.getD, keysOf_length, hi] at this
    rw [this]; exact at8_lt l _ (by omega)
  · have hk' : k ∈ valsOf l m := hk
    obtain ⟨i, hi, rfl⟩ := List.getElem_of_mem hk'
    rw [valsOf_length] at hi
    have := valsOf_getD l m i hi
    simp [List.getD, valsOf_length, hi] at this
    rw [this]; exact at8_lt l _ (by omega)

set_option maxRecDepth 10000 in
set_option maxHeartbeats 4000000 in
theorem rof_any (w : World) (no : Nat) (hno : no < 4294967296) (l : List UInt8) (hl : l.length = 256) :
    Calls Tryd.prog 16 #[.int .u32 no, .agg (cells8 l).toArray] w (ROfAs w (ofB no l)) := by
  have h5 : Holds8 ((w.alloc (.cells (cells8 l).toArray 29)).alloc (.cells #[.int .i64 0, .int .u64 0, .slice none 0 0, .slice none 0 0] 27)) w.heap.size 29 l := (Holds8.new w _ l _ rfl).alloc _
  have c4 := h5.cell 4 (by omega)
  have hk4 : ((l.getD 4 0).toNat : Int) = ((l[4]'(by omega)).toNat : Int) := by simp [List.getD, show 4 < l.length by omega]
  have HK4 := Lib.hid hk4
  clear hk4
  generalize l[4]'(by omega) = k8 at *
  have hk8 : IntKind.i64.wrap (k8.toNat : Int) = (k8.toNat : Int) := IntWalk.i64_in _ (by have := k8.toNat_lt; omega)
  have c4z := (World.cell?_alloc_lt _ (.cells #[.int .i64 0, .int .u64 0, .slice none 0 0, .slice none 0 0] 27) ⟨w.heap.size, 4, none⟩ (by simp; omega)).trans c4
  have c4n := (World.cell?_alloc_lt _ (.cells #[.int .i64 (k8.toNat : Int), .int .u64 ((at8 l 12 : Nat) : Int), .slice none 0 0, .slice none 0 0] 27) ⟨w.heap.size, 4, none⟩ (by simp; omega)).trans c4
  have hq0 : ∀ W : World, Holds8 W w.heap.size 29 l → W.cell? ⟨w.heap.size, 4, none⟩ = some (.int .u8 (k8.toNat : Int)) → Calls Tryd.prog 43 #[.slice (some ⟨w.heap.size, 12, none⟩) 8 244] W fun e w' => e = .returned (.int .u64 ((at8 l 12 : Nat) : Int)) ∧ w'.cell? ⟨w.heap.size, 4, none⟩ = some (.int .u8 (k8.toNat : Int)) ∧ w' = W := by
    intro W h1 h2
    have hsh : Shows W W.heap.size (some ⟨w.heap.size, 12, none⟩) ((l.drop 12).take 8).length (cells8 ((l.drop 12).take 8)) := by
      have g1 := h1.shows.from_ (k := 12) (cap := 256) (by omega) (by omega)
      rw [if_neg (by omega), ← cells8_drop] at g1
      have g2 := g1.upto (k := 8) (by omega)
      rw [← cells8_take] at g2
      have e : ((l.drop 12).take 8).length = 8 := by simp; omega
      rw [e]
      simpa [Addr.add] using g2
    have e : ((l.drop 12).take 8).length = 8 := by simp; omega
    have := rnumber_any W W.heap.size _ 244 _ hsh (by omega)
    rw [e] at this
    exact this.mono fun e w' hp => ⟨hp.1, by rw [hp.2]; exact h2, hp.2⟩
  have HQ0 := Lib.hid hq0
  have H5 := Lib.hid h5
  have HL := Lib.hid hl
  have hmm : manyB l < 256 := by unfold manyB; exact UInt8.toNat_lt _
  have h55 : ∀ W : World, Holds8 W w.heap.size 29 l → W.cell? ⟨w.heap.size, 5, none⟩ = some (.int .u8 ((manyB l : Nat) : Int)) := by
    intro W h
    rw [h.cell 5 (by omega)]
    simp [manyB, List.getD, show 5 < l.length by omega]
  have H55 := Lib.hid h55
  clear hq0 h5 hl h55
  generalize hm : manyB l = m at *
  have HM := Lib.hid hm
  clear hm
  go_enter Tryd.func16, Tryd.ntmps16
  go_upto_region 1 with fail
  go_cut [6] (fun s6 wx => s6 = .pointer (some ⟨w.heap.size + 1 + 1, 0, none⟩) ∧ Hid (QS w wx w.heap.size (w.heap.size + 1) (w.heap.size + 1 + 1) l (k8.toNat : Int) ((at8 l 12 : Nat) : Int) (.slice none 0 0) (.slice none 0 0) [] []))
  case first =>
    go_region_held3 (fun w' => w'.cell? ⟨w.heap.size, 4, none⟩ = some (.int .u8 (k8.toNat : Int))) (first | exact c4 | exact c4z | exact c4n | assumption)
      ((go_at_call 43; (with_reducible refine (HQ0.out _ (by first | exact H5.out.drew | exact H5.out.drew.alloc _ | exact (H5.out.alloc _).drew) (by assumption)).mono ?_); rintro e w3 ⟨rfl, hc3, rfl⟩))
    all_goals (go_wp2_with fail; go_meet; exact ⟨rfl, QS.start w l k8⟩)
  case rest =>
    obtain ⟨rfl, HQS⟩ := hcut
    clear c4 c4z c4n HQ0 H5 hk8
    go_wp2
    generalize w.heap.size + 1 + 1 = bn at *
    generalize w.heap.size + 1 = rc at *
    generalize (k8.toNat : Int) = kd at *
    generalize hbi : ((at8 l 12 : Nat) : Int) = bi at *
    have HBI := Lib.hid hbi
    clear hbi
    go_loopw [7] (fun j wr => ∃ i : Nat, (i ≤ m ∧ i ≤ 6) ∧ j = .int .i64 (i : Int) ∧ ∃ K V, Hid (QS w wr w.heap.size rc bn l kd bi K V (keysOf l i) (valsOf l i))) (fun j _ => 6 - (intOf j).toNat)
    case atStart => exact ⟨0, ⟨Nat.zero_le _, Nat.zero_le _⟩, rfl, _, _, HQS⟩
    case round =>
      obtain ⟨i, ⟨hi, hi6⟩, rfl, K, V, HR⟩ := hrel
      have c5 := H55.out wr HR.out.blk
      by_cases hlt : i < m ∧ i < 6
      · obtain ⟨hlm, hl6⟩ := hlt
        have hkl := keysOf_length l i
        have hvl := valsOf_length l i
        have hltI : (i : Int) < (m : Int) := by omega
        have hltJ : (i : Int) < 6 := by omega
        have HE1 : Hid (keysOf l (i + 1) = keysOf l i ++ [at8 l (20 + 16 * i)]) := rfl
        have HE2 : Hid (valsOf l (i + 1) = valsOf l i ++ [at8 l (28 + 16 * i)]) := rfl
        have hkl1 : (keysOf l i).length ≤ 6 := by omega
        have hvl1 : (valsOf l i).length ≤ 6 := by omega
        clear hkl hvl
        generalize keysOf l i = ks at *
        generalize valsOf l i = vs at *
        have hS0 : wr.cell? ⟨bn, 2, none⟩ = some K := HR.out.ns.cell 2
        have HN1 := Lib.hid (HR.out.drew.num HL.out (20 + 16 * i) (256 - (20 + 16 * i)) (by omega))
        generalize hx1 : at8 l (20 + 16 * i) = x1 at *
        have HX1 := Lib.hid hx1
        clear hx1
        obtain ⟨i0, hi0, hz0, hz1, hz2⟩ := info_parts u64_info
        have w1 : IntKind.i64.wrap (16 * (i : Int)) = 16 * (i : Int) := IntWalk.i64_in _ (by omega)
        have w2 : IntKind.i64.wrap (20 + 16 * (i : Int)) = 20 + 16 * (i : Int) := IntWalk.i64_in _ (by omega)
        have w3 : IntKind.i64.wrap (28 + 16 * (i : Int)) = 28 + 16 * (i : Int) := IntWalk.i64_in _ (by omega)
        have b1 : (0 : Int) ≤ 20 + 16 * (i : Int) := by omega
        have b2 : (20 + 16 * (i : Int)) ≤ 28 + 16 * (i : Int) := by omega
        have b3 : (28 + 16 * (i : Int)) ≤ 256 := by omega
        have b4 : (20 + 16 * (i : Int)).toNat = 20 + 16 * i := by omega
        have b5 : (28 + 16 * (i : Int)).toNat = 28 + 16 * i := by omega
        have n1 : ¬ 256 = 20 + 16 * i := by omega
        have n2 : 28 + 16 * i - (20 + 16 * i) = 8 := by omega
        have hS1 : (wr.alloc (.cells #[.int .u64 (x1 : Int)] 24)).cell? ⟨bn, 2, none⟩ = some K := (HR.out.ns.alloc1 _).cell 2
        go_upto_region 5 with fail
        go_cut [7] from 14 to 50 (fun j wx => j = .int .i64 (i : Int) ∧ ∃ K2, Hid (QS w wx w.heap.size rc bn l kd bi K2 V (ks ++ [x1]) vs))
        case first =>
          go_region_law (first
            | (go_simp; go_at_call 43; (with_reducible refine HN1.out.mono ?_); rintro e wa ⟨rfl, rfl⟩; have HRa := Lib.hid HR.out.drew; have hSb : (wr.drew.alloc (.cells #[.int .u64 (x1 : Int)] 24)).cell? ⟨bn, 2, none⟩ = some K := (HRa.out.ns.alloc1 _).cell 2)
            | (refine step_append_lies _ (by rfl) (.tmp 26) (.tmp 35) 25 (by rfl) (bn + 1) 24 i0 (.int .u64 0) 1 8 Tryd.underlying25 hi0 hz0 hz1 hz2 rfl (by omega) K ks.length (nums64 ks) (by rfl) (HRa.out.ns.ok.alloc _) ⟨wr.drew.heap.size, 0, none⟩ 1 1 [.int .u64 (x1 : Int)] (by rfl) rfl (World.news_of_block (heap_alloc_new wr.drew _)) (by simp [Value.oneCell']) (by omega) (by unfold maxLen; omega) (by omega) (by have := HRa.out.ns.bs; simp at this ⊢; omega) (wr.drew.heap.size + 1) (by simp) ?_; intro g cap wb hown hgrow hat hltg; obtain ⟨hcB, hfB, HRb⟩ := HRa.out.app2 x1 _ _ g cap wb hown hgrow hat)
            | fail)
          all_goals (go_wp2_with fail; go_meet; exact ⟨rfl, _, HRb⟩)
        case rest =>
          obtain ⟨rfl, K2, HRb⟩ := hcut
          clear HN1 hS0 hS1
          have hS0 : wc.cell? ⟨bn, 3, none⟩ = some V := HRb.out.ns.cell 3
          have HN1 := Lib.hid (HRb.out.drew.num HL.out (28 + 16 * i) (256 - (28 + 16 * i)) (by omega))
          generalize hx2 : at8 l (28 + 16 * i) = x2 at *
          have HX2 := Lib.hid hx2
          clear hx2
          have hS1 : (wc.alloc (.cells #[.int .u64 (x2 : Int)] 24)).cell? ⟨bn, 3, none⟩ = some V := (HRb.out.ns.alloc1 _).cell 3
          have w4 : IntKind.i64.wrap (36 + 16 * (i : Int)) = 36 + 16 * (i : Int) := IntWalk.i64_in _ (by omega)
          have b6 : (0 : Int) ≤ 28 + 16 * (i : Int) := by omega
          have b7 : (28 + 16 * (i : Int)) ≤ 36 + 16 * (i : Int) := by omega
          have b8 : (36 + 16 * (i : Int)) ≤ 256 := by omega
          have b9 : (36 + 16 * (i : Int)).toNat = 36 + 16 * i := by omega
          have n3 : ¬ 256 = 28 + 16 * i := by omega
          have n4 : 36 + 16 * i - (28 + 16 * i) = 8 := by omega
          go_upto_region 6 with fail
          go_region_law (first
            | (go_simp; go_at_call 43; (with_reducible refine HN1.out.mono ?_); rintro e wa ⟨rfl, rfl⟩; have HRa := Lib.hid HRb.out.drew)
            | (refine step_append_lies _ (by rfl) (.tmp 39) (.tmp 48) 25 (by rfl) (bn + 1) 24 i0 (.int .u64 0) 1 8 Tryd.underlying25 hi0 hz0 hz1 hz2 rfl (by omega) V vs.length (nums64 vs) (by rfl) (HRa.out.ns.ov.alloc _) ⟨wc.drew.heap.size, 0, none⟩ 1 1 [.int .u64 (x2 : Int)] (by rfl) rfl (World.news_of_block (heap_alloc_new wc.drew _)) (by simp [Value.oneCell']) (by omega) (by unfold maxLen; omega) (by omega) (by have := HRa.out.ns.bs; simp at this ⊢; omega) (wc.drew.heap.size + 1) (by simp) ?_; intro g2 cap2 wb2 hown hgrow hat hltg; obtain ⟨hcB, hfB, HRc⟩ := HRa.out.app3 x2 _ _ g2 cap2 wb2 hown hgrow hat)
            | fail)
          all_goals
            clear HN1 hS0 hS1 hown hgrow hat hltg hcB hfB HRa w1 w2 w3 w4 b1 b2 b3 b4 b5 b6 b7 b8 b9 n1 n2 n3 n4
            go_wp2
            go_roundw
            case rel => exact ⟨i + 1, by omega, by go_num, _, _, by rw [HE1.out, HE2.out]; exact HRc⟩
            case measure => simp [intOf]; omega
      · obtain ⟨A, ck, hK, _⟩ := own_form4 HR.out.ns.ok
        obtain ⟨A', cv, hV, _⟩ := own_form4 HR.out.ns.ov
        subst hK hV
        have HKL := Lib.hid (keysOf_length l i)
        have HVL := Lib.hid (valsOf_length l i)
        have hQ := HR.out
        have HSA := Lib.hid (Shows.owned hQ.ns.ok)
        have HSB := Lib.hid (Shows.owned hQ.ns.ov)
        rw [HKL.out, HVL.out] at hQ
        have HQ := Lib.hid hQ
        have HS0 := Lib.hid (hQ.drew.ss HL.out m HM.out)
        have HRD : Hid (readB l i = ⟨kd, at8 l 12, keysOf l i, valsOf l i⟩) := (by rw [← HK4.out]; rfl : readB l i = ⟨kd, at8 l 12, keysOf l i, valsOf l i⟩)
        have hmay := rmay_any wr.drew kd (at8 l 12) (keysOf l i) (valsOf l i) A A' ck cv (HSA.out.on (Below.refl _ _).drew)
        rw [← HRD.out, HBI.out, HKL.out, HVL.out] at hmay
        have HMAY : Hid (Calls Tryd.prog 11 #[.agg #[.int .i64 kd, .int .u64 bi, .slice A i ck, .slice A' i cv]] wr.drew fun e w' => e = .returned (.bool (mayB (readB l i))) ∧ (w'.cell? ⟨bn, 0, none⟩ = some (.int .i64 kd) ∧ w'.cell? ⟨bn, 1, none⟩ = some (.int .u64 bi) ∧ w'.cell? ⟨bn, 2, none⟩ = some (.slice A i ck) ∧ w'.cell? ⟨bn, 3, none⟩ = some (.slice A' i cv) ∧ w'.cell? ⟨w.heap.size, 5, none⟩ = some (.int .u8 (m : Int)) ∧ w'.rangeAt w.heap.size 0 (cells8 l)) ∧ Hid (Below wr.heap.size wr w')) := hmay.mono fun e w' hp => by
          have hb : Below wr.heap.size wr w' := (Below.refl wr.heap.size wr).drew.trans hp.2
          exact ⟨hp.1, (hQ.on hb).ss HL.out m HM.out, hb⟩
        clear hmay hQ
        have hlt2 : m ≤ i ∨ 6 ≤ i := by omega
        have hu := Tryd.underlying29
        have z1 := blk_size' l HL.out
        by_cases hr : mayB (readB l i) = true
        · by_cases hm6 : m ≤ 6
          · obtain rfl : i = m := by omega
            have HO : Hid (ofB no l = pickO (img no (readB l i) == l) (readB l i)) := (show ofB no l = pickO (img no (readB l i) == l) (readB l i) by
              have hmi : manyB l = i := HM.out
              unfold ofB
              rw [hmi]
              by_cases hi : img no (readB l i) = l
              · rw [if_pos ⟨hm6, hr, hi⟩, show (img no (readB l i) == l) = true by simpa using hi]; rfl
              · rw [if_neg (fun h => hi h.2.2), show (img no (readB l i) == l) = false by simpa using hi]; rfl)
            have hltI : ¬ (i : Int) < (i : Int) := by omega
            have hmw : IntKind.i64.wrap (i : Int) = (i : Int) := IntWalk.i64_in _ (by omega)
            have hm6I : (i : Int) ≤ 6 := by omega
            have hm6N : ¬ (6 : Int) < (i : Int) := by omega
            have hm6D : decide ((6 : Int) < (i : Int)) = false := decide_eq_false hm6N
            have hil := img_length no (readB l i) (by show (keysOf l i).length ≤ 6; rw [keysOf_length]; exact hm6)
            have hneq := fun w => neq_blk (img no (readB l i)) l hil HL.out w
            have HBLK : Hid (∀ W, Below wr.heap.size wr W → Calls Tryd.prog 13 #[.int .u32 no, .agg #[.int .i64 kd, .int .u64 bi, .slice A i ck, .slice A' i cv]] W fun e w' => e = .returned (.agg (cells8 (img no (readB l i))).toArray) ∧ (w'.cell? ⟨bn, 0, none⟩ = some (.int .i64 kd) ∧ w'.cell? ⟨bn, 1, none⟩ = some (.int .u64 bi) ∧ w'.cell? ⟨bn, 2, none⟩ = some (.slice A i ck) ∧ w'.cell? ⟨bn, 3, none⟩ = some (.slice A' i cv) ∧ w'.cell? ⟨w.heap.size, 5, none⟩ = some (.int .u8 (i : Int)) ∧ w'.rangeAt w.heap.size 0 (cells8 l)) ∧ Hid (Below wr.heap.size wr w')) := fun W hW => by
              have hk : (readB l i).kind = kd := by rw [HRD.out]
              have hk2 : (readB l i).keys.length = i := keysOf_length l i
              have hk3 : (readB l i).vals.length = i := valsOf_length l i
              have h := rblock_any W no hno (readB l i) hr (fits_read l HL.out i hm6) A A' ck cv (HSA.out.on hW) (HSB.out.on hW)
              have hk4 : (((readB l i).birth : Nat) : Int) = bi := HBI.out
              rw [hk, hk2, hk3, hk4] at h
              refine h.mono fun e w' hp => ?_
              have hb : Below wr.heap.size wr w' := hW.trans (hp.2.mono hW.size)
              exact ⟨hp.1, (HQ.out.on hb).ss HL.out i HM.out, hb⟩
            rw [hr] at HMAY
            clear hr hm6 HR hil
            generalize hI : img no (readB l i) = I at *
            have HI := Lib.hid hI
            clear hI
            generalize (I == l) = r at *
            go_upto_region 7 with fail
            cases r with
            | true =>
              have hneq2 : ∀ (w : World), (binOp .neq 29 (.agg (cells8 I).toArray) (.agg (cells8 l).toArray)).run Tryd.prog w = .ok (.bool false) w := hneq
              clear hneq
              first | go_region_held3 (fun w' => w'.cell? ⟨bn, 0, none⟩ = some (.int .i64 kd) ∧ w'.cell? ⟨bn, 1, none⟩ = some (.int .u64 bi) ∧ w'.cell? ⟨bn, 2, none⟩ = some (.slice A i ck) ∧ w'.cell? ⟨bn, 3, none⟩ = some (.slice A' i cv) ∧ w'.cell? ⟨w.heap.size, 5, none⟩ = some (.int .u8 (i : Int)) ∧ w'.rangeAt w.heap.size 0 (cells8 l))
                (first | with_reducible exact HS0.out | with_reducible exact hSb | with_reducible exact hSa)
                (first
                  | (go_at_call 11; (with_reducible refine HMAY.out.mono ?_); rintro e wa ⟨rfl, hSa, hba⟩)
                  | (go_at_call 13; (with_reducible refine (HBLK.out _ hba.out).mono ?_); rintro e wb ⟨rfl, hSb, hbb⟩)) | fail
              all_goals -- both
                have HQ3 := Lib.hid (HQ.out.on hbb.out)
                have hrc : w.heap.size ≤ rc := by have := HQ.out.n1; omega
                go_wp2_with (first
                  | refine wpList_load_row rfl 27 (.tmp 6) rfl bn rfl 27 #[.int .i64 kd, .int .u64 bi, .slice A i ck, .slice A' i cv] (0, 0) _ HQ3.out.ns.node Tryd.underlying27 rfl (by rw [node_size]; rfl) ?_
                  | refine wpList_store_row rfl 27 (.tmp 4) (.tmp 68) rfl rc #[.int .i64 kd, .int .u64 bi, .slice A i ck, .slice A' i cv] rfl rfl 27 #[.int .i64 0, .int .u64 0, .slice none 0 0, .slice none 0 0] HQ3.out.res (by rw [node_size]; rfl) rfl (by simp [Value.oneCell']) ?_
                  | fail)
                refine bodyPost_ret (results_cell_tmp rfl _ _ rc 27 #[.int .i64 kd, .int .u64 bi, .slice A i ck, .slice A' i cv] (0, 0) _ (.bool true) rfl rfl (setRow_heap _ _ _ _ _ _ HQ3.out.res) Tryd.underlying27 rfl (by rw [node_size]; rfl)) rfl ?_
                have hg := grown_row wb rc #[.int .i64 kd, .int .u64 bi, .slice A i ck, .slice A' i cv]
                have ho1 := HQ3.out.ns.ok
                have ho2 := HQ3.out.ns.ov
                have hs1 := Shows.owned (own_len HKL.out (ho1.kept hg (.inr fun e => by have := (ho1.lt _ e).1; have := HQ3.out.n2; omega)))
                have hs2 := Shows.owned (own_len HVL.out (ho2.kept hg (.inr fun e => by have := (ho2.lt _ e).1; have := HQ3.out.n2; omega)))
                rw [HO.out]
                refine ⟨below_setRow HQ3.out.ns.bel hrc _, A, A', ck, cv, ?_, ?_, ?_⟩
                · have hk : (readB l i).kind = kd := by rw [HRD.out]
                  have hk2 : (readB l i).keys.length = i := keysOf_length l i
                  have hk3 : (readB l i).vals.length = i := valsOf_length l i
                  have hk4 : (((readB l i).birth : Nat) : Int) = bi := HBI.out
                  rw [hk, hk2, hk3, hk4]
                · have hk2 : (readB l i).keys.length = i := keysOf_length l i
                  rw [hk2]; exact hs1
                · have hk3 : (readB l i).vals.length = i := valsOf_length l i
                  rw [hk3]; exact hs2
            | false =>
              have hneq2 : ∀ (w : World), (binOp .neq 29 (.agg (cells8 I).toArray) (.agg (cells8 l).toArray)).run Tryd.prog w = .ok (.bool true) w := hneq
              clear hneq
              first | go_region_held3 (fun w' => w'.cell? ⟨bn, 0, none⟩ = some (.int .i64 kd) ∧ w'.cell? ⟨bn, 1, none⟩ = some (.int .u64 bi) ∧ w'.cell? ⟨bn, 2, none⟩ = some (.slice A i ck) ∧ w'.cell? ⟨bn, 3, none⟩ = some (.slice A' i cv) ∧ w'.cell? ⟨w.heap.size, 5, none⟩ = some (.int .u8 (i : Int)) ∧ w'.rangeAt w.heap.size 0 (cells8 l))
                (first | with_reducible exact HS0.out | with_reducible exact hSb | with_reducible exact hSa)
                (first
                  | (go_at_call 11; (with_reducible refine HMAY.out.mono ?_); rintro e wa ⟨rfl, hSa, hba⟩)
                  | (go_at_call 13; (with_reducible refine (HBLK.out _ hba.out).mono ?_); rintro e wb ⟨rfl, hSb, hbb⟩)) | fail
              all_goals -- both
                have HRES := Lib.hid (HQ.out.on hbb.out).res
                have HBEL := Lib.hid (HQ.out.on hbb.out).ns.bel
                have hrc : w.heap.size ≤ rc := by have := HQ.out.n1; omega
                go_wp2_with (first
                  | refine wpList_store_row rfl 27 (.tmp 4) (.tmp 67) rfl rc #[.int .i64 0, .int .u64 0, .slice none 0 0, .slice none 0 0] rfl rfl 27 #[.int .i64 0, .int .u64 0, .slice none 0 0, .slice none 0 0] HRES.out (by rw [node_size]; rfl) rfl (by simp [Value.oneCell']) ?_
                  | fail)
                exact bodyPost_ret (results_cell_tmp rfl _ _ rc 27 #[.int .i64 0, .int .u64 0, .slice none 0 0, .slice none 0 0] (0, 0) _ (.bool false) rfl rfl (setRow_heap _ _ _ _ _ _ HRES.out) Tryd.underlying27 rfl (by rw [node_size]; rfl)) rfl (by rw [HO.out]; exact ⟨below_setRow HBEL.out hrc _, rfl⟩)
          · obtain rfl : i = 6 := by omega
            have HO : Hid (ofB no l = none) := if_neg (fun h => hm6 (by rw [← HM.out]; exact h.1))
            rw [hr] at HMAY
            have hltI : (6 : Int) < (m : Int) := by omega
            have hmw : IntKind.i64.wrap (m : Int) = (m : Int) := IntWalk.i64_in _ (by omega)
            clear hr hm6 HR
            go_upto_region 7 with fail
            obtain ⟨q0, q1, q2, q3, q5, q6⟩ := HS0.out
            clear q6
            first | go_region_with (first
              | (go_at_call 11; (with_reducible refine HMAY.out.mono ?_); rintro e wa ⟨rfl, ⟨p0, p1, p2, p3, p5, p6⟩, hba⟩; clear p6)) | fail
            all_goals
              clear q0 q1 q2 q3 q5
              have HRES := Lib.hid (HQ.out.on hba.out).res
              have HBEL := Lib.hid (HQ.out.on hba.out).ns.bel
              have hrc : w.heap.size ≤ rc := by have := HQ.out.n1; omega
              go_wp2_with (first
                | refine wpList_store_row rfl 27 (.tmp 4) (.tmp 67) rfl rc #[.int .i64 0, .int .u64 0, .slice none 0 0, .slice none 0 0] rfl rfl 27 #[.int .i64 0, .int .u64 0, .slice none 0 0, .slice none 0 0] HRES.out (by rw [node_size]; rfl) rfl (by simp [Value.oneCell']) ?_
                | fail)
              exact bodyPost_ret (results_cell_tmp rfl _ _ rc 27 #[.int .i64 0, .int .u64 0, .slice none 0 0, .slice none 0 0] (0, 0) _ (.bool false) rfl rfl (setRow_heap _ _ _ _ _ _ HRES.out) Tryd.underlying27 rfl (by rw [node_size]; rfl)) rfl (by rw [HO.out]; exact ⟨below_setRow HBEL.out hrc _, rfl⟩)

        · have hr : mayB (readB l i) = false := by simpa using hr
          have HO : Hid (ofB no l = none) := if_neg (fun h => by
            have h6 := h.1
            rw [HM.out] at h6
            have : i = manyB l := by rw [HM.out]; omega
            have h2 := h.2.1
            rw [← this, hr] at h2
            cases h2)
          rw [hr] at HMAY
          clear hr HR
          by_cases hltm : i < m
          · have hltI : (i : Int) < (m : Int) := by omega
            have hltJ : ¬ (i : Int) < 6 := by omega
            go_upto_region 7 with fail
            obtain ⟨q0, q1, q2, q3, q5, q6⟩ := HS0.out
            clear q6
            first | go_region_with (first
              | (go_at_call 11; (with_reducible refine HMAY.out.mono ?_); rintro e wa ⟨rfl, ⟨p0, p1, p2, p3, p5, p6⟩, hba⟩; clear p6)) | fail
            all_goals
              clear q0 q1 q2 q3 q5
              have HRES := Lib.hid (HQ.out.on hba.out).res
              have HBEL := Lib.hid (HQ.out.on hba.out).ns.bel
              have hrc : w.heap.size ≤ rc := by have := HQ.out.n1; omega
              go_wp2_with (first
                | refine wpList_store_row rfl 27 (.tmp 4) (.tmp 67) rfl rc #[.int .i64 0, .int .u64 0, .slice none 0 0, .slice none 0 0] rfl rfl 27 #[.int .i64 0, .int .u64 0, .slice none 0 0, .slice none 0 0] HRES.out (by rw [node_size]; rfl) rfl (by simp [Value.oneCell']) ?_
                | fail)
              exact bodyPost_ret (results_cell_tmp rfl _ _ rc 27 #[.int .i64 0, .int .u64 0, .slice none 0 0, .slice none 0 0] (0, 0) _ (.bool false) rfl rfl (setRow_heap _ _ _ _ _ _ HRES.out) Tryd.underlying27 rfl (by rw [node_size]; rfl)) rfl (by rw [HO.out]; exact ⟨below_setRow HBEL.out hrc _, rfl⟩)

          · have hltI : ¬ (i : Int) < (m : Int) := by omega
            go_upto_region 7 with fail
            obtain ⟨q0, q1, q2, q3, q5, q6⟩ := HS0.out
            clear q6
            first | go_region_with (first
              | (go_at_call 11; (with_reducible refine HMAY.out.mono ?_); rintro e wa ⟨rfl, ⟨p0, p1, p2, p3, p5, p6⟩, hba⟩; clear p6)) | fail
            all_goals
              clear q0 q1 q2 q3 q5
              have HRES := Lib.hid (HQ.out.on hba.out).res
              have HBEL := Lib.hid (HQ.out.on hba.out).ns.bel
              have hrc : w.heap.size ≤ rc := by have := HQ.out.n1; omega
              go_wp2_with (first
                | refine wpList_store_row rfl 27 (.tmp 4) (.tmp 67) rfl rc #[.int .i64 0, .int .u64 0, .slice none 0 0, .slice none 0 0] rfl rfl 27 #[.int .i64 0, .int .u64 0, .slice none 0 0, .slice none 0 0] HRES.out (by rw [node_size]; rfl) rfl (by simp [Value.oneCell']) ?_
                | fail)
              exact bodyPost_ret (results_cell_tmp rfl _ _ rc 27 #[.int .i64 0, .int .u64 0, .slice none 0 0, .slice none 0 0] (0, 0) _ (.bool false) rfl rfl (setRow_heap _ _ _ _ _ _ HRES.out) Tryd.underlying27 rfl (by rw [node_size]; rfl)) rfl (by rw [HO.out]; exact ⟨below_setRow HBEL.out hrc _, rfl⟩)

end Go.Proofs.YtdcfplfeagpcdaaDoor
