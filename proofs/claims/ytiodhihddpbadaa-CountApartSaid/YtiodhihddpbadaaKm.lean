/- The law's begin. -/
import Derived.Test.YtiodhihddpbadaaKl
namespace Go.Proofs.Ytiodhihddpbadaa
open Go.RowKit

theorem rarea_zero (w : World) : (zeroValue 41).run Try.prog w = .ok (.agg #[.slice none 0 0, .slice none 0 0, .int .i64 0, .int .i64 0]) w := by kernel_rfl
/-- the document's area while it is begun: its counts so far -/
structure RB (w1 W : World) (br : Nat) (V : Value) (l : List Nat) : Prop where
  blk : W.heap[br]? = some (.cells #[V, .slice none 0 0, .int .i64 0, .int .i64 0] 41 (0, 0))
  row : W.ownsRow w1.heap.size 3 1 V l.length (nz .i64 l)
  bel : Below w1.heap.size w1 W
  ge : w1.heap.size ≤ br
theorem RB.drew {w1 W : World} {br : Nat} {V : Value} {l : List Nat} (h : RB w1 W br V l) : RB w1 W.drew br V l := ⟨h.blk, h.row.drew, h.bel.drew, h.ge⟩
theorem RB.vb {w1 W : World} {br : Nat} {V : Value} {l : List Nat} (h : RB w1 W br V l) : V.ownBlock ≠ some br := by
  intro e
  rcases h.row.2 with ⟨rfl, _⟩ | ⟨g, cap, cur, rfl, _, hg, _⟩
  · cases e
  · injection e with e
    have e' : g = br := e
    subst e'
    rw [h.blk] at hg
    injection hg with hg
    injection hg with _ hg
    exact tR hg
theorem RB.alloc {w1 W : World} {br : Nat} {V : Value} {l : List Nat} (h : RB w1 W br V l) (o : Obj) : RB w1 (W.alloc o) br V l :=
  ⟨by rw [Below.heap_alloc W o br (Array.getElem?_eq_some_iff.1 h.blk).1]; exact h.blk, h.row.alloc o, h.bel.alloc h.bel.size o, h.ge⟩
/-- a count more -/
theorem RB.app {w1 W W2 : World} {br : Nat} {V : Value} {l : List Nat} (h : RB w1 W br V l) (x : Nat) (n : Nat) (xs : List Value) (g cap : Nat) (hn : n = l.length + 1) (hxs : xs = nz .i64 l ++ [.int .i64 (x : Int)])
    (ho : W2.ownsRow w1.heap.size 3 1 (.slice (some ⟨g, 0, none⟩) n cap) n xs) (hg : W.grownBy W2 V.ownBlock) :
    W2.cell? ⟨br, 0, none⟩ = some V ∧ W2.frozen? ⟨br, 0, none⟩ = false ∧ Hid (RB w1 (W2.setCell ⟨br, 0, none⟩ (.slice (some ⟨g, 0, none⟩) n cap)) br (.slice (some ⟨g, 0, none⟩) n cap) (l ++ [x])) := by
  subst hn
  subst hxs
  have hlt := (Array.getElem?_eq_some_iff.1 h.blk).1
  have hb2 : W2.heap[br]? = _ := (hg.block br hlt (fun e => h.vb e.symm)).trans h.blk
  have hgb : g ≠ br := by
    intro e
    subst e
    rcases ho.2 with ⟨h', _⟩ | ⟨g', cap', cur, h', _, hh, _⟩
    · cases h'
    · injection h' with h1 _ _
      injection h1 with h1
      injection h1 with h1
      subst h1
      rw [hb2] at hh
      injection hh with hh
      injection hh with _ hh
      exact tR hh
  refine ⟨by rw [Joins.cell_of_block hb2 0]; rfl, Joins.unfrozen_of_block hb2 0, ⟨by rw [Joins.block_setCell hb2]; rfl, ?_, ?_, h.ge⟩⟩
  · rw [nz_append, List.length_append]
    exact rowS_on ho (fun k hk => Below.heap_setCell _ _ _ _ (fun e => hgb (by injection hk with hk; exact (show g = k from hk).trans e)))
  · have hb3 : Below w1.heap.size w1 W2 := h.bel.grown hg h.bel.size (fun k hk => (h.row.lt k hk).1)
    exact hb3.setCell h.ge _
theorem begin_no (w : World) (A : Option Addr) (n cap : Nat) (h : ¬ (1 ≤ n ∧ n ≤ 1000)) : Calls Try.prog 7 #[.slice A n cap] w fun e w' => e = .returned (.tuple #[.pointer none, .pointer none]) ∧ w = w' := by
  have HN := Lib.hid (new_no w A n cap h)
  clear h
  go_enter Try.func7, Try.ntmps7
  go_wp2_with (first
    | (go_at_call 8; (with_reducible refine HN.out.mono ?_); rintro e w1 ⟨rfl, rfl⟩)
    | fail)
  go_ret2
  exact ⟨rfl, rfl⟩
/-- the document's area, begun -/
theorem RB.done {w w1 W W2 : World} {b g0 p0 g1 p1 br g q h1 q1 : Nat} {l : List Nat} (hA : AX w1 b g0 p0 g1 p1 ⟨l, l, 0, 0⟩) (hb1 : Below w.heap.size w w1)
    (h : RB w1 W br (.slice (some ⟨g, 0, none⟩) l.length q) l) (ho : W2.ownsRow 0 3 1 (.slice (some ⟨h1, 0, none⟩) l.length q1) l.length (nz .i64 l)) (hh : W.heap.size ≤ h1) (hb2 : Below W.heap.size W W2) :
    W2.cell? ⟨br, 1, none⟩ = some (.slice none 0 0) ∧ W2.frozen? ⟨br, 1, none⟩ = false ∧
    Hid (AX (W2.setCell ⟨br, 1, none⟩ (.slice (some ⟨h1, 0, none⟩) l.length q1)) b g0 p0 g1 p1 ⟨l, l, 0, 0⟩ ∧ RX (W2.setCell ⟨br, 1, none⟩ (.slice (some ⟨h1, 0, none⟩) l.length q1)) br g q h1 q1 ⟨l, l, 0, 0⟩ ∧ (∀ j, foot br g h1 j → w.heap.size ≤ j) ∧ Below w.heap.size w (W2.setCell ⟨br, 1, none⟩ (.slice (some ⟨h1, 0, none⟩) l.length q1))) := by
  have hlt := (Array.getElem?_eq_some_iff.1 h.blk).1
  have hblk := (hb2.block _ hlt).trans h.blk
  have hs1 := hb1.size
  have hsW := h.bel.size
  have hge := h.ge
  have hglt := h.row.lt g rfl
  have hgb : g ≠ br := fun e => h.vb (by rw [e]; rfl)
  have ho3 : ∀ j, j ≠ br → (W2.setCell ⟨br, 1, none⟩ (.slice (some ⟨h1, 0, none⟩) l.length q1)).heap[j]? = W2.heap[j]? := fun j hj => Below.heap_setCell _ _ _ _ hj
  have hbw : Below w1.heap.size w1 (W2.setCell ⟨br, 1, none⟩ (.slice (some ⟨h1, 0, none⟩) l.length q1)) := (h.bel.trans (hb2.mono hsW)).setCell hge _
  refine ⟨by rw [Joins.cell_of_block hblk 1]; rfl, Joins.unfrozen_of_block hblk 1, hA.below hbw, ⟨by rw [Joins.block_setCell hblk]; rfl, ?_, ?_, by omega, hA.ok⟩, ?_, hb1.trans (hbw.mono hs1)⟩
  · refine own_base0 (rowS_on h.row (fun k hk => ?_))
    injection hk with hk
    have hk' : g = k := hk
    subst hk'
    rw [ho3 g hgb]
    exact hb2.block _ hglt.2
  · refine rowS_on ho (fun k hk => ho3 k ?_)
    injection hk with hk
    have hk' : h1 = k := hk
    omega
  · rintro j (rfl | rfl | rfl)
    · omega
    · omega
    · omega
set_option maxRecDepth 20000 in
set_option maxHeartbeats 2000000 in
theorem begin_any (w : World) (B : Nat) (A : Option Addr) (l : List Nat) (cap : Nat) (hs : Shows w B A l.length (nz .u16 l)) (h0 : 1 ≤ l.length ∧ l.length ≤ 1000) (hB : B ≤ w.heap.size) (h16 : ∀ x ∈ l, x ≤ 65535) :
    Calls Try.prog 7 #[.slice A l.length cap] w fun e w' => ∃ b g0 p0 g1 p1 br h0 q0 h1 q1, e = .returned (.tuple #[.pointer (some ⟨b, 0, none⟩), .pointer (some ⟨br, 0, none⟩)]) ∧
      AX w' b g0 p0 g1 p1 ⟨l, l, 0, 0⟩ ∧ RX w' br h0 q0 h1 q1 ⟨l, l, 0, 0⟩ ∧ (∀ j, foot b g0 g1 j → w.heap.size ≤ j) ∧ (∀ j, foot br h0 h1 j → w.heap.size ≤ j) ∧ Below w.heap.size w w' := by
  obtain ⟨i0, hi0, hz0, hz1, hz2⟩ := info_parts int_info
  have hzero := rarea_zero
  have HN := Lib.hid (new_any w B A l cap hs h0 hB h16)
  obtain ⟨p, rfl, hpb, hp⟩ := hs.lies (by omega)
  have HPC : Hid (∀ W, Below w.heap.size w W → ∀ i, i < l.length → W.cell? (p.add i) = some (.int .u16 (l.getD i 0 : Int))) := fun W hb i hi => by
    rw [hb.cell (by rw [addr_block]; omega)]
    exact hp i _ (nz_get .u16 l i hi)
  have H16 := Lib.hid h16
  have HSB := Lib.hid hB
  have hl1 := h0.1
  have hl2 := h0.2
  clear hs hp h16 h0
  go_enter Try.func7, Try.ntmps7
  go_wp2_with (first
    | (go_at_call 8; (with_reducible refine HN.out.mono ?_); rintro e w1 ⟨b, g0, p0, g1, p1, rfl, hA, hf, hb1⟩; have HA := Lib.hid hA; have HF := Lib.hid hf; have HB1 := Lib.hid hb1; clear hA hf hb1)
    | fail)
  have HR0 : Hid (RB w1 (w1.alloc (.cells #[.slice none 0 0, .slice none 0 0, .int .i64 0, .int .i64 0] 41)) w1.heap.size (.slice none 0 0) []) := Lib.hid ⟨heap_alloc_new w1 _, World.ownsRow_nil _ _ _ _, (Below.refl _ _).alloc (Nat.le_refl _) _, Nat.le_refl _⟩
  go_loopw [7] (fun j wr => ∃ (i : Nat) (V : Value), i ≤ l.length ∧ j = .int .i64 (i : Int) ∧ Hid (RB w1 wr w1.heap.size V (l.take i))) (fun j _ => l.length - (intOf j).toNat)
  case atStart => exact ⟨0, _, Nat.zero_le _, rfl, HR0.out⟩
  case round =>
    obtain ⟨i, V, hi, rfl, HR⟩ := hrel
    by_cases hlt : i < l.length
    · have hltI : (i : Int) < (l.length : Int) := by omega
      have hbw := HB1.out.trans (HR.out.bel.mono HB1.out.size)
      have e0 := HPC.out wr.drew hbw.drew i hlt
      have e0' : ∀ o, (wr.drew.alloc o).cell? (p.add i) = some (.int .u16 (l.getD i 0 : Int)) := fun o => HPC.out _ (hbw.drew.alloc hbw.drew.size o) i hlt
      have d0 : wr.drew.cell? ⟨w1.heap.size, 0, none⟩ = some V := by rw [Joins.cell_of_block HR.out.drew.blk 0]; rfl
      have d0' : ∀ o, (wr.drew.alloc o).cell? ⟨w1.heap.size, 0, none⟩ = some V := fun o => by rw [Joins.cell_of_block (HR.out.drew.alloc o).blk 0]; rfl
      have e1 : (wr.alloc (.cells #[.int .i64 (l.getD i 0 : Int)] 3)).cell? (p.add i) = some (.int .u16 (l.getD i 0 : Int)) := e0' _
      have d1 : (wr.alloc (.cells #[.int .i64 (l.getD i 0 : Int)] 3)).cell? ⟨w1.heap.size, 0, none⟩ = some V := d0' _
      clear e0' d0'
      have hx : l.getD i 0 ≤ 65535 := getD_mem _ _ _ H16.out
      have htk : l.take (i + 1) = l.take i ++ [l.getD i 0] := by
        rw [List.take_succ_eq_append_getElem hlt]; simp [List.getD, hlt]
      have HTK := Lib.hid htk
      have hln : (l.take i).length = i := by rw [List.length_take]; omega
      clear htk hbw
      generalize l.getD i 0 = x at *
      have hw : IntKind.i64.wrap (x : Int) = (x : Int) := by rw [IntKind.wrap_i64]; omega
      go_wp2_with fail
      go_region_law (first
        | (refine step_append_lies _ (by rfl) (.tmp 27) (.tmp 33) 38 (by rfl) w1.heap.size 3 i0 (.int .i64 0) 1 8 Try.underlying38 hi0 hz0 hz1 hz2 rfl (by omega) V i (nz .i64 (l.take i)) (by rfl) (by have := (HR.out.drew.alloc (.cells #[.int .i64 (x : Int)] 3)).row; rw [hln] at this; exact this) ⟨wr.drew.heap.size, 0, none⟩ 1 1 [.int .i64 (x : Int)] (by rfl) rfl (World.news_of_block (heap_alloc_new wr.drew _)) (by simp [Value.oneCell']) (by omega) (by unfold maxLen; omega) (by omega) (by have := HR.out.bel.size; simp; omega) (wr.drew.heap.size + 1) (by simp) ?_; intro g cap2 wb hown hgrow hat hltg; obtain ⟨hcB, hfB, HRN⟩ := (HR.out.drew.alloc (.cells #[.int .i64 (x : Int)] 3)).app x _ _ g cap2 (by rw [hln]) rfl hown hgrow)
        | fail)
      all_goals go_wp2
      all_goals exact ⟨⟨i + 1, _, hlt, by go_num, by rw [HTK.out]; exact HRN.out⟩, by simp [intOf]; omega⟩
    · obtain rfl : i = l.length := by omega
      have hR := HR.out
      rw [List.take_length] at hR
      obtain ⟨g, q, rfl, hgg⟩ := row_slice hR.row (by omega)
      have d0 : wr.cell? ⟨w1.heap.size, 0, none⟩ = some (.slice (some ⟨g, 0, none⟩) l.length q) := by rw [Joins.cell_of_block hR.blk 0]; rfl
      have HCL := Lib.hid (rclone_any wr wr.heap.size ⟨g, 0, none⟩ l q (by omega) (by omega) (Shows.owned hR.row))
      have HRR := Lib.hid hR
      clear hR HR
      go_wp2_with (first
        | (go_at_call 12; (with_reducible refine HCL.out.mono ?_); rintro e w4 ⟨h1, q1, rfl, ho, hh, _, hb4⟩; obtain ⟨hc1, hf1, HE⟩ := RB.done HA.out HB1.out HRR.out ho hh hb4; clear ho hh hb4)
        | fail)
      go_ret2
      exact ⟨b, g0, p0, g1, p1, _, g, q, h1, q1, rfl, HE.out.1, HE.out.2.1, HF.out, HE.out.2.2.1, HE.out.2.2.2⟩
end Go.Proofs.Ytiodhihddpbadaa
