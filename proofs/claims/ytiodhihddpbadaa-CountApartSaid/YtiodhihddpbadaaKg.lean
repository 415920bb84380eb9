/- The program's area: Grow. -/
import Derived.Test.YtiodhihddpbadaaKf
namespace Go.Proofs.Ytiodhihddpbadaa
open Go.RowKit

def growS (c : CS) (m : Nat) : CS := { now := c.now ++ List.replicate m 0, was := c.was ++ List.replicate m 0, at_ := c.at_, kept := c.at_ }
theorem made_nz (m : Nat) : (madeCells (Value.cells (.int .u16 0)) m).toList = nz .u16 (List.replicate m 0) := by
  have e : madeCells (Value.cells (.int .u16 0)) m = madeCells #[.int .u16 0] m := rfl
  rw [e, toList_madeCells_one]
  simp [nz]
theorem growS_ok {c : CS} (h : c.ok) (m : Nat) (hm : c.now.length + m ≤ 1000) : (growS c m).ok := by
  have h0 := h.n0
  have hl := h.len
  refine ⟨by simp [growS]; omega, by simp [growS]; omega, by simp [growS]; omega, fun x hx => ?_, fun x hx => ?_, by simp [growS]; have := h.a1; omega, by simp [growS]; have := h.a1; omega⟩
  · simp only [growS, List.mem_append] at hx
    rcases hx with hx | hx
    · exact h.bn x hx
    · rw [List.eq_of_mem_replicate hx]; omega
  · simp only [growS, List.mem_append] at hx
    rcases hx with hx | hx
    · exact h.bw x hx
    · rw [List.eq_of_mem_replicate hx]; omega

section
variable (w : World) (b g0 p0 g1 p1 : Nat) (c : CS)
theorem grow_less (h : AX w b g0 p0 g1 p1 c) (i : Int) (hi : i < (c.now.length : Int)) : Calls Try.prog 25 #[.pointer (some ⟨b, 0, none⟩), .int .i64 i] w fun e w' => e = .returned (.int .i64 2) ∧ w = w' := by
  have HN := Lib.hid (none_any w b g0 p0 g1 p1 c h)
  have HL := Lib.hid (len_any w b g0 p0 g1 p1 c h)
  clear h
  go_enter Try.func25, Try.ntmps25
  go_wp2_with (first
    | (go_at_call 30; refine HN.out.mono ?_; rintro e w' ⟨rfl, rfl⟩)
    | (go_at_call 22; refine HL.out.mono ?_; rintro e w' ⟨rfl, rfl⟩)
    | fail)
  go_ret
  exact ⟨rfl, rfl⟩
theorem grow_more (h : AX w b g0 p0 g1 p1 c) (i : Int) (hi : 1000 < i) : Calls Try.prog 25 #[.pointer (some ⟨b, 0, none⟩), .int .i64 i] w fun e w' => e = .returned (.int .i64 2) ∧ w = w' := by
  have HN := Lib.hid (none_any w b g0 p0 g1 p1 c h)
  have HL := Lib.hid (len_any w b g0 p0 g1 p1 c h)
  have hm := may_any w i
  have e1 : (decide (1 ≤ i) && decide (i ≤ 1000)) = false := by simp; omega
  rw [e1] at hm
  have HM := Lib.hid hm
  have n1 := h.ok.n1
  have t1 : decide (i < (c.now.length : Int)) = false := by simp; omega
  clear h e1 hm
  go_enter Try.func25, Try.ntmps25
  go_wp2_with (first
    | (go_at_call 30; refine HN.out.mono ?_; rintro e w' ⟨rfl, rfl⟩)
    | (go_at_call 22; refine HL.out.mono ?_; rintro e w' ⟨rfl, rfl⟩)
    | (go_at_call 26; refine HM.out.mono ?_; rintro e w' ⟨rfl, rfl⟩)
    | fail)
  go_ret
  exact ⟨rfl, rfl⟩

/-- what the first append, and the store behind it, leave -/
theorem grow_1 {w w1 w2 : World} {b g0 p0 g1 p1 m : Nat} {c : CS} {v2 : Value} (h : AX w b g0 p0 g1 p1 c) (hb : Below w.heap.size w w1) (ho : w2.ownsRow 0 43 1 v2 (c.now.length + m) (nz .u16 c.now ++ nz .u16 (List.replicate m 0))) (hg : Grew w1 w2 (.slice (some ⟨g0, 0, none⟩) c.now.length p0) v2)
    (hm : w1.ownsRow 0 43 1 (.slice (some ⟨w.heap.size, 0, none⟩) m m) m (nz .u16 (List.replicate m 0))) :
    ∃ h0 q0, v2 = .slice (some ⟨h0, 0, none⟩) (c.now.length + m) q0 ∧ (h0 = g0 ∨ w1.heap.size ≤ h0) ∧ w2.heap[b]? = w.heap[b]? ∧
      ∀ w3, w3 = w2.setCell ⟨b, 0, none⟩ v2 → w3.heap[b]? = some (.cells #[.slice (some ⟨h0, 0, none⟩) (c.now.length + m) q0, .slice (some ⟨g1, 0, none⟩) c.now.length p1, .int .i64 (c.at_ : Int), .int .i64 (c.kept : Int)] 46 (0, 0)) ∧
      w3.ownsRow 0 43 1 (.slice (some ⟨h0, 0, none⟩) (c.now.length + m) q0) (c.now.length + m) (nz .u16 (c.now ++ List.replicate m 0)) ∧
      w3.ownsRow 0 43 1 (.slice (some ⟨g1, 0, none⟩) c.now.length p1) c.now.length (nz .u16 c.was) ∧
      w3.ownsRow 0 43 1 (.slice (some ⟨w.heap.size, 0, none⟩) m m) m (nz .u16 (List.replicate m 0)) ∧
      Stays w w3 (foot b g0 g1) ∧ w1.heap.size ≤ w3.heap.size ∧ h0 < w3.heap.size := by
  have n0 := h.ok.n0
  have hh := h.below hb
  obtain ⟨k0, k1⟩ := hh.kb tA
  obtain ⟨h0, q0, rfl, _⟩ := row_slice ho (by omega)
  have hat : h0 = g0 ∨ w1.heap.size ≤ h0 := by
    rcases hg.at_ with e | ⟨g, e, hg⟩
    · injection e with e; exact .inl e
    · injection e with e; exact .inr (by rw [show h0 = g from e]; exact hg)
  have hbb : w2.heap[b]? = w1.heap[b]? := hg.by_.block b hh.lt (fun e => by injection e with e; exact k0 e.symm)
  have hbw : w1.heap[b]? = w.heap[b]? := hb.block _ h.lt
  have hne : h0 ≠ b := by
    rcases hat with e | e
    · rw [e]; exact k0
    · have := hh.lt; omega
  refine ⟨h0, q0, rfl, hat, hbb.trans hbw, ?_⟩
  rintro w3 rfl
  have ho3 : ∀ j, j ≠ b → (w2.setCell ⟨b, 0, none⟩ (.slice (some ⟨h0, 0, none⟩) (c.now.length + m) q0)).heap[j]? = w2.heap[j]? := fun j hj => Below.heap_setCell _ _ _ _ hj
  have hs3 : (w2.setCell ⟨b, 0, none⟩ (.slice (some ⟨h0, 0, none⟩) (c.now.length + m) q0)).heap.size = w2.heap.size := by simp [World.setCell]
  refine ⟨?_, ?_, ?_, ?_, ?_, by rw [hs3]; exact hg.by_.size, by rw [hs3]; exact (ho.lt h0 rfl).2⟩
  · rw [Joins.block_setCell (hbb.trans hh.blk)]; rfl
  · rw [nz_append]
    exact rowS_on ho (fun j e => ho3 j (by injection e with e; exact fun e2 => hne (by rw [show h0 = j from e, e2])))
  · refine rowS_on hh.was (fun j e => ?_)
    injection e with e
    have e' : g1 = j := e
    subst e'
    rw [ho3 g1 k1]
    exact hg.by_.block g1 hh.lt1 (fun e => by injection e with e; exact h.apart e.symm)
  · refine rowS_on hm (fun j e => ?_)
    injection e with e
    have e' : w.heap.size = j := e
    subst e'
    have := h.lt
    have := h.lt0
    rw [ho3 _ (by omega)]
    exact hg.by_.block _ (hm.lt _ rfl).2 (fun e => by injection e with e; have e' : w.heap.size = g0 := e; omega)
  · refine Stays.set ?_ ⟨b, 0, none⟩ (.inl (.inl rfl)) _
    refine (Stays.of_below hb _).grown hg.by_ (fun k hk => ?_)
    injection hk with hk
    exact .inl (.inr (.inl (by rw [show g0 = k from hk])))
theorem made_own {w1 : World} {g m : Nat} (h : w1.ownsRow 0 43 1 (.slice (some ⟨g, 0, none⟩) m m) m (madeCells (Value.cells (.int .u16 0)) (m * 1)).toList) : w1.ownsRow 0 43 1 (.slice (some ⟨g, 0, none⟩) m m) m (nz .u16 (List.replicate m 0)) := by
  rw [← made_nz]
  simpa using h
/-- what the second append, and the stores behind it, leave -/
theorem grow_2 {w w3 w4 : World} {b g0 p0 g1 p1 m h0 q0 s1 : Nat} {c : CS} {v3 : Value} (h : AX w b g0 p0 g1 p1 c) (hw1 : w.heap.size ≤ s1) (hat : h0 = g0 ∨ s1 ≤ h0)
    (H : w3.heap[b]? = some (.cells #[.slice (some ⟨h0, 0, none⟩) (c.now.length + m) q0, .slice (some ⟨g1, 0, none⟩) c.now.length p1, .int .i64 (c.at_ : Int), .int .i64 (c.kept : Int)] 46 (0, 0)) ∧
      w3.ownsRow 0 43 1 (.slice (some ⟨h0, 0, none⟩) (c.now.length + m) q0) (c.now.length + m) (nz .u16 (c.now ++ List.replicate m 0)) ∧
      w3.ownsRow 0 43 1 (.slice (some ⟨g1, 0, none⟩) c.now.length p1) c.now.length (nz .u16 c.was) ∧
      w3.ownsRow 0 43 1 (.slice (some ⟨w.heap.size, 0, none⟩) m m) m (nz .u16 (List.replicate m 0)) ∧
      Stays w w3 (foot b g0 g1) ∧ s1 ≤ w3.heap.size ∧ h0 < w3.heap.size)
    (ho : w4.ownsRow 0 43 1 v3 (c.now.length + m) (nz .u16 c.was ++ nz .u16 (List.replicate m 0))) (hg : Grew w3 w4 (.slice (some ⟨g1, 0, none⟩) c.now.length p1) v3) (hm : c.now.length + m ≤ 1000) :
    ∃ h1 q1, v3 = .slice (some ⟨h1, 0, none⟩) (c.now.length + m) q1 ∧
      w4.heap[b]? = some (.cells #[.slice (some ⟨h0, 0, none⟩) (c.now.length + m) q0, .slice (some ⟨g1, 0, none⟩) c.now.length p1, .int .i64 (c.at_ : Int), .int .i64 (c.kept : Int)] 46 (0, 0)) ∧
      ∀ w5, w5 = w4.setCell ⟨b, 1, none⟩ v3 →
        w5.heap[b]? = some (.cells #[.slice (some ⟨h0, 0, none⟩) (c.now.length + m) q0, .slice (some ⟨h1, 0, none⟩) (c.now.length + m) q1, .int .i64 (c.at_ : Int), .int .i64 (c.kept : Int)] 46 (0, 0)) ∧
        ∀ w6, w6 = w5.setCell ⟨b, 3, none⟩ (.int .i64 (c.at_ : Int)) → AX w6 b h0 q0 h1 q1 (growS c m) ∧ (∀ j, foot b h0 h1 j → foot b g0 g1 j ∨ w.heap.size ≤ j) ∧ Stays w w6 (foot b g0 g1) := by
  obtain ⟨e1, e2, e3, e4, e5, e6, e7⟩ := H
  have n0 := h.ok.n0
  have hl := h.ok.len
  obtain ⟨k0, k1⟩ := h.kb tA
  have hlb := h.lt
  have hl1 := h.lt1
  obtain ⟨h1, q1, rfl, _⟩ := row_slice ho (by omega)
  have hat2 : h1 = g1 ∨ w3.heap.size ≤ h1 := by
    rcases hg.at_ with e | ⟨g, e, hg⟩
    · injection e with e; exact .inl e
    · injection e with e; exact .inr (by rw [show h1 = g from e]; exact hg)
  have hbb : w4.heap[b]? = w3.heap[b]? := hg.by_.block b (by omega) (fun e => by injection e with e; exact k1 e.symm)
  have hap : h0 ≠ h1 := by
    rcases hat2 with e | e
    · rw [e]
      rcases hat with e' | e'
      · rw [e']; exact h.apart
      · omega
    · omega
  have h0b : h0 ≠ b := by
    rcases hat with e | e
    · rw [e]; exact k0
    · omega
  have h1b : h1 ≠ b := by
    rcases hat2 with e | e
    · rw [e]; exact k1
    · omega
  have h0g : h0 ≠ g1 := by
    rcases hat with e | e
    · rw [e]; exact h.apart
    · omega
  refine ⟨h1, q1, rfl, hbb.trans e1, ?_⟩
  rintro w5 rfl
  have b5 : (w4.setCell ⟨b, 1, none⟩ (.slice (some ⟨h1, 0, none⟩) (c.now.length + m) q1)).heap[b]? = some (.cells #[.slice (some ⟨h0, 0, none⟩) (c.now.length + m) q0, .slice (some ⟨h1, 0, none⟩) (c.now.length + m) q1, .int .i64 (c.at_ : Int), .int .i64 (c.kept : Int)] 46 (0, 0)) := by
    rw [Joins.block_setCell (hbb.trans e1)]; rfl
  refine ⟨b5, ?_⟩
  rintro w6 rfl
  have ho6 : ∀ j, j ≠ b → ((w4.setCell ⟨b, 1, none⟩ (.slice (some ⟨h1, 0, none⟩) (c.now.length + m) q1)).setCell ⟨b, 3, none⟩ (.int .i64 (c.at_ : Int))).heap[j]? = w4.heap[j]? := fun j hj => by
    rw [Below.heap_setCell _ _ _ _ hj, Below.heap_setCell _ _ _ _ hj]
  have hnl : (growS c m).now.length = c.now.length + m := by simp [growS]
  refine ⟨⟨?_, ?_, ?_, hap, growS_ok h.ok m hm⟩, ?_, ?_⟩
  · rw [hnl, Joins.block_setCell b5]; rfl
  · rw [hnl]
    refine rowS_on e2 (fun j e => ?_)
    injection e with e
    have e' : h0 = j := e
    subst e'
    rw [ho6 _ h0b]
    exact hg.by_.block _ e7 (fun e => by injection e with e; exact h0g e)
  · rw [hnl]
    have : nz .u16 (growS c m).was = nz .u16 c.was ++ nz .u16 (List.replicate m 0) := by simp [growS, nz_append]
    rw [this]
    refine rowS_on ho (fun j e => ho6 j ?_)
    injection e with e
    have e' : h1 = j := e
    subst e'
    exact h1b
  · rintro j (rfl | rfl | rfl)
    · exact .inl (.inl rfl)
    · rcases hat with e | e
      · exact .inl (.inr (.inl e))
      · exact .inr (by omega)
    · rcases hat2 with e | e
      · exact .inl (.inr (.inr e))
      · exact .inr (by have := e5.size; omega)
  · have h4 : Stays w w4 (foot b g0 g1) := e5.grown hg.by_ (fun k hk => by
      injection hk with hk
      exact .inl (.inr (.inr (by rw [show g1 = k from hk]))))
    exact (h4.set ⟨b, 1, none⟩ (.inl (.inl rfl)) _).set ⟨b, 3, none⟩ (.inl (.inl rfl)) _
set_option maxHeartbeats 1000000 in
theorem grow_any (h : AX w b g0 p0 g1 p1 c) (n m : Nat) (hn : n = c.now.length + m) (hm : n ≤ 1000) : Calls Try.prog 25 #[.pointer (some ⟨b, 0, none⟩), .int .i64 (n : Int)] w fun e w' => e = .returned (.int .i64 0) ∧ ∃ h0 q0 h1 q1, AX w' b h0 q0 h1 q1 (growS c m) ∧ (∀ j, foot b h0 h1 j → foot b g0 g1 j ∨ w.heap.size ≤ j) ∧ Stays w w' (foot b g0 g1) := by
  obtain ⟨i0, hi0, hz0, hz1, hz2⟩ := info_parts u16_info
  have HN := Lib.hid (none_any w b g0 p0 g1 p1 c h)
  have HL := Lib.hid (len_any w b g0 p0 g1 p1 c h)
  have hmay := may_any w (n : Int)
  have n0 := h.ok.n0
  have e1 : (decide (1 ≤ (n : Int)) && decide ((n : Int) ≤ 1000)) = true := by simp; omega
  rw [e1] at hmay
  have HM := Lib.hid hmay
  have t1 : decide ((n : Int) < (c.now.length : Int)) = false := by simp; omega
  have hsub : (n : Int) - (c.now.length : Int) = (m : Int) := by omega
  have HH := Lib.hid h
  have HL0 := Lib.hid h.ok.len
  have n1 := h.ok.n1
  have m1 : c.now.length + m ≤ 1000 := by omega
  have HNM := Lib.hid hn
  clear e1 hmay h hn
  go_enter Try.func25, Try.ntmps25
  go_wp2_with (first
    | (go_at_call 30; refine HN.out.mono ?_; rintro e w' ⟨rfl, rfl⟩)
    | (go_at_call 22; refine HL.out.mono ?_; rintro e w' ⟨rfl, rfl⟩)
    | (go_at_call 26; refine HM.out.mono ?_; rintro e w' ⟨rfl, rfl⟩)
    | (at_make; refine wpList_make_full _ rfl (.tmp 20) (.tmp 20) 22 rfl 0 43 i0 (.int .u16 0) 1 Try.underlying22 hi0 hz0 hz1 .i64 .i64 _ _ m rfl rfl rfl rfl (by rw [hz2]; omega) (by unfold maxLen; omega) (Nat.zero_le _) ?_; intro w1 hown hgrow; have hb1 : Below w.heap.size w w1 := (Below.refl _ _).grown hgrow (Nat.le_refl _) (fun k hk => by cases hk); have hA1 := HH.out.below hb1; have c0 := hA1.c0; have HA1 := Lib.hid hA1; have HB1 := Lib.hid hb1; have HOWN1 := Lib.hid (made_own hown); clear hA1 hb1 hown hgrow)
    | (at_builtin; refine wpList_append_shows _ rfl (.tmp 26) (.tmp 27) 22 rfl 0 43 i0 (.int .u16 0) 2 Try.underlying22 hi0 hz0 hz1 hz2 rfl _ c.now.length (nz .u16 c.now) rfl HA1.out.now w1.heap.size _ m m (nz .u16 (List.replicate m 0)) rfl (row_shows HOWN1.out) (nz_one _ _) (by unfold maxLen; omega) (by omega) (Nat.zero_le _) ?_; intro v2 w2 ho2 hg2; obtain ⟨h0, q0, rfl, hat, hbk, h3⟩ := grow_1 HH.out HB1.out ho2 hg2 HOWN1.out; have cb2 : w2.heap[b]? = _ := hbk.trans HH.out.blk; have cc0 := Joins.cell_of_block cb2 0; have ff0 := Joins.unfrozen_of_block cb2 0; obtain ⟨k1, k2, k3, k4, k5, k6, k7⟩ := h3 _ rfl; have cc1 := Joins.cell_of_block k1 1; have H3 := Lib.hid (And.intro k1 (And.intro k2 (And.intro k3 (And.intro k4 (And.intro k5 (And.intro k6 k7)))))); have HAT := Lib.hid hat; clear k1 k2 k3 k4 k5 k6 k7 h3 hat ho2 hg2 hbk cb2)
    | (at_builtin; refine wpList_append_shows _ rfl (.tmp 35) (.tmp 36) 22 rfl 0 43 i0 (.int .u16 0) 2 Try.underlying22 hi0 hz0 hz1 hz2 rfl _ c.now.length (nz .u16 c.was) rfl H3.out.2.2.1 (w2.setCell ⟨b, 0, none⟩ (.slice (some ⟨h0, 0, none⟩) (c.now.length + m) q0)).heap.size _ m m (nz .u16 (List.replicate m 0)) rfl (row_shows H3.out.2.2.2.1) (nz_one _ _) (by unfold maxLen; omega) (by omega) (Nat.zero_le _) ?_; intro v3 w4 ho4 hg4; obtain ⟨h1, q1, rfl, hb4, h5⟩ := grow_2 HH.out HB1.out.size HAT.out H3.out ho4 hg4 (by omega); have cc4 := Joins.cell_of_block hb4 1; have ff4 := Joins.unfrozen_of_block hb4 1; obtain ⟨k1, h6⟩ := h5 _ rfl; have cc5 := Joins.cell_of_block k1 2; have cc6 := Joins.cell_of_block k1 3; have ff6 := Joins.unfrozen_of_block k1 3; have H6 := Lib.hid (h6 _ rfl); clear k1 h6 h5 hb4 ho4 hg4)
    | fail)
  go_ret
  exact ⟨rfl, h0, q0, h1, q1, H6.out⟩
end
end Go.Proofs.Ytiodhihddpbadaa
