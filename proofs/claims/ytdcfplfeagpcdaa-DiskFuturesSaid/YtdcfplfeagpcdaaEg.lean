/- The program's disk: Grow. -/
import Derived.Test.YtdcfplfeagpcdaaEf
namespace Go.Proofs.Ytdcfplfeagpcdaa
open Go.RowKit

def moreX (n : Nat) (X : Nat → Value) (i : Nat) : Value := if i < n then X i else nilS
theorem more_at (s : List (List UInt8)) (k i : Nat) (hi : i < (s ++ List.replicate k [0]).length) : (∃ h : i < s.length, (s ++ List.replicate k [0])[i] = s[i]) ∨ (¬ i < s.length ∧ (s ++ List.replicate k [0])[i] = [0]) := by
  by_cases h : i < s.length
  · exact .inl ⟨h, List.getElem_append_left h⟩
  · refine .inr ⟨h, ?_⟩
    rw [List.getElem_append_right (by omega), List.getElem_replicate]
theorem PMap.more {w : World} {m : Nat} {s : List (List UInt8)} {D : DataW Value} {X : Nat → Value} (h : PMap w m s D X) (k : Nat) : PMap w m (s ++ List.replicate k [0]) D (moreX s.length X) := by
  have hlen : (s ++ List.replicate k [(0 : UInt8)]).length = s.length + k := by simp
  have hno : ∀ i, ¬ i < s.length → Maps.has D (key i) = false := by
    intro i hi
    cases hh : Maps.has D (key i) with
    | false => rfl
    | true =>
      obtain ⟨j, hj, e⟩ := h.dom _ hh
      have := key_inj e
      omega
  refine ⟨h.own.mono (by omega), fun kl hk => ?_, fun i hi => ?_, fun i hi => ?_, fun i hi => ?_, fun i hi => ?_, fun i j hi hj hij g hg => ?_⟩
  · obtain ⟨i, hi, e⟩ := h.dom kl hk
    exact ⟨i, by omega, e⟩
  · rcases more_at s k i hi with ⟨h1, e⟩ | ⟨h1, e⟩
    · rw [e]; exact h.has_ i h1
    · rw [e, hno i h1]; rfl
  · unfold moreX
    by_cases h1 : i < s.length
    · rw [if_pos h1]; exact h.at_ i h1
    · rw [if_neg h1]; exact Maps.atKey_of_not_has (hno i h1) _
  · rcases more_at s k i hi with ⟨h1, e⟩ | ⟨h1, e⟩
    · rw [e]; exact h.pos i h1
    · rw [e]; simp
  · unfold moreX
    rcases more_at s k i hi with ⟨h1, e⟩ | ⟨h1, e⟩
    · rw [if_pos h1, e]; exact h.row i h1
    · rw [if_neg h1, e]; exact World.ownsRow_nil _ _ _ _
  · unfold moreX at hg ⊢
    by_cases h1 : i < s.length
    · rw [if_pos h1] at hg
      by_cases h2 : j < s.length
      · rw [if_pos h2]; exact h.apart i j h1 h2 hij g hg
      · rw [if_neg h2]; intro e; cases e
    · rw [if_neg h1] at hg; cases hg

theorem append_none {P : Program} (w : World) (t tn ty e : TypeId) (i : TypeInfo) (kn : IntKind) (ht : P.underlying t = some (.slice e)) (htn : P.underlying tn = some (.int kn)) (hi : P.info? e = some i) (a : Addr) (n c : Nat) (hn : n ≤ c) (hn2 : n ≤ 9223372036854775807) :
    (Builtin.append_ #[t, tn] ty #[.slice (some a) n c, .int .i64 0]).run P w = .ok (.slice (some a) n c) w := by
  have h63' : ¬ (9223372036854775807 < (n : Int)) := by omega
  have hw : IntKind.i64.wrap 0 = 0 := IntWalk.i64_in _ (by omega)
  simp [Builtin.append_, run_underlying ht, run_underlying htn, sizeOf, typeInfo, hi, asInt, asIntOf, hn, storeCells, hw]

theorem PDisk.grow {w w1 : World} {b m k : Nat} {D : DataW Value} {X : Nat → Value} {d : RD} {L L' : Value} (h : PDisk w b L m D X d) (hb : Below w.heap.size w w1) (hL : LRow w1 L' (d.s.map (·.headD 0) ++ List.replicate k 0)) (ho : L'.ownBlock = L.ownBlock ∨ ∃ g, L'.ownBlock = some g ∧ w.heap.size ≤ g) (h8 : d.s.length + k ≤ 8192) :
    PDisk (w1.setCell ⟨b, 0, none⟩ L') b L' m D (moreX d.s.length X) (moreD d k) ∧ Stays w (w1.setCell ⟨b, 0, none⟩ L') (· = b) := by
  have h1 := h.below hb
  have hne : ∀ g, L'.ownBlock = some g → g ≠ b := by
    intro g hg e
    obtain ⟨cs, hc⟩ := hL.kind hg
    rw [e, h1.disk] at hc
    injection hc with hc
    injection hc with _ hc
    exact ptypes hc
  have hw : ∀ j, j ≠ b → (w1.setCell ⟨b, 0, none⟩ L').heap[j]? = w1.heap[j]? := fun j hj => Below.heap_setCell _ _ _ _ hj
  have hl : (moreD d k).s.length = d.s.length + k := moreD_len d k
  refine ⟨⟨?_, ?_, ?_, ?_, ?_, ?_, h.fz⟩, ?_⟩
  · rw [Joins.block_setCell h1.disk]; rfl
  · have e : (moreD d k).s.map (·.headD 0) = d.s.map (·.headD 0) ++ List.replicate k 0 := by simp [moreD]
    rw [e]
    exact hL.on (fun j hj => hw j (hne j hj))
  · have hm := h1.map.more k
    exact hm.on (hw m h1.b_m) (fun i hi j hj => hw j (fun e => by
      unfold moreX at hj
      by_cases h2 : i < d.s.length
      · rw [if_pos h2] at hj; exact h1.b_row (h1.map.row i h2) (by rw [hj, e])
      · rw [if_neg h2] at hj; cases hj))
  · intro i hi j hj
    unfold moreX at hj
    by_cases h2 : i < d.s.length
    · rw [if_pos h2] at hj
      rcases ho with e | ⟨g, e, hg⟩
      · rw [e]; exact h.off i h2 j hj
      · rw [e]
        intro e2
        injection e2 with e2
        have := (h.kind (.inr (.inr (.inr ⟨i, h2, hj⟩)))).lt
        omega
    · rw [if_neg h2] at hj; cases hj
  · rw [hl]; have := h.n0; omega
  · rw [hl]; exact h8
  · exact (Stays.of_below hb (· = b)).set ⟨b, 0, none⟩ (.inl rfl) _

set_option maxHeartbeats 1000000 in
theorem pgrow_no (w : World) (b m : Nat) (L : Value) (D : DataW Value) (X : Nat → Value) (d : RD) (h : PDisk w b L m D X d) (n : Int) (hn : n < (d.s.length : Int) ∨ 8192 < n) :
    Calls Try.prog 37 #[.pointer (some ⟨b, 0, none⟩), .int .i64 n] w fun e w' => e = .returned (.int .i64 2) ∧ w = w' := by
  have HN := Lib.hid (none_any w b m L D X d h)
  have c0 := h.c0
  obtain ⟨g, cap, cur, rfl, _⟩ := h.form
  clear h
  by_cases h1 : n < (d.s.length : Int)
  · clear hn
    go_enter Try.func37, Try.ntmps37
    go_wp2_with (go_at_call 29; refine HN.out.mono ?_; rintro e w' ⟨rfl, rfl⟩)
    go_ret
    exact ⟨rfl, rfl⟩
  · have h2 : 8192 < n := by omega
    clear hn
    go_enter Try.func37, Try.ntmps37
    go_wp2_with (go_at_call 29; refine HN.out.mono ?_; rintro e w' ⟨rfl, rfl⟩)
    go_ret
    exact ⟨rfl, rfl⟩
set_option maxHeartbeats 1000000 in
theorem pgrow_dead (w : World) (b m : Nat) (L : Value) (D : DataW Value) (X : Nat → Value) (d : RD) (h : PDisk w b L m D X d) (n : Int) (hn : (d.s.length : Int) ≤ n) (h8 : n ≤ 8192) (hd : d.dead = true) :
    Calls Try.prog 37 #[.pointer (some ⟨b, 0, none⟩), .int .i64 n] w fun e w' => e = .returned (.int .i64 10) ∧ w = w' := by
  have HN := Lib.hid (none_any w b m L D X d h)
  have c0 := h.c0
  have c4 := h.c4
  rw [hd] at c4
  obtain ⟨g, cap, cur, rfl, _⟩ := h.form
  have t1 : decide (n < (d.s.length : Int)) = false := by simp; omega
  have t2 : decide (8192 < n) = false := by simp; omega
  clear h hd
  go_enter Try.func37, Try.ntmps37
  go_wp2_with (go_at_call 29; refine HN.out.mono ?_; rintro e w' ⟨rfl, rfl⟩)
  go_ret
  exact ⟨rfl, rfl⟩

/-- what the append leaves -/
theorem grow_run {w : World} {b m : Nat} {L : Value} {D : DataW Value} {X : Nat → Value} {d : RD} (h : PDisk w b L m D X d) (g cap : Nat) (hL : L = .slice (some ⟨g, 0, none⟩) d.s.length cap) (k : Nat) (h8 : d.s.length + k ≤ 8192) (ty : TypeId) :
    ∃ L' w1, (Builtin.append_ #[66, 3] ty #[.slice (some ⟨g, 0, none⟩) d.s.length d.s.length, .int .i64 (k : Int)]).run Try.prog w = .ok L' w1 ∧ Below w.heap.size w w1 ∧ LRow w1 L' (d.s.map (·.headD 0) ++ List.replicate k 0) ∧ (L'.ownBlock = L.ownBlock ∨ ∃ g, L'.ownBlock = some g ∧ w.heap.size ≤ g) := by
  obtain ⟨i0, hi, hz0, hz1, hz2⟩ := info_parts sector_info
  obtain ⟨g', cap', cur, hL', hg, hc1, hc2, hc3, hc4⟩ := h.form
  rw [hL] at hL'
  injection hL' with e1 e2 e3
  injection e1 with e1
  injection e1 with e1
  subst e1
  rcases Nat.eq_zero_or_pos k with rfl | hk
  · refine ⟨_, _, append_none w _ _ ty 38 i0 .i64 Try.underlying66 Try.underlying3 hi ⟨g, 0, none⟩ _ _ (Nat.le_refl _) (by omega), Below.refl _ _, ?_, .inl (by rw [hL]; rfl)⟩
    rw [List.replicate_zero, List.append_nil]
    exact ⟨g, d.s.length, cur, by rw [List.length_map], hg, by rw [List.length_map]; omega, by unfold maxLen; omega, by rw [List.length_map]; exact hc3, by rw [List.length_map]; exact hc4⟩
  · have hold : (Builtin.firstCells i0.size d.s.length (.slice (some ⟨g, 0, none⟩) d.s.length d.s.length)).run Try.prog w.drew = .ok (secs (d.s.map (·.headD 0))).toArray w.drew := by
      refine run_firstCells_some (P := Try.prog) w.drew i0.size d.s.length ⟨g, 0, none⟩ _ _ _ (by rw [secs_len, List.length_map, hz1]) (fun j v hv => ?_)
      rw [Addr.add_mid, Nat.zero_add]
      show w.cell? _ = _
      rw [cell_of_row w g j cur 38 (0, 0) hg, ← Array.getElem?_toList]
      rw [← hc4, List.getElem?_take] at hv
      split at hv
      · exact hv
      · cases hv
    have hr := Lib.run_append_grow_zeros (P := Try.prog) w 66 3 ty 38 i0 (.agg (sec 0).toArray) .i64 .i64 Try.underlying66 Try.underlying3 hi hz0 (some ⟨g, 0, none⟩) d.s.length d.s.length _ hold k hk (by rw [hz1]; omega) (by omega) (by omega) (by rw [hz2]; omega) (growslice_fits (by omega) (by rw [hz2]; omega))
    refine ⟨_, _, hr, (Below.refl w.heap.size w).drew.alloc (by show w.heap.size ≤ w.heap.size; exact Nat.le_refl _) _, ?_, .inr ⟨w.heap.size, rfl, Nat.le_refl _⟩⟩
    have hll : (d.s.map (·.headD 0) ++ List.replicate k (0 : UInt8)).length = d.s.length + k := by simp
    have hz : (Builtin.zeroCells (Value.agg (sec 0).toArray).cells k).toList = secs (List.replicate k 0) := zeroc_zero k
    have htl : (secs (d.s.map (·.headD 0))).length = d.s.length * 64 := by rw [secs_len, List.length_map]
    have hzl : (secs (List.replicate k 0)).length = k * 64 := by rw [secs_len, List.length_replicate]
    refine ⟨w.heap.size, _, _, by rw [hll], heap_alloc_new w.drew _, by rw [hll]; exact grownCap_ge _ _ _ _, grownCap_le_maxLen _ _ _ _ (by unfold maxLen; omega), ?_, ?_⟩
    · have : (Builtin.zeroCells (Value.agg (sec 0).toArray).cells k).size = k * 64 := by rw [← Array.length_toList, hz, hzl]
      rw [hll, Array.size_append, Array.size_append, List.size_toArray, htl, this]
      omega
    · rw [hll, Array.toList_append, Array.toList_append, hz, List.append_assoc, ← List.append_assoc, ← secs_append]
      rw [show (d.s.length + k) * 64 = (secs (d.s.map (·.headD 0) ++ List.replicate k 0)).length by rw [secs_len, hll]]
      exact List.take_left

set_option maxRecDepth 10000 in
set_option maxHeartbeats 1000000 in
theorem pgrow_any (w : World) (b m : Nat) (L : Value) (D : DataW Value) (X : Nat → Value) (d : RD) (h : PDisk w b L m D X d) (n : Int) (k : Nat) (hn : n = ((d.s.length + k : Nat) : Int)) (h8 : n ≤ 8192) (hd : d.dead = false) :
    Calls Try.prog 37 #[.pointer (some ⟨b, 0, none⟩), .int .i64 n] w fun e w' => e = .returned (.int .i64 0) ∧ ∃ L', PDisk w' b L' m D (moreX d.s.length X) (moreD d k) ∧ (L'.ownBlock = L.ownBlock ∨ ∃ g, L'.ownBlock = some g ∧ w.heap.size ≤ g) ∧ Stays w w' (· = b) := by
  have HN := Lib.hid (none_any w b m L D X d h)
  have c0 := h.c0
  have c4 := h.c4
  rw [hd] at c4
  obtain ⟨g, cap, cur, hL, _, hcap, hmax, _⟩ := h.form
  obtain ⟨L', w1, hrun, hb1, hL1, ho⟩ := grow_run h g cap hL k (by omega) 66
  have hgr := h.grow hb1 hL1 ho (by omega)
  have c10 := (h.below hb1).c0
  have f10 := (h.below hb1).fr 0
  have t1 : decide (n < (d.s.length : Int)) = false := by simp; omega
  have t2 : decide (8192 < n) = false := by simp; omega
  have hsub : IntKind.i64.wrap (n - (d.s.length : Int)) = (k : Int) := by
    rw [show n - (d.s.length : Int) = (k : Int) by omega]
    exact IntWalk.i64_in _ (by omega)
  have HRUN := Lib.hid hrun
  have HGR := Lib.hid hgr
  have HO := Lib.hid ho
  unfold maxLen at hmax
  obtain ⟨gL, cL, _, hLf, _⟩ := hL1
  clear h hd hrun hgr ho hb1
  subst hL
  subst hLf
  have hll : (d.s.map (·.headD 0) ++ List.replicate k (0 : UInt8)).length = d.s.length + k := by simp
  rw [hll] at HRUN HGR HO
  clear hll
  clear hn
  go_enter Try.func37, Try.ntmps37
  go_wp2_with (first
    | (go_at_call 29; refine HN.out.mono ?_; rintro e w' ⟨rfl, rfl⟩)
    | (at_builtin; refine Lib.wpList_append_run _ rfl (.tmp 31) (.tmp 34) 66 3 rfl _ _ rfl rfl _ w1 HRUN.out ?_)
    | fail)
  go_ret
  exact ⟨rfl, _, HGR.out.1, HO.out, HGR.out.2⟩
end Go.Proofs.Ytdcfplfeagpcdaa
