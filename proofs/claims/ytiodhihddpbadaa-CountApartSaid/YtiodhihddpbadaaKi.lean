/- The document's area: Alloc, where a block is free. -/
import Derived.Test.YtiodhihddpbadaaKh
namespace Go.Proofs.Ytiodhihddpbadaa
open Go.RowKit

theorem Stays.drew {w w' : World} {F : Nat → Prop} (h : Stays w w' F) : Stays w w'.drew F := ⟨h.os, h.tape, h.output, h.size, h.block⟩
theorem after_eq {c : CS} {n : Nat} (hn : n < c.now.length) : after c n = if n + 1 = c.now.length then 0 else n + 1 := by
  unfold after
  split
  · next h => rw [h, Nat.mod_self]
  · exact Nat.mod_eq_of_lt (by omega)
/-- the memory behind an Alloc of block n: the cursor at n + 1, then at 0 if that is the end -/
theorem RX.alloc {w : World} {b g0 p0 g1 p1 : Nat} {c : CS} (h : RX w b g0 p0 g1 p1 c) (k : Nat) :
    (w.setCell ⟨g0, turn c k, none⟩ (.int .i64 1)).cell? ⟨b, 2, none⟩ = some (.int .i64 (c.at_ : Int)) ∧
    (w.setCell ⟨g0, turn c k, none⟩ (.int .i64 1)).frozen? ⟨b, 2, none⟩ = false ∧
    ((w.setCell ⟨g0, turn c k, none⟩ (.int .i64 1)).setCell ⟨b, 2, none⟩ (.int .i64 ((turn c k : Int) + 1))).cell? ⟨b, 2, none⟩ = some (.int .i64 ((turn c k : Int) + 1)) ∧
    ((w.setCell ⟨g0, turn c k, none⟩ (.int .i64 1)).setCell ⟨b, 2, none⟩ (.int .i64 ((turn c k : Int) + 1))).cell? ⟨b, 0, none⟩ = some (.slice (some ⟨g0, 0, none⟩) c.now.length p0) ∧
    ((w.setCell ⟨g0, turn c k, none⟩ (.int .i64 1)).setCell ⟨b, 2, none⟩ (.int .i64 ((turn c k : Int) + 1))).frozen? ⟨b, 2, none⟩ = false ∧
    (turn c k + 1 ≠ c.now.length → RX ((w.setCell ⟨g0, turn c k, none⟩ (.int .i64 1)).setCell ⟨b, 2, none⟩ (.int .i64 ((turn c k : Int) + 1))) b g0 p0 g1 p1 (allocS c k) ∧ Stays w ((w.setCell ⟨g0, turn c k, none⟩ (.int .i64 1)).setCell ⟨b, 2, none⟩ (.int .i64 ((turn c k : Int) + 1))) (foot b g0 g1)) ∧
    (turn c k + 1 = c.now.length → RX (((w.setCell ⟨g0, turn c k, none⟩ (.int .i64 1)).setCell ⟨b, 2, none⟩ (.int .i64 ((turn c k : Int) + 1))).setCell ⟨b, 2, none⟩ (.int .i64 0)) b g0 p0 g1 p1 (allocS c k) ∧ Stays w (((w.setCell ⟨g0, turn c k, none⟩ (.int .i64 1)).setCell ⟨b, 2, none⟩ (.int .i64 ((turn c k : Int) + 1))).setCell ⟨b, 2, none⟩ (.int .i64 0)) (foot b g0 g1)) := by
  have n0 := h.ok.n0
  have ht : turn c k < c.now.length := Nat.mod_lt _ n0
  have h1 : RX (w.setCell ⟨g0, turn c k, none⟩ (.int .i64 1)) b g0 p0 g1 p1 { c with now := c.now.set (turn c k) 1 } := h.setNow tR (turn c k) 1 (by omega)
  have hb1 := h1.blk
  have hb2 := Joins.block_setCell hb1 (i := 2) (.int .i64 ((turn c k : Int) + 1))
  have hs1 : Stays w (w.setCell ⟨g0, turn c k, none⟩ (.int .i64 1)) (foot b g0 g1) := (Stays.refl w _).set ⟨g0, turn c k, none⟩ (.inl (.inr (.inl rfl))) _
  have hs2 := hs1.set ⟨b, 2, none⟩ (.inl (.inl rfl)) (.int .i64 ((turn c k : Int) + 1))
  have hl : (c.now.set (turn c k) 1).length = c.now.length := by simp
  refine ⟨h1.c2, h1.fr 2, ?_, ?_, Joins.unfrozen_of_block hb2 2, fun hne => ⟨?_, hs2⟩, fun he => ⟨?_, hs2.set ⟨b, 2, none⟩ (.inl (.inl rfl)) (.int .i64 0)⟩⟩
  · rw [Joins.cell_of_block hb2 2]; rfl
  · rw [Joins.cell_of_block hb2 0]; simp
  · have h2 := h1.setAt tR (turn c k + 1) (by rw [hl]; omega)
    have e : allocS c k = { now := c.now.set (turn c k) 1, was := c.was, at_ := turn c k + 1, kept := c.kept } := by
      unfold allocS; rw [after_eq ht, if_neg hne]
    rw [e]
    exact h2
  · have h2 := h1.setAt tR 0 (by rw [hl]; omega)
    have e : allocS c k = { now := c.now.set (turn c k) 1, was := c.was, at_ := 0, kept := c.kept } := by
      unfold allocS; rw [after_eq ht, if_pos he]
    rw [e]
    refine h2.on (fun j _ => ?_)
    by_cases hj : j = b
    · subst hj
      rw [Joins.block_setCell hb2, Joins.block_setCell hb1]
      rfl
    · exact (Below.heap_setCell _ ⟨b, 2, none⟩ _ _ hj).trans ((Below.heap_setCell _ ⟨b, 2, none⟩ _ _ hj).trans (Below.heap_setCell _ ⟨b, 2, none⟩ _ _ hj).symm)
section
variable (w : World) (b g0 p0 g1 p1 : Nat) (c : CS)
set_option maxHeartbeats 1000000 in
theorem ralloc_any (h : RX w b g0 p0 g1 p1 c) (k : Nat) (hk : allocK c = some k) : Calls Try.prog 29 #[.pointer (some ⟨b, 0, none⟩)] w fun e w' => e = .returned (.int .i64 (turn c k : Int)) ∧ RX w' b g0 p0 g1 p1 (allocS c k) ∧ Stays w w' (foot b g0 g1) := by
  have HF := Lib.hid (fun n hn => rfree_any w b g0 p0 g1 p1 c h n hn)
  obtain ⟨k1, k2, k3⟩ := allocK_some hk
  have HK := Lib.hid k3
  have HK2 := Lib.hid k2
  have n0 := h.ok.n0
  have n1 := h.ok.n1
  have a1 := h.ok.a1
  have c2 := h.c2
  have c0 := h.c0
  have f0 := h.fr0 (turn c k)
  have ht := turn_lt n0 k
  have cn := h.n_at (turn c k) ht
  have c0n : (w.setCell ⟨g0, turn c k, none⟩ (.int .i64 1)).cell? ⟨b, 0, none⟩ = some (.slice (some ⟨g0, 0, none⟩) c.now.length p0) := by
    have := (h.setNow tR (turn c k) 1 (by omega)).c0
    simpa using this
  obtain ⟨x1, x2, x3, x4, x5, x6, x7⟩ := RX.alloc h k
  have X6 := Lib.hid x6
  have X7 := Lib.hid x7
  clear h hk k2 k3 x6 x7
  go_enter Try.func29, Try.ntmps29
  go_wp2
  go_loopw [3] (fun j wr => ∃ i : Nat, i ≤ k ∧ j = .int .i64 (i : Int) ∧ wr = w) (fun j _ => c.now.length - (intOf j).toNat)
  case atStart => exact ⟨0, Nat.zero_le _, rfl, rfl⟩
  case round =>
    obtain ⟨i, hi, rfl, rfl⟩ := hrel
    have hltI : (i : Int) < (c.now.length : Int) := by omega
    have hF := HF.out (turn c i) (Nat.mod_lt _ n0)
    by_cases hlt : i < k
    · rw [HK.out i hlt] at hF
      have ht2 : turn c i = (c.at_ + i) % c.now.length := rfl
      by_cases hge : c.at_ + i < c.now.length
      · have et : (turn c i : Int) = (c.at_ : Int) + (i : Int) := by rw [ht2, Nat.mod_eq_of_lt hge]; omega
        rw [et] at hF
        have HFi := Lib.hid hF
        clear hF ht2 et
        go_wp2_with (first
          | (go_at_call 33; refine HFi.out.mono ?_; rintro e w' ⟨rfl, rfl⟩)
          | fail)
        go_roundw
        case rel => exact ⟨i + 1, hlt, by go_num, trivial⟩
        case measure => simp [intOf]; omega
      · have et : (turn c i : Int) = (c.at_ : Int) + (i : Int) - (c.now.length : Int) := by
          rw [ht2, Nat.mod_eq_sub_mod (by omega), Nat.mod_eq_of_lt (by omega)]; omega
        rw [et] at hF
        have HFi := Lib.hid hF
        clear hF ht2 et
        go_wp2_with (first
          | (go_at_call 33; refine HFi.out.mono ?_; rintro e w' ⟨rfl, rfl⟩)
          | fail)
        go_roundw
        case rel => exact ⟨i + 1, hlt, by go_num, trivial⟩
        case measure => simp [intOf]; omega
    · obtain rfl : i = k := by omega
      rw [HK2.out] at hF
      have HFi := Lib.hid hF
      have ht2 : turn c i = (c.at_ + i) % c.now.length := rfl
      have htI : (turn c i : Int) < (c.now.length : Int) := by omega
      clear hF
      have stop : (turn c i : Int) = (c.at_ : Int) + (i : Int) ∧ c.at_ + i < c.now.length ∨ (turn c i : Int) = (c.at_ : Int) + (i : Int) - (c.now.length : Int) ∧ c.now.length ≤ c.at_ + i := by
        by_cases hge : c.at_ + i < c.now.length
        · exact .inl ⟨by rw [ht2, Nat.mod_eq_of_lt hge]; omega, hge⟩
        · exact .inr ⟨by rw [ht2, Nat.mod_eq_sub_mod (by omega), Nat.mod_eq_of_lt (by omega)]; omega, by omega⟩
      clear ht2
      generalize hob : turn c i = t at *
      have HOB := Lib.hid hob
      clear hob
      rcases stop with ⟨et, hge⟩ | ⟨et, hge⟩
      · by_cases he : t + 1 = c.now.length
        · have hX := Lib.hid (X7.out he)
          have b1 : ((t : Int) + 1 == (c.now.length : Int)) = true := by rw [beq_iff_eq]; omega
          have et' : (c.at_ : Int) + (i : Int) = (t : Int) := et.symm
          clear X6 X7 he et
          go_wp2_with (first
            | (go_at_call 33; refine HFi.out.mono ?_; rintro e w' ⟨rfl, rfl⟩)
            | fail)
          go_region
          go_wp2
          go_ret
          exact ⟨by rw [HOB.out]; rfl, hX.out.1.drew, hX.out.2.drew⟩
        · have hX := Lib.hid (X6.out he)
          have b1 : ((t : Int) + 1 == (c.now.length : Int)) = false := by rw [beq_eq_false_iff_ne]; omega
          have et' : (c.at_ : Int) + (i : Int) = (t : Int) := et.symm
          clear X6 X7 he et
          go_wp2_with (first
            | (go_at_call 33; refine HFi.out.mono ?_; rintro e w' ⟨rfl, rfl⟩)
            | fail)
          go_region
          go_wp2
          go_ret
          exact ⟨by rw [HOB.out]; rfl, hX.out.1.drew, hX.out.2.drew⟩
      · by_cases he : t + 1 = c.now.length
        · have hX := Lib.hid (X7.out he)
          have b1 : ((t : Int) + 1 == (c.now.length : Int)) = true := by rw [beq_iff_eq]; omega
          have et' : (c.at_ : Int) + (i : Int) - (c.now.length : Int) = (t : Int) := et.symm
          clear X6 X7 he et
          go_wp2_with (first
            | (go_at_call 33; refine HFi.out.mono ?_; rintro e w' ⟨rfl, rfl⟩)
            | fail)
          go_region
          go_wp2
          go_ret
          exact ⟨by rw [HOB.out]; rfl, hX.out.1.drew, hX.out.2.drew⟩
        · have hX := Lib.hid (X6.out he)
          have b1 : ((t : Int) + 1 == (c.now.length : Int)) = false := by rw [beq_eq_false_iff_ne]; omega
          have et' : (c.at_ : Int) + (i : Int) - (c.now.length : Int) = (t : Int) := et.symm
          clear X6 X7 he et
          go_wp2_with (first
            | (go_at_call 33; refine HFi.out.mono ?_; rintro e w' ⟨rfl, rfl⟩)
            | fail)
          go_region
          go_wp2
          go_ret
          exact ⟨by rw [HOB.out]; rfl, hX.out.1.drew, hX.out.2.drew⟩
end
end Go.Proofs.Ytiodhihddpbadaa
