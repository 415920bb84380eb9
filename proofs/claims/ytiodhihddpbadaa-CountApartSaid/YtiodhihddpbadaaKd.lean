/- The program's area: Alloc. -/
import Derived.Test.YtiodhihddpbadaaKc
namespace Go.Proofs.Ytiodhihddpbadaa
open Go.RowKit

theorem turn_lt {c : CS} (h : 0 < c.now.length) (k : Nat) : turn c k < c.now.length := Nat.mod_lt _ h
theorem turn_rem {c : CS} (_ : 0 < c.now.length) (i : Nat) : ((c.at_ : Int) + (i : Int)).tmod (c.now.length : Int) = (turn c i : Int) := by
  rw [Int.tmod_eq_emod_of_nonneg (by omega)]
  simp [turn]
theorem after_rem {c : CS} (_ : 0 < c.now.length) (i : Nat) : ((i : Int) + 1).tmod (c.now.length : Int) = (after c i : Int) := by
  rw [Int.tmod_eq_emod_of_nonneg (by omega)]
  simp [after]
theorem after_lt {c : CS} (h : 0 < c.now.length) (k : Nat) : after c k < c.now.length := Nat.mod_lt _ h
section
variable (w : World) (b g0 p0 g1 p1 : Nat) (c : CS)
theorem alloc_no (p : Value) (h : Calls Try.prog 22 #[p] w fun e w' => e = .returned (.int .i64 0) ∧ w = w') : Calls Try.prog 16 #[p] w fun e w' => e = .returned (.tuple #[.int .i64 0, .int .i64 1]) ∧ w = w' := by
  have HN := Lib.hid (none_no w p h)
  clear h
  go_enter Try.func16, Try.ntmps16
  go_wp2_with (go_at_call 30; refine HN.out.mono ?_; rintro e w' ⟨rfl, rfl⟩)
  go_ret2
  exact ⟨rfl, rfl⟩
theorem alloc_full (h : AX w b g0 p0 g1 p1 c) (hk : allocK c = none) : Calls Try.prog 16 #[.pointer (some ⟨b, 0, none⟩)] w fun e w' => e = .returned (.tuple #[.int .i64 0, .int .i64 8]) ∧ w = w' := by
  have HN := Lib.hid (none_any w b g0 p0 g1 p1 c h)
  have HL := Lib.hid (len_any w b g0 p0 g1 p1 c h)
  have HF := Lib.hid (fun n hn => free_any w b g0 p0 g1 p1 c h n hn)
  have HK := Lib.hid (allocK_none hk)
  have n0 := h.ok.n0
  have n1 := h.ok.n1
  have a1 := h.ok.a1
  have c2 := h.c2
  clear h hk
  go_enter Try.func16, Try.ntmps16
  go_wp2_with (first
    | (go_at_call 30; refine HN.out.mono ?_; rintro e w' ⟨rfl, rfl⟩)
    | (go_at_call 22; refine HL.out.mono ?_; rintro e w' ⟨rfl, rfl⟩)
    | fail)
  go_loopw [12] (fun j wr => ∃ i : Nat, i ≤ c.now.length ∧ j = .int .i64 (i : Int) ∧ wr = w) (fun j _ => c.now.length - (intOf j).toNat)
  case atStart => exact ⟨0, Nat.zero_le _, rfl, rfl⟩
  case round =>
    obtain ⟨i, hi, rfl, rfl⟩ := hrel
    by_cases hlt : i < c.now.length
    · have hltI : (i : Int) < (c.now.length : Int) := by omega
      have hF := HF.out (turn c i) (turn_lt n0 i)
      rw [HK.out i hlt] at hF
      have HFi := Lib.hid hF
      have hrem := turn_rem n0 i
      have h00 : ((c.now.length : Int) == 0) = false := by rw [beq_eq_false_iff_ne]; omega
      clear hF
      go_wp2_with (first
        | (go_at_call 31; refine HFi.out.mono ?_; rintro e w' ⟨rfl, rfl⟩)
        | fail)
      go_roundw
      case rel => exact ⟨i + 1, hlt, by go_num, trivial⟩
      case measure => simp [intOf]; omega
    · obtain rfl : i = c.now.length := by omega
      go_wp2
      go_ret2
      exact ⟨rfl, rfl⟩
theorem alloc_any (h : AX w b g0 p0 g1 p1 c) (k : Nat) (hk : allocK c = some k) : Calls Try.prog 16 #[.pointer (some ⟨b, 0, none⟩)] w fun e w' => e = .returned (.tuple #[.int .i64 (turn c k : Int), .int .i64 0]) ∧ AX w' b g0 p0 g1 p1 (allocS c k) ∧ Stays w w' (foot b g0 g1) := by
  have HN := Lib.hid (none_any w b g0 p0 g1 p1 c h)
  have HL := Lib.hid (len_any w b g0 p0 g1 p1 c h)
  have HF := Lib.hid (fun n hn => free_any w b g0 p0 g1 p1 c h n hn)
  obtain ⟨k1, k2, k3⟩ := allocK_some hk
  have HK := Lib.hid k3
  have HK2 := Lib.hid k2
  have n0 := h.ok.n0
  have n1 := h.ok.n1
  have a1 := h.ok.a1
  have c2 := h.c2
  have c0 := h.c0
  have hh : AX (w.setCell ⟨g0, turn c k, none⟩ (.int .u16 1)) b g0 p0 g1 p1 { c with now := c.now.set (turn c k) 1 } := h.setNow tA (turn c k) 1 (by omega)
  have hh2 := hh.setAt tA (after c (turn c k)) (by simpa using after_lt n0 _)
  have HE : Hid (AX _ b g0 p0 g1 p1 (allocS c k)) := Lib.hid hh2
  have hs := (fset w b g0 g1 ⟨g0, turn c k, none⟩ (.inr (.inl rfl)) (.int .u16 1)).set ⟨b, 2, none⟩ (.inl (.inl rfl)) (.int .i64 (after c (turn c k) : Int))
  have HS := Lib.hid hs
  have f0 := h.fr0 (turn c k)
  have cn := h.n_at (turn c k) (turn_lt n0 k)
  have f2 := hh.fr 2
  have c22 := hh.c2
  have ht := turn_lt n0 k
  have hrem2 := after_rem n0 (turn c k)
  clear h hk hh hh2 hs k2 k3
  go_enter Try.func16, Try.ntmps16
  go_wp2_with (first
    | (go_at_call 30; refine HN.out.mono ?_; rintro e w' ⟨rfl, rfl⟩)
    | (go_at_call 22; refine HL.out.mono ?_; rintro e w' ⟨rfl, rfl⟩)
    | fail)
  go_loopw [12] (fun j wr => ∃ i : Nat, i ≤ k ∧ j = .int .i64 (i : Int) ∧ wr = w) (fun j _ => c.now.length - (intOf j).toNat)
  case atStart => exact ⟨0, Nat.zero_le _, rfl, rfl⟩
  case round =>
    obtain ⟨i, hi, rfl, rfl⟩ := hrel
    have hltI : (i : Int) < (c.now.length : Int) := by omega
    have hrem := turn_rem n0 i
    have h00 : ((c.now.length : Int) == 0) = false := by rw [beq_eq_false_iff_ne]; omega
    have hF := HF.out (turn c i) (turn_lt n0 i)
    by_cases hlt : i < k
    · rw [HK.out i hlt] at hF
      have HFi := Lib.hid hF
      clear hF
      go_wp2_with (first
        | (go_at_call 31; refine HFi.out.mono ?_; rintro e w' ⟨rfl, rfl⟩)
        | fail)
      go_roundw
      case rel => exact ⟨i + 1, hlt, by go_num, trivial⟩
      case measure => simp [intOf]; omega
    · obtain rfl : i = k := by omega
      rw [HK2.out] at hF
      have HFi := Lib.hid hF
      have htI : (turn c i : Int) < (c.now.length : Int) := by omega
      clear hF
      go_wp2_with (first
        | (go_at_call 31; refine HFi.out.mono ?_; rintro e w' ⟨rfl, rfl⟩)
        | fail)
      go_ret2
      exact ⟨rfl, HE.out, HS.out⟩
end
end Go.Proofs.Ytiodhihddpbadaa
