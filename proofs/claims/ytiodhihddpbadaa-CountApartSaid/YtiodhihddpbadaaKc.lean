/- The program's area: Set, Inc, Dec, which blocks are free, Alloc. -/
import Derived.Test.YtiodhihddpbadaaKb
namespace Go.Proofs.Ytiodhihddpbadaa
open Go.RowKit

def freeB (c : CS) (i : Nat) : Bool := (nowAt c i == 0) && (wasAt c i == 0)
def roomN (c : CS) : Nat → Nat
  | 0 => 0
  | i + 1 => roomN c i + (if freeB c i = true then 1 else 0)
theorem roomN_le (c : CS) (i : Nat) : roomN c i ≤ i := by
  induction i with
  | zero => exact Nat.le_refl _
  | succ i ih => unfold roomN; split <;> omega
def turn (c : CS) (k : Nat) : Nat := (c.at_ + k) % c.now.length
/-- which free one comes first, from the cursor on -/
def allocK (c : CS) : Option Nat := (List.range c.now.length).find? fun k => freeB c (turn c k)
theorem allocK_none {c : CS} (h : allocK c = none) : ∀ k, k < c.now.length → freeB c (turn c k) = false := by
  intro k hk
  have := List.find?_eq_none.1 h k (List.mem_range.2 hk)
  simpa using this
theorem allocK_some {c : CS} {k : Nat} (h : allocK c = some k) : k < c.now.length ∧ freeB c (turn c k) = true ∧ ∀ j, j < k → freeB c (turn c j) = false := by
  have h1 := List.find?_range_eq_some.1 h
  exact ⟨List.mem_range.1 h1.2.1, h1.1, fun j hj => by have := h1.2.2 j hj; simpa using this⟩
def after (c : CS) (n : Nat) : Nat := (n + 1) % c.now.length
def allocS (c : CS) (k : Nat) : CS := { c with now := c.now.set (turn c k) 1, at_ := after c (turn c k) }
def setS (c : CS) (n : Nat) : CS := { c with at_ := n, kept := n }
def incS (c : CS) (n : Nat) : CS := { c with now := c.now.set n (nowAt c n + 1) }
def decS (c : CS) (n : Nat) : CS := { c with now := c.now.set n (nowAt c n - 1) }

section
variable (w : World) (b g0 p0 g1 p1 : Nat) (c : CS)
theorem fset (w : World) (b g0 g1 : Nat) (a : Addr) (ha : foot b g0 g1 a.block) (u : Value) : Stays w (w.setCell a u) (foot b g0 g1) := (Stays.refl w _).set a (.inl ha) u
theorem set_any (h : AX w b g0 p0 g1 p1 c) (n : Nat) (hn : n < c.now.length) : Calls Try.prog 24 #[.pointer (some ⟨b, 0, none⟩), .int .i64 (n : Int)] w fun e w' => e = .returned (.int .i64 0) ∧ AX w' b g0 p0 g1 p1 (setS c n) ∧ Stays w w' (foot b g0 g1) := by
  have HP := place_any w b g0 p0 g1 p1 c h n
  have e1 : placeE c.now.length (n : Int) = 0 := by unfold placeE; rw [if_pos (by omega)]
  rw [e1] at HP
  have HP := Lib.hid HP
  have h2 := (h.setAt tA n hn)
  have h3 := h2.setKept tA n hn
  have HE := Lib.hid h3
  have hs := (fset w b g0 g1 ⟨b, 2, none⟩ (.inl rfl) (.int .i64 (n : Int))).set ⟨b, 3, none⟩ (.inl (.inl rfl)) (.int .i64 (n : Int))
  have HS := Lib.hid hs
  have f2 := h.fr 2
  have f3 := h2.fr 3
  have c2 := h.c2
  have c3 := h2.c3
  clear h h2 h3 hs e1
  go_enter Try.func24, Try.ntmps24
  go_wp2_with (go_at_call 32; refine HP.out.mono ?_; rintro e w' ⟨rfl, rfl⟩)
  go_ret
  exact ⟨rfl, HE.out, HS.out⟩
theorem set_out (h : AX w b g0 p0 g1 p1 c) (i : Int) (hi : ¬ (0 ≤ i ∧ i < (c.now.length : Int))) : Calls Try.prog 24 #[.pointer (some ⟨b, 0, none⟩), .int .i64 i] w fun e w' => e = .returned (.int .i64 2) ∧ w = w' := by
  have HP := place_any w b g0 p0 g1 p1 c h i
  have e1 : placeE c.now.length i = 2 := by unfold placeE; rw [if_neg hi]
  rw [e1] at HP
  have HP := Lib.hid HP
  clear h e1 hi
  go_enter Try.func24, Try.ntmps24
  go_wp2_with (go_at_call 32; refine HP.out.mono ?_; rintro e w' ⟨rfl, rfl⟩)
  go_ret
  exact ⟨rfl, rfl⟩
theorem inc_out (h : AX w b g0 p0 g1 p1 c) (i : Int) (hi : ¬ (0 ≤ i ∧ i < (c.now.length : Int))) : Calls Try.prog 18 #[.pointer (some ⟨b, 0, none⟩), .int .i64 i] w fun e w' => e = .returned (.int .i64 2) ∧ w = w' := by
  have HP := place_any w b g0 p0 g1 p1 c h i
  have e1 : placeE c.now.length i = 2 := by unfold placeE; rw [if_neg hi]
  rw [e1] at HP
  have HP := Lib.hid HP
  clear h e1 hi
  go_enter Try.func18, Try.ntmps18
  go_wp2_with (go_at_call 32; refine HP.out.mono ?_; rintro e w' ⟨rfl, rfl⟩)
  go_ret
  exact ⟨rfl, rfl⟩
theorem dec_out (h : AX w b g0 p0 g1 p1 c) (i : Int) (hi : ¬ (0 ≤ i ∧ i < (c.now.length : Int))) : Calls Try.prog 17 #[.pointer (some ⟨b, 0, none⟩), .int .i64 i] w fun e w' => e = .returned (.tuple #[.int .u16 0, .int .i64 2]) ∧ w = w' := by
  have HP := place_any w b g0 p0 g1 p1 c h i
  have e1 : placeE c.now.length i = 2 := by unfold placeE; rw [if_neg hi]
  rw [e1] at HP
  have HP := Lib.hid HP
  clear h e1 hi
  go_enter Try.func17, Try.ntmps17
  go_wp2_with (go_at_call 32; refine HP.out.mono ?_; rintro e w' ⟨rfl, rfl⟩)
  go_ret2
  exact ⟨rfl, rfl⟩
theorem inc_full (h : AX w b g0 p0 g1 p1 c) (n : Nat) (hn : n < c.now.length) (hx : nowAt c n = 65535) : Calls Try.prog 18 #[.pointer (some ⟨b, 0, none⟩), .int .i64 (n : Int)] w fun e w' => e = .returned (.int .i64 8) ∧ w = w' := by
  have HP := place_any w b g0 p0 g1 p1 c h n
  have e1 : placeE c.now.length (n : Int) = 0 := by unfold placeE; rw [if_pos (by omega)]
  rw [e1] at HP
  have HP := Lib.hid HP
  have c0 := h.c0
  have cn := h.n_at n hn
  rw [hx] at cn
  have cn' : w.cell? ⟨g0, n, none⟩ = some (.int .u16 65535) := cn
  have hnI : (n : Int) < (c.now.length : Int) := by omega
  clear h e1 hx cn
  go_enter Try.func18, Try.ntmps18
  go_wp2_with (go_at_call 32; refine HP.out.mono ?_; rintro e w' ⟨rfl, rfl⟩)
  go_ret
  exact ⟨rfl, rfl⟩
theorem inc_free (h : AX w b g0 p0 g1 p1 c) (n : Nat) (hn : n < c.now.length) (hx : nowAt c n = 0) : Calls Try.prog 18 #[.pointer (some ⟨b, 0, none⟩), .int .i64 (n : Int)] w fun e w' => e = .returned (.int .i64 9) ∧ w = w' := by
  have HP := place_any w b g0 p0 g1 p1 c h n
  have e1 : placeE c.now.length (n : Int) = 0 := by unfold placeE; rw [if_pos (by omega)]
  rw [e1] at HP
  have HP := Lib.hid HP
  have c0 := h.c0
  have cn := h.n_at n hn
  rw [hx] at cn
  have cn' : w.cell? ⟨g0, n, none⟩ = some (.int .u16 0) := cn
  have hnI : (n : Int) < (c.now.length : Int) := by omega
  clear h e1 hx cn
  go_enter Try.func18, Try.ntmps18
  go_wp2_with (go_at_call 32; refine HP.out.mono ?_; rintro e w' ⟨rfl, rfl⟩)
  go_ret
  exact ⟨rfl, rfl⟩
theorem dec_free (h : AX w b g0 p0 g1 p1 c) (n : Nat) (hn : n < c.now.length) (hx : nowAt c n = 0) : Calls Try.prog 17 #[.pointer (some ⟨b, 0, none⟩), .int .i64 (n : Int)] w fun e w' => e = .returned (.tuple #[.int .u16 0, .int .i64 9]) ∧ w = w' := by
  have HP := place_any w b g0 p0 g1 p1 c h n
  have e1 : placeE c.now.length (n : Int) = 0 := by unfold placeE; rw [if_pos (by omega)]
  rw [e1] at HP
  have HP := Lib.hid HP
  have c0 := h.c0
  have cn := h.n_at n hn
  rw [hx] at cn
  have cn' : w.cell? ⟨g0, n, none⟩ = some (.int .u16 0) := cn
  have hnI : (n : Int) < (c.now.length : Int) := by omega
  clear h e1 hx cn
  go_enter Try.func17, Try.ntmps17
  go_wp2_with (go_at_call 32; refine HP.out.mono ?_; rintro e w' ⟨rfl, rfl⟩)
  go_ret2
  exact ⟨rfl, rfl⟩
theorem inc_any (h : AX w b g0 p0 g1 p1 c) (n : Nat) (hn : n < c.now.length) (h0 : nowAt c n ≠ 0) (hx : nowAt c n ≠ 65535) : Calls Try.prog 18 #[.pointer (some ⟨b, 0, none⟩), .int .i64 (n : Int)] w fun e w' => e = .returned (.int .i64 0) ∧ AX w' b g0 p0 g1 p1 (incS c n) ∧ Stays w w' (foot b g0 g1) := by
  have HP := place_any w b g0 p0 g1 p1 c h n
  have e1 : placeE c.now.length (n : Int) = 0 := by unfold placeE; rw [if_pos (by omega)]
  rw [e1] at HP
  have HP := Lib.hid HP
  have hm := h.ok.now_le n
  have HE := Lib.hid (h.setNow tA n (nowAt c n + 1) (by omega))
  have HS := Lib.hid (fset w b g0 g1 ⟨g0, n, none⟩ (.inr (.inl rfl)) (.int .u16 ((nowAt c n + 1 : Nat) : Int)))
  have c0 := h.c0
  have cn := h.n_at n hn
  have f0 := h.fr0 n
  have hnI : (n : Int) < (c.now.length : Int) := by omega
  have hS : incS c n = { c with now := c.now.set n (nowAt c n + 1) } := rfl
  rw [hS]
  clear h e1 hS
  generalize nowAt c n = x at *
  have ex : ((x + 1 : Nat) : Int) = (x : Int) + 1 := by omega
  rw [ex] at HE HS
  have hw : IntKind.u16.wrap ((x : Int) + 1) = (x : Int) + 1 := by rw [IntKind.wrap_u16]; omega
  have b0 : ((x : Int) == 0) = false := by rw [beq_eq_false_iff_ne]; omega
  have b1 : ((x : Int) == 65535) = false := by rw [beq_eq_false_iff_ne]; omega
  clear ex
  go_enter Try.func18, Try.ntmps18
  go_wp2_with (go_at_call 32; refine HP.out.mono ?_; rintro e w' ⟨rfl, rfl⟩)
  go_ret
  exact ⟨rfl, HE.out, HS.out⟩
theorem dec_any (h : AX w b g0 p0 g1 p1 c) (n : Nat) (hn : n < c.now.length) (h0 : nowAt c n ≠ 0) : Calls Try.prog 17 #[.pointer (some ⟨b, 0, none⟩), .int .i64 (n : Int)] w fun e w' => e = .returned (.tuple #[.int .u16 ((nowAt c n - 1 : Nat) : Int), .int .i64 0]) ∧ AX w' b g0 p0 g1 p1 (decS c n) ∧ Stays w w' (foot b g0 g1) := by
  have HP := place_any w b g0 p0 g1 p1 c h n
  have e1 : placeE c.now.length (n : Int) = 0 := by unfold placeE; rw [if_pos (by omega)]
  rw [e1] at HP
  have HP := Lib.hid HP
  have hm := h.ok.now_le n
  have hh := h.setNow tA n (nowAt c n - 1) (by omega)
  have HE := Lib.hid hh
  have HS := Lib.hid (fset w b g0 g1 ⟨g0, n, none⟩ (.inr (.inl rfl)) (.int .u16 ((nowAt c n - 1 : Nat) : Int)))
  have c0 := h.c0
  have cn := h.n_at n hn
  have f0 := h.fr0 n
  have c02 := hh.c0
  have cn2 := hh.n_at n (by simpa using hn)
  have e2 : nowAt { c with now := c.now.set n (nowAt c n - 1) } n = nowAt c n - 1 := by simp [nowAt, hn]
  rw [e2] at cn2
  have hnI : (n : Int) < (c.now.length : Int) := by omega
  have hS : decS c n = { c with now := c.now.set n (nowAt c n - 1) } := rfl
  rw [hS]
  clear h hh e1 hS e2
  simp only [List.length_set] at c02
  generalize nowAt c n = x at *
  have ex : ((x - 1 : Nat) : Int) = (x : Int) - 1 := by omega
  rw [ex] at HE HS c02 cn2
  rw [ex]
  have hw : IntKind.u16.wrap ((x : Int) - 1) = (x : Int) - 1 := by rw [IntKind.wrap_u16]; omega
  have b0 : ((x : Int) == 0) = false := by rw [beq_eq_false_iff_ne]; omega
  clear ex
  go_enter Try.func17, Try.ntmps17
  go_wp2_with (go_at_call 32; refine HP.out.mono ?_; rintro e w' ⟨rfl, rfl⟩)
  go_ret2
  exact ⟨rfl, HE.out, HS.out⟩
theorem free_any (h : AX w b g0 p0 g1 p1 c) (n : Nat) (hn : n < c.now.length) : Calls Try.prog 31 #[.pointer (some ⟨b, 0, none⟩), .int .i64 (n : Int)] w fun e w' => e = .returned (.bool (freeB c n)) ∧ w = w' := by
  have c0 := h.c0
  have c1 := h.c1
  have cn := h.n_at n hn
  have cw := h.w_at n hn
  have hnI : (n : Int) < (c.now.length : Int) := by omega
  have e1 : freeB c n = ((nowAt c n == 0) && (wasAt c n == 0)) := rfl
  rw [e1]
  clear h e1
  generalize nowAt c n = x at *
  generalize wasAt c n = y at *
  by_cases hx : x = 0
  · subst hx
    have cn' : w.cell? ⟨g0, n, none⟩ = some (.int .u16 0) := cn
    clear cn
    by_cases hy : y = 0
    · subst hy
      have cw' : w.cell? ⟨g1, n, none⟩ = some (.int .u16 0) := cw
      clear cw
      go_enter Try.func31, Try.ntmps31
      go_wp2
      go_ret
      exact ⟨rfl, rfl⟩
    · have b1 : ((y : Int) == 0) = false := by rw [beq_eq_false_iff_ne]; omega
      have e2 : ((0 == 0) && (y == 0)) = false := by simpa using hy
      rw [e2]
      clear e2
      go_enter Try.func31, Try.ntmps31
      go_wp2
      go_ret
      exact ⟨rfl, rfl⟩
  · have b1 : ((x : Int) == 0) = false := by rw [beq_eq_false_iff_ne]; omega
    have e2 : ((x == 0) && (y == 0)) = false := by simp [hx]
    rw [e2]
    clear e2
    go_enter Try.func31, Try.ntmps31
    go_wp2
    go_ret
    exact ⟨rfl, rfl⟩
theorem room_any (h : AX w b g0 p0 g1 p1 c) : Calls Try.prog 21 #[.pointer (some ⟨b, 0, none⟩)] w fun e w' => e = .returned (.int .i64 (roomN c c.now.length : Int)) ∧ w = w' := by
  have HL := Lib.hid (len_any w b g0 p0 g1 p1 c h)
  have HF := Lib.hid (fun n hn => free_any w b g0 p0 g1 p1 c h n hn)
  have n1 := h.ok.n1
  clear h
  go_enter Try.func21, Try.ntmps21
  go_wp2_with (first
    | (go_at_call 22; refine HL.out.mono ?_; rintro e w' ⟨rfl, rfl⟩)
    | fail)
  go_loopw [7, 3] (fun j r wr => ∃ i : Nat, i ≤ c.now.length ∧ j = .int .i64 (i : Int) ∧ r = .int .i64 (roomN c i : Int) ∧ wr = w) (fun j _ _ => c.now.length - (intOf j).toNat)
  case atStart => exact ⟨0, Nat.zero_le _, rfl, rfl, rfl⟩
  case round =>
    obtain ⟨i, hi, rfl, rfl, rfl⟩ := hrel
    by_cases hlt : i < c.now.length
    · have hltI : (i : Int) < (c.now.length : Int) := by omega
      have hr := roomN_le c i
      have hF := HF.out i hlt
      have hs : roomN c (i + 1) = roomN c i + (if freeB c i = true then 1 else 0) := rfl
      cases hb : freeB c i with
      | true =>
        rw [hb] at hF hs
        have HFi := Lib.hid hF
        rw [if_pos rfl] at hs
        have HS := Lib.hid hs
        clear hF hs hb
        go_wp2_with (first
          | (go_at_call 31; refine HFi.out.mono ?_; rintro e w' ⟨rfl, rfl⟩)
          | fail)
        go_roundw
        case rel => exact ⟨i + 1, hlt, by go_num, by rw [HS.out]; go_num, trivial⟩
        case measure => simp [intOf]; omega
      | false =>
        rw [hb] at hF hs
        have HFi := Lib.hid hF
        rw [if_neg (by simp), Nat.add_zero] at hs
        have HS := Lib.hid hs
        clear hF hs hb
        go_wp2_with (first
          | (go_at_call 31; refine HFi.out.mono ?_; rintro e w' ⟨rfl, rfl⟩)
          | fail)
        go_roundw
        case rel => exact ⟨i + 1, hlt, by go_num, by rw [HS.out]; rfl, trivial⟩
        case measure => simp [intOf]; omega
    · obtain rfl : i = c.now.length := by omega
      go_wp2
      go_ret
      exact ⟨rfl, rfl⟩
theorem room_no (p : Value) (h : Calls Try.prog 22 #[p] w fun e w' => e = .returned (.int .i64 0) ∧ w = w') : Calls Try.prog 21 #[p] w fun e w' => e = .returned (.int .i64 0) ∧ w = w' := by
  have HL := Lib.hid h
  clear h
  go_enter Try.func21, Try.ntmps21
  go_wp2_with (first
    | (go_at_call 22; refine HL.out.mono ?_; rintro e w' ⟨rfl, rfl⟩)
    | fail)
  go_loopw [7, 3] (fun j r wr => j = .int .i64 0 ∧ r = .int .i64 0 ∧ wr = w) (fun _ _ _ => 0)
  case atStart => exact ⟨rfl, rfl, rfl⟩
  case round =>
    obtain ⟨rfl, rfl, rfl⟩ := hrel
    go_wp2
    go_ret
    exact ⟨rfl, rfl⟩
end
end Go.Proofs.Ytiodhihddpbadaa
