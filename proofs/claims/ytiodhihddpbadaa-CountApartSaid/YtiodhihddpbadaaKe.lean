/- The program's area: slices.Clone of counts, New, Counts, Copy, Commit, Abort. -/
import Derived.Test.YtiodhihddpbadaaKd
import Derived.Laws.CopyRow
import Derived.Maps.AppendAt
import Derived.Stop.BytesEq
import Derived.Lib.AppendZerosOnto
import Derived.StillTailTactics
import Derived.Deep.RegionHeldLaw
namespace Go.Proofs.Ytiodhihddpbadaa
open Go.RowKit

theorem u16_info : (Try.prog.info? 43).map (fun i => (i.zero, i.size, i.bytes)) = some (some (.int .u16 0), 1, 2) := by kernel_rfl
theorem row_slice {w : World} {base : Nat} {e : TypeId} {n : Nat} {v : Value} {xs : List Value} (h : w.ownsRow base e 1 v n xs) (hn : 0 < n) : ∃ g p, v = .slice (some ⟨g, 0, none⟩) n p ∧ base ≤ g := by
  rcases h.2 with ⟨_, e⟩ | ⟨g, cap, cur, rfl, hb, _⟩
  · omega
  · exact ⟨g, cap, rfl, hb⟩
theorem own_base0 {w : World} {base : Nat} {e : TypeId} {n : Nat} {v : Value} {xs : List Value} (h : w.ownsRow base e 1 v n xs) : w.ownsRow 0 e 1 v n xs := by
  refine ⟨h.1, ?_⟩
  rcases h.2 with h | ⟨g, cap, cur, h1, h2, h3⟩
  · exact .inl h
  · exact .inr ⟨g, cap, cur, h1, Nat.zero_le _, h3⟩

set_option maxRecDepth 10000 in
set_option maxHeartbeats 1000000 in
/-- slices.Clone of counts: new memory -/
theorem clone_any (w : World) (B : Nat) (p : Addr) (l : List Nat) (c : Nat) (h0 : 0 < l.length) (h8 : l.length ≤ 100000) (hs : Shows w B (some p) l.length (nz .u16 l)) :
    Calls Try.prog 27 #[.slice (some p) l.length c] w fun e w' => ∃ g q, e = .returned (.slice (some ⟨g, 0, none⟩) l.length q) ∧ w'.ownsRow 0 43 1 (.slice (some ⟨g, 0, none⟩) l.length q) l.length (nz .u16 l) ∧ w.heap.size ≤ g ∧ g < w'.heap.size ∧ Below w.heap.size w w' := by
  obtain ⟨i0, hi0, hz0, hz1, hz2⟩ := info_parts u16_info
  have hb1 := (Below.refl w.heap.size w).alloc (Nat.le_refl _) (.cells #[] 43)
  have hown0 : (w.alloc (.cells #[] 43)).ownsRow w.heap.size 43 1 (.slice (some ⟨w.heap.size, 0, none⟩) 0 0) 0 [] := World.ownsRow_made w #[] 0 (Nat.le_refl _) (Nat.zero_le _) rfl
  have hb : ∀ j u, (nz .u16 l)[j]? = some u → (w.alloc (.cells #[] 43)).cell? (p.add j) = some u := fun j u hu => by
    obtain ⟨q, hq, _, hx⟩ := hs.lies h0
    injection hq with hq
    subst hq
    have h1 := hx j u hu
    rw [World.cell?_alloc_lt _ _ _ (World.block_lt_of_cell? w _ h1)]
    exact h1
  obtain ⟨v, w4, hrun, hown4, hg4, _, hat⟩ := run_append_own_at (P := Try.prog) (w.alloc (.cells #[] 43)) w.heap.size 22 22 43 i0 (.int .u16 0) 1 2 Try.underlying22 hi0 hz0 hz1 hz2 rfl (by omega) _ 0 [] hown0 p l.length c (nz .u16 l) (by rw [nz_len]; omega) hb (nz_one _ _) (by unfold maxLen; omega) (by omega) (by simp)
  rw [Nat.zero_add, List.nil_append] at hown4
  have hb4 : Below w.heap.size w w4 := hb1.grown hg4 (by simp) (fun k hk => by injection hk with hk; have hk' : w.heap.size = k := hk; omega)
  obtain ⟨g, q, rfl, hgg⟩ := row_slice hown4 h0
  have hlt := (hown4.lt g rfl).2
  have hnil : ∀ w : World, (binOp .eql 22 (.slice (some p) l.length c) (.slice none 0 0)).run Try.prog w = .ok (.bool false) w := fun w => Lib.run_eql_slice_nil w _ _ _ _ _ _ _ Try.underlying22
  have HRUN := Lib.hid hrun
  have HEND : Hid (∃ g' q', Value.slice (some ⟨g, 0, none⟩) l.length q = .slice (some ⟨g', 0, none⟩) l.length q' ∧ w4.ownsRow 0 43 1 (.slice (some ⟨g', 0, none⟩) l.length q') l.length (nz .u16 l) ∧ w.heap.size ≤ g' ∧ g' < w4.heap.size ∧ Below w.heap.size w w4) := Lib.hid ⟨g, q, rfl, own_base0 hown4, hgg, hlt, hb4⟩
  clear hrun hown4 hg4 hat hb4 hgg hb hown0 hb1 hs hlt
  go_enter Try.func27, Try.ntmps27
  go_wp2_with (first
    | (at_builtin; refine Lib.wpList_append_run _ rfl (.tmp 5) (.tmp 6) 22 22 rfl _ _ rfl rfl _ _ HRUN.out ?_)
    | fail)
  go_ret
  obtain ⟨g', q', e', h1, h2, h3, h4⟩ := HEND.out
  exact ⟨g', q', by rw [e']; rfl, h1, h2, h3, h4⟩

/-- a row that is shown -/
theorem row_shows {w : World} {g n p : Nat} {e : TypeId} {xs : List Value} (h : w.ownsRow 0 e 1 (.slice (some ⟨g, 0, none⟩) n p) n xs) : Shows w w.heap.size (some ⟨g, 0, none⟩) n xs := Shows.owned h

section
variable (w : World) (b g0 p0 g1 p1 : Nat) (c : CS)
theorem may_any (n : Int) : Calls Try.prog 26 #[.int .i64 n] w fun e w' => e = .returned (.bool (decide (1 ≤ n) && decide (n ≤ 1000))) ∧ w = w' := by
  cases h1 : decide (1 ≤ n) with
  | true =>
    go_enter Try.func26, Try.ntmps26
    go_wp2
    go_ret
    exact ⟨by simp, rfl⟩
  | false =>
    go_enter Try.func26, Try.ntmps26
    go_wp2
    go_ret
    exact ⟨by simp, rfl⟩
theorem new_no (A : Option Addr) (n cap : Nat) (h : ¬ (1 ≤ n ∧ n ≤ 1000)) : Calls Try.prog 8 #[.slice A n cap] w fun e w' => e = .returned (.tuple #[.pointer none, .int .i64 2]) ∧ w = w' := by
  have hm := may_any w (n : Int)
  have e1 : (decide (1 ≤ (n : Int)) && decide ((n : Int) ≤ 1000)) = false := by simp; omega
  rw [e1] at hm
  have HM := Lib.hid hm
  clear hm e1
  go_enter Try.func8, Try.ntmps8
  go_wp2_with (first
    | (go_at_call 26; refine HM.out.mono ?_; rintro e w' ⟨rfl, rfl⟩)
    | fail)
  go_ret2
  exact ⟨rfl, rfl⟩
theorem counts_no (p : Value) (h : Calls Try.prog 22 #[p] w fun e w' => e = .returned (.int .i64 0) ∧ w = w') : Calls Try.prog 13 #[p] w fun e w' => e = .returned (.slice none 0 0) ∧ w = w' := by
  have HN := Lib.hid (none_no w p h)
  clear h
  go_enter Try.func13, Try.ntmps13
  go_wp2_with (go_at_call 30; refine HN.out.mono ?_; rintro e w' ⟨rfl, rfl⟩)
  go_ret
  exact ⟨rfl, rfl⟩
theorem copy_no (p : Value) (h : Calls Try.prog 22 #[p] w fun e w' => e = .returned (.int .i64 0) ∧ w = w') : Calls Try.prog 11 #[p] w fun e w' => e = .returned (.pointer none) ∧ w = w' := by
  have HN := Lib.hid (none_no w p h)
  clear h
  go_enter Try.func11, Try.ntmps11
  go_wp2_with (go_at_call 30; refine HN.out.mono ?_; rintro e w' ⟨rfl, rfl⟩)
  go_ret
  exact ⟨rfl, rfl⟩
theorem commit_no (p : Value) (h : Calls Try.prog 22 #[p] w fun e w' => e = .returned (.int .i64 0) ∧ w = w') : Calls Try.prog 14 #[p] w fun e w' => e = .returned (.tuple #[]) ∧ w = w' := by
  have HN := Lib.hid (none_no w p h)
  clear h
  go_enter Try.func14, Try.ntmps14
  go_wp2_with (go_at_call 30; refine HN.out.mono ?_; rintro e w' ⟨rfl, rfl⟩)
  exact bodyPost_ret (v := .tuple #[]) (by exact results_none rfl _ _ _) rfl ⟨rfl, rfl⟩
theorem abort_no (p : Value) (h : Calls Try.prog 22 #[p] w fun e w' => e = .returned (.int .i64 0) ∧ w = w') : Calls Try.prog 15 #[p] w fun e w' => e = .returned (.tuple #[]) ∧ w = w' := by
  have HN := Lib.hid (none_no w p h)
  clear h
  go_enter Try.func15, Try.ntmps15
  go_wp2_with (go_at_call 30; refine HN.out.mono ?_; rintro e w' ⟨rfl, rfl⟩)
  exact bodyPost_ret (v := .tuple #[]) (by exact results_none rfl _ _ _) rfl ⟨rfl, rfl⟩
theorem grow_no (p : Value) (i : Int) (h : Calls Try.prog 22 #[p] w fun e w' => e = .returned (.int .i64 0) ∧ w = w') : Calls Try.prog 25 #[p, .int .i64 i] w fun e w' => e = .returned (.int .i64 1) ∧ w = w' := by
  have HN := Lib.hid (none_no w p h)
  clear h
  go_enter Try.func25, Try.ntmps25
  go_wp2_with (go_at_call 30; refine HN.out.mono ?_; rintro e w' ⟨rfl, rfl⟩)
  go_ret
  exact ⟨rfl, rfl⟩
theorem counts_any (h : AX w b g0 p0 g1 p1 c) : Calls Try.prog 13 #[.pointer (some ⟨b, 0, none⟩)] w fun e w' => ∃ g q, e = .returned (.slice (some ⟨g, 0, none⟩) c.now.length q) ∧ w'.ownsRow 0 43 1 (.slice (some ⟨g, 0, none⟩) c.now.length q) c.now.length (nz .u16 c.now) ∧ w.heap.size ≤ g ∧ g < w'.heap.size ∧ Below w.heap.size w w' := by
  have HN := Lib.hid (none_any w b g0 p0 g1 p1 c h)
  have HC := Lib.hid (clone_any w _ ⟨g0, 0, none⟩ c.now p0 h.ok.n0 (by have := h.ok.n1; omega) (row_shows h.now))
  have c0 := h.c0
  clear h
  go_enter Try.func13, Try.ntmps13
  go_wp2_with (first
    | (go_at_call 30; refine HN.out.mono ?_; rintro e w' ⟨rfl, rfl⟩)
    | (go_at_call 27; refine HC.out.mono ?_; rintro e w' ⟨g, q, rfl, h1, h2, h3, h4⟩)
    | fail)
  go_ret
  exact ⟨_, _, rfl, h1, h2, h3, h4⟩

/-- a new area of two clones -/
theorem new_area (w w1 w2 : World) (l l2 : List Nat) (g0 q0 g1 q1 a1 k1 : Nat) (h1 : w1.ownsRow 0 43 1 (.slice (some ⟨g0, 0, none⟩) l.length q0) l.length (nz .u16 l)) (hg0 : w.heap.size ≤ g0) (hl0 : g0 < w1.heap.size) (hb1 : Below w.heap.size w w1)
    (h2 : w2.ownsRow 0 43 1 (.slice (some ⟨g1, 0, none⟩) l2.length q1) l2.length (nz .u16 l2)) (hg1 : w1.heap.size ≤ g1) (hb2 : Below w1.heap.size w1 w2) (hok : CS.ok ⟨l, l2, a1, k1⟩) :
    AX (w2.alloc (.cells #[.slice (some ⟨g0, 0, none⟩) l.length q0, .slice (some ⟨g1, 0, none⟩) l.length q1, .int .i64 (a1 : Int), .int .i64 (k1 : Int)] 46)) w2.heap.size g0 q0 g1 q1 ⟨l, l2, a1, k1⟩ ∧
    (∀ j, foot w2.heap.size g0 g1 j → w.heap.size ≤ j) ∧ Below w.heap.size w (w2.alloc (.cells #[.slice (some ⟨g0, 0, none⟩) l.length q0, .slice (some ⟨g1, 0, none⟩) l.length q1, .int .i64 (a1 : Int), .int .i64 (k1 : Int)] 46)) := by
  have hl : l2.length = l.length := hok.len
  have hs1 := hb1.size
  have hs2 := hb2.size
  have hg1l := (h2.lt g1 rfl).2
  rw [hl] at h2
  refine ⟨⟨heap_alloc_new w2 _, ?_, h2.alloc _, by omega, hok⟩, ?_, ?_⟩
  · exact (rowS_on h1 (fun k hk => by injection hk with hk; have hk' : g0 = k := hk; subst hk'; exact hb2.block _ hl0)).alloc _
  · rintro j (rfl | rfl | rfl)
    · omega
    · omega
    · omega
  · exact (hb1.trans (hb2.mono hs1)).alloc (by omega) _
theorem new_any (B : Nat) (A : Option Addr) (l : List Nat) (cap : Nat) (hs : Shows w B A l.length (nz .u16 l)) (h0 : 1 ≤ l.length ∧ l.length ≤ 1000) (hB : B ≤ w.heap.size) (h16 : ∀ x ∈ l, x ≤ 65535) :
    Calls Try.prog 8 #[.slice A l.length cap] w fun e w' => ∃ b g0 p0 g1 p1, e = .returned (.tuple #[.pointer (some ⟨b, 0, none⟩), .int .i64 0]) ∧ AX w' b g0 p0 g1 p1 ⟨l, l, 0, 0⟩ ∧ (∀ j, foot b g0 g1 j → w.heap.size ≤ j) ∧ Below w.heap.size w w' := by
  have hm := may_any w (l.length : Int)
  have e1 : (decide (1 ≤ (l.length : Int)) && decide ((l.length : Int) ≤ 1000)) = true := by simp; omega
  rw [e1] at hm
  have HM := Lib.hid hm
  obtain ⟨p, rfl, hp, _⟩ := hs.lies (by omega)
  have HC := Lib.hid (fun W (hb : Below w.heap.size w W) => clone_any W B p l cap (by omega) (by omega) (hs.moved fun q hq => hb.cell (Nat.lt_of_lt_of_le hq hB)))
  have HOK : Hid (CS.ok ⟨l, l, 0, 0⟩) := Lib.hid ⟨by simp; omega, by simp; omega, rfl, h16, h16, by simp; omega, by simp; omega⟩
  clear hm e1 hs
  go_enter Try.func8, Try.ntmps8
  go_wp2_with (first
    | (go_at_call 26; refine HM.out.mono ?_; rintro e w' ⟨rfl, rfl⟩)
    | (go_at_call 27; (with_reducible refine (HC.out _ (Below.refl _ _)).mono ?_); rintro e w1 ⟨g0, q0, rfl, h1, h2, h3, h4⟩)
    | (go_at_call 27; (with_reducible refine (HC.out _ h4).mono ?_); rintro e w2 ⟨g1, q1, rfl, k1, k2, k3, k4⟩)
    | fail)
  go_ret2
  obtain ⟨r1, r2, r3⟩ := new_area w w1 w2 l l g0 q0 g1 q1 0 0 h1 h2 h3 h4 k1 k2 k4 HOK.out
  exact ⟨_, g0, q0, g1, q1, rfl, r1, r2, r3⟩
end
end Go.Proofs.Ytiodhihddpbadaa
