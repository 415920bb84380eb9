/- Over's value; Grow. -/
import Derived.Test.YtbencgjihoiieaaPg
import Derived.Lib.AppendZeros
set_option linter.unusedVariables false
namespace Go.Proofs.Ytbencgjihoiieaa
open Go.RowKit Go.Shelf
attribute [local go_sem] Oper.semAt_some

def overX (x y : Int) : List (Int × SP) := match badRow x y with
  | true => []
  | false => overL x.toNat y.toNat
theorem overX_bad {x y : Int} (h : badRow x y = true) : overX x y = [] := by unfold overX; rw [h]
theorem overX_good (a c : Nat) (hc : 0 < c) (h : a + c ≤ 1073741824) : overX (a : Int) (c : Int) = overL a c := by unfold overX; rw [row_good a c hc h]; rfl
theorem rowN_good (a c : Nat) (hc : 0 < c) (h : a + c ≤ 1073741824) : rowN (a : Int) (c : Int) = nB a c := by unfold rowN; rw [row_good a c hc h]; rfl
theorem overX_length (x y : Int) : (overX x y).length = rowN x y := by
  unfold overX rowN
  cases badRow x y with
  | true => rfl
  | false => exact overL_length _ _
theorem overX_snd (x y : Int) : (overX x y).map (·.2) = rowL x y := by
  unfold overX rowL
  cases badRow x y with
  | true => rfl
  | false => exact overL_snd _ _
theorem rowN_le (x y : Int) : rowN x y ≤ 1073741824 := by
  rcases row_cases x y with h | ⟨a, c, rfl, rfl, hc, h⟩
  · unfold rowN; rw [h]; simp
  · rw [rowN_good a c hc h]; have := nB_le a c; omega

set_option maxRecDepth 100000 in
set_option maxHeartbeats 2000000 in
theorem over1_bad (n : Nat) (hn : 1 ≤ n) (l B1 B2 : Nat) (x y : Int) (hx : -9223372036854775808 ≤ x ∧ x ≤ 9223372036854775807) (hy : -9223372036854775808 ≤ y ∧ y ≤ 9223372036854775807) (hb : badRow x y = true) (J : List (Int × SP) → World → Prop)
    (W : World) (h1 : Boxed W B1 3 (.int .i64 x)) (h2 : Boxed W B2 3 (.int .i64 y)) (h0 : J [] W) :
    CallsIn Fence.wide n Try.prog 23 #[.func (.yield l) #[] #[], .pointer (some ⟨B1, 0, none⟩), .pointer (some ⟨B2, 0, none⟩)] W fun e W' => (∃ v, e = .returned v) ∧ J [] W' := by
  have hB := blocks_any W x y hx hy
  have hr : rowN x y = 0 := by unfold rowN; rw [hb]
  rw [hr] at hB
  have HB := Lib.hid hB
  have H0 := Lib.hid h0
  clear hB hr hb h0 hx hy
  have hc1 := h1.cell
  have hc2 := h2.cell
  clear h1 h2
  refine callsIn_of_wp Try.func23 rfl trivial ?_ rfl
  simp only [Try.ntmps23, List.size_toArray, List.length_cons, List.length_nil, Nat.reduceAdd, Nat.reduceSub, Array.replicate_succ, Array.replicate_zero, List.push_toArray, List.append_toArray, List.nil_append, List.cons_append]
  gi_wp2_with (refine ⟨trivial, ?_⟩; gi_at_call 11; refine (callsIn_wide.2 HB.out).mono ?_; rintro e w' ⟨rfl, rfl⟩)
  gi_loopw [11] (fun i wr => i = .int .i64 0 ∧ wr = w') (fun i _ => 0)
  case atStart => exact ⟨rfl, rfl⟩
  case round =>
    obtain ⟨rfl, rfl⟩ := hrel
    gi_wp2
    go_end0
    exact ⟨⟨_, rfl⟩, H0.out⟩

/-- what Over hands back goes over the row's parts -/
theorem over_stops (n : Nat) (hn : 1 ≤ n) (B1 B2 : Nat) (x y : Int) (hx : -9223372036854775808 ≤ x ∧ x ≤ 9223372036854775807) (hy : -9223372036854775808 ≤ y ∧ y ≤ 9223372036854775807) (w : World)
    (h1 : Boxed w B1 3 (.int .i64 x)) (h2 : Boxed w B2 3 (.int .i64 y)) :
    SeqStopsK Fence.wide n Try.prog 23 #[.pointer (some ⟨B1, 0, none⟩), .pointer (some ⟨B2, 0, none⟩)] encO (Kc B1 B2 x y) (fun ys => ys = overX x y) (fun pre => pre <+: overX x y) (rowN x y) w := by
  intro l J Jx W hW hJ hJx hY h0
  have c1 : Boxed W B1 3 (.int .i64 x) := (hW.block _ h1.lt).trans h1
  have c2 : Boxed W B2 3 (.int .i64 y) := (hW.block _ h2.lt).trans h2
  rcases row_cases x y with hb | ⟨a, c, rfl, rfl, hc, hac⟩
  · refine (over1_bad n hn l B1 B2 x y hx hy hb J W c1 c2 h0).mono ?_
    rintro e W' ⟨hv, hj⟩
    exact ⟨hv, .inl ⟨[], (overX_bad hb).symm, hj⟩⟩
  · rw [rowN_good a c hc hac] at hY
    refine (over1_in n hn l B1 B2 a c hc hac J Jx W W.heap.size hJ hY c1 c2 h0).mono ?_
    rintro e W' hp
    rw [overX_good a c hc hac]
    exact hp

theorem over_in (n : Nat) (x y : Int) (w : World) : CallsIn Fence.wide n Try.prog 19 #[.int .i64 x, .int .i64 y] w fun e w' =>
    e = .returned (.func (.func 23) #[] #[.pointer (some ⟨w.heap.size, 0, none⟩), .pointer (some ⟨w.heap.size + 1, 0, none⟩)]) ∧ w' = (w.alloc (.cells #[.int .i64 x] 3)).alloc (.cells #[.int .i64 y] 3) := by
  refine callsIn_of_wp Try.func19 rfl trivial ?_ rfl
  simp only [Try.ntmps19, List.size_toArray, List.length_cons, List.length_nil, Nat.reduceAdd, Nat.reduceSub, Array.replicate_succ, Array.replicate_zero, List.push_toArray, List.append_toArray, List.nil_append, List.cons_append]
  gi_wp2
  go_ret
  exact ⟨rfl, rfl⟩

theorem span_info : (Try.prog.info? 23).map (fun i => (i.zero, i.size, i.bytes)) = some (some (.agg #[.int .i64 0, .int .i64 0, .int .i64 0]), 3, 24) := by kernel_rfl
/-- Grow of nothing -/
theorem grow_any (w : World) (n : Nat) (hn : n ≤ 1073741824) : Calls Try.prog 18 #[.slice none 0 0, .int .i64 (n : Int)] w fun e w' =>
    ∃ A c, e = .returned (.slice A 0 c) ∧ w'.ownsRow w.heap.size 23 3 (.slice A 0 c) 0 [] ∧ Below w.heap.size w w' := by
  obtain ⟨i0, hi0, hz0, hz1, hz2⟩ := info_parts span_info
  by_cases h0 : n = 0
  · subst h0
    have hb := Lib.hid (Below.refl w.heap.size w)
    go_enter Try.func18, Try.ntmps18
    go_wp2
    go_ret
    exact ⟨none, 0, rfl, World.ownsRow_nil _ _ _ _, hb.out⟩
  · have h1 : (0 : Int) < (n : Int) := by omega
    have hr := Lib.run_append_nil_zeros (P := Try.prog) w 25 3 25 23 i0 _ .i64 .i64 Try.underlying25 Try.underlying3 hi0 hz0 n (by omega) (by omega) (by omega) (by rw [hz2]; omega)
    have hG := grownCap_le_maxLen w n 0 23 (by unfold maxLen; omega)
    have hGe := grownCap_ge w n 0 23
    generalize grownCap w n 0 23 = G at hr hG hGe
    have hcs : (Builtin.zeroCells (Value.agg #[.int .i64 0, .int .i64 0, .int .i64 0]).cells n ++ Builtin.zeroCells (Value.agg #[.int .i64 0, .int .i64 0, .int .i64 0]).cells (G - n)).size = G * 3 := by
      rw [Array.size_append, size_zeroCells, size_zeroCells]
      show n * 3 + (G - n) * 3 = G * 3
      omega
    generalize Builtin.zeroCells (Value.agg #[.int .i64 0, .int .i64 0, .int .i64 0]).cells n ++ Builtin.zeroCells (Value.agg #[.int .i64 0, .int .i64 0, .int .i64 0]).cells (G - n) = cs at hr hcs
    have HR := Lib.hid hr
    have HC := Lib.hid hcs
    clear hr hcs
    go_enter Try.func18, Try.ntmps18
    go_wp2_with (first | (at_builtin; refine Lib.wpList_append_run _ rfl _ _ _ _ rfl _ _ rfl rfl _ _ HR.out ?_) | fail)
    go_ret
    refine ⟨_, _, rfl, ⟨rfl, .inr ⟨w.heap.size, G, cs, rfl, Nat.le_refl _, ?_, Nat.zero_le _, hG, HC.out, by simp⟩⟩, ?_⟩
    · exact heap_alloc_new _ _
    · exact ((Below.refl w.heap.size w).alloc (Nat.le_refl _) _).drew
end Go.Proofs.Ytbencgjihoiieaa
