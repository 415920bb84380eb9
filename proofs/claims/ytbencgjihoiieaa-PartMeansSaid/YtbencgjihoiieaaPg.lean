/- Over: the iterator's contract. -/
import Derived.Test.YtbencgjihoiieaaPf
import Derived.RangeFuncNested
import Derived.RangeFuncBound
import Derived.RangeFuncCalls
import Derived.RangeFuncLeaves
import Derived.Shelf.Abstract
import Derived.Shelf.RegionOpen
import Derived.OwnWalkIn
import Derived.TacticsInMore
import Derived.LoopNIn
import Derived.LoopIn
set_option linter.unusedVariables false
namespace Go.Proofs.Ytbencgjihoiieaa
open Go.RowKit Go.Shelf
attribute [local go_sem] Oper.semAt_some

/-- what a round keeps: the two captured boxes -/
def Kc (B1 B2 : Nat) (x y : Int) (W W' : World) : Prop := (Boxed W B1 3 (.int .i64 x) → Boxed W' B1 3 (.int .i64 x)) ∧ (Boxed W B2 3 (.int .i64 y) → Boxed W' B2 3 (.int .i64 y))
theorem Kc.trans {B1 B2 : Nat} {x y : Int} {A B C : World} (h : Kc B1 B2 x y A B) (k : Kc B1 B2 x y B C) : Kc B1 B2 x y A C := ⟨fun a => k.1 (h.1 a), fun a => k.2 (h.2 a)⟩
theorem boxed_ne {W : World} {B l : Nat} {t : TypeId} {v : Value} {o : Obj} (a : Boxed W B t v) (h : W.heap[l]? = some o) (hc : o.isCells = false) : some B ≠ some l := fun e => by
  injection e with e
  subst e
  rw [show W.heap[B]? = _ from a] at h
  cases h
  cases hc
theorem Kc.put {B1 B2 : Nat} {x y : Int} (W : World) (l : Nat) (o o' : Obj) (h : W.heap[l]? = some o) (hc : o.isCells = false) : Kc B1 B2 x y W (W.putObj l o') :=
  ⟨fun a => a.kept (grownBy_putObj' W l o') (boxed_ne a h hc), fun a => a.kept (grownBy_putObj' W l o') (boxed_ne a h hc)⟩
theorem Kc.alloc {B1 B2 : Nat} {x y : Int} (W : World) (o : Obj) : Kc B1 B2 x y W (W.alloc o) := ⟨fun a => a.alloc o, fun a => a.alloc o⟩
theorem Kc.refl {B1 B2 : Nat} {x y : Int} (W : World) : Kc B1 B2 x y W W := ⟨fun a => a, fun a => a⟩
/-- what yield is handed -/
abbrev encO (x : Int × SP) : Array Value := #[.int .i64 x.1, .agg #[.int .i64 x.2.b, .int .i64 x.2.f, .int .i64 x.2.t]]

theorem over_take (a c k : Nat) (h : k < nB a c) (x : Int × SP) (hx : x = (aheadI a k, partI a c k)) : (overL a c).take k ++ [x] = (overL a c).take (k + 1) := by
  have hl : k < (overL a c).length := by rw [overL_length]; exact h
  rw [List.take_succ_eq_append_getElem hl, hx]
  have := overL_get a c k h
  rw [List.getElem?_eq_getElem hl] at this
  injection this with this
  rw [this]
theorem over_len (a c k : Nat) (h : k < nB a c) : ((overL a c).take k).length < nB a c := by rw [List.length_take, overL_length]; omega
theorem over_pre (a c k : Nat) (x : Int × SP) (h : (overL a c).take k ++ [x] = (overL a c).take (k + 1)) : (overL a c).take k ++ [x] <+: overL a c := by rw [h]; exact List.take_prefix _ _
theorem pair_same {x y : Int × SP} (h1 : x.1 = y.1) (hb : x.2.b = y.2.b) (hf : x.2.f = y.2.f) (ht : x.2.t = y.2.t) : x = y := by cases x; cases y; simp at h1 hb hf ht; rw [h1, SP.same hb hf ht]
/-- between two rounds -/
structure OI (B1 B2 a c : Nat) (J : List (Int × SP) → World → Prop) (W wr : World) (k : Nat) : Prop where
  j : J ((overL a c).take k) wr
  c1 : Boxed wr B1 3 (.int .i64 (a : Int))
  c2 : Boxed wr B2 3 (.int .i64 (c : Int))
def overPost (a c : Nat) (J Jx : List (Int × SP) → World → Prop) (e : Ending) (W' : World) : Prop := (∃ v, e = .returned v) ∧ ((∃ ys, ys = overL a c ∧ J ys W') ∨ (∃ pre, pre <+: overL a c ∧ Jx pre W'))
set_option maxRecDepth 100000 in
set_option maxHeartbeats 4000000 in
theorem over1_in (n : Nat) (hn : 1 ≤ n) (l B1 B2 : Nat) (a c : Nat) (hc : 0 < c) (hac : a + c ≤ 1073741824) (J Jx : List (Int × SP) → World → Prop)
    (W : World) (n₀ : Nat) (hJ : AbidesFrom n₀ J)
    (hY : ∀ pre x W, J pre W → pre.length < nB a c → YieldAt Fence.wide (n - 1) Try.prog l (encO x) W fun e W' =>
      (e = .returned (.bool true) ∧ J (pre ++ [x]) W' ∧ Kc B1 B2 a c W W') ∨ (e = .returned (.bool false) ∧ Jx (pre ++ [x]) W'))
    (h1 : Boxed W B1 3 (.int .i64 (a : Int))) (h2 : Boxed W B2 3 (.int .i64 (c : Int))) (h0 : J [] W) :
    CallsIn Fence.wide n Try.prog 23 #[.func (.yield l) #[] #[], .pointer (some ⟨B1, 0, none⟩), .pointer (some ⟨B2, 0, none⟩)] W (overPost a c J Jx) := by
  have HB := Lib.hid (blocks_any W (a : Int) (c : Int) (by omega) (by omega))
  have hr : rowN (a : Int) (c : Int) = nB a c := by unfold rowN; rw [row_good a c hc hac]; rfl
  rw [hr] at HB
  have hnle := nB_le a c
  clear hr
  have HJ := Lib.hid hJ
  have HY := Lib.hid hY
  have H0 : Hid (OI B1 B2 a c J W W 0) := ⟨h0, h1, h2⟩
  have HNB : Hid (∀ k, k < nB a c → 4 * (a / 4 + k) < a + c) := fun k hk => by unfold nB at hk; split at hk <;> omega
  clear hJ hY h0
  have hc1 := h1.cell
  have hc2 := h2.cell
  clear h1 h2
  refine callsIn_of_wp Try.func23 rfl trivial ?_ rfl
  simp only [Try.ntmps23, List.size_toArray, List.length_cons, List.length_nil, Nat.reduceAdd, Nat.reduceSub, Array.replicate_succ, Array.replicate_zero, List.push_toArray, List.append_toArray, List.nil_append, List.cons_append]
  gi_wp2_with (refine ⟨trivial, ?_⟩; gi_at_call 11; refine (callsIn_wide.2 HB.out).mono ?_; rintro e w' ⟨rfl, rfl⟩)
  clear hc1 hc2 HB
  gi_loopw [11] (fun i wr => ∃ k : Nat, k ≤ nB a c ∧ i = .int .i64 (k : Int) ∧ Hid (OI B1 B2 a c J w' wr k)) (fun i _ => nB a c - (intOf i).toNat)
  case atStart => exact ⟨0, by omega, rfl, H0⟩
  case round =>
    obtain ⟨k, hk, rfl, HR⟩ := hrel
    clear H0
    by_cases hlt : k < nB a c
    · have hltI : (k : Int) < (nB a c : Int) := by omega
      have hc1 := HR.out.c1.cell
      have hc2 := HR.out.c2.cell
      have hl1 : B1 < wr.heap.size := block_lt_of_cell hc1
      have hl2 : B2 < wr.heap.size := block_lt_of_cell hc2
      have HK := Lib.hid (HNB.out k hlt)
      have HA : ∀ o, Hid (J ((overL a c).take k) (wr.alloc o)) := fun o => HJ.out _ wr (wr.alloc o) none HR.out.j (World.grownBy_alloc wr o none) (fun r e => by cases e)
      have hcs : ((a : Int) - ((a : Int) / 4 + (k : Int)) * 4 < 0 ∧ 0 ≤ ((a : Int) / 4 + (k : Int)) * 4 - (a : Int)) ∨ (0 ≤ (a : Int) - ((a : Int) / 4 + (k : Int)) * 4 ∧ ((a : Int) / 4 + (k : Int)) * 4 - (a : Int) < 0) ∨ (0 ≤ (a : Int) - ((a : Int) / 4 + (k : Int)) * 4 ∧ 0 ≤ ((a : Int) / 4 + (k : Int)) * 4 - (a : Int)) := by omega
      have hds : (4 : Int) < (a : Int) + (c : Int) - ((a : Int) / 4 + (k : Int)) * 4 ∨ (a : Int) + (c : Int) - ((a : Int) / 4 + (k : Int)) * 4 ≤ 4 := by omega
      rcases hcs with ⟨g1, g2⟩ | ⟨g1, g2⟩ | ⟨g1, g2⟩ <;> rcases hds with g3 | g3
      · have hx : (((((a : Int) / 4 + (k : Int)) * 4 - (a : Int), ⟨(a : Int) / 4 + (k : Int), 0, 4⟩) : Int × SP)) = (aheadI a k, partI a c k) := by
          have := HK.out
          apply pair_same <;> simp only [aheadI, partI] <;> omega
        have HT := Lib.hid (over_take a c k hlt _ hx)
        obtain ⟨fn, tmps, assign, body, hy, hR⟩ := HY.out _ ((((a : Int) / 4 + (k : Int)) * 4 - (a : Int), ⟨(a : Int) / 4 + (k : Int), 0, 4⟩) : Int × SP) _ (HA (.cells #[.int .i64 ((a : Int) / 4 + (k : Int)), .int .i64 (0), .int .i64 (4)] 23)).out (over_len a c k hlt)
        have hv : Boxed (wr.alloc (.cells #[.int .i64 ((a : Int) / 4 + (k : Int)), .int .i64 (0), .int .i64 (4)] 23)) B1 3 (.int .i64 (a : Int)) ∧ Boxed (wr.alloc (.cells #[.int .i64 ((a : Int) / 4 + (k : Int)), .int .i64 (0), .int .i64 (4)] 23)) B2 3 (.int .i64 (c : Int)) := ⟨HR.out.c1.alloc _, HR.out.c2.alloc _⟩
        have HV := Lib.hid hv
        clear hx hv HA
        dsimp only [encO] at hy
        gi_wp2
        refine hR.mono ?_
        rintro e W3 (⟨rfl, hJ3, hk3⟩ | ⟨rfl, hJx3⟩)
        · rw [HT.out] at hJ3
          have H3 : Hid (OI B1 B2 a c J w' W3 (k + 1)) := ⟨hJ3, hk3.1 HV.out.1, hk3.2 HV.out.2⟩
          clear hJ3 hk3
          gi_wp2
          go_roundw
          case rel => exact ⟨k + 1, hlt, by go_num, H3⟩
          case measure => simp [intOf]; omega
        · have HX := Lib.hid hJx3
          clear hJx3
          gi_wp2
          refine bodyPost_ret (results_none rfl _ _ _) rfl ?_
          exact ⟨⟨_, rfl⟩, .inr ⟨_, over_pre a c k _ HT.out, HX.out⟩⟩
      · have hx : (((((a : Int) / 4 + (k : Int)) * 4 - (a : Int), ⟨(a : Int) / 4 + (k : Int), 0, (a : Int) + (c : Int) - ((a : Int) / 4 + (k : Int)) * 4⟩) : Int × SP)) = (aheadI a k, partI a c k) := by
          have := HK.out
          apply pair_same <;> simp only [aheadI, partI] <;> omega
        have HT := Lib.hid (over_take a c k hlt _ hx)
        obtain ⟨fn, tmps, assign, body, hy, hR⟩ := HY.out _ ((((a : Int) / 4 + (k : Int)) * 4 - (a : Int), ⟨(a : Int) / 4 + (k : Int), 0, (a : Int) + (c : Int) - ((a : Int) / 4 + (k : Int)) * 4⟩) : Int × SP) _ (HA (.cells #[.int .i64 ((a : Int) / 4 + (k : Int)), .int .i64 (0), .int .i64 ((a : Int) + (c : Int) - ((a : Int) / 4 + (k : Int)) * 4)] 23)).out (over_len a c k hlt)
        have hv : Boxed (wr.alloc (.cells #[.int .i64 ((a : Int) / 4 + (k : Int)), .int .i64 (0), .int .i64 ((a : Int) + (c : Int) - ((a : Int) / 4 + (k : Int)) * 4)] 23)) B1 3 (.int .i64 (a : Int)) ∧ Boxed (wr.alloc (.cells #[.int .i64 ((a : Int) / 4 + (k : Int)), .int .i64 (0), .int .i64 ((a : Int) + (c : Int) - ((a : Int) / 4 + (k : Int)) * 4)] 23)) B2 3 (.int .i64 (c : Int)) := ⟨HR.out.c1.alloc _, HR.out.c2.alloc _⟩
        have HV := Lib.hid hv
        clear hx hv HA
        dsimp only [encO] at hy
        gi_wp2
        refine hR.mono ?_
        rintro e W3 (⟨rfl, hJ3, hk3⟩ | ⟨rfl, hJx3⟩)
        · rw [HT.out] at hJ3
          have H3 : Hid (OI B1 B2 a c J w' W3 (k + 1)) := ⟨hJ3, hk3.1 HV.out.1, hk3.2 HV.out.2⟩
          clear hJ3 hk3
          gi_wp2
          go_roundw
          case rel => exact ⟨k + 1, hlt, by go_num, H3⟩
          case measure => simp [intOf]; omega
        · have HX := Lib.hid hJx3
          clear hJx3
          gi_wp2
          refine bodyPost_ret (results_none rfl _ _ _) rfl ?_
          exact ⟨⟨_, rfl⟩, .inr ⟨_, over_pre a c k _ HT.out, HX.out⟩⟩
      · have hx : (((0, ⟨(a : Int) / 4 + (k : Int), (a : Int) - ((a : Int) / 4 + (k : Int)) * 4, 4⟩) : Int × SP)) = (aheadI a k, partI a c k) := by
          have := HK.out
          apply pair_same <;> simp only [aheadI, partI] <;> omega
        have HT := Lib.hid (over_take a c k hlt _ hx)
        obtain ⟨fn, tmps, assign, body, hy, hR⟩ := HY.out _ ((0, ⟨(a : Int) / 4 + (k : Int), (a : Int) - ((a : Int) / 4 + (k : Int)) * 4, 4⟩) : Int × SP) _ (HA (.cells #[.int .i64 ((a : Int) / 4 + (k : Int)), .int .i64 ((a : Int) - ((a : Int) / 4 + (k : Int)) * 4), .int .i64 (4)] 23)).out (over_len a c k hlt)
        have hv : Boxed (wr.alloc (.cells #[.int .i64 ((a : Int) / 4 + (k : Int)), .int .i64 ((a : Int) - ((a : Int) / 4 + (k : Int)) * 4), .int .i64 (4)] 23)) B1 3 (.int .i64 (a : Int)) ∧ Boxed (wr.alloc (.cells #[.int .i64 ((a : Int) / 4 + (k : Int)), .int .i64 ((a : Int) - ((a : Int) / 4 + (k : Int)) * 4), .int .i64 (4)] 23)) B2 3 (.int .i64 (c : Int)) := ⟨HR.out.c1.alloc _, HR.out.c2.alloc _⟩
        have HV := Lib.hid hv
        clear hx hv HA
        dsimp only [encO] at hy
        gi_wp2
        refine hR.mono ?_
        rintro e W3 (⟨rfl, hJ3, hk3⟩ | ⟨rfl, hJx3⟩)
        · rw [HT.out] at hJ3
          have H3 : Hid (OI B1 B2 a c J w' W3 (k + 1)) := ⟨hJ3, hk3.1 HV.out.1, hk3.2 HV.out.2⟩
          clear hJ3 hk3
          gi_wp2
          go_roundw
          case rel => exact ⟨k + 1, hlt, by go_num, H3⟩
          case measure => simp [intOf]; omega
        · have HX := Lib.hid hJx3
          clear hJx3
          gi_wp2
          refine bodyPost_ret (results_none rfl _ _ _) rfl ?_
          exact ⟨⟨_, rfl⟩, .inr ⟨_, over_pre a c k _ HT.out, HX.out⟩⟩
      · have hx : (((0, ⟨(a : Int) / 4 + (k : Int), (a : Int) - ((a : Int) / 4 + (k : Int)) * 4, (a : Int) + (c : Int) - ((a : Int) / 4 + (k : Int)) * 4⟩) : Int × SP)) = (aheadI a k, partI a c k) := by
          have := HK.out
          apply pair_same <;> simp only [aheadI, partI] <;> omega
        have HT := Lib.hid (over_take a c k hlt _ hx)
        obtain ⟨fn, tmps, assign, body, hy, hR⟩ := HY.out _ ((0, ⟨(a : Int) / 4 + (k : Int), (a : Int) - ((a : Int) / 4 + (k : Int)) * 4, (a : Int) + (c : Int) - ((a : Int) / 4 + (k : Int)) * 4⟩) : Int × SP) _ (HA (.cells #[.int .i64 ((a : Int) / 4 + (k : Int)), .int .i64 ((a : Int) - ((a : Int) / 4 + (k : Int)) * 4), .int .i64 ((a : Int) + (c : Int) - ((a : Int) / 4 + (k : Int)) * 4)] 23)).out (over_len a c k hlt)
        have hv : Boxed (wr.alloc (.cells #[.int .i64 ((a : Int) / 4 + (k : Int)), .int .i64 ((a : Int) - ((a : Int) / 4 + (k : Int)) * 4), .int .i64 ((a : Int) + (c : Int) - ((a : Int) / 4 + (k : Int)) * 4)] 23)) B1 3 (.int .i64 (a : Int)) ∧ Boxed (wr.alloc (.cells #[.int .i64 ((a : Int) / 4 + (k : Int)), .int .i64 ((a : Int) - ((a : Int) / 4 + (k : Int)) * 4), .int .i64 ((a : Int) + (c : Int) - ((a : Int) / 4 + (k : Int)) * 4)] 23)) B2 3 (.int .i64 (c : Int)) := ⟨HR.out.c1.alloc _, HR.out.c2.alloc _⟩
        have HV := Lib.hid hv
        clear hx hv HA
        dsimp only [encO] at hy
        gi_wp2
        refine hR.mono ?_
        rintro e W3 (⟨rfl, hJ3, hk3⟩ | ⟨rfl, hJx3⟩)
        · rw [HT.out] at hJ3
          have H3 : Hid (OI B1 B2 a c J w' W3 (k + 1)) := ⟨hJ3, hk3.1 HV.out.1, hk3.2 HV.out.2⟩
          clear hJ3 hk3
          gi_wp2
          go_roundw
          case rel => exact ⟨k + 1, hlt, by go_num, H3⟩
          case measure => simp [intOf]; omega
        · have HX := Lib.hid hJx3
          clear hJx3
          gi_wp2
          refine bodyPost_ret (results_none rfl _ _ _) rfl ?_
          exact ⟨⟨_, rfl⟩, .inr ⟨_, over_pre a c k _ HT.out, HX.out⟩⟩
      · have hx : (((((a : Int) / 4 + (k : Int)) * 4 - (a : Int), ⟨(a : Int) / 4 + (k : Int), (a : Int) - ((a : Int) / 4 + (k : Int)) * 4, 4⟩) : Int × SP)) = (aheadI a k, partI a c k) := by
          have := HK.out
          apply pair_same <;> simp only [aheadI, partI] <;> omega
        have HT := Lib.hid (over_take a c k hlt _ hx)
        obtain ⟨fn, tmps, assign, body, hy, hR⟩ := HY.out _ ((((a : Int) / 4 + (k : Int)) * 4 - (a : Int), ⟨(a : Int) / 4 + (k : Int), (a : Int) - ((a : Int) / 4 + (k : Int)) * 4, 4⟩) : Int × SP) _ (HA (.cells #[.int .i64 ((a : Int) / 4 + (k : Int)), .int .i64 ((a : Int) - ((a : Int) / 4 + (k : Int)) * 4), .int .i64 (4)] 23)).out (over_len a c k hlt)
        have hv : Boxed (wr.alloc (.cells #[.int .i64 ((a : Int) / 4 + (k : Int)), .int .i64 ((a : Int) - ((a : Int) / 4 + (k : Int)) * 4), .int .i64 (4)] 23)) B1 3 (.int .i64 (a : Int)) ∧ Boxed (wr.alloc (.cells #[.int .i64 ((a : Int) / 4 + (k : Int)), .int .i64 ((a : Int) - ((a : Int) / 4 + (k : Int)) * 4), .int .i64 (4)] 23)) B2 3 (.int .i64 (c : Int)) := ⟨HR.out.c1.alloc _, HR.out.c2.alloc _⟩
        have HV := Lib.hid hv
        clear hx hv HA
        dsimp only [encO] at hy
        gi_wp2
        refine hR.mono ?_
        rintro e W3 (⟨rfl, hJ3, hk3⟩ | ⟨rfl, hJx3⟩)
        · rw [HT.out] at hJ3
          have H3 : Hid (OI B1 B2 a c J w' W3 (k + 1)) := ⟨hJ3, hk3.1 HV.out.1, hk3.2 HV.out.2⟩
          clear hJ3 hk3
          gi_wp2
          go_roundw
          case rel => exact ⟨k + 1, hlt, by go_num, H3⟩
          case measure => simp [intOf]; omega
        · have HX := Lib.hid hJx3
          clear hJx3
          gi_wp2
          refine bodyPost_ret (results_none rfl _ _ _) rfl ?_
          exact ⟨⟨_, rfl⟩, .inr ⟨_, over_pre a c k _ HT.out, HX.out⟩⟩
      · have hx : (((((a : Int) / 4 + (k : Int)) * 4 - (a : Int), ⟨(a : Int) / 4 + (k : Int), (a : Int) - ((a : Int) / 4 + (k : Int)) * 4, (a : Int) + (c : Int) - ((a : Int) / 4 + (k : Int)) * 4⟩) : Int × SP)) = (aheadI a k, partI a c k) := by
          have := HK.out
          apply pair_same <;> simp only [aheadI, partI] <;> omega
        have HT := Lib.hid (over_take a c k hlt _ hx)
        obtain ⟨fn, tmps, assign, body, hy, hR⟩ := HY.out _ ((((a : Int) / 4 + (k : Int)) * 4 - (a : Int), ⟨(a : Int) / 4 + (k : Int), (a : Int) - ((a : Int) / 4 + (k : Int)) * 4, (a : Int) + (c : Int) - ((a : Int) / 4 + (k : Int)) * 4⟩) : Int × SP) _ (HA (.cells #[.int .i64 ((a : Int) / 4 + (k : Int)), .int .i64 ((a : Int) - ((a : Int) / 4 + (k : Int)) * 4), .int .i64 ((a : Int) + (c : Int) - ((a : Int) / 4 + (k : Int)) * 4)] 23)).out (over_len a c k hlt)
        have hv : Boxed (wr.alloc (.cells #[.int .i64 ((a : Int) / 4 + (k : Int)), .int .i64 ((a : Int) - ((a : Int) / 4 + (k : Int)) * 4), .int .i64 ((a : Int) + (c : Int) - ((a : Int) / 4 + (k : Int)) * 4)] 23)) B1 3 (.int .i64 (a : Int)) ∧ Boxed (wr.alloc (.cells #[.int .i64 ((a : Int) / 4 + (k : Int)), .int .i64 ((a : Int) - ((a : Int) / 4 + (k : Int)) * 4), .int .i64 ((a : Int) + (c : Int) - ((a : Int) / 4 + (k : Int)) * 4)] 23)) B2 3 (.int .i64 (c : Int)) := ⟨HR.out.c1.alloc _, HR.out.c2.alloc _⟩
        have HV := Lib.hid hv
        clear hx hv HA
        dsimp only [encO] at hy
        gi_wp2
        refine hR.mono ?_
        rintro e W3 (⟨rfl, hJ3, hk3⟩ | ⟨rfl, hJx3⟩)
        · rw [HT.out] at hJ3
          have H3 : Hid (OI B1 B2 a c J w' W3 (k + 1)) := ⟨hJ3, hk3.1 HV.out.1, hk3.2 HV.out.2⟩
          clear hJ3 hk3
          gi_wp2
          go_roundw
          case rel => exact ⟨k + 1, hlt, by go_num, H3⟩
          case measure => simp [intOf]; omega
        · have HX := Lib.hid hJx3
          clear hJx3
          gi_wp2
          refine bodyPost_ret (results_none rfl _ _ _) rfl ?_
          exact ⟨⟨_, rfl⟩, .inr ⟨_, over_pre a c k _ HT.out, HX.out⟩⟩
    · obtain rfl : k = nB a c := by omega
      have hltI : ¬ (nB a c : Int) < (nB a c : Int) := by omega
      have HZ : Hid (J (overL a c) wr) := by
        have := HR.out.j
        rwa [List.take_of_length_le (by rw [overL_length]; exact Nat.le_refl _)] at this
      gi_wp2
      go_end0
      exact ⟨⟨_, rfl⟩, .inl ⟨_, rfl, HZ.out⟩⟩
end Go.Proofs.Ytbencgjihoiieaa
