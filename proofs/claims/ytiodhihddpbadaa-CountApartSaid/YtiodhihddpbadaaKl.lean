/- The law's same. -/
import Derived.Test.YtiodhihddpbadaaKj
namespace Go.Proofs.Ytiodhihddpbadaa
open Go.RowKit

theorem lookN_in (l : List Nat) (i : Nat) (h : i < l.length) : lookN l (i : Int) = l.getD i 0 := by
  unfold lookN
  rw [if_pos (by omega)]
  congr 1
theorem lookN_out (l : List Nat) (i : Int) (h : ¬ (0 ≤ i ∧ i < (l.length : Int))) : lookN l i = 0 := by unfold lookN; rw [if_neg h]
set_option maxRecDepth 20000 in
set_option maxHeartbeats 2000000 in
theorem same_any (w : World) (b g0 p0 g1 p1 br h0 q0 h1 q1 : Nat) (c : CS) (hA : AX w b g0 p0 g1 p1 c) (hR : RX w br h0 q0 h1 q1 c) :
    Calls Try.prog 9 #[.pointer (some ⟨b, 0, none⟩), .pointer (some ⟨br, 0, none⟩)] w fun e w' => e = .returned (.bool true) ∧ Below w.heap.size w w' := by
  have HC := Lib.hid (counts_any w b g0 p0 g1 p1 c hA)
  have HALL : Hid (∀ W, Below w.heap.size w W → AX W b g0 p0 g1 p1 c ∧ RX W br h0 q0 h1 q1 c) := fun W hb => ⟨hA.below hb, hR.below hb⟩
  have n0 := hA.ok.n0
  have n1 := hA.ok.n1
  have HOK := Lib.hid hA.ok
  clear hA hR
  go_enter Try.func9, Try.ntmps9
  go_wp2_with (first
    | (go_at_call 13; (with_reducible refine HC.out.mono ?_); rintro e w1 ⟨g, q, rfl, hrow, hg1, hg2, hb⟩; obtain ⟨k1, k2⟩ := HALL.out _ hb; have r0 := k2.c0; have r1 := k2.c1; have r2 := k2.c2; have d0 := (k2.drew).c0; have d2 := (k2.drew).c2; have HB := Lib.hid hb; have HROW := Lib.hid hrow; have HA := Lib.hid k1; have HR := Lib.hid k2; clear hb hrow k1 k2 hg1 hg2)
    | fail)
  have HA0 := Lib.hid HA.out.drew
  have HR0 := Lib.hid HR.out.drew
  have b1 : ((c.now.length : Int) != (c.now.length : Int)) = false := by simp
  have b2 : ((c.at_ : Int) != (c.at_ : Int)) = false := by simp
  have b3 : ((roomN c c.now.length : Int) != (roomN c c.now.length : Int)) = false := by simp
  have HS0 : Hid (w1.drew.cell? ⟨br, 0, none⟩ = some (.slice (some ⟨h0, 0, none⟩) c.now.length q0) ∧ w1.drew.cell? ⟨br, 2, none⟩ = some (.int .i64 (c.at_ : Int))) := Lib.hid ⟨d0, d2⟩
  clear d0 d2
  go_region_held_law (fun W => W.cell? ⟨br, 0, none⟩ = some (.slice (some ⟨h0, 0, none⟩) c.now.length q0) ∧ W.cell? ⟨br, 2, none⟩ = some (.int .i64 (c.at_ : Int)))
    (first | with_reducible exact HS0.out)
    (first
      | (go_at_call 22; (with_reducible refine (len_any _ _ _ _ _ _ _ HA0.out).mono ?_); rintro e wa ⟨rfl, rfl⟩)
      | (go_at_call 23; (with_reducible refine (cursor_any _ _ _ _ _ _ _ HA0.out).mono ?_); rintro e wa ⟨rfl, rfl⟩)
      | (go_at_call 21; (with_reducible refine (room_any _ _ _ _ _ _ _ HA0.out).mono ?_); rintro e wa ⟨rfl, rfl⟩)
      | (go_at_call 28; (with_reducible refine (rroom_any _ _ _ _ _ _ _ HR0.out).mono ?_); rintro e wa ⟨rfl, rfl⟩))
  have HBD : Hid (Below w1.heap.size w1 w1.drew) := Lib.hid ((Below.refl _ _).drew)
  clear HA0 HR0 HS0 b1 b2 b3 r0 r1 r2
  go_wp2
  go_loopw [6] (fun j wr => ∃ i : Nat, i ≤ c.now.length ∧ j = .int .i64 (i : Int) ∧ Hid (Below w1.heap.size w1 wr)) (fun j _ => c.now.length - (intOf j).toNat)
  case atStart => exact ⟨0, Nat.zero_le _, rfl, HBD.out⟩
  case round =>
    obtain ⟨i, hi, rfl, HW⟩ := hrel
    have hA0 := HA.out.below HW.out
    have hR0 := HR.out.below HW.out
    have HBN : Hid (Below w.heap.size w wr) := Lib.hid (HB.out.trans (HW.out.mono HB.out.size))
    by_cases hlt : i < c.now.length
    · have hltI : (i : Int) < (c.now.length : Int) := by omega
      have hrow := (rowS_on (w' := wr) HROW.out (fun k hk => HW.out.block _ (by injection hk with hk; have hk' : g = k := hk; subst hk'; exact (HROW.out.lt g rfl).2)))
      have e0 : wr.drew.cell? ⟨g, i, none⟩ = some (.int .u16 (nowAt c i : Int)) := by
        have := hrow.cellAt i (by omega)
        rw [nz_get .u16 c.now i hlt] at this
        exact this
      have HS0 : Hid (wr.drew.cell? ⟨br, 0, none⟩ = some (.slice (some ⟨h0, 0, none⟩) c.now.length q0) ∧ wr.drew.cell? ⟨br, 1, none⟩ = some (.slice (some ⟨h1, 0, none⟩) c.now.length q1) ∧ wr.drew.cell? ⟨g, i, none⟩ = some (.int .u16 (nowAt c i : Int)) ∧ wr.drew.cell? ⟨h0, i, none⟩ = some (.int .i64 (nowAt c i : Int)) ∧ wr.drew.cell? ⟨h1, i, none⟩ = some (.int .i64 (wasAt c i : Int))) :=
        Lib.hid ⟨hR0.drew.c0, hR0.drew.c1, e0, hR0.drew.n_at i hlt, hR0.drew.w_at i hlt⟩
      have m1 := HOK.out.now_le i
      have m2 := HOK.out.was_le i
      have hcount := count_any _ _ _ _ _ _ _ hA0.drew (i : Int)
      rw [lookN_in _ _ hlt] at hcount
      have hwas := was_any _ _ _ _ _ _ _ hA0.drew (i : Int)
      rw [lookN_in _ _ (by rw [HOK.out.len]; exact hlt)] at hwas
      have HCO : Hid (Calls Try.prog 19 #[.pointer (some ⟨b, 0, none⟩), .int .i64 (i : Int)] wr.drew fun e w' => e = .returned (.int .u16 (nowAt c i : Int)) ∧ wr.drew = w') := Lib.hid hcount
      have HWA : Hid (Calls Try.prog 20 #[.pointer (some ⟨b, 0, none⟩), .int .i64 (i : Int)] wr.drew fun e w' => e = .returned (.int .u16 (wasAt c i : Int)) ∧ wr.drew = w') := Lib.hid hwas
      have HWD : Hid (Below w1.heap.size w1 wr.drew) := Lib.hid HW.out.drew
      clear hcount hwas hrow e0 hA0 hR0 HBN
      generalize nowAt c i = x at *
      generalize wasAt c i = y at *
      have b1 : ((x : Int) != (x : Int)) = false := by simp
      have b2 : ((y : Int) != (y : Int)) = false := by simp
      have v1 : IntKind.i64.wrap (x : Int) = (x : Int) := by rw [IntKind.wrap_i64]; omega
      have v2 : IntKind.i64.wrap (y : Int) = (y : Int) := by rw [IntKind.wrap_i64]; omega
      go_wp2_with fail
      go_region_held_law (fun W => W.cell? ⟨br, 0, none⟩ = some (.slice (some ⟨h0, 0, none⟩) c.now.length q0) ∧ W.cell? ⟨br, 1, none⟩ = some (.slice (some ⟨h1, 0, none⟩) c.now.length q1) ∧ W.cell? ⟨g, i, none⟩ = some (.int .u16 (x : Int)) ∧ W.cell? ⟨h0, i, none⟩ = some (.int .i64 (x : Int)) ∧ W.cell? ⟨h1, i, none⟩ = some (.int .i64 (y : Int)))
        (first | with_reducible exact HS0.out)
        (first
          | (go_at_call 19; (with_reducible refine HCO.out.mono ?_); rintro e wa ⟨rfl, rfl⟩)
          | (go_at_call 20; (with_reducible refine HWA.out.mono ?_); rintro e wa ⟨rfl, rfl⟩))
      go_wp2
      go_roundw
      case rel => exact ⟨i + 1, hlt, by go_num, HWD⟩
      case measure => simp [intOf]; omega
    · obtain rfl : i = c.now.length := by omega
      have c1 := count_any _ _ _ _ _ _ _ hA0 (-1)
      rw [lookN_out _ _ (by omega)] at c1
      have c2 := count_any _ _ _ _ _ _ _ hA0 (c.now.length : Int)
      rw [lookN_out _ _ (by omega)] at c2
      have c3 := was_any _ _ _ _ _ _ _ hA0 (-1)
      rw [lookN_out _ _ (by omega)] at c3
      have c4 := was_any _ _ _ _ _ _ _ hA0 1001
      rw [lookN_out _ _ (by rw [HOK.out.len]; omega)] at c4
      have C1 := Lib.hid c1
      have C2 := Lib.hid c2
      have C3 := Lib.hid c3
      have C4 := Lib.hid c4
      clear c1 c2 c3 c4 hA0 hR0
      go_wp2_with (first
        | (go_at_call 19; first | ((with_reducible refine C1.out.mono ?_); rintro e wa ⟨rfl, rfl⟩) | ((with_reducible refine C2.out.mono ?_); rintro e wa ⟨rfl, rfl⟩))
        | (go_at_call 20; first | ((with_reducible refine C3.out.mono ?_); rintro e wa ⟨rfl, rfl⟩) | ((with_reducible refine C4.out.mono ?_); rintro e wa ⟨rfl, rfl⟩))
        | fail)
      go_ret
      exact ⟨rfl, HBN.out⟩
end Go.Proofs.Ytiodhihddpbadaa
