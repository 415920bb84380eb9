/- The walk of 'are': the program's values, held against the law's. -/
import Derived.Test.YthjbchdpnlenjaaIsb
import Derived.Test.YthjbchdpnlenjaaHexc
import Derived.StillTailTactics
namespace Go.Proofs.Ythjbchdpnlenjaa
open Go.RowKit

theorem is_any (v : LVal) (cs : List Value) (x : Value) (w : World) (hlv : LVok w w.heap.size cs v) (hx : IV w w.heap.size x (toldP v)) (hno : toldP v ≠ .other) :
    Calls Try.prog 40 #[x, .agg cs.toArray] w fun e w' => e = .returned (.bool true) ∧ Below w.heap.size w w' := by
  obtain ⟨A, cap, rfl, hxl, hn, hs, hc, hcm⟩ := hlv
  unfold toldP at hx hno
  by_cases h56 : v.c = 56
  · rw [if_pos h56] at hx
    obtain ⟨rfl, _⟩ := hx
    exact is_num v A cap w h56
  · rw [if_neg h56] at hx hno
    by_cases h63 : v.c = 63
    · rw [if_pos h63] at hx
      obtain rfl := hx
      exact is_flag v A cap w h63
    · rw [if_neg h63] at hx hno
      by_cases h42 : v.c = 42
      · rw [if_pos h42] at hx
        obtain ⟨A1, c1, rfl, h1, _⟩ := hx
        exact is_blob v A cap w A1 c1 h1 hs h42
      · rw [if_neg h42] at hx hno
        by_cases h35 : v.c = 35
        · rw [if_pos h35] at hx
          obtain ⟨rfl, _⟩ := hx
          exact is_block v A cap w hxl h35
        · rw [if_neg h35] at hno
          exact absurd rfl hno

theorem iv_wide {w : World} {B C : Nat} {v : Value} {p : PV} (h : IV w B v p) (hC : B ≤ C) : IV w C v p := by
  cases p with
  | blob l => obtain ⟨A, c, e, h2, h3⟩ := h; exact ⟨A, c, e, h2.wide hC, h3⟩
  | num n => exact h
  | flag b => exact h
  | block l => exact h
  | other => exact h

theorem wpStill_load_addr {P : Program} {ops : Array Oper} {w : World} {Q : Act → Prop} {a : Act} {o : Oper} {rest : List Oper} (hgd : o.guard = none) (ty : TypeId) (x : Operand) (ho : o.op = .load ty x)
    (ad : Addr) (hx : a.eval x = .pointer (some ad)) (cs : List Value) (d : TypeDesc) (hc : ∀ j u, cs[j]? = some u → w.cell? (ad.add j) = some u)
    (hu : P.underlying ty = some d) (hd : d.isRow = true) (hi : (P.info? ty).map (·.size) = some cs.length)
    (h : wpStill P ops w Q rest (a.put o.dst (.agg cs.toArray))) : wpStill P ops w Q (o :: rest) a := by
  have hw : Region.wanted o (yielded ops a.tmps) = true := by simp [Region.wanted, hgd]
  unfold wpStill
  rw [if_pos hw]
  unfold Oper.still execOp
  simp only [ho, hx, Instr.loadAt, Instr.sureAddr, Sem.run_bind, Sem.run_pure, Result.andThen_ok, run_loadVar_addr w ad ty cs d hc hu hd hi]
  exact ⟨rfl, h⟩

set_option maxHeartbeats 2000000 in
theorem are_any (A1 : Option Addr) (c1 : Nat) (us : List Value) (A : Option Addr) (cap : Nat) (vals : List LVal) (w : World) (hu : Shows w w.heap.size A1 vals.length us)
    (hiv : ∀ i (h : i < vals.length), ∃ x, us[i]? = some x ∧ IV w w.heap.size x (toldP vals[i])) (hno : ∀ v ∈ vals, toldP v ≠ .other) (hv : VRow w w.heap.size A vals) (hn : vals.length ≤ 1000) :
    Calls Try.prog 18 #[.slice A1 vals.length c1, .slice A vals.length cap] w fun e w' => e = .returned (.bool true) ∧ Below w.heap.size w w' := by
  go_enter Try.func18, Try.ntmps18
  go_wp2
  go_loopw [5] (fun j wr => ∃ i : Nat, i ≤ vals.length ∧ j = .int .i64 (i : Int) ∧ Below w.heap.size w wr) (fun j _ => vals.length - (intOf j).toNat)
  case atStart => exact ⟨0, Nat.zero_le _, rfl, Below.refl _ _⟩
  case round =>
    obtain ⟨i, hp, rfl, hbr⟩ := hrel
    by_cases hlt : i < vals.length
    · obtain ⟨p, hA, hpb, hx⟩ := hv.below hbr (by omega)
      subst hA
      obtain ⟨cs, hok, hcell⟩ := hx i hlt
      obtain ⟨p1, u1, hA1, hpb1, hu1, hcu⟩ := (hu.below hbr).cell hlt
      subst hA1
      obtain ⟨x, hxu, hix⟩ := hiv i hlt
      have e1 : u1 = x := by rw [hu1] at hxu; injection hxu
      subst e1
      have hil : (i : Int) < (vals.length : Int) := by omega
      have hno1 := hno _ (List.getElem_mem hlt)
      have hix2 := hix.below hbr
      have HCL := Lib.hid hok.length
      have hcell2 : ∀ (j : Nat) (u : Value), cs[j]? = some u → wr.drew.cell? ((p.add (i * 260)).add j) = some u := fun j u hu => by rw [addr_twice]; exact hcell j u hu
      have HC := Lib.hid hcell2
      have HOK := Lib.hid hok
      have HIX := Lib.hid hix2
      have HNO := Lib.hid hno1
      clear hx hok hcell hcell2 hiv hv hix hix2 hno1 hno hxu hu1
      go_wp2_with fail
      refine wp_region_still_tail 8 (by kernel_rfl) (by kernel_rfl) ?_
      simp only [List.take_succ_cons, List.take_zero, List.drop_succ_cons, List.drop_zero]
      iterate 7 still_step
      refine wpStill_load_addr rfl 54 (.tmp 23) rfl (p.add (i * 260)) rfl cs _ HC.out Try.underlying54 rfl (by rw [val_size, HCL.out]) ?_
      refine wpStill_nil ?_
      change wpList _ _ _ _ _ wr.drew
      have hbr2 : Below w.heap.size w wr.drew := hbr.drew
      have hd : Below w.heap.size wr wr.drew := (Below.refl _ _).drew
      have hok2 : LVok wr.drew wr.drew.heap.size cs vals[i] := (HOK.out.below hd).wide hbr2.size
      have hix2 : IV wr.drew wr.drew.heap.size u1 (toldP vals[i]) := iv_wide (HIX.out.below hd) hbr2.size
      have HOK2 := Lib.hid hok2
      have HIX2 := Lib.hid hix2
      clear hok2 hix2 hd HOK HIX HC hcu hbr
      generalize wr.drew = W at *
      go_wp2_with fail
      refine (is_any vals[i] cs u1 W HOK2.out HIX2.out HNO.out).mono ?_
      rintro e w1 ⟨rfl, hb1⟩
      have hbr1 := hbr2.trans (hb1.mono hbr2.size)
      clear hbr2 hb1
      go_wp2_with fail
      go_roundw
      case rel => exact ⟨i + 1, hlt, by go_num, hbr1⟩
      case measure => simp [intOf]; omega
    · obtain rfl : i = vals.length := by omega
      go_wp2
      go_ret
      exact ⟨rfl, hbr⟩

end Go.Proofs.Ythjbchdpnlenjaa
