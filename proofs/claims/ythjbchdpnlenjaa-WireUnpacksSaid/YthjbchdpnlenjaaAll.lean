/- Slices of the law's values; the walks of 'all' and 'much'. -/
import Derived.Test.YthjbchdpnlenjaaTold
namespace Go.Proofs.Ythjbchdpnlenjaa
open Go.RowKit

/-- a slice of the law's values, from A on, below block B -/
def VRow (w : World) (B : Nat) (A : Option Addr) (vals : List LVal) : Prop :=
  0 < vals.length → ∃ p : Addr, A = some p ∧ p.block < B ∧ ∀ i (h : i < vals.length), ∃ cs, LVok w B cs vals[i] ∧ ∀ j u, cs[j]? = some u → w.cell? (p.add (i * 260 + j)) = some u
theorem LVok.below {w w' : World} {B : Nat} {cs : List Value} {v : LVal} (h : LVok w B cs v) (hb : Below B w w') : LVok w' B cs v := by
  obtain ⟨A, cap, e, hx, hn, hs, hc⟩ := h
  exact ⟨A, cap, e, hx, hn, hs.below hb, hc⟩
theorem LVok.wide {w : World} {B C : Nat} {cs : List Value} {v : LVal} (h : LVok w B cs v) (hC : B ≤ C) : LVok w C cs v := by
  obtain ⟨A, cap, e, hx, hn, hs, hc⟩ := h
  exact ⟨A, cap, e, hx, hn, hs.wide hC, hc⟩
theorem VRow.below {w w' : World} {B : Nat} {A : Option Addr} {vals : List LVal} (h : VRow w B A vals) (hb : Below B w w') : VRow w' B A vals := by
  intro hp
  obtain ⟨p, e, hpb, hx⟩ := h hp
  refine ⟨p, e, hpb, fun i hi => ?_⟩
  obtain ⟨cs, hl, hc⟩ := hx i hi
  exact ⟨cs, hl.below hb, fun j u hu => by rw [hb.cell (by rw [addr_block]; exact hpb)]; exact hc j u hu⟩
theorem LVok.length {w : World} {B : Nat} {cs : List Value} {v : LVal} (h : LVok w B cs v) : cs.length = 260 := by
  obtain ⟨A, cap, rfl, hx, _⟩ := h
  exact lv_length hx A cap

section
variable {P : Program}
/-- a whole struct or array, read at whatever address -/
theorem run_loadVar_addr (w : World) (a : Addr) (ty : TypeId) (cs : List Value) (d : TypeDesc) (hc : ∀ j u, cs[j]? = some u → w.cell? (a.add j) = some u)
    (hu : P.underlying ty = some d) (hd : d.isRow = true) (hi : (P.info? ty).map (·.size) = some cs.length) : (loadVar ty a).run P w = .ok (.agg cs.toArray) w := by
  have hl : (loadCells a cs.length).run P w = .ok cs.toArray w := run_loadCells_list (P := P) w a cs hc
  cases hq : P.info? ty with
  | none => simp [hq] at hi
  | some i =>
    have hs : i.size = cs.length := by simpa [hq] using hi
    have hagg : (isAgg ty).run P w = .ok true w := by
      unfold isAgg
      rw [Sem.run_bind, run_underlying hu w]
      cases d <;> simp_all
    simp [loadVar, Sem.run_bind, hagg, sizeOf, typeInfo, hq, hs, hl]
theorem wpList_load_addr {ops : Array Oper} {rest : List Oper} {op : Oper} {a : Act} {w : World} {Q : Exit → Act → World → Prop} (hgd : op.guard = none) (ty : TypeId) (x : Operand) (ho : op.op = .load ty x)
    (ad : Addr) (hx : a.eval x = .pointer (some ad)) (cs : List Value) (d : TypeDesc) (hc : ∀ j u, cs[j]? = some u → w.cell? (ad.add j) = some u)
    (hu : P.underlying ty = some d) (hd : d.isRow = true) (hi : (P.info? ty).map (·.size) = some cs.length)
    (h : wpList P ops Q rest (a.put op.dst (.agg cs.toArray)) w) : wpList P ops Q (op :: rest) a w := by
  refine wpList_plain hgd fun K hK => ?_
  unfold Oper.wp execOp
  simp only [ho, hx, Instr.loadAt, Instr.sureAddr, Sem.run_bind, Sem.run_pure, Result.andThen_ok, run_loadVar_addr w ad ty cs d hc hu hd hi]
  exact hK _ _ h
end

set_option maxHeartbeats 2000000 in
theorem all_any (A : Option Addr) (cap : Nat) (vals : List LVal) (w : World) (hv : VRow w w.heap.size A vals) (hn : vals.length ≤ 1000) (hb : ∀ v ∈ vals, v.b.length ≤ 16777216) :
    Calls Try.prog 13 #[.slice A vals.length cap] w fun e w' => ∃ u us, e = .returned u ∧ w'.ownsRow w.heap.size 20 1 u vals.length us ∧ AllOV w' w.heap.size us (vals.map toldP) ∧ Below w.heap.size w w' := by
  obtain ⟨i0, hi, hz0, hz1, hz2⟩ := info_parts any_info
  go_enter Try.func13, Try.ntmps13
  go_wp2
  go_loopw [3, 4] (fun u j wr => ∃ (i : Nat) (us : List Value), i ≤ vals.length ∧ j = .int .i64 (i : Int) ∧ wr.ownsRow w.heap.size 20 1 u i us ∧ AllOV wr w.heap.size us ((vals.take i).map toldP) ∧ Below w.heap.size w wr) (fun _ j _ => vals.length - (intOf j).toNat)
  case atStart => exact ⟨0, [], Nat.zero_le _, rfl, World.ownsRow_nil _ _ _ _, AllOV.nil _ _, Below.refl _ _⟩
  case round =>
    obtain ⟨i, us, hp, rfl, hown, hall, hbr⟩ := hrel
    by_cases hlt : i < vals.length
    · obtain ⟨p, hA, hpb, hx⟩ := hv.below hbr (by omega)
      subst hA
      obtain ⟨cs, hok, hcell⟩ := hx i hlt
      have hcl := hok.length
      have hok2 := hok.wide hbr.size
      have hbb := hb _ (List.getElem_mem hlt)
      have HOK := Lib.hid hok2
      have HCL := Lib.hid hcl
      have hcell2 : ∀ (j : Nat) (u : Value), cs[j]? = some u → wr.cell? ((p.add (i * 260)).add j) = some u := fun j u hu => by rw [addr_twice]; exact hcell j u hu
      have HC := Lib.hid hcell2
      clear hx hok hcell hcl hok2 hv hb hcell2
      go_wp2_with (refine wpList_load_addr rfl 54 (.tmp 14) rfl (p.add (i * 260)) rfl cs _ HC.out Try.underlying54 rfl (by rw [val_size, HCL.out]) ?_)
      refine (told_any vals[i] cs wr HOK.out hbb).mono ?_
      rintro e w1 ⟨u1, rfl, hov, hb1⟩
      obtain ⟨T1, x1, hu1⟩ := hov.form
      subst hu1
      have hown1 := own_below hown hb1
      have hall1 := hall.kept (BytesKept.below hb1)
      have hbr1 := hbr.trans (hb1.mono hbr.size)
      have hov1 := hov.mono hbr.size
      clear hown hall hbr hov hb1 HC HOK HCL
      go_wp2_with (at_builtin; refine wpList_append_shows _ rfl (.tmp 11) (.tmp 17) 29 rfl w.heap.size 20 i0 .nilIface 16 Try.underlying29 hi hz0 hz1 hz2 rfl _ _ _ rfl (hown1.alloc _) (w1.heap.size + 1) _ 1 1 [.iface T1 x1] rfl (shows_new w1 _ _) (by simp [hov1.one]) (by unfold maxLen; omega) (by omega) (by have := hbr1.size; simp; omega) ?_; intro v6 w6 hown6 hgrow6)
      have hgr6 : Grew w1 w6 _ v6 := ((Grew.refl w1 _).alloc _).trans hgrow6
      have hk6 := BytesKept.grew hgr6 hown1 (by decide)
      have hall6 := (hall1.kept hk6).snoc (hov1.kept hk6)
      have hb6 : Below w.heap.size w w6 := hbr1.trans (hgr6.below hown1 (Nat.le_refl _) hbr1.size)
      clear hgr6 hgrow6 hk6 hown1 hall1 hov1 hbr1
      go_roundw
      case rel =>
        refine ⟨i + 1, us ++ [.iface T1 x1], hlt, by go_num, hown6, ?_, hb6⟩
        rw [List.take_succ_eq_append_getElem hlt, List.map_append]
        exact hall6
      case measure => simp [intOf]; omega
    · obtain rfl : i = vals.length := by omega
      rw [List.take_length] at hall
      go_wp2
      go_ret
      exact ⟨_, us, rfl, hown, hall, hbr⟩

end Go.Proofs.Ythjbchdpnlenjaa
