/- The program's disk: Same. -/
import Derived.Test.YtdcfplfeagpcdaaEo
namespace Go.Proofs.Ytdcfplfeagpcdaa
open Go.RowKit

theorem full_eq (a b : UInt8) : (full a == full b) = (a == b) := by
  rw [Bool.eq_iff_iff, beq_iff_eq, beq_iff_eq]
  constructor
  · intro h
    have := congrArg (fun l => l.headD 0) h
    exact this
  · intro h; rw [h]
theorem neq_sec (a b : UInt8) (w : World) : (binOp .neq 38 (.agg (sec a).toArray) (.agg (sec b).toArray)).run Try.prog w = .ok (.bool (!(a == b))) w := by
  have h := run_equalIn_bytes (P := Try.prog) w 9998 38 5 64 Try.underlying38 Try.underlying5 (fun w => by kernel_rfl) (full a) (full b) (by simp [full]) (by simp [full])
  rw [full_eq] at h
  have h2 : (Op.equalIn 10000 38 (.agg (sec a).toArray) (.agg (sec b).toArray)).run Try.prog w = .ok (a == b) w := h
  rw [run_neq_struct, h2]
  rfl
theorem eql_sec (a b : UInt8) (w : World) : (binOp .eql 38 (.agg (sec a).toArray) (.agg (sec b).toArray)).run Try.prog w = .ok (.bool (a == b)) w := by
  have h := run_equalIn_bytes (P := Try.prog) w 9998 38 5 64 Try.underlying38 Try.underlying5 (fun w => by kernel_rfl) (full a) (full b) (by simp [full]) (by simp [full])
  rw [full_eq] at h
  have h2 : (Op.equalIn 10000 38 (.agg (sec a).toArray) (.agg (sec b).toArray)).run Try.prog w = .ok (a == b) w := h
  rw [run_eql_struct, h2]
  rfl

def sameAt (d o : RD) (i : Nat) : Prop := (d.s.getD i []).headD 0 = (o.s.getD i []).headD 0 ∧ (d.s.getD i []).getLastD 0 = (o.s.getD i []).getLastD 0
instance (d o : RD) (i : Nat) : Decidable (sameAt d o i) := by unfold sameAt; exact inferInstance
/-- is the same read, and does the same last? -/
def sameB (d o : RD) : Bool := decide (d.s.length = o.s.length ∧ ∀ i, i < d.s.length → sameAt d o i)
theorem sameB_no {d o : RD} (i : Nat) (hi : i < d.s.length) (h : ¬ sameAt d o i) : sameB d o = false := decide_eq_false (fun h2 => h (h2.2 i hi))
theorem sameB_yes {d o : RD} (hl : d.s.length = o.s.length) (h : ∀ i, i < d.s.length → sameAt d o i) : sameB d o = true := decide_eq_true ⟨hl, h⟩

theorem psame_left (w : World) (p q : Value) (hp : Calls Try.prog 29 #[p] w fun e w' => e = .returned (.bool true) ∧ w = w') (r : Bool) (hq : Calls Try.prog 29 #[q] w fun e w' => e = .returned (.bool r) ∧ w = w') :
    Calls Try.prog 12 #[p, q] w fun e w' => e = .returned (.bool r) ∧ w = w' := by
  have HN := Lib.hid hp
  have HM := Lib.hid hq
  clear hp hq
  go_enter Try.func12, Try.ntmps12
  go_wp2_with (go_at_call 29; first | ((with_reducible refine HN.out.mono ?_); rintro e w' ⟨rfl, rfl⟩) | ((with_reducible refine HM.out.mono ?_); rintro e w' ⟨rfl, rfl⟩))
  go_ret
  exact ⟨rfl, rfl⟩
theorem psame_right (w : World) (p q : Value) (hp : Calls Try.prog 29 #[p] w fun e w' => e = .returned (.bool false) ∧ w = w') (hq : Calls Try.prog 29 #[q] w fun e w' => e = .returned (.bool true) ∧ w = w') :
    Calls Try.prog 12 #[p, q] w fun e w' => e = .returned (.bool false) ∧ w = w' := by
  have HN := Lib.hid hp
  have HM := Lib.hid hq
  clear hp hq
  go_enter Try.func12, Try.ntmps12
  go_wp2_with (go_at_call 29; first | ((with_reducible refine HN.out.mono ?_); rintro e w' ⟨rfl, rfl⟩) | ((with_reducible refine HM.out.mono ?_); rintro e w' ⟨rfl, rfl⟩))
  go_ret
  exact ⟨rfl, rfl⟩

set_option maxRecDepth 10000 in
set_option maxHeartbeats 2000000 in
theorem psame_any (w : World) (b m : Nat) (L : Value) (D : DataW Value) (X : Nat → Value) (d : RD) (h : PDisk w b L m D X d) (bo mo : Nat) (Lo : Value) (Do : DataW Value) (Xo : Nat → Value) (o : RD) (ho : PDisk w bo Lo mo Do Xo o) :
    Calls Try.prog 12 #[.pointer (some ⟨b, 0, none⟩), .pointer (some ⟨bo, 0, none⟩)] w fun e w' => e = .returned (.bool (sameB d o)) ∧ Below w.heap.size w w' := by
  have HN := Lib.hid (none_any w b m L D X d h)
  have HM := Lib.hid (none_any w bo mo Lo Do Xo o ho)
  have c0 := h.c0
  have d0 := ho.c0
  obtain ⟨g, cap, cur, hL, _, hcap, hcm, _⟩ := h.form
  obtain ⟨go, capo, curo, hLo, _, hcapo, hcmo, _⟩ := ho.form
  have h8 := h.n1
  have h8o := ho.n1
  have H := Lib.hid h
  have HO := Lib.hid ho
  subst hL
  subst hLo
  clear h ho
  by_cases hlen : d.s.length = o.s.length
  · have hne : ((d.s.length : Int) != (o.s.length : Int)) = false := by rw [hlen]; simp
    have HLEN := Lib.hid hlen
    clear hlen
    go_enter Try.func12, Try.ntmps12
    go_wp2_with (go_at_call 29; first | ((with_reducible refine HN.out.mono ?_); rintro e w' ⟨rfl, rfl⟩) | ((with_reducible refine HM.out.mono ?_); rintro e w' ⟨rfl, rfl⟩))
    go_quiet (fail)
    go_wp2
    have HB0 := Lib.hid (below_drewN (Below.refl w.heap.size w) nq)
    clear HN HM c0 d0
    generalize w.drewN nq = w0 at *
    go_loopw [34] (fun j wr => ∃ i : Nat, i ≤ d.s.length ∧ j = .int .i64 (i : Int) ∧ Hid (∀ k, k < i → sameAt d o k) ∧ Hid (Below w.heap.size w wr)) (fun j _ => d.s.length - (intOf j).toNat)
    case atStart => exact ⟨0, Nat.zero_le _, rfl, Lib.hid (fun k hk => absurd hk (Nat.not_lt_zero k)), HB0⟩
    case round =>
      obtain ⟨i, hi, rfl, HA, HB⟩ := hrel
      clear HB0
      by_cases hlt : i < d.s.length
      · have hlo : i < o.s.length := by rw [← HLEN.out]; exact hlt
        have hP := H.out.below HB.out
        have hQ := HO.out.below HB.out
        have hkeep : ∀ W, Below wr.heap.size wr W → W.cell? ⟨b, 0, none⟩ = some (.slice (some ⟨g, 0, none⟩) d.s.length cap) ∧ W.cell? ⟨bo, 0, none⟩ = some (.slice (some ⟨go, 0, none⟩) o.s.length capo) ∧ W.rangeAt g (i * 64) (sec (d.s[i].headD 0)) ∧ W.rangeAt go (i * 64) (sec (o.s[i].headD 0)) := by
          intro W hW
          have h1 := hP.below hW
          have h2 := hQ.below hW
          have r1 := h1.last.range i (by simpa using hlt)
          have r2 := h2.last.range i (by simpa using hlo)
          rw [List.getElem_map] at r1 r2
          exact ⟨h1.c0, h2.c0, r1, r2⟩
        have hld : ∀ W, Below wr.heap.size wr W → Calls Try.prog 32 #[.pointer (some ⟨b, 0, none⟩), .int .i64 (i : Int)] W fun e w' => e = .returned (.agg (sec (d.s[i].getLastD 0)).toArray) ∧ (w'.cell? ⟨b, 0, none⟩ = some (.slice (some ⟨g, 0, none⟩) d.s.length cap) ∧ w'.cell? ⟨bo, 0, none⟩ = some (.slice (some ⟨go, 0, none⟩) o.s.length capo) ∧ w'.rangeAt g (i * 64) (sec (d.s[i].headD 0)) ∧ w'.rangeAt go (i * 64) (sec (o.s[i].headD 0))) ∧ Hid (Below wr.heap.size wr w') := fun W hW =>
          (last_any W b m _ D X d (hP.below hW) i hlt).mono fun e w' ⟨he, hb⟩ => ⟨he, hkeep _ (hW.trans (hb.mono hW.size)), hW.trans (hb.mono hW.size)⟩
        have hlo2 : ∀ W, Below wr.heap.size wr W → Calls Try.prog 32 #[.pointer (some ⟨bo, 0, none⟩), .int .i64 (i : Int)] W fun e w' => e = .returned (.agg (sec (o.s[i].getLastD 0)).toArray) ∧ (w'.cell? ⟨b, 0, none⟩ = some (.slice (some ⟨g, 0, none⟩) d.s.length cap) ∧ w'.cell? ⟨bo, 0, none⟩ = some (.slice (some ⟨go, 0, none⟩) o.s.length capo) ∧ w'.rangeAt g (i * 64) (sec (d.s[i].headD 0)) ∧ w'.rangeAt go (i * 64) (sec (o.s[i].headD 0))) ∧ Hid (Below wr.heap.size wr w') := fun W hW =>
          (last_any W bo mo _ Do Xo o (hQ.below hW) i hlo).mono fun e w' ⟨he, hb⟩ => ⟨he, hkeep _ (hW.trans (hb.mono hW.size)), hW.trans (hb.mono hW.size)⟩
        have hat : sameAt d o i ↔ d.s[i].headD 0 = o.s[i].headD 0 ∧ d.s[i].getLastD 0 = o.s[i].getLastD 0 := by
          unfold sameAt
          rw [getD_get _ i hlt, getD_get _ i hlo]
        have hbd : Below wr.heap.size wr wr.drew := (Below.refl _ _).drew
        have HS0 := Lib.hid (hkeep _ hbd)
        have HBD := Lib.hid hbd
        have HLD := Lib.hid hld
        have HLO := Lib.hid hlo2
        have HAT := Lib.hid hat
        have hu := sector_u
        clear hkeep hld hlo2 hat hP hQ hbd
        generalize d.s[i].headD 0 = c1 at *
        generalize o.s[i].headD 0 = e1 at *
        generalize d.s[i].getLastD 0 = c2 at *
        generalize o.s[i].getLastD 0 = e2 at *
        have z1 := sector_sz c1
        have z2 := sector_sz e1
        by_cases h1 : c1 = e1
        · subst h1
          have n1 : ∀ w : World, (binOp .neq 38 (.agg (sec c1).toArray) (.agg (sec c1).toArray)).run Try.prog w = .ok (.bool false) w := fun w => by rw [neq_sec]; simp
          by_cases h2 : c2 = e2
          · subst h2
            have n2 : ∀ w : World, (binOp .neq 38 (.agg (sec c2).toArray) (.agg (sec c2).toArray)).run Try.prog w = .ok (.bool false) w := fun w => by rw [neq_sec]; simp
            have HNX : Hid (∀ k, k < i + 1 → sameAt d o k) := Lib.hid (fun k hk => by
              rcases Nat.lt_or_ge k i with h | h
              · exact HA.out k h
              · obtain rfl : k = i := by omega
                exact HAT.out.2 ⟨rfl, rfl⟩)
            clear HA HAT z2
            go_wp2_with fail
            refine wp_region_held (S := fun w' => w'.cell? ⟨b, 0, none⟩ = some (.slice (some ⟨g, 0, none⟩) d.s.length cap) ∧ w'.cell? ⟨bo, 0, none⟩ = some (.slice (some ⟨go, 0, none⟩) o.s.length capo) ∧ w'.rangeAt g (i * 64) (sec c1) ∧ w'.rangeAt go (i * 64) (sec c1)) (by kernel_rfl) ?_
            change wpAnyH _ _ _ _ _ _ _ _ wr.drew
            have hS := HS0.out
            refine wpAnyH_take (i := 0) (oi := ⟨some 37, _, _, _, _, _⟩) (v := .pointer (some ⟨b, 0, none⟩)) rfl (by kernel_rfl) (by kernel_rfl) (by kernel_rfl) (fun _ _ _ h => h) (Or.inl ⟨by rfl, by intro w0 hw0; clear hw0; go_simp⟩) hS ?_
            simp only [Act.put, List.setIfInBounds_toArray, List.set_cons_zero, List.set_cons_succ]
            refine wpAnyH_take (i := 1) (oi := ⟨some 38, _, _, _, _, _⟩) (v := .pointer (some ⟨b, 0, none⟩)) rfl (by kernel_rfl) (by kernel_rfl) (by kernel_rfl) (fun _ _ _ h => h) (Or.inl ⟨by rfl, by intro w0 hw0; clear hw0; go_simp⟩) hS ?_
            simp only [Act.put, List.setIfInBounds_toArray, List.set_cons_zero, List.set_cons_succ]
            refine wpAnyH_take (i := 2) (oi := ⟨some 39, _, _, _, _, _⟩) (v := .pointer (some ⟨b, 0, none⟩)) rfl (by kernel_rfl) (by kernel_rfl) (by kernel_rfl) (fun _ _ _ h => h) (Or.inl ⟨by rfl, by intro w0 hw0; clear hw0; go_simp⟩) hS ?_
            simp only [Act.put, List.setIfInBounds_toArray, List.set_cons_zero, List.set_cons_succ]
            refine wpAnyH_take (i := 3) (oi := ⟨some 40, _, _, _, _, _⟩) (v := .slice (some ⟨g, 0, none⟩) d.s.length cap) rfl (by kernel_rfl) (by kernel_rfl) (by kernel_rfl) (fun _ _ _ h => h) (Or.inl ⟨by rfl, by intro w0 hw0; obtain ⟨hq, _⟩ := hw0; go_simp⟩) hS ?_
            simp only [Act.put, List.setIfInBounds_toArray, List.set_cons_zero, List.set_cons_succ]
            refine wpAnyH_take (i := 4) (oi := ⟨some 41, _, _, _, _, _⟩) (v := .int .i64 (i : Int)) rfl (by kernel_rfl) (by kernel_rfl) (by kernel_rfl) (fun _ _ _ h => h) (Or.inl ⟨by rfl, by intro w0 hw0; clear hw0; go_simp⟩) hS ?_
            simp only [Act.put, List.setIfInBounds_toArray, List.set_cons_zero, List.set_cons_succ]
            refine wpAnyH_take (i := 5) (oi := ⟨some 42, _, _, _, _, _⟩) (v := .pointer (some ⟨g, i * 64, none⟩)) rfl (by kernel_rfl) (by kernel_rfl) (by kernel_rfl) (fun _ _ _ h => h) (Or.inl ⟨by rfl, by intro w0 hw0; clear hw0; go_simp⟩) hS ?_
            simp only [Act.put, List.setIfInBounds_toArray, List.set_cons_zero, List.set_cons_succ]
            refine wpAnyH_take (i := 6) (oi := ⟨some 43, _, _, _, _, _⟩) (v := .agg (sec c1).toArray) rfl (by kernel_rfl) (by kernel_rfl) (by kernel_rfl) (fun _ _ _ h => h) (yieldsIf_load_mid (by rfl) 38 (.tmp 42) (by rfl) g (i * 64) (by rfl) (sec c1) _ (fun _ h => h.2.2.1) sector_u rfl (sector_sz c1)) hS ?_
            simp only [Act.put, List.setIfInBounds_toArray, List.set_cons_zero, List.set_cons_succ]
            refine wpAnyH_take (i := 7) (oi := ⟨some 44, _, _, _, _, _⟩) (v := .pointer (some ⟨bo, 0, none⟩)) rfl (by kernel_rfl) (by kernel_rfl) (by kernel_rfl) (fun _ _ _ h => h) (Or.inl ⟨by rfl, by intro w0 hw0; clear hw0; go_simp⟩) hS ?_
            simp only [Act.put, List.setIfInBounds_toArray, List.set_cons_zero, List.set_cons_succ]
            refine wpAnyH_take (i := 8) (oi := ⟨some 45, _, _, _, _, _⟩) (v := .pointer (some ⟨bo, 0, none⟩)) rfl (by kernel_rfl) (by kernel_rfl) (by kernel_rfl) (fun _ _ _ h => h) (Or.inl ⟨by rfl, by intro w0 hw0; clear hw0; go_simp⟩) hS ?_
            simp only [Act.put, List.setIfInBounds_toArray, List.set_cons_zero, List.set_cons_succ]
            refine wpAnyH_take (i := 9) (oi := ⟨some 46, _, _, _, _, _⟩) (v := .pointer (some ⟨bo, 0, none⟩)) rfl (by kernel_rfl) (by kernel_rfl) (by kernel_rfl) (fun _ _ _ h => h) (Or.inl ⟨by rfl, by intro w0 hw0; clear hw0; go_simp⟩) hS ?_
            simp only [Act.put, List.setIfInBounds_toArray, List.set_cons_zero, List.set_cons_succ]
            refine wpAnyH_take (i := 10) (oi := ⟨some 47, _, _, _, _, _⟩) (v := .slice (some ⟨go, 0, none⟩) o.s.length capo) rfl (by kernel_rfl) (by kernel_rfl) (by kernel_rfl) (fun _ _ _ h => h) (Or.inl ⟨by rfl, by intro w0 hw0; obtain ⟨_, hq, _⟩ := hw0; go_simp⟩) hS ?_
            simp only [Act.put, List.setIfInBounds_toArray, List.set_cons_zero, List.set_cons_succ]
            refine wpAnyH_take (i := 11) (oi := ⟨some 48, _, _, _, _, _⟩) (v := .int .i64 (i : Int)) rfl (by kernel_rfl) (by kernel_rfl) (by kernel_rfl) (fun _ _ _ h => h) (Or.inl ⟨by rfl, by intro w0 hw0; clear hw0; go_simp⟩) hS ?_
            simp only [Act.put, List.setIfInBounds_toArray, List.set_cons_zero, List.set_cons_succ]
            refine wpAnyH_take (i := 12) (oi := ⟨some 49, _, _, _, _, _⟩) (v := .pointer (some ⟨go, i * 64, none⟩)) rfl (by kernel_rfl) (by kernel_rfl) (by kernel_rfl) (fun _ _ _ h => h) (Or.inl ⟨by rfl, by intro w0 hw0; clear hw0; go_simp⟩) hS ?_
            simp only [Act.put, List.setIfInBounds_toArray, List.set_cons_zero, List.set_cons_succ]
            refine wpAnyH_take (i := 13) (oi := ⟨some 50, _, _, _, _, _⟩) (v := .agg (sec c1).toArray) rfl (by kernel_rfl) (by kernel_rfl) (by kernel_rfl) (fun _ _ _ h => h) (yieldsIf_load_mid (by rfl) 38 (.tmp 49) (by rfl) go (i * 64) (by rfl) (sec c1) _ (fun _ h => h.2.2.2) sector_u rfl (sector_sz c1)) hS ?_
            simp only [Act.put, List.setIfInBounds_toArray, List.set_cons_zero, List.set_cons_succ]
            refine wpAnyH_take (i := 14) (oi := ⟨some 51, _, _, _, _, _⟩) (v := .bool false) rfl (by kernel_rfl) (by kernel_rfl) (by kernel_rfl) (fun _ _ _ h => h) (Or.inl ⟨by rfl, by intro w0 hw0; clear hw0; go_simp⟩) hS ?_
            simp only [Act.put, List.setIfInBounds_toArray, List.set_cons_zero, List.set_cons_succ]
            refine wpAnyH_take (i := 15) (oi := ⟨some 52, _, _, _, _, _⟩) (v := .bool false) rfl (by kernel_rfl) (by kernel_rfl) (by kernel_rfl) (fun _ _ _ h => h) (Or.inl ⟨by rfl, by intro w0 hw0; clear hw0; go_simp⟩) hS ?_
            simp only [Act.put, List.setIfInBounds_toArray, List.set_cons_zero, List.set_cons_succ]
            refine wpAnyH_take (i := 16) (oi := ⟨some 53, _, _, _, _, _⟩) (v := .pointer (some ⟨b, 0, none⟩)) rfl (by kernel_rfl) (by kernel_rfl) (by kernel_rfl) (fun _ _ _ h => h) (Or.inl ⟨by rfl, by intro w0 hw0; clear hw0; go_simp⟩) hS ?_
            simp only [Act.put, List.setIfInBounds_toArray, List.set_cons_zero, List.set_cons_succ]
            refine wpAnyH_take (i := 17) (oi := ⟨some 54, _, _, _, _, _⟩) (v := .int .i64 (i : Int)) rfl (by kernel_rfl) (by kernel_rfl) (by kernel_rfl) (fun _ _ _ h => h) (Or.inl ⟨by rfl, by intro w0 hw0; clear hw0; go_simp⟩) hS ?_
            simp only [Act.put, List.setIfInBounds_toArray, List.set_cons_zero, List.set_cons_succ]
            refine wpAnyH_take (i := 19) (oi := ⟨some 56, _, _, _, _, _⟩) (v := .pointer (some ⟨bo, 0, none⟩)) rfl (by kernel_rfl) (by kernel_rfl) (by kernel_rfl) (fun _ _ _ h => h) (Or.inl ⟨by rfl, by intro w0 hw0; clear hw0; go_simp⟩) hS ?_
            simp only [Act.put, List.setIfInBounds_toArray, List.set_cons_zero, List.set_cons_succ]
            refine wpAnyH_take (i := 20) (oi := ⟨some 57, _, _, _, _, _⟩) (v := .int .i64 (i : Int)) rfl (by kernel_rfl) (by kernel_rfl) (by kernel_rfl) (fun _ _ _ h => h) (Or.inl ⟨by rfl, by intro w0 hw0; clear hw0; go_simp⟩) hS ?_
            simp only [Act.put, List.setIfInBounds_toArray, List.set_cons_zero, List.set_cons_succ]
            refine wpAnyH_ready (rs := [18]) (by kernel_rfl) (by simp) (AllReadyH.cons (o := ⟨some 55, _, _, _, _, _⟩) rfl (fun K hK => ?_) AllReadyH.nil)
            go_simp
            go_wp2_with (go_at_call 32; (with_reducible refine (HLD.out _ HBD.out).mono ?_); rintro e w5 ⟨rfl, hS5, hb5⟩)
            refine hK.out _ _ hS5 (fun hsx => ?_)
            clear hK hsx K
            try simp only [Act.put, List.setIfInBounds_toArray, List.set_cons_zero, List.set_cons_succ]
            refine wpAnyH_ready (rs := [21]) (by kernel_rfl) (by simp) (AllReadyH.cons (o := ⟨some 58, _, _, _, _, _⟩) rfl (fun K hK => ?_) AllReadyH.nil)
            go_simp
            go_wp2_with (go_at_call 32; (with_reducible refine (HLO.out _ hb5.out).mono ?_); rintro e w6 ⟨rfl, hS6, hb6⟩)
            refine hK.out _ _ hS6 (fun hsx => ?_)
            clear hK hsx K
            try simp only [Act.put, List.setIfInBounds_toArray, List.set_cons_zero, List.set_cons_succ]
            refine wpAnyH_take (i := 22) (oi := ⟨some 59, _, _, _, _, _⟩) (v := .bool false) rfl (by kernel_rfl) (by kernel_rfl) (by kernel_rfl) (fun _ _ _ h => h) (Or.inl ⟨by rfl, by intro w0 hw0; clear hw0; go_simp⟩) hS6 ?_
            simp only [Act.put, List.setIfInBounds_toArray, List.set_cons_zero, List.set_cons_succ]
            refine wpAnyH_take (i := 23) (oi := ⟨some 60, _, _, _, _, _⟩) (v := .bool false) rfl (by kernel_rfl) (by kernel_rfl) (by kernel_rfl) (fun _ _ _ h => h) (Or.inl ⟨by rfl, by intro w0 hw0; clear hw0; go_simp⟩) hS6 ?_
            simp only [Act.put, List.setIfInBounds_toArray, List.set_cons_zero, List.set_cons_succ]
            refine wpAnyH_done (by kernel_rfl) ?_ _
            have HBN := Lib.hid (HB.out.trans (hb6.out.mono HB.out.size))
            clear hS hS5 hS6 hb5 hb6
            go_wp2
            go_roundw
            case rel => exact ⟨i + 1, hlt, by go_num, HNX, HBN⟩
            case measure => simp [intOf]; omega
          · have n2 : ∀ w : World, (binOp .neq 38 (.agg (sec c2).toArray) (.agg (sec e2).toArray)).run Try.prog w = .ok (.bool true) w := fun w => by rw [neq_sec, beq_false_of_ne h2]; rfl
            have HR := Lib.hid (sameB_no i hlt (fun h => h2 (HAT.out.1 h).2))
            clear HA HAT z2 h2
            go_wp2_with fail
            refine wp_region_held (S := fun w' => w'.cell? ⟨b, 0, none⟩ = some (.slice (some ⟨g, 0, none⟩) d.s.length cap) ∧ w'.cell? ⟨bo, 0, none⟩ = some (.slice (some ⟨go, 0, none⟩) o.s.length capo) ∧ w'.rangeAt g (i * 64) (sec c1) ∧ w'.rangeAt go (i * 64) (sec c1)) (by kernel_rfl) ?_
            change wpAnyH _ _ _ _ _ _ _ _ wr.drew
            have hS := HS0.out
            refine wpAnyH_take (i := 0) (oi := ⟨some 37, _, _, _, _, _⟩) (v := .pointer (some ⟨b, 0, none⟩)) rfl (by kernel_rfl) (by kernel_rfl) (by kernel_rfl) (fun _ _ _ h => h) (Or.inl ⟨by rfl, by intro w0 hw0; clear hw0; go_simp⟩) hS ?_
            simp only [Act.put, List.setIfInBounds_toArray, List.set_cons_zero, List.set_cons_succ]
            refine wpAnyH_take (i := 1) (oi := ⟨some 38, _, _, _, _, _⟩) (v := .pointer (some ⟨b, 0, none⟩)) rfl (by kernel_rfl) (by kernel_rfl) (by kernel_rfl) (fun _ _ _ h => h) (Or.inl ⟨by rfl, by intro w0 hw0; clear hw0; go_simp⟩) hS ?_
            simp only [Act.put, List.setIfInBounds_toArray, List.set_cons_zero, List.set_cons_succ]
            refine wpAnyH_take (i := 2) (oi := ⟨some 39, _, _, _, _, _⟩) (v := .pointer (some ⟨b, 0, none⟩)) rfl (by kernel_rfl) (by kernel_rfl) (by kernel_rfl) (fun _ _ _ h => h) (Or.inl ⟨by rfl, by intro w0 hw0; clear hw0; go_simp⟩) hS ?_
            simp only [Act.put, List.setIfInBounds_toArray, List.set_cons_zero, List.set_cons_succ]
            refine wpAnyH_take (i := 3) (oi := ⟨some 40, _, _, _, _, _⟩) (v := .slice (some ⟨g, 0, none⟩) d.s.length cap) rfl (by kernel_rfl) (by kernel_rfl) (by kernel_rfl) (fun _ _ _ h => h) (Or.inl ⟨by rfl, by intro w0 hw0; obtain ⟨hq, _⟩ := hw0; go_simp⟩) hS ?_
            simp only [Act.put, List.setIfInBounds_toArray, List.set_cons_zero, List.set_cons_succ]
            refine wpAnyH_take (i := 4) (oi := ⟨some 41, _, _, _, _, _⟩) (v := .int .i64 (i : Int)) rfl (by kernel_rfl) (by kernel_rfl) (by kernel_rfl) (fun _ _ _ h => h) (Or.inl ⟨by rfl, by intro w0 hw0; clear hw0; go_simp⟩) hS ?_
            simp only [Act.put, List.setIfInBounds_toArray, List.set_cons_zero, List.set_cons_succ]
            refine wpAnyH_take (i := 5) (oi := ⟨some 42, _, _, _, _, _⟩) (v := .pointer (some ⟨g, i * 64, none⟩)) rfl (by kernel_rfl) (by kernel_rfl) (by kernel_rfl) (fun _ _ _ h => h) (Or.inl ⟨by rfl, by intro w0 hw0; clear hw0; go_simp⟩) hS ?_
            simp only [Act.put, List.setIfInBounds_toArray, List.set_cons_zero, List.set_cons_succ]
            refine wpAnyH_take (i := 6) (oi := ⟨some 43, _, _, _, _, _⟩) (v := .agg (sec c1).toArray) rfl (by kernel_rfl) (by kernel_rfl) (by kernel_rfl) (fun _ _ _ h => h) (yieldsIf_load_mid (by rfl) 38 (.tmp 42) (by rfl) g (i * 64) (by rfl) (sec c1) _ (fun _ h => h.2.2.1) sector_u rfl (sector_sz c1)) hS ?_
            simp only [Act.put, List.setIfInBounds_toArray, List.set_cons_zero, List.set_cons_succ]
            refine wpAnyH_take (i := 7) (oi := ⟨some 44, _, _, _, _, _⟩) (v := .pointer (some ⟨bo, 0, none⟩)) rfl (by kernel_rfl) (by kernel_rfl) (by kernel_rfl) (fun _ _ _ h => h) (Or.inl ⟨by rfl, by intro w0 hw0; clear hw0; go_simp⟩) hS ?_
            simp only [Act.put, List.setIfInBounds_toArray, List.set_cons_zero, List.set_cons_succ]
            refine wpAnyH_take (i := 8) (oi := ⟨some 45, _, _, _, _, _⟩) (v := .pointer (some ⟨bo, 0, none⟩)) rfl (by kernel_rfl) (by kernel_rfl) (by kernel_rfl) (fun _ _ _ h => h) (Or.inl ⟨by rfl, by intro w0 hw0; clear hw0; go_simp⟩) hS ?_
            simp only [Act.put, List.setIfInBounds_toArray, List.set_cons_zero, List.set_cons_succ]
            refine wpAnyH_take (i := 9) (oi := ⟨some 46, _, _, _, _, _⟩) (v := .pointer (some ⟨bo, 0, none⟩)) rfl (by kernel_rfl) (by kernel_rfl) (by kernel_rfl) (fun _ _ _ h => h) (Or.inl ⟨by rfl, by intro w0 hw0; clear hw0; go_simp⟩) hS ?_
            simp only [Act.put, List.setIfInBounds_toArray, List.set_cons_zero, List.set_cons_succ]
            refine wpAnyH_take (i := 10) (oi := ⟨some 47, _, _, _, _, _⟩) (v := .slice (some ⟨go, 0, none⟩) o.s.length capo) rfl (by kernel_rfl) (by kernel_rfl) (by kernel_rfl) (fun _ _ _ h => h) (Or.inl ⟨by rfl, by intro w0 hw0; obtain ⟨_, hq, _⟩ := hw0; go_simp⟩) hS ?_
            simp only [Act.put, List.setIfInBounds_toArray, List.set_cons_zero, List.set_cons_succ]
            refine wpAnyH_take (i := 11) (oi := ⟨some 48, _, _, _, _, _⟩) (v := .int .i64 (i : Int)) rfl (by kernel_rfl) (by kernel_rfl) (by kernel_rfl) (fun _ _ _ h => h) (Or.inl ⟨by rfl, by intro w0 hw0; clear hw0; go_simp⟩) hS ?_
            simp only [Act.put, List.setIfInBounds_toArray, List.set_cons_zero, List.set_cons_succ]
            refine wpAnyH_take (i := 12) (oi := ⟨some 49, _, _, _, _, _⟩) (v := .pointer (some ⟨go, i * 64, none⟩)) rfl (by kernel_rfl) (by kernel_rfl) (by kernel_rfl) (fun _ _ _ h => h) (Or.inl ⟨by rfl, by intro w0 hw0; clear hw0; go_simp⟩) hS ?_
            simp only [Act.put, List.setIfInBounds_toArray, List.set_cons_zero, List.set_cons_succ]
            refine wpAnyH_take (i := 13) (oi := ⟨some 50, _, _, _, _, _⟩) (v := .agg (sec c1).toArray) rfl (by kernel_rfl) (by kernel_rfl) (by kernel_rfl) (fun _ _ _ h => h) (yieldsIf_load_mid (by rfl) 38 (.tmp 49) (by rfl) go (i * 64) (by rfl) (sec c1) _ (fun _ h => h.2.2.2) sector_u rfl (sector_sz c1)) hS ?_
            simp only [Act.put, List.setIfInBounds_toArray, List.set_cons_zero, List.set_cons_succ]
            refine wpAnyH_take (i := 14) (oi := ⟨some 51, _, _, _, _, _⟩) (v := .bool false) rfl (by kernel_rfl) (by kernel_rfl) (by kernel_rfl) (fun _ _ _ h => h) (Or.inl ⟨by rfl, by intro w0 hw0; clear hw0; go_simp⟩) hS ?_
            simp only [Act.put, List.setIfInBounds_toArray, List.set_cons_zero, List.set_cons_succ]
            refine wpAnyH_take (i := 15) (oi := ⟨some 52, _, _, _, _, _⟩) (v := .bool false) rfl (by kernel_rfl) (by kernel_rfl) (by kernel_rfl) (fun _ _ _ h => h) (Or.inl ⟨by rfl, by intro w0 hw0; clear hw0; go_simp⟩) hS ?_
            simp only [Act.put, List.setIfInBounds_toArray, List.set_cons_zero, List.set_cons_succ]
            refine wpAnyH_take (i := 16) (oi := ⟨some 53, _, _, _, _, _⟩) (v := .pointer (some ⟨b, 0, none⟩)) rfl (by kernel_rfl) (by kernel_rfl) (by kernel_rfl) (fun _ _ _ h => h) (Or.inl ⟨by rfl, by intro w0 hw0; clear hw0; go_simp⟩) hS ?_
            simp only [Act.put, List.setIfInBounds_toArray, List.set_cons_zero, List.set_cons_succ]
            refine wpAnyH_take (i := 17) (oi := ⟨some 54, _, _, _, _, _⟩) (v := .int .i64 (i : Int)) rfl (by kernel_rfl) (by kernel_rfl) (by kernel_rfl) (fun _ _ _ h => h) (Or.inl ⟨by rfl, by intro w0 hw0; clear hw0; go_simp⟩) hS ?_
            simp only [Act.put, List.setIfInBounds_toArray, List.set_cons_zero, List.set_cons_succ]
            refine wpAnyH_take (i := 19) (oi := ⟨some 56, _, _, _, _, _⟩) (v := .pointer (some ⟨bo, 0, none⟩)) rfl (by kernel_rfl) (by kernel_rfl) (by kernel_rfl) (fun _ _ _ h => h) (Or.inl ⟨by rfl, by intro w0 hw0; clear hw0; go_simp⟩) hS ?_
            simp only [Act.put, List.setIfInBounds_toArray, List.set_cons_zero, List.set_cons_succ]
            refine wpAnyH_take (i := 20) (oi := ⟨some 57, _, _, _, _, _⟩) (v := .int .i64 (i : Int)) rfl (by kernel_rfl) (by kernel_rfl) (by kernel_rfl) (fun _ _ _ h => h) (Or.inl ⟨by rfl, by intro w0 hw0; clear hw0; go_simp⟩) hS ?_
            simp only [Act.put, List.setIfInBounds_toArray, List.set_cons_zero, List.set_cons_succ]
            refine wpAnyH_ready (rs := [18]) (by kernel_rfl) (by simp) (AllReadyH.cons (o := ⟨some 55, _, _, _, _, _⟩) rfl (fun K hK => ?_) AllReadyH.nil)
            go_simp
            go_wp2_with (go_at_call 32; (with_reducible refine (HLD.out _ HBD.out).mono ?_); rintro e w5 ⟨rfl, hS5, hb5⟩)
            refine hK.out _ _ hS5 (fun hsx => ?_)
            clear hK hsx K
            try simp only [Act.put, List.setIfInBounds_toArray, List.set_cons_zero, List.set_cons_succ]
            refine wpAnyH_ready (rs := [21]) (by kernel_rfl) (by simp) (AllReadyH.cons (o := ⟨some 58, _, _, _, _, _⟩) rfl (fun K hK => ?_) AllReadyH.nil)
            go_simp
            go_wp2_with (go_at_call 32; (with_reducible refine (HLO.out _ hb5.out).mono ?_); rintro e w6 ⟨rfl, hS6, hb6⟩)
            refine hK.out _ _ hS6 (fun hsx => ?_)
            clear hK hsx K
            try simp only [Act.put, List.setIfInBounds_toArray, List.set_cons_zero, List.set_cons_succ]
            refine wpAnyH_take (i := 22) (oi := ⟨some 59, _, _, _, _, _⟩) (v := .bool true) rfl (by kernel_rfl) (by kernel_rfl) (by kernel_rfl) (fun _ _ _ h => h) (Or.inl ⟨by rfl, by intro w0 hw0; clear hw0; go_simp⟩) hS6 ?_
            simp only [Act.put, List.setIfInBounds_toArray, List.set_cons_zero, List.set_cons_succ]
            refine wpAnyH_take (i := 23) (oi := ⟨some 60, _, _, _, _, _⟩) (v := .bool true) rfl (by kernel_rfl) (by kernel_rfl) (by kernel_rfl) (fun _ _ _ h => h) (Or.inl ⟨by rfl, by intro w0 hw0; clear hw0; go_simp⟩) hS6 ?_
            simp only [Act.put, List.setIfInBounds_toArray, List.set_cons_zero, List.set_cons_succ]
            refine wpAnyH_done (by kernel_rfl) ?_ _
            have HBN := Lib.hid (HB.out.trans (hb6.out.mono HB.out.size))
            clear hS hS5 hS6 hb5 hb6
            go_wp2
            go_ret
            rw [HR.out]
            exact ⟨rfl, HBN.out⟩
        · have n1 : ∀ w : World, (binOp .neq 38 (.agg (sec c1).toArray) (.agg (sec e1).toArray)).run Try.prog w = .ok (.bool true) w := fun w => by rw [neq_sec, beq_false_of_ne h1]; rfl
          have HR := Lib.hid (sameB_no i hlt (fun h => h1 (HAT.out.1 h).1))
          clear HA HAT h1
          go_wp2_with fail
          refine wp_region_held (S := fun w' => w'.cell? ⟨b, 0, none⟩ = some (.slice (some ⟨g, 0, none⟩) d.s.length cap) ∧ w'.cell? ⟨bo, 0, none⟩ = some (.slice (some ⟨go, 0, none⟩) o.s.length capo) ∧ w'.rangeAt g (i * 64) (sec c1) ∧ w'.rangeAt go (i * 64) (sec e1)) (by kernel_rfl) ?_
          change wpAnyH _ _ _ _ _ _ _ _ wr.drew
          have hS := HS0.out
          refine wpAnyH_take (i := 0) (oi := ⟨some 37, _, _, _, _, _⟩) (v := .pointer (some ⟨b, 0, none⟩)) rfl (by kernel_rfl) (by kernel_rfl) (by kernel_rfl) (fun _ _ _ h => h) (Or.inl ⟨by rfl, by intro w0 hw0; clear hw0; go_simp⟩) hS ?_
          simp only [Act.put, List.setIfInBounds_toArray, List.set_cons_zero, List.set_cons_succ]
          refine wpAnyH_take (i := 1) (oi := ⟨some 38, _, _, _, _, _⟩) (v := .pointer (some ⟨b, 0, none⟩)) rfl (by kernel_rfl) (by kernel_rfl) (by kernel_rfl) (fun _ _ _ h => h) (Or.inl ⟨by rfl, by intro w0 hw0; clear hw0; go_simp⟩) hS ?_
          simp only [Act.put, List.setIfInBounds_toArray, List.set_cons_zero, List.set_cons_succ]
          refine wpAnyH_take (i := 2) (oi := ⟨some 39, _, _, _, _, _⟩) (v := .pointer (some ⟨b, 0, none⟩)) rfl (by kernel_rfl) (by kernel_rfl) (by kernel_rfl) (fun _ _ _ h => h) (Or.inl ⟨by rfl, by intro w0 hw0; clear hw0; go_simp⟩) hS ?_
          simp only [Act.put, List.setIfInBounds_toArray, List.set_cons_zero, List.set_cons_succ]
          refine wpAnyH_take (i := 3) (oi := ⟨some 40, _, _, _, _, _⟩) (v := .slice (some ⟨g, 0, none⟩) d.s.length cap) rfl (by kernel_rfl) (by kernel_rfl) (by kernel_rfl) (fun _ _ _ h => h) (Or.inl ⟨by rfl, by intro w0 hw0; obtain ⟨hq, _⟩ := hw0; go_simp⟩) hS ?_
          simp only [Act.put, List.setIfInBounds_toArray, List.set_cons_zero, List.set_cons_succ]
          refine wpAnyH_take (i := 4) (oi := ⟨some 41, _, _, _, _, _⟩) (v := .int .i64 (i : Int)) rfl (by kernel_rfl) (by kernel_rfl) (by kernel_rfl) (fun _ _ _ h => h) (Or.inl ⟨by rfl, by intro w0 hw0; clear hw0; go_simp⟩) hS ?_
          simp only [Act.put, List.setIfInBounds_toArray, List.set_cons_zero, List.set_cons_succ]
          refine wpAnyH_take (i := 5) (oi := ⟨some 42, _, _, _, _, _⟩) (v := .pointer (some ⟨g, i * 64, none⟩)) rfl (by kernel_rfl) (by kernel_rfl) (by kernel_rfl) (fun _ _ _ h => h) (Or.inl ⟨by rfl, by intro w0 hw0; clear hw0; go_simp⟩) hS ?_
          simp only [Act.put, List.setIfInBounds_toArray, List.set_cons_zero, List.set_cons_succ]
          refine wpAnyH_take (i := 6) (oi := ⟨some 43, _, _, _, _, _⟩) (v := .agg (sec c1).toArray) rfl (by kernel_rfl) (by kernel_rfl) (by kernel_rfl) (fun _ _ _ h => h) (yieldsIf_load_mid (by rfl) 38 (.tmp 42) (by rfl) g (i * 64) (by rfl) (sec c1) _ (fun _ h => h.2.2.1) sector_u rfl (sector_sz c1)) hS ?_
          simp only [Act.put, List.setIfInBounds_toArray, List.set_cons_zero, List.set_cons_succ]
          refine wpAnyH_take (i := 7) (oi := ⟨some 44, _, _, _, _, _⟩) (v := .pointer (some ⟨bo, 0, none⟩)) rfl (by kernel_rfl) (by kernel_rfl) (by kernel_rfl) (fun _ _ _ h => h) (Or.inl ⟨by rfl, by intro w0 hw0; clear hw0; go_simp⟩) hS ?_
          simp only [Act.put, List.setIfInBounds_toArray, List.set_cons_zero, List.set_cons_succ]
          refine wpAnyH_take (i := 8) (oi := ⟨some 45, _, _, _, _, _⟩) (v := .pointer (some ⟨bo, 0, none⟩)) rfl (by kernel_rfl) (by kernel_rfl) (by kernel_rfl) (fun _ _ _ h => h) (Or.inl ⟨by rfl, by intro w0 hw0; clear hw0; go_simp⟩) hS ?_
          simp only [Act.put, List.setIfInBounds_toArray, List.set_cons_zero, List.set_cons_succ]
          refine wpAnyH_take (i := 9) (oi := ⟨some 46, _, _, _, _, _⟩) (v := .pointer (some ⟨bo, 0, none⟩)) rfl (by kernel_rfl) (by kernel_rfl) (by kernel_rfl) (fun _ _ _ h => h) (Or.inl ⟨by rfl, by intro w0 hw0; clear hw0; go_simp⟩) hS ?_
          simp only [Act.put, List.setIfInBounds_toArray, List.set_cons_zero, List.set_cons_succ]
          refine wpAnyH_take (i := 10) (oi := ⟨some 47, _, _, _, _, _⟩) (v := .slice (some ⟨go, 0, none⟩) o.s.length capo) rfl (by kernel_rfl) (by kernel_rfl) (by kernel_rfl) (fun _ _ _ h => h) (Or.inl ⟨by rfl, by intro w0 hw0; obtain ⟨_, hq, _⟩ := hw0; go_simp⟩) hS ?_
          simp only [Act.put, List.setIfInBounds_toArray, List.set_cons_zero, List.set_cons_succ]
          refine wpAnyH_take (i := 11) (oi := ⟨some 48, _, _, _, _, _⟩) (v := .int .i64 (i : Int)) rfl (by kernel_rfl) (by kernel_rfl) (by kernel_rfl) (fun _ _ _ h => h) (Or.inl ⟨by rfl, by intro w0 hw0; clear hw0; go_simp⟩) hS ?_
          simp only [Act.put, List.setIfInBounds_toArray, List.set_cons_zero, List.set_cons_succ]
          refine wpAnyH_take (i := 12) (oi := ⟨some 49, _, _, _, _, _⟩) (v := .pointer (some ⟨go, i * 64, none⟩)) rfl (by kernel_rfl) (by kernel_rfl) (by kernel_rfl) (fun _ _ _ h => h) (Or.inl ⟨by rfl, by intro w0 hw0; clear hw0; go_simp⟩) hS ?_
          simp only [Act.put, List.setIfInBounds_toArray, List.set_cons_zero, List.set_cons_succ]
          refine wpAnyH_take (i := 13) (oi := ⟨some 50, _, _, _, _, _⟩) (v := .agg (sec e1).toArray) rfl (by kernel_rfl) (by kernel_rfl) (by kernel_rfl) (fun _ _ _ h => h) (yieldsIf_load_mid (by rfl) 38 (.tmp 49) (by rfl) go (i * 64) (by rfl) (sec e1) _ (fun _ h => h.2.2.2) sector_u rfl (sector_sz e1)) hS ?_
          simp only [Act.put, List.setIfInBounds_toArray, List.set_cons_zero, List.set_cons_succ]
          refine wpAnyH_take (i := 14) (oi := ⟨some 51, _, _, _, _, _⟩) (v := .bool true) rfl (by kernel_rfl) (by kernel_rfl) (by kernel_rfl) (fun _ _ _ h => h) (Or.inl ⟨by rfl, by intro w0 hw0; clear hw0; go_simp⟩) hS ?_
          simp only [Act.put, List.setIfInBounds_toArray, List.set_cons_zero, List.set_cons_succ]
          refine wpAnyH_take (i := 15) (oi := ⟨some 52, _, _, _, _, _⟩) (v := .bool true) rfl (by kernel_rfl) (by kernel_rfl) (by kernel_rfl) (fun _ _ _ h => h) (Or.inl ⟨by rfl, by intro w0 hw0; clear hw0; go_simp⟩) hS ?_
          simp only [Act.put, List.setIfInBounds_toArray, List.set_cons_zero, List.set_cons_succ]
          refine wpAnyH_take (i := 16) (oi := ⟨some 53, _, _, _, _, _⟩) (v := undef) rfl (by kernel_rfl) (by kernel_rfl) (by kernel_rfl) (fun _ _ _ h => h) (Or.inr ⟨by rfl, rfl⟩) hS ?_
          simp only [Act.put, List.setIfInBounds_toArray, List.set_cons_zero, List.set_cons_succ]
          refine wpAnyH_take (i := 17) (oi := ⟨some 54, _, _, _, _, _⟩) (v := undef) rfl (by kernel_rfl) (by kernel_rfl) (by kernel_rfl) (fun _ _ _ h => h) (Or.inr ⟨by rfl, rfl⟩) hS ?_
          simp only [Act.put, List.setIfInBounds_toArray, List.set_cons_zero, List.set_cons_succ]
          refine wpAnyH_take (i := 18) (oi := ⟨some 55, _, _, _, _, _⟩) (v := undef) rfl (by kernel_rfl) (by kernel_rfl) (by kernel_rfl) (fun _ _ _ h => h) (Or.inr ⟨by rfl, rfl⟩) hS ?_
          simp only [Act.put, List.setIfInBounds_toArray, List.set_cons_zero, List.set_cons_succ]
          refine wpAnyH_take (i := 19) (oi := ⟨some 56, _, _, _, _, _⟩) (v := undef) rfl (by kernel_rfl) (by kernel_rfl) (by kernel_rfl) (fun _ _ _ h => h) (Or.inr ⟨by rfl, rfl⟩) hS ?_
          simp only [Act.put, List.setIfInBounds_toArray, List.set_cons_zero, List.set_cons_succ]
          refine wpAnyH_take (i := 20) (oi := ⟨some 57, _, _, _, _, _⟩) (v := undef) rfl (by kernel_rfl) (by kernel_rfl) (by kernel_rfl) (fun _ _ _ h => h) (Or.inr ⟨by rfl, rfl⟩) hS ?_
          simp only [Act.put, List.setIfInBounds_toArray, List.set_cons_zero, List.set_cons_succ]
          refine wpAnyH_take (i := 21) (oi := ⟨some 58, _, _, _, _, _⟩) (v := undef) rfl (by kernel_rfl) (by kernel_rfl) (by kernel_rfl) (fun _ _ _ h => h) (Or.inr ⟨by rfl, rfl⟩) hS ?_
          simp only [Act.put, List.setIfInBounds_toArray, List.set_cons_zero, List.set_cons_succ]
          refine wpAnyH_take (i := 22) (oi := ⟨some 59, _, _, _, _, _⟩) (v := undef) rfl (by kernel_rfl) (by kernel_rfl) (by kernel_rfl) (fun _ _ _ h => h) (Or.inr ⟨by rfl, rfl⟩) hS ?_
          simp only [Act.put, List.setIfInBounds_toArray, List.set_cons_zero, List.set_cons_succ]
          refine wpAnyH_take (i := 23) (oi := ⟨some 60, _, _, _, _, _⟩) (v := .bool true) rfl (by kernel_rfl) (by kernel_rfl) (by kernel_rfl) (fun _ _ _ h => h) (Or.inl ⟨by rfl, by intro w0 hw0; clear hw0; go_simp⟩) hS ?_
          simp only [Act.put, List.setIfInBounds_toArray, List.set_cons_zero, List.set_cons_succ]
          refine wpAnyH_done (by kernel_rfl) ?_ _
          have HBN := Lib.hid (HB.out.trans (HBD.out.mono HB.out.size))
          clear hS
          go_wp2
          go_ret
          rw [HR.out]
          exact ⟨rfl, HBN.out⟩
      · obtain rfl : i = d.s.length := by omega
        have HR := Lib.hid (sameB_yes HLEN.out HA.out)
        go_wp2
        go_ret
        rw [HR.out]
        exact ⟨rfl, HB.out⟩
  · have hne : ((d.s.length : Int) != (o.s.length : Int)) = true := by simp; omega
    have hr : sameB d o = false := decide_eq_false (fun h2 => hlen h2.1)
    rw [hr]
    clear hr hlen
    go_enter Try.func12, Try.ntmps12
    go_wp2_with (go_at_call 29; first | ((with_reducible refine HN.out.mono ?_); rintro e w' ⟨rfl, rfl⟩) | ((with_reducible refine HM.out.mono ?_); rintro e w' ⟨rfl, rfl⟩))
    go_quiet (fail)
    go_wp2
    go_ret
    exact ⟨rfl, below_drewN (Below.refl _ _) nq⟩
end Go.Proofs.Ytdcfplfeagpcdaa
