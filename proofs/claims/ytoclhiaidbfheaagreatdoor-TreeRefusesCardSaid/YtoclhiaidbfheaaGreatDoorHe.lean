/- slices.Delete of the only element. btree: the leaf's closure of remove. btree: a change's shadow, over a trial and over the store. btree: a change's keep, over a trial and over the store. btree: a change's lower, over a trial and over the store. -/
import Derived.Test.YtoclhiaidbfheaaGreatDoorHd
import Derived.Handy
import Derived.Lib.SliceRun
import Derived.Deep.RegionLaw
import Derived.Sort.WalkB12
import Derived.Shelf.RegionOpenPlain
section
set_option linter.unusedVariables false
namespace Go.Proofs.YtoclhiaidbfheaaGreatDoor.T
open Go.RowKit Q S

theorem zero_u64 (w : World) : (zeroValue 23).run Tryz.prog w = .ok (.int .u64 0) w := by kernel_rfl
theorem info_u64 : (Tryz.prog.info? 23).map (fun i => (i.zero, i.size, i.bytes)) = some (some (.int .u64 0), 1, 8) := by kernel_rfl
set_option maxRecDepth 100000 in
set_option maxHeartbeats 4000000 in
theorem sdel (W : World) (g cap : Nat) (cur : Array Value) (v0 : Value) (h : W.heap[g]? = some (.cells cur 23 (0, 0))) (hc : 1 ≤ cap) (hm : cap ≤ 9223372036854775807) (h0 : cur[0]? = some v0) :
    Calls Tryz.prog 99 #[.slice (some ⟨g, 0, none⟩) 1 cap, .int .i64 0, .int .i64 1] W fun e w' => e = .returned (.slice (some ⟨g, 0, none⟩) 0 cap) ∧ w' = W.drew.setCell ⟨g, 0, none⟩ (.int .u64 0) := by
  obtain ⟨i0, hi0, hz0, hz1, hz2⟩ := info_parts info_u64
  obtain ⟨A, hA⟩ : ∃ A : Addr, (if cap = 1 then some (⟨g, 0, none⟩ : Addr) else some ⟨g, 1, none⟩) = some A := by
    by_cases h : cap = 1
    · exact ⟨⟨g, 0, none⟩, by simp [h]⟩
    · exact ⟨⟨g, 1, none⟩, by simp [h]⟩
  have hcell : W.drew.cell? ⟨g, 0, none⟩ = some v0 := (Joins.cell_of_block (i := 0) h).trans h0
  have hfr := frozen_of_row W.drew g 0 _ _ h
  have hcl : ∀ ty, (Builtin.clear_ #[43] ty #[.slice (some ⟨g, 0, none⟩) 1 cap]).run Tryz.prog W.drew = .ok (.tuple #[]) (W.drew.setCells g 0 (List.replicate 1 (.int .u64 0))) :=
    fun ty => Lib.run_clear_slice W.drew _ _ ty _ Tryz.underlying43 zero_u64 rfl rfl g 0 1 cap (by omega) (fun t ht => by
      have e : t = 0 := by omega
      rw [e, hcell]; rfl) (fun t ht => by
      have e : t = 0 := by omega
      rw [e]; exact hfr)
  have mixed : Tryz.prog.follows .mixedOrders = true := by kernel_rfl
  clear h h0
  go_enter Tryz.func99, Tryz.ntmps99
  go_wp2_with fail
  go_region_law_o (refine step_append_room rfl (.tmp 22) (.tmp 25) 43 rfl 23 i0 1 Tryz.underlying43 hi0 hz1 g 0 0 cap (by simp [Act.eval, Act.put]) A 0 (cap - 1) [] (by simp [Act.eval, Act.put]) rfl (by simp) (by simp) (by omega) (by simp) ?_; rw [show W.drew.setCells g (0 + 0 * 1) [] = W.drew from rfl])
  go_wp2
  go_ret
  exact ⟨rfl, rfl⟩
end Go.Proofs.YtoclhiaidbfheaaGreatDoor.T
end

section
set_option linter.unusedVariables false
namespace Go.Proofs.YtoclhiaidbfheaaGreatDoor.T
open Go.RowKit Q S Go.ChangeMaps Go.MapKept

/-- a twig's cells -/
abbrev twA (r kd bi : Nat) (K V : Value) : Array Value := #[.int .u32 (r : Int), .int .i64 (kd : Int), .int .u64 (bi : Int), K, V]
theorem one_row {W : World} {B n : Nat} {K : Value} (h : W.ownsRow B 23 1 K [n].length (nums64 [n])) : ∃ g cap cur, K = .slice (some ⟨g, 0, none⟩) 1 cap ∧ B ≤ g ∧ W.heap[g]? = some (.cells cur 23 (0, 0)) ∧ 1 ≤ cap ∧ cap ≤ maxLen ∧ cur.size = cap ∧ cur[0]? = some (.int .u64 (n : Int)) := by
  rcases h.2 with ⟨_, h0⟩ | ⟨g, cap, cur, h1, h2, h3, h4, h5, h6, h7⟩
  · cases h0
  · refine ⟨g, cap, cur, h1, h2, h3, h4, h5, by simpa using h6, ?_⟩
    have e : (cur.toList.take 1)[0]? = (nums64 [n])[0]? := by rw [show (1 : Nat) = [n].length * 1 from rfl, h7]
    have e2 : (nums64 [n])[0]? = some (.int .u64 (n : Int)) := rfl
    rw [e2, List.getElem?_take] at e
    simpa using e
theorem no_row {W : World} {g cap : Nat} {cur : Array Value} (h : W.heap[g]? = some (.cells cur 23 (0, 0))) (hc : cap ≤ maxLen) (hs : cur.size = cap) : W.ownsRow 0 23 1 (.slice (some ⟨g, 0, none⟩) 0 cap) ([] : List Nat).length (nums64 []) :=
  ⟨rfl, .inr ⟨g, cap, cur, rfl, Nat.zero_le _, h, Nat.zero_le _, hc, by simpa using hs, rfl⟩⟩
set_option maxRecDepth 100000 in
set_option maxHeartbeats 8000000 in
theorem leaf_del (W : World) (bx bk bo bh B r kd bi key val : Nat) (K V : Value) (hx : W.heap[bx]? = some (.cells (twA r kd bi K V) 186 (0, 0))) (hn : NB W B K V [key] [val]) (hk : W.heap[bk]? = some (.cells #[.int .u64 (key : Int)] 23 (0, 0))) (ho : W.heap[bo]? = some (.cells #[.int .u64 0] 23 (0, 0))) (hh : W.heap[bh]? = some (.cells #[.bool false] 4 (0, 0))) (hB : bo < B) :
    Calls Tryz.prog 98 #[.pointer (some ⟨bx, 0, none⟩), .pointer (some ⟨bk, 0, none⟩), .pointer (some ⟨bo, 0, none⟩), .pointer (some ⟨bh, 0, none⟩)] W fun e w' => e = .returned (.int .i64 0) ∧ Hid (∃ K' V', NO w' K' V' [] [] ∧ w'.heap[bx]? = some (.cells (twA r kd bi K' V') 186 (0, 0)) ∧ w'.heap[bo]? = some (.cells #[.int .u64 (val : Int)] 23 (0, 0)) ∧ w'.heap[bh]? = some (.cells #[.bool true] 4 (0, 0)) ∧ Q.Stays W w' (fun j => j = bx ∨ j = bo ∨ j = bh ∨ K.ownBlock = some j ∨ V.ownBlock = some j)) := by
  obtain ⟨gK, cK, uK, rfl, bK, hK, lK, mK, sK, zK⟩ := one_row hn.kr
  obtain ⟨gV, cV, uV, rfl, bV, hV, lV, mV, sV, zV⟩ := one_row hn.vr
  have hKV : gK ≠ gV := fun e => hn.sep gK rfl (by rw [e]; rfl)
  have hKo : gK ≠ bo := by omega
  have hVo : gV ≠ bo := by omega
  have ne1 : ∀ {W : World} {j i : Nat} {cs ds : Array Value} {t u : TypeId}, W.heap[j]? = some (.cells cs t (0, 0)) → W.heap[i]? = some (.cells ds u (0, 0)) → t ≠ u → j ≠ i := fun h1 h2 hne e => by
    subst e
    rw [h1] at h2
    injection h2 with h2
    injection h2 with _ h2
    exact hne h2
  have hxK : bx ≠ gK := ne1 hx hK (by decide)
  have hxV : bx ≠ gV := ne1 hx hV (by decide)
  have hxo : bx ≠ bo := ne1 hx ho (by decide)
  have hxh : bx ≠ bh := ne1 hx hh (by decide)
  have hKh : gK ≠ bh := ne1 hK hh (by decide)
  have hVh : gV ≠ bh := ne1 hV hh (by decide)
  have hoh : bo ≠ bh := ne1 ho hh (by decide)
  have HFD := Lib.hid ((hn.no.below ((Below.refl _ W).drew)).find kd bi key (by simp))
  have HRX : Hid (W.drew.rangeAt bx 1 [.int .i64 (kd : Int), .int .u64 (bi : Int), .slice (some ⟨gK, 0, none⟩) 1 cK, .slice (some ⟨gV, 0, none⟩) 1 cV]) := Lib.hid (fun j u hu => by
    rw [Joins.cell_of_block (w := W.drew) hx]
    rw [← hu]
    unfold twA
    rw [List.getElem?_toArray, Nat.add_comm, List.getElem?_cons_succ])
  have hkc : W.drew.cell? ⟨bk, 0, none⟩ = some (.int .u64 (key : Int)) := Joins.cell_of_block (i := 0) hk
  clear hn
  have HX := Lib.hid hx
  have HK := Lib.hid hK
  have HV := Lib.hid hV
  have HO := Lib.hid ho
  have HH := Lib.hid hh
  have hb0 : Below W.heap.size W W.drew := (Below.refl _ W).drew
  have HB0 := Lib.hid hb0
  clear hx hK hV ho hh hk ne1 hb0
  have HNE : Hid (gK ≠ gV ∧ gK ≠ bo ∧ gV ≠ bo ∧ bx ≠ gK ∧ bx ≠ gV ∧ bx ≠ bo ∧ bx ≠ bh ∧ gK ≠ bh ∧ gV ≠ bh ∧ bo ≠ bh) := Lib.hid ⟨hKV, hKo, hVo, hxK, hxV, hxo, hxh, hKh, hVh, hoh⟩
  clear hKV hKo hVo hxK hxV hxo hxh hKh hVh hoh
  go_enter Tryz.func98, Tryz.ntmps98
  go_upto_region 1 with fail
  refine wp_region_noPanic ?_
  refine wp_region_held_drew (S := fun w' => w'.rangeAt bx 1 [.int .i64 (kd : Int), .int .u64 (bi : Int), .slice (some ⟨gK, 0, none⟩) 1 cK, .slice (some ⟨gV, 0, none⟩) 1 cV] ∧ w'.cell? ⟨bk, 0, none⟩ = some (.int .u64 (key : Int))) (by kernel_rfl) ⟨HRX.out, hkc⟩ (fun hHeld => ?_)
  refine takeN (i := 0) (oi := _) (v := (.pointer (some ⟨bx, 0, none⟩))) 9 rfl rfl (by kernel_rfl) (by kernel_rfl) (by kernel_rfl) (fun _ _ _ h => h) (Or.inl ⟨by rfl, fun w2 hSw => by go_simp⟩) hHeld ?_
  try simp only [Act.put, List.setIfInBounds_toArray, List.set_cons_zero, List.set_cons_succ]
  refine takeN (i := 1) (oi := _) (v := (.pointer (some ⟨bx, 0, none⟩))) 10 rfl rfl (by kernel_rfl) (by kernel_rfl) (by kernel_rfl) (fun _ _ _ h => h) (Or.inl ⟨by rfl, fun w2 hSw => by go_simp⟩) hHeld ?_
  try simp only [Act.put, List.setIfInBounds_toArray, List.set_cons_zero, List.set_cons_succ]
  refine takeN (i := 2) (oi := _) (v := (.pointer (some ⟨bx, 1, none⟩))) 11 rfl rfl (by kernel_rfl) (by kernel_rfl) (by kernel_rfl) (fun _ _ _ h => h) (Or.inl ⟨by rfl, fun w2 hSw => by go_simp⟩) hHeld ?_
  try simp only [Act.put, List.setIfInBounds_toArray, List.set_cons_zero, List.set_cons_succ]
  have hnd := Tryz.underlying45
  refine takeN (i := 3) (oi := _) (v := (.agg #[.int .i64 (kd : Int), .int .u64 (bi : Int), .slice (some ⟨gK, 0, none⟩) 1 cK, .slice (some ⟨gV, 0, none⟩) 1 cV])) 12 rfl rfl (by kernel_rfl) (by kernel_rfl) (by kernel_rfl) (fun _ _ _ h => h) (yieldsIf_load_mid (by rfl) 45 (.tmp 11) rfl bx 1 rfl [.int .i64 (kd : Int), .int .u64 (bi : Int), .slice (some ⟨gK, 0, none⟩) 1 cK, .slice (some ⟨gV, 0, none⟩) 1 cV] _ (fun w2 hSw => hSw.1) hnd rfl (nodeC kd bi _ _)) hHeld ?_
  try simp only [Act.put, List.setIfInBounds_toArray, List.set_cons_zero, List.set_cons_succ]
  clear hnd
  refine takeN (i := 4) (oi := _) (v := (.int .u64 (key : Int))) 13 rfl rfl (by kernel_rfl) (by kernel_rfl) (by kernel_rfl) (fun _ _ _ h => h) (Or.inl ⟨by rfl, fun w2 hSw => by (have hc := hSw.2; go_simp)⟩) hHeld ?_
  try simp only [Act.put, List.setIfInBounds_toArray, List.set_cons_zero, List.set_cons_succ]
  refine wpAnyH_ready (rs := [5]) (by kernel_rfl) (by simp) ?_
  refine AllReadyH.cons rfl (fun K hK => ?_) AllReadyH.nil
  go_simp
  go_wp2_with (first
    | (go_at_call 44; (with_reducible refine HFD.out.mono ?_); rintro e w2 ⟨hf, hb2⟩; obtain rfl := find_is hf)
    | fail)
  have HB2 := Lib.hid (HB0.out.trans (hb2.mono HB0.out.size))
  have hr2 : w2.rangeAt bx 1 [.int .i64 (kd : Int), .int .u64 (bi : Int), .slice (some ⟨gK, 0, none⟩) 1 cK, .slice (some ⟨gV, 0, none⟩) 1 cV] := fun j u hu => (hb2.cell (p := ⟨bx, 1 + j, none⟩) (Array.getElem?_eq_some_iff.1 HX.out).1).trans (HRX.out j u hu)
  have hk2 : w2.cell? ⟨bk, 0, none⟩ = some (.int .u64 (key : Int)) := (hb2.cell (p := ⟨bk, 0, none⟩) (by have := block_lt_of_cell hkc; exact this)).trans hkc
  refine hK.out _ _ ⟨hr2, hk2⟩ (fun hHeld => ?_)
  clear hK hf
  try simp only [Act.put, List.setIfInBounds_toArray, List.set_cons_zero, List.set_cons_succ]
  refine takeN (i := 6) (oi := _) (v := (.tuple #[.int .i64 0, .bool true])) 8 rfl rfl (by kernel_rfl) (by kernel_rfl) (by kernel_rfl) (fun _ _ _ h => h) (Or.inl ⟨by rfl, fun w2 hSw => by go_simp⟩) hHeld ?_
  try simp only [Act.put, List.setIfInBounds_toArray, List.set_cons_zero, List.set_cons_succ]
  refine takeN (i := 7) (oi := _) (v := (.int .i64 0)) 15 rfl rfl (by kernel_rfl) (by kernel_rfl) (by kernel_rfl) (fun _ _ _ h => h) (Or.inl ⟨by rfl, fun w2 hSw => by go_simp⟩) hHeld ?_
  try simp only [Act.put, List.setIfInBounds_toArray, List.set_cons_zero, List.set_cons_succ]
  refine takeN (i := 8) (oi := _) (v := (.bool true)) 16 rfl rfl (by kernel_rfl) (by kernel_rfl) (by kernel_rfl) (fun _ _ _ h => h) (Or.inl ⟨by rfl, fun w2 hSw => by go_simp⟩) hHeld ?_
  try simp only [Act.put, List.setIfInBounds_toArray, List.set_cons_zero, List.set_cons_succ]
  refine takeN (i := 9) (oi := _) (v := (.int .i64 0)) 6 rfl rfl (by kernel_rfl) (by kernel_rfl) (by kernel_rfl) (fun _ _ _ h => h) (Or.inl ⟨by rfl, fun w2 hSw => by go_simp⟩) hHeld ?_
  try simp only [Act.put, List.setIfInBounds_toArray, List.set_cons_zero, List.set_cons_succ]
  refine takeN (i := 10) (oi := _) (v := (.bool true)) 7 rfl rfl (by kernel_rfl) (by kernel_rfl) (by kernel_rfl) (fun _ _ _ h => h) (Or.inl ⟨by rfl, fun w2 hSw => by go_simp⟩) hHeld ?_
  try simp only [Act.put, List.setIfInBounds_toArray, List.set_cons_zero, List.set_cons_succ]
  refine wpAnyH_done (by kernel_rfl) ?_ _
  refine NoPanic.normal ?_
  have HX2 := Lib.hid ((HB2.out.block bx (Array.getElem?_eq_some_iff.1 HX.out).1).trans HX.out)
  have HK2 := Lib.hid ((HB2.out.block gK (Array.getElem?_eq_some_iff.1 HK.out).1).trans HK.out)
  have HV2 := Lib.hid ((HB2.out.block gV (Array.getElem?_eq_some_iff.1 HV.out).1).trans HV.out)
  have HO2 := Lib.hid ((HB2.out.block bo (Array.getElem?_eq_some_iff.1 HO.out).1).trans HO.out)
  have HH2 := Lib.hid ((HB2.out.block bh (Array.getElem?_eq_some_iff.1 HH.out).1).trans HH.out)
  have hc4 := Joins.cell_of_block (i := 4) HX2.out
  have hcv : w2.cell? ⟨gV, 0, none⟩ = some (.int .u64 (val : Int)) := (Joins.cell_of_block (i := 0) HV2.out).trans zV
  have hco := Joins.cell_of_block (i := 0) HO2.out
  have hfo := frozen_of_row _ bo 0 _ _ HO2.out
  have hh3 := (Below.heap_setCell w2 ⟨bo, 0, none⟩ (.int .u64 (val : Int)) bh (fun e => HNE.out.2.2.2.2.2.2.2.2.2 e.symm)).trans HH2.out
  have hch := Joins.cell_of_block (i := 0) hh3
  have hfh := frozen_of_row _ bh 0 _ _ hh3
  clear hb2 hr2 hk2 hkc HFD HRX hHeld
  go_upto_region 4 with fail
  clear hc4 hcv hco hfo hh3 hch hfh
  obtain ⟨W4, hW4⟩ : ∃ W4, ((w2.setCell ⟨bo, 0, none⟩ (.int .u64 (val : Int))).setCell ⟨bh, 0, none⟩ (.bool true)).drew = W4 := ⟨_, rfl⟩
  have keep3 : ∀ (j : Nat) (ob : Obj), w2.heap[j]? = some ob → j ≠ bo → j ≠ bh → W4.heap[j]? = some ob := fun j ob h h1 h2 => by
    rw [← hW4]
    exact (Below.heap_setCell _ ⟨bh, 0, none⟩ (.bool true) j h2).trans ((Below.heap_setCell w2 ⟨bo, 0, none⟩ (.int .u64 (val : Int)) j h1).trans h)
  have HX4 := Lib.hid (keep3 bx _ HX2.out HNE.out.2.2.2.2.2.1 HNE.out.2.2.2.2.2.2.1)
  have HK4 := Lib.hid (keep3 gK _ HK2.out HNE.out.2.1 HNE.out.2.2.2.2.2.2.2.1)
  have HV4 := Lib.hid (keep3 gV _ HV2.out HNE.out.2.2.1 HNE.out.2.2.2.2.2.2.2.2.1)
  have HO4 : Hid (W4.heap[bo]? = some (.cells #[.int .u64 (val : Int)] 23 (0, 0))) := Lib.hid (by
    rw [← hW4]
    exact (Below.heap_setCell _ ⟨bh, 0, none⟩ (.bool true) bo HNE.out.2.2.2.2.2.2.2.2.2).trans (Joins.block_setCell HO2.out (i := 0) (.int .u64 (val : Int))))
  have HH4 : Hid (W4.heap[bh]? = some (.cells #[.bool true] 4 (0, 0))) := Lib.hid (by
    rw [← hW4]
    exact Joins.block_setCell ((Below.heap_setCell w2 ⟨bo, 0, none⟩ (.int .u64 (val : Int)) bh (fun e => HNE.out.2.2.2.2.2.2.2.2.2 e.symm)).trans HH2.out) (i := 0) (.bool true))
  have st4 : Q.Stays W W4 (fun j => j = bx ∨ j = bo ∨ j = bh ∨ (Value.slice (some ⟨gK, 0, none⟩) 1 cK).ownBlock = some j ∨ (Value.slice (some ⟨gV, 0, none⟩) 1 cV).ownBlock = some j) := by
    rw [← hW4]
    exact (((Q.Stays.of_below HB2.out _).set ⟨bo, 0, none⟩ (.inl (.inr (.inl rfl))) _).set ⟨bh, 0, none⟩ (.inl (.inr (.inr (.inl rfl)))) _).trans (Q.Stays.of_below ((Below.refl _ _).drew) (fun _ => False)) (fun _ e => e.elim)
  have HDK := Lib.hid (sdel W4 gK cK uK _ HK4.out lK (by have := mK; simp only [maxLen] at this; omega) zK)
  obtain ⟨W5, hW5⟩ : ∃ W5, W4.drew.setCell ⟨gK, 0, none⟩ (.int .u64 0) = W5 := ⟨_, rfl⟩
  have keep5 : ∀ (j : Nat) (ob : Obj), W4.heap[j]? = some ob → j ≠ gK → W5.heap[j]? = some ob := fun j ob h h1 => by
    rw [← hW5]
    exact (Below.heap_setCell W4.drew ⟨gK, 0, none⟩ (.int .u64 0) j h1).trans h
  have HX5 := Lib.hid (keep5 bx _ HX4.out HNE.out.2.2.2.1)
  have HV5 := Lib.hid (keep5 gV _ HV4.out (fun e => HNE.out.1 e.symm))
  have HO5 := Lib.hid (keep5 bo _ HO4.out (fun e => HNE.out.2.1 e.symm))
  have HH5 := Lib.hid (keep5 bh _ HH4.out (fun e => HNE.out.2.2.2.2.2.2.2.1 e.symm))
  have HK5 : Hid (W5.heap[gK]? = some (.cells (uK.setIfInBounds 0 (.int .u64 0)) 23 (0, 0))) := Lib.hid (by rw [← hW5]; exact Joins.block_setCell (w := W4.drew) HK4.out (i := 0) (.int .u64 0))
  have HDV := Lib.hid (sdel W5 gV cV uV _ HV5.out lV (by have := mV; simp only [maxLen] at this; omega) zV)
  obtain ⟨W6, hW6⟩ : ∃ W6, W5.drew.setCell ⟨gV, 0, none⟩ (.int .u64 0) = W6 := ⟨_, rfl⟩
  have keep6 : ∀ (j : Nat) (ob : Obj), W5.heap[j]? = some ob → j ≠ gV → W6.heap[j]? = some ob := fun j ob h h1 => by
    rw [← hW6]
    exact (Below.heap_setCell W5.drew ⟨gV, 0, none⟩ (.int .u64 0) j h1).trans h
  have HX6 := Lib.hid (keep6 bx _ HX5.out HNE.out.2.2.2.2.1)
  have HK6 := Lib.hid (keep6 gK _ HK5.out HNE.out.1)
  have HO6 := Lib.hid (keep6 bo _ HO5.out (fun e => HNE.out.2.2.1 e.symm))
  have HH6 := Lib.hid (keep6 bh _ HH5.out (fun e => HNE.out.2.2.2.2.2.2.2.2.1 e.symm))
  have HV6 : Hid (W6.heap[gV]? = some (.cells (uV.setIfInBounds 0 (.int .u64 0)) 23 (0, 0))) := Lib.hid (by rw [← hW6]; exact Joins.block_setCell (w := W5.drew) HV5.out (i := 0) (.int .u64 0))
  have st6 : Q.Stays W W6 (fun j => j = bx ∨ j = bo ∨ j = bh ∨ (Value.slice (some ⟨gK, 0, none⟩) 1 cK).ownBlock = some j ∨ (Value.slice (some ⟨gV, 0, none⟩) 1 cV).ownBlock = some j) := by
    rw [← hW6, ← hW5]
    exact ((((st4.trans (Q.Stays.of_below ((Below.refl _ W4).drew) (fun _ => False)) (fun _ e => e.elim)).set ⟨gK, 0, none⟩ (.inl (.inr (.inr (.inr (.inl rfl))))) _).trans (Q.Stays.of_below ((Below.refl _ _).drew) (fun _ => False)) (fun _ e => e.elim)).set ⟨gV, 0, none⟩ (.inl (.inr (.inr (.inr (.inr rfl))))) _)
  have HT6 := Lib.hid st6
  have HW5 := Lib.hid hW5
  have HW6 := Lib.hid hW6
  clear keep3 keep5 keep6 st4 st6 hW5 hW6 HX2 HK2 HV2 HO2 HH2
  have SX : ∀ {w' : World}, w'.heap[bx]? = some (.cells (twA r kd bi (.slice (some ⟨gK, 0, none⟩) 1 cK) (.slice (some ⟨gV, 0, none⟩) 1 cV)) 186 (0, 0)) → w'.cell? ⟨bx, 3, none⟩ = some (.slice (some ⟨gK, 0, none⟩) 1 cK) ∧ w'.cell? ⟨bx, 4, none⟩ = some (.slice (some ⟨gV, 0, none⟩) 1 cV) := fun h => ⟨Joins.cell_of_block (i := 3) h, Joins.cell_of_block (i := 4) h⟩
  have HSX4 := Lib.hid (SX HX4.out)
  have HSX5 := Lib.hid (SX HX5.out)
  have HSX6 := Lib.hid (SX HX6.out)
  clear SX
  refine wp_region_noPanic ?_
  refine wp_region_until (M := 23) (S := fun w' => w'.cell? ⟨bx, 3, none⟩ = some (.slice (some ⟨gK, 0, none⟩) 1 cK) ∧ w'.cell? ⟨bx, 4, none⟩ = some (.slice (some ⟨gV, 0, none⟩) 1 cV)) (by kernel_rfl) (by rw [hW4]; exact HSX4.out) (fun hHeld => ?_)
  rw [hW4] at hHeld ⊢
  clear hW4
  refine takeM (i := 0) (oi := _) (oM := _) (v := (.pointer (some ⟨bx, 0, none⟩))) 26 7 rfl rfl rfl (by kernel_rfl) (by kernel_rfl) (by kernel_rfl) (by kernel_rfl) (by kernel_rfl) (by kernel_rfl) (fun _ _ _ h => h) (Or.inl ⟨by rfl, fun w2 hSw => by go_simp⟩) hHeld ?_
  try simp only [Act.put, List.setIfInBounds_toArray, List.set_cons_zero, List.set_cons_succ]
  refine takeY (i := 1) (oi := _) (v := (.pointer (some ⟨bx, 0, none⟩))) 27 rfl rfl (by decide) (by kernel_rfl) (by kernel_rfl) (by kernel_rfl) (fun _ _ _ h => h) (Or.inl ⟨by rfl, fun w2 => by go_simp⟩) hHeld ?_
  try simp only [Act.put, List.setIfInBounds_toArray, List.set_cons_zero, List.set_cons_succ]
  refine takeM (i := 2) (oi := _) (oM := _) (v := (.pointer (some ⟨bx, 0, none⟩))) 28 7 rfl rfl rfl (by kernel_rfl) (by kernel_rfl) (by kernel_rfl) (by kernel_rfl) (by kernel_rfl) (by kernel_rfl) (fun _ _ _ h => h) (Or.inl ⟨by rfl, fun w2 hSw => by go_simp⟩) hHeld ?_
  try simp only [Act.put, List.setIfInBounds_toArray, List.set_cons_zero, List.set_cons_succ]
  refine takeM (i := 3) (oi := _) (oM := _) (v := (.pointer (some ⟨bx, 0, none⟩))) 29 7 rfl rfl rfl (by kernel_rfl) (by kernel_rfl) (by kernel_rfl) (by kernel_rfl) (by kernel_rfl) (by kernel_rfl) (fun _ _ _ h => h) (Or.inl ⟨by rfl, fun w2 hSw => by go_simp⟩) hHeld ?_
  try simp only [Act.put, List.setIfInBounds_toArray, List.set_cons_zero, List.set_cons_succ]
  refine takeM (i := 4) (oi := _) (oM := _) (v := (.pointer (some ⟨bx, 1, none⟩))) 30 7 rfl rfl rfl (by kernel_rfl) (by kernel_rfl) (by kernel_rfl) (by kernel_rfl) (by kernel_rfl) (by kernel_rfl) (fun _ _ _ h => h) (Or.inl ⟨by rfl, fun w2 hSw => by go_simp⟩) hHeld ?_
  try simp only [Act.put, List.setIfInBounds_toArray, List.set_cons_zero, List.set_cons_succ]
  refine takeM (i := 5) (oi := _) (oM := _) (v := (.pointer (some ⟨bx, 3, none⟩))) 31 7 rfl rfl rfl (by kernel_rfl) (by kernel_rfl) (by kernel_rfl) (by kernel_rfl) (by kernel_rfl) (by kernel_rfl) (fun _ _ _ h => h) (Or.inl ⟨by rfl, fun w2 hSw => by go_simp⟩) hHeld ?_
  try simp only [Act.put, List.setIfInBounds_toArray, List.set_cons_zero, List.set_cons_succ]
  refine takeM (i := 6) (oi := _) (oM := _) (v := (.slice (some ⟨gK, 0, none⟩) 1 cK)) 32 7 rfl rfl rfl (by kernel_rfl) (by kernel_rfl) (by kernel_rfl) (by kernel_rfl) (by kernel_rfl) (by kernel_rfl) (fun _ _ _ h => h) (Or.inl ⟨by rfl, fun w2 hSw => by (have hc := hSw.1; go_simp)⟩) hHeld ?_
  try simp only [Act.put, List.setIfInBounds_toArray, List.set_cons_zero, List.set_cons_succ]
  refine takeM (i := 7) (oi := _) (oM := _) (v := (.int .i64 0)) 33 7 rfl rfl rfl (by kernel_rfl) (by kernel_rfl) (by kernel_rfl) (by kernel_rfl) (by kernel_rfl) (by kernel_rfl) (fun _ _ _ h => h) (Or.inl ⟨by rfl, fun w2 hSw => by go_simp⟩) hHeld ?_
  try simp only [Act.put, List.setIfInBounds_toArray, List.set_cons_zero, List.set_cons_succ]
  refine takeM (i := 8) (oi := _) (oM := _) (v := (.int .i64 0)) 34 7 rfl rfl rfl (by kernel_rfl) (by kernel_rfl) (by kernel_rfl) (by kernel_rfl) (by kernel_rfl) (by kernel_rfl) (fun _ _ _ h => h) (Or.inl ⟨by rfl, fun w2 hSw => by go_simp⟩) hHeld ?_
  try simp only [Act.put, List.setIfInBounds_toArray, List.set_cons_zero, List.set_cons_succ]
  refine takeM (i := 9) (oi := _) (oM := _) (v := (.int .i64 1)) 35 7 rfl rfl rfl (by kernel_rfl) (by kernel_rfl) (by kernel_rfl) (by kernel_rfl) (by kernel_rfl) (by kernel_rfl) (fun _ _ _ h => h) (Or.inl ⟨by rfl, fun w2 hSw => by (have hw1 : IntKind.i64.wrap 1 = 1 := (by rw [IntKind.wrap_i64]; omega); go_simp)⟩) hHeld ?_
  try simp only [Act.put, List.setIfInBounds_toArray, List.set_cons_zero, List.set_cons_succ]
  refine takeM (i := 11) (oi := _) (oM := _) (v := (.pointer (some ⟨bx, 0, none⟩))) 37 7 rfl rfl rfl (by kernel_rfl) (by kernel_rfl) (by kernel_rfl) (by kernel_rfl) (by kernel_rfl) (by kernel_rfl) (fun _ _ _ h => h) (Or.inl ⟨by rfl, fun w2 hSw => by go_simp⟩) hHeld ?_
  try simp only [Act.put, List.setIfInBounds_toArray, List.set_cons_zero, List.set_cons_succ]
  refine takeM (i := 12) (oi := _) (oM := _) (v := (.pointer (some ⟨bx, 0, none⟩))) 38 7 rfl rfl rfl (by kernel_rfl) (by kernel_rfl) (by kernel_rfl) (by kernel_rfl) (by kernel_rfl) (by kernel_rfl) (fun _ _ _ h => h) (Or.inl ⟨by rfl, fun w2 hSw => by go_simp⟩) hHeld ?_
  try simp only [Act.put, List.setIfInBounds_toArray, List.set_cons_zero, List.set_cons_succ]
  refine takeM (i := 13) (oi := _) (oM := _) (v := (.pointer (some ⟨bx, 1, none⟩))) 39 7 rfl rfl rfl (by kernel_rfl) (by kernel_rfl) (by kernel_rfl) (by kernel_rfl) (by kernel_rfl) (by kernel_rfl) (fun _ _ _ h => h) (Or.inl ⟨by rfl, fun w2 hSw => by go_simp⟩) hHeld ?_
  try simp only [Act.put, List.setIfInBounds_toArray, List.set_cons_zero, List.set_cons_succ]
  refine takeM (i := 14) (oi := _) (oM := _) (v := (.pointer (some ⟨bx, 4, none⟩))) 40 7 rfl rfl rfl (by kernel_rfl) (by kernel_rfl) (by kernel_rfl) (by kernel_rfl) (by kernel_rfl) (by kernel_rfl) (fun _ _ _ h => h) (Or.inl ⟨by rfl, fun w2 hSw => by go_simp⟩) hHeld ?_
  try simp only [Act.put, List.setIfInBounds_toArray, List.set_cons_zero, List.set_cons_succ]
  refine takeM (i := 15) (oi := _) (oM := _) (v := (.slice (some ⟨gV, 0, none⟩) 1 cV)) 41 7 rfl rfl rfl (by kernel_rfl) (by kernel_rfl) (by kernel_rfl) (by kernel_rfl) (by kernel_rfl) (by kernel_rfl) (fun _ _ _ h => h) (Or.inl ⟨by rfl, fun w2 hSw => by (have hc := hSw.2; go_simp)⟩) hHeld ?_
  try simp only [Act.put, List.setIfInBounds_toArray, List.set_cons_zero, List.set_cons_succ]
  refine takeM (i := 16) (oi := _) (oM := _) (v := (.int .i64 0)) 42 7 rfl rfl rfl (by kernel_rfl) (by kernel_rfl) (by kernel_rfl) (by kernel_rfl) (by kernel_rfl) (by kernel_rfl) (fun _ _ _ h => h) (Or.inl ⟨by rfl, fun w2 hSw => by go_simp⟩) hHeld ?_
  try simp only [Act.put, List.setIfInBounds_toArray, List.set_cons_zero, List.set_cons_succ]
  refine takeM (i := 17) (oi := _) (oM := _) (v := (.int .i64 0)) 43 7 rfl rfl rfl (by kernel_rfl) (by kernel_rfl) (by kernel_rfl) (by kernel_rfl) (by kernel_rfl) (by kernel_rfl) (fun _ _ _ h => h) (Or.inl ⟨by rfl, fun w2 hSw => by go_simp⟩) hHeld ?_
  try simp only [Act.put, List.setIfInBounds_toArray, List.set_cons_zero, List.set_cons_succ]
  refine takeM (i := 18) (oi := _) (oM := _) (v := (.int .i64 1)) 44 7 rfl rfl rfl (by kernel_rfl) (by kernel_rfl) (by kernel_rfl) (by kernel_rfl) (by kernel_rfl) (by kernel_rfl) (fun _ _ _ h => h) (Or.inl ⟨by rfl, fun w2 hSw => by (have hw1 : IntKind.i64.wrap 1 = 1 := (by rw [IntKind.wrap_i64]; omega); go_simp)⟩) hHeld ?_
  try simp only [Act.put, List.setIfInBounds_toArray, List.set_cons_zero, List.set_cons_succ]
  refine wpAnyM_ready (rs := [10]) (by kernel_rfl) (by simp) ?_
  refine AllReadyM.cons rfl (fun K hK => ?_) AllReadyM.nil
  go_simp
  go_wp2_with (first
    | (go_at_call 99; (with_reducible refine HDK.out.mono ?_); rintro e w' ⟨rfl, hw'⟩; rw [HW5.out] at hw'; subst w')
    | fail)
  refine hK.out _ _ HSX5.out (fun hHeld => ?_)
  clear hK
  try simp only [Act.put, List.setIfInBounds_toArray, List.set_cons_zero, List.set_cons_succ]
  refine wpAnyM_ready (rs := [19]) (by kernel_rfl) (by simp) ?_
  refine AllReadyM.cons rfl (fun K hK => ?_) AllReadyM.nil
  go_simp
  go_wp2_with (first
    | (go_at_call 99; (with_reducible refine HDV.out.mono ?_); rintro e w' ⟨rfl, hw'⟩; rw [HW6.out] at hw'; subst w')
    | fail)
  refine hK.out _ _ HSX6.out (fun hHeld => ?_)
  clear hK
  try simp only [Act.put, List.setIfInBounds_toArray, List.set_cons_zero, List.set_cons_succ]
  refine takeM (i := 20) (oi := _) (oM := _) (v := (.pointer (some ⟨bx, 0, none⟩))) 46 7 rfl rfl rfl (by kernel_rfl) (by kernel_rfl) (by kernel_rfl) (by kernel_rfl) (by kernel_rfl) (by kernel_rfl) (fun _ _ _ h => h) (Or.inl ⟨by rfl, fun w2 hSw => by go_simp⟩) hHeld ?_
  try simp only [Act.put, List.setIfInBounds_toArray, List.set_cons_zero, List.set_cons_succ]
  refine takeM (i := 21) (oi := _) (oM := _) (v := (.pointer (some ⟨bx, 1, none⟩))) 47 7 rfl rfl rfl (by kernel_rfl) (by kernel_rfl) (by kernel_rfl) (by kernel_rfl) (by kernel_rfl) (by kernel_rfl) (fun _ _ _ h => h) (Or.inl ⟨by rfl, fun w2 hSw => by go_simp⟩) hHeld ?_
  try simp only [Act.put, List.setIfInBounds_toArray, List.set_cons_zero, List.set_cons_succ]
  refine takeM (i := 22) (oi := _) (oM := _) (v := (.pointer (some ⟨bx, 3, none⟩))) 48 7 rfl rfl rfl (by kernel_rfl) (by kernel_rfl) (by kernel_rfl) (by kernel_rfl) (by kernel_rfl) (by kernel_rfl) (fun _ _ _ h => h) (Or.inl ⟨by rfl, fun w2 hSw => by go_simp⟩) hHeld ?_
  try simp only [Act.put, List.setIfInBounds_toArray, List.set_cons_zero, List.set_cons_succ]
  refine wpAnyM_ready (rs := [23]) (by kernel_rfl) (by simp) ?_
  refine AllReadyM.last rfl (by kernel_rfl) (fun K hK => ?_)
  have hc3 := HSX6.out.1
  have hf3 := frozen_of_row W6 bx 3 _ _ HX6.out
  go_simp
  refine hK.out _ _ ?_
  clear hK hHeld hc3 hf3
  try simp only [Act.put, List.setIfInBounds_toArray, List.set_cons_zero, List.set_cons_succ]
  refine takeA (i := 24) (oi := _) (v := (.pointer (some ⟨bx, 0, none⟩))) 49 rfl rfl (by kernel_rfl) (by kernel_rfl) (by kernel_rfl) (fun _ _ _ h => h) (Or.inl ⟨by rfl, fun w2 => by go_simp⟩) ?_
  try simp only [Act.put, List.setIfInBounds_toArray, List.set_cons_zero, List.set_cons_succ]
  refine takeA (i := 25) (oi := _) (v := (.pointer (some ⟨bx, 1, none⟩))) 50 rfl rfl (by kernel_rfl) (by kernel_rfl) (by kernel_rfl) (fun _ _ _ h => h) (Or.inl ⟨by rfl, fun w2 => by go_simp⟩) ?_
  try simp only [Act.put, List.setIfInBounds_toArray, List.set_cons_zero, List.set_cons_succ]
  refine takeA (i := 26) (oi := _) (v := (.pointer (some ⟨bx, 4, none⟩))) 51 rfl rfl (by kernel_rfl) (by kernel_rfl) (by kernel_rfl) (fun _ _ _ h => h) (Or.inl ⟨by rfl, fun w2 => by go_simp⟩) ?_
  try simp only [Act.put, List.setIfInBounds_toArray, List.set_cons_zero, List.set_cons_succ]
  refine wpAny_ready (rs := [27]) (by kernel_rfl) (by simp) ?_
  refine AllReady.cons rfl (fun K hK => ?_) AllReady.nil
  have hx7 := Joins.block_setCell HX6.out (i := 3) (.slice (some ⟨gK, 0, none⟩) 0 cK)
  have hc4 := Joins.cell_of_block (i := 4) hx7
  have hf4 := frozen_of_row _ bx 4 _ _ hx7
  go_simp
  refine hK _ _ ?_
  clear hK hc4 hf4
  try simp only [Act.put, List.setIfInBounds_toArray, List.set_cons_zero, List.set_cons_succ]
  refine wpAny_done (by kernel_rfl) ?_ _
  refine NoPanic.normal ?_
  go_wp2_with fail
  go_ret
  have hx8 := Joins.block_setCell hx7 (i := 4) (.slice (some ⟨gV, 0, none⟩) 0 cV)
  have keep8 : ∀ (j : Nat) (ob : Obj), W6.heap[j]? = some ob → j ≠ bx → ((W6.setCell ⟨bx, 3, none⟩ (.slice (some ⟨gK, 0, none⟩) 0 cK)).setCell ⟨bx, 4, none⟩ (.slice (some ⟨gV, 0, none⟩) 0 cV)).heap[j]? = some ob := fun j ob h h1 => (Below.heap_setCell _ ⟨bx, 4, none⟩ _ j h1).trans ((Below.heap_setCell W6 ⟨bx, 3, none⟩ _ j h1).trans h)
  exact ⟨rfl, _, _, ⟨no_row (keep8 gK _ HK6.out (fun e => HNE.out.2.2.2.1 e.symm)) mK (by rw [Array.size_setIfInBounds]; exact sK), no_row (keep8 gV _ HV6.out (fun e => HNE.out.2.2.2.2.1 e.symm)) mV (by rw [Array.size_setIfInBounds]; exact sV)⟩, hx8, keep8 bo _ HO6.out (fun e => HNE.out.2.2.2.2.2.1 e.symm), keep8 bh _ HH6.out (fun e => HNE.out.2.2.2.2.2.2.1 e.symm), (HT6.out.set ⟨bx, 3, none⟩ (.inl (.inl rfl)) _).set ⟨bx, 4, none⟩ (.inl (.inl rfl)) _⟩
end Go.Proofs.YtoclhiaidbfheaaGreatDoor.T
end

section
set_option linter.unusedVariables false
namespace Go.Proofs.YtoclhiaidbfheaaGreatDoor.T
open Go.RowKit Q S Go.ChangeMaps Go.MapKept

theorem twig_zero (w : World) : (zeroValue 186).run Tryz.prog w = .ok (.agg #[.int .u32 0, .int .i64 0, .int .u64 0, .slice none 0 0, .slice none 0 0]) w := by kernel_rfl
theorem twigS (r kd bi : Nat) (K V : Value) : (Tryz.prog.info? 186).map (·.size) = some (twA r kd bi K V).size := by kernel_rfl
theorem twig_all {r kd bi : Nat} {K2 V2 : Value} (h1 : K2.oneCell' = true) (h2 : V2.oneCell' = true) : (twA r kd bi K2 V2).all (·.oneCell') = true := by
  unfold twA
  simp only [List.all_toArray, List.all_cons, List.all_nil, h1, h2, Bool.and_true]
  rfl
theorem twig_box {W : World} {b : Nat} {cs : Array Value} (h : W.heap[b]? = some (.cells cs 186 (0, 0))) (hc : cs.size = 5) (r kd bi : Nat) (K2 V2 : Value) (h1 : K2.oneCell' = true) (h2 : V2.oneCell' = true) : (storeVar 186 ⟨b, 0, none⟩ (.agg (twA r kd bi K2 V2))).run Tryz.prog W = .ok () (W.setRow b (twA r kd bi K2 V2)) :=
  run_storeVar_row W b 186 186 cs _ h (twigS r kd bi _ _) hc (twig_all h1 h2)
theorem twig_new (r kd bi : Nat) (K2 V2 : Value) (h1 : K2.oneCell' = true) (h2 : V2.oneCell' = true) (W : World) : (storeVar 186 ⟨W.heap.size, 0, none⟩ (.agg (twA r kd bi K2 V2))).run Tryz.prog (W.alloc (.cells #[.int .u32 0, .int .i64 0, .int .u64 0, .slice none 0 0, .slice none 0 0] 186)) = .ok () (W.alloc (.cells (twA r kd bi K2 V2) 186)) :=
  run_storeVar_new W 186 #[.int .u32 0, .int .i64 0, .int .u64 0, .slice none 0 0, .slice none 0 0] (twA r kd bi K2 V2) (twigS r kd bi _ _) rfl (twig_all h1 h2)
theorem load_twig {w : World} {b : Nat} {r kd bi : Nat} {K V : Value} (h : w.heap[b]? = some (.cells (twA r kd bi K V) 186 (0, 0))) : (loadVar 186 ⟨b, 0, none⟩).run Tryz.prog w = .ok (.agg (twA r kd bi K V)) w :=
  run_loadVar_row w b 186 186 (twA r kd bi K V) (0, 0) _ h Tryz.underlying186 rfl (twigS r kd bi _ _)
/-- a change's cells: what it stands on, the key, its closures, how deep -/
abbrev chA (on : Value) (key : Nat) (lf nf : Value) : Array Value := #[on, .int .u64 (key : Int), lf, nf, .int .i64 0]
section
variable {w W W' : World} {k : LK} {c c' : C.CS} {q q' : Nat} {D D' : DataW Value} {b : Nat} {rm rm' : Int} {m1 nx nx' m2 : Nat} {q1 q1' : Nat} {D1 D1' : DataW Value} {q2 q2' : Nat} {D2 D2' : DataW Value} {B : Nat}
variable {r : Nat} {kd bi : Nat} {K2 V2 : Value} {ks vs : List Nat}
set_option maxRecDepth 100000 in
set_option maxHeartbeats 8000000 in
theorem TS.chShadow (h : TS w W k c q (dm1 r (.agg #[.int .i64 (kd : Int), .int .u64 (bi : Int), K2, V2])) b rm m1 nx m2 q1 dm0 q2 D2 B) (hu : NO W K2 V2 ks vs) (hq : q < 900) (hc : c.now.length = 200) (hcn : C.lookN c.now (r : Int) = 1) (hct : D2.atKey (keyN r) (.held (.int .i64 0)) = .held (.int .i64 0)) (h0 : 0 < r) (h2 : r < 200) (hl : ks.length ≤ 1000) (hl2 : vs.length ≤ 1000) (hm : mayB ⟨kd, bi, ks, vs⟩ = true) (hk : ¬ (kd : Int) = 1) (bc key : Nat) (lf nf : Value) (hch : W.heap[bc]? = some (.cells (chA (onT b) key lf nf) 183 (0, 0))) (hbc : ¬ gts k b m1 m2 bc) :
    Calls Tryz.prog 160 #[.pointer (some ⟨bc, 0, none⟩), .int .u32 (r : Int)] W fun e w' => ∃ K3 V3, e = .returned (.tuple #[.agg (twA r kd bi K3 V3), .int .i64 0]) ∧ Hid (NB w' W.heap.size K3 V3 ks vs ∧ Q.Stays W w' (gts k b m1 m2) ∧ ∃ K4 V4, NB w' W.heap.size K4 V4 ks vs ∧ Apart4 K3 V3 K4 V4 ∧ TS w w' k c (q + 1) (dm1 r (.agg #[.int .i64 (kd : Int), .int .u64 (bi : Int), K4, V4])) b rm m1 nx m2 q1 dm0 q2 D2 B) := by
  obtain ⟨W1, hW1⟩ : ∃ W1, W.alloc (.cells #[.int .u32 0, .int .i64 0, .int .u64 0, .slice none 0 0, .slice none 0 0] 186) = W1 := ⟨_, rfl⟩
  have hb1 : Below W.heap.size W W1 := by rw [← hW1]; exact (Below.refl _ W).alloc (Nat.le_refl _) _
  have hbt : W1.heap[W.heap.size]? = some (.cells #[.int .u32 0, .int .i64 0, .int .u64 0, .slice none 0 0, .slice none 0 0] 186 (0, 0)) := by rw [← hW1]; exact heap_alloc_new W _
  have hch1 := (hb1.block bc (Array.getElem?_eq_some_iff.1 hch).1).trans hch
  have s1 := h.below hb1
  have HSH := Lib.hid (s1.shadow (hu.below hb1) hq hc hcn hct h0 h2 hl hl2 hm)
  have HWN := Lib.hid (fun j (hj : gts k b m1 m2 j) => h.glt hj)
  have HSZ := Lib.hid h.size
  have HSD : Hid (∀ (W : World) (K V : Value), Calls Tryz.prog 163 #[.agg #[.int .i64 (kd : Int), .int .u64 (bi : Int), K, V], .int .i64 0] W fun e w' => e = .returned (.bool true) ∧ Below W.heap.size W w') := Lib.hid fun W K V => stands_leaf W kd bi K V hk
  have HB1 := Lib.hid hb1
  have HBT := Lib.hid hbt
  have HCH1 := Lib.hid hch1
  have HCL := Lib.hid (Array.getElem?_eq_some_iff.1 hch).1
  have hcon := Joins.cell_of_block (i := 0) hch1
  clear h hu s1 hb1 hbt hch1 hch hct hm hcn hc
  have hz := node_zero
  have htz := twig_zero
  go_enter Tryz.func160, Tryz.ntmps160
  go_upto_region 1 with fail
  clear hW1
  go_upto_region 4 with (first
    | (go_at_call 284; (with_reducible refine HSH.out.mono ?_); rintro e w2 ⟨K3, V3, rfl, h2⟩; have HX2 := Lib.hid h2.out.1; have HT2 := Lib.hid h2.out.2.1; have HR2 := Lib.hid h2.out.2.2; have HST2 := Lib.hid (node_new (kd : Int) (bi : Int) K3 V3 HX2.out.one.1 HX2.out.one.2 w2); clear h2)
    | ((with_reducible show wpList _ _ _ ({ dst := _, op := .store _ _ _, type := _, pos := _, after := _, guard := _ } :: _) _ _); refine wpList_store_run rfl 45 (.tmp 7) (.tmp 17) rfl w2.heap.size 0 _ ?ws17 rfl rfl ?hs17 ?_; (case hs17 => exact HST2.out))
    | fail)
  clear hcon
  obtain ⟨W3, hW3⟩ : ∃ W3, (w2.alloc (.cells #[.int .i64 (kd : Int), .int .u64 (bi : Int), K3, V3] 45)).drew = W3 := ⟨_, rfl⟩
  have hb3 : Below w2.heap.size w2 W3 := by rw [← hW3]; exact ((Below.refl _ w2).alloc (Nat.le_refl _) _).drew
  have hn3 : W3.heap[w2.heap.size]? = some (.cells #[.int .i64 (kd : Int), .int .u64 (bi : Int), K3, V3] 45 (0, 0)) := by rw [← hW3]; exact heap_alloc_new w2 _
  have hch2 := (HT2.out.block bc (by have := HCL.out; have := HB1.out.size; omega) hbc).trans HCH1.out
  have hbt2 := (HT2.out.block W.heap.size (Array.getElem?_eq_some_iff.1 HBT.out).1 (fun e => by have := HWN.out _ e; omega)).trans HBT.out
  have HCH3 := Lib.hid ((hb3.block bc (Array.getElem?_eq_some_iff.1 hch2).1).trans hch2)
  have HBT3 := Lib.hid ((hb3.block W.heap.size (Array.getElem?_eq_some_iff.1 hbt2).1).trans hbt2)
  have HZ2 : Hid (W.heap.size < w2.heap.size) := Lib.hid (Array.getElem?_eq_some_iff.1 hbt2).1
  have HB3 := Lib.hid hb3
  have HN3 := Lib.hid hn3
  have HSD3 := Lib.hid (HSD.out W3 K3 V3)
  have hc4 := Joins.cell_of_block (i := 4) HCH3.out
  clear hb3 hn3 hch2 hbt2 HST2
  refine wp_region_noPanic ?_
  refine wp_region_held_drew (S := fun w' => w'.cell? ⟨bc, 4, none⟩ = some (.int .i64 0) ∧ w'.rangeAt w2.heap.size 0 [.int .i64 (kd : Int), .int .u64 (bi : Int), K3, V3]) (by kernel_rfl) (by rw [hW3]; exact ⟨hc4, range_of HN3.out⟩) (fun hHeld => ?_)
  rw [hW3] at hHeld ⊢
  clear hW3 hc4
  have hnd := Tryz.underlying45
  refine takeN (i := 0) (oi := _) (v := (.agg #[.int .i64 (kd : Int), .int .u64 (bi : Int), K3, V3])) 23 rfl rfl (by kernel_rfl) (by kernel_rfl) (by kernel_rfl) (fun _ _ _ h => h) (yieldsIf_load_mid (by rfl) 45 (.tmp 7) rfl w2.heap.size 0 rfl [.int .i64 (kd : Int), .int .u64 (bi : Int), K3, V3] _ (fun w2 hSw => hSw.2) hnd rfl (nodeC kd bi K3 V3)) hHeld ?_
  try simp only [Act.put, List.setIfInBounds_toArray, List.set_cons_zero, List.set_cons_succ]
  clear hnd
  refine takeN (i := 1) (oi := _) (v := (.pointer (some ⟨bc, 0, none⟩))) 24 rfl rfl (by kernel_rfl) (by kernel_rfl) (by kernel_rfl) (fun _ _ _ h => h) (Or.inl ⟨by rfl, fun w2 hSw => by go_simp⟩) hHeld ?_
  try simp only [Act.put, List.setIfInBounds_toArray, List.set_cons_zero, List.set_cons_succ]
  refine takeN (i := 2) (oi := _) (v := (.pointer (some ⟨bc, 0, none⟩))) 25 rfl rfl (by kernel_rfl) (by kernel_rfl) (by kernel_rfl) (fun _ _ _ h => h) (Or.inl ⟨by rfl, fun w2 hSw => by go_simp⟩) hHeld ?_
  try simp only [Act.put, List.setIfInBounds_toArray, List.set_cons_zero, List.set_cons_succ]
  refine takeN (i := 3) (oi := _) (v := (.pointer (some ⟨bc, 4, none⟩))) 26 rfl rfl (by kernel_rfl) (by kernel_rfl) (by kernel_rfl) (fun _ _ _ h => h) (Or.inl ⟨by rfl, fun w2 hSw => by go_simp⟩) hHeld ?_
  try simp only [Act.put, List.setIfInBounds_toArray, List.set_cons_zero, List.set_cons_succ]
  refine takeN (i := 4) (oi := _) (v := (.int .i64 0)) 27 rfl rfl (by kernel_rfl) (by kernel_rfl) (by kernel_rfl) (fun _ _ _ h => h) (Or.inl ⟨by rfl, fun w2 hSw => by (have hc := hSw.1; go_simp)⟩) hHeld ?_
  try simp only [Act.put, List.setIfInBounds_toArray, List.set_cons_zero, List.set_cons_succ]
  refine wpAnyH_ready (rs := [5]) (by kernel_rfl) (by simp) ?_
  refine AllReadyH.cons rfl (fun K hK => ?_) AllReadyH.nil
  go_simp
  go_wp2_with (first
    | (go_at_call 163; (with_reducible refine HSD3.out.mono ?_); rintro e w4 ⟨rfl, hb4⟩)
    | fail)
  have HB4 := Lib.hid hb4
  have HCH4 := Lib.hid ((hb4.block bc (Array.getElem?_eq_some_iff.1 HCH3.out).1).trans HCH3.out)
  have HBT4 := Lib.hid ((hb4.block W.heap.size (Array.getElem?_eq_some_iff.1 HBT3.out).1).trans HBT3.out)
  have HN4 := Lib.hid ((hb4.block w2.heap.size (Array.getElem?_eq_some_iff.1 HN3.out).1).trans HN3.out)
  refine hK.out _ _ ⟨Joins.cell_of_block (i := 4) HCH4.out, range_of HN4.out⟩ (fun hHeld => ?_)
  clear hK hb4
  try simp only [Act.put, List.setIfInBounds_toArray, List.set_cons_zero, List.set_cons_succ]
  refine takeN (i := 6) (oi := _) (v := (.bool false)) 29 rfl rfl (by kernel_rfl) (by kernel_rfl) (by kernel_rfl) (fun _ _ _ h => h) (Or.inl ⟨by rfl, fun w2 hSw => by go_simp⟩) hHeld ?_
  try simp only [Act.put, List.setIfInBounds_toArray, List.set_cons_zero, List.set_cons_succ]
  refine wpAnyH_done (by kernel_rfl) ?_ _
  refine NoPanic.normal ?_
  have HX4 := Lib.hid ((HX2.out.below HB3.out).below HB4.out)
  have HST4 := Lib.hid (twig_box HBT4.out rfl r kd bi K3 V3 HX4.out.one.1 HX4.out.one.2)
  have HRN4 := Lib.hid (range_of HN4.out)
  clear hHeld
  go_wp2_with (first
    | ((with_reducible show wpList _ _ _ ({ dst := _, op := .load _ _, type := _, pos := _, after := _, guard := _ } :: _) _ _); refine wpList_load_mid rfl 45 (.tmp 7) rfl w2.heap.size 0 rfl [.int .i64 (kd : Int), .int .u64 (bi : Int), K3, V3] _ ?hln Tryz.underlying45 rfl (nodeC _ _ _ _) ?_; (case hln => exact HRN4.out))
    | ((with_reducible show wpList _ _ _ ({ dst := _, op := .store _ _ _, type := _, pos := _, after := _, guard := _ } :: _) _ _); refine wpList_store_run rfl 186 (.tmp 4) (.tmp 33) rfl W.heap.size 0 _ ?ws33 rfl rfl ?hs33 ?_; (case hs33 => exact HST4.out))
    | fail)
  have s5 : Q.Stays w4 (w4.setRow W.heap.size (twA r kd bi K3 V3)) (fun j => j = W.heap.size) := Q.Stays.set_row HBT4.out
  have hno : ∀ j cs, w4.heap[j]? = some (.cells cs 23 (0, 0)) → ¬ j = W.heap.size := fun j cs hc e => by rw [e] at hc; exact absurd (cells_ne hc HBT4.out) (by decide)
  obtain ⟨K4, V4, hu2, ap2, ts2⟩ := HR2.out
  have ts4 := (ts2.below HB3.out).below HB4.out
  exact bodyPost_ret (results_ct rfl _ _ _ _ _ rfl rfl (load_twig (setRow_at HBT4.out))) rfl ⟨K3, V3, rfl, (HX4.out.on s5 hno).mono HB1.out.size, (((((Q.Stays.of_below HB1.out (gts k b m1 m2)).trans HT2.out (fun _ e => .inl e)).trans (Q.Stays.of_below HB3.out (gts k b m1 m2)) (fun _ e => .inl e)).trans (Q.Stays.of_below HB4.out (gts k b m1 m2)) (fun _ e => .inl e)).trans s5 (fun j e => .inr (by have : j = W.heap.size := e; omega))), K4, V4, (((hu2.below HB3.out).below HB4.out).on s5 hno).mono HB1.out.size, ap2, ts4.on s5 (fun j e => by have := HSZ.out; have : j = W.heap.size := e; omega) (fun j hj e => by have := HWN.out j (.inr hj); have : j = W.heap.size := e; omega)⟩
set_option maxRecDepth 100000 in
set_option maxHeartbeats 8000000 in
theorem LS.chShadow (h : LS w W k c q (dm1 r (.agg #[.int .i64 (kd : Int), .int .u64 (bi : Int), K2, V2]))) (hu : NO W K2 V2 ks vs) (hc : c.now.length = 200) (hcn : C.lookN c.now (r : Int) = 1) (h0 : 0 < r) (h2 : r < 200) (hl : ks.length ≤ 1000) (hl2 : vs.length ≤ 1000) (hk : ¬ (kd : Int) = 1) (bc key : Nat) (lf nf : Value) (hch : W.heap[bc]? = some (.cells (chA (onS k) key lf nf) 183 (0, 0))) :
    Calls Tryz.prog 160 #[.pointer (some ⟨bc, 0, none⟩), .int .u32 (r : Int)] W fun e w' => ∃ K3 V3, e = .returned (.tuple #[.agg (twA r kd bi K3 V3), .int .i64 0]) ∧ Hid (NB w' W.heap.size K3 V3 ks vs ∧ Below W.heap.size W w') := by
  obtain ⟨W1, hW1⟩ : ∃ W1, W.alloc (.cells #[.int .u32 0, .int .i64 0, .int .u64 0, .slice none 0 0, .slice none 0 0] 186) = W1 := ⟨_, rfl⟩
  have hb1 : Below W.heap.size W W1 := by rw [← hW1]; exact (Below.refl _ W).alloc (Nat.le_refl _) _
  have hbt : W1.heap[W.heap.size]? = some (.cells #[.int .u32 0, .int .i64 0, .int .u64 0, .slice none 0 0, .slice none 0 0] 186 (0, 0)) := by rw [← hW1]; exact heap_alloc_new W _
  have hch1 := (hb1.block bc (Array.getElem?_eq_some_iff.1 hch).1).trans hch
  have s1 := h.below hb1
  have HSH := Lib.hid (s1.shadow (hu.below hb1) hc hcn h0 h2 hl hl2)
  have HSD : Hid (∀ (W : World) (K V : Value), Calls Tryz.prog 163 #[.agg #[.int .i64 (kd : Int), .int .u64 (bi : Int), K, V], .int .i64 0] W fun e w' => e = .returned (.bool true) ∧ Below W.heap.size W w') := Lib.hid fun W K V => stands_leaf W kd bi K V hk
  have HB1 := Lib.hid hb1
  have HBT := Lib.hid hbt
  have HCH1 := Lib.hid hch1
  have HCL := Lib.hid (Array.getElem?_eq_some_iff.1 hch).1
  have hcon := Joins.cell_of_block (i := 0) hch1
  clear h hu s1 hb1 hbt hch1 hch hcn hc
  have hz := node_zero
  have htz := twig_zero
  unfold LK.p at *
  go_enter Tryz.func160, Tryz.ntmps160
  go_upto_region 1 with fail
  clear hW1
  go_upto_region 4 with (first
    | (go_at_call 277; (with_reducible refine HSH.out.mono ?_); rintro e w2 ⟨K3, V3, rfl, hx2, hb2⟩; have HX2 := Lib.hid hx2; have HT2 := Lib.hid hb2; have HST2 := Lib.hid (node_new (kd : Int) (bi : Int) K3 V3 hx2.one.1 hx2.one.2 w2); clear hx2 hb2)
    | ((with_reducible show wpList _ _ _ ({ dst := _, op := .store _ _ _, type := _, pos := _, after := _, guard := _ } :: _) _ _); refine wpList_store_run rfl 45 (.tmp 7) (.tmp 17) rfl w2.heap.size 0 _ ?ws17 rfl rfl ?hs17 ?_; (case hs17 => exact HST2.out))
    | fail)
  clear hcon
  obtain ⟨W3, hW3⟩ : ∃ W3, (w2.alloc (.cells #[.int .i64 (kd : Int), .int .u64 (bi : Int), K3, V3] 45)).drew = W3 := ⟨_, rfl⟩
  have hb3 : Below w2.heap.size w2 W3 := by rw [← hW3]; exact ((Below.refl _ w2).alloc (Nat.le_refl _) _).drew
  have hn3 : W3.heap[w2.heap.size]? = some (.cells #[.int .i64 (kd : Int), .int .u64 (bi : Int), K3, V3] 45 (0, 0)) := by rw [← hW3]; exact heap_alloc_new w2 _
  have hch2 := (HT2.out.block bc (by have := HCL.out; have := HB1.out.size; omega)).trans HCH1.out
  have hbt2 := (HT2.out.block W.heap.size (Array.getElem?_eq_some_iff.1 HBT.out).1).trans HBT.out
  have HCH3 := Lib.hid ((hb3.block bc (Array.getElem?_eq_some_iff.1 hch2).1).trans hch2)
  have HBT3 := Lib.hid ((hb3.block W.heap.size (Array.getElem?_eq_some_iff.1 hbt2).1).trans hbt2)
  have HZ2 : Hid (W.heap.size < w2.heap.size) := Lib.hid (Array.getElem?_eq_some_iff.1 hbt2).1
  have HB3 := Lib.hid hb3
  have HN3 := Lib.hid hn3
  have HSD3 := Lib.hid (HSD.out W3 K3 V3)
  have hc4 := Joins.cell_of_block (i := 4) HCH3.out
  clear hb3 hn3 hch2 hbt2 HST2
  refine wp_region_noPanic ?_
  refine wp_region_held_drew (S := fun w' => w'.cell? ⟨bc, 4, none⟩ = some (.int .i64 0) ∧ w'.rangeAt w2.heap.size 0 [.int .i64 (kd : Int), .int .u64 (bi : Int), K3, V3]) (by kernel_rfl) (by rw [hW3]; exact ⟨hc4, range_of HN3.out⟩) (fun hHeld => ?_)
  rw [hW3] at hHeld ⊢
  clear hW3 hc4
  have hnd := Tryz.underlying45
  refine takeN (i := 0) (oi := _) (v := (.agg #[.int .i64 (kd : Int), .int .u64 (bi : Int), K3, V3])) 23 rfl rfl (by kernel_rfl) (by kernel_rfl) (by kernel_rfl) (fun _ _ _ h => h) (yieldsIf_load_mid (by rfl) 45 (.tmp 7) rfl w2.heap.size 0 rfl [.int .i64 (kd : Int), .int .u64 (bi : Int), K3, V3] _ (fun w2 hSw => hSw.2) hnd rfl (nodeC kd bi K3 V3)) hHeld ?_
  try simp only [Act.put, List.setIfInBounds_toArray, List.set_cons_zero, List.set_cons_succ]
  clear hnd
  refine takeN (i := 1) (oi := _) (v := (.pointer (some ⟨bc, 0, none⟩))) 24 rfl rfl (by kernel_rfl) (by kernel_rfl) (by kernel_rfl) (fun _ _ _ h => h) (Or.inl ⟨by rfl, fun w2 hSw => by go_simp⟩) hHeld ?_
  try simp only [Act.put, List.setIfInBounds_toArray, List.set_cons_zero, List.set_cons_succ]
  refine takeN (i := 2) (oi := _) (v := (.pointer (some ⟨bc, 0, none⟩))) 25 rfl rfl (by kernel_rfl) (by kernel_rfl) (by kernel_rfl) (fun _ _ _ h => h) (Or.inl ⟨by rfl, fun w2 hSw => by go_simp⟩) hHeld ?_
  try simp only [Act.put, List.setIfInBounds_toArray, List.set_cons_zero, List.set_cons_succ]
  refine takeN (i := 3) (oi := _) (v := (.pointer (some ⟨bc, 4, none⟩))) 26 rfl rfl (by kernel_rfl) (by kernel_rfl) (by kernel_rfl) (fun _ _ _ h => h) (Or.inl ⟨by rfl, fun w2 hSw => by go_simp⟩) hHeld ?_
  try simp only [Act.put, List.setIfInBounds_toArray, List.set_cons_zero, List.set_cons_succ]
  refine takeN (i := 4) (oi := _) (v := (.int .i64 0)) 27 rfl rfl (by kernel_rfl) (by kernel_rfl) (by kernel_rfl) (fun _ _ _ h => h) (Or.inl ⟨by rfl, fun w2 hSw => by (have hc := hSw.1; go_simp)⟩) hHeld ?_
  try simp only [Act.put, List.setIfInBounds_toArray, List.set_cons_zero, List.set_cons_succ]
  refine wpAnyH_ready (rs := [5]) (by kernel_rfl) (by simp) ?_
  refine AllReadyH.cons rfl (fun K hK => ?_) AllReadyH.nil
  go_simp
  go_wp2_with (first
    | (go_at_call 163; (with_reducible refine HSD3.out.mono ?_); rintro e w4 ⟨rfl, hb4⟩)
    | fail)
  have HB4 := Lib.hid hb4
  have HCH4 := Lib.hid ((hb4.block bc (Array.getElem?_eq_some_iff.1 HCH3.out).1).trans HCH3.out)
  have HBT4 := Lib.hid ((hb4.block W.heap.size (Array.getElem?_eq_some_iff.1 HBT3.out).1).trans HBT3.out)
  have HN4 := Lib.hid ((hb4.block w2.heap.size (Array.getElem?_eq_some_iff.1 HN3.out).1).trans HN3.out)
  refine hK.out _ _ ⟨Joins.cell_of_block (i := 4) HCH4.out, range_of HN4.out⟩ (fun hHeld => ?_)
  clear hK hb4
  try simp only [Act.put, List.setIfInBounds_toArray, List.set_cons_zero, List.set_cons_succ]
  refine takeN (i := 6) (oi := _) (v := (.bool false)) 29 rfl rfl (by kernel_rfl) (by kernel_rfl) (by kernel_rfl) (fun _ _ _ h => h) (Or.inl ⟨by rfl, fun w2 hSw => by go_simp⟩) hHeld ?_
  try simp only [Act.put, List.setIfInBounds_toArray, List.set_cons_zero, List.set_cons_succ]
  refine wpAnyH_done (by kernel_rfl) ?_ _
  refine NoPanic.normal ?_
  have HX4 := Lib.hid ((HX2.out.below HB3.out).below HB4.out)
  have HST4 := Lib.hid (twig_box HBT4.out rfl r kd bi K3 V3 HX4.out.one.1 HX4.out.one.2)
  have HRN4 := Lib.hid (range_of HN4.out)
  clear hHeld
  go_wp2_with (first
    | ((with_reducible show wpList _ _ _ ({ dst := _, op := .load _ _, type := _, pos := _, after := _, guard := _ } :: _) _ _); refine wpList_load_mid rfl 45 (.tmp 7) rfl w2.heap.size 0 rfl [.int .i64 (kd : Int), .int .u64 (bi : Int), K3, V3] _ ?hln Tryz.underlying45 rfl (nodeC _ _ _ _) ?_; (case hln => exact HRN4.out))
    | ((with_reducible show wpList _ _ _ ({ dst := _, op := .store _ _ _, type := _, pos := _, after := _, guard := _ } :: _) _ _); refine wpList_store_run rfl 186 (.tmp 4) (.tmp 33) rfl W.heap.size 0 _ ?ws33 rfl rfl ?hs33 ?_; (case hs33 => exact HST4.out))
    | fail)
  have s5 : Q.Stays w4 (w4.setRow W.heap.size (twA r kd bi K3 V3)) (fun j => j = W.heap.size) := Q.Stays.set_row HBT4.out
  have hno : ∀ j cs, w4.heap[j]? = some (.cells cs 23 (0, 0)) → ¬ j = W.heap.size := fun j cs hc e => by rw [e] at hc; exact absurd (cells_ne hc HBT4.out) (by decide)
  have hb4 : Below W.heap.size W w4 := HB1.out.trans ((HT2.out.trans ((HB3.out.trans (HB4.out.mono HB3.out.size)).mono HT2.out.size)).mono HB1.out.size)
  exact bodyPost_ret (results_ct rfl _ _ _ _ _ rfl rfl (load_twig (setRow_at HBT4.out))) rfl ⟨K3, V3, rfl, (HX4.out.on s5 hno).mono HB1.out.size, below_setRow hb4 (Nat.le_refl _) _⟩
end
end Go.Proofs.YtoclhiaidbfheaaGreatDoor.T
end

section
set_option linter.unusedVariables false
namespace Go.Proofs.YtoclhiaidbfheaaGreatDoor.T
open Go.RowKit Q S Go.ChangeMaps Go.MapKept

section
variable {w W W' : World} {k : LK} {c c' : C.CS} {q q' : Nat} {D D' : DataW Value} {b : Nat} {rm rm' : Int} {m1 nx nx' m2 : Nat} {q1 q1' : Nat} {D1 D1' : DataW Value} {q2 q2' : Nat} {D2 D2' : DataW Value} {B : Nat}
variable {r : Nat} {kd bi : Nat} {K2 V2 : Value} {ks vs : List Nat}
set_option maxRecDepth 100000 in
set_option maxHeartbeats 8000000 in
theorem TS.chKeep (h : TS w W k c q D b rm m1 nx m2 q1 dm0 q2 D2 B) (hq1 : q1 < 900) (hcn : C.lookN c.now (r : Int) = 1) (hct : D2.atKey (keyN r) (.held (.int .i64 0)) = .held (.int .i64 0)) (h0 : 0 < r) (h2 : r < 200) (KK VV : Value) (hx : NO W KK VV ks vs) (hl : ks.length ≤ 1000) (hl2 : vs.length ≤ 1000) (hm : mayB ⟨kd, bi, ks, vs⟩ = true) (bc key : Nat) (lf nf : Value) (hch : W.heap[bc]? = some (.cells (chA (onT b) key lf nf) 183 (0, 0))) (hbc : ¬ tts b m1 m2 bc) :
    Calls Tryz.prog 93 #[.pointer (some ⟨bc, 0, none⟩), .agg (twA r kd bi KK VV)] W fun e w' => e = .returned (.tuple #[.int .u32 (r : Int), .int .i64 0]) ∧ Hid (Q.Stays W w' (tts b m1 m2) ∧ ∃ K4 V4, NO w' K4 V4 ks vs ∧ TS w w' k c q D b rm m1 nx m2 (q1 + 1) (dm1 r (.agg #[.int .i64 (kd : Int), .int .u64 (bi : Int), K4, V4])) q2 D2 B) := by
  obtain ⟨W1, hW1⟩ : ∃ W1, W.alloc (.cells (twA r kd bi KK VV) 186) = W1 := ⟨_, rfl⟩
  have hb1 : Below W.heap.size W W1 := by rw [← hW1]; exact (Below.refl _ W).alloc (Nat.le_refl _) _
  have hbt : W1.heap[W.heap.size]? = some (.cells (twA r kd bi KK VV) 186 (0, 0)) := by rw [← hW1]; exact heap_alloc_new W _
  have hch1 := (hb1.block bc (Array.getElem?_eq_some_iff.1 hch).1).trans hch
  have hd1 : Below W1.heap.size W1 W1.drew := (Below.refl _ W1).drew
  have s1 := (h.below hb1).below hd1
  have HPT := Lib.hid (s1.tt.put s1.lb.ls hq1 r 1 (by omega) hcn (by omega) 0 hct (by omega) (by omega) (by omega) kd bi KK VV ks vs ((hx.below hb1).below hd1) hl hl2 hm)
  have HWN := Lib.hid (fun j (hj : tts b m1 m2 j) => h.tt.lt hj)
  have HS1 := Lib.hid s1
  have HB1 := Lib.hid (hb1.trans (hd1.mono hb1.size))
  have HBT := Lib.hid hbt
  have HCH1 := Lib.hid hch1
  have hr0 : ¬ (r : Int) = 0 := by omega
  have hbt0 := Joins.cell_of_block (i := 0) hbt
  have SX : ∀ (w' : World), w'.heap[W.heap.size]? = some (.cells (twA r kd bi KK VV) 186 (0, 0)) → w'.heap[bc]? = some (.cells (chA (onT b) key lf nf) 183 (0, 0)) → w'.cell? ⟨W.heap.size, 0, none⟩ = some (.int .u32 (r : Int)) ∧ w'.rangeAt W.heap.size 1 [.int .i64 (kd : Int), .int .u64 (bi : Int), KK, VV] ∧ w'.cell? ⟨bc, 0, none⟩ = some (onT b)   := fun w' h1 h2 => ⟨Joins.cell_of_block (i := 0) h1, fun j u hu => by
    rw [Joins.cell_of_block h1, ← hu]
    unfold twA
    rw [List.getElem?_toArray, Nat.add_comm, List.getElem?_cons_succ], Joins.cell_of_block (i := 0) h2⟩
  have HSX := Lib.hid SX
  have HSX1 := Lib.hid (SX W1.drew hbt hch1)
  clear h hx s1 hb1 hbt hch1 hch hd1 SX hm hct hcn
  go_enter Tryz.func93, Tryz.ntmps93
  go_upto_region 3 with fail
  clear hW1 hbt0
  refine wp_region_noPanic ?_
  refine wp_region_held_drew (S := fun w' => w'.cell? ⟨W.heap.size, 0, none⟩ = some (.int .u32 (r : Int)) ∧ w'.rangeAt W.heap.size 1 [.int .i64 (kd : Int), .int .u64 (bi : Int), KK, VV] ∧ w'.cell? ⟨bc, 0, none⟩ = some (onT b)) (by kernel_rfl) HSX1.out (fun hHeld => ?_)
  refine takeN (i := 0) (oi := _) (v := (.pointer (some ⟨W.heap.size, 0, none⟩))) 18 rfl rfl (by kernel_rfl) (by kernel_rfl) (by kernel_rfl) (fun _ _ _ h => h) (Or.inl ⟨by rfl, fun w2 hSw => by go_simp⟩) hHeld ?_
  try simp only [Act.put, List.setIfInBounds_toArray, List.set_cons_zero, List.set_cons_succ]
  refine takeN (i := 1) (oi := _) (v := (.int .u32 (r : Int))) 19 rfl rfl (by kernel_rfl) (by kernel_rfl) (by kernel_rfl) (fun _ _ _ h => h) (Or.inl ⟨by rfl, fun w2 hSw => by (have hc := hSw.1; go_simp)⟩) hHeld ?_
  try simp only [Act.put, List.setIfInBounds_toArray, List.set_cons_zero, List.set_cons_succ]
  refine takeN (i := 2) (oi := _) (v := (.pointer (some ⟨bc, 0, none⟩))) 20 rfl rfl (by kernel_rfl) (by kernel_rfl) (by kernel_rfl) (fun _ _ _ h => h) (Or.inl ⟨by rfl, fun w2 hSw => by go_simp⟩) hHeld ?_
  try simp only [Act.put, List.setIfInBounds_toArray, List.set_cons_zero, List.set_cons_succ]
  refine takeN (i := 3) (oi := _) (v := (.pointer (some ⟨bc, 0, none⟩))) 21 rfl rfl (by kernel_rfl) (by kernel_rfl) (by kernel_rfl) (fun _ _ _ h => h) (Or.inl ⟨by rfl, fun w2 hSw => by go_simp⟩) hHeld ?_
  try simp only [Act.put, List.setIfInBounds_toArray, List.set_cons_zero, List.set_cons_succ]
  refine takeN (i := 4) (oi := _) (v := (.pointer (some ⟨bc, 0, none⟩))) 22 rfl rfl (by kernel_rfl) (by kernel_rfl) (by kernel_rfl) (fun _ _ _ h => h) (Or.inl ⟨by rfl, fun w2 hSw => by go_simp⟩) hHeld ?_
  try simp only [Act.put, List.setIfInBounds_toArray, List.set_cons_zero, List.set_cons_succ]
  refine takeN (i := 5) (oi := _) (v := (onT b)) 23 rfl rfl (by kernel_rfl) (by kernel_rfl) (by kernel_rfl) (fun _ _ _ h => h) (Or.inl ⟨by rfl, fun w2 hSw => by (have hc := hSw.2.2; go_simp)⟩) hHeld ?_
  try simp only [Act.put, List.setIfInBounds_toArray, List.set_cons_zero, List.set_cons_succ]
  refine takeN (i := 6) (oi := _) (v := (.pointer (some ⟨W.heap.size, 0, none⟩))) 24 rfl rfl (by kernel_rfl) (by kernel_rfl) (by kernel_rfl) (fun _ _ _ h => h) (Or.inl ⟨by rfl, fun w2 hSw => by go_simp⟩) hHeld ?_
  try simp only [Act.put, List.setIfInBounds_toArray, List.set_cons_zero, List.set_cons_succ]
  refine takeN (i := 7) (oi := _) (v := (.int .u32 (r : Int))) 25 rfl rfl (by kernel_rfl) (by kernel_rfl) (by kernel_rfl) (fun _ _ _ h => h) (Or.inl ⟨by rfl, fun w2 hSw => by (have hc := hSw.1; go_simp)⟩) hHeld ?_
  try simp only [Act.put, List.setIfInBounds_toArray, List.set_cons_zero, List.set_cons_succ]
  refine takeN (i := 8) (oi := _) (v := (.pointer (some ⟨W.heap.size, 1, none⟩))) 26 rfl rfl (by kernel_rfl) (by kernel_rfl) (by kernel_rfl) (fun _ _ _ h => h) (Or.inl ⟨by rfl, fun w2 hSw => by go_simp⟩) hHeld ?_
  try simp only [Act.put, List.setIfInBounds_toArray, List.set_cons_zero, List.set_cons_succ]
  have hnd := Tryz.underlying45
  refine takeN (i := 9) (oi := _) (v := (.agg #[.int .i64 (kd : Int), .int .u64 (bi : Int), KK, VV])) 27 rfl rfl (by kernel_rfl) (by kernel_rfl) (by kernel_rfl) (fun _ _ _ h => h) (yieldsIf_load_mid (by rfl) 45 (.tmp 26) rfl W.heap.size 1 rfl [.int .i64 (kd : Int), .int .u64 (bi : Int), KK, VV] _ (fun w2 hSw => hSw.2.1) hnd rfl (nodeC kd bi KK VV)) hHeld ?_
  try simp only [Act.put, List.setIfInBounds_toArray, List.set_cons_zero, List.set_cons_succ]
  clear hnd
  refine wpAnyH_ready (rs := [10]) (by kernel_rfl) (by simp) ?_
  refine AllReadyH.cons rfl (fun K hK => ?_) AllReadyH.nil
  go_simp
  go_wp2_with (first
    | (go_at_call 283; (with_reducible refine HPT.out.mono ?_); rintro e w2 ⟨rfl, h2⟩)
    | fail)
  obtain ⟨K4, V4, x2, t2, st2⟩ := h2.out
  have hbt2 := (st2.block W.heap.size (Array.getElem?_eq_some_iff.1 HBT.out).1 (fun e => by have := HWN.out _ e; omega)).trans HBT.out
  have hch2 := (st2.block bc (Array.getElem?_eq_some_iff.1 HCH1.out).1 hbc).trans HCH1.out
  refine hK.out _ _ (HSX.out _ hbt2 hch2) (fun hHeld => ?_)
  clear hK
  have HT2 := Lib.hid ((Q.Stays.of_below HB1.out (tts b m1 m2)).trans st2 (fun _ e => .inl e))
  have HX2 := Lib.hid x2
  have HS2 := Lib.hid (HS1.out.trial t2 st2)
  clear x2 hbt2 hch2 h2 st2 t2
  try simp only [Act.put, List.setIfInBounds_toArray, List.set_cons_zero, List.set_cons_succ]
  refine takeN (i := 11) (oi := _) (v := (.int .u32 (r : Int))) 4 rfl rfl (by kernel_rfl) (by kernel_rfl) (by kernel_rfl) (fun _ _ _ h => h) (Or.inl ⟨by rfl, fun w2 hSw => by go_simp⟩) hHeld ?_
  try simp only [Act.put, List.setIfInBounds_toArray, List.set_cons_zero, List.set_cons_succ]
  refine takeN (i := 12) (oi := _) (v := (.int .i64 0)) 5 rfl rfl (by kernel_rfl) (by kernel_rfl) (by kernel_rfl) (fun _ _ _ h => h) (Or.inl ⟨by rfl, fun w2 hSw => by go_simp⟩) hHeld ?_
  try simp only [Act.put, List.setIfInBounds_toArray, List.set_cons_zero, List.set_cons_succ]
  refine wpAnyH_done (by kernel_rfl) ?_ _
  refine NoPanic.normal ?_
  go_wp2_with fail
  go_ret2
  exact ⟨rfl, HT2.out, K4, V4, HX2.out, HS2.out⟩
set_option maxRecDepth 100000 in
set_option maxHeartbeats 8000000 in
theorem LS.chKeep {kx bx : Nat} {kl vl : List Nat} (h : LS w W k c q (dm1 r (.agg #[.int .i64 (kx : Int), .int .u64 (bx : Int), K2, V2]))) (hu : NO W K2 V2 kl vl) (hq : q < 900) (hc : c.now.length = 200) (h0 : 0 < r) (h2 : r < 200) (KK VV : Value) (hx : NO W KK VV ks vs) (hl : ks.length ≤ 1000) (hl2 : vs.length ≤ 1000) (hm : mayB ⟨kd, bi, ks, vs⟩ = true) (bc key : Nat) (lf nf : Value) (hch : W.heap[bc]? = some (.cells (chA (onS k) key lf nf) 183 (0, 0))) (hbc : ¬ k.touch bc) :
    Calls Tryz.prog 93 #[.pointer (some ⟨bc, 0, none⟩), .agg (twA r kd bi KK VV)] W fun e w' => e = .returned (.tuple #[.int .u32 (r : Int), .int .i64 0]) ∧ Hid (Q.Stays W w' k.touch ∧ ∃ K4 V4, NO w' K4 V4 ks vs ∧ LS w w' k c (q + 1) (dm1 r (.agg #[.int .i64 (kd : Int), .int .u64 (bx : Int), K4, V4]))) := by
  obtain ⟨W1, hW1⟩ : ∃ W1, W.alloc (.cells (twA r kd bi KK VV) 186) = W1 := ⟨_, rfl⟩
  have hb1 : Below W.heap.size W W1 := by rw [← hW1]; exact (Below.refl _ W).alloc (Nat.le_refl _) _
  have hbt : W1.heap[W.heap.size]? = some (.cells (twA r kd bi KK VV) 186 (0, 0)) := by rw [← hW1]; exact heap_alloc_new W _
  have hch1 := (hb1.block bc (Array.getElem?_eq_some_iff.1 hch).1).trans hch
  have hd1 : Below W1.heap.size W1 W1.drew := (Below.refl _ W1).drew
  have s1 := (h.below hb1).below hd1
  have HPT := Lib.hid (s1.put ((hu.below hb1).below hd1) hq hc h0 h2 kd bi KK VV ks vs ((hx.below hb1).below hd1) hl hl2 hm)
  have HWN := Lib.hid (fun j (hj : k.touch j) => h.tlt hj)
  have HS1 := Lib.hid s1
  have HB1 := Lib.hid (hb1.trans (hd1.mono hb1.size))
  have HBT := Lib.hid hbt
  have HCH1 := Lib.hid hch1
  have hr0 : ¬ (r : Int) = 0 := by omega
  have hbt0 := Joins.cell_of_block (i := 0) hbt
  have SX : ∀ (w' : World), w'.heap[W.heap.size]? = some (.cells (twA r kd bi KK VV) 186 (0, 0)) → w'.heap[bc]? = some (.cells (chA (onS k) key lf nf) 183 (0, 0)) → w'.cell? ⟨W.heap.size, 0, none⟩ = some (.int .u32 (r : Int)) ∧ w'.rangeAt W.heap.size 1 [.int .i64 (kd : Int), .int .u64 (bi : Int), KK, VV] ∧ w'.cell? ⟨bc, 0, none⟩ = some (onS k)   := fun w' h1 h2 => ⟨Joins.cell_of_block (i := 0) h1, fun j u hu => by
    rw [Joins.cell_of_block h1, ← hu]
    unfold twA
    rw [List.getElem?_toArray, Nat.add_comm, List.getElem?_cons_succ], Joins.cell_of_block (i := 0) h2⟩
  have HSX := Lib.hid SX
  have HSX1 := Lib.hid (SX W1.drew hbt hch1)
  clear h hx s1 hb1 hbt hch1 hch hd1 SX hm hu hc
  unfold LK.p at *
  go_enter Tryz.func93, Tryz.ntmps93
  go_upto_region 3 with fail
  clear hW1 hbt0
  refine wp_region_noPanic ?_
  refine wp_region_held_drew (S := fun w' => w'.cell? ⟨W.heap.size, 0, none⟩ = some (.int .u32 (r : Int)) ∧ w'.rangeAt W.heap.size 1 [.int .i64 (kd : Int), .int .u64 (bi : Int), KK, VV] ∧ w'.cell? ⟨bc, 0, none⟩ = some (onS k)) (by kernel_rfl) HSX1.out (fun hHeld => ?_)
  refine takeN (i := 0) (oi := _) (v := (.pointer (some ⟨W.heap.size, 0, none⟩))) 18 rfl rfl (by kernel_rfl) (by kernel_rfl) (by kernel_rfl) (fun _ _ _ h => h) (Or.inl ⟨by rfl, fun w2 hSw => by go_simp⟩) hHeld ?_
  try simp only [Act.put, List.setIfInBounds_toArray, List.set_cons_zero, List.set_cons_succ]
  refine takeN (i := 1) (oi := _) (v := (.int .u32 (r : Int))) 19 rfl rfl (by kernel_rfl) (by kernel_rfl) (by kernel_rfl) (fun _ _ _ h => h) (Or.inl ⟨by rfl, fun w2 hSw => by (have hc := hSw.1; go_simp)⟩) hHeld ?_
  try simp only [Act.put, List.setIfInBounds_toArray, List.set_cons_zero, List.set_cons_succ]
  refine takeN (i := 2) (oi := _) (v := (.pointer (some ⟨bc, 0, none⟩))) 20 rfl rfl (by kernel_rfl) (by kernel_rfl) (by kernel_rfl) (fun _ _ _ h => h) (Or.inl ⟨by rfl, fun w2 hSw => by go_simp⟩) hHeld ?_
  try simp only [Act.put, List.setIfInBounds_toArray, List.set_cons_zero, List.set_cons_succ]
  refine takeN (i := 3) (oi := _) (v := (.pointer (some ⟨bc, 0, none⟩))) 21 rfl rfl (by kernel_rfl) (by kernel_rfl) (by kernel_rfl) (fun _ _ _ h => h) (Or.inl ⟨by rfl, fun w2 hSw => by go_simp⟩) hHeld ?_
  try simp only [Act.put, List.setIfInBounds_toArray, List.set_cons_zero, List.set_cons_succ]
  refine takeN (i := 4) (oi := _) (v := (.pointer (some ⟨bc, 0, none⟩))) 22 rfl rfl (by kernel_rfl) (by kernel_rfl) (by kernel_rfl) (fun _ _ _ h => h) (Or.inl ⟨by rfl, fun w2 hSw => by go_simp⟩) hHeld ?_
  try simp only [Act.put, List.setIfInBounds_toArray, List.set_cons_zero, List.set_cons_succ]
  refine takeN (i := 5) (oi := _) (v := (onS k)) 23 rfl rfl (by kernel_rfl) (by kernel_rfl) (by kernel_rfl) (fun _ _ _ h => h) (Or.inl ⟨by rfl, fun w2 hSw => by (have hc := hSw.2.2; go_simp)⟩) hHeld ?_
  try simp only [Act.put, List.setIfInBounds_toArray, List.set_cons_zero, List.set_cons_succ]
  refine takeN (i := 6) (oi := _) (v := (.pointer (some ⟨W.heap.size, 0, none⟩))) 24 rfl rfl (by kernel_rfl) (by kernel_rfl) (by kernel_rfl) (fun _ _ _ h => h) (Or.inl ⟨by rfl, fun w2 hSw => by go_simp⟩) hHeld ?_
  try simp only [Act.put, List.setIfInBounds_toArray, List.set_cons_zero, List.set_cons_succ]
  refine takeN (i := 7) (oi := _) (v := (.int .u32 (r : Int))) 25 rfl rfl (by kernel_rfl) (by kernel_rfl) (by kernel_rfl) (fun _ _ _ h => h) (Or.inl ⟨by rfl, fun w2 hSw => by (have hc := hSw.1; go_simp)⟩) hHeld ?_
  try simp only [Act.put, List.setIfInBounds_toArray, List.set_cons_zero, List.set_cons_succ]
  refine takeN (i := 8) (oi := _) (v := (.pointer (some ⟨W.heap.size, 1, none⟩))) 26 rfl rfl (by kernel_rfl) (by kernel_rfl) (by kernel_rfl) (fun _ _ _ h => h) (Or.inl ⟨by rfl, fun w2 hSw => by go_simp⟩) hHeld ?_
  try simp only [Act.put, List.setIfInBounds_toArray, List.set_cons_zero, List.set_cons_succ]
  have hnd := Tryz.underlying45
  refine takeN (i := 9) (oi := _) (v := (.agg #[.int .i64 (kd : Int), .int .u64 (bi : Int), KK, VV])) 27 rfl rfl (by kernel_rfl) (by kernel_rfl) (by kernel_rfl) (fun _ _ _ h => h) (yieldsIf_load_mid (by rfl) 45 (.tmp 26) rfl W.heap.size 1 rfl [.int .i64 (kd : Int), .int .u64 (bi : Int), KK, VV] _ (fun w2 hSw => hSw.2.1) hnd rfl (nodeC kd bi KK VV)) hHeld ?_
  try simp only [Act.put, List.setIfInBounds_toArray, List.set_cons_zero, List.set_cons_succ]
  clear hnd
  refine wpAnyH_ready (rs := [10]) (by kernel_rfl) (by simp) ?_
  refine AllReadyH.cons rfl (fun K hK => ?_) AllReadyH.nil
  go_simp
  go_wp2_with (first
    | (go_at_call 192; (with_reducible refine HPT.out.mono ?_); rintro e w2 ⟨rfl, h2⟩)
    | fail)
  obtain ⟨K4, V4, x2, t2⟩ := h2.out
  obtain ⟨l2, st2⟩ := t2
  have hbt2 := (st2.block W.heap.size (Array.getElem?_eq_some_iff.1 HBT.out).1 (fun e => by have := HWN.out _ e; omega)).trans HBT.out
  have hch2 := (st2.block bc (Array.getElem?_eq_some_iff.1 HCH1.out).1 hbc).trans HCH1.out
  refine hK.out _ _ (HSX.out _ hbt2 hch2) (fun hHeld => ?_)
  clear hK
  have HT2 := Lib.hid ((Q.Stays.of_below HB1.out (k.touch)).trans st2 (fun _ e => .inl e))
  have HX2 := Lib.hid x2.no
  have HS2 := Lib.hid (l2)
  clear x2 hbt2 hch2 h2 st2 l2
  try simp only [Act.put, List.setIfInBounds_toArray, List.set_cons_zero, List.set_cons_succ]
  refine takeN (i := 11) (oi := _) (v := (.int .u32 (r : Int))) 4 rfl rfl (by kernel_rfl) (by kernel_rfl) (by kernel_rfl) (fun _ _ _ h => h) (Or.inl ⟨by rfl, fun w2 hSw => by go_simp⟩) hHeld ?_
  try simp only [Act.put, List.setIfInBounds_toArray, List.set_cons_zero, List.set_cons_succ]
  refine takeN (i := 12) (oi := _) (v := (.int .i64 0)) 5 rfl rfl (by kernel_rfl) (by kernel_rfl) (by kernel_rfl) (fun _ _ _ h => h) (Or.inl ⟨by rfl, fun w2 hSw => by go_simp⟩) hHeld ?_
  try simp only [Act.put, List.setIfInBounds_toArray, List.set_cons_zero, List.set_cons_succ]
  refine wpAnyH_done (by kernel_rfl) ?_ _
  refine NoPanic.normal ?_
  go_wp2_with fail
  go_ret2
  exact ⟨rfl, HT2.out, K4, V4, HX2.out, HS2.out⟩
end
end Go.Proofs.YtoclhiaidbfheaaGreatDoor.T
end

section
set_option linter.unusedVariables false
namespace Go.Proofs.YtoclhiaidbfheaaGreatDoor.T
open Go.RowKit Q S Go.ChangeMaps Go.MapKept

theorem no_slice {W : World} {K V : Value} {vs : List Nat} (h : NO W K V [] vs) : ∃ A ck, K = .slice A 0 ck := by
  obtain ⟨A, ck, A', cv, h1, _, _, _⟩ := h.shows
  exact ⟨A, ck, h1⟩
section
variable {w W W' : World} {k : LK} {c c' : C.CS} {q q' : Nat} {D D' : DataW Value} {b : Nat} {rm rm' : Int} {m1 nx nx' m2 : Nat} {q1 q1' : Nat} {D1 D1' : DataW Value} {q2 q2' : Nat} {D2 D2' : DataW Value} {B : Nat}
variable {r : Nat} {kd bi : Nat} {K2 V2 : Value}
set_option maxRecDepth 100000 in
set_option maxHeartbeats 8000000 in
theorem TS.chLower (h : TS w W k c q D b rm m1 nx m2 q1 (dm1 r (.agg #[.int .i64 (kd : Int), .int .u64 (bi : Int), K2, V2])) q2 D2 B) (hu : NO W K2 V2 [] []) (hq2 : q2 < 900) (hr : 0 ≤ rm) (hr2 : rm < 1000) (hcn : C.lookN c.now (r : Int) = 1) (hct : D2.atKey (keyN r) (.held (.int .i64 0)) = .held (.int .i64 0)) (h0 : 0 < r) (h2 : r < 200) (hk : ¬ (kd : Int) = 1) (bc key : Nat) (lf nf : Value) (hch : W.heap[bc]? = some (.cells (chA (onT b) key lf nf) 183 (0, 0))) :
    Calls Tryz.prog 102 #[.pointer (some ⟨bc, 0, none⟩), .int .u32 (r : Int)] W fun e w' => e = .returned (.tuple #[.int .u32 0, .int .i64 0]) ∧ Hid (Q.Stays W w' (tts b m1 m2) ∧ TS w w' k c q D b (rm + 1) m1 nx m2 q1 dm0 (q2 + 1) (D2.put (keyN r) (.held (.int .i64 (-1)))) B) := by
  have hcon := Joins.cell_of_block (i := 0) hch
  have HND : Hid (Calls Tryz.prog 282 #[.pointer (some ⟨b, 0, none⟩), .int .u32 (r : Int)] W fun e w' => ∃ K3 V3, e = .returned (.tuple #[.agg #[.int .i64 (kd : Int), .int .u64 (bi : Int), K3, V3], .int .i64 0]) ∧ NO w' K3 V3 [] [] ∧ Below W.heap.size W w') := Lib.hid (h.node1 hu (by omega) (by simp) (by simp))
  have HFR : Hid (∀ W', Below W.heap.size W W' → Calls Tryz.prog 280 #[.pointer (some ⟨b, 0, none⟩), .int .u32 (r : Int)] W' fun e w' => e = .returned (.int .i64 0) ∧ Hid (Q.Stays W' w' (tts b m1 m2) ∧ TS w w' k c q D b (rm + 1) m1 nx m2 q1 dm0 (q2 + 1) (D2.put (keyN r) (.held (.int .i64 (-1)))) B)) := Lib.hid (fun W' hb => (h.below hb).free hq2 hr hr2 hcn hct h0 h2)
  have HCH := Lib.hid hch
  clear h hu hch hcn hct
  have hz := node_zero
  go_enter Tryz.func102, Tryz.ntmps102
  go_wp2_with fail
  go_loopw [1] (fun x wr => x = .int .u32 (r : Int) ∧ Hid (wr = W)) (fun _ _ => 0)
  case atStart => exact ⟨rfl, Lib.hid rfl⟩
  case round =>
    obtain ⟨rfl, hw⟩ := hrel
    obtain rfl := hw.out
    go_upto_region 9 with (first
      | (go_at_call 282; (with_reducible refine HND.out.mono ?_); rintro e w2 ⟨K3, V3, rfl, hx2, hb2⟩; obtain ⟨A3, c3, rfl⟩ := no_slice hx2; have HB2 := Lib.hid hb2; have HST2 := Lib.hid (node_new (kd : Int) (bi : Int) (.slice A3 0 c3) V3 hx2.one.1 hx2.one.2 w2); clear hx2 hb2)
      | ((with_reducible show wpList _ _ _ ({ dst := _, op := .store _ _ _, type := _, pos := _, after := _, guard := _ } :: _) _ _); refine wpList_store_run rfl 45 (.tmp 6) (.tmp 17) rfl w2.heap.size 0 _ ?ws17 rfl rfl ?hs17 ?_; (case hs17 => exact HST2.out))
      | fail)
    obtain ⟨W5, hW5⟩ : ∃ W5, w2.alloc (.cells #[.int .i64 (kd : Int), .int .u64 (bi : Int), (.slice A3 0 c3), V3] 45) = W5 := ⟨_, rfl⟩
    have hb5 : Below w2.heap.size w2 W5 := by rw [← hW5]; exact (Below.refl _ w2).alloc (Nat.le_refl _) _
    rw [hW5]
    have HB5 := Lib.hid (HB2.out.trans (hb5.mono HB2.out.size))
    have hc5 := Joins.cell_of_block (i := 0) ((HB5.out.block bc (Array.getElem?_eq_some_iff.1 HCH.out).1).trans HCH.out)
    have HF5 := Lib.hid (HFR.out _ HB5.out)
    clear hW5 hb5 hcon HND HFR HST2
    go_wp2_with (first
      | (go_at_call 280; (with_reducible refine HF5.out.mono ?_); rintro e w6 ⟨rfl, h6⟩)
      | fail)
    go_ret2
    obtain ⟨s6, t6⟩ := h6.out
    exact ⟨rfl, (Q.Stays.of_below HB5.out (tts b m1 m2)).trans s6 (fun _ e => .inl e), t6⟩
set_option maxRecDepth 100000 in
set_option maxHeartbeats 8000000 in
theorem LS.chLower (h : LS w W k c q (dm1 r (.agg #[.int .i64 (kd : Int), .int .u64 (bi : Int), K2, V2]))) (hu : NO W K2 V2 [] []) (hc : c.now.length = 200) (hcn : C.lookN c.now (r : Int) = 1) (h0 : 0 < r) (h2 : r < 200) (hk : ¬ (kd : Int) = 1) (bc key : Nat) (lf nf : Value) (hch : W.heap[bc]? = some (.cells (chA (onS k) key lf nf) 183 (0, 0))) :
    Calls Tryz.prog 102 #[.pointer (some ⟨bc, 0, none⟩), .int .u32 (r : Int)] W fun e w' => e = .returned (.tuple #[.int .u32 0, .int .i64 0]) ∧ Hid (Q.Stays W w' k.touch ∧ LS w w' k (C.decS c r) q dm0) := by
  have hcon := Joins.cell_of_block (i := 0) hch
  have HND : Hid (Calls Tryz.prog 162 #[.pointer (some ⟨k.bs, 0, none⟩), .int .u32 (r : Int)] W fun e w' => ∃ K3 V3, e = .returned (.tuple #[.agg #[.int .i64 (kd : Int), .int .u64 (bi : Int), K3, V3], .int .i64 0]) ∧ NO w' K3 V3 [] [] ∧ Below W.heap.size W w') := Lib.hid ((h.node hu hc h0 h2 (by simp) (by simp)).mono fun e w' ⟨K3, V3, h1, h2, h3⟩ => ⟨K3, V3, h1, h2.no, h3⟩)
  have HFR : Hid (∀ W', Below W.heap.size W W' → Calls Tryz.prog 276 #[.pointer (some ⟨k.bs, 0, none⟩), .int .u32 (r : Int)] W' fun e w' => e = .returned (.int .i64 0) ∧ Kept w W' w' k (C.decS c r) q dm0) := Lib.hid (fun W' hb => (h.below hb).free (hu.below hb) hc hcn h0 h2)
  have HCH := Lib.hid hch
  clear h hu hch hcn hc
  have hz := node_zero
  unfold LK.p at *
  go_enter Tryz.func102, Tryz.ntmps102
  go_wp2_with fail
  go_loopw [1] (fun x wr => x = .int .u32 (r : Int) ∧ Hid (wr = W)) (fun _ _ => 0)
  case atStart => exact ⟨rfl, Lib.hid rfl⟩
  case round =>
    obtain ⟨rfl, hw⟩ := hrel
    obtain rfl := hw.out
    go_upto_region 9 with (first
      | (go_at_call 162; (with_reducible refine HND.out.mono ?_); rintro e w2 ⟨K3, V3, rfl, hx2, hb2⟩; obtain ⟨A3, c3, rfl⟩ := no_slice hx2; have HB2 := Lib.hid hb2; have HST2 := Lib.hid (node_new (kd : Int) (bi : Int) (.slice A3 0 c3) V3 hx2.one.1 hx2.one.2 w2); clear hx2 hb2)
      | ((with_reducible show wpList _ _ _ ({ dst := _, op := .store _ _ _, type := _, pos := _, after := _, guard := _ } :: _) _ _); refine wpList_store_run rfl 45 (.tmp 6) (.tmp 17) rfl w2.heap.size 0 _ ?ws17 rfl rfl ?hs17 ?_; (case hs17 => exact HST2.out))
      | fail)
    obtain ⟨W5, hW5⟩ : ∃ W5, w2.alloc (.cells #[.int .i64 (kd : Int), .int .u64 (bi : Int), (.slice A3 0 c3), V3] 45) = W5 := ⟨_, rfl⟩
    have hb5 : Below w2.heap.size w2 W5 := by rw [← hW5]; exact (Below.refl _ w2).alloc (Nat.le_refl _) _
    rw [hW5]
    have HB5 := Lib.hid (HB2.out.trans (hb5.mono HB2.out.size))
    have hc5 := Joins.cell_of_block (i := 0) ((HB5.out.block bc (Array.getElem?_eq_some_iff.1 HCH.out).1).trans HCH.out)
    have HF5 := Lib.hid (HFR.out _ HB5.out)
    clear hW5 hb5 hcon HND HFR HST2
    go_wp2_with (first
      | (go_at_call 276; (with_reducible refine HF5.out.mono ?_); rintro e w6 ⟨rfl, h6⟩)
      | fail)
    go_ret2
    obtain ⟨l6, s6⟩ := h6
    exact ⟨rfl, (Q.Stays.of_below HB5.out k.touch).trans s6 (fun _ e => .inl e), l6⟩
end
end Go.Proofs.YtoclhiaidbfheaaGreatDoor.T
end
