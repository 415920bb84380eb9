/- The walk of the document's Pack. The document's sum, Number, Flag, Bytes and Block. The document's Pack, for any shape and any values; the walk of the law WirePacks. -/
import Derived.Test.YtpkbkliblbbdcaaWe
import Derived.Test.YtpkbkliblbbdcaaWb
import Derived.BigQuiet
import Derived.Deep.RegionHeld3
import Derived.Great.BuildSlice
import Derived.Great.Walk
import Derived.Laws.Rows
section
namespace Go.Proofs.Ytpkbkliblbbdcaa
open Go.RowKit
set_option maxRecDepth 20000

def lv0 : LVal := ⟨0, 0, false, [], zeros256⟩
theorem zero_val (w : World) : (zeroValue 78).run Try.prog w = .ok (.agg (lvCells lv0 none 0).toArray) w := by kernel_rfl
theorem store_val (cs : List Value) (hl : cs.length = 260) (h1 : ∀ u ∈ cs, u.oneCell' = true) (w : World) : (storeCells ⟨w.heap.size, 0, none⟩ cs 0).run Try.prog (w.alloc (.cells (lvCells lv0 none 0).toArray 78)) = .ok () (w.alloc (.cells cs.toArray 78)) :=
  run_storeCells_new (P := Try.prog) w 78 (lvCells lv0 none 0).toArray cs.toArray (by rw [val_size, List.size_toArray, hl]) (by rw [List.size_toArray, List.size_toArray, hl, lv_length zeros256_length]) (all_oneCell_toArray h1)

theorem step_store_run {P : Program} {ops : Array Oper} {o : Oper} {a : Act} {w w' : World} {K : Act → World → Prop} {Q : Exit → Act → World → Prop} {E : Prop} (hw : Region.wanted o (yielded ops a.tmps) = true) (ty : TypeId) (x y : Operand) (ho : o.op = .store ty x y)
    (ad : Addr) (hx : a.eval x = .pointer (some ad)) (v : Value) (hy : a.eval y = v) (hr : (storeVar ty ad v).run P w = .ok () w') (h : K (a.put o.dst undef) w') :
    if Region.wanted o (yielded ops a.tmps) = true then Oper.wp P o a w K Q else E := by
  rw [if_pos hw]
  unfold Oper.wp execOp
  simp only [ho, hx, hy, Instr.storeAt, Instr.sureAddr, Sem.run_bind, Sem.run_pure, Result.andThen_ok, hr]
  exact h
theorem storeVar_val (cs : List Value) (hl : cs.length = 260) (h1 : ∀ u ∈ cs, u.oneCell' = true) (w : World) : (storeVar 78 ⟨w.heap.size, 0, none⟩ (.agg cs.toArray)).run Try.prog (w.alloc (.cells (lvCells lv0 none 0).toArray 78)) = .ok () (w.alloc (.cells cs.toArray 78)) := by
  have hst := store_val cs hl h1 w
  have hi := val_size
  cases hq : Try.prog.info? 78 with
  | none => simp [hq] at hi
  | some i =>
    have hs : i.size = 260 := by simp [hq] at hi; exact hi
    simp [storeVar, sizeOf, typeInfo, hq, Value.cells, hs, hl, hst]

theorem packZ_cut {z : List (UInt8 × PV)} {i : Nat} {o : Option (List UInt8)} {l : List UInt8} (h : packZ (z.take (i + 1)) = o.map (l ++ ·)) (he : o = none) : packZ z = none := by
  rw [← List.take_append_drop (i + 1) z]
  exact packZ_none _ _ (by rw [h, he]; rfl)

theorem enc_other {c : UInt8} {v : LVal} (h1 : wid (c.toNat : Int) = 0 ∨ ¬ v.c = 56) (h2 : ¬ c = 63 ∨ ¬ v.c = 63) (h3 : ¬ c = 42 ∨ ¬ v.c = 42) (h4 : ¬ c = 35 ∨ ¬ v.c = 35) : enc1 (c.toNat : Int) (toldP v) = none := by
  have n63 : ¬ c = 63 → ¬ (c.toNat : Int) = 63 := fun h e => h (UInt8.toNat.inj (by show _ = 63; omega))
  have n42 : ¬ c = 42 → ¬ (c.toNat : Int) = 42 := fun h e => h (UInt8.toNat.inj (by show _ = 42; omega))
  have n35 : ¬ c = 35 → ¬ (c.toNat : Int) = 35 := fun h e => h (UInt8.toNat.inj (by show _ = 35; omega))
  unfold toldP
  by_cases k56 : v.c = 56
  · have := h1.resolve_right (fun h => h k56)
    simp [k56, enc1, this]
  · by_cases k63 : v.c = 63
    · simp [k63, enc1, n63 (h2.resolve_right (fun h => h k63))]
    · by_cases k42 : v.c = 42
      · simp [k42, enc1, n42 (h3.resolve_right (fun h => h k42))]
      · by_cases k35 : v.c = 35
        · simp [k35, enc1, n35 (h4.resolve_right (fun h => h k35))]
        · simp [k56, k63, k42, k35, enc1]

theorem wrap_len {n : Nat} (h : n ≤ 16777216) : IntKind.u64.wrap (n : Int) = (n : Int) := by
  simp [IntKind.wrap, IntKind.bits, IntKind.signed]
  omega

theorem yieldsIf_load_addr {P : Program} {ops : Array Oper} {S : World → Prop} {op : Oper} {a : Act} (hw : Region.wanted op (yielded ops a.tmps) = true) (ty : TypeId) (x : Operand) (ho : op.op = .load ty x)
    (ad : Addr) (hx : a.eval x = .pointer (some ad)) (cs : List Value) (d : TypeDesc) (hS : ∀ w : World, S w → ∀ (j : Nat) (u : Value), cs[j]? = some u → w.cell? (ad.add j) = some u)
    (hu : P.underlying ty = some d) (hd : d.isRow = true) (hi : (P.info? ty).map (·.size) = some cs.length) : YieldsIf P ops S op (.agg cs.toArray) a :=
  .inl ⟨hw, fun w hw' => by
    unfold execOp
    simp only [ho, hx, Instr.loadAt, Instr.sureAddr, Sem.run_bind, Sem.run_pure, Result.andThen_ok, run_loadVar_addr w ad ty cs d (hS w hw') hu hd hi]⟩

set_option maxRecDepth 10000 in
set_option maxHeartbeats 20000000 in
theorem rpack_loop (s : ByteArray) (A : Option Addr) (cap : Nat) (vals : List LVal) (w : World) (hs : s.size ≤ 1000) (hv : VRow w w.heap.size A vals) (hn : vals.length = s.size) (hm : mayS (bs s) = true) :
    Calls Try.prog 44 #[.string s, .slice A vals.length cap] w (Packed w (packZ ((bs s).zip (vals.map toldP)))) := by
  obtain ⟨i0, hi, hz0, hz1, hz2⟩ := info_parts u8_info
  have HM := Lib.hid hm
  clear hm
  go_enter Try.func44, Try.ntmps44
  go_wp2_with fail
  refine (rmay_any s w (by omega)).mono ?_
  rintro e w' ⟨rfl, rfl⟩
  rw [HM.out]
  have hne : ((vals.length : Int) != (s.size : Int)) = false := by rw [hn]; simp
  go_wp2_with fail
  go_loopw [6, 7] (fun u j wr => ∃ (i : Nat) (l : List UInt8), i ≤ vals.length ∧ j = .int .i64 (i : Int) ∧ Hid (packZ (((bs s).zip (vals.map toldP)).take i) = some l) ∧ wr.ownsRow w.heap.size 5 1 u l.length (cells8 l) ∧ Below w.heap.size w wr) (fun _ j _ => vals.length - (intOf j).toNat)
  case atStart => exact ⟨0, [], Nat.zero_le _, rfl, rfl, World.ownsRow_nil _ _ _ _, Below.refl _ _⟩
  case round =>
    obtain ⟨i, l, hp, rfl, HL, hown, hbr⟩ := hrel
    by_cases hlt : i < vals.length
    · have hls : i < s.size := by omega
      obtain ⟨p, hA, hpb, hx⟩ := hv.below hbr (by omega)
      subst hA
      obtain ⟨cs, hok, hcell⟩ := hx i hlt
      have hcell2 : ∀ (j : Nat) (u : Value), cs[j]? = some u → wr.cell? ((p.add (i * 260)).add j) = some u := fun j u hu => by rw [addr_twice]; exact hcell j u hu
      have HC := Lib.hid hcell2
      have HOK := Lib.hid hok
      have hcl := hok.length
      have HCL := Lib.hid hcl
      clear hx hok hcell hcell2 hv hcl
      go_wp2_with fail
      have hok2 : LVok wr.drew w.heap.size cs vals[i] := HOK.out.below (Below.refl _ _).drew
      have hbr2 : Below w.heap.size w wr.drew := hbr.drew
      have hown2 : wr.drew.ownsRow w.heap.size 5 1 u6 l.length (cells8 l) := hown.drew
      have hcd : ∀ (j : Nat) (u : Value), cs[j]? = some u → wr.drew.cell? ((p.add (i * 260)).add j) = some u := fun j u hu => HC.out j u hu
      have hzv := zero_val
      have hone : ∀ u ∈ cs, u.oneCell' = true := by
        obtain ⟨A1, cap1, e1, _⟩ := hok2
        rw [e1]; exact lv_one _ _ _
      have hst := storeVar_val cs HCL.out hone wr.drew
      have HST := Lib.hid hst
      clear hst
      have hcl0 : (lvCells lv0 none 0).length = 260 := lv_length zeros256_length _ _
      have hcl := HCL.out
      have HOK2 := Lib.hid hok2
      have HCD := Lib.hid hcd
      clear HOK HC hbr hown hone hcd hok2
      generalize lvCells lv0 none 0 = cs0 at *
      refine wp_region_held (S := fun w' => ∀ (j : Nat) (u : Value), cs[j]? = some u → w'.cell? ((p.add (i * 260)).add j) = some u) (by kernel_rfl) ?_
      change wpAnyH _ _ _ _ _ _ _ _ wr.drew
      have hS := HCD.out
      refine wpAnyH_take (i := 0) (v := .string s) rfl (by kernel_rfl) (by kernel_rfl) (by kernel_rfl) (fun _ _ _ h => h) (Or.inl ⟨by rfl, by intro w0 hw0; clear hw0; go_simp⟩) hS ?_
      refine wpAnyH_take (i := 1) (v := .int .i64 (i : Int)) rfl (by kernel_rfl) (by kernel_rfl) (by kernel_rfl) (fun _ _ _ h => h) (Or.inl ⟨by rfl, by intro w0 hw0; clear hw0; go_simp⟩) hS ?_
      refine wpAnyH_take (i := 3) (v := .slice (some p) vals.length cap) rfl (by kernel_rfl) (by kernel_rfl) (by kernel_rfl) (fun _ _ _ h => h) (Or.inl ⟨by rfl, by intro w0 hw0; clear hw0; go_simp⟩) hS ?_
      refine wpAnyH_take (i := 4) (v := .int .i64 (i : Int)) rfl (by kernel_rfl) (by kernel_rfl) (by kernel_rfl) (fun _ _ _ h => h) (Or.inl ⟨by rfl, by intro w0 hw0; clear hw0; go_simp⟩) hS ?_
      refine wpAnyH_take (i := 2) (v := .int .u8 ((s[i]'hls).toNat : Int)) rfl (by kernel_rfl) (by kernel_rfl) (by kernel_rfl) (fun _ _ _ h => h) (Or.inl ⟨by rfl, by intro w0 hw0; clear hw0; go_simp⟩) hS ?_
      refine wpAnyH_take (i := 5) (v := .pointer (some (p.add (i * 260)))) rfl (by kernel_rfl) (by kernel_rfl) (by kernel_rfl) (fun _ _ _ h => h) (Or.inl ⟨by rfl, by intro w0 hw0; clear hw0; go_simp⟩) hS ?_
      refine wpAnyH_take (i := 6) (v := .agg cs.toArray) rfl (by kernel_rfl) (by kernel_rfl) (by kernel_rfl) (fun _ _ _ h => h) (yieldsIf_load_addr (by rfl) 78 (.tmp 31) (by rfl) (p.add (i * 260)) (by rfl) cs _ (fun _ h => h) Try.underlying78 rfl (by rw [val_size, HCL.out])) hS ?_
      have hS2 : ∀ (j : Nat) (u : Value), cs[j]? = some u → (wr.drew.alloc (.cells cs0.toArray 78)).cell? ((p.add (i * 260)).add j) = some u := fun j u hu => by rw [((Below.refl w.heap.size wr.drew).alloc hbr2.size _).cell (by rw [addr_block, addr_block]; exact hpb)]; exact hS j u hu
      have hS3 : ∀ (j : Nat) (u : Value), cs[j]? = some u → (wr.drew.alloc (.cells cs.toArray 78)).cell? ((p.add (i * 260)).add j) = some u := fun j u hu => by rw [((Below.refl w.heap.size wr.drew).alloc hbr2.size _).cell (by rw [addr_block, addr_block]; exact hpb)]; exact hS j u hu
      have HS2 := Lib.hid hS2
      have HS3 := Lib.hid hS3
      clear hS hS2 hS3
      refine wpAnyH_ready (rs := [7]) (by kernel_rfl) (by simp) (AllReadyH.cons rfl (fun K hK => ?_) AllReadyH.nil)
      go_simp
      refine hK.out _ _ HS2.out (fun hsx => ?_)
      clear hK hsx
      refine wpAnyH_ready (rs := [8]) (by kernel_rfl) (by simp) (AllReadyH.cons rfl (fun K hK => ?_) AllReadyH.nil)
      go_simp
      refine hK.out _ _ HS2.out (fun hsx => ?_)
      clear hK hsx
      refine wpAnyH_ready (rs := [9]) (by kernel_rfl) (by simp) (AllReadyH.cons rfl (fun K hK => ?_) AllReadyH.nil)
      refine step_store_run (by rfl) 78 (.tmp 9) (.tmp 32) (by rfl) ⟨wr.drew.heap.size, 0, none⟩ (by rfl) (.agg cs.toArray) (by rfl) HST.out ?_
      refine hK.out _ _ HS3.out (fun hsx => ?_)
      clear hK hsx
      refine wpAnyH_done (by kernel_rfl) ?_ _
      have hok2 := HOK2.out
      clear HST hzv hcl0 hcl HOK2 HS2 HS3 HCD
      have hdz : wr.heap.size = wr.drew.heap.size := rfl
      rw [hdz]
      clear hdz
      generalize wr.drew = wd at *
      obtain ⟨A1, cap1, rfl, hx, hvn, hsh, hc1, hc2⟩ := hok2
      have c0 := lv_c0 vals[i] A1 cap1 wd
      have c1 := lv_c1 vals[i] A1 cap1 wd
      have c2 := lv_c2 vals[i] A1 cap1 wd
      have c3 := lv_c3 vals[i] A1 cap1 wd
      have hr := lv_range vals[i] A1 cap1 wd 78
      have hnk : ∀ k, u6.ownBlock = some k → k < wd.heap.size := fun k hk => (hown2.lt k hk).2
      have HNK := Lib.hid hnk
      clear hnk
      have hsh2 := hsh.alloc hbr2.size (.cells (lvCells vals[i] A1 cap1).toArray 78)
      have hown3 := hown2.alloc (.cells (lvCells vals[i] A1 cap1).toArray 78)
      have hb3 := hbr2.alloc (hbr2.size) (.cells (lvCells vals[i] A1 cap1).toArray 78)
      have hsz : (wd.alloc (.cells (lvCells vals[i] A1 cap1).toArray 78)).heap.size = wd.heap.size + 1 := by simp
      have hsz3 := hbr2.size
      have hstep := zip_take (bs s) (vals.map toldP) i (by rw [bs_length]; exact hls) (by simpa using hlt)
      have hsi : (bs s)[i]'(by rw [bs_length]; exact hls) = s[i]'hls := bs_get s i hls
      have hvi : (vals.map toldP)[i]'(by simpa using hlt) = toldP vals[i] := by simp
      have hpz : packZ (((bs s).zip (vals.map toldP)).take (i + 1)) = (enc1 ((s[i]'hls).toNat : Int) (toldP vals[i])).map (l ++ ·) := by
        rw [hstep, packZ_snoc, HL.out, hsi, hvi]; rfl
      have HPZ := Lib.hid hpz
      have HR := Lib.hid hr
      have HX := Lib.hid hx
      have HN := Lib.hid hvn
      have HSZ := Lib.hid hsz
      clear hpz hstep hsi hvi hr hx hvn hsz hown2 hbr2 hsh HCL
      generalize vals[i] = v at *
      generalize hlc : (s[i]'hls) = c at *
      generalize hcs : lvCells v A1 cap1 = cs at *
      clear hcs
      go_wp2_with fail
      generalize wd.alloc (.cells cs.toArray 78) = w4 at *
      generalize wd.heap.size = K at *
      clear hlc
      obtain ⟨k, hk, hk8⟩ : ∃ k : Nat, wid (c.toNat : Int) = (k : Int) ∧ k ≤ 8 := ⟨(wid (c.toNat : Int)).toNat, by have := wid_le (c.toNat : Int); omega, by have := wid_le (c.toNat : Int); omega⟩
      have hsize : ∀ w, Calls Try.prog 55 #[.int .u8 (c.toNat : Int)] w fun e w' => e = .returned (.int .i64 (k : Int)) ∧ w' = w := fun w => by
        refine (size_any _ _).mono ?_
        rintro e w' ⟨rfl, rfl⟩
        exact ⟨by rw [hk], rfl⟩
      have HK := Lib.hid hk
      clear hk
      have hll : l.length ≤ 16777476000 := by
        have h1 := packZ_length HL.out
        have h2 : (((bs s).zip (vals.map toldP)).take i).length ≤ 1000 := by rw [List.length_take]; omega
        exact Nat.le_trans h1 (Nat.mul_le_mul_left 16777476 h2)
      rcases Nat.eq_zero_or_pos k with hk0 | hkp
      · subst hk0
        by_cases q63 : c = 63
        · have j63 := eq63 q63
          by_cases h63 : v.c = 63
          · have k63 := eq63 h63
            cases hy : v.yes with
            | true =>
            have he : enc1 (c.toNat : Int) (toldP v) = some ([1]) := by
              simp [toldP, enc1, h63, q63, hy, bit8]
            have HE := Lib.hid (show packZ (((bs s).zip (vals.map toldP)).take (i + 1)) = some (l ++ [1]) by rw [HPZ.out, he]; rfl)
            clear he
            rw [hy] at c2
            clear q63 h63 hy
            go_quiet ((go_at_call 55; exact Calls.quiet_of_same (hsize _)))
            have hown5 := own_drewN hown3 nq
            have hb5 := below_drewN hb3 nq
            have hsh5 := hsh2.drewN nq
            have d0 : (w4.drewN nq).cell? ⟨K, 0, none⟩ = some (.int .u8 (v.c.toNat : Int)) := c0
            have d1 : (w4.drewN nq).cell? ⟨K, 1, none⟩ = some (.int .u64 (v.n : Int)) := c1
            have d2 : (w4.drewN nq).cell? ⟨K, 2, none⟩ = some (.bool true) := c2
            have d3 : (w4.drewN nq).cell? ⟨K, 3, none⟩ = some (.slice A1 v.b.length cap1) := c3
            have hz5 : (w4.drewN nq).heap.size = K + 1 := HSZ.out
            have HZ5 := Lib.hid hz5
            have HR5 : Hid ((w4.drewN nq).rangeAt K 4 (cells8 v.x)) := Lib.hid (fun j u hj => HR.out j u hj)
            clear hz5 c0 c1 c2 c3 hown3 hb3 hsh2 HSZ HR
            generalize w4.drewN nq = w5 at *
            go_wp2_with (at_builtin; refine wpList_append_shows _ rfl (.tmp 68) (.tmp 69) 24 rfl w.heap.size 5 i0 (.int .u8 0) 1 Try.underlying24 hi hz0 hz1 hz2 rfl _ _ _ rfl (hown5.alloc _) (w5.heap.size + 1) _ 1 1 [.int .u8 1] rfl (shows_new w5 _ _) (by simp [Value.oneCell']) (by unfold maxLen; omega) (by omega) (by have := hb5.size; simp; omega) ?_; intro v6 w6 hown6 hgrow6)
            have hgr6 : Grew w5 w6 u6 v6 := ((Grew.refl w5 u6).alloc _).trans hgrow6
            have hb6 : Below w.heap.size w w6 := hb5.trans (hgr6.below hown5 (Nat.le_refl _) hb5.size)
            clear hgr6 hgrow6 hown5 hb5
            go_roundw
            case rel => exact ⟨i + 1, l ++ [1], hlt, by go_num, HE, by rw [cells8_append, List.length_append]; exact hown6, hb6⟩
            case measure => simp [intOf]; omega
            | false =>
            have he : enc1 (c.toNat : Int) (toldP v) = some ([0]) := by
              simp [toldP, enc1, h63, q63, hy, bit8]
            have HE := Lib.hid (show packZ (((bs s).zip (vals.map toldP)).take (i + 1)) = some (l ++ [0]) by rw [HPZ.out, he]; rfl)
            clear he
            rw [hy] at c2
            clear q63 h63 hy
            go_quiet ((go_at_call 55; exact Calls.quiet_of_same (hsize _)))
            have hown5 := own_drewN hown3 nq
            have hb5 := below_drewN hb3 nq
            have hsh5 := hsh2.drewN nq
            have d0 : (w4.drewN nq).cell? ⟨K, 0, none⟩ = some (.int .u8 (v.c.toNat : Int)) := c0
            have d1 : (w4.drewN nq).cell? ⟨K, 1, none⟩ = some (.int .u64 (v.n : Int)) := c1
            have d2 : (w4.drewN nq).cell? ⟨K, 2, none⟩ = some (.bool false) := c2
            have d3 : (w4.drewN nq).cell? ⟨K, 3, none⟩ = some (.slice A1 v.b.length cap1) := c3
            have hz5 : (w4.drewN nq).heap.size = K + 1 := HSZ.out
            have HZ5 := Lib.hid hz5
            have HR5 : Hid ((w4.drewN nq).rangeAt K 4 (cells8 v.x)) := Lib.hid (fun j u hj => HR.out j u hj)
            clear hz5 c0 c1 c2 c3 hown3 hb3 hsh2 HSZ HR
            generalize w4.drewN nq = w5 at *
            go_wp2_with (at_builtin; refine wpList_append_shows _ rfl (.tmp 79) (.tmp 80) 24 rfl w.heap.size 5 i0 (.int .u8 0) 1 Try.underlying24 hi hz0 hz1 hz2 rfl _ _ _ rfl (hown5.alloc _) (w5.heap.size + 1) _ 1 1 [.int .u8 0] rfl (shows_new w5 _ _) (by simp [Value.oneCell']) (by unfold maxLen; omega) (by omega) (by have := hb5.size; simp; omega) ?_; intro v6 w6 hown6 hgrow6)
            have hgr6 : Grew w5 w6 u6 v6 := ((Grew.refl w5 u6).alloc _).trans hgrow6
            have hb6 : Below w.heap.size w w6 := hb5.trans (hgr6.below hown5 (Nat.le_refl _) hb5.size)
            clear hgr6 hgrow6 hown5 hb5
            go_roundw
            case rel => exact ⟨i + 1, l ++ [0], hlt, by go_num, HE, by rw [cells8_append, List.length_append]; exact hown6, hb6⟩
            case measure => simp [intOf]; omega
          · have k63 := ne63 h63
            have he : enc1 (c.toNat : Int) (toldP v) = none := by
              exact enc_other (.inl HK.out) (.inr h63) (.inl (by rw [q63]; decide)) (.inl (by rw [q63]; decide))
            have HE := Lib.hid (packZ_cut (HPZ.out) he)
            clear he
            have j42 := ne42 (c := c) (by rw [q63]; decide)
            have j35 := ne35 (c := c) (by rw [q63]; decide)
            clear q63 h63
            go_quiet ((go_at_call 55; exact Calls.quiet_of_same (hsize _)))
            have hown5 := own_drewN hown3 nq
            have hb5 := below_drewN hb3 nq
            have hsh5 := hsh2.drewN nq
            have d0 : (w4.drewN nq).cell? ⟨K, 0, none⟩ = some (.int .u8 (v.c.toNat : Int)) := c0
            have d1 : (w4.drewN nq).cell? ⟨K, 1, none⟩ = some (.int .u64 (v.n : Int)) := c1
            have d2 : (w4.drewN nq).cell? ⟨K, 2, none⟩ = some (.bool v.yes) := c2
            have d3 : (w4.drewN nq).cell? ⟨K, 3, none⟩ = some (.slice A1 v.b.length cap1) := c3
            have hz5 : (w4.drewN nq).heap.size = K + 1 := HSZ.out
            have HZ5 := Lib.hid hz5
            have HR5 : Hid ((w4.drewN nq).rangeAt K 4 (cells8 v.x)) := Lib.hid (fun j u hj => HR.out j u hj)
            clear hz5 c0 c1 c2 c3 hown3 hb3 hsh2 HSZ HR
            generalize w4.drewN nq = w5 at *
            go_wp2_with fail
            go_ret2
            rw [HE.out]
            exact ⟨rfl, hb5⟩
        · have j63 := ne63 q63
          by_cases q42 : c = 42
          · have j42 := eq42 q42
            have j35 := ne35 (c := c) (by rw [q42]; decide)
            by_cases h42 : v.c = 42
            · have k42 := eq42 h42
              by_cases hfit : v.b.length ≤ 16777216
              · have hgt : (v.b.length : Int) ≤ 16777216 := by omega
                have HWR := Lib.hid (wrap_len hfit)
                have hlow : ∀ w : World, Calls Try.prog 57 #[.int .u64 (v.b.length : Int), .int .i64 4] w fun e w' => ∃ c, e = .returned (.slice (some ⟨w.heap.size, 0, none⟩) 4 c) ∧ w'.ownsRow w.heap.size 5 1 (.slice (some ⟨w.heap.size, 0, none⟩) 4 c) 4 (cells8 (low v.b.length 4)) ∧ Below w.heap.size w w' := fun w => low_any v.b.length 4 w (by omega) (by omega)
                have he : enc1 (c.toNat : Int) (toldP v) = some (low v.b.length 4 ++ v.b) := by
                  have e1 : toldP v = .blob v.b := by simp [toldP, h42]
                  rw [e1, q42]
                  simp only [enc1]
                  exact if_pos ⟨rfl, hfit⟩
                have HE := Lib.hid (show packZ (((bs s).zip (vals.map toldP)).take (i + 1)) = some (l ++ (low v.b.length 4 ++ v.b)) by rw [HPZ.out, he]; rfl)
                clear he
                clear q63 q42 h42 hgt
                go_quiet ((go_at_call 55; exact Calls.quiet_of_same (hsize _)))
                have hown5 := own_drewN hown3 nq
                have hb5 := below_drewN hb3 nq
                have hsh5 := hsh2.drewN nq
                have d0 : (w4.drewN nq).cell? ⟨K, 0, none⟩ = some (.int .u8 (v.c.toNat : Int)) := c0
                have d1 : (w4.drewN nq).cell? ⟨K, 1, none⟩ = some (.int .u64 (v.n : Int)) := c1
                have d2 : (w4.drewN nq).cell? ⟨K, 2, none⟩ = some (.bool v.yes) := c2
                have d3 : (w4.drewN nq).cell? ⟨K, 3, none⟩ = some (.slice A1 v.b.length cap1) := c3
                have hz5 : (w4.drewN nq).heap.size = K + 1 := HSZ.out
                have HZ5 := Lib.hid hz5
                have HR5 : Hid ((w4.drewN nq).rangeAt K 4 (cells8 v.x)) := Lib.hid (fun j u hj => HR.out j u hj)
                clear hz5 c0 c1 c2 c3 hown3 hb3 hsh2 HSZ HR
                generalize w4.drewN nq = w5 at *
                go_wp2_with fail
                go_region_law (first
                  | (go_simp; go_at_call 57; rw [HWR.out]; refine (hlow _).mono ?_; rintro e w6 ⟨c6, rfl, hown6, hb6⟩; have e3 : w6.cell? ⟨K, 3, none⟩ = some (.slice A1 v.b.length cap1) := (hb6.cell (p := ⟨K, 3, none⟩) (by show K < w5.heap.size; rw [HZ5.out]; omega)).trans d3)
                  | (refine step_append_shows _ rfl (.tmp 96) (.tmp 101) 24 rfl w.heap.size 5 i0 (.int .u8 0) 1 Try.underlying24 hi hz0 hz1 hz2 rfl u6 l.length (cells8 l) (by rfl) (own_below hown5.drew hb6) w6.heap.size (some ⟨w5.drew.heap.size, 0, none⟩) 4 c6 (cells8 (low v.b.length 4)) (by rfl) (Shows.owned hown6) (cells8_one _) (by unfold maxLen; omega) (by omega) (Nat.le_trans hb5.drew.size hb6.size) ?_; intro v7 w7 hown7 hgrow7; have e4 : w7.cell? ⟨K, 3, none⟩ = some (.slice A1 v.b.length cap1) := (hgrow7.by_.cell_far ⟨K, 3, none⟩ (Nat.lt_of_lt_of_le (by show K < w5.heap.size; rw [HZ5.out]; omega) hb6.size) (fun he => Nat.lt_irrefl _ (HNK.out K he.symm))).trans e3)
                  | (refine step_append_shows _ rfl (.tmp 102) (.tmp 104) 24 rfl w.heap.size 5 i0 (.int .u8 0) 1 Try.underlying24 hi hz0 hz1 hz2 rfl v7 (l.length + 4) _ (by rfl) hown7 w.heap.size A1 v.b.length cap1 (cells8 v.b) (by rfl) (hsh5.below (((Below.refl _ _).drew.trans (hb6.mono hb5.drew.size)).trans (hgrow7.below (own_below hown5.drew hb6) (Nat.le_refl _) (Nat.le_trans hb5.drew.size hb6.size)))) (cells8_one _) (by unfold maxLen; omega) (by omega) (Nat.le_trans (Nat.le_trans hb5.drew.size hb6.size) hgrow7.by_.size) ?_; intro v8 w8 hown8 hgrow8)
                  | fail)
                all_goals
                  have hb7 : Below w.heap.size w w7 := (hb5.drew.trans (hb6.mono hb5.drew.size)).trans (hgrow7.below (own_below hown5.drew hb6) (Nat.le_refl _) (Nat.le_trans hb5.drew.size hb6.size))
                  have hb8 : Below w.heap.size w w8 := hb7.trans (hgrow8.below hown7 (Nat.le_refl _) hb7.size)
                  clear hgrow7 hown6 hb6 hown5 hb5 hgrow8 hown7 hb7 d0 d1 d2 d3 e3 e4 hsh5
                  go_wp2_with fail
                  go_roundw
                  case rel => exact ⟨i + 1, l ++ (low v.b.length 4 ++ v.b), hlt, by go_num, HE, by rw [cells8_append, cells8_append, List.length_append, List.length_append, low_length, ← Nat.add_assoc, ← List.append_assoc]; exact hown8, hb8⟩
                  case measure => simp [intOf]; omega
              · have hgt : 16777216 < v.b.length := by omega
                have hgi : (16777216 : Int) < (v.b.length : Int) := by omega
                have he : enc1 (c.toNat : Int) (toldP v) = none := by
                  have e1 : toldP v = .blob v.b := by simp [toldP, h42]
                  rw [e1]
                  simp only [enc1]
                  exact if_neg (fun h => hfit h.2)
                have HE := Lib.hid (packZ_cut (HPZ.out) he)
                clear he
                clear q63 q42 h42 hfit
                go_quiet ((go_at_call 55; exact Calls.quiet_of_same (hsize _)))
                have hown5 := own_drewN hown3 nq
                have hb5 := below_drewN hb3 nq
                have hsh5 := hsh2.drewN nq
                have d0 : (w4.drewN nq).cell? ⟨K, 0, none⟩ = some (.int .u8 (v.c.toNat : Int)) := c0
                have d1 : (w4.drewN nq).cell? ⟨K, 1, none⟩ = some (.int .u64 (v.n : Int)) := c1
                have d2 : (w4.drewN nq).cell? ⟨K, 2, none⟩ = some (.bool v.yes) := c2
                have d3 : (w4.drewN nq).cell? ⟨K, 3, none⟩ = some (.slice A1 v.b.length cap1) := c3
                have hz5 : (w4.drewN nq).heap.size = K + 1 := HSZ.out
                have HZ5 := Lib.hid hz5
                have HR5 : Hid ((w4.drewN nq).rangeAt K 4 (cells8 v.x)) := Lib.hid (fun j u hj => HR.out j u hj)
                clear hz5 c0 c1 c2 c3 hown3 hb3 hsh2 HSZ HR
                generalize w4.drewN nq = w5 at *
                go_wp2_with fail
                go_ret2
                rw [HE.out]
                exact ⟨rfl, hb5⟩
            · have k42 := ne42 h42
              have he : enc1 (c.toNat : Int) (toldP v) = none := by
                exact enc_other (.inl HK.out) (.inl q63) (.inr h42) (.inl (by rw [q42]; decide))
              have HE := Lib.hid (packZ_cut (HPZ.out) he)
              clear he
              clear q63 q42 h42
              go_quiet ((go_at_call 55; exact Calls.quiet_of_same (hsize _)))
              have hown5 := own_drewN hown3 nq
              have hb5 := below_drewN hb3 nq
              have hsh5 := hsh2.drewN nq
              have d0 : (w4.drewN nq).cell? ⟨K, 0, none⟩ = some (.int .u8 (v.c.toNat : Int)) := c0
              have d1 : (w4.drewN nq).cell? ⟨K, 1, none⟩ = some (.int .u64 (v.n : Int)) := c1
              have d2 : (w4.drewN nq).cell? ⟨K, 2, none⟩ = some (.bool v.yes) := c2
              have d3 : (w4.drewN nq).cell? ⟨K, 3, none⟩ = some (.slice A1 v.b.length cap1) := c3
              have hz5 : (w4.drewN nq).heap.size = K + 1 := HSZ.out
              have HZ5 := Lib.hid hz5
              have HR5 : Hid ((w4.drewN nq).rangeAt K 4 (cells8 v.x)) := Lib.hid (fun j u hj => HR.out j u hj)
              clear hz5 c0 c1 c2 c3 hown3 hb3 hsh2 HSZ HR
              generalize w4.drewN nq = w5 at *
              go_wp2_with fail
              go_ret2
              rw [HE.out]
              exact ⟨rfl, hb5⟩
          · have j42 := ne42 q42
            by_cases q35 : c = 35
            · have j35 := eq35 q35
              by_cases h35 : v.c = 35
              · have k35 := eq35 h35
                have he : enc1 (c.toNat : Int) (toldP v) = some (v.x) := by
                  have e1 : toldP v = .block v.x := by simp [toldP, h35]
                  rw [e1, q35]
                  simp only [enc1]
                  exact if_pos ⟨rfl, HX.out⟩
                have HE := Lib.hid (show packZ (((bs s).zip (vals.map toldP)).take (i + 1)) = some (l ++ (v.x)) by rw [HPZ.out, he]; rfl)
                clear he
                clear q63 q42 q35 h35
                go_quiet ((go_at_call 55; exact Calls.quiet_of_same (hsize _)))
                have hown5 := own_drewN hown3 nq
                have hb5 := below_drewN hb3 nq
                have hsh5 := hsh2.drewN nq
                have d0 : (w4.drewN nq).cell? ⟨K, 0, none⟩ = some (.int .u8 (v.c.toNat : Int)) := c0
                have d1 : (w4.drewN nq).cell? ⟨K, 1, none⟩ = some (.int .u64 (v.n : Int)) := c1
                have d2 : (w4.drewN nq).cell? ⟨K, 2, none⟩ = some (.bool v.yes) := c2
                have d3 : (w4.drewN nq).cell? ⟨K, 3, none⟩ = some (.slice A1 v.b.length cap1) := c3
                have hz5 : (w4.drewN nq).heap.size = K + 1 := HSZ.out
                have HZ5 := Lib.hid hz5
                have HR5 : Hid ((w4.drewN nq).rangeAt K 4 (cells8 v.x)) := Lib.hid (fun j u hj => HR.out j u hj)
                clear hz5 c0 c1 c2 c3 hown3 hb3 hsh2 HSZ HR
                generalize w4.drewN nq = w5 at *
                have hsx : Shows w5 (K + 1) (some ⟨K, 4, none⟩) 256 (cells8 v.x) := ⟨by rw [cells8_length, HX.out], fun _ => ⟨⟨K, 4, none⟩, rfl, Nat.lt_succ_self K, fun j u hj => by
                  have e : Addr.add ⟨K, 4, none⟩ j = ⟨K, 4 + j, none⟩ := by unfold Addr.add; split <;> simp_all
                  rw [e]; exact HR5.out j u hj⟩⟩
                have HSX := Lib.hid hsx
                clear hsx
                go_wp2_with (at_builtin; refine wpList_append_shows _ rfl (.tmp 114) (.tmp 116) 24 rfl w.heap.size 5 i0 (.int .u8 0) 1 Try.underlying24 hi hz0 hz1 hz2 rfl _ _ _ rfl hown5 (K + 1) (some ⟨K, 4, none⟩) 256 256 (cells8 v.x) rfl HSX.out (cells8_one _) (by unfold maxLen; omega) (by omega) hb5.size ?_; intro v6 w6 hown6 hgrow6)
                have hb6 : Below w.heap.size w w6 := hb5.trans (hgrow6.below hown5 (Nat.le_refl _) hb5.size)
                clear hgrow6 hown5 hb5
                go_roundw
                case rel => exact ⟨i + 1, l ++ v.x, hlt, by go_num, HE, by rw [cells8_append, List.length_append, HX.out]; exact hown6, hb6⟩
                case measure => simp [intOf]; omega
              · have k35 := ne35 h35
                have he : enc1 (c.toNat : Int) (toldP v) = none := by
                  exact enc_other (.inl HK.out) (.inl q63) (.inl q42) (.inr h35)
                have HE := Lib.hid (packZ_cut (HPZ.out) he)
                clear he
                clear q63 q42 q35 h35
                go_quiet ((go_at_call 55; exact Calls.quiet_of_same (hsize _)))
                have hown5 := own_drewN hown3 nq
                have hb5 := below_drewN hb3 nq
                have hsh5 := hsh2.drewN nq
                have d0 : (w4.drewN nq).cell? ⟨K, 0, none⟩ = some (.int .u8 (v.c.toNat : Int)) := c0
                have d1 : (w4.drewN nq).cell? ⟨K, 1, none⟩ = some (.int .u64 (v.n : Int)) := c1
                have d2 : (w4.drewN nq).cell? ⟨K, 2, none⟩ = some (.bool v.yes) := c2
                have d3 : (w4.drewN nq).cell? ⟨K, 3, none⟩ = some (.slice A1 v.b.length cap1) := c3
                have hz5 : (w4.drewN nq).heap.size = K + 1 := HSZ.out
                have HZ5 := Lib.hid hz5
                have HR5 : Hid ((w4.drewN nq).rangeAt K 4 (cells8 v.x)) := Lib.hid (fun j u hj => HR.out j u hj)
                clear hz5 c0 c1 c2 c3 hown3 hb3 hsh2 HSZ HR
                generalize w4.drewN nq = w5 at *
                go_wp2_with fail
                go_ret2
                rw [HE.out]
                exact ⟨rfl, hb5⟩
            · have j35 := ne35 q35
              have he : enc1 (c.toNat : Int) (toldP v) = none := by
                exact enc_other (.inl HK.out) (.inl q63) (.inl q42) (.inl q35)
              have HE := Lib.hid (packZ_cut (HPZ.out) he)
              clear he
              clear q63 q42 q35
              go_quiet ((go_at_call 55; exact Calls.quiet_of_same (hsize _)))
              have hown5 := own_drewN hown3 nq
              have hb5 := below_drewN hb3 nq
              have hsh5 := hsh2.drewN nq
              have d0 : (w4.drewN nq).cell? ⟨K, 0, none⟩ = some (.int .u8 (v.c.toNat : Int)) := c0
              have d1 : (w4.drewN nq).cell? ⟨K, 1, none⟩ = some (.int .u64 (v.n : Int)) := c1
              have d2 : (w4.drewN nq).cell? ⟨K, 2, none⟩ = some (.bool v.yes) := c2
              have d3 : (w4.drewN nq).cell? ⟨K, 3, none⟩ = some (.slice A1 v.b.length cap1) := c3
              have hz5 : (w4.drewN nq).heap.size = K + 1 := HSZ.out
              have HZ5 := Lib.hid hz5
              have HR5 : Hid ((w4.drewN nq).rangeAt K 4 (cells8 v.x)) := Lib.hid (fun j u hj => HR.out j u hj)
              clear hz5 c0 c1 c2 c3 hown3 hb3 hsh2 HSZ HR
              generalize w4.drewN nq = w5 at *
              go_wp2_with fail
              go_ret2
              rw [HE.out]
              exact ⟨rfl, hb5⟩
      · have q63 : ¬ c = 63 := by intro e; have := HK.out; rw [e] at this; simp [wid] at this; omega
        have q42 : ¬ c = 42 := by intro e; have := HK.out; rw [e] at this; simp [wid] at this; omega
        have q35 : ¬ c = 35 := by intro e; have := HK.out; rw [e] at this; simp [wid] at this; omega
        have j63 := ne63 q63
        have j42 := ne42 q42
        have j35 := ne35 q35
        have hkt : (wid (c.toNat : Int)).toNat = k := by rw [HK.out]; simp
        have hkn : wid (c.toNat : Int) ≠ 0 := by rw [HK.out]; omega
        have n63 : ¬ (c.toNat : Int) = 63 := by simpa using j63
        have n42 : ¬ (c.toNat : Int) = 42 := by simpa using j42
        have n35 : ¬ (c.toNat : Int) = 35 := by simpa using j35
        by_cases h56 : v.c = 56
        · have k56 := eq56 h56
          have hfits : ∀ w, Calls Try.prog 56 #[.int .u64 (v.n : Int), .int .i64 (k : Int)] w fun e w' => e = .returned (.bool (decide (v.n < 256 ^ k))) ∧ w' = w := fun w => fits_any v.n k w HN.out hk8
          by_cases hfit : v.n < 256 ^ k
          · rw [decide_eq_true hfit] at hfits
            have he : enc1 (c.toNat : Int) (toldP v) = some (low v.n k) := by
              simp only [toldP, h56, if_true, enc1, hkt]; rw [if_pos ⟨hkn, hfit⟩]
            have HE := Lib.hid (show packZ (((bs s).zip (vals.map toldP)).take (i + 1)) = some (l ++ low v.n k) by rw [HPZ.out, he]; rfl)
            clear he
            clear hfit h56 q63 q42 q35 hkt hkn n63 n42 n35
            go_quiet (first | (go_at_call 55; exact Calls.quiet_of_same (hsize _)) | (go_at_call 56; exact Calls.quiet_of_same (hfits _)))
            have hown5 := own_drewN hown3 nq
            have hb5 := below_drewN hb3 nq
            have hsh5 := hsh2.drewN nq
            have d0 : (w4.drewN nq).cell? ⟨K, 0, none⟩ = some (.int .u8 (v.c.toNat : Int)) := c0
            have d1 : (w4.drewN nq).cell? ⟨K, 1, none⟩ = some (.int .u64 (v.n : Int)) := c1
            have d2 : (w4.drewN nq).cell? ⟨K, 2, none⟩ = some (.bool v.yes) := c2
            have d3 : (w4.drewN nq).cell? ⟨K, 3, none⟩ = some (.slice A1 v.b.length cap1) := c3
            have hz5 : (w4.drewN nq).heap.size = K + 1 := HSZ.out
            have HZ5 := Lib.hid hz5
            have HR5 : Hid ((w4.drewN nq).rangeAt K 4 (cells8 v.x)) := Lib.hid (fun j u hj => HR.out j u hj)
            clear hz5 c0 c1 c2 c3 hown3 hb3 hsh2 HSZ HR
            generalize w4.drewN nq = w5 at *
            go_wp2_with fail
            go_region_law (first
              | (go_simp; go_at_call 55; refine (hsize _).mono ?_; rintro e w' ⟨rfl, rfl⟩)
              | (go_simp; go_at_call 57; refine (low_any v.n k _ HN.out hk8).mono ?_; rintro e w6 ⟨c6, rfl, hown6, hb6⟩)
              | (refine step_append_shows _ rfl (.tmp 49) (.tmp 54) 24 rfl w.heap.size 5 i0 (.int .u8 0) 1 Try.underlying24 hi hz0 hz1 hz2 rfl u6 l.length (cells8 l) (by rfl) (own_below hown5.drew hb6) w6.heap.size (some ⟨w5.drew.heap.size, 0, none⟩) k c6 (cells8 (low v.n k)) (by rfl) (Shows.owned hown6) (cells8_one _) (by unfold maxLen; omega) (by omega) (Nat.le_trans hb5.drew.size hb6.size) ?_; intro v7 w7 hown7 hgrow7))
            all_goals
              have hb7 : Below w.heap.size w w7 := (hb5.drew.trans (hb6.mono hb5.drew.size)).trans (hgrow7.below (own_below hown5.drew hb6) (Nat.le_refl _) (Nat.le_trans hb5.drew.size hb6.size))
              clear hgrow7 hown6 hb6 hown5 hb5
              go_wp2_with fail
              go_roundw
              case rel => exact ⟨i + 1, l ++ low v.n k, hlt, by go_num, HE, by rw [cells8_append, List.length_append, low_length]; exact hown7, hb7⟩
              case measure => simp [intOf]; omega
          · rw [decide_eq_false hfit] at hfits
            have he : enc1 (c.toNat : Int) (toldP v) = none := by
              simp only [toldP, h56, if_true, enc1, hkt]; rw [if_neg (fun h => hfit h.2)]
            have HE := Lib.hid (packZ_cut (HPZ.out) he)
            clear he
            clear hfit h56 q63 q42 q35 hkt hkn n63 n42 n35
            go_quiet (first | (go_at_call 55; exact Calls.quiet_of_same (hsize _)) | (go_at_call 56; exact Calls.quiet_of_same (hfits _)))
            have hown5 := own_drewN hown3 nq
            have hb5 := below_drewN hb3 nq
            have hsh5 := hsh2.drewN nq
            have d0 : (w4.drewN nq).cell? ⟨K, 0, none⟩ = some (.int .u8 (v.c.toNat : Int)) := c0
            have d1 : (w4.drewN nq).cell? ⟨K, 1, none⟩ = some (.int .u64 (v.n : Int)) := c1
            have d2 : (w4.drewN nq).cell? ⟨K, 2, none⟩ = some (.bool v.yes) := c2
            have d3 : (w4.drewN nq).cell? ⟨K, 3, none⟩ = some (.slice A1 v.b.length cap1) := c3
            have hz5 : (w4.drewN nq).heap.size = K + 1 := HSZ.out
            have HZ5 := Lib.hid hz5
            have HR5 : Hid ((w4.drewN nq).rangeAt K 4 (cells8 v.x)) := Lib.hid (fun j u hj => HR.out j u hj)
            clear hz5 c0 c1 c2 c3 hown3 hb3 hsh2 HSZ HR
            generalize w4.drewN nq = w5 at *
            go_wp2_with fail
            go_ret2
            rw [HE.out]
            exact ⟨rfl, hb5⟩
        · have k56 := ne56 h56
          have he : enc1 (c.toNat : Int) (toldP v) = none := by
            exact enc_other (.inr h56) (.inl q63) (.inl q42) (.inl q35)
          have HE := Lib.hid (packZ_cut (HPZ.out) he)
          clear he
          clear h56 q63 q42 q35 hkt hkn n63 n42 n35
          go_quiet ((go_at_call 55; exact Calls.quiet_of_same (hsize _)))
          have hown5 := own_drewN hown3 nq
          have hb5 := below_drewN hb3 nq
          have hsh5 := hsh2.drewN nq
          have d0 : (w4.drewN nq).cell? ⟨K, 0, none⟩ = some (.int .u8 (v.c.toNat : Int)) := c0
          have d1 : (w4.drewN nq).cell? ⟨K, 1, none⟩ = some (.int .u64 (v.n : Int)) := c1
          have d2 : (w4.drewN nq).cell? ⟨K, 2, none⟩ = some (.bool v.yes) := c2
          have d3 : (w4.drewN nq).cell? ⟨K, 3, none⟩ = some (.slice A1 v.b.length cap1) := c3
          have hz5 : (w4.drewN nq).heap.size = K + 1 := HSZ.out
          have HZ5 := Lib.hid hz5
          have HR5 : Hid ((w4.drewN nq).rangeAt K 4 (cells8 v.x)) := Lib.hid (fun j u hj => HR.out j u hj)
          clear hz5 c0 c1 c2 c3 hown3 hb3 hsh2 HSZ HR
          generalize w4.drewN nq = w5 at *
          go_wp2_with fail
          go_ret2
          rw [HE.out]
          exact ⟨rfl, hb5⟩
    · obtain rfl : i = vals.length := by omega
      have hE : packZ ((bs s).zip (vals.map toldP)) = some l := by
        have h1 := HL.out
        rwa [List.take_of_length_le (by simp; omega)] at h1
      have HE := Lib.hid hE
      clear hE HL
      go_wp2_with fail
      go_ret2
      rw [HE.out]
      exact ⟨_, rfl, hown, hbr⟩

end Go.Proofs.Ytpkbkliblbbdcaa
end

section
namespace Go.Proofs.Ytpkbkliblbbdcaa
open Go.RowKit
set_option maxRecDepth 20000

theorem unit_lt (i : Nat) (h : i < 8) : 256 ^ i < 18446744073709551616 := Nat.lt_of_le_of_lt (Nat.pow_le_pow_right (by omega) (show i ≤ 7 by omega)) (by decide)
theorem sum_step (n b i : Nat) (hi : i < 8) (hn : n < 256 ^ i) (hb : b < 256) : n + b * 256 ^ i < 18446744073709551616 := by
  have h1 : n + b * 256 ^ i < 256 ^ (i + 1) := by
    rw [Nat.pow_succ]
    have : b * 256 ^ i ≤ 255 * 256 ^ i := Nat.mul_le_mul_right _ (by omega)
    omega
  exact Nat.lt_of_lt_of_le h1 (Nat.le_trans (Nat.pow_le_pow_right (by omega) (show i + 1 ≤ 8 by omega)) (by decide))

theorem w64 (n : Nat) (h : n < 18446744073709551616) : IntKind.u64.wrap (n : Int) = (n : Int) := by rw [IntKind.wrap_u64]; omega
theorem sum_wrap1 (b u : Nat) (h : b * u < 18446744073709551616) : IntKind.u64.wrap ((b : Int) * (u : Int)) = ((b * u : Nat) : Int) := by rw [← Int.natCast_mul]; exact w64 _ h
theorem sum_wrap2 (n m : Nat) (h : n + m < 18446744073709551616) : IntKind.u64.wrap ((n : Int) + (m : Int)) = ((n + m : Nat) : Int) := by rw [← Int.natCast_add]; exact w64 _ h

set_option maxRecDepth 10000 in
set_option maxHeartbeats 1000000 in
theorem rsum_any (B : Nat) (A : Option Addr) (c : Nat) (l : List UInt8) (w : World) (hs : Shows w B A l.length (cells8 l)) (hl : l.length ≤ 8) :
    Calls Try.prog 61 #[.slice A l.length c] w fun e w' => e = .returned (.int .u64 (num8 l : Int)) ∧ w = w' := by
  go_enter Try.func61, Try.ntmps61
  go_wp2
  go_loop [3, 4, 5] (fun x q j => ∃ i u : Nat, i ≤ l.length ∧ j = .int .i64 i ∧ x = .int .u64 ((num8 (l.take i) : Nat) : Int) ∧ q = .int .u64 (u : Int) ∧ Hid (i < 8 → u = 256 ^ i))
    (fun _ _ j => l.length - (intOf j).toNat)
  case atStart => exact ⟨0, 1, Nat.zero_le _, rfl, by simp [num8], rfl, fun _ => rfl⟩
  case round =>
    obtain ⟨i, u, hiw, rfl, rfl, rfl, HU⟩ := hrel
    by_cases hlt : i < l.length
    · obtain ⟨p, u1, rfl, hp, hu, hcell⟩ := hs.cell hlt
      rw [cells8_get l i hlt] at hu
      injection hu with hu
      subst hu
      have hu2 := HU.out (by omega)
      subst hu2
      have hxl : num8 (l.take i) < 256 ^ i := by
        have := num8_lt (l.take i)
        rw [List.length_take, Nat.min_eq_left (by omega)] at this
        exact this
      have hstep := sum_step _ (l[i]).toNat i (by omega) hxl (l[i]).toNat_lt
      have hnx : num8 (l.take (i + 1)) = num8 (l.take i) + (l[i]).toNat * 256 ^ i := by
        rw [List.take_succ_eq_append_getElem hlt, num8_snoc, List.length_take, Nat.min_eq_left (by omega)]
      have h1 := sum_wrap1 (l[i]).toNat (256 ^ i) (by omega)
      have h2 := sum_wrap2 (num8 (l.take i)) ((l[i]).toNat * 256 ^ i) hstep
      rw [← hnx] at h2
      obtain ⟨m, hm, hm2⟩ : ∃ m : Nat, IntKind.u64.wrap (((256 ^ i : Nat) : Int) * 256) = (m : Int) ∧ (i + 1 < 8 → m = 256 ^ (i + 1)) := by
        refine ⟨(IntKind.u64.wrap (((256 ^ i : Nat) : Int) * 256)).toNat, ?_, fun h => ?_⟩
        · rw [IntKind.wrap_u64]; omega
        · have := unit_lt (i + 1) h
          rw [IntKind.wrap_u64]
          rw [Nat.pow_succ] at this ⊢
          omega
      have hbw := w64 (l[i]).toNat (by have := (l[i]).toNat_lt; omega)
      have HM := Lib.hid hm2
      generalize num8 (l.take i) = x at *
      generalize hx2 : num8 (l.take (i + 1)) = x2 at *
      have HX2 := Lib.hid hx2
      clear hx2
      generalize (l[i]).toNat * 256 ^ i = y at *
      generalize 256 ^ i = u at *
      generalize (l[i]).toNat = b at *
      clear hnx hm2 hxl hstep hs HU
      go_wp2
      go_round
      case rel => exact ⟨i + 1, m, hlt, by go_num, by rw [HX2.out], rfl, HM⟩
      case measure => simp [intOf]; omega
    · go_wp2
      go_ret
      obtain rfl : i = l.length := by omega
      rw [List.take_length]
      exact ⟨rfl, rfl⟩

/-- the document's values -/
def lvN (n : Nat) : LVal := ⟨56, n, false, [], zeros256⟩
def lvF (b : Bool) : LVal := ⟨63, 0, b, [], zeros256⟩
def lvB (l : List UInt8) : LVal := ⟨42, 0, false, l, zeros256⟩
def lvX (l : List UInt8) : LVal := ⟨35, 0, false, [], l⟩
theorem lv0_len : (lvCells lv0 none 0).length = 260 := lv_length zeros256_length _ _

theorem built_num (n : Nat) : Try.prog.built 78 [(0, .int .u8 56), (1, .int .u64 (n : Int))] = some (lvCells (lvN n) none 0).toArray := by kernel_rfl
theorem built_flag (b : Bool) : Try.prog.built 78 [(0, .int .u8 63), (2, .bool b)] = some (lvCells (lvF b) none 0).toArray := by kernel_rfl
theorem built_blob (l : List UInt8) (A : Option Addr) (cap : Nat) : Try.prog.built 78 [(0, .int .u8 42), (3, .slice A l.length cap)] = some (lvCells (lvB l) A cap).toArray := by kernel_rfl

theorem cells_sz {v : LVal} (h : v.x.length = 256) (A : Option Addr) (cap : Nat) : (lvCells v A cap).toArray.size = 260 := by rw [List.size_toArray, lv_length h]
theorem cells_one (v : LVal) (A : Option Addr) (cap : Nat) : (lvCells v A cap).toArray.all (·.oneCell') = true := all_oneCell_toArray (lv_one v A cap)

set_option maxRecDepth 10000 in
set_option maxHeartbeats 1000000 in
theorem number_val (n : Nat) (w : World) :
    Calls Try.prog 41 #[.int .u64 n] w fun e w' => e = .returned (.agg (lvCells (lvN n) none 0).toArray) ∧ Below w.heap.size w w' := by
  have hzv := zero_val
  go_enter Try.func41, Try.ntmps41
  go_wp2_with (first
    | refine wpList_buildTo rfl 78 _ rfl (some 4) rfl (lvCells (lvN n) none 0).toArray (built_num n) ?_
    | (refine wpList_store_row rfl 78 (.tmp 2) (.tmp 4) rfl w.heap.size (lvCells (lvN n) none 0).toArray rfl rfl 78 (lvCells lv0 none 0).toArray (heap_alloc_new w _) (by rw [val_size, cells_sz zeros256_length]) (by rw [cells_sz zeros256_length, cells_sz zeros256_length]) (cells_one _ _ _) ?_; rw [World.setRow_alloc_new])
    | fail)
  exact bodyPost_ret (results_cell_row rfl _ _ w.heap.size 78 (lvCells (lvN n) none 0).toArray (0, 0) _ rfl (heap_alloc_new w _) Try.underlying78 rfl (by rw [val_size, cells_sz zeros256_length])) rfl ⟨rfl, (Below.refl _ _).alloc (Nat.le_refl _) _⟩

set_option maxRecDepth 10000 in
set_option maxHeartbeats 1000000 in
theorem flag_val (b : Bool) (w : World) :
    Calls Try.prog 60 #[.bool b] w fun e w' => e = .returned (.agg (lvCells (lvF b) none 0).toArray) ∧ Below w.heap.size w w' := by
  have hzv := zero_val
  go_enter Try.func60, Try.ntmps60
  go_wp2_with (first
    | refine wpList_buildTo rfl 78 _ rfl (some 4) rfl (lvCells (lvF b) none 0).toArray (built_flag b) ?_
    | (refine wpList_store_row rfl 78 (.tmp 2) (.tmp 4) rfl w.heap.size (lvCells (lvF b) none 0).toArray rfl rfl 78 (lvCells lv0 none 0).toArray (heap_alloc_new w _) (by rw [val_size, cells_sz zeros256_length]) (by rw [cells_sz zeros256_length, cells_sz zeros256_length]) (cells_one _ _ _) ?_; rw [World.setRow_alloc_new])
    | fail)
  exact bodyPost_ret (results_cell_row rfl _ _ w.heap.size 78 (lvCells (lvF b) none 0).toArray (0, 0) _ rfl (heap_alloc_new w _) Try.underlying78 rfl (by rw [val_size, cells_sz zeros256_length])) rfl ⟨rfl, (Below.refl _ _).alloc (Nat.le_refl _) _⟩

set_option maxRecDepth 10000 in
set_option maxHeartbeats 1000000 in
theorem bytes_val (l : List UInt8) (A : Option Addr) (cap : Nat) (w : World) :
    Calls Try.prog 49 #[.slice A l.length cap] w fun e w' => e = .returned (.agg (lvCells (lvB l) A cap).toArray) ∧ Below w.heap.size w w' := by
  have hzv := zero_val
  go_enter Try.func49, Try.ntmps49
  go_wp2_with (first
    | refine wpList_buildTo rfl 78 _ rfl (some 4) rfl (lvCells (lvB l) A cap).toArray (built_blob l A cap) ?_
    | (refine wpList_store_row rfl 78 (.tmp 2) (.tmp 4) rfl w.heap.size (lvCells (lvB l) A cap).toArray rfl rfl 78 (lvCells lv0 none 0).toArray (heap_alloc_new w _) (by rw [val_size, cells_sz zeros256_length]) (by rw [cells_sz zeros256_length, cells_sz zeros256_length]) (cells_one _ _ _) ?_; rw [World.setRow_alloc_new])
    | fail)
  exact bodyPost_ret (results_cell_row rfl _ _ w.heap.size 78 (lvCells (lvB l) A cap).toArray (0, 0) _ rfl (heap_alloc_new w _) Try.underlying78 rfl (by rw [val_size, cells_sz zeros256_length])) rfl ⟨rfl, (Below.refl _ _).alloc (Nat.le_refl _) _⟩

theorem fill_block (cs : Array Value) : Try.prog.built 78 [(0, .int .u8 35), (4, .agg cs)] = Instr.fill (fun i => #[(0, 1), (1, 1), (2, 1), (3, 1), (4, 256)][i]?) (lvCells (lvX zeros256) none 0).toArray [(4, .agg cs)] := by kernel_rfl
theorem built_block (l : List UInt8) (h : l.length = 256) : Try.prog.built 78 [(0, .int .u8 35), (4, .agg (cells8 l).toArray)] = some (lvCells (lvX l) none 0).toArray := by
  have hs : (cells8 l).toArray.size = 256 := by rw [List.size_toArray, cells8_length, h]
  rw [fill_block]
  obtain ⟨g1, g2⟩ := Great.foldl_set 4 (cells8 l) 0 (lvCells (lvX zeros256) none 0).toArray
  have hz : (lvCells (lvX zeros256) none 0).toArray.size = 260 := cells_sz zeros256_length _ _
  have hl : (cells8 l).length = 256 := by rw [cells8_length, h]
  have hfold : (((cells8 l).toArray.zipIdx).foldl (fun cs (x : Value × Nat) => cs.setIfInBounds (4 + x.2) x.1) (lvCells (lvX zeros256) none 0).toArray) = (lvCells (lvX l) none 0).toArray := by
    have e0 : (((cells8 l).toArray.zipIdx).foldl (fun cs (x : Value × Nat) => cs.setIfInBounds (4 + x.2) x.1) (lvCells (lvX zeros256) none 0).toArray) = (((cells8 l).zipIdx 0).foldl (fun cs (x : Value × Nat) => cs.setIfInBounds (4 + x.2) x.1) (lvCells (lvX zeros256) none 0).toArray) := by simp
    rw [e0]
    apply Array.ext_getElem?
    intro k
    rw [g2 k, hz, hl]
    by_cases hk : 4 ≤ k
    · by_cases hk2 : k < 260
      · rw [if_pos ⟨by omega, by omega, hk2⟩]
        simp only [List.getElem?_toArray, lvCells]
        obtain ⟨m, rfl⟩ : ∃ m, k = m + 4 := ⟨k - 4, by omega⟩
        simp [lvX]
      · rw [if_neg (by omega), Array.getElem?_eq_none (by omega), Array.getElem?_eq_none (by rw [cells_sz h]; omega)]
    · rw [if_neg (by omega)]
      match k, hk with
      | 0, _ => rfl
      | 1, _ => rfl
      | 2, _ => rfl
      | 3, _ => rfl
      | k + 4, hk => omega
  unfold Instr.fill
  have hp : (#[(0, 1), (1, 1), (2, 1), (3, 1), (4, 256)] : Array (Nat × Nat))[4]? = some (4, 256) := rfl
  simp only [hp, Value.cells, hs, hz]
  rw [if_neg (by decide)]
  unfold Instr.fill
  rw [← hfold]

end Go.Proofs.Ytpkbkliblbbdcaa
end

section
namespace Go.Proofs.Ytpkbkliblbbdcaa
open Go.RowKit
set_option maxRecDepth 20000

set_option maxHeartbeats 2000000 in
theorem rpack_any (s : ByteArray) (A : Option Addr) (cap : Nat) (vals : List LVal) (w : World) (hs : s.size ≤ 1000) (hv : VRow w w.heap.size A vals) :
    Calls Try.prog 44 #[.string s, .slice A vals.length cap] w (Packed w (packR (bs s) (vals.map toldP))) := by
  cases hm : mayS (bs s) with
  | false =>
    have hE : packR (bs s) (vals.map toldP) = none := by simp [packR, hm]
    rw [hE]
    have HM := Lib.hid hm
    clear hm hE
    go_enter Try.func44, Try.ntmps44
    go_wp2_with fail
    refine (rmay_any s w (by omega)).mono ?_
    rintro e w1 ⟨rfl, rfl⟩
    rw [HM.out]
    go_wp2_with fail
    go_ret2
    exact ⟨rfl, Below.refl _ _⟩
  | true =>
    by_cases hns : vals.length = s.size
    · have hE : packR (bs s) (vals.map toldP) = packZ ((bs s).zip (vals.map toldP)) := by rw [packR, if_pos ⟨hm, by rw [List.length_map, bs_length]; exact hns⟩]
      rw [hE]
      exact rpack_loop s A cap vals w hs hv hns hm
    · have hE : packR (bs s) (vals.map toldP) = none := by
        rw [packR, if_neg]
        rintro ⟨_, h⟩
        rw [List.length_map, bs_length] at h
        exact hns h
      rw [hE]
      have HM := Lib.hid hm
      clear hm hE
      have hd : ((vals.length : Int) != (s.size : Int)) = true := by simpa using (by omega : ¬ (vals.length : Int) = (s.size : Int))
      go_enter Try.func44, Try.ntmps44
      go_wp2_with fail
      refine (rmay_any s w (by omega)).mono ?_
      rintro e w1 ⟨rfl, rfl⟩
      rw [HM.out]
      go_wp2_with fail
      go_ret2
      exact ⟨rfl, Below.refl _ _⟩

def packE (r : Option (List UInt8)) : Int := if r.isSome then 0 else 2
/-- what a Pack hands back, as the law reads it -/
theorem Packed.s {w w' : World} {r : Option (List UInt8)} {e : Ending} (h : Packed w r e w') :
    ∃ A n c, e = .returned (.tuple #[.slice A n c, .int .i64 (packE r)]) ∧ Shows w' w'.heap.size A n (cells8 (r.getD [])) ∧ Below w.heap.size w w' := by
  cases r with
  | none => exact ⟨none, 0, 0, h.1, Shows.empty _ _ _, h.2⟩
  | some l =>
    obtain ⟨A, c, rfl, ho, hb, _⟩ := packed_ok h
    exact ⟨A, l.length, c, rfl, Shows.owned ho, hb⟩

end Go.Proofs.Ytpkbkliblbbdcaa
end
