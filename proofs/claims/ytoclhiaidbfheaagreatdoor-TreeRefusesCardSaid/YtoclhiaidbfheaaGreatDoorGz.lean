/- store: an area's counts, read from its pages. store: what a store that was opened is in memory; counted. store: load of a formatted disk. store: Open of a formatted disk. store: made, known. store: StoreNil, walked. -/
import Derived.Test.YtoclhiaidbfheaaGreatDoorGy
import Derived.Great.BuildSlice
section
set_option linter.unusedVariables false
namespace Go.Proofs.YtoclhiaidbfheaaGreatDoor.S
open Go.RowKit Q

theorem sl_info : (Tryz.prog.info? 160).map (fun i => (i.zero, i.size, i.bytes)) = some (some (.slice none 0 0), 1, 24) := by kernel_rfl
/-- pages of an area, read so far -/
structure PR (W wr : World) (v : Value) (l : List Nat) (i : Nat) (g : Nat → Nat) : Prop where
  bel : Below W.heap.size W wr
  row : wr.ownsRow W.heap.size 160 1 v i ((List.range i).map fun j => .slice (some ⟨g j, 0, none⟩) 120 120)
  at_ : ∀ j, j < i → Holds16 wr (g j) 309 (K.partL l (j : Int))
theorem PR.start (W : World) (l : List Nat) : PR W W (.slice none 0 0) l 0 id := ⟨Below.refl _ _, World.ownsRow_nil _ _ _ _, fun j hj => by omega⟩
theorem PR.below {W wr w2 : World} {v : Value} {l : List Nat} {i : Nat} {g : Nat → Nat} (h : PR W wr v l i g) (hb : Below wr.heap.size wr w2) : PR W w2 v l i g :=
  ⟨h.bel.trans (hb.mono h.bel.size), rowS_on h.row (fun k hk => by
    obtain ⟨cs, hc⟩ := row_kind (C.own_base0 h.row) hk
    exact hb.block k (Array.getElem?_eq_some_iff.1 hc).1), fun j hj => (h.at_ j hj).below hb⟩
/-- one more -/
theorem PR.app {W wr w2 : World} {v v2 : Value} {l : List Nat} {i : Nat} {g : Nat → Nat} {gn : Nat} (h : PR W wr v l i g) (hn : Holds16 wr gn 309 (K.partL l (i : Int)))
    (ho : w2.ownsRow W.heap.size 160 1 v2 (i + 1) (((List.range i).map fun j => .slice (some ⟨g j, 0, none⟩) 120 120) ++ [.slice (some ⟨gn, 0, none⟩) 120 120])) (hg : wr.grownBy w2 v.ownBlock) :
    PR W w2 v2 l (i + 1) (fun j => if j = i then gn else g j) := by
  have hsz := h.bel.size
  have hne : ∀ {k : Nat} {cs : Array Value}, wr.heap[k]? = some (.cells cs 309 (0, 0)) → v.ownBlock ≠ some k := fun {k cs} hk e => by
    obtain ⟨cs', hc⟩ := row_kind (C.own_base0 h.row) e
    rw [hk] at hc
    injection hc with hc
    injection hc with _ hc
    exact absurd hc (by decide)
  have hst : ∀ {k : Nat} {m : List Nat}, Holds16 wr k 309 m → Holds16 w2 k 309 m := fun {k m} hk => (hg.block k hk.lt (fun e => hne hk e.symm)).trans hk
  refine ⟨h.bel.grown hg hsz (fun k hk => ?_), ?_, fun j hj => ?_⟩
  · rcases h.row.2 with ⟨rfl, _⟩ | ⟨g', cap, cur, rfl, hb, _⟩
    · cases hk
    · injection hk with hk
      have hk' : g' = k := hk
      omega
  · have e : ((List.range (i + 1)).map fun j => (.slice (some ⟨if j = i then gn else g j, 0, none⟩) 120 120 : Value)) = ((List.range i).map fun j => .slice (some ⟨g j, 0, none⟩) 120 120) ++ [.slice (some ⟨gn, 0, none⟩) 120 120] := by
      rw [List.range_succ, List.map_append]
      congr 1
      · apply List.map_congr_left
        intro j hj
        rw [if_neg (by have := List.mem_range.1 hj; omega)]
      · simp
    rw [e]
    exact ho
  · by_cases e : j = i
    · subst e
      rw [if_pos rfl]
      exact hst hn
    · rw [if_neg e]
      exact hst (h.at_ j (by omega))
/-- the pages, one behind the other, are the counts -/
theorem pages_flat (l : List Nat) (g : Nat → Nat) : K.flatP ((List.range (K.pagesN l.length)).map fun j => ((⟨g j, 0, none⟩ : Addr), K.partL l (j : Int))) = K.rowL l 0 (K.pagesN l.length * 120) := by
  rw [← parts_flat]
  unfold K.flatP
  rw [List.map_map]
  rfl
/-- Join of all pages: the counts -/
theorem wpList_one_sl {ops : Array Oper} {rest : List Oper} {o : Oper} {a : Act} {w : World} {Q : Exit → Act → World → Prop} (hg : o.guard = none) (x : Operand) (ho : o.op = .buildSlice 248 1 #[(0, x)])
    (A : Option Addr) (n c : Nat) (hv : a.eval x = .slice A n c)
    (h : wpList Tryz.prog ops Q rest (a.put o.dst (.slice (some ⟨w.heap.size, 0, none⟩) 1 1)) (w.alloc (.cells #[.slice A n c] 160))) : wpList Tryz.prog ops Q (o :: rest) a w := by
  obtain ⟨i0, hi, hz0, hz1, hz2⟩ := info_parts sl_info
  refine wpList_buildSlice hg 248 160 1 _ ho _ i0 _ Tryz.underlying248 hi hz0 (by rw [hz1]; decide) (by rw [hz1]; decide) ?_ h
  rw [hz1, Array.toList_map]
  show Instr.fill _ _ [(0, a.eval x)] = _
  rw [hv]
  kernel_rfl
theorem join_pages {W wr : World} {A : Option Addr} {ck pn : Nat} {l : List Nat} {g : Nat → Nat} (h : PR W wr (.slice A pn ck) l pn g) (hpn : K.pagesN l.length = pn) (h1 : 1 ≤ l.length) (h2 : l.length ≤ 1000) :
    Calls Tryz.prog 204 #[.int .i64 (l.length : Int), .slice A pn ck] wr fun e w' => ∃ p : Addr, e = .returned (.tuple #[.slice (some p) l.length l.length, .int .i64 0]) ∧ Shows w' w'.heap.size (some p) l.length (C.nz .u16 l) ∧ Below wr.heap.size wr w' := by
  obtain ⟨ps, hps⟩ : ∃ ps, ((List.range pn).map fun j => ((⟨g j, 0, none⟩ : Addr), K.partL l (j : Int))) = ps := ⟨_, rfl⟩
  have hlen : ps.length = pn := by rw [← hps]; simp
  have hfl : K.flatP ps = K.rowL l 0 (pn * 120) := by rw [← hps, ← hpn]; exact pages_flat l g
  obtain ⟨t1, t2⟩ := rowL_take l (pn * 120) (by rw [← hpn]; exact pagesN_ge _)
  have hsl : ps.map K.slV = (List.range pn).map fun j => .slice (some ⟨g j, 0, none⟩) 120 120 := by rw [← hps, List.map_map]; rfl
  have hr : Shows wr wr.heap.size A ps.length (ps.map K.slV) := by
    rw [hlen, hsl]
    exact Shows.owned h.row
  have hj := K.join_any wr l.length A ck ps h1 h2 (by rw [hlen, hpn]) hr (fun p hp => by rw [← hps] at hp; obtain ⟨j, _, rfl⟩ := List.mem_map.1 hp; exact K.partL_length l (j : Int)) (fun p hp => by
    rw [← hps] at hp
    obtain ⟨j, hj, rfl⟩ := List.mem_map.1 hp
    have := (h.at_ j (List.mem_range.1 hj)).shows
    rw [K.partL_length] at this
    exact this)
  rw [hfl, t2, hlen] at hj
  refine hj.mono ?_
  rintro e w' ⟨hb, p, he, hs⟩
  rw [t1] at hs
  exact ⟨p, he, hs, hb⟩
set_option maxRecDepth 100000 in
set_option maxHeartbeats 8000000 in
theorem area_any {w0 W : World} {F : Nat → Prop} {bs bd : Nat} {d : RD} (hT : Tabs w0) (hb0 : Below w0.heap.size w0 W) (hd : PD W F bd d) (h0 : W.cell? ⟨bs, 0, none⟩ = some (.pointer (some ⟨bd, 0, none⟩))) (l : List Nat) (hl : 1 ≤ l.length ∧ l.length ≤ 1000) (h16 : ∀ k ∈ l, k < 65536) (A : Addr) (cap : Nat) (N : Nat → Nat)
    (hA : A.block < W.heap.size) (hN : ∀ i, i < K.pagesN l.length → N i < 4294967296 ∧ (2 + N i) * 4 + 4 ≤ d.s.length ∧ blkAt d (2 + N i) = pg (N i) i l ∧ W.cell? (A.add i) = some (.int .u32 (N i : Int))) :
    Calls Tryz.prog 152 #[.pointer (some ⟨bs, 0, none⟩), .int .i64 (l.length : Int), .slice (some A) (K.pagesN l.length) cap] W fun e w' => ∃ b g0 p0 g1 p1, e = .returned (.tuple #[.pointer (some ⟨b, 0, none⟩), .int .i64 0]) ∧ C.AX w' b g0 p0 g1 p1 ⟨l, l, 0, 0⟩ ∧ (∀ j, C.foot b g0 g1 j → W.heap.size ≤ j) ∧ Below W.heap.size W w' := by
  obtain ⟨i0, hi0, hz0, hz1, hz2⟩ := info_parts sl_info
  have HTW : Hid (∀ w2, Below W.heap.size W w2 → Tabs w2) := Lib.hid (fun w2 h => hT.below (hb0.trans (h.mono hb0.size)) hT.size)
  have HPD := Lib.hid hd
  have hbs : bs < W.heap.size := block_lt_of_cell h0
  have HNN := Lib.hid hN
  have HH0 := Lib.hid h0
  have H16 := Lib.hid h16
  have HAB := Lib.hid hA
  have HLL := Lib.hid hl
  have hpn9 : K.pagesN l.length ≤ 9 := by unfold K.pagesN; omega
  obtain ⟨pn, hpn⟩ : ∃ x, K.pagesN l.length = x := ⟨_, rfl⟩
  rw [hpn] at HNN hpn9 ⊢
  have HPN := Lib.hid hpn
  have hJ1 : ∀ w2, (pn : Int) < 10 := fun _ => by omega
  have hlI : (l.length : Int) ≤ 1000 := by omega
  clear hT hb0 hd h0 hN h16 hA hl hpn hJ1
  go_enter Tryz.func152, Tryz.ntmps152
  go_wp2
  go_loopw [18, 8] (fun j v wr => ∃ (i : Nat), i ≤ pn ∧ j = .int .i64 (i : Int) ∧ Hid (∃ g, PR W wr v l i g)) (fun j _ _ => pn - (intOf j).toNat)
  case atStart => exact ⟨0, Nat.zero_le _, rfl, _, PR.start W l⟩
  case round =>
    obtain ⟨i, hi, rfl, HI⟩ := hrel
    by_cases hli : i < pn
    · have hliI : (i : Int) < (pn : Int) := by omega
      obtain ⟨g, hp⟩ := HI.out
      obtain ⟨n1, n2, n3, n4⟩ := HNN.out i hli
      have hcA : wr.cell? (A.add i) = some (.int .u32 (N i : Int)) := (hp.bel.cell (p := A.add i) (by rw [addr_block]; exact HAB.out)).trans n4
      obtain ⟨no, hno⟩ : ∃ x, N i = x := ⟨_, rfl⟩
      rw [hno] at n1 n2 n3 hcA
      have HP := Lib.hid hp
      have HC0 : Hid (wr.drew.cell? ⟨bs, 0, none⟩ = some (.pointer (some ⟨bd, 0, none⟩))) := Lib.hid ((hp.bel.cell (p := ⟨bs, 0, none⟩) hbs).trans HH0.out)
      have hbsr : bs < wr.heap.size := Nat.lt_of_lt_of_le hbs hp.bel.size
      have HBS := Lib.hid hbsr
      obtain ⟨X, hX⟩ : ∃ X, pg no i l = X := ⟨_, rfl⟩
      have hXl : X.length = 256 := by rw [← hX]; exact pg_len _ _ _
      have hnI : ((2 + no : Nat) : Int) = 2 + (no : Int) := by omega
      have HRD : Hid (∀ w2, Below wr.heap.size wr.drew w2 → Calls Tryz.prog 194 #[.pointer (some ⟨bd, 0, none⟩), .int .i64 (2 + (no : Int))] w2 fun e w' => e = .returned (.tuple #[.agg (cells8 X).toArray, .int .i64 0]) ∧ Below w2.heap.size w2 w') := Lib.hid (fun w2 hb => by
        have hq : Below W.heap.size W w2 := hp.bel.trans ((((Below.refl wr.heap.size wr).drew).trans hb).mono hp.bel.size)
        have := read_any' (HPD.out.below hq) (2 + no) ⟨by omega, by omega⟩
        rw [n3, hX, hnI] at this
        exact this)
      have HMA := Lib.hid (fun w2 : World => metaAt_any w2 no n1)
      have HOF : Hid (∀ w2, Below wr.heap.size wr w2 → Calls Tryz.prog 203 #[.int .u32 (no : Int), .int .i64 (i : Int), .agg (cells8 X).toArray] w2 fun e w' => ∃ g, e = .returned (.tuple #[.slice (some ⟨g, 0, none⟩) 120 120, .int .i64 0]) ∧ Holds16 w' g 309 (K.partL l (i : Int)) ∧ Below w2.heap.size w2 w') := Lib.hid (fun w2 hb => by
        have := of_page w2 (HTW.out w2 (hp.bel.trans (hb.mono hp.bel.size))) no i n1 (by omega) l H16.out
        rw [hX] at this
        exact this)
      have HXL := Lib.hid hXl
      have hzb := blk_zero
      have hX8 : (cells8 X).length = 256 := by rw [cells8_length, hXl]
      clear hp n1 n2 n3 n4 hno hX hXl hnI HI hbsr
      go_upto_region 5 with fail
      go_cut [11, 12] (fun pb pe w2 => ∃ bb, pb = .pointer (some ⟨bb, 0, none⟩) ∧ pe = .int .i64 0 ∧ Hid (PB wr w2 X bb))
      case first =>
        refine wp_region_noPanic ?_
        refine wp_region_held_drew (S := fun w2 => Below wr.heap.size wr.drew w2 ∧ w2.cell? ⟨bs, 0, none⟩ = some (.pointer (some ⟨bd, 0, none⟩))) (by kernel_rfl) ⟨Below.refl _ _, HC0.out⟩ (fun hHeld => ?_)
        refine takeN (i := 0) (oi := _) (v := .pointer (some ⟨bs, 0, none⟩)) 24 rfl rfl (by kernel_rfl) (by kernel_rfl) (by kernel_rfl) (fun _ _ _ h => h) (Or.inl ⟨by rfl, fun w2 hSw => by go_simp⟩) hHeld ?_
        try simp only [Act.put, List.setIfInBounds_toArray, List.set_cons_zero, List.set_cons_succ]
        refine takeN (i := 1) (oi := _) (v := .pointer (some ⟨bs, 0, none⟩)) 25 rfl rfl (by kernel_rfl) (by kernel_rfl) (by kernel_rfl) (fun _ _ _ h => h) (Or.inl ⟨by rfl, fun w2 hSw => by go_simp⟩) hHeld ?_
        try simp only [Act.put, List.setIfInBounds_toArray, List.set_cons_zero, List.set_cons_succ]
        refine takeN (i := 2) (oi := _) (v := .pointer (some ⟨bs, 0, none⟩)) 26 rfl rfl (by kernel_rfl) (by kernel_rfl) (by kernel_rfl) (fun _ _ _ h => h) (Or.inl ⟨by rfl, fun w2 hSw => by go_simp⟩) hHeld ?_
        try simp only [Act.put, List.setIfInBounds_toArray, List.set_cons_zero, List.set_cons_succ]
        refine takeN (i := 3) (oi := _) (v := .pointer (some ⟨bd, 0, none⟩)) 27 rfl rfl (by kernel_rfl) (by kernel_rfl) (by kernel_rfl) (fun _ _ _ h => h) (Or.inl ⟨by rfl, fun w2 hSw => by (have hc := hSw.2; go_simp)⟩) hHeld ?_
        try simp only [Act.put, List.setIfInBounds_toArray, List.set_cons_zero, List.set_cons_succ]
        refine takeN (i := 4) (oi := _) (v := .int .u32 (no : Int)) 28 rfl rfl (by kernel_rfl) (by kernel_rfl) (by kernel_rfl) (fun _ _ _ h => h) (Or.inl ⟨by rfl, fun w2 hSw => by go_simp⟩) hHeld ?_
        try simp only [Act.put, List.setIfInBounds_toArray, List.set_cons_zero, List.set_cons_succ]
        refine wpAnyH_ready (rs := [5, 10]) (by kernel_rfl) (by simp) ?_
        refine AllReadyH.cons rfl (fun K hK => ?_) (AllReadyH.cons rfl (fun K hK => ?_) AllReadyH.nil)
        · go_simp
          go_wp2_with (first
            | (go_at_call 145; (with_reducible refine (HMA.out _).mono ?_); rintro e wm ⟨rfl, hwm⟩; subst wm)
            | fail)
          refine hK.out _ _ hHeld (fun hHeld => ?_)
          clear hK K
          try simp only [Act.put, List.setIfInBounds_toArray, List.set_cons_zero, List.set_cons_succ]
          refine wpAnyH_ready (rs := [6, 10]) (by kernel_rfl) (by simp) ?_
          refine AllReadyH.cons rfl (fun K hK => ?_) (AllReadyH.cons rfl (fun K hK => ?_) AllReadyH.nil)
          · go_simp
            go_wp2_with (first
              | (go_at_call 194; (with_reducible refine (HRD.out _ hHeld.1).mono ?_); rintro e wq ⟨rfl, hb3⟩)
              | fail)
            have HB3 := Lib.hid (hHeld.1.trans (hb3.mono hHeld.1.size))
            refine hK.out _ _ ⟨HB3.out, (HB3.out.cell (p := ⟨bs, 0, none⟩) HBS.out).trans HC0.out⟩ (fun hHeld => ?_)
            clear hK K hb3
            try simp only [Act.put, List.setIfInBounds_toArray, List.set_cons_zero, List.set_cons_succ]
            refine takeN (i := 7) (oi := _) (v := .tuple #[.agg (cells8 X).toArray, .int .i64 0]) 23 rfl rfl (by kernel_rfl) (by kernel_rfl) (by kernel_rfl) (fun _ _ _ h => h) (Or.inl ⟨by rfl, fun w2 hSw => by go_simp⟩) hHeld ?_
            try simp only [Act.put, List.setIfInBounds_toArray, List.set_cons_zero, List.set_cons_succ]
            refine takeN (i := 8) (oi := _) (v := .agg (cells8 X).toArray) 31 rfl rfl (by kernel_rfl) (by kernel_rfl) (by kernel_rfl) (fun _ _ _ h => h) (Or.inl ⟨by rfl, fun w2 hSw => by go_simp⟩) hHeld ?_
            try simp only [Act.put, List.setIfInBounds_toArray, List.set_cons_zero, List.set_cons_succ]
            refine takeN (i := 9) (oi := _) (v := .int .i64 0) 32 rfl rfl (by kernel_rfl) (by kernel_rfl) (by kernel_rfl) (fun _ _ _ h => h) (Or.inl ⟨by rfl, fun w2 hSw => by go_simp⟩) hHeld ?_
            try simp only [Act.put, List.setIfInBounds_toArray, List.set_cons_zero, List.set_cons_succ]
            refine wpAnyH_ready (rs := [10]) (by kernel_rfl) (by simp) ?_
            refine AllReadyH.cons rfl (fun K hK => ?_) AllReadyH.nil
            go_simp
            have HBA := Lib.hid (hHeld.1.alloc hHeld.1.size (.cells (cells8 noughts).toArray 151))
            have HBOX := Lib.hid (newOf hHeld.1 (.cells (cells8 noughts).toArray 151))
            refine hK.out _ _ ⟨HBA.out, (HBA.out.cell (p := ⟨bs, 0, none⟩) HBS.out).trans HC0.out⟩ (fun hHeld => ?_)
            clear hK K
            try simp only [Act.put, List.setIfInBounds_toArray, List.set_cons_zero, List.set_cons_succ]
            refine wpAnyH_ready (rs := [11]) (by kernel_rfl) (by simp) ?_
            refine AllReadyH.cons rfl (fun K hK => ?_) AllReadyH.nil
            rw [if_pos (by rfl)]
            refine wp_store_run 151 (.tmp 11) (.tmp 31) rfl _ 0 (.agg (cells8 X).toArray) _ (by rfl) (by rfl) (store_box noughts X noughts_len HXL.out HBOX.out) ?_
            have HBZ := Lib.hid (below_setRow hHeld.1 HB3.out.size (cells8 X).toArray)
            have HBY := Lib.hid (setRow_at (ds := (cells8 X).toArray) HBOX.out)
            refine hK.out _ _ ⟨HBZ.out, (HBZ.out.cell (p := ⟨bs, 0, none⟩) HBS.out).trans HC0.out⟩ (fun hHeld => ?_)
            clear hK K
            try simp only [Act.put, List.setIfInBounds_toArray]
            refine takeN (i := 12) (oi := _) (v := .int .i64 0) 12 rfl rfl (by kernel_rfl) (by kernel_rfl) (by kernel_rfl) (fun _ _ _ h => h) (Or.inl ⟨by rfl, fun w2 hSw => by go_simp⟩) hHeld ?_
            try simp only [Act.put]
            refine wpAnyH_done (by kernel_rfl) ?_ _
            refine NoPanic.normal ?_
            go_wp2_with fail
            go_meet
            exact ⟨_, rfl, rfl, HB3.out.size, ((Below.refl wr.heap.size wr).drew).trans HBZ.out, HBY.out⟩
          · have HSZ0 := Lib.hid (hHeld.1.size : wr.drew.heap.size ≤ _)
            go_simp
            have HBA := Lib.hid (hHeld.1.alloc hHeld.1.size (.cells (cells8 noughts).toArray 151))
            have HBOX := Lib.hid (newOf hHeld.1 (.cells (cells8 noughts).toArray 151))
            refine hK.out _ _ ⟨HBA.out, (HBA.out.cell (p := ⟨bs, 0, none⟩) HBS.out).trans HC0.out⟩ (fun hHeld => ?_)
            clear hK K
            try simp only [Act.put, List.setIfInBounds_toArray, List.set_cons_zero, List.set_cons_succ]
            refine wpAnyH_ready (rs := [6]) (by kernel_rfl) (by simp) ?_
            refine AllReadyH.cons rfl (fun K hK => ?_) AllReadyH.nil
            go_simp
            go_wp2_with (first
              | (go_at_call 194; (with_reducible refine (HRD.out _ hHeld.1).mono ?_); rintro e wq ⟨rfl, hb3⟩)
              | fail)
            have hbx3 := (hb3.block _ ((Array.getElem?_eq_some_iff.1 HBOX.out).1)).trans HBOX.out
            clear HBOX
            have HBOX := Lib.hid hbx3
            clear hbx3
            have HB3 := Lib.hid (hHeld.1.trans (hb3.mono hHeld.1.size))
            refine hK.out _ _ ⟨HB3.out, (HB3.out.cell (p := ⟨bs, 0, none⟩) HBS.out).trans HC0.out⟩ (fun hHeld => ?_)
            clear hK K hb3
            try simp only [Act.put, List.setIfInBounds_toArray, List.set_cons_zero, List.set_cons_succ]
            refine takeN (i := 7) (oi := _) (v := .tuple #[.agg (cells8 X).toArray, .int .i64 0]) 23 rfl rfl (by kernel_rfl) (by kernel_rfl) (by kernel_rfl) (fun _ _ _ h => h) (Or.inl ⟨by rfl, fun w2 hSw => by go_simp⟩) hHeld ?_
            try simp only [Act.put, List.setIfInBounds_toArray, List.set_cons_zero, List.set_cons_succ]
            refine takeN (i := 8) (oi := _) (v := .agg (cells8 X).toArray) 31 rfl rfl (by kernel_rfl) (by kernel_rfl) (by kernel_rfl) (fun _ _ _ h => h) (Or.inl ⟨by rfl, fun w2 hSw => by go_simp⟩) hHeld ?_
            try simp only [Act.put, List.setIfInBounds_toArray, List.set_cons_zero, List.set_cons_succ]
            refine takeN (i := 9) (oi := _) (v := .int .i64 0) 32 rfl rfl (by kernel_rfl) (by kernel_rfl) (by kernel_rfl) (fun _ _ _ h => h) (Or.inl ⟨by rfl, fun w2 hSw => by go_simp⟩) hHeld ?_
            try simp only [Act.put, List.setIfInBounds_toArray, List.set_cons_zero, List.set_cons_succ]
            refine wpAnyH_ready (rs := [11]) (by kernel_rfl) (by simp) ?_
            refine AllReadyH.cons rfl (fun K hK => ?_) AllReadyH.nil
            rw [if_pos (by rfl)]
            refine wp_store_run 151 (.tmp 11) (.tmp 31) rfl _ 0 (.agg (cells8 X).toArray) _ (by rfl) (by rfl) (store_box noughts X noughts_len HXL.out HBOX.out) ?_
            have HBZ := Lib.hid (below_setRow hHeld.1 HSZ0.out (cells8 X).toArray)
            have HBY := Lib.hid (setRow_at (ds := (cells8 X).toArray) HBOX.out)
            refine hK.out _ _ ⟨HBZ.out, (HBZ.out.cell (p := ⟨bs, 0, none⟩) HBS.out).trans HC0.out⟩ (fun hHeld => ?_)
            clear hK K
            try simp only [Act.put, List.setIfInBounds_toArray]
            refine takeN (i := 12) (oi := _) (v := .int .i64 0) 12 rfl rfl (by kernel_rfl) (by kernel_rfl) (by kernel_rfl) (fun _ _ _ h => h) (Or.inl ⟨by rfl, fun w2 hSw => by go_simp⟩) hHeld ?_
            try simp only [Act.put]
            refine wpAnyH_done (by kernel_rfl) ?_ _
            refine NoPanic.normal ?_
            go_wp2_with fail
            go_meet
            exact ⟨_, rfl, rfl, HSZ0.out, ((Below.refl wr.heap.size wr).drew).trans HBZ.out, HBY.out⟩
        · have HSZ0 := Lib.hid (hHeld.1.size : wr.drew.heap.size ≤ _)
          go_simp
          have HBA := Lib.hid (hHeld.1.alloc hHeld.1.size (.cells (cells8 noughts).toArray 151))
          have HBOX := Lib.hid (newOf hHeld.1 (.cells (cells8 noughts).toArray 151))
          refine hK.out _ _ ⟨HBA.out, (HBA.out.cell (p := ⟨bs, 0, none⟩) HBS.out).trans HC0.out⟩ (fun hHeld => ?_)
          clear hK K
          try simp only [Act.put, List.setIfInBounds_toArray, List.set_cons_zero, List.set_cons_succ]
          refine wpAnyH_ready (rs := [5]) (by kernel_rfl) (by simp) ?_
          refine AllReadyH.cons rfl (fun K hK => ?_) AllReadyH.nil
          go_simp
          go_wp2_with (first
            | (go_at_call 145; (with_reducible refine (HMA.out _).mono ?_); rintro e wm ⟨rfl, hwm⟩; subst wm)
            | fail)
          refine hK.out _ _ hHeld (fun hHeld => ?_)
          clear hK K
          try simp only [Act.put, List.setIfInBounds_toArray, List.set_cons_zero, List.set_cons_succ]
          refine wpAnyH_ready (rs := [6]) (by kernel_rfl) (by simp) ?_
          refine AllReadyH.cons rfl (fun K hK => ?_) AllReadyH.nil
          go_simp
          go_wp2_with (first
            | (go_at_call 194; (with_reducible refine (HRD.out _ hHeld.1).mono ?_); rintro e wq ⟨rfl, hb3⟩)
            | fail)
          have hbx3 := (hb3.block _ ((Array.getElem?_eq_some_iff.1 HBOX.out).1)).trans HBOX.out
          clear HBOX
          have HBOX := Lib.hid hbx3
          clear hbx3
          have HB3 := Lib.hid (hHeld.1.trans (hb3.mono hHeld.1.size))
          refine hK.out _ _ ⟨HB3.out, (HB3.out.cell (p := ⟨bs, 0, none⟩) HBS.out).trans HC0.out⟩ (fun hHeld => ?_)
          clear hK K hb3
          try simp only [Act.put, List.setIfInBounds_toArray, List.set_cons_zero, List.set_cons_succ]
          refine takeN (i := 7) (oi := _) (v := .tuple #[.agg (cells8 X).toArray, .int .i64 0]) 23 rfl rfl (by kernel_rfl) (by kernel_rfl) (by kernel_rfl) (fun _ _ _ h => h) (Or.inl ⟨by rfl, fun w2 hSw => by go_simp⟩) hHeld ?_
          try simp only [Act.put, List.setIfInBounds_toArray, List.set_cons_zero, List.set_cons_succ]
          refine takeN (i := 8) (oi := _) (v := .agg (cells8 X).toArray) 31 rfl rfl (by kernel_rfl) (by kernel_rfl) (by kernel_rfl) (fun _ _ _ h => h) (Or.inl ⟨by rfl, fun w2 hSw => by go_simp⟩) hHeld ?_
          try simp only [Act.put, List.setIfInBounds_toArray, List.set_cons_zero, List.set_cons_succ]
          refine takeN (i := 9) (oi := _) (v := .int .i64 0) 32 rfl rfl (by kernel_rfl) (by kernel_rfl) (by kernel_rfl) (fun _ _ _ h => h) (Or.inl ⟨by rfl, fun w2 hSw => by go_simp⟩) hHeld ?_
          try simp only [Act.put, List.setIfInBounds_toArray, List.set_cons_zero, List.set_cons_succ]
          refine wpAnyH_ready (rs := [11]) (by kernel_rfl) (by simp) ?_
          refine AllReadyH.cons rfl (fun K hK => ?_) AllReadyH.nil
          rw [if_pos (by rfl)]
          refine wp_store_run 151 (.tmp 11) (.tmp 31) rfl _ 0 (.agg (cells8 X).toArray) _ (by rfl) (by rfl) (store_box noughts X noughts_len HXL.out HBOX.out) ?_
          have HBZ := Lib.hid (below_setRow hHeld.1 HSZ0.out (cells8 X).toArray)
          have HBY := Lib.hid (setRow_at (ds := (cells8 X).toArray) HBOX.out)
          refine hK.out _ _ ⟨HBZ.out, (HBZ.out.cell (p := ⟨bs, 0, none⟩) HBS.out).trans HC0.out⟩ (fun hHeld => ?_)
          clear hK K
          try simp only [Act.put, List.setIfInBounds_toArray]
          refine takeN (i := 12) (oi := _) (v := .int .i64 0) 12 rfl rfl (by kernel_rfl) (by kernel_rfl) (by kernel_rfl) (fun _ _ _ h => h) (Or.inl ⟨by rfl, fun w2 hSw => by go_simp⟩) hHeld ?_
          try simp only [Act.put]
          refine wpAnyH_done (by kernel_rfl) ?_ _
          refine NoPanic.normal ?_
          go_wp2_with fail
          go_meet
          exact ⟨_, rfl, rfl, HSZ0.out, ((Below.refl wr.heap.size wr).drew).trans HBZ.out, HBY.out⟩
      case rest =>
        obtain ⟨bb, rfl, rfl, HPB⟩ := hcut
        obtain ⟨hpb1, hpb2, hpb3⟩ := HPB.out
        have HWB := Lib.hid hpb2
        clear hpb1 hpb2 hpb3
        have HRB : Hid (wc.rangeAt bb 0 (cells8 X)) := Lib.hid (range_of HPB.out.2.2)
        go_wp2_with (first
          | (refine wpList_load_mid rfl 151 (.tmp 11) rfl bb 0 rfl (cells8 X) _ HRB.out Tryz.underlying151 rfl (blk_sz X HXL.out) ?_)
          | (go_at_call 203; (with_reducible refine (HOF.out _ HWB.out).mono ?_); rintro e w4 ⟨gn, rfl, hg4, hb4⟩; have HB4 := Lib.hid (HP.out.below (HWB.out.trans (hb4.mono HWB.out.size))); have HG4 := Lib.hid hg4; clear hg4 hb4)
          | (refine wpList_one_sl rfl (.tmp 47) rfl (some ⟨gn, 0, none⟩) 120 120 rfl ?_)
          | (at_builtin; refine wpList_append_own_at _ rfl (.tmp 46) (.tmp 48) 248 rfl W.heap.size 160 i0 (.slice none 0 0) 1 24 Tryz.underlying248 hi0 hz0 hz1 hz2 rfl (by omega) u8 i _ rfl (HB4.out.below ((Below.refl _ w4).alloc (Nat.le_refl _) (.cells #[.slice (some ⟨gn, 0, none⟩) 120 120] 160))).row ⟨w4.heap.size, 0, none⟩ 1 1 [.slice (some ⟨gn, 0, none⟩) 120 120] rfl rfl (cell_one_new _ _ _) (by simp [Value.oneCell']) (by unfold maxLen; omega) (by omega) (HB4.out.below ((Below.refl _ w4).alloc (Nat.le_refl _) (.cells #[.slice (some ⟨gn, 0, none⟩) 120 120] 160))).bel.size ?_; intro v2 w5 hown hgrow hnil hat; have HPX := Lib.hid ((HB4.out.below ((Below.refl _ w4).alloc (Nat.le_refl _) (.cells #[.slice (some ⟨gn, 0, none⟩) 120 120] 160))).app (HG4.out.alloc _) hown hgrow); clear hown hgrow hnil hat)
          | fail)
        go_roundw
        case rel => exact ⟨i + 1, by omega, by go_num, _, HPX.out⟩
        case measure => simp [intOf]; omega
    · obtain rfl : i = pn := by omega
      have hnI : ¬ (i : Int) < (i : Int) := by omega
      obtain ⟨g, hp⟩ := HI.out
      obtain ⟨A', ck, hv, _⟩ := K.own_form4 hp.row
      subst hv
      have HP := Lib.hid hp
      have hJ := join_pages hp HPN.out HLL.out.1 HLL.out.2
      have HJ := Lib.hid hJ
      have HB0 := Lib.hid hp.bel
      clear hp hJ HI
      go_wp2_with (first
        | (go_at_call 204; (with_reducible refine HJ.out.mono ?_); rintro e w6 ⟨pa, rfl, hsh, hb6⟩; have HN := Lib.hid (C.new_any w6 w6.heap.size (some pa) l l.length hsh HLL.out (Nat.le_refl _) (fun x hx => Nat.le_of_lt_succ (H16.out x hx))); have HB6 := Lib.hid (HB0.out.trans (hb6.mono HB0.out.size)); clear hsh hb6)
        | (go_at_call 205; (with_reducible refine HN.out.mono ?_); rintro e w7 ⟨b7, g0, p0, g1, p1, rfl, hax, hft, hb7⟩)
        | fail)
      go_ret2
      exact ⟨b7, g0, p0, g1, p1, rfl, hax, fun j hj => Nat.le_trans HB6.out.size (hft j hj), HB6.out.trans (hb7.mono HB6.out.size)⟩
end Go.Proofs.YtoclhiaidbfheaaGreatDoor.S
end

section
set_option linter.unusedVariables false
namespace Go.Proofs.YtoclhiaidbfheaaGreatDoor.S
open Go.RowKit Q

/-- a store's cells: its disk, its superblock, its areas, its fresh nodes, and whether it was opened late -/
def stA (bd : Nat) (cl : List Value) (pm pt : Value) (mp : Nat) (la : Bool) : Array Value := (.pointer (some ⟨bd, 0, none⟩) :: (cl ++ [pm, pt, .map (some mp), .bool false, .bool la])).toArray
def uC (m dd : Nat) : List Value := (firstU m dd).cells.toList
theorem uC_len (m dd : Nat) : (uC m dd).length = 19 := rfl
theorem stA_page (bd m dd : Nat) (pm pt : Value) (mp : Nat) (la : Bool) (i : Nat) (hi : i < 6) : (stA bd (uC m dd) pm pt mp la)[4 + i]? = some (.int .u32 ((pagesTo (pgs m dd) i : Nat) : Int)) := by
  rcases i with _ | _ | _ | _ | _ | _ | i
  all_goals first | rfl | omega
/-- a store at its block -/
structure ST (W : World) (bs bd m dd : Nat) (pm pt : Value) (mp : Nat) (la : Bool) : Prop where
  blk : W.heap[bs]? = some (.cells (stA bd (uC m dd) pm pt mp la) 170 (0, 0))
section
variable {W : World} {bs bd m dd : Nat} {pm pt : Value} {mp : Nat} {la : Bool}
theorem ST.c (h : ST W bs bd m dd pm pt mp la) (k : Nat) : W.cell? ⟨bs, k, none⟩ = (stA bd (uC m dd) pm pt mp la)[k]? := Joins.cell_of_block h.blk k
theorem ST.lt (h : ST W bs bd m dd pm pt mp la) : bs < W.heap.size := (Array.getElem?_eq_some_iff.1 h.blk).1
theorem ST.below {W' : World} (h : ST W bs bd m dd pm pt mp la) (hb : Below W.heap.size W W') : ST W' bs bd m dd pm pt mp la := ⟨(hb.block bs h.lt).trans h.blk⟩
theorem ST.c0 (h : ST W bs bd m dd pm pt mp la) : W.cell? ⟨bs, 0, none⟩ = some (.pointer (some ⟨bd, 0, none⟩)) := h.c 0
theorem ST.c2 (h : ST W bs bd m dd pm pt mp la) : W.cell? ⟨bs, 2, none⟩ = some (.int .i64 (m : Int)) := h.c 2
theorem ST.c3 (h : ST W bs bd m dd pm pt mp la) : W.cell? ⟨bs, 3, none⟩ = some (.int .i64 (dd : Int)) := h.c 3
theorem ST.c10 (h : ST W bs bd m dd pm pt mp la) : W.cell? ⟨bs, 10, none⟩ = some (.int .u32 0) := h.c 10
theorem ST.c11 (h : ST W bs bd m dd pm pt mp la) : W.cell? ⟨bs, 11, none⟩ = some (.int .u32 0) := h.c 11
theorem ST.c12 (h : ST W bs bd m dd pm pt mp la) : W.cell? ⟨bs, 12, none⟩ = some (.int .u32 0) := h.c 12
theorem ST.c20 (h : ST W bs bd m dd pm pt mp la) : W.cell? ⟨bs, 20, none⟩ = some pm := h.c 20
theorem ST.c21 (h : ST W bs bd m dd pm pt mp la) : W.cell? ⟨bs, 21, none⟩ = some pt := h.c 21
end
theorem index3 (i : Nat) (hi : i < 3) (w : World) : (Instr.index 319 (.agg #[.int .u32 0, .int .u32 0, .int .u32 0]) (.int .i64 (i : Int))).run Tryz.prog w = .ok (.int .u32 0) w := by
  rcases i with _ | _ | _ | i
  all_goals first | omega | kernel_rfl
theorem zero3 (w : World) : (zeroValue 319).run Tryz.prog w = .ok (.agg #[.int .u32 0, .int .u32 0, .int .u32 0]) w := by kernel_rfl
set_option maxRecDepth 100000 in
set_option maxHeartbeats 4000000 in
theorem counted_yes {W : World} {bs bd m dd bm g0 p0 g1 p1 mp : Nat} {pt : Value} {la : Bool} (ha : Areas m dd) (h : ST W bs bd m dd (.pointer (some ⟨bm, 0, none⟩)) pt mp la) (hm : C.AX W bm g0 p0 g1 p1 ⟨cnt m (pgs m dd), cnt m (pgs m dd), 0, 0⟩) :
    Calls Tryz.prog 153 #[.pointer (some ⟨bs, 0, none⟩)] W fun e w' => e = .returned (.bool true) ∧ Below W.heap.size W w' := by
  have h6 := ha.pgs
  have hm0 := ha.m0
  have hm1 := ha.m1
  have HCN : Hid (∀ w2 n, Below W.heap.size W w2 → n ≤ pgs m dd → Calls Tryz.prog 181 #[.pointer (some ⟨bs, 0, none⟩), .int .u32 (n : Int)] w2 fun e w' => e = .returned (.int .u16 1) ∧ Below w2.heap.size w2 w') := Lib.hid (fun w2 n hb hn => by
    have hS := h.below hb
    have := count_at hS.c0 hS.c20 (C.AR.below hm hb) n (by omega)
    rw [lookN_cnt m _ n (by omega), if_pos hn] at this
    exact this)
  have HC0 : Hid (∀ w2, Below W.heap.size W w2 → Calls Tryz.prog 181 #[.pointer (some ⟨bs, 0, none⟩), .int .u32 0] w2 fun e w' => e = .returned (.int .u16 1) ∧ Below w2.heap.size w2 w') := Lib.hid (fun w2 hb => HCN.out w2 0 hb (by omega))
  have HPG := Lib.hid (pages_at ha h.c2 h.c3)
  have HS := Lib.hid h
  have HBD := Lib.hid ((Below.refl W.heap.size W).drew)
  have hpe : K.pagesN m + K.pagesN dd = pgs m dd := rfl
  rw [hpe] at HPG
  have HPC : Hid (∀ i, i < pgs m dd → W.cell? ⟨bs, 4 + i, none⟩ = some (.int .u32 ((i + 1 : Nat) : Int))) := Lib.hid (fun i hi => by
    have := stA_page bd m dd (.pointer (some ⟨bm, 0, none⟩)) pt mp la i (by omega)
    rw [pagesTo_in hi] at this
    rw [h.c]; exact this)
  have hbs := h.lt
  have h6b := h6.2
  obtain ⟨pn, hpn⟩ : ∃ x, pgs m dd = x := ⟨_, rfl⟩
  rw [hpn] at HCN HPG HPC h6b
  have h6I : (pn : Int) ≤ 6 := by omega
  clear ha h hm h6 hpe hpn hm0 hm1
  go_enter Tryz.func153, Tryz.ntmps153
  go_wp2_with (first
    | (go_at_call 151; (with_reducible refine HPG.out.mono ?_); rintro e w1 ⟨rfl, hw1⟩; subst w1)
    | fail)
  go_loopw [10] (fun j wr => ∃ i : Nat, i ≤ pn ∧ j = .int .i64 (i : Int) ∧ Hid (Below W.heap.size W wr)) (fun j _ => pn - (intOf j).toNat)
  case atStart => exact ⟨0, Nat.zero_le _, rfl, HBD.out⟩
  case round =>
    obtain ⟨i, hi, rfl, HI⟩ := hrel
    by_cases hlt : i < pn
    · have hltI : (i : Int) < (pn : Int) := by omega
      have hc : wr.cell? ⟨bs, 4 + i, none⟩ = some (.int .u32 ((i : Int) + 1)) := by
        rw [HI.out.cell (p := ⟨bs, 4 + i, none⟩) hbs, HPC.out i hlt]; rfl
      have hne : (((i : Int) + 1) == 0) = false := by rw [beq_eq_false_iff_ne]; omega
      have HCX : Hid (Calls Tryz.prog 181 #[.pointer (some ⟨bs, 0, none⟩), .int .u32 ((i : Int) + 1)] wr fun e w' => e = .returned (.int .u16 1) ∧ Below wr.heap.size wr w') := Lib.hid (HCN.out wr (i + 1) HI.out (by omega))
      go_wp2_with (first
        | (go_at_call 181; (with_reducible refine HCX.out.mono ?_); rintro e w2 ⟨rfl, hb2⟩; have HB2 := Lib.hid (HI.out.trans (hb2.mono HI.out.size)); clear hb2)
        | fail)
      go_roundw
      case rel => exact ⟨i + 1, by omega, by go_num, HB2.out⟩
      case measure => simp [intOf]; omega
    · obtain rfl : i = pn := by omega
      have hnI : ¬ (i : Int) < (i : Int) := by omega
      have hb3 := HI.out.drew
      have h10 : wr.drew.cell? ⟨bs, 10, none⟩ = some (.int .u32 0) := (hb3.cell (p := ⟨bs, 10, none⟩) hbs).trans HS.out.c10
      have h11 : wr.drew.cell? ⟨bs, 11, none⟩ = some (.int .u32 0) := (hb3.cell (p := ⟨bs, 11, none⟩) hbs).trans HS.out.c11
      have h12 : wr.drew.cell? ⟨bs, 12, none⟩ = some (.int .u32 0) := (hb3.cell (p := ⟨bs, 12, none⟩) hbs).trans HS.out.c12
      have hz3 := zero3
      have HB3 := Lib.hid hb3
      clear hb3
      go_wp2
      refine wp_region_noPanic ?_
      refine wp_region_held_drew (S := fun w2 => w2.cell? ⟨bs, 10, none⟩ = some (.int .u32 0) ∧ w2.cell? ⟨bs, 11, none⟩ = some (.int .u32 0) ∧ w2.cell? ⟨bs, 12, none⟩ = some (.int .u32 0)) (by kernel_rfl) ⟨h10, h11, h12⟩ (fun hHeld => ?_)
      refine takeN (i := 0) (oi := _) (v := .pointer (some ⟨bs, 0, none⟩)) 23 rfl rfl (by kernel_rfl) (by kernel_rfl) (by kernel_rfl) (fun _ _ _ h => h) (Or.inl ⟨by rfl, fun w2 hSw => by go_simp⟩) hHeld ?_
      try simp only [Act.put, List.setIfInBounds_toArray, List.set_cons_zero, List.set_cons_succ]
      refine takeN (i := 1) (oi := _) (v := .pointer (some ⟨bs, 0, none⟩)) 24 rfl rfl (by kernel_rfl) (by kernel_rfl) (by kernel_rfl) (fun _ _ _ h => h) (Or.inl ⟨by rfl, fun w2 hSw => by go_simp⟩) hHeld ?_
      try simp only [Act.put, List.setIfInBounds_toArray, List.set_cons_zero, List.set_cons_succ]
      refine takeN (i := 2) (oi := _) (v := .pointer (some ⟨bs, 1, none⟩)) 25 rfl rfl (by kernel_rfl) (by kernel_rfl) (by kernel_rfl) (fun _ _ _ h => h) (Or.inl ⟨by rfl, fun w2 hSw => by go_simp⟩) hHeld ?_
      try simp only [Act.put, List.setIfInBounds_toArray, List.set_cons_zero, List.set_cons_succ]
      refine takeN (i := 3) (oi := _) (v := .pointer (some ⟨bs, 10, none⟩)) 26 rfl rfl (by kernel_rfl) (by kernel_rfl) (by kernel_rfl) (fun _ _ _ h => h) (Or.inl ⟨by rfl, fun w2 hSw => by go_simp⟩) hHeld ?_
      try simp only [Act.put, List.setIfInBounds_toArray, List.set_cons_zero, List.set_cons_succ]
      refine takeN (i := 4) (oi := _) (v := .int .u32 0) 27 rfl rfl (by kernel_rfl) (by kernel_rfl) (by kernel_rfl) (fun _ _ _ h => h) (Or.inl ⟨by rfl, fun w2 hSw => by (have hc := hSw.1; go_simp)⟩) hHeld ?_
      try simp only [Act.put, List.setIfInBounds_toArray, List.set_cons_zero, List.set_cons_succ]
      refine takeN (i := 5) (oi := _) (v := .pointer (some ⟨bs, 0, none⟩)) 28 rfl rfl (by kernel_rfl) (by kernel_rfl) (by kernel_rfl) (fun _ _ _ h => h) (Or.inl ⟨by rfl, fun w2 hSw => by go_simp⟩) hHeld ?_
      try simp only [Act.put, List.setIfInBounds_toArray, List.set_cons_zero, List.set_cons_succ]
      refine takeN (i := 6) (oi := _) (v := .pointer (some ⟨bs, 0, none⟩)) 29 rfl rfl (by kernel_rfl) (by kernel_rfl) (by kernel_rfl) (fun _ _ _ h => h) (Or.inl ⟨by rfl, fun w2 hSw => by go_simp⟩) hHeld ?_
      try simp only [Act.put, List.setIfInBounds_toArray, List.set_cons_zero, List.set_cons_succ]
      refine takeN (i := 7) (oi := _) (v := .pointer (some ⟨bs, 1, none⟩)) 30 rfl rfl (by kernel_rfl) (by kernel_rfl) (by kernel_rfl) (fun _ _ _ h => h) (Or.inl ⟨by rfl, fun w2 hSw => by go_simp⟩) hHeld ?_
      try simp only [Act.put, List.setIfInBounds_toArray, List.set_cons_zero, List.set_cons_succ]
      refine takeN (i := 8) (oi := _) (v := .pointer (some ⟨bs, 11, none⟩)) 31 rfl rfl (by kernel_rfl) (by kernel_rfl) (by kernel_rfl) (fun _ _ _ h => h) (Or.inl ⟨by rfl, fun w2 hSw => by go_simp⟩) hHeld ?_
      try simp only [Act.put, List.setIfInBounds_toArray, List.set_cons_zero, List.set_cons_succ]
      refine takeN (i := 9) (oi := _) (v := .int .u32 0) 32 rfl rfl (by kernel_rfl) (by kernel_rfl) (by kernel_rfl) (fun _ _ _ h => h) (Or.inl ⟨by rfl, fun w2 hSw => by (have hc := hSw.2.1; go_simp)⟩) hHeld ?_
      try simp only [Act.put, List.setIfInBounds_toArray, List.set_cons_zero, List.set_cons_succ]
      refine takeN (i := 10) (oi := _) (v := .pointer (some ⟨bs, 0, none⟩)) 33 rfl rfl (by kernel_rfl) (by kernel_rfl) (by kernel_rfl) (fun _ _ _ h => h) (Or.inl ⟨by rfl, fun w2 hSw => by go_simp⟩) hHeld ?_
      try simp only [Act.put, List.setIfInBounds_toArray, List.set_cons_zero, List.set_cons_succ]
      refine takeN (i := 11) (oi := _) (v := .pointer (some ⟨bs, 0, none⟩)) 34 rfl rfl (by kernel_rfl) (by kernel_rfl) (by kernel_rfl) (fun _ _ _ h => h) (Or.inl ⟨by rfl, fun w2 hSw => by go_simp⟩) hHeld ?_
      try simp only [Act.put, List.setIfInBounds_toArray, List.set_cons_zero, List.set_cons_succ]
      refine takeN (i := 12) (oi := _) (v := .pointer (some ⟨bs, 1, none⟩)) 35 rfl rfl (by kernel_rfl) (by kernel_rfl) (by kernel_rfl) (fun _ _ _ h => h) (Or.inl ⟨by rfl, fun w2 hSw => by go_simp⟩) hHeld ?_
      try simp only [Act.put, List.setIfInBounds_toArray, List.set_cons_zero, List.set_cons_succ]
      refine takeN (i := 13) (oi := _) (v := .pointer (some ⟨bs, 12, none⟩)) 36 rfl rfl (by kernel_rfl) (by kernel_rfl) (by kernel_rfl) (fun _ _ _ h => h) (Or.inl ⟨by rfl, fun w2 hSw => by go_simp⟩) hHeld ?_
      try simp only [Act.put, List.setIfInBounds_toArray, List.set_cons_zero, List.set_cons_succ]
      refine takeN (i := 14) (oi := _) (v := .int .u32 0) 37 rfl rfl (by kernel_rfl) (by kernel_rfl) (by kernel_rfl) (fun _ _ _ h => h) (Or.inl ⟨by rfl, fun w2 hSw => by (have hc := hSw.2.2; go_simp)⟩) hHeld ?_
      try simp only [Act.put, List.setIfInBounds_toArray, List.set_cons_zero, List.set_cons_succ]
      refine takeN (i := 15) (oi := _) (v := .agg #[.int .u32 0, .int .u32 0, .int .u32 0]) 38 rfl rfl (by kernel_rfl) (by kernel_rfl) (by kernel_rfl) (fun _ _ _ h => h) (Or.inl ⟨by rfl, fun w2 hSw => by go_simp⟩) hHeld ?_
      try simp only [Act.put, List.setIfInBounds_toArray, List.set_cons_zero, List.set_cons_succ]
      refine takeN (i := 16) (oi := _) (v := .int .i64 0) 39 rfl rfl (by kernel_rfl) (by kernel_rfl) (by kernel_rfl) (fun _ _ _ h => h) (Or.inl ⟨by rfl, fun w2 hSw => by go_simp⟩) hHeld ?_
      try simp only [Act.put, List.setIfInBounds_toArray, List.set_cons_zero, List.set_cons_succ]
      refine wpAnyH_done (by kernel_rfl) ?_ _
      refine NoPanic.normal ?_
      go_wp2
      go_loopw [39] (fun j wr => ∃ i : Nat, i ≤ 3 ∧ j = .int .i64 (i : Int) ∧ Hid (Below W.heap.size W wr)) (fun j _ => 3 - (intOf j).toNat)
      case atStart => exact ⟨0, by omega, rfl, HB3.out⟩
      case round =>
        obtain ⟨i, hi, rfl, HI⟩ := hrel
        by_cases hlt : i < 3
        · have HCX := Lib.hid (HC0.out _ HI.out)
          have hix := fun W => index3 i hlt W
          have hltI : (i : Int) < 3 := by omega
          go_wp2_with (first
            | (go_at_call 181; (with_reducible refine HCX.out.mono ?_); rintro e w2 ⟨rfl, hb2⟩; have HB2 := Lib.hid (HI.out.trans (hb2.mono HI.out.size)); clear hb2)
            | fail)
          go_roundw
          case rel => exact ⟨i + 1, by omega, by go_num, HB2.out⟩
          case measure => simp [intOf]; omega
        · obtain rfl : i = 3 := by omega
          have HCX := Lib.hid (HC0.out _ HI.out)
          go_wp2_with (first
            | (go_at_call 181; (with_reducible refine HCX.out.mono ?_); rintro e w2 ⟨rfl, hb2⟩; have HB2 := Lib.hid (HI.out.trans (hb2.mono HI.out.size)); clear hb2)
            | fail)
          go_ret
          exact ⟨rfl, HB2.out⟩
end Go.Proofs.YtoclhiaidbfheaaGreatDoor.S
end

section
set_option linter.unusedVariables false
namespace Go.Proofs.YtoclhiaidbfheaaGreatDoor.S
open Go.RowKit Q

theorem wpList_store_run {P : Program} {ops : Array Oper} {rest : List Oper} {op : Oper} {a : Act} {w : World} {Q : Exit → Act → World → Prop} (hg : op.guard = none) (ty : TypeId) (x y : Operand) (ho : op.op = .store ty x y)
    (b o : Nat) (v : Value) (w' : World) (hx : a.eval x = .pointer (some ⟨b, o, none⟩)) (hy : a.eval y = v) (hs : (storeVar ty ⟨b, o, none⟩ v).run P w = .ok () w')
    (h : wpList P ops Q rest (a.put op.dst undef) w') : wpList P ops Q (op :: rest) a w :=
  wpList_plain hg fun _ hK => wp_store_run ty x y ho b o v w' hx hy hs (hK _ _ h)
/-- a superblock is stored into a store -/
theorem store_last {W : World} {bs bd : Nat} {cl cl2 : List Value} {pm pt : Value} {mp : Nat} {la : Bool} (h : W.heap[bs]? = some (.cells (stA bd cl pm pt mp la) 170 (0, 0))) (h1 : cl.length = 19) (h2 : cl2.length = 19) (h3 : ∀ v ∈ cl2, v.oneCell' = true)
    (hi : (Tryz.prog.info? 144).map (·.size) = some cl2.length) :
    (storeVar 144 ⟨bs, 1, none⟩ (.agg cl2.toArray)).run Tryz.prog W = .ok () (W.setRow bs (stA bd cl2 pm pt mp la)) := by
  have hst := run_storeCells_at (P := Tryz.prog) bs 1 170 cl2 0 (stA bd cl pm pt mp la) W h (by simp [stA]; omega) h3
  have e : (stA bd cl pm pt mp la).toList.take (1 + 0) ++ cl2 ++ (stA bd cl pm pt mp la).toList.drop (1 + 0 + cl2.length) = (stA bd cl2 pm pt mp la).toList := by
    have e1 : (stA bd cl pm pt mp la).toList = [.pointer (some ⟨bd, 0, none⟩)] ++ (cl ++ [pm, pt, .map (some mp), .bool false, .bool la]) := rfl
    have e2 : (stA bd cl2 pm pt mp la).toList = [.pointer (some ⟨bd, 0, none⟩)] ++ (cl2 ++ [pm, pt, .map (some mp), .bool false, .bool la]) := rfl
    rw [e1, e2, h2]
    show ([.pointer (some ⟨bd, 0, none⟩)] ++ cl2) ++ (cl ++ [pm, pt, .map (some mp), .bool false, .bool la]).drop 19 = _
    rw [List.drop_left' h1, List.append_assoc]
  rw [e] at hst
  obtain ⟨i, hq, hzz⟩ := Option.map_eq_some_iff.1 hi
  have key : ∀ cs : Array Value, cs.size = i.size → (storeCells ⟨bs, 1, none⟩ cs.toList).run Tryz.prog W = .ok () (W.setRow bs (stA bd cl2 pm pt mp la)) → (storeVar 144 ⟨bs, 1, none⟩ (.agg cs)).run Tryz.prog W = .ok () (W.setRow bs (stA bd cl2 pm pt mp la)) := by
    intro cs h1 h2
    simp [storeVar, sizeOf, typeInfo, hq, Value.cells, h1, h2]
  exact key cl2.toArray (by rw [hzz]; simp) hst
theorem ST.set20 {W : World} {bs bd m dd mp : Nat} {pm pt : Value} {la : Bool} (h : ST W bs bd m dd pm pt mp la) (v : Value) : ST (W.setCell ⟨bs, 20, none⟩ v) bs bd m dd v pt mp la := ⟨Joins.block_setCell h.blk (i := 20) v⟩
theorem ST.set21 {W : World} {bs bd m dd mp : Nat} {pm pt : Value} {la : Bool} (h : ST W bs bd m dd pm pt mp la) (v : Value) : ST (W.setCell ⟨bs, 21, none⟩ v) bs bd m dd pm v mp la := ⟨Joins.block_setCell h.blk (i := 21) v⟩
theorem ST.drew {W : World} {bs bd m dd mp : Nat} {pm pt : Value} {la : Bool} (h : ST W bs bd m dd pm pt mp la) : ST W.drew bs bd m dd pm pt mp la := ⟨h.blk⟩
/-- what area answers -/
def AreaAs (W : World) (l : List Nat) (e : Ending) (w' : World) : Prop := ∃ b g0 p0 g1 p1, e = .returned (.tuple #[.pointer (some ⟨b, 0, none⟩), .int .i64 0]) ∧ Hid (C.AX w' b g0 p0 g1 p1 ⟨l, l, 0, 0⟩ ∧ (∀ j, C.foot b g0 g1 j → W.heap.size ≤ j) ∧ Below W.heap.size W w')
section
variable {w0 W : World} {F : Nat → Prop} {bs bd m dd mp n : Nat} {d : RD} {pm pt : Value} {la : Bool}
theorem area_meta (hT : Tabs w0) (hb0 : Below w0.heap.size w0 W) (hd : PD W F bd d) (hf : Fmt d n m dd) (ha : Areas m dd) (hs : 4 * (2 + m + dd) ≤ d.s.length) (h : ST W bs bd m dd pm pt mp la) :
    Calls Tryz.prog 152 #[.pointer (some ⟨bs, 0, none⟩), .int .i64 (m : Int), .slice (some ⟨bs, 4, none⟩) (K.pagesN m) 6] W (AreaAs W (cnt m (pgs m dd))) := by
  have h6 := ha.pgs
  have hm0 := ha.m0
  have hm1 := ha.m1
  have hpn : pgs m dd = K.pagesN m + K.pagesN dd := rfl
  have hh := area_any hT hb0 hd h.c0 (cnt m (pgs m dd)) (by rw [cnt_length]; omega) (fun k hk => by have := cnt_le _ _ k hk; omega) ⟨bs, 4, none⟩ 6 (fun i => i + 1) h.lt (fun i hi => by
    rw [cnt_length] at hi
    refine ⟨by omega, by omega, hf.pm i hi, ?_⟩
    have := stA_page bd m dd pm pt mp la i (by omega)
    rw [pagesTo_in (by omega)] at this
    have e : (⟨bs, 4, none⟩ : Addr).add i = ⟨bs, 4 + i, none⟩ := by
      unfold Addr.add
      simp
    rw [e]
    exact (h.c (4 + i)).trans this)
  rw [cnt_length] at hh
  exact hh.mono fun e w' ⟨b, g0, p0, g1, p1, he, h1, h2, h3⟩ => ⟨b, g0, p0, g1, p1, he, h1, h2, h3⟩
theorem area_data (hT : Tabs w0) (hb0 : Below w0.heap.size w0 W) (hd : PD W F bd d) (hf : Fmt d n m dd) (ha : Areas m dd) (hs : 4 * (2 + m + dd) ≤ d.s.length) (h : ST W bs bd m dd pm pt mp la) :
    Calls Tryz.prog 152 #[.pointer (some ⟨bs, 0, none⟩), .int .i64 (dd : Int), .slice (some ⟨bs, 4 + K.pagesN m, none⟩) (K.pagesN dd) (6 - K.pagesN m)] W (AreaAs W (List.replicate dd 0)) := by
  have h6 := ha.pgs
  have hm0 := ha.m0
  have hd0 := ha.d0
  have hd1 := ha.d1
  have hpn : pgs m dd = K.pagesN m + K.pagesN dd := rfl
  have hh := area_any hT hb0 hd h.c0 (List.replicate dd 0) (by rw [List.length_replicate]; omega) (fun k hk => by rw [(List.mem_replicate.1 hk).2]; omega) ⟨bs, 4 + K.pagesN m, none⟩ (6 - K.pagesN m) (fun i => K.pagesN m + i + 1) h.lt (fun i hi => by
    rw [List.length_replicate] at hi
    refine ⟨by omega, by omega, hf.pd i hi, ?_⟩
    have := stA_page bd m dd pm pt mp la (K.pagesN m + i) (by omega)
    rw [pagesTo_in (by omega)] at this
    have e : (⟨bs, 4 + K.pagesN m, none⟩ : Addr).add i = ⟨bs, 4 + (K.pagesN m + i), none⟩ := by
      unfold Addr.add
      simp [Nat.add_assoc]
    rw [e]
    exact (h.c (4 + (K.pagesN m + i))).trans this)
  rw [List.length_replicate] at hh
  exact hh.mono fun e w' ⟨b, g0, p0, g1, p1, he, h1, h2, h3⟩ => ⟨b, g0, p0, g1, p1, he, h1, h2, h3⟩
end
/-- what load leaves -/
def LDone (W : World) (bs bd m dd mp : Nat) (la : Bool) (e : Ending) (w' : World) : Prop :=
  e = .returned (.int .i64 0) ∧ ∃ bm g0 p0 g1 p1 bt x0 y0 x1 y1, Hid (ST w' bs bd m dd (.pointer (some ⟨bm, 0, none⟩)) (.pointer (some ⟨bt, 0, none⟩)) mp la ∧ C.AX w' bm g0 p0 g1 p1 ⟨cnt m (pgs m dd), cnt m (pgs m dd), 0, 0⟩ ∧ C.AX w' bt x0 y0 x1 y1 ⟨List.replicate dd 0, List.replicate dd 0, 0, 0⟩ ∧ (∀ j, C.foot bm g0 g1 j → W.heap.size ≤ j) ∧ (∀ j, C.foot bt x0 x1 j → W.heap.size ≤ j ∧ ¬ C.foot bm g0 g1 j) ∧ Q.Stays W w' (fun k => k = bs))
def onlyB (bs : Nat) : Nat → Prop := fun k => k = bs
theorem stays_row {W w : World} {bs : Nat} (h : Q.Stays W w (onlyB bs)) (cs : Array Value) : Q.Stays W (w.setRow bs cs) (onlyB bs) :=
  ⟨h.os, h.tape, h.output, by rw [setRow_size]; exact h.size, fun k hk hn => (setRow_other w bs k cs hn).trans (h.block k hk hn)⟩
theorem stays_below {W w w2 : World} {bs : Nat} (h : Q.Stays W w (onlyB bs)) (hb : Below w.heap.size w w2) : Q.Stays W w2 (onlyB bs) := h.trans (Q.Stays.of_below hb (onlyB bs)) (fun _ e => .inl e)
theorem AX.belowM {w w' : World} {b g0 p0 g1 p1 : Nat} {c : C.CS} (h : C.AX w b g0 p0 g1 p1 c) (hb : Below w.heap.size w w') : C.AX w' b g0 p0 g1 p1 c := C.AR.below h hb
theorem AX.lt {w : World} {b g0 p0 g1 p1 : Nat} {c : C.CS} (h : C.AX w b g0 p0 g1 p1 c) {j : Nat} (hj : C.foot b g0 g1 j) : j < w.heap.size := by
  rcases hj with rfl | rfl | rfl
  · exact (Array.getElem?_eq_some_iff.1 h.blk).1
  · obtain ⟨cur, hg, _⟩ := C.row_blk h.now
    exact (Array.getElem?_eq_some_iff.1 hg).1
  · obtain ⟨cur, hg, _⟩ := C.row_blk h.was
    exact (Array.getElem?_eq_some_iff.1 hg).1
theorem AX.keep {w w' : World} {b g0 p0 g1 p1 : Nat} {c : C.CS} {G : Nat → Prop} (h : C.AX w b g0 p0 g1 p1 c) (hs : Q.Stays w w' G) (hn : ∀ j, C.foot b g0 g1 j → ¬ G j) : C.AX w' b g0 p0 g1 p1 c := h.on (fun j hj => hs.block j (AX.lt h hj) (hn j hj))
set_option maxRecDepth 100000 in
set_option maxHeartbeats 8000000 in
theorem load_live {w0 W : World} {F : Nat → Prop} {bs bd m dd mp n : Nat} {d : RD} {la : Bool} (hT : Tabs w0) (hW : Wids w0) (hb0 : Below w0.heap.size w0 W) (hbs0 : w0.heap.size ≤ bs) (hd : PD W F bd d) (hf : Fmt d n m dd) (ha : Areas m dd) (hs : 4 * (2 + m + dd) ≤ d.s.length)
    (h : W.heap[bs]? = some (.cells (stA bd zeroSC.toList (.pointer none) (.pointer none) mp la) 170 (0, 0))) :
    Calls Tryz.prog 84 #[.pointer (some ⟨bs, 0, none⟩)] W (LDone W bs bd m dd mp la) := by
  have hnF : ¬ F bs := fun e => PKind.not h (by decide) (by decide) (hd.kind e)
  have h6 := ha.pgs
  have hm0 := ha.m0
  have hm1 := ha.m1
  have hd0 := ha.d0
  have hd1 := ha.d1
  have hbs : bs < W.heap.size := (Array.getElem?_eq_some_iff.1 h).1
  have HB0 : Hid (∀ w', Q.Stays W w' (onlyB bs) → Below w0.heap.size w0 w') := Lib.hid (fun w' hst => hb0.trans (hst.below hb0.size (fun k hk => by rw [show k = bs from hk]; exact hbs0)))
  have HPD : Hid (∀ w', Q.Stays W w' (onlyB bs) → PD w' F bd d) := Lib.hid (fun w' hst => hd.on (fun k hk => hst.block k (hd.lt hk) (fun e => hnF (by rw [← show k = bs from e]; exact hk))))
  have hl := load_any (hT.below hb0 hT.size) (hW.below hb0 hW.size) hd (by omega)
  rw [hf.load, hf.err] at hl
  have HL := Lib.hid hl
  have HAM : Hid (∀ w' pm pt, Q.Stays W w' (onlyB bs) → ST w' bs bd m dd pm pt mp la → Calls Tryz.prog 152 #[.pointer (some ⟨bs, 0, none⟩), .int .i64 (m : Int), .slice (some ⟨bs, 4, none⟩) (K.pagesN m) 6] w' (AreaAs w' (cnt m (pgs m dd)))) := Lib.hid (fun w' pm pt hst hS => area_meta hT (HB0.out w' hst) (HPD.out w' hst) hf ha hs hS)
  have HAD : Hid (∀ w' pm pt, Q.Stays W w' (onlyB bs) → ST w' bs bd m dd pm pt mp la → Calls Tryz.prog 152 #[.pointer (some ⟨bs, 0, none⟩), .int .i64 (dd : Int), .slice (some ⟨bs, 4 + K.pagesN m, none⟩) (K.pagesN dd) (6 - K.pagesN m)] w' (AreaAs w' (List.replicate dd 0))) := Lib.hid (fun w' pm pt hst hS => area_data hT (HB0.out w' hst) (HPD.out w' hst) hf ha hs hS)
  have HFT : Hid (∀ w', Q.Stays W w' (onlyB bs) → Calls Tryz.prog 75 #[.pointer (some ⟨bd, 0, none⟩), .int .i64 (m : Int), .int .i64 (dd : Int)] w' fun e w2 => e = .returned (.bool true) ∧ Below w'.heap.size w' w2) := Lib.hid (fun w' hst => fits_yes (HPD.out w' hst) (Below.refl _ _) ha hs)
  have HPGS : Hid (∀ w' : World, Calls Tryz.prog 138 #[.int .i64 (m : Int)] w' fun e w2 => e = .returned (.int .i64 ((K.pagesN m : Nat) : Int)) ∧ w2 = w') := Lib.hid (fun w' => by
    have := K.pages_any w' (m : Int) (by omega)
    rwa [Int.toNat_natCast] at this)
  have HPG : Hid (∀ w' pm pt, ST w' bs bd m dd pm pt mp la → Calls Tryz.prog 151 #[.pointer (some ⟨bs, 0, none⟩)] w' fun e w2 => e = .returned (.slice (some ⟨bs, 4, none⟩) (K.pagesN m + K.pagesN dd) 6) ∧ w2 = w'.drew) := Lib.hid (fun w' pm pt hS => pages_at ha hS.c2 hS.c3)
  have HCY : Hid (∀ w' bm g0 p0 g1 p1 pt, ST w' bs bd m dd (.pointer (some ⟨bm, 0, none⟩)) pt mp la → C.AX w' bm g0 p0 g1 p1 ⟨cnt m (pgs m dd), cnt m (pgs m dd), 0, 0⟩ → Calls Tryz.prog 153 #[.pointer (some ⟨bs, 0, none⟩)] w' fun e w2 => e = .returned (.bool true) ∧ Below w'.heap.size w' w2) := Lib.hid (fun w' bm g0 p0 g1 p1 pt hS hm => counted_yes ha hS hm)
  have hc0 : W.cell? ⟨bs, 0, none⟩ = some (.pointer (some ⟨bd, 0, none⟩)) := by rw [Joins.cell_of_block h]; rfl
  have HH := Lib.hid h
  have hzs := sup_zero
  have hst0 := fun w => store_sup w (firstU m dd).cells rfl (cellsS_all _)
  have hsz : (firstU m dd).cells.size = 19 := rfl
  have hu1 : (firstU m dd).cells[1]? = some (.int .i64 (m : Int)) := rfl
  have hu2 : (firstU m dd).cells[2]? = some (.int .i64 (dd : Int)) := rfl
  have hu12 : (firstU m dd).cells[12]? = some (.int .i64 0) := rfl
  have HSI := Lib.hid (sup_info (firstU m dd))
  have HSA := Lib.hid (cellsS_all (firstU m dd))
  have huC : (firstU m dd).cells = (uC m dd).toArray := by simp [uC]
  have HFM := Lib.hid (show K.pagesN m ≤ 2 ∧ K.pagesN m + K.pagesN dd ≤ 6 ∧ 1 ≤ K.pagesN dd from ⟨by unfold K.pagesN; omega, ha.pages, by unfold K.pagesN; omega⟩)
  obtain ⟨cl, hcl⟩ : ∃ cl, uC m dd = cl := ⟨_, rfl⟩
  rw [huC, hcl] at hl hst0 hsz hu1 hu2 hu12 HSI HSA HL
  have HCL := Lib.hid hcl
  have HU := Lib.hid (And.intro hu1 (And.intro hu2 hu12))
  clear hT hW hb0 hd hf ha hs h hl h6 hcl huC hu1 hu2 hu12
  go_enter Tryz.func84, Tryz.ntmps84
  go_wp2_with (first
    | (go_at_call 139; (with_reducible refine HL.out.mono ?_); rintro e w1 ⟨rfl, hb1⟩; have HB1 := Lib.hid hb1; have HX := Lib.hid (heap_alloc_new w1 (.cells cl.toArray 144)); clear hb1)
    | fail)
  have HST2 := Lib.hid (Q.Stays.of_below (HB1.out.alloc HB1.out.size (.cells cl.toArray 144)) (onlyB bs))
  have HBQ : Hid (W.heap.size ≤ w1.heap.size) := HB1.out.size
  obtain ⟨w2, hw2⟩ : ∃ w2, w1.alloc (.cells cl.toArray 144) = w2 := ⟨_, rfl⟩
  rw [hw2] at HX HST2 ⊢
  have H2 : Hid (w2.heap[bs]? = some (.cells (stA bd zeroSC.toList (.pointer none) (.pointer none) mp la) 170 (0, 0))) := Lib.hid (by
    rw [← hw2]
    exact ((HB1.out.alloc HB1.out.size _).block bs hbs).trans HH.out)
  obtain ⟨bq, hbq⟩ : ∃ x, w1.heap.size = x := ⟨_, rfl⟩
  rw [hbq] at HX HBQ ⊢
  clear hw2 hbq HB1 hst0
  have HBB : Hid (bq ≠ bs) := Lib.hid (by have := HBQ.out; omega)
  have hq0 : w2.drew.cell? ⟨bs, 0, none⟩ = some (.pointer (some ⟨bd, 0, none⟩)) := by
    show w2.cell? _ = _
    rw [Joins.cell_of_block H2.out]; rfl
  have hq1 : w2.drew.cell? ⟨bq, 1, none⟩ = some (.int .i64 (m : Int)) := by
    show w2.cell? _ = _
    rw [Joins.cell_of_block HX.out]; exact HU.out.1
  have hq2 : w2.drew.cell? ⟨bq, 2, none⟩ = some (.int .i64 (dd : Int)) := by
    show w2.cell? _ = _
    rw [Joins.cell_of_block HX.out]; exact HU.out.2.1
  have HFT2 := Lib.hid (HFT.out w2.drew (stays_below HST2.out ((Below.refl _ w2).drew)))
  have HBL : Hid (bs < w2.drew.heap.size ∧ bq < w2.drew.heap.size) := Lib.hid ⟨(Array.getElem?_eq_some_iff.1 H2.out).1, (Array.getElem?_eq_some_iff.1 HX.out).1⟩
  refine wp_region_noPanic ?_
  refine wp_region_held_drew (S := fun w' => w'.cell? ⟨bs, 0, none⟩ = some (.pointer (some ⟨bd, 0, none⟩)) ∧ w'.cell? ⟨bq, 1, none⟩ = some (.int .i64 (m : Int)) ∧ w'.cell? ⟨bq, 2, none⟩ = some (.int .i64 (dd : Int))) (by kernel_rfl) ⟨hq0, hq1, hq2⟩ (fun hHeld => ?_)
  refine takeN (i := 0) (oi := _) (v := .pointer (some ⟨bs, 0, none⟩)) 18 rfl rfl (by kernel_rfl) (by kernel_rfl) (by kernel_rfl) (fun _ _ _ h => h) (Or.inl ⟨by rfl, fun w2 hSw => by go_simp⟩) hHeld ?_
  try simp only [Act.put, List.setIfInBounds_toArray, List.set_cons_zero, List.set_cons_succ]
  refine takeN (i := 1) (oi := _) (v := .pointer (some ⟨bs, 0, none⟩)) 19 rfl rfl (by kernel_rfl) (by kernel_rfl) (by kernel_rfl) (fun _ _ _ h => h) (Or.inl ⟨by rfl, fun w2 hSw => by go_simp⟩) hHeld ?_
  try simp only [Act.put, List.setIfInBounds_toArray, List.set_cons_zero, List.set_cons_succ]
  refine takeN (i := 2) (oi := _) (v := .pointer (some ⟨bs, 0, none⟩)) 20 rfl rfl (by kernel_rfl) (by kernel_rfl) (by kernel_rfl) (fun _ _ _ h => h) (Or.inl ⟨by rfl, fun w2 hSw => by go_simp⟩) hHeld ?_
  try simp only [Act.put, List.setIfInBounds_toArray, List.set_cons_zero, List.set_cons_succ]
  refine takeN (i := 3) (oi := _) (v := .pointer (some ⟨bd, 0, none⟩)) 21 rfl rfl (by kernel_rfl) (by kernel_rfl) (by kernel_rfl) (fun _ _ _ h => h) (Or.inl ⟨by rfl, fun w2 hSw => by (have hc := hSw.1; go_simp)⟩) hHeld ?_
  try simp only [Act.put, List.setIfInBounds_toArray, List.set_cons_zero, List.set_cons_succ]
  refine takeN (i := 4) (oi := _) (v := .pointer (some ⟨bq, 1, none⟩)) 22 rfl rfl (by kernel_rfl) (by kernel_rfl) (by kernel_rfl) (fun _ _ _ h => h) (Or.inl ⟨by rfl, fun w2 hSw => by go_simp⟩) hHeld ?_
  try simp only [Act.put, List.setIfInBounds_toArray, List.set_cons_zero, List.set_cons_succ]
  refine takeN (i := 5) (oi := _) (v := .int .i64 (m : Int)) 23 rfl rfl (by kernel_rfl) (by kernel_rfl) (by kernel_rfl) (fun _ _ _ h => h) (Or.inl ⟨by rfl, fun w2 hSw => by (have hc := hSw.2.1; go_simp)⟩) hHeld ?_
  try simp only [Act.put, List.setIfInBounds_toArray, List.set_cons_zero, List.set_cons_succ]
  refine takeN (i := 6) (oi := _) (v := .pointer (some ⟨bq, 2, none⟩)) 24 rfl rfl (by kernel_rfl) (by kernel_rfl) (by kernel_rfl) (fun _ _ _ h => h) (Or.inl ⟨by rfl, fun w2 hSw => by go_simp⟩) hHeld ?_
  try simp only [Act.put, List.setIfInBounds_toArray, List.set_cons_zero, List.set_cons_succ]
  refine takeN (i := 7) (oi := _) (v := .int .i64 (dd : Int)) 25 rfl rfl (by kernel_rfl) (by kernel_rfl) (by kernel_rfl) (fun _ _ _ h => h) (Or.inl ⟨by rfl, fun w2 hSw => by (have hc := hSw.2.2; go_simp)⟩) hHeld ?_
  try simp only [Act.put, List.setIfInBounds_toArray, List.set_cons_zero, List.set_cons_succ]
  refine wpAnyH_ready (rs := [8]) (by kernel_rfl) (by simp) ?_
  refine AllReadyH.cons rfl (fun K hK => ?_) AllReadyH.nil
  go_simp
  go_wp2_with (first
    | (go_at_call 75; (with_reducible refine HFT2.out.mono ?_); rintro e w3 ⟨rfl, hb3⟩)
    | fail)
  have HB3 := Lib.hid hb3
  clear hb3
  refine hK.out _ _ ⟨(HB3.out.cell (p := ⟨bs, 0, none⟩) HBL.out.1).trans hq0, (HB3.out.cell (p := ⟨bq, 1, none⟩) HBL.out.2).trans hq1, (HB3.out.cell (p := ⟨bq, 2, none⟩) HBL.out.2).trans hq2⟩ (fun hHeld => ?_)
  clear hK K
  try simp only [Act.put, List.setIfInBounds_toArray, List.set_cons_zero, List.set_cons_succ]
  refine takeN (i := 9) (oi := _) (v := .bool false) 27 rfl rfl (by kernel_rfl) (by kernel_rfl) (by kernel_rfl) (fun _ _ _ h => h) (Or.inl ⟨by rfl, fun w2 hSw => by go_simp⟩) hHeld ?_
  try simp only [Act.put, List.setIfInBounds_toArray, List.set_cons_zero, List.set_cons_succ]
  refine wpAnyH_done (by kernel_rfl) ?_ _
  refine NoPanic.normal ?_
  have H3 : Hid (w3.heap[bs]? = some (.cells (stA bd zeroSC.toList (.pointer none) (.pointer none) mp la) 170 (0, 0))) := Lib.hid ((HB3.out.block bs HBL.out.1).trans H2.out)
  have HX3 : Hid (w3.heap[bq]? = some (.cells cl.toArray 144 (0, 0))) := Lib.hid ((HB3.out.block bq HBL.out.2).trans HX.out)
  have HST3 := Lib.hid (stays_below (stays_below HST2.out ((Below.refl _ w2).drew)) HB3.out)
  have hcl19 : cl.length = 19 := by simpa using hsz
  have HSTO := Lib.hid (store_last (cl2 := cl) H3.out (by rfl) hcl19 (fun v hv => (Array.all_eq_true_iff_forall_mem.1 HSA.out) v (by simpa using hv)) (by have := HSI.out; rw [List.size_toArray] at this; exact this))
  have HSI2 := Lib.hid (show (Tryz.prog.info? 144).map (·.size) = some cl.length by have := HSI.out; rw [List.size_toArray] at this; exact this)
  clear hq0 hq1 hq2 hHeld hcl19
  go_upto_region 7 with (first
    | (refine wpList_load_mid rfl 144 (.tmp 3) rfl bq 0 rfl cl _ ?hcl Tryz.underlying144 rfl ?hil ?_; (case hcl => have := range_of HX3.out; exact this); (case hil => exact HSI2.out))
    | (refine wpList_store_run rfl 144 (.tmp 31) (.tmp 29) rfl bs 1 (.agg cl.toArray) _ rfl rfl HSTO.out ?_)
    | fail)
  simp only [Act.put]
  have HS4 : Hid (ST (w3.setRow bs (stA bd cl (.pointer none) (.pointer none) mp la)) bs bd m dd (.pointer none) (.pointer none) mp la) := Lib.hid ⟨by rw [HCL.out]; exact setRow_at H3.out⟩
  have HX4 : Hid ((w3.setRow bs (stA bd cl (.pointer none) (.pointer none) mp la)).heap[bq]? = some (.cells cl.toArray 144 (0, 0))) := Lib.hid ((setRow_other w3 bs bq _ HBB.out).trans HX3.out)
  have HST4 := Lib.hid (stays_row HST3.out (stA bd cl (.pointer none) (.pointer none) mp la))
  obtain ⟨w4, hw4⟩ : ∃ w4, w3.setRow bs (stA bd cl (.pointer none) (.pointer none) mp la) = w4 := ⟨_, rfl⟩
  rw [hw4] at HS4 HX4 HST4 ⊢
  clear hw4 HSTO H3 HX3 HST3 HB3 HBL HFT2 HX H2 HST2
  have HPG4 := Lib.hid (HPG.out w4 _ _ HS4.out)
  have hq1 : w4.drew.cell? ⟨bq, 1, none⟩ = some (.int .i64 (m : Int)) := by
    show w4.cell? _ = _
    rw [Joins.cell_of_block HX4.out]; exact HU.out.1
  have hfmI : ((K.pagesN m : Nat) : Int) ≤ 2 := by have := HFM.out.1; omega
  have hpnI : ((K.pagesN m : Nat) : Int) ≤ ((K.pagesN m + K.pagesN dd : Nat) : Int) := by omega
  have hp6I : ((K.pagesN m + K.pagesN dd : Nat) : Int) ≤ 6 := by have := HFM.out.2.1; omega
  obtain ⟨pn, hpn⟩ : ∃ x, K.pagesN m + K.pagesN dd = x := ⟨_, rfl⟩
  rw [hpn] at HPG4 hpnI hp6I
  have HPN := Lib.hid hpn
  clear hpn
  have HAM4 := Lib.hid (HAM.out w4.drew.drew _ _ (stays_below HST4.out ((Below.refl _ w4).drew.drew)) HS4.out.drew.drew)
  obtain ⟨fm, hfm⟩ : ∃ x, K.pagesN m = x := ⟨_, rfl⟩
  rw [hfm] at hfmI hpnI HPGS HAM4
  have HFMM := Lib.hid hfm
  clear hfm
  have hfm6 : ¬ (6 : Int) < (fm : Int) := by omega
  have hfmn : ¬ 6 = fm := by omega
  have hfmp : ¬ (pn : Int) < (fm : Int) := by omega
  go_wp2_with (first
    | (go_at_call 151; (with_reducible refine HPG4.out.mono ?_); rintro e wp ⟨rfl, hwp⟩; subst wp)
    | (go_at_call 138; (with_reducible refine (HPGS.out _).mono ?_); rintro e wp ⟨rfl, hwp⟩; subst wp)
    | fail)
  refine wp_region_noPanic ?_
  refine wp_region_held_drew (S := fun w' => w'.cell? ⟨bq, 1, none⟩ = some (.int .i64 (m : Int))) (by kernel_rfl) hq1 (fun hHeld => ?_)
  refine takeN (i := 0) (oi := _) (v := .pointer (some ⟨bs, 0, none⟩)) 38 rfl rfl (by kernel_rfl) (by kernel_rfl) (by kernel_rfl) (fun _ _ _ h => h) (Or.inl ⟨by rfl, fun w2 hSw => by go_simp⟩) hHeld ?_
  try simp only [Act.put, List.setIfInBounds_toArray, List.set_cons_zero, List.set_cons_succ]
  refine takeN (i := 1) (oi := _) (v := .pointer (some ⟨bs, 0, none⟩)) 39 rfl rfl (by kernel_rfl) (by kernel_rfl) (by kernel_rfl) (fun _ _ _ h => h) (Or.inl ⟨by rfl, fun w2 hSw => by go_simp⟩) hHeld ?_
  try simp only [Act.put, List.setIfInBounds_toArray, List.set_cons_zero, List.set_cons_succ]
  refine takeN (i := 2) (oi := _) (v := .pointer (some ⟨bq, 1, none⟩)) 40 rfl rfl (by kernel_rfl) (by kernel_rfl) (by kernel_rfl) (fun _ _ _ h => h) (Or.inl ⟨by rfl, fun w2 hSw => by go_simp⟩) hHeld ?_
  try simp only [Act.put, List.setIfInBounds_toArray, List.set_cons_zero, List.set_cons_succ]
  refine takeN (i := 3) (oi := _) (v := .int .i64 (m : Int)) 41 rfl rfl (by kernel_rfl) (by kernel_rfl) (by kernel_rfl) (fun _ _ _ h => h) (Or.inl ⟨by rfl, fun w2 hSw => by (have hc := hSw; go_simp)⟩) hHeld ?_
  try simp only [Act.put, List.setIfInBounds_toArray, List.set_cons_zero, List.set_cons_succ]
  refine takeN (i := 4) (oi := _) (v := .slice (some ⟨bs, 4, none⟩) pn 6) 42 rfl rfl (by kernel_rfl) (by kernel_rfl) (by kernel_rfl) (fun _ _ _ h => h) (Or.inl ⟨by rfl, fun w2 hSw => by go_simp⟩) hHeld ?_
  try simp only [Act.put, List.setIfInBounds_toArray, List.set_cons_zero, List.set_cons_succ]
  refine takeN (i := 5) (oi := _) (v := .int .i64 (fm : Int)) 43 rfl rfl (by kernel_rfl) (by kernel_rfl) (by kernel_rfl) (fun _ _ _ h => h) (Or.inl ⟨by rfl, fun w2 hSw => by go_simp⟩) hHeld ?_
  try simp only [Act.put, List.setIfInBounds_toArray, List.set_cons_zero, List.set_cons_succ]
  refine takeN (i := 6) (oi := _) (v := .slice (some ⟨bs, 4, none⟩) fm 6) 44 rfl rfl (by kernel_rfl) (by kernel_rfl) (by kernel_rfl) (fun _ _ _ h => h) (Or.inl ⟨by rfl, fun w2 hSw => by go_simp⟩) hHeld ?_
  try simp only [Act.put, List.setIfInBounds_toArray, List.set_cons_zero, List.set_cons_succ]
  refine wpAnyH_ready (rs := [7]) (by kernel_rfl) (by simp) ?_
  refine AllReadyH.cons rfl (fun K hK => ?_) AllReadyH.nil
  go_simp
  go_wp2_with (first
    | (go_at_call 152; (with_reducible refine HAM4.out.mono ?_); rintro e w5 ⟨bm, g0, p0, g1, p1, rfl, hA5⟩)
    | fail)
  have HS5 := Lib.hid (HS4.out.drew.drew.below hA5.out.2.2)
  have HX5 : Hid (w5.heap[bq]? = some (.cells cl.toArray 144 (0, 0))) := Lib.hid ((hA5.out.2.2.block bq (Array.getElem?_eq_some_iff.1 HX4.out).1).trans HX4.out)
  have HST5 := Lib.hid (stays_below (stays_below HST4.out ((Below.refl _ w4).drew.drew)) hA5.out.2.2)
  have HBF : Hid (∀ j, C.foot bm g0 g1 j → W.heap.size ≤ j) := Lib.hid (fun j hj => Nat.le_trans HST4.out.size (hA5.out.2.1 j hj))
  have HAX5 := Lib.hid hA5.out.1
  have hq5 : w5.cell? ⟨bq, 1, none⟩ = some (.int .i64 (m : Int)) := by rw [Joins.cell_of_block HX5.out]; exact HU.out.1
  clear hA5 HAM4
  refine hK.out _ _ hq5 (fun hHeld => ?_)
  clear hK K
  try simp only [Act.put, List.setIfInBounds_toArray, List.set_cons_zero, List.set_cons_succ]
  refine takeN (i := 8) (oi := _) (v := .tuple #[.pointer (some ⟨bm, 0, none⟩), .int .i64 0]) 37 rfl rfl (by kernel_rfl) (by kernel_rfl) (by kernel_rfl) (fun _ _ _ h => h) (Or.inl ⟨by rfl, fun w2 hSw => by go_simp⟩) hHeld ?_
  try simp only [Act.put, List.setIfInBounds_toArray, List.set_cons_zero, List.set_cons_succ]
  refine takeN (i := 9) (oi := _) (v := .pointer (some ⟨bm, 0, none⟩)) 46 rfl rfl (by kernel_rfl) (by kernel_rfl) (by kernel_rfl) (fun _ _ _ h => h) (Or.inl ⟨by rfl, fun w2 hSw => by go_simp⟩) hHeld ?_
  try simp only [Act.put, List.setIfInBounds_toArray, List.set_cons_zero, List.set_cons_succ]
  refine takeN (i := 10) (oi := _) (v := .int .i64 0) 47 rfl rfl (by kernel_rfl) (by kernel_rfl) (by kernel_rfl) (fun _ _ _ h => h) (Or.inl ⟨by rfl, fun w2 hSw => by go_simp⟩) hHeld ?_
  try simp only [Act.put, List.setIfInBounds_toArray, List.set_cons_zero, List.set_cons_succ]
  refine takeN (i := 11) (oi := _) (v := .pointer (some ⟨bs, 0, none⟩)) 48 rfl rfl (by kernel_rfl) (by kernel_rfl) (by kernel_rfl) (fun _ _ _ h => h) (Or.inl ⟨by rfl, fun w2 hSw => by go_simp⟩) hHeld ?_
  try simp only [Act.put, List.setIfInBounds_toArray, List.set_cons_zero, List.set_cons_succ]
  refine takeN (i := 12) (oi := _) (v := .pointer (some ⟨bs, 20, none⟩)) 49 rfl rfl (by kernel_rfl) (by kernel_rfl) (by kernel_rfl) (fun _ _ _ h => h) (Or.inl ⟨by rfl, fun w2 hSw => by go_simp⟩) hHeld ?_
  try simp only [Act.put, List.setIfInBounds_toArray, List.set_cons_zero, List.set_cons_succ]
  have hc20 := HS5.out.c20
  have hf20 := frozen_of_row w5 bs 20 _ _ HS5.out.blk
  refine wpAnyH_ready (rs := [13]) (by kernel_rfl) (by simp) ?_
  refine AllReadyH.cons rfl (fun K hK => ?_) AllReadyH.nil
  go_simp
  have HS6 := Lib.hid (HS5.out.set20 (.pointer (some ⟨bm, 0, none⟩)))
  have HX6 : Hid ((w5.setCell ⟨bs, 20, none⟩ (.pointer (some ⟨bm, 0, none⟩))).heap[bq]? = some (.cells cl.toArray 144 (0, 0))) := Lib.hid ((Below.heap_setCell _ _ _ bq HBB.out).trans HX5.out)
  have HST6 := Lib.hid (HST5.out.set ⟨bs, 20, none⟩ (.inl rfl) (.pointer (some ⟨bm, 0, none⟩)))
  have HAX6 := Lib.hid (AX.keep HAX5.out ((Q.Stays.refl w5 (onlyB bs)).set ⟨bs, 20, none⟩ (.inl rfl) (.pointer (some ⟨bm, 0, none⟩))) (fun j hj e => by have := HBF.out j hj; rw [show j = bs from e] at this; omega))
  refine hK.out _ _ (by rw [Joins.cell_of_block HX6.out]; exact HU.out.1) (fun hHeld => ?_)
  clear hK K hc20 hf20 hq5 hq1 HAX5 HST5 HX5 HS5
  try simp only [Act.put, List.setIfInBounds_toArray, List.set_cons_zero, List.set_cons_succ]
  refine takeN (i := 14) (oi := _) (v := .int .i64 0) 4 rfl rfl (by kernel_rfl) (by kernel_rfl) (by kernel_rfl) (fun _ _ _ h => h) (Or.inl ⟨by rfl, fun w2 hSw => by go_simp⟩) hHeld ?_
  try simp only [Act.put, List.setIfInBounds_toArray, List.set_cons_zero, List.set_cons_succ]
  refine wpAnyH_done (by kernel_rfl) ?_ _
  refine NoPanic.normal ?_
  obtain ⟨w6, hw6⟩ : ∃ w6, w5.setCell ⟨bs, 20, none⟩ (.pointer (some ⟨bm, 0, none⟩)) = w6 := ⟨_, rfl⟩
  rw [hw6] at HS6 HX6 HST6 HAX6 hHeld ⊢
  clear hw6
  go_wp2
  have hed : K.pagesN dd = pn - fm := by have := HPN.out; have := HFMM.out; omega
  have had := HAD.out w6.drew _ _ (stays_below HST6.out ((Below.refl _ w6).drew)) HS6.out.drew
  rw [hed, HFMM.out] at had
  have HAD6 := Lib.hid had
  clear had hed hHeld
  have hq2 : w6.drew.cell? ⟨bq, 2, none⟩ = some (.int .i64 (dd : Int)) := by
    show w6.cell? _ = _
    rw [Joins.cell_of_block HX6.out]; exact HU.out.2.1
  refine wp_region_noPanic ?_
  refine wp_region_held_drew (S := fun w' => w'.cell? ⟨bq, 2, none⟩ = some (.int .i64 (dd : Int))) (by kernel_rfl) hq2 (fun hHeld => ?_)
  refine takeN (i := 0) (oi := _) (v := .pointer (some ⟨bs, 0, none⟩)) 54 rfl rfl (by kernel_rfl) (by kernel_rfl) (by kernel_rfl) (fun _ _ _ h => h) (Or.inl ⟨by rfl, fun w2 hSw => by go_simp⟩) hHeld ?_
  try simp only [Act.put, List.setIfInBounds_toArray, List.set_cons_zero, List.set_cons_succ]
  refine takeN (i := 1) (oi := _) (v := .pointer (some ⟨bs, 0, none⟩)) 55 rfl rfl (by kernel_rfl) (by kernel_rfl) (by kernel_rfl) (fun _ _ _ h => h) (Or.inl ⟨by rfl, fun w2 hSw => by go_simp⟩) hHeld ?_
  try simp only [Act.put, List.setIfInBounds_toArray, List.set_cons_zero, List.set_cons_succ]
  refine takeN (i := 2) (oi := _) (v := .pointer (some ⟨bq, 2, none⟩)) 56 rfl rfl (by kernel_rfl) (by kernel_rfl) (by kernel_rfl) (fun _ _ _ h => h) (Or.inl ⟨by rfl, fun w2 hSw => by go_simp⟩) hHeld ?_
  try simp only [Act.put, List.setIfInBounds_toArray, List.set_cons_zero, List.set_cons_succ]
  refine takeN (i := 3) (oi := _) (v := .int .i64 (dd : Int)) 57 rfl rfl (by kernel_rfl) (by kernel_rfl) (by kernel_rfl) (fun _ _ _ h => h) (Or.inl ⟨by rfl, fun w2 hSw => by (have hc := hSw; go_simp)⟩) hHeld ?_
  try simp only [Act.put, List.setIfInBounds_toArray, List.set_cons_zero, List.set_cons_succ]
  refine takeN (i := 4) (oi := _) (v := .slice (some ⟨bs, 4, none⟩) pn 6) 58 rfl rfl (by kernel_rfl) (by kernel_rfl) (by kernel_rfl) (fun _ _ _ h => h) (Or.inl ⟨by rfl, fun w2 hSw => by go_simp⟩) hHeld ?_
  try simp only [Act.put, List.setIfInBounds_toArray, List.set_cons_zero, List.set_cons_succ]
  refine takeN (i := 5) (oi := _) (v := .int .i64 (fm : Int)) 59 rfl rfl (by kernel_rfl) (by kernel_rfl) (by kernel_rfl) (fun _ _ _ h => h) (Or.inl ⟨by rfl, fun w2 hSw => by go_simp⟩) hHeld ?_
  try simp only [Act.put, List.setIfInBounds_toArray, List.set_cons_zero, List.set_cons_succ]
  refine takeN (i := 6) (oi := _) (v := .slice (some ⟨bs, 4 + fm, none⟩) (pn - fm) (6 - fm)) 60 rfl rfl (by kernel_rfl) (by kernel_rfl) (by kernel_rfl) (fun _ _ _ h => h) (Or.inl ⟨by rfl, fun w2 hSw => by go_simp⟩) hHeld ?_
  try simp only [Act.put, List.setIfInBounds_toArray, List.set_cons_zero, List.set_cons_succ]
  refine wpAnyH_ready (rs := [7]) (by kernel_rfl) (by simp) ?_
  refine AllReadyH.cons rfl (fun K hK => ?_) AllReadyH.nil
  go_simp
  go_wp2_with (first
    | (go_at_call 152; (with_reducible refine HAD6.out.mono ?_); rintro e w7 ⟨bt, x0, y0, x1, y1, rfl, hA7⟩)
    | fail)
  have HS7 := Lib.hid (HS6.out.drew.below hA7.out.2.2)
  have HX7 : Hid (w7.heap[bq]? = some (.cells cl.toArray 144 (0, 0))) := Lib.hid ((hA7.out.2.2.block bq (Array.getElem?_eq_some_iff.1 HX6.out).1).trans HX6.out)
  have HST7 := Lib.hid (stays_below (stays_below HST6.out ((Below.refl _ w6).drew)) hA7.out.2.2)
  have HTF : Hid (∀ j, C.foot bt x0 x1 j → w6.heap.size ≤ j) := Lib.hid hA7.out.2.1
  have HAT7 := Lib.hid hA7.out.1
  have HAX7 := Lib.hid (AX.belowM HAX6.out (((Below.refl w6.heap.size w6).drew).trans hA7.out.2.2))
  have HLB : Hid (bs < w6.heap.size ∧ bq < w6.heap.size ∧ ∀ j, C.foot bm g0 g1 j → j < w6.heap.size) := Lib.hid ⟨HS6.out.lt, (Array.getElem?_eq_some_iff.1 HX6.out).1, fun j hj => AX.lt HAX6.out hj⟩
  have HWS6 : Hid (W.heap.size ≤ w6.heap.size) := Lib.hid HST6.out.size
  have hq7 : w7.cell? ⟨bq, 2, none⟩ = some (.int .i64 (dd : Int)) := by rw [Joins.cell_of_block HX7.out]; exact HU.out.2.1
  clear hA7 HAD6
  refine hK.out _ _ hq7 (fun hHeld => ?_)
  clear hK K
  try simp only [Act.put, List.setIfInBounds_toArray, List.set_cons_zero, List.set_cons_succ]
  refine takeN (i := 8) (oi := _) (v := .tuple #[.pointer (some ⟨bt, 0, none⟩), .int .i64 0]) 53 rfl rfl (by kernel_rfl) (by kernel_rfl) (by kernel_rfl) (fun _ _ _ h => h) (Or.inl ⟨by rfl, fun w2 hSw => by go_simp⟩) hHeld ?_
  try simp only [Act.put, List.setIfInBounds_toArray, List.set_cons_zero, List.set_cons_succ]
  refine takeN (i := 9) (oi := _) (v := .pointer (some ⟨bt, 0, none⟩)) 62 rfl rfl (by kernel_rfl) (by kernel_rfl) (by kernel_rfl) (fun _ _ _ h => h) (Or.inl ⟨by rfl, fun w2 hSw => by go_simp⟩) hHeld ?_
  try simp only [Act.put, List.setIfInBounds_toArray, List.set_cons_zero, List.set_cons_succ]
  refine takeN (i := 10) (oi := _) (v := .int .i64 0) 63 rfl rfl (by kernel_rfl) (by kernel_rfl) (by kernel_rfl) (fun _ _ _ h => h) (Or.inl ⟨by rfl, fun w2 hSw => by go_simp⟩) hHeld ?_
  try simp only [Act.put, List.setIfInBounds_toArray, List.set_cons_zero, List.set_cons_succ]
  refine takeN (i := 11) (oi := _) (v := .pointer (some ⟨bs, 0, none⟩)) 64 rfl rfl (by kernel_rfl) (by kernel_rfl) (by kernel_rfl) (fun _ _ _ h => h) (Or.inl ⟨by rfl, fun w2 hSw => by go_simp⟩) hHeld ?_
  try simp only [Act.put, List.setIfInBounds_toArray, List.set_cons_zero, List.set_cons_succ]
  refine takeN (i := 12) (oi := _) (v := .pointer (some ⟨bs, 21, none⟩)) 65 rfl rfl (by kernel_rfl) (by kernel_rfl) (by kernel_rfl) (fun _ _ _ h => h) (Or.inl ⟨by rfl, fun w2 hSw => by go_simp⟩) hHeld ?_
  try simp only [Act.put, List.setIfInBounds_toArray, List.set_cons_zero, List.set_cons_succ]
  have hc21 := HS7.out.c21
  have hf21 := frozen_of_row w7 bs 21 _ _ HS7.out.blk
  refine wpAnyH_ready (rs := [13]) (by kernel_rfl) (by simp) ?_
  refine AllReadyH.cons rfl (fun K hK => ?_) AllReadyH.nil
  go_simp
  have HS8 := Lib.hid (HS7.out.set21 (.pointer (some ⟨bt, 0, none⟩)))
  have HX8 : Hid ((w7.setCell ⟨bs, 21, none⟩ (.pointer (some ⟨bt, 0, none⟩))).heap[bq]? = some (.cells cl.toArray 144 (0, 0))) := Lib.hid ((Below.heap_setCell _ _ _ bq HBB.out).trans HX7.out)
  have HST8 := Lib.hid (HST7.out.set ⟨bs, 21, none⟩ (.inl rfl) (.pointer (some ⟨bt, 0, none⟩)))
  have HSX := Lib.hid ((Q.Stays.refl w7 (onlyB bs)).set ⟨bs, 21, none⟩ (.inl rfl) (.pointer (some ⟨bt, 0, none⟩)))
  have HAX8 := Lib.hid (AX.keep HAX7.out HSX.out (fun j hj e => by have := HBF.out j hj; rw [show j = bs from e] at this; omega))
  have HAT8 := Lib.hid (AX.keep HAT7.out HSX.out (fun j hj e => by have := HTF.out j hj; have := HLB.out.1; rw [show j = bs from e] at *; omega))
  refine hK.out _ _ (by rw [Joins.cell_of_block HX8.out]; exact HU.out.2.1) (fun hHeld => ?_)
  clear hK K hc21 hf21 hq7 hq2 HAX7 HAT7 HST7 HX7 HS7 HSX
  try simp only [Act.put, List.setIfInBounds_toArray, List.set_cons_zero, List.set_cons_succ]
  refine takeN (i := 14) (oi := _) (v := .int .i64 0) 4 rfl rfl (by kernel_rfl) (by kernel_rfl) (by kernel_rfl) (fun _ _ _ h => h) (Or.inl ⟨by rfl, fun w2 hSw => by go_simp⟩) hHeld ?_
  try simp only [Act.put, List.setIfInBounds_toArray, List.set_cons_zero, List.set_cons_succ]
  refine wpAnyH_done (by kernel_rfl) ?_ _
  refine NoPanic.normal ?_
  obtain ⟨w8, hw8⟩ : ∃ w8, w7.setCell ⟨bs, 21, none⟩ (.pointer (some ⟨bt, 0, none⟩)) = w8 := ⟨_, rfl⟩
  rw [hw8] at HS8 HX8 HST8 HAX8 HAT8 hHeld ⊢
  clear hw8 hHeld
  have HCO := Lib.hid (HCY.out w8 bm g0 p0 g1 p1 _ HS8.out HAX8.out)
  go_wp2_with (first
    | (go_at_call 153; (with_reducible refine HCO.out.mono ?_); rintro e w9 ⟨rfl, hb9⟩; have HB9 := Lib.hid hb9; clear hb9)
    | fail)
  have hbd9 := HB9.out.drew
  have HS9 := Lib.hid (HS8.out.below hbd9)
  have HX9 : Hid (w9.drew.heap[bq]? = some (.cells cl.toArray 144 (0, 0))) := Lib.hid ((hbd9.block bq (Array.getElem?_eq_some_iff.1 HX8.out).1).trans HX8.out)
  have HST9 := Lib.hid (stays_below HST8.out hbd9)
  have HAX9 := Lib.hid (AX.belowM HAX8.out hbd9)
  have HAT9 := Lib.hid (AX.belowM HAT8.out hbd9)
  have HSE : Hid (Calls Tryz.prog 154 #[.pointer (some ⟨bt, 0, none⟩), .int .i64 0] w9.drew fun e w' => e = .returned (.int .i64 0) ∧ C.AX w' bt x0 y0 x1 y1 ⟨List.replicate dd 0, List.replicate dd 0, 0, 0⟩ ∧ C.Stays w9.drew w' (C.foot bt x0 x1)) := Lib.hid (C.set_any w9.drew bt x0 y0 x1 y1 _ HAT9.out 0 (by rw [List.length_replicate]; omega))
  have hs21 := HS9.out.c21
  have hs12 : w9.drew.cell? ⟨bq, 12, none⟩ = some (.int .i64 0) := by rw [Joins.cell_of_block HX9.out]; exact HU.out.2.2
  clear hbd9
  refine wp_region_noPanic ?_
  refine wp_region_held_drew (S := fun w' => w'.cell? ⟨bs, 21, none⟩ = some (.pointer (some ⟨bt, 0, none⟩)) ∧ w'.cell? ⟨bq, 12, none⟩ = some (.int .i64 0)) (by kernel_rfl) ⟨hs21, hs12⟩ (fun hHeld => ?_)
  refine takeN (i := 0) (oi := _) (v := .pointer (some ⟨bs, 0, none⟩)) 72 rfl rfl (by kernel_rfl) (by kernel_rfl) (by kernel_rfl) (fun _ _ _ h => h) (Or.inl ⟨by rfl, fun w2 hSw => by go_simp⟩) hHeld ?_
  try simp only [Act.put, List.setIfInBounds_toArray, List.set_cons_zero, List.set_cons_succ]
  refine takeN (i := 1) (oi := _) (v := .pointer (some ⟨bs, 0, none⟩)) 73 rfl rfl (by kernel_rfl) (by kernel_rfl) (by kernel_rfl) (fun _ _ _ h => h) (Or.inl ⟨by rfl, fun w2 hSw => by go_simp⟩) hHeld ?_
  try simp only [Act.put, List.setIfInBounds_toArray, List.set_cons_zero, List.set_cons_succ]
  refine takeN (i := 2) (oi := _) (v := .pointer (some ⟨bs, 21, none⟩)) 74 rfl rfl (by kernel_rfl) (by kernel_rfl) (by kernel_rfl) (fun _ _ _ h => h) (Or.inl ⟨by rfl, fun w2 hSw => by go_simp⟩) hHeld ?_
  try simp only [Act.put, List.setIfInBounds_toArray, List.set_cons_zero, List.set_cons_succ]
  refine takeN (i := 3) (oi := _) (v := .pointer (some ⟨bt, 0, none⟩)) 75 rfl rfl (by kernel_rfl) (by kernel_rfl) (by kernel_rfl) (fun _ _ _ h => h) (Or.inl ⟨by rfl, fun w2 hSw => by (have hc := hSw.1; go_simp)⟩) hHeld ?_
  try simp only [Act.put, List.setIfInBounds_toArray, List.set_cons_zero, List.set_cons_succ]
  refine takeN (i := 4) (oi := _) (v := .pointer (some ⟨bq, 12, none⟩)) 76 rfl rfl (by kernel_rfl) (by kernel_rfl) (by kernel_rfl) (fun _ _ _ h => h) (Or.inl ⟨by rfl, fun w2 hSw => by go_simp⟩) hHeld ?_
  try simp only [Act.put, List.setIfInBounds_toArray, List.set_cons_zero, List.set_cons_succ]
  refine takeN (i := 5) (oi := _) (v := .int .i64 0) 77 rfl rfl (by kernel_rfl) (by kernel_rfl) (by kernel_rfl) (fun _ _ _ h => h) (Or.inl ⟨by rfl, fun w2 hSw => by (have hc := hSw.2; go_simp)⟩) hHeld ?_
  try simp only [Act.put, List.setIfInBounds_toArray, List.set_cons_zero, List.set_cons_succ]
  refine wpAnyH_ready (rs := [6]) (by kernel_rfl) (by simp) ?_
  refine AllReadyH.cons rfl (fun K hK => ?_) AllReadyH.nil
  go_simp
  go_wp2_with (first
    | (go_at_call 154; (with_reducible refine HSE.out.mono ?_); rintro e w10 ⟨rfl, hax, hst⟩)
    | fail)
  have HST10 : Hid (Q.Stays w9.drew w10 (C.foot bt x0 x1)) := Lib.hid ⟨hst.os, hst.tape, hst.output, hst.size, hst.block⟩
  have HAT10 := Lib.hid hax
  clear hax hst
  have HS10 : Hid (ST w10 bs bd m dd (.pointer (some ⟨bm, 0, none⟩)) (.pointer (some ⟨bt, 0, none⟩)) mp la) := Lib.hid ⟨(HST10.out.block bs HS9.out.lt (fun e => by have := HTF.out _ e; have := HLB.out.1; omega)).trans HS9.out.blk⟩
  have HX10 : Hid (w10.heap[bq]? = some (.cells cl.toArray 144 (0, 0))) := Lib.hid ((HST10.out.block bq (Array.getElem?_eq_some_iff.1 HX9.out).1 (fun e => by have := HTF.out _ e; have := HLB.out.2.1; omega)).trans HX9.out)
  refine hK.out _ _ ⟨HS10.out.c21, by rw [Joins.cell_of_block HX10.out]; exact HU.out.2.2⟩ (fun hHeld => ?_)
  clear hK K
  try simp only [Act.put, List.setIfInBounds_toArray, List.set_cons_zero, List.set_cons_succ]
  refine takeN (i := 7) (oi := _) (v := .int .i64 0) 2 rfl rfl (by kernel_rfl) (by kernel_rfl) (by kernel_rfl) (fun _ _ _ h => h) (Or.inl ⟨by rfl, fun w2 hSw => by go_simp⟩) hHeld ?_
  try simp only [Act.put, List.setIfInBounds_toArray, List.set_cons_zero, List.set_cons_succ]
  refine wpAnyH_done (by kernel_rfl) ?_ _
  refine NoPanic.normal ?_
  go_wp2_with fail
  go_ret
  exact ⟨rfl, bm, g0, p0, g1, p1, bt, x0, y0, x1, y1, HS10.out, AX.keep HAX9.out HST10.out (fun j hj e => by have := HTF.out j e; have := HLB.out.2.2 j hj; omega), HAT10.out, HBF.out, fun j hj => ⟨Nat.le_trans HWS6.out (HTF.out j hj), fun e => by have := HTF.out j hj; have := HLB.out.2.2 j e; omega⟩, HST9.out.trans HST10.out (fun j hj => .inr (Nat.le_trans HWS6.out (HTF.out j hj)))⟩
end Go.Proofs.YtoclhiaidbfheaaGreatDoor.S
end

section
set_option linter.unusedVariables false
namespace Go.Proofs.YtoclhiaidbfheaaGreatDoor.S
open Go.RowKit Q

/-- a store that was opened on a formatted disk -/
structure SS (w : World) (bs bd m dd bm g0 p0 g1 p1 bt x0 y0 x1 y1 mp : Nat) : Prop where
  st : ST w bs bd m dd (.pointer (some ⟨bm, 0, none⟩)) (.pointer (some ⟨bt, 0, none⟩)) mp false
  am : C.AX w bm g0 p0 g1 p1 ⟨cnt m (pgs m dd), cnt m (pgs m dd), 0, 0⟩
  at_ : C.AX w bt x0 y0 x1 y1 ⟨List.replicate dd 0, List.replicate dd 0, 0, 0⟩
  map : w.heap[mp]? = some (.map #[] 0)
/-- what Open answers -/
def OpenAs (W : World) (bd m dd : Nat) (e : Ending) (w' : World) : Prop :=
  ∃ bs bm g0 p0 g1 p1 bt x0 y0 x1 y1 mp, e = .returned (.tuple #[.pointer (some ⟨bs, 0, none⟩), .int .i64 0]) ∧ Hid (SS w' bs bd m dd bm g0 p0 g1 p1 bt x0 y0 x1 y1 mp ∧ (W.heap.size ≤ bs ∧ W.heap.size ≤ mp ∧ bs ≠ mp) ∧ (∀ j, C.foot bm g0 g1 j → W.heap.size ≤ j ∧ j ≠ bs ∧ j ≠ mp) ∧ (∀ j, C.foot bt x0 x1 j → W.heap.size ≤ j ∧ j ≠ bs ∧ j ≠ mp ∧ ¬ C.foot bm g0 g1 j) ∧ Below W.heap.size W w')
theorem stA0 (bd mp : Nat) : stA bd zeroSC.toList (.pointer none) (.pointer none) mp false = #[.pointer (some ⟨bd, 0, none⟩), .int .u64 0, .int .i64 0, .int .i64 0, .int .u32 0, .int .u32 0, .int .u32 0, .int .u32 0, .int .u32 0, .int .u32 0, .int .u32 0, .int .u32 0, .int .u32 0, .int .i64 0, .int .u64 0, .int .u64 0, .int .u64 0, .int .u64 0, .int .u64 0, .bool false, .pointer none, .pointer none, .map (some mp), .bool false, .bool false] := rfl
set_option maxRecDepth 100000 in
set_option maxHeartbeats 4000000 in
theorem open_live {w0 W : World} {F : Nat → Prop} {bd m dd n : Nat} {d : RD} (hT : Tabs w0) (hW : Wids w0) (hb0 : Below w0.heap.size w0 W) (hd : PD W F bd d) (hf : Fmt d n m dd) (ha : Areas m dd) (hs : 4 * (2 + m + dd) ≤ d.s.length) :
    Calls Tryz.prog 31 #[.pointer (some ⟨bd, 0, none⟩)] W (OpenAs W bd m dd) := by
  have hdead := hf.live.dead
  have hD : ∀ W', Below W.heap.size W W' → Calls Tryz.prog 82 #[.pointer (some ⟨bd, 0, none⟩)] W' fun e w' => e = .returned (.bool false) ∧ w' = W' := fun W' hb => by
    have := pd_dead (hd.below hb)
    rwa [hdead] at this
  have HD := Lib.hid hD
  obtain ⟨SC, hSC⟩ : ∃ SC : Array Value, #[.pointer (some ⟨bd, 0, none⟩), .int .u64 0, .int .i64 0, .int .i64 0, .int .u32 0, .int .u32 0, .int .u32 0, .int .u32 0, .int .u32 0, .int .u32 0, .int .u32 0, .int .u32 0, .int .u32 0, .int .i64 0, .int .u64 0, .int .u64 0, .int .u64 0, .int .u64 0, .int .u64 0, .bool false, .pointer none, .pointer none, .map (some (W.heap.size + 1)), .bool false, .bool false] = SC := ⟨_, rfl⟩
  have hSS : stA bd zeroSC.toList (.pointer none) (.pointer none) (W.heap.size + 1) false = SC := by rw [stA0, hSC]
  have H3 := third_at W (.cells #[.int .i64 0] 26) (.map #[] 0) (.cells SC 170)
  have H1 := one_of3 W (.cells #[.int .i64 0] 26) (.map #[] 0) (.cells SC 170)
  have H2 : (((W.alloc (.cells #[.int .i64 0] 26)).alloc (.map #[] 0)).alloc (.cells SC 170)).heap[W.heap.size + 1]? = some (.map #[] 0) := by
    have e := heap_alloc_new (W.alloc (.cells #[.int .i64 0] 26)) (.map #[] 0)
    rw [World.size_alloc] at e
    exact (Below.heap_alloc _ _ _ (by simp)).trans e
  have HB3 : Below W.heap.size W _ := (((Below.refl _ W).alloc (Nat.le_refl _) (.cells #[.int .i64 0] 26)).alloc (by simp) (.map #[] 0)).alloc (by simp; omega) (.cells SC 170)
  have hsz : (((W.alloc (.cells #[.int .i64 0] 26)).alloc (.map #[] 0)).alloc (.cells SC 170)).heap.size = W.heap.size + 3 := by simp
  have hmm := @run_makeMap Tryz.prog
  have hz := store_zero
  obtain ⟨W3, hW3⟩ : ∃ W3, ((W.alloc (.cells #[.int .i64 0] 26)).alloc (.map #[] 0)).alloc (.cells SC 170) = W3 := ⟨_, rfl⟩
  rw [hW3] at H3 H1 H2 HB3 hsz
  have hld := load_live (la := false) (mp := W.heap.size + 1) (bs := W.heap.size + 1 + 1) hT hW (hb0.trans (HB3.mono hb0.size)) (by have := hb0.size; omega) (hd.below HB3) hf ha hs (by rw [hSS]; exact H3)
  have HLD := Lib.hid hld
  rw [← hSC] at hW3
  have K1 := Lib.hid H1
  have K2 := Lib.hid H2
  have KB := Lib.hid HB3
  have KS := Lib.hid hsz
  have HBD : Hid (Below W.heap.size W ((W.alloc (.cells #[.int .i64 0] 26)).alloc (.map #[] 0))) := Lib.hid (((Below.refl _ W).alloc (Nat.le_refl _) _).alloc (by simp) _)
  clear H3 H1 H2 HB3 hsz hld hD hdead hd hf hs hSS hSC
  go_enter_defers Tryz.func31, Tryz.ntmps31
  go_wp2_with (first
    | (go_at_call 82; (with_reducible refine (HD.out _ HBD.out).mono ?_); rintro e w1 ⟨rfl, rfl⟩)
    | (go_at_call 84; (with_reducible refine HLD.out.mono ?_); rintro e w2 ⟨rfl, bm, g0, p0, g1, p1, bt, x0, y0, x1, y1, HL⟩; have HE := Lib.hid ((HL.out.2.2.2.2.2.block W.heap.size (by rw [KS.out]; omega) (by omega)).trans K1.out); have hc := Joins.cell_of_block (i := 0) HE.out; have hfz := frozen_of_row w2 W.heap.size 0 _ _ HE.out)
    | fail)
  have hq := Joins.block_setCell HE.out (i := 0) (.int .i64 0)
  have hqc : (w2.setCell ⟨W.heap.size, 0, none⟩ (.int .i64 0)).cell? ⟨W.heap.size, 0, none⟩ = some (.int .i64 0) := by
    rw [Joins.cell_of_block hq]; rfl
  refine leaves_cons (f := 83) (args := #[.pointer (some ⟨W.heap.size + 1 + 1, 0, none⟩), .pointer (some ⟨W.heap.size, 0, none⟩)]) (by simp) (by simp [go_sem]) ?_
  refine (settle_d _ _ W.heap.size 0 hqc (by decide) (by decide) .returning).mono ?_
  rintro e u' w'' ⟨rfl, rfl, rfl⟩
  refine ⟨_, results_tc rfl _ _ _ _ _ rfl rfl (load_errno hqc), W.heap.size + 1 + 1, bm, g0, p0, g1, p1, bt, x0, y0, x1, y1, W.heap.size + 1, rfl, ?_⟩
  obtain ⟨q1, q2, q3, q4, q5, q6⟩ := HL.out
  have k3 := KS.out
  have hst : Q.Stays w2 (w2.setCell ⟨W.heap.size, 0, none⟩ (.int .i64 0)) (onlyB W.heap.size) := (Q.Stays.refl w2 (onlyB W.heap.size)).set ⟨W.heap.size, 0, none⟩ (.inl rfl) _
  have hbl : Below W.heap.size W (w2.setCell ⟨W.heap.size, 0, none⟩ (.int .i64 0)) := (KB.out.trans (q6.below (by omega) (fun k hk => by rw [show k = W.heap.size + 1 + 1 from hk]; omega))).setCell (Nat.le_refl _) _
  refine ⟨⟨⟨(Below.heap_setCell _ _ _ _ (by show W.heap.size + 1 + 1 ≠ W.heap.size; omega)).trans q1.blk⟩, AX.keep q2 hst (fun j hj e => by have := q4 j hj; rw [show j = W.heap.size from e] at this; omega), AX.keep q3 hst (fun j hj e => by have := (q5 j hj).1; rw [show j = W.heap.size from e] at this; omega), ?_⟩, ⟨by omega, by omega, by omega⟩, fun j hj => by have := q4 j hj; omega, fun j hj => ⟨by have := (q5 j hj).1; omega, by have := (q5 j hj).1; omega, by have := (q5 j hj).1; omega, (q5 j hj).2⟩, hbl⟩
  exact (Below.heap_setCell _ _ _ _ (by show W.heap.size + 1 ≠ W.heap.size; omega)).trans ((q6.block (W.heap.size + 1) (by omega) (by omega)).trans K2.out)
end Go.Proofs.YtoclhiaidbfheaaGreatDoor.S
end

section
set_option linter.unusedVariables false
namespace Go.Proofs.YtoclhiaidbfheaaGreatDoor.S
open Go.RowKit Q

theorem newD_live (n : Nat) : Live (newD n) := ⟨by show (-1 : Int) < 0; decide, rfl⟩
theorem newD_len (n : Nat) : (newD n).s.length = n := by simp [newD]
/-- a disk of one's own, formatted -/
theorem format_own {w W : World} {b n m dd : Nat} (hT : Tabs w) (hW : Wids w) (h : KS w W b (newD n)) (ha : Areas m dd) (hs : 4 * (2 + m + dd) ≤ n) :
    Calls Tryz.prog 30 #[.pointer (some ⟨b, 0, none⟩), .int .i64 (m : Int), .int .i64 (dd : Int)] W fun e w' => e = .returned (.int .i64 0) ∧ Hid (KS w w' b (fmtD (newD n) m dd)) := by
  obtain ⟨F, h1, h2, h3⟩ := h
  exact (format_live hT hW h3 h2 h1 (newD_live n) ha (by rw [newD_len]; exact hs) (newD_short n 100 (by omega))).mono fun e w' hp => ⟨hp.1, KS.done h3 h2 hp⟩
theorem own_fmt (n m dd : Nat) (ha : Areas m dd) (hs : 4 * (2 + m + dd) ≤ n) : Fmt (fmtD (newD n) m dd) n m dd := by
  have := (fmt_facts (newD_live n) ha (by rw [newD_len]; exact hs)).2
  rwa [newD_len] at this
theorem open_own {w W : World} {b n m dd : Nat} (hT : Tabs w) (hW : Wids w) (h : KS w W b (fmtD (newD n) m dd)) (ha : Areas m dd) (hs : 4 * (2 + m + dd) ≤ n) :
    Calls Tryz.prog 31 #[.pointer (some ⟨b, 0, none⟩)] W (OpenAs W b m dd) := by
  obtain ⟨F, h1, h2, h3⟩ := h
  have hf := own_fmt n m dd ha hs
  exact open_live hT hW h3 h1 hf ha (by rw [hf.len]; exact hs)
theorem areas_small : Areas 16 8 := ⟨by omega, by omega, by omega, by omega⟩
theorem pgs_small : pgs 16 8 = 2 := by decide
theorem room_small : C.roomN ⟨cnt 16 2, cnt 16 2, 0, 0⟩ (cnt 16 2).length = 13 ∧ C.roomN ⟨List.replicate 8 0, List.replicate 8 0, 0, 0⟩ (List.replicate 8 0).length = 8 := by decide
def fmS : RD := fmtD (newD 104) 16 8
def newS : RD := newD 104
end Go.Proofs.YtoclhiaidbfheaaGreatDoor.S
end

section
set_option linter.unusedVariables false
namespace Go.Proofs.YtoclhiaidbfheaaGreatDoor.S
open Go.RowKit Q

theorem neq_sup_self (s : SU) (W : World) : (binOp .neq 144 (.agg s.cells) (.agg s.cells)).run Tryz.prog W = .ok (.bool false) W := by
  have h := eql_sup s s W
  rw [(eqS_iff s s).2 rfl, run_eql_struct] at h
  rw [run_neq_struct]
  generalize (Op.equalIn 10000 144 (.agg s.cells) (.agg s.cells)).run Tryz.prog W = r at h ⊢
  cases r <;> simp_all [Result.andThen]
theorem wp_bin_agg {P : Program} {op : Oper} {a : Act} {w : World} {K : Act → World → Prop} {Q : Exit → Act → World → Prop} (o : BinOp) (ty : TypeId) (x y : Operand) (rt : TypeId) (ho : op.op = .binOp o ty x y rt) (xs ys : Array Value) (hx : a.eval x = .agg xs) (hy : a.eval y = .agg ys)
    (hm : P.eqGuardType P.depth ty = false) (v : Value) (hr : (binOp o ty (.agg xs) (.agg ys)).run P w = .ok v w) (h : K (a.put op.dst v) w) : op.wp P a w K Q := by
  unfold Oper.wp execOp
  simp only [ho, hx, hy, Sem.run_bind, run_eqGuard_agg (P := P) (w := w) (hm := hm), Result.andThen_ok, hr, Sem.run_pure]
  exact h
theorem wpList_bin {P : Program} {ops : Array Oper} {rest : List Oper} {op : Oper} {a : Act} {w : World} {Q : Exit → Act → World → Prop} (hgd : op.guard = none) (o : BinOp) (ty : TypeId) (x y : Operand) (rt : TypeId) (ho : op.op = .binOp o ty x y rt) (xs ys : Array Value) (hx : a.eval x = .agg xs) (hy : a.eval y = .agg ys)
    (hm : P.eqGuardType P.depth ty = false) (v : Value) (hr : (binOp o ty (.agg xs) (.agg ys)).run P w = .ok v w) (h : wpList P ops Q rest (a.put op.dst v) w) : wpList P ops Q (op :: rest) a w :=
  wpList_plain hgd fun _ hK => wp_bin_agg o ty x y rt ho xs ys hx hy hm v hr (hK _ _ h)
theorem wpList_bin_g {P : Program} {ops : Array Oper} {rest : List Oper} {op : Oper} {a : Act} {w : World} {Q : Exit → Act → World → Prop} (hw : Region.wanted op (yielded ops a.tmps) = true) (o : BinOp) (ty : TypeId) (x y : Operand) (rt : TypeId) (ho : op.op = .binOp o ty x y rt) (xs ys : Array Value) (hx : a.eval x = .agg xs) (hy : a.eval y = .agg ys)
    (hm : P.eqGuardType P.depth ty = false) (v : Value) (hr : (binOp o ty (.agg xs) (.agg ys)).run P w = .ok v w) (h : wpList P ops Q rest (a.put op.dst v) w) : wpList P ops Q (op :: rest) a w := by
  refine wpList_step ?_
  intro K hK
  rw [if_pos hw]
  exact wp_bin_agg o ty x y rt ho xs ys hx hy hm v hr (hK _ _ h)
theorem sup_noguard : Tryz.prog.eqGuardType Tryz.prog.depth 144 = false := by kernel_rfl
end Go.Proofs.YtoclhiaidbfheaaGreatDoor.S
end
