/- The document's disk: the step Write. -/
import Derived.Test.YtdcfplfeagpcdaaDj
import Derived.Test.YtdcfplfeagpcdaaEj
set_option linter.unusedVariables false
namespace Go.Proofs.Ytdcfplfeagpcdaa
open Go.RowKit

theorem u8_info : (Try.prog.info? 5).map (fun i => (i.zero, i.size, i.bytes)) = some (some (.int .u8 0), 1, 1) := by kernel_rfl
theorem shows_row {w : World} {base e n : Nat} {v : Value} {xs : List Value} (h : w.ownsRow base e 1 v n xs) : ∃ A c, v = .slice A n c ∧ Shows w w.heap.size A n xs := by
  obtain ⟨A, c, rfl⟩ := row_form h
  exact ⟨A, c, rfl, Shows.owned h⟩
/-- what the two appends and the store leave -/
theorem RDisk.write {w1 wc : World} {base b g cS : Nat} {d : RD} (h : RDisk w1 base b (.slice (some ⟨g, 0, none⟩) d.s.length cS) d) (hb : Below w1.heap.size w1 wc) (i : Nat) (hi : i < d.s.length) (c : UInt8) (v2 : Value) (hrow : wc.ownsRow base 5 1 v2 (d.s[i].length + 1) (cells8 (d.s[i] ++ [c]))) (hl : d.s[i].length < 1000000) :
    RDisk (wc.setCell ⟨g, i, none⟩ v2) base b (.slice (some ⟨g, 0, none⟩) d.s.length cS) (writeD d i c) ∧ Own2 w1 (wc.setCell ⟨g, i, none⟩ v2) b (.slice (some ⟨g, 0, none⟩) d.s.length cS) := by
  have hget : d.s.getD i [] = d.s[i] := by simp [List.getD, hi]
  have h1 := h.on hb
  refine ⟨?_, (Own2.of_below hb b _).setV ⟨g, i, none⟩ rfl v2⟩
  have := h1.setS i v2 (d.s[i] ++ [c]) (by rw [List.length_append]; exact hrow) (by simp) (by rw [List.length_append]; show _ + 1 ≤ _; omega)
  simp only [writeD, hget]
  exact this


set_option maxRecDepth 10000 in
set_option maxHeartbeats 4000000 in
theorem do_write_no_neg (w : World) (base b : Nat) (v : Value) (d : RD) (h : RDisk w base b v d) (x : ST) (A : Option Addr) (cap : Nat) (hk : x.kind = 1) (hth : x.n < 0) :
    Calls Try.prog 25 #[.pointer (some ⟨b, 0, none⟩), .agg (stCells x A cap)] w fun e w' => e = .returned (.int .i64 2) ∧ (∃ v', RDisk w' base b v' d ∧ (v'.ownBlock = v.ownBlock ∨ ∃ k, v'.ownBlock = some k ∧ w.heap.size ≤ k)) ∧ Own2 w w' b v := by
  have hB := Boxed1.new w x A cap
  have hr := h.on hB.below
  have c0 := hB.c0
  have c1 := hB.c1
  have d0 := hr.c0
  have hO := Own2.of_below hB.below b v
  obtain ⟨AS, cS, rfl⟩ := h.form
  have g0 : decide (0 ≤ x.n) = false := by simp; omega
  go_enter Try.func25, Try.ntmps25
  go_wp2_with fail
  go_quiet (fail)
  have hB2 := hB.drewN nq
  have hr2 := h.on hB2.below
  have e0 := hB2.c0
  have e1 := hB2.c1
  have f0 := hr2.c0
  have f1 := hr2.c1
  have f2 := hr2.c2
  have q1 := hr2.fr 1
  have hO2 := Own2.of_below hB2.below b (.slice AS d.s.length cS)
  have HR2 := Lib.hid hr2
  have HO2 := Lib.hid hO2
  clear hB hr c0 c1 d0 hO hB2 hr2 hO2
  rw [hk] at e0
  generalize (w.alloc (.cells (stCells x A cap) 54)).drewN nq = w1 at *
  go_wp2
  go_ret
  exact ⟨rfl, ⟨_, HR2.out, .inl rfl⟩, HO2.out⟩

set_option maxRecDepth 10000 in
set_option maxHeartbeats 4000000 in
theorem do_write_no_out (w : World) (base b : Nat) (v : Value) (d : RD) (h : RDisk w base b v d) (x : ST) (A : Option Addr) (cap : Nat) (hk : x.kind = 1) (hth : (d.s.length : Int) ≤ x.n) :
    Calls Try.prog 25 #[.pointer (some ⟨b, 0, none⟩), .agg (stCells x A cap)] w fun e w' => e = .returned (.int .i64 2) ∧ (∃ v', RDisk w' base b v' d ∧ (v'.ownBlock = v.ownBlock ∨ ∃ k, v'.ownBlock = some k ∧ w.heap.size ≤ k)) ∧ Own2 w w' b v := by
  have hB := Boxed1.new w x A cap
  have hr := h.on hB.below
  have c0 := hB.c0
  have c1 := hB.c1
  have d0 := hr.c0
  have hO := Own2.of_below hB.below b v
  obtain ⟨AS, cS, rfl⟩ := h.form
  have g0 : decide (0 ≤ x.n) = true := by simp; omega
  have g1 : decide (x.n < (d.s.length : Int)) = false := by simp; omega
  go_enter Try.func25, Try.ntmps25
  go_wp2_with fail
  go_quiet (fail)
  have hB2 := hB.drewN nq
  have hr2 := h.on hB2.below
  have e0 := hB2.c0
  have e1 := hB2.c1
  have f0 := hr2.c0
  have f1 := hr2.c1
  have f2 := hr2.c2
  have q1 := hr2.fr 1
  have hO2 := Own2.of_below hB2.below b (.slice AS d.s.length cS)
  have HR2 := Lib.hid hr2
  have HO2 := Lib.hid hO2
  clear hB hr c0 c1 d0 hO hB2 hr2 hO2
  rw [hk] at e0
  generalize (w.alloc (.cells (stCells x A cap) 54)).drewN nq = w1 at *
  go_wp2
  go_ret
  exact ⟨rfl, ⟨_, HR2.out, .inl rfl⟩, HO2.out⟩

set_option maxRecDepth 10000 in
set_option maxHeartbeats 4000000 in
theorem do_write_dead_in (w : World) (base b : Nat) (v : Value) (d : RD) (h : RDisk w base b v d) (x : ST) (A : Option Addr) (cap : Nat) (hk : x.kind = 1) (hf : -1 ≤ d.fuse ∧ d.fuse ≤ 9223372036854775807) (hm : movesB d = false) (hth : 0 ≤ x.n ∧ x.n < (d.s.length : Int)) :
    Calls Try.prog 25 #[.pointer (some ⟨b, 0, none⟩), .agg (stCells x A cap)] w fun e w' => e = .returned (.int .i64 10) ∧ (∃ v', RDisk w' base b v' (movesD d) ∧ (v'.ownBlock = v.ownBlock ∨ ∃ k, v'.ownBlock = some k ∧ w.heap.size ≤ k)) ∧ Own2 w w' b v := by
  have hB := Boxed1.new w x A cap
  have hr := h.on hB.below
  have c0 := hB.c0
  have c1 := hB.c1
  have d0 := hr.c0
  have hO := Own2.of_below hB.below b v
  obtain ⟨AS, cS, rfl⟩ := h.form
  have g0 : decide (0 ≤ x.n) = true := by simp; omega
  have g1 : decide (x.n < (d.s.length : Int)) = true := by simp; omega
  go_enter Try.func25, Try.ntmps25
  go_wp2_with fail
  go_quiet (fail)
  have hB2 := hB.drewN nq
  have hr2 := h.on hB2.below
  have e0 := hB2.c0
  have e1 := hB2.c1
  have f0 := hr2.c0
  have f1 := hr2.c1
  have f2 := hr2.c2
  have q1 := hr2.fr 1
  have hO2 := Own2.of_below hB2.below b (.slice AS d.s.length cS)
  have HR2 := Lib.hid hr2
  have HO2 := Lib.hid hO2
  clear hB hr c0 c1 d0 hO hB2 hr2 hO2
  rw [hk] at e0
  generalize (w.alloc (.cells (stCells x A cap) 54)).drewN nq = w1 at *
  have hmv := moves_any w1 base b _ d HR2.out hf
  rw [hm] at hmv
  have HMV := Lib.hid hmv
  clear hmv hm
  go_wp2_with (go_at_call 39; refine HMV.out.mono ?_; rintro e w2 ⟨rfl, hr3, hO3⟩)
  go_ret
  exact ⟨rfl, ⟨_, hr3, .inl rfl⟩, HO2.out.trans hO3 (.inl rfl)⟩

set_option maxRecDepth 10000 in
set_option maxHeartbeats 4000000 in
theorem do_write_in (w : World) (base b : Nat) (v : Value) (d : RD) (h : RDisk w base b v d) (x : ST) (A : Option Addr) (cap : Nat) (hk : x.kind = 1) (hf : -1 ≤ d.fuse ∧ d.fuse ≤ 9223372036854775807) (hbase : base ≤ w.heap.size) (hm : movesB d = true) (i : Nat) (hin : x.n = (i : Int)) (hi0 : i < d.s.length) (hl0 : d.s[i].length < 1000000) (hth : 0 ≤ x.n ∧ x.n < (d.s.length : Int)) :
    Calls Try.prog 25 #[.pointer (some ⟨b, 0, none⟩), .agg (stCells x A cap)] w fun e w' => e = .returned (.int .i64 0) ∧ (∃ v', RDisk w' base b v' (writeD (movesD d) i x.fill) ∧ (v'.ownBlock = v.ownBlock ∨ ∃ k, v'.ownBlock = some k ∧ w.heap.size ≤ k)) ∧ Own2 w w' b v := by
  have hB := Boxed1.new w x A cap
  have hr := h.on hB.below
  have c0 := hB.c0
  have c1 := hB.c1
  have d0 := hr.c0
  have hO := Own2.of_below hB.below b v
  obtain ⟨AS, cS, rfl⟩ := h.form
  have g0 : decide (0 ≤ x.n) = true := by simp; omega
  have g1 : decide (x.n < (d.s.length : Int)) = true := by simp; omega
  go_enter Try.func25, Try.ntmps25
  go_wp2_with fail
  go_quiet (fail)
  have hB2 := hB.drewN nq
  have hr2 := h.on hB2.below
  have e0 := hB2.c0
  have e1 := hB2.c1
  have f0 := hr2.c0
  have f1 := hr2.c1
  have f2 := hr2.c2
  have q1 := hr2.fr 1
  have hO2 := Own2.of_below hB2.below b (.slice AS d.s.length cS)
  have HR2 := Lib.hid hr2
  have HO2 := Lib.hid hO2
  have HBX := Lib.hid hB2.box
  clear hB hr c0 c1 d0 hO hB2 hr2 hO2
  rw [hk] at e0
  generalize (w.alloc (.cells (stCells x A cap) 54)).drewN nq = w1 at *
  have hmv := moves_any w1 base b _ d HR2.out hf
  rw [hm] at hmv
  have HMV := Lib.hid hmv
  clear hmv hm
  go_wp2_with (go_at_call 39; refine HMV.out.mono ?_; rintro e w3 ⟨rfl, hr3, hO3⟩)
  have hO4 := HO2.out.trans hO3 (.inl rfl)
  have hbx : w3.heap[w.heap.size]? = some (.cells (stCells x A cap) 54 (0, 0)) := kept_type HR2.out hO3 HBX.out (by decide) (by decide)
  have hi : i < (movesD d).s.length := by rw [movesD_s]; exact hi0
  have hl : ((movesD d).s[i]).length < 1000000 := by simp only [movesD_s]; exact hl0
  have hsl : d.s.length = (movesD d).s.length := by rw [movesD_s]
  have hwsz := hO4.size
  have HO3 := Lib.hid hO4
  clear hO3 hO4 HO2 HR2 HBX HMV f0 f1 f2 q1 e0 e1 g0 g1 hth hf
  have HIN := Lib.hid hin
  clear hin
  clear hl0
  rw [hsl] at hr3 HO3 ⊢
  generalize hd1 : movesD d = d1 at *
  have HD1 := Lib.hid hd1
  clear hd1
  obtain ⟨g, cg, gi, ci, hv, hc, hg, hcell, hfro, hp1, hp2, hox⟩ := hr3.at_ i hi
  injection hv with v1 v2 v3
  subst v1
  subst v3
  obtain ⟨i0, hi0', hz0, hz1, hz2⟩ := info_parts u8_info
  have hgt : ∃ cur, w3.heap[g]? = some (.cells cur 44 (0, 0)) := by
    obtain ⟨_, _, xs, ho, _⟩ := hr3
    rcases ho.2 with ⟨hz, _⟩ | ⟨g', c', cur, hvv, _, hh, _⟩
    · cases hz
    · injection hvv with e1
      injection e1 with e1
      injection e1 with e1
      subst e1
      exact ⟨cur, hh⟩
  obtain ⟨curg, hgg⟩ := hgt
  have hglt := (Array.getElem?_eq_some_iff.1 hgg).1
  have hblt := hr3.lt
  have hxlt := (Array.getElem?_eq_some_iff.1 hbx).1
  have hgb : b ≠ g := fun e => by subst e; rw [hr3.2.1] at hgg; injection hgg with hgg; injection hgg with _ h3; exact ne_types.2.2 h3
  have hgx : w.heap.size ≠ g := fun e => by rw [e] at hbx; rw [hbx] at hgg; injection hgg with hgg; injection hgg with _ h3; exact absurd h3 (by decide)
  have hkeep0 : ∀ W : World, W.heap[b]? = w3.heap[b]? → W.heap[w.heap.size]? = w3.heap[w.heap.size]? → W.cell? ⟨b, 0, none⟩ = some (.slice (some ⟨g, 0, none⟩) d1.s.length cS) ∧ W.cell? ⟨w.heap.size, 1, none⟩ = some (.int .i64 (i : Int)) ∧ W.cell? ⟨w.heap.size, 2, none⟩ = some (.int .u8 (x.fill.toNat : Int)) := fun W e1 e2 => by
    refine ⟨?_, ?_, ?_⟩
    · rw [World.cell?_of_block (a := ⟨b, 0, none⟩) e1]; exact hr3.c0
    · rw [World.cell?_of_block (a := ⟨w.heap.size, 1, none⟩) e2, cell_of_row _ _ 1 _ _ _ hbx]; show some (Value.int .i64 x.n) = _; rw [HIN.out]
    · rw [World.cell?_of_block (a := ⟨w.heap.size, 2, none⟩) e2, cell_of_row _ _ 2 _ _ _ hbx]; rfl
  have HKEEP := Lib.hid (fun (W : World) (hW : Below w3.heap.size w3 W) => hkeep0 W (hW.block b hblt) (hW.block _ hxlt))
  have HSET := Lib.hid (fun (W : World) (hW : Below w3.heap.size w3 W) (u : Value) => hkeep0 (W.setCell ⟨g, i, none⟩ u) (by rw [Below.heap_setCell _ _ _ _ hgb]; exact hW.block b hblt) (by rw [Below.heap_setCell _ _ _ _ hgx]; exact hW.block _ hxlt))
  have HCELL := Lib.hid (fun (W : World) (hW : Below w3.heap.size w3 W) => show W.cell? ⟨g, i, none⟩ = some (.slice (some ⟨gi, 0, none⟩) d1.s[i].length ci) from (World.cell?_of_block (a := ⟨g, i, none⟩) (hW.block g hglt)).trans hcell)
  have HFRO := Lib.hid (fun (W : World) (hW : Below w3.heap.size w3 W) => show W.frozen? ⟨g, i, none⟩ = false from (World.frozen?_of_block (a := ⟨g, i, none⟩) (hW.block g hglt)).trans hfro)
  have HSH := Lib.hid (Shows.owned hox)
  have hb3 : base ≤ w3.heap.size := by omega
  have HBD := Lib.hid ((Below.refl w3.heap.size w3).drew)
  have HR3 := Lib.hid hr3
  have HSL := Lib.hid hsl
  have hiI : (i : Int) < (d1.s.length : Int) := by omega
  clear hkeep0 hgb hgx hgg hox hcell hfro hr3 hbx hsl hc hi0
  refine wp_region_held (S := fun w' => w'.cell? ⟨b, 0, none⟩ = some (.slice (some ⟨g, 0, none⟩) d1.s.length cS) ∧ w'.cell? ⟨w.heap.size, 1, none⟩ = some (.int .i64 (i : Int)) ∧ w'.cell? ⟨w.heap.size, 2, none⟩ = some (.int .u8 (x.fill.toNat : Int))) (by kernel_rfl) ?_
  change wpAnyH _ _ _ _ _ _ _ _ w3.drew
  have hS := HKEEP.out _ HBD.out
  refine wpAnyH_take (i := 0) (oi := ⟨some 37, _, _, _, _, _⟩) (v := .pointer (some ⟨b, 0, none⟩)) rfl (by kernel_rfl) (by kernel_rfl) (by kernel_rfl) (fun _ _ _ h => h) (Or.inl ⟨by rfl, by intro w0 hw0; clear hw0; go_simp⟩) hS ?_
  simp only [Act.put, List.setIfInBounds_toArray, List.set_cons_zero, List.set_cons_succ]
  refine wpAnyH_take (i := 1) (oi := ⟨some 38, _, _, _, _, _⟩) (v := .pointer (some ⟨b, 0, none⟩)) rfl (by kernel_rfl) (by kernel_rfl) (by kernel_rfl) (fun _ _ _ h => h) (Or.inl ⟨by rfl, by intro w0 hw0; clear hw0; go_simp⟩) hS ?_
  simp only [Act.put, List.setIfInBounds_toArray, List.set_cons_zero, List.set_cons_succ]
  refine wpAnyH_take (i := 2) (oi := ⟨some 39, _, _, _, _, _⟩) (v := .pointer (some ⟨b, 0, none⟩)) rfl (by kernel_rfl) (by kernel_rfl) (by kernel_rfl) (fun _ _ _ h => h) (Or.inl ⟨by rfl, by intro w0 hw0; clear hw0; go_simp⟩) hS ?_
  simp only [Act.put, List.setIfInBounds_toArray, List.set_cons_zero, List.set_cons_succ]
  refine wpAnyH_take (i := 3) (oi := ⟨some 40, _, _, _, _, _⟩) (v := .slice (some ⟨g, 0, none⟩) d1.s.length cS) rfl (by kernel_rfl) (by kernel_rfl) (by kernel_rfl) (fun _ _ _ h => h) (Or.inl ⟨by rfl, by intro w0 hw0; obtain ⟨hq, _⟩ := hw0; go_simp⟩) hS ?_
  simp only [Act.put, List.setIfInBounds_toArray, List.set_cons_zero, List.set_cons_succ]
  refine wpAnyH_take (i := 4) (oi := ⟨some 41, _, _, _, _, _⟩) (v := .pointer (some ⟨w.heap.size, 1, none⟩)) rfl (by kernel_rfl) (by kernel_rfl) (by kernel_rfl) (fun _ _ _ h => h) (Or.inl ⟨by rfl, by intro w0 hw0; clear hw0; go_simp⟩) hS ?_
  simp only [Act.put, List.setIfInBounds_toArray, List.set_cons_zero, List.set_cons_succ]
  refine wpAnyH_take (i := 5) (oi := ⟨some 42, _, _, _, _, _⟩) (v := .int .i64 (i : Int)) rfl (by kernel_rfl) (by kernel_rfl) (by kernel_rfl) (fun _ _ _ h => h) (Or.inl ⟨by rfl, by intro w0 hw0; obtain ⟨_, hq, _⟩ := hw0; go_simp⟩) hS ?_
  simp only [Act.put, List.setIfInBounds_toArray, List.set_cons_zero, List.set_cons_succ]
  refine wpAnyH_take (i := 6) (oi := ⟨some 43, _, _, _, _, _⟩) (v := .pointer (some ⟨b, 0, none⟩)) rfl (by kernel_rfl) (by kernel_rfl) (by kernel_rfl) (fun _ _ _ h => h) (Or.inl ⟨by rfl, by intro w0 hw0; clear hw0; go_simp⟩) hS ?_
  simp only [Act.put, List.setIfInBounds_toArray, List.set_cons_zero, List.set_cons_succ]
  refine wpAnyH_take (i := 7) (oi := ⟨some 44, _, _, _, _, _⟩) (v := .pointer (some ⟨b, 0, none⟩)) rfl (by kernel_rfl) (by kernel_rfl) (by kernel_rfl) (fun _ _ _ h => h) (Or.inl ⟨by rfl, by intro w0 hw0; clear hw0; go_simp⟩) hS ?_
  simp only [Act.put, List.setIfInBounds_toArray, List.set_cons_zero, List.set_cons_succ]
  refine wpAnyH_take (i := 8) (oi := ⟨some 45, _, _, _, _, _⟩) (v := .pointer (some ⟨b, 0, none⟩)) rfl (by kernel_rfl) (by kernel_rfl) (by kernel_rfl) (fun _ _ _ h => h) (Or.inl ⟨by rfl, by intro w0 hw0; clear hw0; go_simp⟩) hS ?_
  simp only [Act.put, List.setIfInBounds_toArray, List.set_cons_zero, List.set_cons_succ]
  refine wpAnyH_take (i := 9) (oi := ⟨some 46, _, _, _, _, _⟩) (v := .slice (some ⟨g, 0, none⟩) d1.s.length cS) rfl (by kernel_rfl) (by kernel_rfl) (by kernel_rfl) (fun _ _ _ h => h) (Or.inl ⟨by rfl, by intro w0 hw0; obtain ⟨hq, _⟩ := hw0; go_simp⟩) hS ?_
  simp only [Act.put, List.setIfInBounds_toArray, List.set_cons_zero, List.set_cons_succ]
  refine wpAnyH_take (i := 10) (oi := ⟨some 47, _, _, _, _, _⟩) (v := .pointer (some ⟨w.heap.size, 1, none⟩)) rfl (by kernel_rfl) (by kernel_rfl) (by kernel_rfl) (fun _ _ _ h => h) (Or.inl ⟨by rfl, by intro w0 hw0; clear hw0; go_simp⟩) hS ?_
  simp only [Act.put, List.setIfInBounds_toArray, List.set_cons_zero, List.set_cons_succ]
  refine wpAnyH_take (i := 11) (oi := ⟨some 48, _, _, _, _, _⟩) (v := .int .i64 (i : Int)) rfl (by kernel_rfl) (by kernel_rfl) (by kernel_rfl) (fun _ _ _ h => h) (Or.inl ⟨by rfl, by intro w0 hw0; obtain ⟨_, hq, _⟩ := hw0; go_simp⟩) hS ?_
  simp only [Act.put, List.setIfInBounds_toArray, List.set_cons_zero, List.set_cons_succ]
  refine wpAnyH_take (i := 12) (oi := ⟨some 49, _, _, _, _, _⟩) (v := .pointer (some ⟨g, i, none⟩)) rfl (by kernel_rfl) (by kernel_rfl) (by kernel_rfl) (fun _ _ _ h => h) (Or.inl ⟨by rfl, by intro w0 hw0; clear hw0; go_simp⟩) hS ?_
  simp only [Act.put, List.setIfInBounds_toArray, List.set_cons_zero, List.set_cons_succ]
  refine wpAnyH_take (i := 13) (oi := ⟨some 50, _, _, _, _, _⟩) (v := .pointer (some ⟨g, i, none⟩)) rfl (by kernel_rfl) (by kernel_rfl) (by kernel_rfl) (fun _ _ _ h => h) (Or.inl ⟨by rfl, by intro w0 hw0; clear hw0; go_simp⟩) hS ?_
  simp only [Act.put, List.setIfInBounds_toArray, List.set_cons_zero, List.set_cons_succ]
  refine wpAnyH_take (i := 16) (oi := ⟨some 53, _, _, _, _, _⟩) (v := .pointer (some ⟨w.heap.size, 2, none⟩)) rfl (by kernel_rfl) (by kernel_rfl) (by kernel_rfl) (fun _ _ _ h => h) (Or.inl ⟨by rfl, by intro w0 hw0; clear hw0; go_simp⟩) hS ?_
  simp only [Act.put, List.setIfInBounds_toArray, List.set_cons_zero, List.set_cons_succ]
  refine wpAnyH_take (i := 17) (oi := ⟨some 54, _, _, _, _, _⟩) (v := .int .u8 (x.fill.toNat : Int)) rfl (by kernel_rfl) (by kernel_rfl) (by kernel_rfl) (fun _ _ _ h => h) (Or.inl ⟨by rfl, by intro w0 hw0; obtain ⟨_, _, hq⟩ := hw0; go_simp⟩) hS ?_
  simp only [Act.put, List.setIfInBounds_toArray, List.set_cons_zero, List.set_cons_succ]
  have HS := Lib.hid hS
  clear hS
  refine wpAnyH_ready (rs := [14, 18]) (by kernel_rfl) (by simp) (AllReadyH.cons (o := ⟨some 51, _, _, _, _, _⟩) rfl (fun K hK => ?_) (AllReadyH.cons (o := ⟨some 55, _, _, _, _, _⟩) rfl (fun K hK => ?_) AllReadyH.nil))
  · have hc14 : w3.cell? ⟨g, i, none⟩ = some (.slice (some ⟨gi, 0, none⟩) d1.s[i].length ci) := HCELL.out w3 (Below.refl _ _)
    go_simp
    refine hK.out _ _ (HKEEP.out _ HBD.out) (fun hsx => ?_)
    clear hK hsx K hc14
    try simp only [Act.put, List.setIfInBounds_toArray, List.set_cons_zero, List.set_cons_succ]
    refine wpAnyH_ready (rs := [15, 18]) (by kernel_rfl) (by simp) (AllReadyH.cons (o := ⟨some 52, _, _, _, _, _⟩) rfl (fun K hK => ?_) (AllReadyH.cons (o := ⟨some 55, _, _, _, _, _⟩) rfl (fun K hK => ?_) AllReadyH.nil))
    · obtain ⟨v1, wa, hrun1, hown1, hgr1⟩ := run_append_shows (P := Try.prog) (w3.drew) base 42 42 5 i0 (.int .u8 0) 1 Try.underlying42 hi0' hz0 hz1 hz2 rfl (.slice none 0 0) 0 [] (World.ownsRow_nil _ _ _ _) w3.heap.size (some ⟨gi, 0, none⟩) d1.s[i].length ci (cells8 d1.s[i]) (HSH.out.below HBD.out) (cells8_one _) (by unfold maxLen; omega) (by omega) (by have := (HBD.out).size; omega)
      rw [List.nil_append, Nat.zero_add] at hown1
      have hbb := hgr1.below_from (Nat.le_refl _) (fun k hk => by cases hk)
      have hba : Below w3.heap.size w3 wa := (HBD.out).trans (hbb.mono (HBD.out).size)
      rw [if_pos (by rfl)]
      refine Lib.wp_append_run _ (.const (.slice none 0 0)) (.tmp 51) 42 42 rfl _ _ rfl rfl _ _ hrun1 ?_
      refine hK.out _ _ (HKEEP.out _ hba) (fun hsx => ?_)
      clear hK hsx K hrun1
      try simp only [Act.put, List.setIfInBounds_toArray, List.set_cons_zero, List.set_cons_succ]
      have HBA := Lib.hid hba
      have HOWN1 := Lib.hid hown1
      have hv1 : ∀ k, v1.ownBlock = some k → w3.heap.size ≤ k := fun k hk => by
        rcases hgr1.at_ with e | ⟨gg, e, hgg⟩
        · rw [e] at hk; cases hk
        · rw [e] at hk; injection hk with hk; have := (HBD.out).size; omega
      have HV1 := Lib.hid hv1
      clear hba hown1 hgr1 hv1 hbb
      refine wpAnyH_ready (rs := [18]) (by kernel_rfl) (by simp) (AllReadyH.cons (o := ⟨some 55, _, _, _, _, _⟩) rfl (fun K hK => ?_) AllReadyH.nil)
      go_simp
      have hb18 : Below w3.heap.size w3 ((wa).alloc (.cells #[.int .u8 (x.fill.toNat : Int)] 5)) := (HBA.out).alloc (HBA.out).size _
      have hn18 := shows_new (wa) #[.int .u8 (x.fill.toNat : Int)] 5
      refine hK.out _ _ (HKEEP.out _ hb18) (fun hsx => ?_)
      clear hK hsx K
      try simp only [Act.put, List.setIfInBounds_toArray, List.set_cons_zero, List.set_cons_succ]
      have HB18 := Lib.hid hb18
      have HN18 := Lib.hid hn18
      clear hb18 hn18
      refine wpAnyH_ready (rs := [19]) (by kernel_rfl) (by simp) (AllReadyH.cons (o := ⟨some 56, _, _, _, _, _⟩) rfl (fun K hK => ?_) AllReadyH.nil)
      obtain ⟨v2, wc, hrun2, hown2, hgr2⟩ := run_append_shows (P := Try.prog) ((wa).alloc (.cells #[.int .u8 (x.fill.toNat : Int)] 5)) base 42 42 5 i0 (.int .u8 0) 1 Try.underlying42 hi0' hz0 hz1 hz2 rfl v1 _ _ (HOWN1.out.alloc _) _ _ 1 1 _ HN18.out (by simp [Value.oneCell']) (by unfold maxLen; omega) (by omega) (by have := (HB18.out).size; omega)
      have hbc : Below w3.heap.size w3 wc := (HB18.out).grown hgr2.by_ (HB18.out).size (fun k hk => HV1.out k hk)
      rw [if_pos (by rfl)]
      refine Lib.wp_append_run _ (.tmp 52) (.tmp 55) 42 42 rfl _ _ rfl rfl _ _ hrun2 ?_
      refine hK.out _ _ (HKEEP.out _ hbc) (fun hsx => ?_)
      clear hK hsx K hrun2
      try simp only [Act.put, List.setIfInBounds_toArray, List.set_cons_zero, List.set_cons_succ]
      have hown3 : wc.ownsRow base 5 1 v2 (d1.s[i].length + 1) (cells8 (d1.s[i] ++ [x.fill])) := by rw [cells8_append]; exact hown2
      obtain ⟨hrw, hOw⟩ := HR3.out.write hbc i hi x.fill v2 hown3 hl
      obtain ⟨A2, c2, rfl⟩ := row_form hown3
      have hcw := HCELL.out _ hbc
      have hfw : wc.frozen? ⟨g, i, none⟩ = false := HFRO.out _ hbc
      have HRW := Lib.hid hrw
      have HOW := Lib.hid hOw
      have HSC := Lib.hid (HKEEP.out _ hbc)
      have HSD := Lib.hid (HSET.out _ hbc (.slice A2 (d1.s[i].length + 1) c2))
      clear hrw hOw hown3 hown2 hgr2 hbc
      refine wpAnyH_take (i := 20) (oi := ⟨some 57, _, _, _, _, _⟩) (v := .agg #[.slice A2 (d1.s[i].length + 1) c2]) rfl (by kernel_rfl) (by kernel_rfl) (by kernel_rfl) (fun _ _ _ h => h) (Or.inl ⟨by rfl, by intro w0 hw0; clear hw0; go_simp⟩) HSC.out ?_
      simp only [Act.put, List.setIfInBounds_toArray, List.set_cons_zero, List.set_cons_succ]
      refine wpAnyH_take (i := 21) (oi := ⟨some 58, _, _, _, _, _⟩) (v := .pointer (some ⟨g, i, none⟩)) rfl (by kernel_rfl) (by kernel_rfl) (by kernel_rfl) (fun _ _ _ h => h) (Or.inl ⟨by rfl, by intro w0 hw0; clear hw0; go_simp⟩) HSC.out ?_
      simp only [Act.put, List.setIfInBounds_toArray, List.set_cons_zero, List.set_cons_succ]
      refine wpAnyH_ready (rs := [22]) (by kernel_rfl) (by simp) (AllReadyH.cons (o := ⟨none, _, _, _, _, _⟩) rfl (fun K hK => ?_) AllReadyH.nil)
      go_simp
      refine hK.out _ _ HSD.out (fun hsx => ?_)
      clear hK hsx K
      refine wpAnyH_done (by kernel_rfl) ?_ _
      clear hcw hfw
      go_wp2
      go_ret
      rw [HD1.out, HSL.out]
      exact ⟨rfl, ⟨_, HRW.out, .inl rfl⟩, HO3.out.trans HOW.out (.inl rfl)⟩
    · go_simp
      have hb18 : Below w3.heap.size w3 ((w3.drew).alloc (.cells #[.int .u8 (x.fill.toNat : Int)] 5)) := (HBD.out).alloc (HBD.out).size _
      have hn18 := shows_new (w3.drew) #[.int .u8 (x.fill.toNat : Int)] 5
      refine hK.out _ _ (HKEEP.out _ hb18) (fun hsx => ?_)
      clear hK hsx K
      try simp only [Act.put, List.setIfInBounds_toArray, List.set_cons_zero, List.set_cons_succ]
      have HB18 := Lib.hid hb18
      have HN18 := Lib.hid hn18
      clear hb18 hn18
      refine wpAnyH_ready (rs := [15]) (by kernel_rfl) (by simp) (AllReadyH.cons (o := ⟨some 52, _, _, _, _, _⟩) rfl (fun K hK => ?_) AllReadyH.nil)
      obtain ⟨v1, wa, hrun1, hown1, hgr1⟩ := run_append_shows (P := Try.prog) ((w3.drew).alloc (.cells #[.int .u8 (x.fill.toNat : Int)] 5)) base 42 42 5 i0 (.int .u8 0) 1 Try.underlying42 hi0' hz0 hz1 hz2 rfl (.slice none 0 0) 0 [] (World.ownsRow_nil _ _ _ _) w3.heap.size (some ⟨gi, 0, none⟩) d1.s[i].length ci (cells8 d1.s[i]) (HSH.out.below HB18.out) (cells8_one _) (by unfold maxLen; omega) (by omega) (by have := (HB18.out).size; omega)
      rw [List.nil_append, Nat.zero_add] at hown1
      have hbb := hgr1.below_from (Nat.le_refl _) (fun k hk => by cases hk)
      have hba : Below w3.heap.size w3 wa := (HB18.out).trans (hbb.mono (HB18.out).size)
      rw [if_pos (by rfl)]
      refine Lib.wp_append_run _ (.const (.slice none 0 0)) (.tmp 51) 42 42 rfl _ _ rfl rfl _ _ hrun1 ?_
      refine hK.out _ _ (HKEEP.out _ hba) (fun hsx => ?_)
      clear hK hsx K hrun1
      try simp only [Act.put, List.setIfInBounds_toArray, List.set_cons_zero, List.set_cons_succ]
      have HBA := Lib.hid hba
      have HOWN1 := Lib.hid hown1
      have hv1 : ∀ k, v1.ownBlock = some k → w3.heap.size ≤ k := fun k hk => by
        rcases hgr1.at_ with e | ⟨gg, e, hgg⟩
        · rw [e] at hk; cases hk
        · rw [e] at hk; injection hk with hk; have := (HB18.out).size; omega
      have HV1 := Lib.hid hv1
      have hn19 : Shows wa _ _ 1 [.int .u8 (x.fill.toNat : Int)] := HN18.out.moved (fun p hp => hbb.cell (by simpa using hp))
      have HNB := Lib.hid hn19
      clear hn19
      clear hba hown1 hgr1 hv1 hbb
      refine wpAnyH_ready (rs := [19]) (by kernel_rfl) (by simp) (AllReadyH.cons (o := ⟨some 56, _, _, _, _, _⟩) rfl (fun K hK => ?_) AllReadyH.nil)
      obtain ⟨v2, wc, hrun2, hown2, hgr2⟩ := run_append_shows (P := Try.prog) (wa) base 42 42 5 i0 (.int .u8 0) 1 Try.underlying42 hi0' hz0 hz1 hz2 rfl v1 _ _ HOWN1.out _ _ 1 1 _ HNB.out (by simp [Value.oneCell']) (by unfold maxLen; omega) (by omega) (by have := (HBA.out).size; omega)
      have hbc : Below w3.heap.size w3 wc := (HBA.out).grown hgr2.by_ (HBA.out).size (fun k hk => HV1.out k hk)
      rw [if_pos (by rfl)]
      refine Lib.wp_append_run _ (.tmp 52) (.tmp 55) 42 42 rfl _ _ rfl rfl _ _ hrun2 ?_
      refine hK.out _ _ (HKEEP.out _ hbc) (fun hsx => ?_)
      clear hK hsx K hrun2
      try simp only [Act.put, List.setIfInBounds_toArray, List.set_cons_zero, List.set_cons_succ]
      have hown3 : wc.ownsRow base 5 1 v2 (d1.s[i].length + 1) (cells8 (d1.s[i] ++ [x.fill])) := by rw [cells8_append]; exact hown2
      obtain ⟨hrw, hOw⟩ := HR3.out.write hbc i hi x.fill v2 hown3 hl
      obtain ⟨A2, c2, rfl⟩ := row_form hown3
      have hcw := HCELL.out _ hbc
      have hfw : wc.frozen? ⟨g, i, none⟩ = false := HFRO.out _ hbc
      have HRW := Lib.hid hrw
      have HOW := Lib.hid hOw
      have HSC := Lib.hid (HKEEP.out _ hbc)
      have HSD := Lib.hid (HSET.out _ hbc (.slice A2 (d1.s[i].length + 1) c2))
      clear hrw hOw hown3 hown2 hgr2 hbc
      refine wpAnyH_take (i := 20) (oi := ⟨some 57, _, _, _, _, _⟩) (v := .agg #[.slice A2 (d1.s[i].length + 1) c2]) rfl (by kernel_rfl) (by kernel_rfl) (by kernel_rfl) (fun _ _ _ h => h) (Or.inl ⟨by rfl, by intro w0 hw0; clear hw0; go_simp⟩) HSC.out ?_
      simp only [Act.put, List.setIfInBounds_toArray, List.set_cons_zero, List.set_cons_succ]
      refine wpAnyH_take (i := 21) (oi := ⟨some 58, _, _, _, _, _⟩) (v := .pointer (some ⟨g, i, none⟩)) rfl (by kernel_rfl) (by kernel_rfl) (by kernel_rfl) (fun _ _ _ h => h) (Or.inl ⟨by rfl, by intro w0 hw0; clear hw0; go_simp⟩) HSC.out ?_
      simp only [Act.put, List.setIfInBounds_toArray, List.set_cons_zero, List.set_cons_succ]
      refine wpAnyH_ready (rs := [22]) (by kernel_rfl) (by simp) (AllReadyH.cons (o := ⟨none, _, _, _, _, _⟩) rfl (fun K hK => ?_) AllReadyH.nil)
      go_simp
      refine hK.out _ _ HSD.out (fun hsx => ?_)
      clear hK hsx K
      refine wpAnyH_done (by kernel_rfl) ?_ _
      clear hcw hfw
      go_wp2
      go_ret
      rw [HD1.out, HSL.out]
      exact ⟨rfl, ⟨_, HRW.out, .inl rfl⟩, HO3.out.trans HOW.out (.inl rfl)⟩
  · go_simp
    have hb18 : Below w3.heap.size w3 ((w3.drew).alloc (.cells #[.int .u8 (x.fill.toNat : Int)] 5)) := (HBD.out).alloc (HBD.out).size _
    have hn18 := shows_new (w3.drew) #[.int .u8 (x.fill.toNat : Int)] 5
    refine hK.out _ _ (HKEEP.out _ hb18) (fun hsx => ?_)
    clear hK hsx K
    try simp only [Act.put, List.setIfInBounds_toArray, List.set_cons_zero, List.set_cons_succ]
    have HB18 := Lib.hid hb18
    have HN18 := Lib.hid hn18
    clear hb18 hn18
    refine wpAnyH_ready (rs := [14]) (by kernel_rfl) (by simp) (AllReadyH.cons (o := ⟨some 51, _, _, _, _, _⟩) rfl (fun K hK => ?_) AllReadyH.nil)
    have hc14 : w3.cell? ⟨g, i, none⟩ = some (.slice (some ⟨gi, 0, none⟩) d1.s[i].length ci) := HCELL.out w3 (Below.refl _ _)
    go_simp
    refine hK.out _ _ (HKEEP.out _ HB18.out) (fun hsx => ?_)
    clear hK hsx K hc14
    try simp only [Act.put, List.setIfInBounds_toArray, List.set_cons_zero, List.set_cons_succ]
    refine wpAnyH_ready (rs := [15]) (by kernel_rfl) (by simp) (AllReadyH.cons (o := ⟨some 52, _, _, _, _, _⟩) rfl (fun K hK => ?_) AllReadyH.nil)
    obtain ⟨v1, wa, hrun1, hown1, hgr1⟩ := run_append_shows (P := Try.prog) ((w3.drew).alloc (.cells #[.int .u8 (x.fill.toNat : Int)] 5)) base 42 42 5 i0 (.int .u8 0) 1 Try.underlying42 hi0' hz0 hz1 hz2 rfl (.slice none 0 0) 0 [] (World.ownsRow_nil _ _ _ _) w3.heap.size (some ⟨gi, 0, none⟩) d1.s[i].length ci (cells8 d1.s[i]) (HSH.out.below HB18.out) (cells8_one _) (by unfold maxLen; omega) (by omega) (by have := (HB18.out).size; omega)
    rw [List.nil_append, Nat.zero_add] at hown1
    have hbb := hgr1.below_from (Nat.le_refl _) (fun k hk => by cases hk)
    have hba : Below w3.heap.size w3 wa := (HB18.out).trans (hbb.mono (HB18.out).size)
    rw [if_pos (by rfl)]
    refine Lib.wp_append_run _ (.const (.slice none 0 0)) (.tmp 51) 42 42 rfl _ _ rfl rfl _ _ hrun1 ?_
    refine hK.out _ _ (HKEEP.out _ hba) (fun hsx => ?_)
    clear hK hsx K hrun1
    try simp only [Act.put, List.setIfInBounds_toArray, List.set_cons_zero, List.set_cons_succ]
    have HBA := Lib.hid hba
    have HOWN1 := Lib.hid hown1
    have hv1 : ∀ k, v1.ownBlock = some k → w3.heap.size ≤ k := fun k hk => by
      rcases hgr1.at_ with e | ⟨gg, e, hgg⟩
      · rw [e] at hk; cases hk
      · rw [e] at hk; injection hk with hk; have := (HB18.out).size; omega
    have HV1 := Lib.hid hv1
    have hn19 : Shows wa _ _ 1 [.int .u8 (x.fill.toNat : Int)] := HN18.out.moved (fun p hp => hbb.cell (by simpa using hp))
    have HNB := Lib.hid hn19
    clear hn19
    clear hba hown1 hgr1 hv1 hbb
    refine wpAnyH_ready (rs := [19]) (by kernel_rfl) (by simp) (AllReadyH.cons (o := ⟨some 56, _, _, _, _, _⟩) rfl (fun K hK => ?_) AllReadyH.nil)
    obtain ⟨v2, wc, hrun2, hown2, hgr2⟩ := run_append_shows (P := Try.prog) (wa) base 42 42 5 i0 (.int .u8 0) 1 Try.underlying42 hi0' hz0 hz1 hz2 rfl v1 _ _ HOWN1.out _ _ 1 1 _ HNB.out (by simp [Value.oneCell']) (by unfold maxLen; omega) (by omega) (by have := (HBA.out).size; omega)
    have hbc : Below w3.heap.size w3 wc := (HBA.out).grown hgr2.by_ (HBA.out).size (fun k hk => HV1.out k hk)
    rw [if_pos (by rfl)]
    refine Lib.wp_append_run _ (.tmp 52) (.tmp 55) 42 42 rfl _ _ rfl rfl _ _ hrun2 ?_
    refine hK.out _ _ (HKEEP.out _ hbc) (fun hsx => ?_)
    clear hK hsx K hrun2
    try simp only [Act.put, List.setIfInBounds_toArray, List.set_cons_zero, List.set_cons_succ]
    have hown3 : wc.ownsRow base 5 1 v2 (d1.s[i].length + 1) (cells8 (d1.s[i] ++ [x.fill])) := by rw [cells8_append]; exact hown2
    obtain ⟨hrw, hOw⟩ := HR3.out.write hbc i hi x.fill v2 hown3 hl
    obtain ⟨A2, c2, rfl⟩ := row_form hown3
    have hcw := HCELL.out _ hbc
    have hfw : wc.frozen? ⟨g, i, none⟩ = false := HFRO.out _ hbc
    have HRW := Lib.hid hrw
    have HOW := Lib.hid hOw
    have HSC := Lib.hid (HKEEP.out _ hbc)
    have HSD := Lib.hid (HSET.out _ hbc (.slice A2 (d1.s[i].length + 1) c2))
    clear hrw hOw hown3 hown2 hgr2 hbc
    refine wpAnyH_take (i := 20) (oi := ⟨some 57, _, _, _, _, _⟩) (v := .agg #[.slice A2 (d1.s[i].length + 1) c2]) rfl (by kernel_rfl) (by kernel_rfl) (by kernel_rfl) (fun _ _ _ h => h) (Or.inl ⟨by rfl, by intro w0 hw0; clear hw0; go_simp⟩) HSC.out ?_
    simp only [Act.put, List.setIfInBounds_toArray, List.set_cons_zero, List.set_cons_succ]
    refine wpAnyH_take (i := 21) (oi := ⟨some 58, _, _, _, _, _⟩) (v := .pointer (some ⟨g, i, none⟩)) rfl (by kernel_rfl) (by kernel_rfl) (by kernel_rfl) (fun _ _ _ h => h) (Or.inl ⟨by rfl, by intro w0 hw0; clear hw0; go_simp⟩) HSC.out ?_
    simp only [Act.put, List.setIfInBounds_toArray, List.set_cons_zero, List.set_cons_succ]
    refine wpAnyH_ready (rs := [22]) (by kernel_rfl) (by simp) (AllReadyH.cons (o := ⟨none, _, _, _, _, _⟩) rfl (fun K hK => ?_) AllReadyH.nil)
    go_simp
    refine hK.out _ _ HSD.out (fun hsx => ?_)
    clear hK hsx K
    refine wpAnyH_done (by kernel_rfl) ?_ _
    clear hcw hfw
    go_wp2
    go_ret
    rw [HD1.out, HSL.out]
    exact ⟨rfl, ⟨_, HRW.out, .inl rfl⟩, HO3.out.trans HOW.out (.inl rfl)⟩
end Go.Proofs.Ytdcfplfeagpcdaa
