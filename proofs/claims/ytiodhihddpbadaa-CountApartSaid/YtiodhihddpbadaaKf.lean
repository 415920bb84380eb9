/- The program's area: Copy, Commit, Abort. -/
import Derived.Test.YtiodhihddpbadaaKe
namespace Go.Proofs.Ytiodhihddpbadaa
open Go.RowKit

def commitS (c : CS) : CS := { c with was := c.now, kept := c.at_ }
def abortS (c : CS) : CS := { c with now := c.was, at_ := c.kept }
theorem u16_size : (Try.prog.info? 43).map (·.size) = some 1 := by kernel_rfl

section
variable {w : World} {b g0 p0 g1 p1 : Nat} {c : CS}
theorem AR.drew {T e : TypeId} {k : IntKind} (h : AR T e k w b g0 p0 g1 p1 c) : AR T e k w.drew b g0 p0 g1 p1 c := h.on (fun _ _ => rfl)
theorem Stays.from_drew {w w' : World} {F : Nat → Prop} (h : Stays w.drew w' F) : Stays w w' F := ⟨h.os, h.tape, h.output, h.size, h.block⟩
theorem commit_copy (h : AX w b g0 p0 g1 p1 c) : ∃ w1, (Builtin.copy_ #[22, 22] 3 #[.slice (some ⟨g1, 0, none⟩) c.now.length p1, .slice (some ⟨g0, 0, none⟩) c.now.length p0]).run Try.prog w = .ok (.int .i64 (c.now.length : Int)) w1 ∧
    AX w1 b g0 p0 g1 p1 { c with was := c.now } ∧ Stays w w1 (foot b g0 g1) := by
  obtain ⟨cur, hg, hnp, hpm, hsz, htk⟩ := row_blk h.was
  have hcells : ∀ j v, (nz .u16 c.now)[j]? = some v → w.cell? ((⟨g0, 0, none⟩ : Addr).add j) = some v := h.now.cells rfl
  have hrun := run_copy_row (P := Try.prog) w 22 22 3 43 g1 0 c.now.length p1 ⟨g0, 0, none⟩ c.now.length p0 cur 43 (nz .u16 c.now) Try.underlying22 u16_size hg (by rw [nz_len]; exact (Nat.min_self _).symm) hcells (by rw [nz_len]; omega) (nz_one _ _)
  rw [nz_len] at hrun
  refine ⟨_, hrun, ?_, ⟨rfl, rfl, rfl, by simp, fun j _ hj => setRow_other w g1 j _ (fun e => hj (.inr (.inr e)))⟩⟩
  have ho := h.ok
  refine ⟨?_, ?_, ⟨by rw [nz_len]; show c.now.length = c.now.length * 1; omega, .inr ⟨g1, p1, _, rfl, Nat.zero_le _, setRow_heap w g1 cur _ _ _ hg, hnp, hpm, ?_, ?_⟩⟩, h.apart, ⟨ho.n0, ho.n1, rfl, ho.bn, ho.bn, ho.a1, ho.k1⟩⟩
  · rw [setRow_other w g1 b _ (fun e => (h.kb tA).2 e.symm)]; exact h.blk
  · exact rowS_on h.now (fun k hk => setRow_other w g1 k _ (fun e => h.apart (by injection hk with hk; have hk' : g0 = k := hk; rw [hk', e])))
  · simp [nz_len] at hsz ⊢; omega
  · simp [nz_len]
theorem abort_copy (h : AX w b g0 p0 g1 p1 c) : ∃ w1, (Builtin.copy_ #[22, 22] 3 #[.slice (some ⟨g0, 0, none⟩) c.now.length p0, .slice (some ⟨g1, 0, none⟩) c.now.length p1]).run Try.prog w = .ok (.int .i64 (c.now.length : Int)) w1 ∧
    AX w1 b g0 p0 g1 p1 { c with now := c.was } ∧ Stays w w1 (foot b g0 g1) := by
  obtain ⟨cur, hg, hnp, hpm, hsz, htk⟩ := row_blk h.now
  have ho := h.ok
  have hl := ho.len
  have hcells : ∀ j v, (nz .u16 c.was)[j]? = some v → w.cell? ((⟨g1, 0, none⟩ : Addr).add j) = some v := h.was.cells rfl
  have hrun := run_copy_row (P := Try.prog) w 22 22 3 43 g0 0 c.now.length p0 ⟨g1, 0, none⟩ c.now.length p1 cur 43 (nz .u16 c.was) Try.underlying22 u16_size hg (by rw [nz_len, hl]; exact (Nat.min_self _).symm) hcells (by rw [nz_len]; omega) (nz_one _ _)
  rw [nz_len, hl] at hrun
  refine ⟨_, hrun, ?_, ⟨rfl, rfl, rfl, by simp, fun j _ hj => setRow_other w g0 j _ (fun e => hj (.inr (.inl e)))⟩⟩
  refine ⟨?_, ⟨by rw [nz_len]; show c.was.length = c.was.length * 1; omega, .inr ⟨g0, p0, _, by rw [hl], Nat.zero_le _, setRow_heap w g0 cur _ _ _ hg, by show c.was.length ≤ p0; omega, hpm, ?_, ?_⟩⟩, ?_, h.apart, ⟨by show 0 < c.was.length; have := ho.n0; omega, by show c.was.length ≤ 1000; have := ho.n1; omega, rfl, ho.bw, ho.bw, by show c.at_ < c.was.length; have := ho.a1; omega, by show c.kept < c.was.length; have := ho.k1; omega⟩⟩
  · rw [setRow_other w g0 b _ (fun e => (h.kb tA).1 e.symm)]
    show _ = some (Obj.cells #[Value.slice _ c.was.length _, Value.slice _ c.was.length _, _, _] _ _)
    rw [hl]; exact h.blk
  · simp [nz_len] at hsz ⊢; omega
  · simp [nz_len]
  · show World.ownsRow _ _ _ _ (Value.slice _ c.was.length _) c.was.length _
    rw [hl]
    exact rowS_on h.was (fun k hk => setRow_other w g0 k _ (fun e => h.apart (by injection hk with hk; have hk' : g1 = k := hk; rw [hk', e])))
end
section
variable (w : World) (b g0 p0 g1 p1 : Nat) (c : CS)
theorem commit_any (h : AX w b g0 p0 g1 p1 c) : Calls Try.prog 14 #[.pointer (some ⟨b, 0, none⟩)] w fun e w' => e = .returned (.tuple #[]) ∧ AX w' b g0 p0 g1 p1 (commitS c) ∧ Stays w w' (foot b g0 g1) := by
  have HN := Lib.hid (none_any w b g0 p0 g1 p1 c h)
  obtain ⟨w1, hcp, h1, hs1⟩ := commit_copy h.drew
  have h2 := h1.setKept tA c.at_ h.ok.a1
  have HE : Hid (AX _ b g0 p0 g1 p1 (commitS c)) := Lib.hid h2
  have HS := Lib.hid (hs1.from_drew.set ⟨b, 3, none⟩ (.inl (.inl rfl)) (.int .i64 (c.at_ : Int)))
  have c0 := h.c0
  have c1 := h.c1
  have c2 := h1.c2
  have c3 := h1.c3
  have f3 := h1.fr 3
  clear h h1 h2 hs1
  go_enter Try.func14, Try.ntmps14
  go_wp2_with (go_at_call 30; refine HN.out.mono ?_; rintro e w' ⟨rfl, rfl⟩)
  go_region
  go_wp2
  go_end0
  exact ⟨rfl, HE.out, HS.out⟩
theorem abort_any (h : AX w b g0 p0 g1 p1 c) : Calls Try.prog 15 #[.pointer (some ⟨b, 0, none⟩)] w fun e w' => e = .returned (.tuple #[]) ∧ AX w' b g0 p0 g1 p1 (abortS c) ∧ Stays w w' (foot b g0 g1) := by
  have HN := Lib.hid (none_any w b g0 p0 g1 p1 c h)
  obtain ⟨w1, hcp, h1, hs1⟩ := abort_copy h.drew
  have h2 := h1.setAt tA c.kept h1.ok.k1
  have HE : Hid (AX _ b g0 p0 g1 p1 (abortS c)) := Lib.hid h2
  have HS := Lib.hid (hs1.from_drew.set ⟨b, 2, none⟩ (.inl (.inl rfl)) (.int .i64 (c.kept : Int)))
  have c0 := h.c0
  have c1 := h.c1
  have c2 := h1.c2
  have c3 := h1.c3
  have f2 := h1.fr 2
  clear h h1 h2 hs1
  go_enter Try.func15, Try.ntmps15
  go_wp2_with (go_at_call 30; refine HN.out.mono ?_; rintro e w' ⟨rfl, rfl⟩)
  go_region
  go_wp2
  go_end0
  exact ⟨rfl, HE.out, HS.out⟩
abbrev Cells4 (W : World) (b g0 p0 g1 p1 : Nat) (c : CS) : Prop := W.cell? ⟨b, 0, none⟩ = some (.slice (some ⟨g0, 0, none⟩) c.now.length p0) ∧ W.cell? ⟨b, 1, none⟩ = some (.slice (some ⟨g1, 0, none⟩) c.now.length p1) ∧ W.cell? ⟨b, 2, none⟩ = some (.int .i64 (c.at_ : Int)) ∧ W.cell? ⟨b, 3, none⟩ = some (.int .i64 (c.kept : Int))
theorem Cells4.alloc {W : World} {b g0 p0 g1 p1 : Nat} {c : CS} (h : Cells4 W b g0 p0 g1 p1 c) (o : Obj) : Cells4 (W.alloc o) b g0 p0 g1 p1 c := by
  obtain ⟨h0, h1, h2, h3⟩ := h
  refine ⟨?_, ?_, ?_, ?_⟩
  · rw [World.cell?_alloc_lt _ _ _ (World.block_lt_of_cell? W _ h0)]; exact h0
  · rw [World.cell?_alloc_lt _ _ _ (World.block_lt_of_cell? W _ h1)]; exact h1
  · rw [World.cell?_alloc_lt _ _ _ (World.block_lt_of_cell? W _ h2)]; exact h2
  · rw [World.cell?_alloc_lt _ _ _ (World.block_lt_of_cell? W _ h3)]; exact h3
theorem AR.cells4 {T e : TypeId} {k : IntKind} {w : World} {b g0 p0 g1 p1 : Nat} {c : CS} (h : AR T e k w b g0 p0 g1 p1 c) : Cells4 w b g0 p0 g1 p1 c := ⟨h.c0, h.c1, h.c2, h.c3⟩
theorem AR.below {T e : TypeId} {k : IntKind} {w w' : World} {b g0 p0 g1 p1 : Nat} {c : CS} (h : AR T e k w b g0 p0 g1 p1 c) (hb : Below w.heap.size w w') : AR T e k w' b g0 p0 g1 p1 c := h.on (fun j hj => by
  rcases hj with rfl | rfl | rfl
  · exact hb.block _ h.lt
  · exact hb.block _ h.lt0
  · exact hb.block _ h.lt1)
theorem copy_any (h : AX w b g0 p0 g1 p1 c) : Calls Try.prog 11 #[.pointer (some ⟨b, 0, none⟩)] w fun e w' => ∃ b2 h0 q0 h1 q1, e = .returned (.pointer (some ⟨b2, 0, none⟩)) ∧ AX w' b2 h0 q0 h1 q1 c ∧ (∀ j, foot b2 h0 h1 j → w.heap.size ≤ j) ∧ Below w.heap.size w w' := by
  have HN := Lib.hid (none_any w b g0 p0 g1 p1 c h)
  have n0 := h.ok.n0
  have n1 := h.ok.n1
  have hl := h.ok.len
  have hc0 : Calls Try.prog 27 #[.slice (some ⟨g0, 0, none⟩) c.now.length p0] w.drew fun e w' => ∃ g q, e = .returned (.slice (some ⟨g, 0, none⟩) c.now.length q) ∧ Cells4 w' b g0 p0 g1 p1 c ∧ Hid (w'.ownsRow 0 43 1 (.slice (some ⟨g, 0, none⟩) c.now.length q) c.now.length (nz .u16 c.now) ∧ w.heap.size ≤ g ∧ g < w'.heap.size ∧ Below w.heap.size w w') := by
    refine (clone_any w.drew _ ⟨g0, 0, none⟩ c.now p0 n0 (by omega) (row_shows h.drew.now)).mono ?_
    rintro e w' ⟨g, q, he, h1, h2, h3, h4⟩
    have h4' : Below w.heap.size w w' := ((Below.refl _ w).drew).trans h4
    exact ⟨g, q, he, (h.below h4').cells4, h1, h2, h3, h4'⟩
  have hc1 : ∀ W, Below w.heap.size w W → Calls Try.prog 27 #[.slice (some ⟨g1, 0, none⟩) c.now.length p1] W fun e w' => ∃ g q, e = .returned (.slice (some ⟨g, 0, none⟩) c.now.length q) ∧ Cells4 w' b g0 p0 g1 p1 c ∧ Hid (w'.ownsRow 0 43 1 (.slice (some ⟨g, 0, none⟩) c.was.length q) c.was.length (nz .u16 c.was) ∧ W.heap.size ≤ g ∧ Below W.heap.size W w') := by
    intro W hb
    have hW := h.below hb
    have hsh := row_shows hW.was
    have hcl := clone_any W W.heap.size ⟨g1, 0, none⟩ c.was p1 (by omega) (by omega) (by rw [hl]; exact hsh)
    rw [hl] at hcl
    refine hcl.mono ?_
    rintro e w' ⟨g, q, he, h1, h2, h3, h4⟩
    exact ⟨g, q, he, (hW.below h4).cells4, by rw [hl]; exact h1, h2, h4⟩
  have HC0 := Lib.hid hc0
  have HC1 := Lib.hid hc1
  have HS0 := Lib.hid h.drew.cells4
  have HOK := Lib.hid h.ok
  clear hc0 hc1 h
  go_enter Try.func11, Try.ntmps11
  go_wp2_with (go_at_call 30; refine HN.out.mono ?_; rintro e w' ⟨rfl, rfl⟩)
  go_region_held_law (fun W => W.cell? ⟨b, 0, none⟩ = some (.slice (some ⟨g0, 0, none⟩) c.now.length p0) ∧ W.cell? ⟨b, 1, none⟩ = some (.slice (some ⟨g1, 0, none⟩) c.now.length p1) ∧ W.cell? ⟨b, 2, none⟩ = some (.int .i64 (c.at_ : Int)) ∧ W.cell? ⟨b, 3, none⟩ = some (.int .i64 (c.kept : Int)))
    (first | with_reducible exact HS0.out | with_reducible exact hSb | with_reducible exact hSa | exact Cells4.alloc hSb _)
    (first
      | (go_at_call 27; (with_reducible refine HC0.out.mono ?_); rintro e wa ⟨ga, qa, rfl, hSa, hra⟩)
      | (go_at_call 27; (with_reducible refine (HC1.out _ hra.out.2.2.2).mono ?_); rintro e wb ⟨gb, qb, rfl, hSb, hrb⟩))
  go_wp2
  go_ret
  obtain ⟨r1, r2, r3⟩ := new_area w wa wb c.now c.was ga qa gb qb c.at_ c.kept hra.out.1 hra.out.2.1 hra.out.2.2.1 hra.out.2.2.2 hrb.out.1 hrb.out.2.1 hrb.out.2.2 HOK.out
  exact ⟨_, _, _, _, _, rfl, r1, r2, r3⟩
end
end Go.Proofs.Ytiodhihddpbadaa
