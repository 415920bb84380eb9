/- DiskFutures: three copies beside a disk and the document's. -/
import Derived.Test.YtdcfplfeagpcdaaHb
import Derived.Lib.SmallJoins
set_option linter.unusedVariables false
namespace Go.Proofs.Ytdcfplfeagpcdaa
open Go.RowKit

structure F5 (w W : World) (b br ba bb bc : Nat) (d da db dc : RD) (U : Value) (F FA FB FC : Nat → Prop) (v : Value) : Prop where
  p : PD W F b d
  r : RDisk W w.heap.size br v d
  pa : PD W FA ba da
  pb : PD W FB bb db
  pc : PD W FC bc dc
  l0 : ∀ k, F k → w.heap.size ≤ k
  la : ∀ k, FA k → w.heap.size ≤ k
  lb : ∀ k, FB k → w.heap.size ≤ k
  lc : ∀ k, FC k → w.heap.size ≤ k
  a0 : ∀ k, FA k → ¬ F k
  b0 : ∀ k, FB k → ¬ F k
  c0 : ∀ k, FC k → ¬ F k
  ab : ∀ k, FA k → ¬ FB k
  ac : ∀ k, FA k → ¬ FC k
  bc : ∀ k, FB k → ¬ FC k
  u : W.ownsRow w.heap.size 3 1 U (openL d).length (ints (openL d))
  bel : Below w.heap.size w W
def FF (w W : World) (b br ba bb bc : Nat) (d da db dc : RD) (U : Value) : Prop := ∃ F FA FB FC v, F5 w W b br ba bb bc d da db dc U F FA FB FC v
section
variable {w W : World} {b br ba bb bc : Nat} {d da db dc : RD} {U : Value}
theorem FF.low (h : FF w W b br ba bb bc d da db dc U) : Below w.heap.size w W := by obtain ⟨_, _, _, _, _, h⟩ := h; exact h.bel
theorem FF.swapAB (h : FF w W b br ba bb bc d da db dc U) : FF w W b br bb ba bc d db da dc U := by
  obtain ⟨F, FA, FB, FC, v, h⟩ := h
  exact ⟨F, FB, FA, FC, v, h.p, h.r, h.pb, h.pa, h.pc, h.l0, h.lb, h.la, h.lc, h.b0, h.a0, h.c0, fun k hb ha => h.ab k ha hb, h.bc, h.ac, h.u, h.bel⟩
theorem FF.swapAC (h : FF w W b br ba bb bc d da db dc U) : FF w W b br bc bb ba d dc db da U := by
  obtain ⟨F, FA, FB, FC, v, h⟩ := h
  exact ⟨F, FC, FB, FA, v, h.p, h.r, h.pc, h.pb, h.pa, h.l0, h.lc, h.lb, h.la, h.c0, h.b0, h.a0, fun k hc hb => h.bc k hb hc, fun k hc ha => h.ac k ha hc, fun k hb ha => h.ab k ha hb, h.u, h.bel⟩
theorem own_low {w : World} {base b n : Nat} {e : TypeId} {v : Value} {xs : List Value} (h : w.ownsRow base e 1 v n xs) (hb : b ≤ base) : w.ownsRow b e 1 v n xs := by
  refine ⟨h.1, ?_⟩
  rcases h.2 with h | ⟨g, cap, cur, h1, h2, h3⟩
  · exact .inl h
  · exact .inr ⟨g, cap, cur, h1, Nat.le_trans hb h2, h3⟩
theorem own_below {w w' : World} {base n : Nat} {e : TypeId} {v : Value} {xs : List Value} (h : w.ownsRow base e 1 v n xs) (hb : Below w.heap.size w w') : w'.ownsRow base e 1 v n xs :=
  rowS_on h (fun k hk => hb.block k (h.lt k hk).2)
theorem own_int_k {w : World} {base n : Nat} {v : Value} {xs : List Value} (h : w.ownsRow base 3 1 v n xs) : ∀ k, v.ownBlock = some k → ∃ cs, w.heap[k]? = some (.cells cs 3 (0, 0)) := fun k hk => row_kind (own_low h (Nat.zero_le _)) hk
theorem int_ne : 3 ≠ 70 ∧ 3 ≠ 38 := by decide
theorem FF.below {W' : World} (h : FF w W b br ba bb bc d da db dc U) (hb : Below W.heap.size W W') : FF w W' b br ba bb bc d da db dc U := by
  obtain ⟨F, FA, FB, FC, v, h⟩ := h
  exact ⟨F, FA, FB, FC, v, h.p.below hb, h.r.on hb, h.pa.below hb, h.pb.below hb, h.pc.below hb, h.l0, h.la, h.lb, h.lc, h.a0, h.b0, h.c0, h.ab, h.ac, h.bc, own_below h.u hb, h.bel.trans (hb.mono h.bel.size)⟩
theorem F5.opA {W' : World} {F FA FB FC : Nat → Prop} {v : Value} {er : Int} {da' : RD} {e : Ending} (h : F5 w W b br ba bb bc d da db dc U F FA FB FC v) (hp : PDone W FA ba er da' e W') : FF w W' b br ba bb bc d da' db dc U := by
  obtain ⟨_, FA', g1, g2, g3⟩ := hp
  refine ⟨F, FA', FB, FC, v, h.p.on (fun k hk => g3.block k (h.p.lt hk) (fun ha => h.a0 k ha hk)), h.r.stays g3 (fun k cs t hk h1 h2 hF => PKind.not hk h1 h2 (h.pa.kind hF)), g1,
    h.pb.on (fun k hk => g3.block k (h.pb.lt hk) (fun ha => h.ab k ha hk)), h.pc.on (fun k hk => g3.block k (h.pc.lt hk) (fun ha => h.ac k ha hk)), h.l0, ?_, h.lb, h.lc, ?_, h.b0, h.c0, ?_, ?_, h.bc, ?_, h.bel.trans (g3.below h.bel.size h.la)⟩
  · intro k hk
    exact (g2 k hk).elim (h.la k) (fun h2 => Nat.le_trans h.bel.size h2)
  · intro k hk hF
    exact (g2 k hk).elim (fun ha => h.a0 k ha hF) (fun h2 => by have := h.p.lt hF; omega)
  · intro k hk hF
    exact (g2 k hk).elim (fun ha => h.ab k ha hF) (fun h2 => by have := h.pb.lt hF; omega)
  · intro k hk hF
    exact (g2 k hk).elim (fun ha => h.ac k ha hF) (fun h2 => by have := h.pc.lt hF; omega)
  · refine rowS_on h.u (fun k hk => ?_)
    obtain ⟨cs, hcs⟩ := own_int_k h.u k hk
    exact g3.block k (Array.getElem?_eq_some_iff.1 hcs).1 (fun hF => PKind.not hcs int_ne.1 int_ne.2 (h.pa.kind hF))
theorem FF.crash (h : FF w W b br ba bb bc d da db dc U) (A : Option Addr) (cap : Nat) (picks : List Int) (hs : Shows W W.heap.size A picks.length (nums picks)) (hpc : picks.length ≤ 1000000) (hq : ∀ p : Addr, A = some p → 0 < picks.length → p.block < w.heap.size ∨ ∃ cs, W.heap[p.block]? = some (.cells cs 3 (0, 0))) :
    Calls Try.prog 11 #[.pointer (some ⟨ba, 0, none⟩), .slice A picks.length cap] W fun e w' => e = .returned (.int .i64 0) ∧ FF w w' b br ba bb bc d (crashD da picks) db dc U := by
  obtain ⟨F, FA, FB, FC, v, h⟩ := h
  refine (pd_crash W FA ba da h.pa A cap picks hs hpc (fun p hA h0 hF => ?_)).mono fun e w' hp => ⟨hp.1, h.opA hp⟩
  rcases hq p hA h0 with hq | ⟨cs, hq⟩
  · have := h.la _ hF; omega
  · exact PKind.not hq int_ne.1 int_ne.2 (h.pa.kind hF)
theorem FF.start {W4 W5 W6 : World} {FA FB FC : Nat → Prop} (h : BB w W b br d d) (hu : W.ownsRow w.heap.size 3 1 U (openL d).length (ints (openL d))) (ca : PD W4 FA ba d) (ha : ∀ k, FA k → W.heap.size ≤ k) (h4 : Below W.heap.size W W4) (cb : PD W5 FB bb d) (hb : ∀ k, FB k → W4.heap.size ≤ k) (h5 : Below W4.heap.size W4 W5) (cc : PD W6 FC bc d) (hc : ∀ k, FC k → W5.heap.size ≤ k) (h6 : Below W5.heap.size W5 W6) : FF w W6 b br ba bb bc d d d d U := by
  obtain ⟨F, v, g1, g2, g3, g4⟩ := h
  have h46 := (h4.trans (h5.mono h4.size)).trans (h6.mono (h4.trans (h5.mono h4.size)).size)
  have h56 := h5.trans (h6.mono h5.size)
  have s1 := g4.size; have s4 := h4.size; have s5 := h5.size; have s6 := h6.size
  exact ⟨F, FA, FB, FC, v, g1.below h46, g3.on h46, ca.below h56, cb.below h6, cc, g2, fun k hk => by have := ha k hk; omega, fun k hk => by have := hb k hk; omega, fun k hk => by have := hc k hk; omega,
    fun k hk hF => by have := ha k hk; have := g1.lt hF; omega, fun k hk hF => by have := hb k hk; have := g1.lt hF; omega, fun k hk hF => by have := hc k hk; have := g1.lt hF; omega,
    fun k hk hF => by have := hb k hF; have := ca.lt hk; omega, fun k hk hF => by have := hc k hF; have := ca.lt hk; omega, fun k hk hF => by have := hc k hF; have := cb.lt hk; omega, own_below hu h46, g4.trans (h46.mono g4.size)⟩
theorem FF.read (h : FF w W b br ba bb bc d da db dc U) (n : Int) : Calls Try.prog 16 #[.pointer (some ⟨ba, 0, none⟩), .int .i64 n] W fun e w' => e = .returned (.tuple #[.agg (sec (rdC da n)).toArray, .int .i64 (rdR da n)]) ∧ Below W.heap.size W w' := by
  obtain ⟨F, FA, FB, FC, v, h⟩ := h
  exact pd_read W FA ba da h.pa n
theorem FF.sectors (h : FF w W b br ba bb bc d da db dc U) : Calls Try.prog 15 #[.pointer (some ⟨ba, 0, none⟩)] W fun e w' => e = .returned (.int .i64 (da.s.length : Int)) ∧ w' = W := by
  obtain ⟨F, FA, FB, FC, v, h⟩ := h
  exact pd_sectors h.pa
theorem FF.openA (h : FF w W b br ba bb bc d da db dc U) (ho : openL da = []) : Calls Try.prog 13 #[.pointer (some ⟨ba, 0, none⟩)] W fun e w' => ∃ A c, e = .returned (.slice A 0 c) ∧ FF w w' b br ba bb bc d da db dc U := by
  have h0 := h
  obtain ⟨F, FA, FB, FC, v, h⟩ := h
  refine (pd_open h.pa).mono fun e w' ⟨u, he, hu, hb⟩ => ?_
  obtain ⟨A, c, rfl⟩ := row_form hu
  rw [ho] at he
  exact ⟨A, c, he, h0.below hb⟩
theorem FF.sameAC (h : FF w W b br ba bb bc d da db dc U) (he : da = dc) : Calls Try.prog 12 #[.pointer (some ⟨ba, 0, none⟩), .pointer (some ⟨bc, 0, none⟩)] W fun e w' => e = .returned (.bool true) ∧ FF w w' b br ba bb bc d da db dc U := by
  have h0 := h
  obtain ⟨F, FA, FB, FC, v, h⟩ := h
  refine (pd_same h.pa h.pc).mono fun e w' hp => ⟨?_, h0.below hp.2⟩
  rw [hp.1, he, sameB_self]
theorem FF.shows (h : FF w W b br ba bb bc d da db dc U) : Calls Try.prog 14 #[.pointer (some ⟨b, 0, none⟩), .pointer (some ⟨br, 0, none⟩)] W fun e w' => e = .returned (.bool true) ∧ FF w w' b br ba bb bc d da db dc U := by
  have h0 := h
  obtain ⟨F, FA, FB, FC, v, h⟩ := h
  exact (shows_any W F b d h.p w.heap.size br v h.r).mono fun e w' hp => ⟨hp.1, h0.below hp.2⟩
/-- where the document's disk keeps a sector's past -/
theorem FF.past (h : FF w W b br ba bb bc d da db dc U) (i : Nat) (hi : i < d.s.length) : ∃ g c AX cX, W.cell? ⟨br, 0, none⟩ = some (.slice (some ⟨g, 0, none⟩) d.s.length c) ∧ W.cell? ⟨g, i, none⟩ = some (.slice AX (pastN d i).length cX) ∧ Shows W W.heap.size AX (pastN d i).length (cells8 (pastN d i)) ∧ br < W.heap.size ∧ g < W.heap.size ∧ (pastN d i).length ≤ 1000000 ∧ 0 < (pastN d i).length := by
  obtain ⟨F, FA, FB, FC, v, h⟩ := h
  have hc0 := h.r.c0
  have hbr := h.r.lt
  obtain ⟨h1, h2, xs, ho, hl, hp⟩ := h.r
  obtain ⟨x, hx, hown, hpos, hle⟩ := hp i hi
  have e : pastN d i = d.s[i] := by simp [pastN, List.getD, hi]
  obtain ⟨g, c, rfl⟩ := Joins.ownsRow_form ho (by omega)
  obtain ⟨AX, cX, rfl⟩ := row_form hown
  have hcell := ho.cells (g := g) rfl i _ hx
  have hsh := Shows.owned hown
  rw [← e] at hcell hsh hpos hle
  refine ⟨g, c, AX, cX, hc0, ?_, hsh, hbr, (ho.lt g rfl).2, hle, hpos⟩
  have ea : (⟨g, 0, none⟩ : Addr).add i = ⟨g, i, none⟩ := by unfold Addr.add; split <;> simp_all
  rw [ea] at hcell
  exact hcell
/-- the first of the open ones, where the slice of them is -/
theorem FF.first (h : FF w W b br ba bb bc d da db dc U) (h0 : 0 < (openL d).length) : ∃ g c, U = .slice (some ⟨g, 0, none⟩) (openL d).length c ∧ ∀ W', FF w W' b br ba bb bc d da db dc U → W'.cell? ⟨g, 0, none⟩ = some (.int .i64 ((openL d).getD 0 0 : Nat)) := by
  obtain ⟨F, FA, FB, FC, v, h⟩ := h
  obtain ⟨g, c, rfl⟩ := Joins.ownsRow_form h.u h0
  refine ⟨g, c, rfl, fun W' h' => ?_⟩
  obtain ⟨F, FA, FB, FC, v, h'⟩ := h'
  have hcell := h'.u.cells (g := g) rfl 0 (.int .i64 ((openL d).getD 0 0 : Nat)) (by simp [ints, List.getD, h0])
  have ea : (⟨g, 0, none⟩ : Addr).add 0 = ⟨g, 0, none⟩ := by unfold Addr.add; split <;> simp_all
  rw [ea] at hcell
  exact hcell
end
end Go.Proofs.Ytdcfplfeagpcdaa
