/- For DiskTwins: a pair of disks that lies still, a disk that lies still, a copy and a document's disk that go on. -/
import Derived.Test.YtdcfplfeagpcdaaGe
set_option linter.unusedVariables false
namespace Go.Proofs.Ytdcfplfeagpcdaa
open Go.RowKit

theorem pd_copy {w : World} {F : Nat → Prop} {b : Nat} {d : RD} (h : PD w F b d) :
    Calls Try.prog 10 #[.pointer (some ⟨b, 0, none⟩)] w fun e w' => ∃ b' F, e = .returned (.pointer (some ⟨b', 0, none⟩)) ∧ PD w' F b' d ∧ (∀ k, F k → w.heap.size ≤ k) ∧ Below w.heap.size w w' := by
  obtain ⟨L, m, D, X, hp, _⟩ := h
  exact pcopy_any w b m L D X d hp
theorem pd_same {w : World} {F G : Nat → Prop} {b bo : Nat} {d o : RD} (h : PD w F b d) (ho : PD w G bo o) :
    Calls Try.prog 12 #[.pointer (some ⟨b, 0, none⟩), .pointer (some ⟨bo, 0, none⟩)] w fun e w' => e = .returned (.bool (sameB d o)) ∧ Below w.heap.size w w' := by
  obtain ⟨L, m, D, X, hp, _⟩ := h
  obtain ⟨Lo, mo, Do, Xo, hpo, _⟩ := ho
  exact psame_any w b m L D X d hp bo mo Lo Do Xo o hpo
theorem sameB_self (d : RD) : sameB d d = true := sameB_yes rfl (fun i hi => ⟨rfl, rfl⟩)
theorem sameB_comm (d o : RD) : sameB d o = sameB o d := by
  unfold sameB
  refine decide_eq_decide.2 ⟨fun h => ⟨h.1.symm, fun i hi => ?_⟩, fun h => ⟨h.1.symm, fun i hi => ?_⟩⟩
  · have := h.2 i (by omega); exact ⟨this.1.symm, this.2.symm⟩
  · have := h.2 i (by omega); exact ⟨this.1.symm, this.2.symm⟩
theorem BB.pd {w W : World} {b br : Nat} {d1 d2 : RD} (h : BB w W b br d1 d2) : ∃ F, PD W F b d1 := by obtain ⟨F, _, h1, _⟩ := h; exact ⟨F, h1⟩

def TT (w1 w2 W : World) (bo bv bt : Nat) (d0 dt dv : RD) : Prop := Below w1.heap.size w1 W ∧ w1.heap.size ≤ w2.heap.size ∧ w2.heap.size ≤ W.heap.size ∧ ∃ F2 F3 v, PD W F2 bo d0 ∧ (∀ k, F2 k → k < w2.heap.size) ∧ PD W F3 bt dt ∧ (∀ k, F3 k → w2.heap.size ≤ k) ∧ RDisk W w1.heap.size bv v dv
theorem TT.b {w1 w2 W : World} {bo bv bt : Nat} {d0 dt dv : RD} (h : TT w1 w2 W bo bv bt d0 dt dv) : Below w1.heap.size w1 W := h.1
theorem TT.below {w1 w2 W W' : World} {bo bv bt : Nat} {d0 dt dv : RD} (h : TT w1 w2 W bo bv bt d0 dt dv) (hb : Below W.heap.size W W') : TT w1 w2 W' bo bv bt d0 dt dv := by
  obtain ⟨h1, h2, h3, F2, F3, v, g1, g2, g3, g4, g5⟩ := h
  exact ⟨h1.trans (hb.mono h1.size), h2, Nat.le_trans h3 hb.size, F2, F3, v, g1.below hb, g2, g3.below hb, g4, g5.on hb⟩
theorem TT.do1 {w1 w2 W : World} {bo bv bt : Nat} {d0 dt dv : RD} (h : TT w1 w2 W bo bv bt d0 dt dv) (x : ST) (A : Option Addr) (cap : Nat) (hx : x.ok) {n : Nat} (hf : Fine dt n) (hn : n < 1000000) (hp : Shows w1 w1.heap.size A x.picks.length (nums x.picks)) (hpc : x.picks.length ≤ 1000000) :
    Calls Try.prog 21 #[.pointer (some ⟨bt, 0, none⟩), .agg #[.int .i64 x.kind, .int .i64 x.n, .int .u8 (x.fill.toNat : Int), .slice A x.picks.length cap]] W fun e w' => e = .returned (.int .i64 (stR dt x)) ∧ TT w1 w2 w' bo bv bt d0 (stD dt x) dv := by
  obtain ⟨h1, h2, h3, F2, F3, v, g1, g2, g3, g4, g5⟩ := h
  refine (pdo_all W F3 bt dt g3 x A cap hx.2 (fun i hi => by have := hf.ver i hi; omega) ((hp.below h1).wide h1.size) hpc).mono fun e w' hpd => ⟨hpd.1, ?_⟩
  obtain ⟨_, F', k1, k2, k3⟩ := hpd
  refine ⟨h1.trans (k3.below h1.size (fun k hk => Nat.le_trans h2 (g4 k hk))), h2, Nat.le_trans h3 k3.size, F2, F', v, ?_, g2, k1, fun k hk => (k2 k hk).elim (g4 k) (fun h => Nat.le_trans h3 h), g5.stays k3 (fun k cs t hh e1 e2 => kind_not g3 hh e1 e2)⟩
  exact g1.on (fun k hk => k3.block k (g1.lt hk) (fun h => by have := g2 k hk; have := g4 k h; omega))
theorem TT.do2 {w1 w2 W : World} {bo bv bt : Nat} {d0 dt dv : RD} (h : TT w1 w2 W bo bv bt d0 dt dv) (x : ST) (A : Option Addr) (cap : Nat) {n : Nat} (hf : Fine dv n) (hn : n < 1000000) (hp : Shows w1 w1.heap.size A x.picks.length (nums x.picks)) (hpc : x.picks.length ≤ 1000000) :
    Calls Try.prog 25 #[.pointer (some ⟨bv, 0, none⟩), .agg #[.int .i64 x.kind, .int .i64 x.n, .int .u8 (x.fill.toNat : Int), .slice A x.picks.length cap]] W fun e w' => e = .returned (.int .i64 (stR dv x)) ∧ TT w1 w2 w' bo bv bt d0 dt (stD dv x) := by
  obtain ⟨h1, h2, h3, F2, F3, v, g1, g2, g3, g4, g5⟩ := h
  refine (rdo_all W w1.heap.size bv v dv g5 x A cap hf.fz h1.size hf.n1 (fun i hi => by have := hf.ver i hi; omega) w1.heap.size (Nat.le_refl _) (hp.below h1) hpc).mono fun e w' hq => ?_
  obtain ⟨he, ⟨v', k1, k2⟩, k3⟩ := hq
  exact ⟨he, h1.trans (k3.below h1.size g5.1 (fun k hk => (g5.own hk).1)), h2, Nat.le_trans h3 k3.size, F2, F3, v', g1.own2 g5 k3, g2, g3.own2 g5 k3, g4, k1⟩
/-- the copy is made -/
theorem TT.new {w1 w2 : World} {b bo bv : Nat} {d0 : RD} {F : Nat → Prop} (h : BB w1 w2 bo bv d0 d0) (hd : PD w2 F b d0) :
    Calls Try.prog 10 #[.pointer (some ⟨b, 0, none⟩)] w2 fun e w' => ∃ bt, e = .returned (.pointer (some ⟨bt, 0, none⟩)) ∧ TT w1 w2 w' bo bv bt d0 d0 d0 := by
  obtain ⟨F2, v, h1, h2, h3, h4⟩ := h
  refine (pd_copy hd).mono fun e w' hp => ?_
  obtain ⟨bt, F3, he, k1, k2, k3⟩ := hp
  exact ⟨bt, he, h4.trans (k3.mono h4.size), h4.size, k3.size, F2, F3, v, h1.below k3, fun k hk => h1.lt hk, k1, k2, h3.on k3⟩
theorem TT.now {w1 w2 W : World} {bo bv bt : Nat} {d0 dt dv : RD} (h : TT w1 w2 W bo bv bt d0 dt dv) (i : Nat) (hi : i < dv.s.length) :
    Calls Try.prog 26 #[.pointer (some ⟨bv, 0, none⟩), .int .i64 i] W fun e w' => e = .returned (.int .u8 (((dv.s[i]).getLastD 0).toNat : Int)) ∧ ∃ k, w' = W.drewN k := by
  obtain ⟨h1, h2, h3, F2, F3, v, g1, g2, g3, g4, g5⟩ := h
  exact now_any W _ bv v dv g5 i hi
theorem TT.lasts {w1 w2 W : World} {bo bv bt : Nat} {d0 dt dv : RD} (h : TT w1 w2 W bo bv bt d0 dt dv) (i : Nat) (hi : i < dv.s.length) :
    Calls Try.prog 27 #[.pointer (some ⟨bv, 0, none⟩), .int .i64 i] W fun e w' => e = .returned (.int .u8 (((dv.s[i]).headD 0).toNat : Int)) ∧ w' = W := by
  obtain ⟨h1, h2, h3, F2, F3, v, g1, g2, g3, g4, g5⟩ := h
  exact lasts_any W _ bv v dv g5 i hi
theorem BB.now {w W : World} {b br : Nat} {d1 d2 : RD} (h : BB w W b br d1 d2) (i : Nat) (hi : i < d2.s.length) :
    Calls Try.prog 26 #[.pointer (some ⟨br, 0, none⟩), .int .i64 i] W fun e w' => e = .returned (.int .u8 (((d2.s[i]).getLastD 0).toNat : Int)) ∧ ∃ k, w' = W.drewN k := by
  obtain ⟨F, v, h1, h2, h3, h4⟩ := h
  exact now_any W _ br v d2 h3 i hi
theorem BB.lasts {w W : World} {b br : Nat} {d1 d2 : RD} (h : BB w W b br d1 d2) (i : Nat) (hi : i < d2.s.length) :
    Calls Try.prog 27 #[.pointer (some ⟨br, 0, none⟩), .int .i64 i] W fun e w' => e = .returned (.int .u8 (((d2.s[i]).headD 0).toNat : Int)) ∧ w' = W := by
  obtain ⟨F, v, h1, h2, h3, h4⟩ := h
  exact lasts_any W _ br v d2 h3 i hi
theorem TT.rc0 {w1 w2 W : World} {bo bv bt : Nat} {d0 dt dv : RD} (h : TT w1 w2 W bo bv bt d0 dt dv) : ∃ A c, W.cell? ⟨bv, 0, none⟩ = some (.slice A dv.s.length c) := by
  obtain ⟨h1, h2, h3, F2, F3, v, g1, g2, g3, g4, g5⟩ := h
  obtain ⟨A, c, rfl⟩ := g5.form
  exact ⟨A, c, g5.c0⟩
theorem TT.sameT {w1 w2 W : World} {bo bv bt b : Nat} {d0 dt dv d : RD} {F : Nat → Prop} (h : TT w1 w2 W bo bv bt d0 dt dv) (hd : PD W F b d) :
    Calls Try.prog 12 #[.pointer (some ⟨bt, 0, none⟩), .pointer (some ⟨b, 0, none⟩)] W fun e w' => e = .returned (.bool (sameB dt d)) ∧ Below W.heap.size W w' := by
  obtain ⟨h1, h2, h3, F2, F3, v, g1, g2, g3, g4, g5⟩ := h
  exact pd_same g3 hd
theorem TT.tsame {w1 w2 W : World} {bo bv bt b : Nat} {d0 dt dv d : RD} {F : Nat → Prop} (h : TT w1 w2 W bo bv bt d0 dt dv) (hd : PD W F b d) :
    Calls Try.prog 12 #[.pointer (some ⟨b, 0, none⟩), .pointer (some ⟨bt, 0, none⟩)] W fun e w' => e = .returned (.bool (sameB d dt)) ∧ Below W.heap.size W w' := by
  obtain ⟨h1, h2, h3, F2, F3, v, g1, g2, g3, g4, g5⟩ := h
  exact pd_same hd g3
theorem TT.osame {w1 w2 W : World} {bo bv bt b : Nat} {d0 dt dv d : RD} {F : Nat → Prop} (h : TT w1 w2 W bo bv bt d0 dt dv) (hd : PD W F b d) :
    Calls Try.prog 12 #[.pointer (some ⟨b, 0, none⟩), .pointer (some ⟨bo, 0, none⟩)] W fun e w' => e = .returned (.bool (sameB d d0)) ∧ Below W.heap.size W w' := by
  obtain ⟨h1, h2, h3, F2, F3, v, g1, g2, g3, g4, g5⟩ := h
  exact pd_same hd g1
/-- how far they are known to be the same -/
def sameTo (d o : RD) (k : Nat) : Bool := decide (d.s.length = o.s.length ∧ ∀ i, i < k → sameAt d o i)
theorem sameTo_zero (d o : RD) : sameTo d o 0 = decide (d.s.length = o.s.length) := by
  unfold sameTo
  exact decide_eq_decide.2 ⟨fun h => h.1, fun h => ⟨h, fun i hi => by omega⟩⟩
theorem sameTo_all (d o : RD) : sameTo d o d.s.length = sameB d o := rfl
theorem sameTo_no {d o : RD} {k : Nat} (h : sameTo d o k = false) (hk : k ≤ d.s.length) : sameB d o = false := by
  unfold sameTo at h
  unfold sameB
  rw [decide_eq_false_iff_not] at h ⊢
  exact fun g => h ⟨g.1, fun i hi => g.2 i (by omega)⟩
theorem sameTo_succ {d o : RD} {k : Nat} (h : sameTo d o k = true) : sameTo d o (k + 1) = decide (sameAt d o k) := by
  unfold sameTo at h ⊢
  rw [decide_eq_true_iff] at h
  refine decide_eq_decide.2 ⟨fun g => g.2 k (by omega), fun g => ⟨h.1, fun i hi => ?_⟩⟩
  rcases Nat.lt_or_ge i k with h1 | h1
  · exact h.2 i h1
  · have : i = k := by omega
    subst this
    exact g
end Go.Proofs.Ytdcfplfeagpcdaa
