/- The program's disk and the document's, side by side. -/
import Derived.Test.YtdcfplfeagpcdaaGa
set_option linter.unusedVariables false
namespace Go.Proofs.Ytdcfplfeagpcdaa
open Go.RowKit

theorem RDisk.stays {w w' : World} {F : Nat → Prop} {base b : Nat} {v : Value} {d : RD} (h : RDisk w base b v d) (hs : Stays w w' F) (hF : ∀ (k : Nat) (cs : Array Value) (t : TypeId), w.heap[k]? = some (.cells cs t (0, 0)) → t ≠ 70 → t ≠ 38 → ¬ F k) : RDisk w' base b v d := by
  have hk : ∀ (k : Nat) (cs : Array Value) (t : TypeId), w.heap[k]? = some (.cells cs t (0, 0)) → t ≠ 70 → t ≠ 38 → w'.heap[k]? = some (.cells cs t (0, 0)) := fun k cs t hh h1 h2 => (hs.block k (Array.getElem?_eq_some_iff.1 hh).1 (hF k cs t hh h1 h2)).trans hh
  obtain ⟨h1, h2, xs, ho, hp⟩ := h
  exact ⟨h1, hk _ _ _ h2 (by decide) (by decide), xs, row_on ho (fun k cur _ hh => hk _ _ _ hh (by decide) (by decide)), hp.kept (fun g cur hg => hk _ _ _ hg (by decide) (by decide))⟩
theorem RDisk.own {w : World} {base b : Nat} {v : Value} {d : RD} (h : RDisk w base b v d) {k : Nat} (hk : v.ownBlock = some k) : base ≤ k ∧ ∃ cs, w.heap[k]? = some (.cells cs 44 (0, 0)) := by
  obtain ⟨h1, h2, xs, ho, hp⟩ := h
  rcases ho.2 with ⟨rfl, _⟩ | ⟨g, cap, cur, rfl, hg, hh, _⟩
  · cases hk
  · injection hk with hk
    have e : g = k := hk
    subst e
    exact ⟨hg, _, hh⟩
theorem PD.own2 {w w' : World} {F : Nat → Prop} {b base br : Nat} {v : Value} {d d2 : RD} (h : PD w F b d) (hr : RDisk w base br v d2) (ho : Own2 w w' br v) : PD w' F b d := by
  refine h.on (fun k hk => ho.block k (h.lt hk) (fun e => ?_) (fun e => ?_))
  · subst e
    exact kind_not h hr.2.1 (by decide) (by decide) hk
  · obtain ⟨_, cs, hc⟩ := hr.own e
    exact kind_not h hc (by decide) (by decide) hk

/-- both of the call's own -/
def BB (w W : World) (b br : Nat) (d1 d2 : RD) : Prop := ∃ F v, PD W F b d1 ∧ (∀ k, F k → w.heap.size ≤ k) ∧ RDisk W w.heap.size br v d2 ∧ Below w.heap.size w W
theorem BB.b {w W : World} {b br : Nat} {d1 d2 : RD} (h : BB w W b br d1 d2) : Below w.heap.size w W := by obtain ⟨_, _, _, _, _, h⟩ := h; exact h
theorem BB.kn {w W : World} {b br : Nat} {d1 d2 : RD} (h : BB w W b br d1 d2) : Kn w W b d1 := by obtain ⟨F, _, h1, h2, _, h4⟩ := h; exact ⟨F, h1, h2, h4⟩
theorem BB.below {w W W' : World} {b br : Nat} {d1 d2 : RD} (h : BB w W b br d1 d2) (hb : Below W.heap.size W W') : BB w W' b br d1 d2 := by
  obtain ⟨F, v, h1, h2, h3, h4⟩ := h
  exact ⟨F, v, h1.below hb, h2, h3.on hb, h4.trans (hb.mono h4.size)⟩
/-- an act of the program's disk -/
theorem BB.pdone {w W W' : World} {b br : Nat} {d1 d1' d2 : RD} {er : Int} {e : Ending} {F : Nat → Prop} {v : Value} (h1 : PD W F b d1) (h2 : ∀ k, F k → w.heap.size ≤ k) (h3 : RDisk W w.heap.size br v d2) (h4 : Below w.heap.size w W) (hp : PDone W F b er d1' e W') : BB w W' b br d1' d2 := by
  obtain ⟨_, F', g1, g2, g3⟩ := hp
  exact ⟨F', v, g1, fun k hk => (g2 k hk).elim (h2 k) (fun h => Nat.le_trans h4.size h), h3.stays g3 (fun k cs t hh k1 k2 => kind_not h1 hh k1 k2), h4.trans (g3.below h4.size h2)⟩
theorem BB.do1 {w W : World} {b br : Nat} {d1 d2 : RD} (h : BB w W b br d1 d2) (x : ST) (A : Option Addr) (cap : Nat) (hx : x.ok) {n : Nat} (hf : Fine d1 n) (hn : n < 1000000) (hp : Shows w w.heap.size A x.picks.length (nums x.picks)) (hpc : x.picks.length ≤ 1000000) :
    Calls Try.prog 21 #[.pointer (some ⟨b, 0, none⟩), .agg #[.int .i64 x.kind, .int .i64 x.n, .int .u8 (x.fill.toNat : Int), .slice A x.picks.length cap]] W fun e w' => e = .returned (.int .i64 (stR d1 x)) ∧ BB w w' b br (stD d1 x) d2 := by
  obtain ⟨F, v, h1, h2, h3, h4⟩ := h
  exact (pdo_all W F b d1 h1 x A cap hx.2 (fun i hi => by have := hf.ver i hi; omega) ((hp.below h4).wide h4.size) hpc).mono fun e w' hp => ⟨hp.1, BB.pdone h1 h2 h3 h4 hp⟩
theorem BB.do2 {w W : World} {b br : Nat} {d1 d2 : RD} (h : BB w W b br d1 d2) (x : ST) (A : Option Addr) (cap : Nat) {n : Nat} (hf : Fine d2 n) (hn : n < 1000000) (hp : Shows w w.heap.size A x.picks.length (nums x.picks)) (hpc : x.picks.length ≤ 1000000) :
    Calls Try.prog 25 #[.pointer (some ⟨br, 0, none⟩), .agg #[.int .i64 x.kind, .int .i64 x.n, .int .u8 (x.fill.toNat : Int), .slice A x.picks.length cap]] W fun e w' => e = .returned (.int .i64 (stR d2 x)) ∧ BB w w' b br d1 (stD d2 x) := by
  obtain ⟨F, v, h1, h2, h3, h4⟩ := h
  refine (rdo_all W w.heap.size br v d2 h3 x A cap hf.fz h4.size hf.n1 (fun i hi => by have := hf.ver i hi; omega) w.heap.size (Nat.le_refl _) (hp.below h4) hpc).mono fun e w' hp => ?_
  obtain ⟨he, ⟨v', g1, g2⟩, g3⟩ := hp
  exact ⟨he, F, v', h1.own2 h3 g3, h2, g1, h4.trans (g3.below h4.size h3.1 (fun k hk => (h3.own hk).1))⟩
theorem BB.shows {w W : World} {b br : Nat} {d : RD} (h : BB w W b br d d) :
    Calls Try.prog 14 #[.pointer (some ⟨b, 0, none⟩), .pointer (some ⟨br, 0, none⟩)] W fun e w' => e = .returned (.bool true) ∧ BB w w' b br d d := by
  have h0 := h
  obtain ⟨F, v, h1, h2, h3, h4⟩ := h
  exact (shows_any W F b d h1 w.heap.size br v h3).mono fun e w' hp => ⟨hp.1, h0.below hp.2⟩
/-- two new disks -/
theorem Kn.bb {w W : World} {b : Nat} {d : RD} (h : Kn w W b d) (n : Nat) (hn : 1 ≤ n ∧ n ≤ 8192) :
    Calls Try.prog 28 #[.int .i64 n] W fun e w' => ∃ br, e = .returned (.tuple #[.pointer (some ⟨br, 0, none⟩), .int .i64 0]) ∧ BB w w' b br d (newD n) := by
  obtain ⟨F, h1, h2, h3⟩ := h
  refine (new_any n W hn).mono fun e w' hp => ?_
  obtain ⟨he, ⟨v, g1⟩, g2⟩ := hp
  obtain ⟨g11, g12, xs, g13, g14, g15⟩ := g1
  refine ⟨_, he, F, v, h1.below g2, h2, ⟨h3.size, g12, xs, ⟨g13.1, ?_⟩, g14, fun i hi => ?_⟩, h3.trans (g2.mono h3.size)⟩
  · rcases g13.2 with k | ⟨g, cap, cur, k1, k2, k3⟩
    · exact .inl k
    · exact .inr ⟨g, cap, cur, k1, Nat.le_trans h3.size k2, k3⟩
  · obtain ⟨x, y1, y2, y3⟩ := g15 i hi
    refine ⟨x, y1, ⟨y2.1, ?_⟩, y3⟩
    rcases y2.2 with k | ⟨g, cap, cur, k1, k2, k3⟩
    · exact .inl k
    · exact .inr ⟨g, cap, cur, k1, Nat.le_trans h3.size k2, k3⟩
theorem newD_fine (n : Nat) (h : 1 ≤ n ∧ n ≤ 8192) : Fine (newD n) 1 :=
  ⟨by simp [newD]; omega, by simp [newD]; omega, by show (-1 : Int) ≤ -1 ∧ (-1 : Int) ≤ _; omega, fun i hi => by simp [newD]⟩
/-- steps, one behind the other -/
def runD (d : RD) : List ST → RD
  | [] => d
  | x :: l => runD (stD d x) l
theorem runD_snoc (d : RD) (l : List ST) (x : ST) : runD d (l ++ [x]) = stD (runD d l) x := by
  induction l generalizing d with
  | nil => rfl
  | cons y l ih => exact ih (stD d y)
theorem runD_take (d : RD) (l : List ST) (i : Nat) (h : i < l.length) : runD d (l.take (i + 1)) = stD (runD d (l.take i)) l[i] := by
  rw [List.take_succ_eq_append_getElem h, runD_snoc]
theorem runD_fine (n : Nat) (h : 1 ≤ n ∧ n ≤ 8192) (l : List ST) (hl : ∀ s ∈ l, s.ok) : ∀ i, i ≤ l.length → Fine (runD (newD n) (l.take i)) (i + 1)
  | 0, _ => by rw [List.take_zero]; exact newD_fine n h
  | i + 1, hi => by
    rw [runD_take _ _ i hi]
    exact (runD_fine n h l hl i (by omega)).step (by omega) _ (hl _ (List.getElem_mem hi)).2
/-- a step's four cells, as the walk reads them -/
abbrev SCells (W : World) (p : Addr) (x : ST) (AP : Option Addr) (cP : Nat) : Prop :=
  W.cell? p = some (.int .i64 x.kind) ∧ W.cell? ⟨p.block, p.off + 1, none⟩ = some (.int .i64 x.n) ∧ W.cell? ⟨p.block, p.off + 2, none⟩ = some (.int .u8 (x.fill.toNat : Int)) ∧ W.cell? ⟨p.block, p.off + 3, none⟩ = some (.slice AP x.picks.length cP)
/-- a step's cells, where they are read -/
theorem SRow.at2 {w : World} {A : Option Addr} {l : List ST} (h : SRow w w.heap.size A l) (i : Nat) (hi : i < l.length) : ∃ p : Addr, A = some p ∧ ∃ AP cP, Shows w w.heap.size AP l[i].picks.length (nums l[i].picks) ∧
    Hid (∀ W, Below w.heap.size w W → SCells W (p.add (i * 4)) l[i] AP cP) := by
  obtain ⟨p, e, hpb, hx⟩ := h (by omega)
  obtain ⟨cs, ⟨AP, cP, rfl, hs, _⟩, hc⟩ := hx i hi
  refine ⟨p, e, AP, cP, hs, fun W hb => ?_⟩
  have hcc : ∀ j u, (stCells l[i] AP cP)[j]? = some u → W.cell? (p.add (i * 4 + j)) = some u := fun j u hu => by
    rw [hb.cell (by rw [addr_block]; exact hpb)]
    exact hc j u hu
  refine ⟨hcc 0 _ rfl, ?_, ?_, ?_⟩
  · rw [← add_pos (p.add (i * 4)) 1 (by omega), addr_twice]; exact hcc 1 _ rfl
  · rw [← add_pos (p.add (i * 4)) 2 (by omega), addr_twice]; exact hcc 2 _ rfl
  · rw [← add_pos (p.add (i * 4)) 3 (by omega), addr_twice]; exact hcc 3 _ rfl
end Go.Proofs.Ytdcfplfeagpcdaa
