/- The law's do: Grow. -/
import Derived.Test.YtiodhihddpbadaaKo
import Derived.Test.YtiodhihddpbadaaUm
set_option linter.unusedVariables false
namespace Go.Proofs.Ytiodhihddpbadaa
open Go.RowKit
/-- how long the row in a block's first cell is -/
def slen (w : World) (b : Nat) : Nat := match w.cell? ⟨b, 0, none⟩ with
  | some (.slice _ n _) => n
  | _ => 0
theorem AR.slen {T e : TypeId} {k : IntKind} {w : World} {b g0 p0 g1 p1 : Nat} {c : CS} (h : AR T e k w b g0 p0 g1 p1 c) : slen w b = c.now.length := by simp [Proofs.Ytiodhihddpbadaa.slen, h.c0]
/-- while the document's grows -/
def midS (c : CS) (m : Nat) : CS := { now := c.now ++ List.replicate m 0, was := c.was ++ List.replicate m 0, at_ := c.at_, kept := c.kept }
theorem midS_len (c : CS) (m : Nat) : (midS c m).now.length = c.now.length + m := by simp [midS]
theorem midS_ok {c : CS} (h : c.ok) (m : Nat) (hm : c.now.length + m ≤ 1000) : (midS c m).ok := by
  have h1 := growS_ok h m hm
  exact ⟨h1.n0, h1.n1, h1.len, h1.bn, h1.bw, h1.a1, by have := h.k1; simp [midS]; omega⟩
theorem midS_succ (c : CS) (m : Nat) : (midS c (m + 1)).now = (midS c m).now ++ [0] ∧ (midS c (m + 1)).was = (midS c m).was ++ [0] ∧ (midS c (m + 1)).at_ = (midS c m).at_ ∧ (midS c (m + 1)).kept = (midS c m).kept := by
  refine ⟨?_, ?_, rfl, rfl⟩
  · simp [midS, List.replicate_succ', List.append_assoc]
  · simp [midS, List.replicate_succ', List.append_assoc]
theorem nought_news {w : World} {B : Nat} {t : TypeId} {fr : Nat × Nat} (hb : w.heap[B]? = some (.cells #[.int .i64 0] t fr)) : ∀ j u, ([.int .i64 0] : List Value)[j]? = some u → w.cell? ((⟨B, 0, none⟩ : Addr).add j) = some u := World.news_of_block hb
theorem cell_grown {w w' : World} {row : Option Nat} (hg : w.grownBy w' row) (a : Addr) (h1 : a.block < w.heap.size) (h2 : some a.block ≠ row) : w'.cell? a = w.cell? a := hg.cell_far a h1 h2
theorem at_block {g0 g H B : Nat} {v : Value} (hv : v.ownBlock = some g0) (h : v.ownBlock = some g ∨ g = H) (hH : H = B) : g = g0 ∨ B ≤ g := by
  rcases h with e | e
  · rw [hv] at e; injection e with e; exact .inl e.symm
  · exact .inr (by omega)
/-- both rows are a nought longer, and laid -/
theorem grow_round {wr W1 W1' W2 W2' : World} {b h0 q0 h1 q1 g0 k0 g1 k1 n : Nat} {c c2 : CS} (h : RX wr b h0 q0 h1 q1 c) (hb1 : Below wr.heap.size wr W1) (hg1 : W1.grownBy W1' (some h0))
    (hat1 : g0 = h0 ∨ W1.heap.size ≤ g0) (hlt1 : g0 < W1'.heap.size) (ho1 : W1'.ownsRow 0 3 1 (.slice (some ⟨g0, 0, none⟩) n k0) n (nz .i64 c.now ++ [.int .i64 0]))
    (hb2 : Below W1'.heap.size W1' W2) (hg2 : W2.grownBy W2' (some h1)) (hat2 : g1 = h1 ∨ W2.heap.size ≤ g1) (ho2 : W2'.ownsRow 0 3 1 (.slice (some ⟨g1, 0, none⟩) n k1) n (nz .i64 c.was ++ [.int .i64 0]))
    (hn : n = c.now.length + 1) (e1 : c2.now = c.now ++ [0]) (e2 : c2.was = c.was ++ [0]) (e3 : c2.at_ = c.at_) (e4 : c2.kept = c.kept) (ok2 : c2.ok) :
    W2'.cell? ⟨b, 0, none⟩ = some (.slice (some ⟨h0, 0, none⟩) c.now.length q0) ∧ W2'.frozen? ⟨b, 0, none⟩ = false ∧
    (W2'.setCell ⟨b, 0, none⟩ (.slice (some ⟨g0, 0, none⟩) n k0)).cell? ⟨b, 1, none⟩ = some (.slice (some ⟨h1, 0, none⟩) c.now.length q1) ∧ (W2'.setCell ⟨b, 0, none⟩ (.slice (some ⟨g0, 0, none⟩) n k0)).frozen? ⟨b, 1, none⟩ = false ∧
    (RX ((W2'.setCell ⟨b, 0, none⟩ (.slice (some ⟨g0, 0, none⟩) n k0)).setCell ⟨b, 1, none⟩ (.slice (some ⟨g1, 0, none⟩) n k1)) b g0 k0 g1 k1 c2 ∧
      (∀ j, foot b g0 g1 j → foot b h0 h1 j ∨ wr.heap.size ≤ j) ∧ Stays wr ((W2'.setCell ⟨b, 0, none⟩ (.slice (some ⟨g0, 0, none⟩) n k0)).setCell ⟨b, 1, none⟩ (.slice (some ⟨g1, 0, none⟩) n k1)) (foot b h0 h1)) := by
  subst hn
  have hA1 := h.below hb1
  obtain ⟨n0, n1⟩ := h.kb tR
  have hlb := h.lt
  have hl0 := h.lt0
  have hl1 := h.lt1
  have s1 := hb1.size
  have s1' := hg1.size
  have s2 := hb2.size
  have s2' := hg2.size
  have hap := h.apart
  have b1 : W1'.heap[b]? = wr.heap[b]? := (hg1.block b (by omega) (fun e => by injection e with e; exact n0 e.symm)).trans (hb1.block b hlb)
  have b2 : W2.heap[b]? = wr.heap[b]? := (hb2.block b (by omega)).trans b1
  have b3 : W2'.heap[b]? = wr.heap[b]? := (hg2.block b (by omega) (fun e => by injection e with e; exact n1 e.symm)).trans b2
  have c3 := b3.trans h.blk
  have c4 := Joins.block_setCell c3 (i := 0) (.slice (some ⟨g0, 0, none⟩) (c.now.length + 1) k0)
  have g0b : g0 ≠ b := by rcases hat1 with e | e <;> omega
  have g1b : g1 ≠ b := by rcases hat2 with e | e <;> omega
  have g0h : g0 ≠ h1 := by rcases hat1 with e | e <;> omega
  have g01 : g0 ≠ g1 := by rcases hat2 with e | e <;> omega
  have ho5 : ∀ j, j ≠ b → ((W2'.setCell ⟨b, 0, none⟩ (.slice (some ⟨g0, 0, none⟩) (c.now.length + 1) k0)).setCell ⟨b, 1, none⟩ (.slice (some ⟨g1, 0, none⟩) (c.now.length + 1) k1)).heap[j]? = W2'.heap[j]? := fun j hj => by
    rw [Below.heap_setCell _ _ _ _ hj, Below.heap_setCell _ _ _ _ hj]
  have nl : c2.now.length = c.now.length + 1 := by rw [e1]; simp
  refine ⟨by rw [Joins.cell_of_block c3 0]; rfl, Joins.unfrozen_of_block c3 0, by rw [Joins.cell_of_block c4 1]; rfl, Joins.unfrozen_of_block c4 1, ⟨?_, ?_, ?_, g01, ok2⟩, ?_, ?_⟩
  · rw [Joins.block_setCell c4, nl, e3, e4]; rfl
  · rw [nl, e1, nz_append]
    refine rowS_on ho1 (fun k hk => ?_)
    injection hk with hk
    have hk' : g0 = k := hk
    subst hk'
    rw [ho5 g0 g0b, hg2.block g0 (by omega) (fun e => by injection e with e; exact g0h e), hb2.block g0 hlt1]
  · rw [nl, e2, nz_append]
    refine rowS_on ho2 (fun k hk => ho5 k ?_)
    injection hk with hk
    have hk' : g1 = k := hk
    subst hk'
    exact g1b
  · rintro j (rfl | rfl | rfl)
    · exact .inl (.inl rfl)
    · rcases hat1 with e | e
      · exact .inl (.inr (.inl e))
      · exact .inr (by omega)
    · rcases hat2 with e | e
      · exact .inl (.inr (.inr e))
      · exact .inr (by omega)
  · have t1 : Stays wr W1' (foot b h0 h1) := (Stays.of_below hb1 _).grown hg1 (fun k hk => by injection hk with hk; exact .inl (.inr (.inl hk.symm)))
    have t2 : Stays wr W2 (foot b h0 h1) := t1.trans (Stays.of_below hb2 (fun _ => False)) (fun _ h => h.elim)
    have t3 : Stays wr W2' (foot b h0 h1) := t2.grown hg2 (fun k hk => by injection hk with hk; exact .inl (.inr (.inr hk.symm)))
    exact (t3.set ⟨b, 0, none⟩ (.inl (.inl rfl)) _).set ⟨b, 1, none⟩ (.inl (.inl rfl)) _
/-- what the first append leaves of the second row -/
theorem pack_cg {wr W1 W1' : World} {b h0 q0 h1 q1 : Nat} {c : CS} (h : RX wr b h0 q0 h1 q1 c) (hb : Below wr.heap.size wr W1) (hg : W1.grownBy W1' (some h0)) :
    W1'.cell? ⟨b, 1, none⟩ = some (.slice (some ⟨h1, 0, none⟩) c.now.length q1) ∧ (W1'.alloc (.cells #[.int .i64 0] 3)).cell? ⟨b, 1, none⟩ = some (.slice (some ⟨h1, 0, none⟩) c.now.length q1) ∧
    Hid (W1'.ownsRow 0 3 1 (.slice (some ⟨h1, 0, none⟩) c.now.length q1) c.now.length (nz .i64 c.was)) ∧ Hid ((W1'.alloc (.cells #[.int .i64 0] 3)).ownsRow 0 3 1 (.slice (some ⟨h1, 0, none⟩) c.now.length q1) c.now.length (nz .i64 c.was)) := by
  obtain ⟨n0, n1⟩ := h.kb tR
  have hlb := h.lt
  have hl1 := h.lt1
  have s1 := hb.size
  have s2 := hg.size
  have hap := h.apart
  have b1 : W1'.heap[b]? = wr.heap[b]? := (hg.block b (by omega) (fun e => by injection e with e; exact n0 e.symm)).trans (hb.block b hlb)
  have b2 : (W1'.alloc (.cells #[.int .i64 0] 3)).heap[b]? = wr.heap[b]? := (Below.heap_alloc W1' _ b (by omega)).trans b1
  have r1 : W1'.ownsRow 0 3 1 (.slice (some ⟨h1, 0, none⟩) c.now.length q1) c.now.length (nz .i64 c.was) := rowS_on h.was (fun k hk => by
    injection hk with hk
    have hk' : h1 = k := hk
    subst hk'
    exact (hg.block h1 (by omega) (fun e => by injection e with e; exact hap e.symm)).trans (hb.block h1 hl1))
  exact ⟨by rw [Joins.cell_of_block (b1.trans h.blk) 1]; rfl, by rw [Joins.cell_of_block (b2.trans h.blk) 1]; rfl, r1, r1.alloc _⟩
theorem nought_grown {wr W1' : World} {h0 : Nat} (hg : World.grownBy ((wr.alloc (.cells #[.int .i64 0] 3)).alloc (.cells #[.int .i64 0] 3)).drew.drew W1' (some h0)) (hl : h0 < wr.heap.size) :
    (∀ j u, ([.int .i64 0] : List Value)[j]? = some u → W1'.cell? ((⟨wr.heap.size, 0, none⟩ : Addr).add j) = some u) ∧ (∀ j u, ([.int .i64 0] : List Value)[j]? = some u → W1'.cell? ((⟨(wr.alloc (.cells #[.int .i64 0] 3)).heap.size, 0, none⟩ : Addr).add j) = some u) ∧ (∀ j u, ([.int .i64 0] : List Value)[j]? = some u → W1'.cell? ((⟨wr.heap.size + 1, 0, none⟩ : Addr).add j) = some u) := by
  have h1 : (((wr.alloc (.cells #[.int .i64 0] 3)).alloc (.cells #[.int .i64 0] 3)).drew.drew).heap[wr.heap.size]? = some (.cells #[.int .i64 0] 3 (0, 0)) := by
    show ((wr.alloc (.cells #[.int .i64 0] 3)).alloc (.cells #[.int .i64 0] 3)).heap[wr.heap.size]? = _
    rw [Below.heap_alloc _ _ _ (by simp)]; exact heap_alloc_new wr _
  have h2 : (((wr.alloc (.cells #[.int .i64 0] 3)).alloc (.cells #[.int .i64 0] 3)).drew.drew).heap[(wr.alloc (.cells #[.int .i64 0] 3)).heap.size]? = some (.cells #[.int .i64 0] 3 (0, 0)) := heap_alloc_new (wr.alloc (.cells #[.int .i64 0] 3)) _
  have s : (((wr.alloc (.cells #[.int .i64 0] 3)).alloc (.cells #[.int .i64 0] 3)).drew.drew).heap.size = wr.heap.size + 2 := by simp
  have s1 : (wr.alloc (.cells #[.int .i64 0] 3)).heap.size = wr.heap.size + 1 := by simp
  have h3 := nought_news ((hg.block _ (by omega) (fun e => by injection e with e; omega)).trans h2)
  exact ⟨nought_news ((hg.block _ (by omega) (fun e => by injection e with e; omega)).trans h1), h3, by rw [← s1]; exact h3⟩
/-- what the first append leaves of the area's two cells -/
theorem cells_grown {wr W1 W1' : World} {b h0 q0 h1 q1 : Nat} {c : CS} (h : RX wr b h0 q0 h1 q1 c) (hb : Below wr.heap.size wr W1) (hg : W1.grownBy W1' (some h0)) :
    (W1'.cell? ⟨b, 0, none⟩ = some (.slice (some ⟨h0, 0, none⟩) c.now.length q0) ∧ W1'.cell? ⟨b, 1, none⟩ = some (.slice (some ⟨h1, 0, none⟩) c.now.length q1)) ∧
    ((W1'.alloc (.cells #[.int .i64 0] 3)).cell? ⟨b, 0, none⟩ = some (.slice (some ⟨h0, 0, none⟩) c.now.length q0) ∧ (W1'.alloc (.cells #[.int .i64 0] 3)).cell? ⟨b, 1, none⟩ = some (.slice (some ⟨h1, 0, none⟩) c.now.length q1)) := by
  obtain ⟨n0, n1⟩ := h.kb tR
  have hlb := h.lt
  have s1 := hb.size
  have s2 := hg.size
  have b1 : W1'.heap[b]? = wr.heap[b]? := (hg.block b (by omega) (fun e => by injection e with e; exact n0 e.symm)).trans (hb.block b hlb)
  have b2 : (W1'.alloc (.cells #[.int .i64 0] 3)).heap[b]? = wr.heap[b]? := (Below.heap_alloc W1' _ b (by omega)).trans b1
  exact ⟨⟨by rw [Joins.cell_of_block (b1.trans h.blk) 0]; rfl, by rw [Joins.cell_of_block (b1.trans h.blk) 1]; rfl⟩, ⟨by rw [Joins.cell_of_block (b2.trans h.blk) 0]; rfl, by rw [Joins.cell_of_block (b2.trans h.blk) 1]; rfl⟩⟩
/-- a frame whose slots 242 to 267 hold something -/
def okD (o : Option Nat) : Bool := match o with
  | none => true
  | some n => decide (242 ≤ n) && decide (n < 268)
def MidL (l : List Value) (a : Act) : Prop := 268 ≤ l.length ∧ ∃ mid : List Value, mid.length = 26 ∧ a = ⟨(l.take 242 ++ (mid ++ l.drop 268)).toArray, []⟩
theorem MidL.base (l : List Value) (h : decide (268 ≤ l.length) = true) : MidL l ⟨l.toArray, []⟩ := by
  have h := of_decide_eq_true h
  refine ⟨h, (l.drop 242).take 26, by simp; omega, ?_⟩
  congr 2
  have e : l.drop 268 = (l.drop 242).drop 26 := by rw [List.drop_drop]
  rw [e, List.take_append_drop, List.take_append_drop]
theorem MidL.put {l : List Value} {a : Act} (h : MidL l a) (o : Option Nat) (v : Value) (ho : okD o = true) : MidL l (a.put o v) := by
  obtain ⟨hl, mid, hm, rfl⟩ := h
  cases o with
  | none => exact ⟨hl, mid, hm, rfl⟩
  | some n =>
    simp only [okD, Bool.and_eq_true, decide_eq_true_eq] at ho
    refine ⟨hl, mid.set (n - 242) v, by simpa using hm, ?_⟩
    have h1 : (l.take 242).length = 242 := by rw [List.length_take]; omega
    show Act.mk ((l.take 242 ++ (mid ++ l.drop 268)).toArray.setIfInBounds n v) [] = _
    rw [List.setIfInBounds_toArray, List.set_append_right _ _ (by omega), h1, List.set_append_left _ _ (by omega)]
theorem list26 (l : List Value) (h : l.length = 26) : ∃ m0 m1 m2 m3 m4 m5 m6 m7 m8 m9 m10 m11 m12 m13 m14 m15 m16 m17 m18 m19 m20 m21 m22 m23 m24 m25, l = [m0, m1, m2, m3, m4, m5, m6, m7, m8, m9, m10, m11, m12, m13, m14, m15, m16, m17, m18, m19, m20, m21, m22, m23, m24, m25] := by
  rcases l with _ | ⟨m0, l⟩
  · cases h
  rcases l with _ | ⟨m1, l⟩
  · simp at h
  rcases l with _ | ⟨m2, l⟩
  · simp at h
  rcases l with _ | ⟨m3, l⟩
  · simp at h
  rcases l with _ | ⟨m4, l⟩
  · simp at h
  rcases l with _ | ⟨m5, l⟩
  · simp at h
  rcases l with _ | ⟨m6, l⟩
  · simp at h
  rcases l with _ | ⟨m7, l⟩
  · simp at h
  rcases l with _ | ⟨m8, l⟩
  · simp at h
  rcases l with _ | ⟨m9, l⟩
  · simp at h
  rcases l with _ | ⟨m10, l⟩
  · simp at h
  rcases l with _ | ⟨m11, l⟩
  · simp at h
  rcases l with _ | ⟨m12, l⟩
  · simp at h
  rcases l with _ | ⟨m13, l⟩
  · simp at h
  rcases l with _ | ⟨m14, l⟩
  · simp at h
  rcases l with _ | ⟨m15, l⟩
  · simp at h
  rcases l with _ | ⟨m16, l⟩
  · simp at h
  rcases l with _ | ⟨m17, l⟩
  · simp at h
  rcases l with _ | ⟨m18, l⟩
  · simp at h
  rcases l with _ | ⟨m19, l⟩
  · simp at h
  rcases l with _ | ⟨m20, l⟩
  · simp at h
  rcases l with _ | ⟨m21, l⟩
  · simp at h
  rcases l with _ | ⟨m22, l⟩
  · simp at h
  rcases l with _ | ⟨m23, l⟩
  · simp at h
  rcases l with _ | ⟨m24, l⟩
  · simp at h
  rcases l with _ | ⟨m25, l⟩
  · simp at h
  obtain rfl : l = [] := by simpa using h
  exact ⟨m0, m1, m2, m3, m4, m5, m6, m7, m8, m9, m10, m11, m12, m13, m14, m15, m16, m17, m18, m19, m20, m21, m22, m23, m24, m25, rfl⟩
theorem mid_ex {l : List Value} {rel : Prop} {a' : Act} {G : Value → Value → Value → Value → Value → Value → Value → Value → Value → Value → Value → Value → Value → Value → Value → Value → Value → Value → Value → Value → Value → Value → Value → Value → Value → Value → Act} (h : MidL l a') (hr : rel) (hG : ∀ m0 m1 m2 m3 m4 m5 m6 m7 m8 m9 m10 m11 m12 m13 m14 m15 m16 m17 m18 m19 m20 m21 m22 m23 m24 m25 : Value, (⟨(l.take 242 ++ ([m0, m1, m2, m3, m4, m5, m6, m7, m8, m9, m10, m11, m12, m13, m14, m15, m16, m17, m18, m19, m20, m21, m22, m23, m24, m25] ++ l.drop 268)).toArray, []⟩ : Act) = G m0 m1 m2 m3 m4 m5 m6 m7 m8 m9 m10 m11 m12 m13 m14 m15 m16 m17 m18 m19 m20 m21 m22 m23 m24 m25) : ∃ m0 m1 m2 m3 m4 m5 m6 m7 m8 m9 m10 m11 m12 m13 m14 m15 m16 m17 m18 m19 m20 m21 m22 m23 m24 m25, rel ∧ a' = G m0 m1 m2 m3 m4 m5 m6 m7 m8 m9 m10 m11 m12 m13 m14 m15 m16 m17 m18 m19 m20 m21 m22 m23 m24 m25 := by
  obtain ⟨_, mid, hm, rfl⟩ := h
  obtain ⟨m0, m1, m2, m3, m4, m5, m6, m7, m8, m9, m10, m11, m12, m13, m14, m15, m16, m17, m18, m19, m20, m21, m22, m23, m24, m25, rfl⟩ := list26 mid hm
  exact ⟨m0, m1, m2, m3, m4, m5, m6, m7, m8, m9, m10, m11, m12, m13, m14, m15, m16, m17, m18, m19, m20, m21, m22, m23, m24, m25, hr, hG m0 m1 m2 m3 m4 m5 m6 m7 m8 m9 m10 m11 m12 m13 m14 m15 m16 m17 m18 m19 m20 m21 m22 m23 m24 m25⟩
set_option maxRecDepth 20000 in
set_option maxHeartbeats 12000000 in
theorem do7_any (W : World) (b g0 p0 g1 p1 br h0 q0 h1 q1 : Nat) (c : CS) (hA : AX W b g0 p0 g1 p1 c) (hR : RX W br h0 q0 h1 q1 c) (n : Nat) (m : Nat) (hm : n = c.now.length + m) (h1000 : n ≤ 1000) :
    Calls Try.prog 10 #[.pointer (some ⟨b, 0, none⟩), .pointer (some ⟨br, 0, none⟩), .agg #[.int .i64 7, .int .i64 (n : Int)]] W fun e w' => e = .returned (.bool true) ∧ DoneP W b g0 g1 br h0 h1 (growS c m) w' := by
  have hd : Below W.heap.size W (W.alloc (.cells #[.int .i64 7, .int .i64 (n : Int)] 35)).drew := ((Below.refl _ W).alloc (Nat.le_refl _) _).drew
  have hA1 := hA.below hd
  have hR1 := hR.below hd
  have hx1 : (W.alloc (.cells #[.int .i64 7, .int .i64 (n : Int)] 35)).drew.heap[W.heap.size]? = some (.cells #[.int .i64 7, .int .i64 (n : Int)] 35 (0, 0)) := heap_alloc_new W _
  have HA := Lib.hid hA
  have HR := Lib.hid hR
  have HD := Lib.hid hd
  have HA1 := Lib.hid hA1
  have HR1 := Lib.hid hR1
  have HX1 := Lib.hid hx1
  have n0 := hA.ok.n0
  have n1 := hA.ok.n1
  have a1 := hA.ok.a1
  have r0 : (W.alloc (.cells #[.int .i64 7, .int .i64 (n : Int)] 35)).cell? ⟨br, 0, none⟩ = some (.slice (some ⟨h0, 0, none⟩) c.now.length q0) := hR1.c0
  clear hd hA1 hR1 hx1 hA hR
  obtain ⟨i0, hi0, hz0, hz1, hz2⟩ := info_parts int_info
  have HM := Lib.hid hm
  have HOK := Lib.hid HA.out.ok
  have t1 : ¬ (n : Int) < (c.now.length : Int) := by omega
  have t2 : ¬ (1000 : Int) < (n : Int) := by omega
  have t3 : c.now.length ≤ n := by omega
  clear hm
  go_enter Try.func10, Try.ntmps10
  go_upto_region 1 with fail
  go_cut [7] from 16 to 28 (fun j wx => j = .bool (inB c (n : Int)) ∧ wx = (W.alloc (.cells #[.int .i64 7, .int .i64 (n : Int)] 35)).drew)
  case first =>
    have e1 : inB c (n : Int) = false := by simp [inB]; omega
    go_region
    go_wp2
    go_meet
    exact ⟨by rw [e1], rfl⟩
  case rest =>
    obtain ⟨rfl, rfl⟩ := hcut
    go_wp2_with (first
      | (go_at_call 25; (with_reducible refine (grow_any _ _ _ _ _ _ _ HA1.out n m HM.out h1000).mono ?_); rintro e w2 ⟨rfl, g0', p0', g1', p1', ha2, hf2, hs2⟩; obtain ⟨hr2, hx2, x0, x1⟩ := after_a HA1.out HR1.out HX1.out hs2; have HA2 := Lib.hid ha2; have HS2 := Lib.hid hs2; have HR2 := Lib.hid hr2; have z0 := hr2.c0; have z1 := hr2.c1; have z2 := hr2.c2; have z3 := hr2.c3; have y0 := hr2.fr 0; have y1 := hr2.fr 1; have y2 := hr2.fr 2; have y3 := hr2.fr 3; have HX2 := Lib.hid hx2; have HF2 := Lib.hid hf2; clear ha2 hs2 hr2 hx2 hf2)
      | fail)
    have s1 : ¬ (n : Int) < (c.now.length : Int) := by omega
    have s2 : ¬ (1000 : Int) < (n : Int) := by omega
    first
      | go_region
      | fail
    go_wp2
    go_loopw [] (fun wr => ∃ h0' q0' h1' q1' i, Hid (i ≤ m ∧ RX wr br h0' q0' h1' q1' (midS c i) ∧ (∀ j, foot br h0' h1' j → foot br h0 h1 j ∨ w2.heap.size ≤ j) ∧ Stays w2 wr (foot br h0 h1))) (fun wr => n - slen wr br)
    case atStart => exact ⟨h0, q0, h1, q1, 0, Nat.zero_le _, by simpa [midS] using HR2.out.drew, foot_id, (Stays.refl _ _).drew⟩
    case round =>
      obtain ⟨h0', q0', h1', q1', i, HI⟩ := hrel
      obtain ⟨hi, hrr, hff, hss⟩ := HI.out
      have HRR := Lib.hid hrr
      have HFF := Lib.hid hff
      have HSS := Lib.hid hss
      have hln := midS_len c i
      have HEQ := Lib.hid (midS_succ c i)
      have u0 := hrr.c0
      have u1 := hrr.c1
      have u2 := hrr.c2
      have u3 := hrr.fr 0
      have u4 := hrr.fr 1
      have u5 := hrr.fr 3
      have u6 := hrr.c3
      have hxb : wr.heap[W.heap.size]? = _ := (hss.block _ (Array.getElem?_eq_some_iff.1 HX2.out).1 (HR2.out.not HX2.out tAR.2.2.2.2.2.2.1 tAR.2.2.2.2.2.2.2)).trans HX2.out
      have ux : wr.cell? ⟨W.heap.size, 1, none⟩ = some (.int .i64 (n : Int)) := by rw [Joins.cell_of_block hxb 1]; rfl
      clear hrr hff hss hxb HI
      by_cases hlt : i < m
      · as_aux_lemma =>
        have HOK2 := Lib.hid (midS_ok HOK.out (i + 1) (by have := HM.out; omega))
        obtain ⟨cc, hcc⟩ : ∃ cc, midS c i = cc := ⟨_, rfl⟩
        obtain ⟨cn, hcn⟩ : ∃ cn, midS c (i + 1) = cn := ⟨_, rfl⟩
        rw [hcc] at HRR HEQ u0 u1 u2 u6 hln
        rw [hcn] at HEQ HOK2
        have HCN := Lib.hid hcn
        clear hcc hcn
        have HLT0 := Lib.hid HRR.out.lt0
        have hb1 : Below wr.heap.size wr (wr.alloc (.cells #[.int .i64 0] 3)).drew.drew := (((Below.refl _ wr).alloc (Nat.le_refl _) _).drew).drew
        have hb2 : Below wr.heap.size wr ((wr.alloc (.cells #[.int .i64 0] 3)).alloc (.cells #[.int .i64 0] 3)).drew.drew := ((((Below.refl _ wr).alloc (Nat.le_refl _) _).alloc (by simp) _).drew).drew
        have HO1 := Lib.hid (HRR.out.below hb1).now
        have HO2 := Lib.hid (HRR.out.below hb2).now
        have HB1 := Lib.hid hb1
        have HB2 := Lib.hid hb2
        have HNA : Hid (∀ j u, ([.int .i64 0] : List Value)[j]? = some u → ((wr.alloc (.cells #[.int .i64 0] 3)).drew.drew).cell? ((⟨wr.heap.size, 0, none⟩ : Addr).add j) = some u) := Lib.hid (nought_news (heap_alloc_new wr _))
        have HNB : Hid (∀ j u, ([.int .i64 0] : List Value)[j]? = some u → (((wr.alloc (.cells #[.int .i64 0] 3)).alloc (.cells #[.int .i64 0] 3)).drew.drew).cell? ((⟨wr.heap.size, 0, none⟩ : Addr).add j) = some u) := Lib.hid (nought_news ((Below.heap_alloc (wr.alloc (.cells #[.int .i64 0] 3)) _ _ (by simp)).trans (heap_alloc_new wr _)))
        have HNC : Hid (∀ j u, ([.int .i64 0] : List Value)[j]? = some u → (((wr.alloc (.cells #[.int .i64 0] 3)).alloc (.cells #[.int .i64 0] 3)).drew.drew).cell? ((⟨(wr.alloc (.cells #[.int .i64 0] 3)).heap.size, 0, none⟩ : Addr).add j) = some u) := Lib.hid (nought_news (heap_alloc_new (wr.alloc (.cells #[.int .i64 0] 3)) _))
        have HND : Hid (∀ j u, ([.int .i64 0] : List Value)[j]? = some u → (((wr.alloc (.cells #[.int .i64 0] 3)).alloc (.cells #[.int .i64 0] 3)).drew.drew).cell? ((⟨wr.heap.size + 1, 0, none⟩ : Addr).add j) = some u) := by
          have h := HNC.out
          rw [show (wr.alloc (.cells #[.int .i64 0] 3)).heap.size = wr.heap.size + 1 by simp] at h
          exact h
        have v0 : (wr.alloc (.cells #[.int .i64 0] 3)).cell? ⟨br, 0, none⟩ = some (.slice (some ⟨h0', 0, none⟩) cc.now.length q0') := (HRR.out.below hb1).c0
        have v1 : (wr.alloc (.cells #[.int .i64 0] 3)).cell? ⟨br, 1, none⟩ = some (.slice (some ⟨h1', 0, none⟩) cc.now.length q1') := (HRR.out.below hb1).c1
        have v2 : ((wr.alloc (.cells #[.int .i64 0] 3)).alloc (.cells #[.int .i64 0] 3)).cell? ⟨br, 0, none⟩ = some (.slice (some ⟨h0', 0, none⟩) cc.now.length q0') := (HRR.out.below hb2).c0
        have v3 : ((wr.alloc (.cells #[.int .i64 0] 3)).alloc (.cells #[.int .i64 0] 3)).cell? ⟨br, 1, none⟩ = some (.slice (some ⟨h1', 0, none⟩) cc.now.length q1') := (HRR.out.below hb2).c1
        clear hb1 hb2
        have c1 : (cc.now.length : Int) < (n : Int) := by have := HM.out; omega
        have HREL : Hid (∀ (w' : World) (x0 y0 x1 y1 : Nat), RX w' br x0 y0 x1 y1 cn → (∀ j, foot br x0 x1 j → foot br h0' h1' j ∨ wr.heap.size ≤ j) → Stays wr w' (foot br h0' h1') →
            Hid (i + 1 ≤ m ∧ RX w' br x0 y0 x1 y1 (midS c (i + 1)) ∧ (∀ j, foot br x0 x1 j → foot br h0 h1 j ∨ w2.heap.size ≤ j) ∧ Stays w2 w' (foot br h0 h1))) := Lib.hid (fun w' x0 y0 x1 y1 ha hb hc => by
          rw [HCN.out]
          exact Lib.hid ⟨hlt, ha, fun j hj => (hb j hj).elim (HFF.out j) (fun h => .inr (Nat.le_trans HSS.out.size h)), HSS.out.trans hc HFF.out⟩)
        have HM1 : Hid (slen wr br < n) := Lib.hid (by rw [HRR.out.slen]; have := HM.out; omega)
        have HM2 : Hid (slen wr br < cn.now.length) := Lib.hid (by
          rw [HRR.out.slen]
          have e3 := congrArg List.length HEQ.out.1
          rw [List.length_append, List.length_singleton] at e3
          omega)
        have hlx : cc.now.length ≤ 1000 := by have := HM.out; omega
        have HLN := Lib.hid hln
        clear hln
        go_wp2_with fail
        first
          | go_region
          | fail
        go_wp2_with fail
        try clear ux
        try clear u2
        try clear u5
        try clear u6
        try clear x0
        try clear x1
        try clear z0
        try clear z1
        try clear z2
        try clear z3
        try clear y0
        try clear y1
        try clear y2
        try clear y3
        try clear HA
        try clear HR
        try clear HD
        try clear HA1
        try clear HR1
        try clear HX1
        try clear HM
        try clear HOK
        try clear HA2
        try clear HS2
        try clear HR2
        try clear HX2
        try clear HF2
        try clear HFF
        try clear HSS
        try clear HCN
        try clear HLN
        try clear r0
        try clear n0
        try clear n1
        try clear a1
        try clear t1
        try clear t2
        try clear t3
        try clear s1
        try clear s2
        try clear c1
        try clear h1000
        try clear hi
        try clear hlt
        refine wp_region_until (M := 13) (S := fun w' => w'.cell? ⟨br, 0, none⟩ = some (.slice (some ⟨h0', 0, none⟩) cc.now.length q0') ∧ w'.cell? ⟨br, 1, none⟩ = some (.slice (some ⟨h1', 0, none⟩) cc.now.length q1')) (by kernel_rfl) ⟨u0, u1⟩ (fun hHeld => ?_)
        refine takeY (i := 0) (oi := _) (v := (.pointer (some ⟨br, 0, none⟩))) 250 rfl rfl (by decide) (by kernel_rfl) (by kernel_rfl) (by kernel_rfl) (fun _ _ _ h => h) (Or.inl ⟨by rfl, fun w => by go_simp⟩) hHeld ?_
        try simp only [Act.put, List.setIfInBounds_toArray, List.set_cons_zero, List.set_cons_succ]
        refine takeY (i := 1) (oi := _) (v := (.pointer (some ⟨br, 0, none⟩))) 251 rfl rfl (by decide) (by kernel_rfl) (by kernel_rfl) (by kernel_rfl) (fun _ _ _ h => h) (Or.inl ⟨by rfl, fun w => by go_simp⟩) hHeld ?_
        try simp only [Act.put, List.setIfInBounds_toArray, List.set_cons_zero, List.set_cons_succ]
        refine takeY (i := 2) (oi := _) (v := (.pointer (some ⟨br, 0, none⟩))) 252 rfl rfl (by decide) (by kernel_rfl) (by kernel_rfl) (by kernel_rfl) (fun _ _ _ h => h) (Or.inl ⟨by rfl, fun w => by go_simp⟩) hHeld ?_
        try simp only [Act.put, List.setIfInBounds_toArray, List.set_cons_zero, List.set_cons_succ]
        refine takeY (i := 3) (oi := _) (v := (.pointer (some ⟨br, 0, none⟩))) 253 rfl rfl (by decide) (by kernel_rfl) (by kernel_rfl) (by kernel_rfl) (fun _ _ _ h => h) (Or.inl ⟨by rfl, fun w => by go_simp⟩) hHeld ?_
        try simp only [Act.put, List.setIfInBounds_toArray, List.set_cons_zero, List.set_cons_succ]
        refine takeY (i := 4) (oi := _) (v := (.pointer (some ⟨br, 0, none⟩))) 254 rfl rfl (by decide) (by kernel_rfl) (by kernel_rfl) (by kernel_rfl) (fun _ _ _ h => h) (Or.inl ⟨by rfl, fun w => by go_simp⟩) hHeld ?_
        try simp only [Act.put, List.setIfInBounds_toArray, List.set_cons_zero, List.set_cons_succ]
        refine takeY (i := 8) (oi := _) (v := (.pointer (some ⟨br, 0, none⟩))) 258 rfl rfl (by decide) (by kernel_rfl) (by kernel_rfl) (by kernel_rfl) (fun _ _ _ h => h) (Or.inl ⟨by rfl, fun w => by go_simp⟩) hHeld ?_
        try simp only [Act.put, List.setIfInBounds_toArray, List.set_cons_zero, List.set_cons_succ]
        refine takeY (i := 9) (oi := _) (v := (.pointer (some ⟨br, 0, none⟩))) 259 rfl rfl (by decide) (by kernel_rfl) (by kernel_rfl) (by kernel_rfl) (fun _ _ _ h => h) (Or.inl ⟨by rfl, fun w => by go_simp⟩) hHeld ?_
        try simp only [Act.put, List.setIfInBounds_toArray, List.set_cons_zero, List.set_cons_succ]
        refine takeY (i := 10) (oi := _) (v := (.pointer (some ⟨br, 1, none⟩))) 260 rfl rfl (by decide) (by kernel_rfl) (by kernel_rfl) (by kernel_rfl) (fun _ _ _ h => h) (Or.inl ⟨by rfl, fun w => by go_simp⟩) hHeld ?_
        try simp only [Act.put, List.setIfInBounds_toArray, List.set_cons_zero, List.set_cons_succ]
        refine takeM (i := 5) (oi := _) (oM := _) (v := (.slice (some ⟨h0', 0, none⟩) cc.now.length q0')) 255 2 rfl rfl rfl (by kernel_rfl) (by kernel_rfl) (by kernel_rfl) (by kernel_rfl) (by kernel_rfl) (by kernel_rfl) (fun _ _ _ h => h) (Or.inl ⟨by rfl, fun w hSw => by (obtain ⟨hs0, hs1⟩ := hSw; go_simp)⟩) hHeld ?_
        try simp only [Act.put, List.setIfInBounds_toArray, List.set_cons_zero, List.set_cons_succ]
        refine takeM (i := 11) (oi := _) (oM := _) (v := (.slice (some ⟨h1', 0, none⟩) cc.now.length q1')) 261 1 rfl rfl rfl (by kernel_rfl) (by kernel_rfl) (by kernel_rfl) (by kernel_rfl) (by kernel_rfl) (by kernel_rfl) (fun _ _ _ h => h) (Or.inl ⟨by rfl, fun w hSw => by (obtain ⟨hs0, hs1⟩ := hSw; go_simp)⟩) hHeld ?_
        try simp only [Act.put, List.setIfInBounds_toArray, List.set_cons_zero, List.set_cons_succ]
        refine wpAnyM_ready (rs := [6, 12]) (by kernel_rfl) (by simp) ?_
        refine AllReadyM.cons rfl (fun K hK => ?_) (AllReadyM.cons rfl (fun K hK => ?_) AllReadyM.nil)
        · go_simp
          refine hK.out _ _ ⟨(HRR.out.below HB1.out).c0, (HRR.out.below HB1.out).c1⟩ (fun hHeld => ?_)
          clear hK K
          try simp only [Act.put, List.setIfInBounds_toArray, List.set_cons_zero, List.set_cons_succ]
          refine wpAnyM_ready (rs := [7, 12]) (by kernel_rfl) (by simp) ?_
          refine AllReadyM.cons rfl (fun K hK => ?_) (AllReadyM.cons rfl (fun K hK => ?_) AllReadyM.nil)
          · as_aux_lemma =>
            (refine step_append_lies _ (by rfl) (.tmp 255) (.tmp 256) 38 (by rfl) 0 3 i0 (.int .i64 0) 1 8 Try.underlying38 hi0 hz0 hz1 hz2 rfl (by omega) (.slice (some ⟨h0', 0, none⟩) cc.now.length q0') cc.now.length (nz .i64 cc.now) (by rfl) (by with_reducible first | exact HO1.out | exact HO2.out) ⟨_, 0, none⟩ 1 1 [.int .i64 0] (by rfl) rfl (by with_reducible first | exact HNA.out | exact HNB.out | exact HNC.out | exact HND.out) (by simp [Value.oneCell']) (by omega) (by unfold maxLen; omega) (by omega) (Nat.zero_le _) _ rfl ?_; intro g0x k0x W1' ho1 hg1 hat1 hlt1; have HP1 : Hid (∃ W1, Below wr.heap.size wr W1 ∧ W1.grownBy W1' (some h0') ∧ (g0x = h0' ∨ W1.heap.size ≤ g0x)) := Lib.hid ⟨_, (by with_reducible first | exact HB1.out | exact HB2.out), hg1, at_block rfl hat1 rfl⟩; obtain ⟨HCG, HCG2, HWO, HWO2⟩ := pack_cg HRR.out HP1.out.choose_spec.1 HP1.out.choose_spec.2.1; have HNW := Lib.hid (nought_news (heap_alloc_new W1' (.cells #[.int .i64 0] 3))); have HBW := Lib.hid ((Below.refl W1'.heap.size W1').alloc (Nat.le_refl _) (.cells #[.int .i64 0] 3)); have HO1X := Lib.hid ho1; have HLT1 := Lib.hid hlt1; (first | (have HN23 := Lib.hid (nought_grown hg1 HLT0.out)) | (have HN23 : Hid (True ∧ True ∧ True) := Lib.hid ⟨trivial, trivial, trivial⟩)); clear ho1 hg1 hat1 hlt1)
            have HSG := cells_grown HRR.out HP1.out.choose_spec.1 HP1.out.choose_spec.2.1
            refine hK.out _ _ HSG.1 (fun hHeld => ?_)
            clear hK K
            try simp only [Act.put, List.setIfInBounds_toArray]
            refine wpAnyM_ready (rs := [12]) (by kernel_rfl) (by simp) ?_
            refine AllReadyM.cons rfl (fun K hK => ?_) AllReadyM.nil
            go_simp
            refine hK.out _ _ HSG.2 (fun hHeld => ?_)
            clear hK K
            try simp only [Act.put, List.setIfInBounds_toArray, List.set_cons_zero, List.set_cons_succ]
            refine wpAnyM_ready (rs := [13]) (by kernel_rfl) (by simp) ?_
            refine AllReadyM.last rfl (by kernel_rfl) (fun K hK => ?_)
            (refine step_append_lies _ (by rfl) (.tmp 261) (.tmp 262) 38 (by rfl) 0 3 i0 (.int .i64 0) 1 8 Try.underlying38 hi0 hz0 hz1 hz2 rfl (by omega) (.slice (some ⟨h1', 0, none⟩) cc.now.length q1') cc.now.length (nz .i64 cc.was) (by rfl) (by with_reducible first | exact HWO.out | exact HWO2.out) ⟨_, 0, none⟩ 1 1 [.int .i64 0] (by rfl) rfl (by with_reducible first | exact HNW.out | exact HN23.out.1 | exact HN23.out.2.1 | exact HN23.out.2.2) (by simp [Value.oneCell']) (by omega) (by unfold maxLen; omega) (by omega) (Nat.zero_le _) _ rfl ?_; intro g1x k1x W2' ho2 hg2 hat2 hlt2; obtain ⟨W1, hb1', hg1', hat1'⟩ := HP1.out; obtain ⟨e1, e2, e3, e4, e5⟩ := grow_round HRR.out hb1' hg1' hat1' HLT1.out HO1X.out (by with_reducible first | exact HBW.out | exact Below.refl _ _) hg2 (at_block rfl hat2 rfl) ho2 rfl HEQ.out.1 HEQ.out.2.1 HEQ.out.2.2.1 HEQ.out.2.2.2 HOK2.out; have HE := Lib.hid e5)
            refine hK.out _ _ ?_
            clear hK K
            try simp only [Act.put, List.setIfInBounds_toArray]
            refine takeA (i := 14) (oi := _) (v := (.pointer (some ⟨br, 0, none⟩))) 264 rfl rfl (by kernel_rfl) (by kernel_rfl) (by kernel_rfl) (fun _ _ _ h => h) (Or.inl ⟨by rfl, fun w => by go_simp⟩) ?_
            try simp only [Act.put]
            refine takeA (i := 15) (oi := _) (v := (.pointer (some ⟨br, 0, none⟩))) 265 rfl rfl (by kernel_rfl) (by kernel_rfl) (by kernel_rfl) (fun _ _ _ h => h) (Or.inl ⟨by rfl, fun w => by go_simp⟩) ?_
            try simp only [Act.put]
            refine wpAny_ready (rs := [16]) (by kernel_rfl) (by simp) ?_
            refine AllReady.cons rfl (fun K hK => ?_) AllReady.nil
            go_simp
            refine hK _ _ ?_
            clear hK K
            try simp only [Act.put, List.setIfInBounds_toArray, List.set_cons_zero, List.set_cons_succ]
            refine takeA (i := 17) (oi := _) (v := (.pointer (some ⟨br, 0, none⟩))) 266 rfl rfl (by kernel_rfl) (by kernel_rfl) (by kernel_rfl) (fun _ _ _ h => h) (Or.inl ⟨by rfl, fun w => by go_simp⟩) ?_
            try simp only [Act.put, List.setIfInBounds_toArray, List.set_cons_zero, List.set_cons_succ]
            refine takeA (i := 18) (oi := _) (v := (.pointer (some ⟨br, 1, none⟩))) 267 rfl rfl (by kernel_rfl) (by kernel_rfl) (by kernel_rfl) (fun _ _ _ h => h) (Or.inl ⟨by rfl, fun w => by go_simp⟩) ?_
            try simp only [Act.put, List.setIfInBounds_toArray, List.set_cons_zero, List.set_cons_succ]
            refine wpAny_ready (rs := [19]) (by kernel_rfl) (by simp) ?_
            refine AllReady.cons rfl (fun K hK => ?_) AllReady.nil
            go_simp
            refine hK _ _ ?_
            clear hK K
            try simp only [Act.put, List.setIfInBounds_toArray, List.set_cons_zero, List.set_cons_succ]
            refine wpAny_done (by kernel_rfl) ?_ _
            refine ⟨mid_ex (l := _) (by
                repeat' with_reducible refine MidL.put ?_ _ _ (by kernel_rfl)
                exact MidL.base _ (by kernel_rfl)) ⟨_, _, _, _, i + 1, HREL.out _ _ _ _ _ HE.out.1 HE.out.2.1 HE.out.2.2⟩ (by intros; rfl), Nat.sub_lt_sub_left HM1.out (Nat.lt_of_lt_of_eq HM2.out HE.out.1.slen.symm)⟩
          · as_aux_lemma =>
            go_simp
            refine hK.out _ _ ⟨(HRR.out.below HB2.out).c0, (HRR.out.below HB2.out).c1⟩ (fun hHeld => ?_)
            clear hK K
            try simp only [Act.put, List.setIfInBounds_toArray, List.set_cons_zero, List.set_cons_succ]
            refine wpAnyM_ready (rs := [7]) (by kernel_rfl) (by simp) ?_
            refine AllReadyM.cons rfl (fun K hK => ?_) AllReadyM.nil
            (refine step_append_lies _ (by rfl) (.tmp 255) (.tmp 256) 38 (by rfl) 0 3 i0 (.int .i64 0) 1 8 Try.underlying38 hi0 hz0 hz1 hz2 rfl (by omega) (.slice (some ⟨h0', 0, none⟩) cc.now.length q0') cc.now.length (nz .i64 cc.now) (by rfl) (by with_reducible first | exact HO1.out | exact HO2.out) ⟨_, 0, none⟩ 1 1 [.int .i64 0] (by rfl) rfl (by with_reducible first | exact HNA.out | exact HNB.out | exact HNC.out | exact HND.out) (by simp [Value.oneCell']) (by omega) (by unfold maxLen; omega) (by omega) (Nat.zero_le _) _ rfl ?_; intro g0x k0x W1' ho1 hg1 hat1 hlt1; have HP1 : Hid (∃ W1, Below wr.heap.size wr W1 ∧ W1.grownBy W1' (some h0') ∧ (g0x = h0' ∨ W1.heap.size ≤ g0x)) := Lib.hid ⟨_, (by with_reducible first | exact HB1.out | exact HB2.out), hg1, at_block rfl hat1 rfl⟩; obtain ⟨HCG, HCG2, HWO, HWO2⟩ := pack_cg HRR.out HP1.out.choose_spec.1 HP1.out.choose_spec.2.1; have HNW := Lib.hid (nought_news (heap_alloc_new W1' (.cells #[.int .i64 0] 3))); have HBW := Lib.hid ((Below.refl W1'.heap.size W1').alloc (Nat.le_refl _) (.cells #[.int .i64 0] 3)); have HO1X := Lib.hid ho1; have HLT1 := Lib.hid hlt1; (first | (have HN23 := Lib.hid (nought_grown hg1 HLT0.out)) | (have HN23 : Hid (True ∧ True ∧ True) := Lib.hid ⟨trivial, trivial, trivial⟩)); clear ho1 hg1 hat1 hlt1)
            have HSG := cells_grown HRR.out HP1.out.choose_spec.1 HP1.out.choose_spec.2.1
            refine hK.out _ _ HSG.1 (fun hHeld => ?_)
            clear hK K
            try simp only [Act.put, List.setIfInBounds_toArray]
            refine wpAnyM_ready (rs := [13]) (by kernel_rfl) (by simp) ?_
            refine AllReadyM.last rfl (by kernel_rfl) (fun K hK => ?_)
            (refine step_append_lies _ (by rfl) (.tmp 261) (.tmp 262) 38 (by rfl) 0 3 i0 (.int .i64 0) 1 8 Try.underlying38 hi0 hz0 hz1 hz2 rfl (by omega) (.slice (some ⟨h1', 0, none⟩) cc.now.length q1') cc.now.length (nz .i64 cc.was) (by rfl) (by with_reducible first | exact HWO.out | exact HWO2.out) ⟨_, 0, none⟩ 1 1 [.int .i64 0] (by rfl) rfl (by with_reducible first | exact HNW.out | exact HN23.out.1 | exact HN23.out.2.1 | exact HN23.out.2.2) (by simp [Value.oneCell']) (by omega) (by unfold maxLen; omega) (by omega) (Nat.zero_le _) _ rfl ?_; intro g1x k1x W2' ho2 hg2 hat2 hlt2; obtain ⟨W1, hb1', hg1', hat1'⟩ := HP1.out; obtain ⟨e1, e2, e3, e4, e5⟩ := grow_round HRR.out hb1' hg1' hat1' HLT1.out HO1X.out (by with_reducible first | exact HBW.out | exact Below.refl _ _) hg2 (at_block rfl hat2 rfl) ho2 rfl HEQ.out.1 HEQ.out.2.1 HEQ.out.2.2.1 HEQ.out.2.2.2 HOK2.out; have HE := Lib.hid e5)
            refine hK.out _ _ ?_
            clear hK K
            try simp only [Act.put]
            refine takeA (i := 14) (oi := _) (v := (.pointer (some ⟨br, 0, none⟩))) 264 rfl rfl (by kernel_rfl) (by kernel_rfl) (by kernel_rfl) (fun _ _ _ h => h) (Or.inl ⟨by rfl, fun w => by go_simp⟩) ?_
            try simp only [Act.put]
            refine takeA (i := 15) (oi := _) (v := (.pointer (some ⟨br, 0, none⟩))) 265 rfl rfl (by kernel_rfl) (by kernel_rfl) (by kernel_rfl) (fun _ _ _ h => h) (Or.inl ⟨by rfl, fun w => by go_simp⟩) ?_
            try simp only [Act.put]
            refine wpAny_ready (rs := [16]) (by kernel_rfl) (by simp) ?_
            refine AllReady.cons rfl (fun K hK => ?_) AllReady.nil
            go_simp
            refine hK _ _ ?_
            clear hK K
            try simp only [Act.put, List.setIfInBounds_toArray, List.set_cons_zero, List.set_cons_succ]
            refine takeA (i := 17) (oi := _) (v := (.pointer (some ⟨br, 0, none⟩))) 266 rfl rfl (by kernel_rfl) (by kernel_rfl) (by kernel_rfl) (fun _ _ _ h => h) (Or.inl ⟨by rfl, fun w => by go_simp⟩) ?_
            try simp only [Act.put, List.setIfInBounds_toArray, List.set_cons_zero, List.set_cons_succ]
            refine takeA (i := 18) (oi := _) (v := (.pointer (some ⟨br, 1, none⟩))) 267 rfl rfl (by kernel_rfl) (by kernel_rfl) (by kernel_rfl) (fun _ _ _ h => h) (Or.inl ⟨by rfl, fun w => by go_simp⟩) ?_
            try simp only [Act.put, List.setIfInBounds_toArray, List.set_cons_zero, List.set_cons_succ]
            refine wpAny_ready (rs := [19]) (by kernel_rfl) (by simp) ?_
            refine AllReady.cons rfl (fun K hK => ?_) AllReady.nil
            go_simp
            refine hK _ _ ?_
            clear hK K
            try simp only [Act.put, List.setIfInBounds_toArray, List.set_cons_zero, List.set_cons_succ]
            refine wpAny_done (by kernel_rfl) ?_ _
            refine ⟨mid_ex (l := _) (by
                repeat' with_reducible refine MidL.put ?_ _ _ (by kernel_rfl)
                exact MidL.base _ (by kernel_rfl)) ⟨_, _, _, _, i + 1, HREL.out _ _ _ _ _ HE.out.1 HE.out.2.1 HE.out.2.2⟩ (by intros; rfl), Nat.sub_lt_sub_left HM1.out (Nat.lt_of_lt_of_eq HM2.out HE.out.1.slen.symm)⟩
        · as_aux_lemma =>
          go_simp
          refine hK.out _ _ ⟨(HRR.out.below HB1.out).c0, (HRR.out.below HB1.out).c1⟩ (fun hHeld => ?_)
          clear hK K
          try simp only [Act.put, List.setIfInBounds_toArray, List.set_cons_zero, List.set_cons_succ]
          refine wpAnyM_ready (rs := [6]) (by kernel_rfl) (by simp) ?_
          refine AllReadyM.cons rfl (fun K hK => ?_) AllReadyM.nil
          go_simp
          refine hK.out _ _ ⟨(HRR.out.below HB2.out).c0, (HRR.out.below HB2.out).c1⟩ (fun hHeld => ?_)
          clear hK K
          try simp only [Act.put, List.setIfInBounds_toArray, List.set_cons_zero, List.set_cons_succ]
          refine wpAnyM_ready (rs := [7]) (by kernel_rfl) (by simp) ?_
          refine AllReadyM.cons rfl (fun K hK => ?_) AllReadyM.nil
          (refine step_append_lies _ (by rfl) (.tmp 255) (.tmp 256) 38 (by rfl) 0 3 i0 (.int .i64 0) 1 8 Try.underlying38 hi0 hz0 hz1 hz2 rfl (by omega) (.slice (some ⟨h0', 0, none⟩) cc.now.length q0') cc.now.length (nz .i64 cc.now) (by rfl) (by with_reducible first | exact HO1.out | exact HO2.out) ⟨_, 0, none⟩ 1 1 [.int .i64 0] (by rfl) rfl (by with_reducible first | exact HNA.out | exact HNB.out | exact HNC.out | exact HND.out) (by simp [Value.oneCell']) (by omega) (by unfold maxLen; omega) (by omega) (Nat.zero_le _) _ rfl ?_; intro g0x k0x W1' ho1 hg1 hat1 hlt1; have HP1 : Hid (∃ W1, Below wr.heap.size wr W1 ∧ W1.grownBy W1' (some h0') ∧ (g0x = h0' ∨ W1.heap.size ≤ g0x)) := Lib.hid ⟨_, (by with_reducible first | exact HB1.out | exact HB2.out), hg1, at_block rfl hat1 rfl⟩; obtain ⟨HCG, HCG2, HWO, HWO2⟩ := pack_cg HRR.out HP1.out.choose_spec.1 HP1.out.choose_spec.2.1; have HNW := Lib.hid (nought_news (heap_alloc_new W1' (.cells #[.int .i64 0] 3))); have HBW := Lib.hid ((Below.refl W1'.heap.size W1').alloc (Nat.le_refl _) (.cells #[.int .i64 0] 3)); have HO1X := Lib.hid ho1; have HLT1 := Lib.hid hlt1; (first | (have HN23 := Lib.hid (nought_grown hg1 HLT0.out)) | (have HN23 : Hid (True ∧ True ∧ True) := Lib.hid ⟨trivial, trivial, trivial⟩)); clear ho1 hg1 hat1 hlt1)
          have HSG := cells_grown HRR.out HP1.out.choose_spec.1 HP1.out.choose_spec.2.1
          refine hK.out _ _ HSG.1 (fun hHeld => ?_)
          clear hK K
          try simp only [Act.put, List.setIfInBounds_toArray]
          refine wpAnyM_ready (rs := [13]) (by kernel_rfl) (by simp) ?_
          refine AllReadyM.last rfl (by kernel_rfl) (fun K hK => ?_)
          (refine step_append_lies _ (by rfl) (.tmp 261) (.tmp 262) 38 (by rfl) 0 3 i0 (.int .i64 0) 1 8 Try.underlying38 hi0 hz0 hz1 hz2 rfl (by omega) (.slice (some ⟨h1', 0, none⟩) cc.now.length q1') cc.now.length (nz .i64 cc.was) (by rfl) (by with_reducible first | exact HWO.out | exact HWO2.out) ⟨_, 0, none⟩ 1 1 [.int .i64 0] (by rfl) rfl (by with_reducible first | exact HNW.out | exact HN23.out.1 | exact HN23.out.2.1 | exact HN23.out.2.2) (by simp [Value.oneCell']) (by omega) (by unfold maxLen; omega) (by omega) (Nat.zero_le _) _ rfl ?_; intro g1x k1x W2' ho2 hg2 hat2 hlt2; obtain ⟨W1, hb1', hg1', hat1'⟩ := HP1.out; obtain ⟨e1, e2, e3, e4, e5⟩ := grow_round HRR.out hb1' hg1' hat1' HLT1.out HO1X.out (by with_reducible first | exact HBW.out | exact Below.refl _ _) hg2 (at_block rfl hat2 rfl) ho2 rfl HEQ.out.1 HEQ.out.2.1 HEQ.out.2.2.1 HEQ.out.2.2.2 HOK2.out; have HE := Lib.hid e5)
          refine hK.out _ _ ?_
          clear hK K
          try simp only [Act.put]
          refine takeA (i := 14) (oi := _) (v := (.pointer (some ⟨br, 0, none⟩))) 264 rfl rfl (by kernel_rfl) (by kernel_rfl) (by kernel_rfl) (fun _ _ _ h => h) (Or.inl ⟨by rfl, fun w => by go_simp⟩) ?_
          try simp only [Act.put]
          refine takeA (i := 15) (oi := _) (v := (.pointer (some ⟨br, 0, none⟩))) 265 rfl rfl (by kernel_rfl) (by kernel_rfl) (by kernel_rfl) (fun _ _ _ h => h) (Or.inl ⟨by rfl, fun w => by go_simp⟩) ?_
          try simp only [Act.put]
          refine wpAny_ready (rs := [16]) (by kernel_rfl) (by simp) ?_
          refine AllReady.cons rfl (fun K hK => ?_) AllReady.nil
          go_simp
          refine hK _ _ ?_
          clear hK K
          try simp only [Act.put, List.setIfInBounds_toArray, List.set_cons_zero, List.set_cons_succ]
          refine takeA (i := 17) (oi := _) (v := (.pointer (some ⟨br, 0, none⟩))) 266 rfl rfl (by kernel_rfl) (by kernel_rfl) (by kernel_rfl) (fun _ _ _ h => h) (Or.inl ⟨by rfl, fun w => by go_simp⟩) ?_
          try simp only [Act.put, List.setIfInBounds_toArray, List.set_cons_zero, List.set_cons_succ]
          refine takeA (i := 18) (oi := _) (v := (.pointer (some ⟨br, 1, none⟩))) 267 rfl rfl (by kernel_rfl) (by kernel_rfl) (by kernel_rfl) (fun _ _ _ h => h) (Or.inl ⟨by rfl, fun w => by go_simp⟩) ?_
          try simp only [Act.put, List.setIfInBounds_toArray, List.set_cons_zero, List.set_cons_succ]
          refine wpAny_ready (rs := [19]) (by kernel_rfl) (by simp) ?_
          refine AllReady.cons rfl (fun K hK => ?_) AllReady.nil
          go_simp
          refine hK _ _ ?_
          clear hK K
          try simp only [Act.put, List.setIfInBounds_toArray, List.set_cons_zero, List.set_cons_succ]
          refine wpAny_done (by kernel_rfl) ?_ _
          refine ⟨mid_ex (l := _) (by
              repeat' with_reducible refine MidL.put ?_ _ _ (by kernel_rfl)
              exact MidL.base _ (by kernel_rfl)) ⟨_, _, _, _, i + 1, HREL.out _ _ _ _ _ HE.out.1 HE.out.2.1 HE.out.2.2⟩ (by intros; rfl), Nat.sub_lt_sub_left HM1.out (Nat.lt_of_lt_of_eq HM2.out HE.out.1.slen.symm)⟩
      · as_aux_lemma =>
        obtain rfl : i = m := by omega
        have c1 : ¬ ((midS c i).now.length : Int) < (n : Int) := by have := HM.out; omega
        have hat := HOK.out.a1
        have HKP := Lib.hid (HRR.out.drew.setKept tR c.at_ (by omega))
        have HSK := Lib.hid (HSS.out.drew.set ⟨br, 3, none⟩ (.inl (.inl rfl)) (.int .i64 (c.at_ : Int)))
        go_wp2_with fail
        first
          | go_region
          | fail
        all_goals go_wp2
        all_goals go_ret
        all_goals exact ⟨rfl, both_done HA.out HR.out HD.out HA2.out HS2.out (fun j hj => (HF2.out j hj).imp id (fun h => Nat.le_trans HD.out.size h)) HKP.out HSK.out (fun j hj => (HFF.out j hj).imp id (fun h => Nat.le_trans (Nat.le_trans HD.out.size HS2.out.size) h))⟩
end Go.Proofs.Ytiodhihddpbadaa
