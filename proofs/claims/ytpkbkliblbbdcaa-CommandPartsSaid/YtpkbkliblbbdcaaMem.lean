/- Words for memory, of this proof's own: a slice that shows cells, bytes as cells, what an append leaves. No program is named here. -/
import Derived.WalkKit
import Derived.WalkSpells
import Derived.Maps.AppendAt
import Derived.Deep.AppendLies
import Derived.Deep.Draws
import Derived.Laws.CopyOwn
namespace Go.Proofs.Ytpkbkliblbbdcaa
open Go.RowKit
set_option maxRecDepth 20000

/-- bytes as cells -/
def cells8 (l : List UInt8) : List Value := l.map fun b => .int .u8 (b.toNat : Int)
theorem cells8_length (l : List UInt8) : (cells8 l).length = l.length := by simp [cells8]
theorem cells8_append (a b : List UInt8) : cells8 (a ++ b) = cells8 a ++ cells8 b := by simp [cells8]
theorem cells8_get (l : List UInt8) (i : Nat) (h : i < l.length) : (cells8 l)[i]? = some (.int .u8 ((l[i]'h).toNat : Int)) := by
  simp [cells8, List.getElem?_eq_getElem h]
theorem cells8_one (l : List UInt8) : ∀ u ∈ cells8 l, u.oneCell' = true := by
  intro u hu
  simp only [cells8, List.mem_map] at hu
  obtain ⟨b, _, rfl⟩ := hu
  rfl
theorem cells8_drop (l : List UInt8) (k : Nat) : cells8 (l.drop k) = (cells8 l).drop k := by simp [cells8, List.map_drop]
theorem cells8_take (l : List UInt8) (k : Nat) : cells8 (l.take k) = (cells8 l).take k := by simp [cells8, List.map_take]

/-- a slice of n one-cell elements from A on shows the cells xs; where it has any, they lie below block B -/
structure Shows (w : World) (B : Nat) (A : Option Addr) (n : Nat) (xs : List Value) : Prop where
  len : xs.length = n
  lies : 0 < n → ∃ p : Addr, A = some p ∧ p.block < B ∧ ∀ j u, xs[j]? = some u → w.cell? (p.add j) = some u

theorem addr_block (p : Addr) (k : Nat) : (p.add k).block = p.block := by
  unfold Addr.add
  split <;> rfl
theorem addr_twice (p : Addr) (i j : Nat) : (p.add i).add j = p.add (i + j) := by
  unfold Addr.add
  by_cases hi : i = 0
  · by_cases hj : j = 0 <;> simp [hi, hj]
  · by_cases hj : j = 0 <;> simp [hi, hj, Nat.add_assoc]

section
variable {w w' : World} {B C n : Nat} {A : Option Addr} {xs : List Value}
theorem Shows.empty (w : World) (B : Nat) (A : Option Addr) : Shows w B A 0 [] := ⟨rfl, fun h => absurd h (Nat.lt_irrefl 0)⟩
theorem Shows.moved (h : Shows w B A n xs) (hc : ∀ p : Addr, p.block < B → w'.cell? p = w.cell? p) : Shows w' B A n xs := by
  refine ⟨h.len, fun hn => ?_⟩
  obtain ⟨p, e, hp, hx⟩ := h.lies hn
  exact ⟨p, e, hp, fun j u hu => by rw [hc _ (by rw [addr_block]; exact hp)]; exact hx j u hu⟩
theorem Shows.below (h : Shows w B A n xs) (hb : Below B w w') : Shows w' B A n xs := h.moved fun _ hp => hb.cell hp
theorem Shows.wide (h : Shows w B A n xs) (hB : B ≤ C) : Shows w C A n xs := by
  refine ⟨h.len, fun hn => ?_⟩
  obtain ⟨p, e, hp, hx⟩ := h.lies hn
  exact ⟨p, e, Nat.lt_of_lt_of_le hp hB, hx⟩
theorem Shows.alloc (h : Shows w B A n xs) (hB : B ≤ w.heap.size) (o : Obj) : Shows (w.alloc o) B A n xs :=
  h.moved fun p hp => World.cell?_alloc_lt w o p (Nat.lt_of_lt_of_le hp hB)
theorem Shows.drew (h : Shows w B A n xs) : Shows w.drew B A n xs := h.moved fun _ _ => rfl
theorem Shows.drewN (h : Shows w B A n xs) (k : Nat) : Shows (w.drewN k) B A n xs := h.moved fun _ _ => rfl
theorem Shows.cell {k : Nat} (h : Shows w B A n xs) (hk : k < n) : ∃ (p : Addr) (u : Value), A = some p ∧ p.block < B ∧ xs[k]? = some u ∧ w.cell? (p.add k) = some u := by
  obtain ⟨p, e, hp, hx⟩ := h.lies (by omega)
  have hl : k < xs.length := by rw [h.len]; exact hk
  exact ⟨p, xs[k], e, hp, List.getElem?_eq_getElem hl, hx k _ (List.getElem?_eq_getElem hl)⟩
/-- the slice cut at its front -/
theorem Shows.from_ (h : Shows w B A n xs) {k cap : Nat} (hk : k ≤ n) (hc : n ≤ cap) :
    Shows w B (if cap = k then A else A.map (·.add k)) (n - k) (xs.drop k) := by
  refine ⟨by simp [h.len], fun hn => ?_⟩
  obtain ⟨p, rfl, hp, hx⟩ := h.lies (by omega)
  rw [if_neg (by omega)]
  refine ⟨p.add k, rfl, by rw [addr_block]; exact hp, fun j u hu => ?_⟩
  rw [addr_twice]
  exact hx _ u (by simpa [List.getElem?_drop] using hu)
/-- the slice cut at its end -/
theorem Shows.upto (h : Shows w B A n xs) {k : Nat} (hk : k ≤ n) : Shows w B A k (xs.take k) := by
  refine ⟨by simp [h.len, hk], fun hn => ?_⟩
  obtain ⟨p, rfl, hp, hx⟩ := h.lies (by omega)
  refine ⟨p, rfl, hp, fun j u hu => hx j u ?_⟩
  rw [List.getElem?_take] at hu
  split at hu
  · exact hu
  · cases hu
theorem Shows.owned {base : Nat} {e : TypeId} {c : Nat} (h : w.ownsRow base e 1 (.slice A n c) n xs) : Shows w w.heap.size A n xs := by
  refine ⟨by simpa using h.1, fun hn => ?_⟩
  rcases h.2 with ⟨hv, h0⟩ | ⟨g, cap, cur, hv, _, _⟩
  · omega
  · have hA : A = some ⟨g, 0, none⟩ := by injection hv
    subst hA
    exact ⟨⟨g, 0, none⟩, rfl, (h.lt g rfl).2, h.cells (g := g) rfl⟩
end

/-- what an append, or several, onto v leave: only v's own row and new blocks have turned; v' lies where v lay, or in a new block -/
structure Grew (w w' : World) (v v' : Value) : Prop where
  by_ : w.grownBy w' v.ownBlock
  at_ : v'.ownBlock = v.ownBlock ∨ ∃ g, v'.ownBlock = some g ∧ w.heap.size ≤ g
theorem Grew.refl (w : World) (v : Value) : Grew w w v v := ⟨World.grownBy.refl w _, .inl rfl⟩
theorem Grew.trans {a b c : World} {u v x : Value} (h : Grew a b u v) (k : Grew b c v x) : Grew a c u x := by
  refine ⟨⟨k.by_.os.trans h.by_.os, k.by_.tape.trans h.by_.tape, k.by_.output.trans h.by_.output, Nat.le_trans h.by_.size k.by_.size, fun i hi hne => ?_⟩, ?_⟩
  · rw [k.by_.block i (Nat.lt_of_lt_of_le hi h.by_.size) ?_, h.by_.block i hi hne]
    rcases h.at_ with e | ⟨g, e, hg⟩
    · rw [e]; exact hne
    · rw [e]; intro he; injection he with he; omega
  · rcases k.at_ with e | ⟨g, e, hg⟩
    · rw [e]; exact h.at_
    · exact .inr ⟨g, e, Nat.le_trans h.by_.size hg⟩
theorem Grew.alloc {a b : World} {u v : Value} (h : Grew a b u v) (o : Obj) : Grew a (b.alloc o) u v := by
  refine ⟨⟨h.by_.os, h.by_.tape, h.by_.output, Nat.le_trans h.by_.size (by simp), fun i hi hne => ?_⟩, h.at_⟩
  rw [Below.heap_alloc b o i (Nat.lt_of_lt_of_le hi h.by_.size)]
  exact h.by_.block i hi hne
theorem Grew.drewN {a b : World} {u v : Value} (h : Grew a b u v) (n : Nat) : Grew a (b.drewN n) u v := ⟨⟨h.by_.os, h.by_.tape, h.by_.output, h.by_.size, h.by_.block⟩, h.at_⟩
theorem Grew.below {B base n : Nat} {e : TypeId} {size : Nat} {xs : List Value} {a b : World} {u v : Value} (h : Grew a b u v) (ho : a.ownsRow base e size u n xs) (hB : B ≤ base) (hs : B ≤ a.heap.size) : Below B a b :=
  (Below.refl B a).grown h.by_ hs fun k hk => Nat.le_trans hB (ho.lt k hk).1
theorem Grew.below_from {a b : World} {u v : Value} {B : Nat} (h : Grew a b u v) (hB : B ≤ a.heap.size) (hu : ∀ k, u.ownBlock = some k → B ≤ k) : Below B a b := (Below.refl B a).grown h.by_ hB hu

section
variable {P : Program}
/-- append onto a row of the call's own, of whatever slice shows its cells (nil, empty, or not) -/
theorem run_append_shows (w : World) (base : Nat) (t ty e : TypeId) (i : TypeInfo) (z : Value) (bytes : Nat) (ht : P.underlying t = some (.slice e)) (hi : P.info? e = some i) (hz : i.zero = some z)
    (hsize : i.size = 1) (hby : i.bytes = bytes) (hzs : z.cells.size = 1)
    (v : Value) (n : Nat) (xs : List Value) (hown : w.ownsRow base e 1 v n xs)
    (B : Nat) (A : Option Addr) (m c : Nat) (news : List Value) (hs : Shows w B A m news) (h1 : ∀ u ∈ news, u.oneCell' = true)
    (h63 : n + m ≤ maxLen) (hbytes : (n + m) * bytes ≤ 140737488355328) (hbase : base ≤ w.heap.size) :
    ∃ v' w', (Builtin.append_ #[t, t] ty #[v, .slice A m c]).run P w = .ok v' w' ∧ w'.ownsRow base e 1 v' (n + m) (xs ++ news) ∧ Grew w w' v v' := by
  cases A with
  | none =>
    have hm : m = 0 := by
      rcases Nat.eq_zero_or_pos m with h | h
      · exact h
      · obtain ⟨p, hp, _⟩ := hs.lies h
        cases hp
    subst hm
    have hn : news = [] := List.eq_nil_of_length_eq_zero hs.len
    subst hn
    refine ⟨v, w, ?_, by simpa using hown, Grew.refl w v⟩
    rcases hown.2 with ⟨rfl, rfl⟩ | ⟨g, cap, cur, rfl, _, _, hnc, _⟩
    · simp [Builtin.append_, run_underlying ht, sizeOf, typeInfo, hi, Builtin.lenOf, Builtin.firstCells]
    · simp [Builtin.append_, run_underlying ht, sizeOf, typeInfo, hi, Builtin.lenOf, Builtin.firstCells, hnc, storeCells]
  | some p =>
    have hcells : ∀ j u, news[j]? = some u → w.cell? (p.add j) = some u := by
      intro j u hu
      have hj : j < news.length := by
        rcases Nat.lt_or_ge j news.length with h | h
        · exact h
        · rw [List.getElem?_eq_none h] at hu; cases hu
      obtain ⟨q, hq, _, hx⟩ := hs.lies (by rw [← hs.len]; omega)
      injection hq with hq
      subst hq
      exact hx j u hu
    obtain ⟨v', w', hrun, h2, h3, _, h5⟩ := run_append_own_at (P := P) w base t ty e i z 1 bytes ht hi hz hsize hby hzs (by omega) v n xs hown p m c news (by rw [hs.len, Nat.mul_one]) hcells h1 h63 hbytes hbase
    refine ⟨v', w', hrun, h2, h3, ?_⟩
    rcases h5 with h5 | h5
    · exact .inl h5
    · exact .inr ⟨_, h5, Nat.le_refl _⟩

/-- the same at the operation, for the walk -/
theorem wpList_append_shows (w : World) {ops : Array Oper} {rest : List Oper} {o : Oper} {a : Act} {Q : Exit → Act → World → Prop} (hgd : o.guard = none) (s x : Operand) (t : TypeId)
    (ho : o.op = .call { callee := .builtin .append, args := #[s, x], argTypes := #[t, t] })
    (base : Nat) (e : TypeId) (i : TypeInfo) (z : Value) (bytes : Nat) (ht : P.underlying t = some (.slice e)) (hi : P.info? e = some i) (hz : i.zero = some z)
    (hsize : i.size = 1) (hby : i.bytes = bytes) (hzs : z.cells.size = 1)
    (v : Value) (n : Nat) (xs : List Value) (hev : a.eval s = v) (hown : w.ownsRow base e 1 v n xs)
    (B : Nat) (A : Option Addr) (m c : Nat) (news : List Value) (hx : a.eval x = .slice A m c) (hs : Shows w B A m news) (h1 : ∀ u ∈ news, u.oneCell' = true)
    (h63 : n + m ≤ maxLen) (hbytes : (n + m) * bytes ≤ 140737488355328) (hbase : base ≤ w.heap.size)
    (h : ∀ v' w', w'.ownsRow base e 1 v' (n + m) (xs ++ news) → Grew w w' v v' → wpList P ops Q rest (a.put o.dst v') w') : wpList P ops Q (o :: rest) a w := by
  refine wpList_plain hgd fun K hK => ?_
  obtain ⟨v', w', hr, h2, h3⟩ := run_append_shows (P := P) w base t o.type e i z bytes ht hi hz hsize hby hzs v n xs hown B A m c news hs h1 h63 hbytes hbase
  unfold Oper.wp execOp
  simp only [ho, resolve, invoke, builtin, Sem.run_bind, Sem.run_pure, Result.andThen_ok, List.map_toArray, List.map_cons, List.map_nil, hev, hx, hr]
  exact hK _ _ (h v' w' h2 h3)
end

/-- a block of literal cells, just laid, shown as a slice -/
theorem shows_new (w : World) (cs : Array Value) (e : TypeId) : Shows (w.alloc (.cells cs e)) (w.heap.size + 1) (some ⟨w.heap.size, 0, none⟩) cs.size cs.toList := by
  refine ⟨by simp, fun _ => ⟨⟨w.heap.size, 0, none⟩, rfl, Nat.lt_succ_self _, fun j u hj => ?_⟩⟩
  have hc := cell_of_row (w.alloc (.cells cs e)) w.heap.size j cs e (0, 0) (heap_alloc_new w _)
  have ha : (⟨w.heap.size, 0, none⟩ : Addr).add j = ⟨w.heap.size, j, none⟩ := by
    unfold Addr.add
    by_cases hj0 : j = 0 <;> simp [hj0]
  rw [ha, hc]
  simpa using hj

theorem add_pos (p : Addr) (k : Nat) (hk : k ≠ 0) : p.add k = ⟨p.block, p.off + k, none⟩ := by simp [Addr.add, hk]
/-- the slice cut at its front at a number above 0, as the walk writes it -/
theorem Shows.behind {w : World} {B n : Nat} {A : Option Addr} {xs : List Value} (h : Shows w B A n xs) {k cap : Nat} (h0 : k ≠ 0) (hk : k ≤ n) (hc : n ≤ cap) (hne : ¬ cap = k) :
    Shows w B (A.map fun x => ⟨x.block, x.off + k, none⟩) (n - k) (xs.drop k) := by
  have h1 := h.from_ hk hc
  rw [if_neg hne] at h1
  have e : (fun x : Addr => x.add k) = fun x : Addr => (⟨x.block, x.off + k, none⟩ : Addr) := by funext x; exact add_pos x k h0
  rw [e] at h1
  exact h1

section
variable {P : Program}
/-- copy into a row that the call has just made, of a slice that is no shorter -/
theorem wpList_copy_shows {w : World} {ops : Array Oper} {rest : List Oper} {o : Oper} {a : Act} {Q : Exit → Act → World → Prop} (hgd : o.guard = none) (d s : Operand) (dT sT : TypeId)
    (ho : o.op = .call { callee := .builtin .copy, args := #[d, s], argTypes := #[dT, sT] }) (e : TypeId) (hu : P.underlying dT = some (.slice e)) (hsz : (P.info? e).map (·.size) = some 1)
    (g m n c : Nat) (A : Option Addr) (hd : a.eval d = .slice (some ⟨g, 0, none⟩) m m) (hs : a.eval s = .slice A n c) (hmn : m ≤ n)
    (base : Nat) (old xs : List Value) (hown : w.ownsRow base e 1 (.slice (some ⟨g, 0, none⟩) m m) m old) (B : Nat) (hsh : Shows w B A n xs) (h1 : ∀ u ∈ xs, u.oneCell' = true)
    (C : Nat) (w0 : World) (hb : Below C w0 w) (hC : C ≤ base)
    (h : ∀ w', w'.ownsRow base e 1 (.slice (some ⟨g, 0, none⟩) m m) m (xs.take m) → Below C w0 w' → wpList P ops Q rest (a.put o.dst (goInt m)) w') : wpList P ops Q (o :: rest) a w := by
  have hlen : (xs.take m).length = m := by rw [List.length_take, hsh.len, Nat.min_eq_left hmn]
  rcases hown.2 with ⟨hv, _⟩ | ⟨g', cap, cur, hv, hg, hh, hnc, hcm, hcs, htake⟩
  · cases hv
  · injection hv with hv1 _ hv2
    injection hv1 with hv1
    injection hv1 with hv1
    subst hv1
    subst hv2
    obtain ⟨curl⟩ := cur
    have hcl : curl.length = m := by simpa using hcs
    refine wpList_copy_splice hgd d s dT sT ho e hu hsz _ _ m m n c hd hs g 0 curl e hh (xs.take m) (by rw [hlen]; exact (Nat.min_eq_right hmn).symm) ?_ (by rw [hlen]; omega) (fun u hu' => h1 u (List.mem_of_mem_take hu')) C w0 hb (by omega) ?_
    · intro hpos
      obtain ⟨p, hp, _, hx⟩ := hsh.lies (by rw [hlen] at hpos; omega)
      refine ⟨rfl, p, hp, fun j u hj => hx j u ?_⟩
      rw [List.getElem?_take] at hj
      split at hj
      · exact hj
      · cases hj
    · intro w' hw' hb'
      rw [hlen]
      refine h w' ⟨by rw [hlen, Nat.mul_one], .inr ⟨g, m, _, rfl, hg, hw'.out, Nat.le_refl _, hcm, ?_, ?_⟩⟩ hb'
      · rw [List.size_toArray, length_splice _ _ _ (by rw [hlen]; omega), hcl, Nat.mul_one]
      · simp only [splice, Nat.mul_one, List.take_zero, List.nil_append, hlen, Nat.zero_add]
        rw [List.take_append_of_le_length (by omega), List.take_of_length_le (by omega)]
/-- copy into the block that was laid last (an array's variable), of a slice that is no shorter -/
theorem wpList_copy_new {w : World} {ops : Array Oper} {rest : List Oper} {o : Oper} {a : Act} {Q : Exit → Act → World → Prop} (hgd : o.guard = none) (d s : Operand) (dT sT : TypeId)
    (ho : o.op = .call { callee := .builtin .copy, args := #[d, s], argTypes := #[dT, sT] }) (e : TypeId) (hu : P.underlying dT = some (.slice e)) (hsz : (P.info? e).map (·.size) = some 1)
    (m n c : Nat) (A : Option Addr) (old : List Value) (t : TypeId) (hd : a.eval d = .slice (some ⟨w.heap.size, 0, none⟩) m m) (hs : a.eval s = .slice A n c) (hmn : m ≤ n) (hold : old.length = m)
    (xs : List Value) (B : Nat) (hB : B ≤ w.heap.size) (hsh : Shows w B A n xs) (h1 : ∀ u ∈ xs, u.oneCell' = true)
    (h : ∀ w', Hid (w'.heap[w.heap.size]? = some (.cells (xs.take m).toArray t (0, 0))) → Below w.heap.size w w' → wpList P ops Q rest (a.put o.dst (goInt m)) w') : wpList P ops Q (o :: rest) a (w.alloc (.cells old.toArray t)) := by
  have hlen : (xs.take m).length = m := by rw [List.length_take, hsh.len, Nat.min_eq_left hmn]
  refine wpList_copy_splice hgd d s dT sT ho e hu hsz _ _ m m n c hd hs w.heap.size 0 old t (heap_alloc_new w _) (xs.take m) (by rw [hlen]; exact (Nat.min_eq_right hmn).symm) ?_ (by rw [hlen]; omega) (fun u hu' => h1 u (List.mem_of_mem_take hu')) w.heap.size w ((Below.refl _ _).alloc (Nat.le_refl _) _) (Nat.le_refl _) ?_
  · intro hpos
    obtain ⟨p, hp, _, hx⟩ := (hsh.alloc hB (.cells old.toArray t)).lies (by rw [hlen] at hpos; omega)
    refine ⟨rfl, p, hp, fun j u hj => hx j u ?_⟩
    rw [List.getElem?_take] at hj
    split at hj
    · exact hj
    · cases hj
  · intro w' hw' hb'
    rw [hlen]
    have e2 : splice old 0 (xs.take m) = xs.take m := by simp [splice, hlen, hold]
    rw [e2] at hw'
    exact h w' hw' hb'
end

end Go.Proofs.Ytpkbkliblbbdcaa
