/- Plain mathematics for the wire layer: letters, widths, bytes of numbers. No program is named here. Words for memory, of this proof's own: a slice that shows cells, bytes as cells, what an append leaves. No program is named here. Bytes that came in as an argument, as a list. Walks of the leaf functions of package wire: widthOf, leastOf, byteOf. Walks of appendNumber and number of package wire. Walks of May and Least of package wire: a shape is gone over rune by rune. -/
import Derived.WalkKit
import Derived.Laws.BitsAllLaws
import Derived.WalkSpells
import Derived.Maps.AppendAt
import Derived.Deep.AppendLies
import Derived.Deep.Draws
import Derived.Laws.CopyOwn
import Derived.OpenShut
import Derived.Test.YtpkbkliblbbdcaaProg
import Derived.WalkLawsBesides
import Derived.Lib.Hide
import Derived.Laws.RangeAny
section
namespace Go.Proofs.Ytpkbkliblbbdcaa
open Go.RowKit
set_option maxRecDepth 20000

/-- how many bytes a letter's number has; 0: the letter is not a number's -/
def wid (c : Int) : Int := if c = 49 then 1 else if c = 50 then 2 else if c = 52 then 4 else if c = 56 then 8 else 0
/-- how many bytes a letter's value takes at least; 0: no letter of a shape -/
def lst (c : Int) : Int := if c = 63 then 1 else if c = 42 then 4 else if c = 35 then 256 else wid c

theorem wid_le (c : Int) : 0 ≤ wid c ∧ wid c ≤ 8 := by unfold wid; omega
theorem lst_le (c : Int) : 0 ≤ lst c ∧ lst c ≤ 256 := by have := wid_le c; unfold lst; omega

theorem ret_int {k : IntKind} {a b : Int} (h : a = b) : Ending.returned (.int k a) = .returned (.int k b) := by rw [h]
theorem val_int {k : IntKind} {a b : Int} (h : a = b) : Value.int k a = .int k b := by rw [h]

/-- the k lowest bytes of a number, the lowest first -/
def low (n : Nat) : Nat → List UInt8
  | 0 => []
  | k + 1 => low n k ++ [UInt8.ofNat (n / 256 ^ k % 256)]
theorem low_length (n k : Nat) : (low n k).length = k := by
  induction k with
  | zero => rfl
  | succ k ih => simp [low, ih]
theorem byte_toNat (n : Nat) : (UInt8.ofNat (n % 256)).toNat = n % 256 := by simp
/-- the number that bytes are, the lowest first -/
def num8 : List UInt8 → Nat
  | [] => 0
  | b :: l => b.toNat + 256 * num8 l

theorem num8_snoc (l : List UInt8) (b : UInt8) : num8 (l ++ [b]) = num8 l + b.toNat * 256 ^ l.length := by
  induction l with
  | nil => simp [num8]
  | cons a l ih => simp only [List.cons_append, num8, ih, List.length_cons, Nat.pow_succ]; rw [Nat.mul_add, ← Nat.mul_assoc, Nat.mul_comm 256 b.toNat, Nat.mul_assoc, Nat.mul_comm 256 (256 ^ l.length)]; omega
theorem num8_lt (l : List UInt8) : num8 l < 256 ^ l.length := by
  induction l with
  | nil => simp [num8]
  | cons a l ih =>
    have := a.toNat_lt
    simp only [num8, List.length_cons, Nat.pow_succ]
    omega
theorem num8_take (l : List UInt8) (i : Nat) (h : i < l.length) : num8 (l.take (i + 1)) = num8 (l.take i) + (l[i]'h).toNat * 256 ^ i := by
  rw [List.take_succ_eq_append_getElem h, num8_snoc, List.length_take, Nat.min_eq_left (by omega)]
theorem num8_low (n k : Nat) : num8 (low n k) = n % 256 ^ k := by
  induction k with
  | zero => simp [low, num8, Nat.mod_one]
  | succ k ih =>
    rw [low, num8_snoc, ih, low_length, byte_toNat, Nat.pow_succ, Nat.mod_mul, Nat.mul_comm]
theorem low_num8 (l : List UInt8) : low (num8 l) l.length = l := by
  suffices h : ∀ k, k ≤ l.length → low (num8 l) k = l.take k by simpa using h l.length (Nat.le_refl _)
  intro k hk
  induction k with
  | zero => simp [low]
  | succ k ih =>
    rw [low, ih (by omega), List.take_succ_eq_append_getElem (by omega)]
    have hsplit : num8 l = num8 (l.take k) + (num8 (l.drop k)) * 256 ^ k := by
      clear ih
      induction l generalizing k with
      | nil => simp at hk
      | cons a l ih =>
        cases k with
        | zero => simp [num8]
        | succ k =>
          simp only [List.take_succ_cons, List.drop_succ_cons, num8]
          rcases Nat.lt_or_ge k l.length with h | h
          · rw [ih k (by omega)]; simp only [Nat.pow_succ]; rw [Nat.mul_add, ← Nat.mul_assoc, Nat.mul_comm 256 (num8 (l.drop k)), Nat.mul_assoc, Nat.mul_comm 256 (256 ^ k)]; omega
          · simp at hk; omega
    have hlt := num8_lt (l.take k)
    rw [List.length_take, Nat.min_eq_left (by omega)] at hlt
    have hdrop : num8 (l.drop k) % 256 = (l[k]'(by omega)).toNat := by
      rw [List.drop_eq_getElem_cons (by omega), num8]
      have := (l[k]'(by omega)).toNat_lt
      omega
    have : num8 l / 256 ^ k % 256 = (l[k]'(by omega)).toNat := by
      rw [hsplit, Nat.add_mul_div_right _ _ (Nat.pow_pos (by omega)), Nat.div_eq_of_lt hlt, Nat.zero_add, hdrop]
    rw [this]
    simp
theorem pow256 (i : Nat) : (256 : Nat) ^ i = 2 ^ (8 * i) := by rw [Nat.pow_mul]
theorem or_step (x i : Nat) (b : UInt8) (hi : i < 8) (hx : x < 256 ^ i) :
    bits .or .u64 (x : Int) (IntKind.u64.wrap (IntKind.u64.wrap (b.toNat : Int) * 2 ^ (8 * i))) = ((x + b.toNat * 256 ^ i : Nat) : Int) := by
  have hb := b.toNat_lt
  have hp : (256 : Nat) ^ i ≤ 256 ^ 7 := Nat.pow_le_pow_right (by omega) (by omega)
  have hm : b.toNat * 256 ^ i ≤ 255 * 256 ^ 7 := Nat.mul_le_mul (by omega) hp
  have e1 : IntKind.u64.wrap (IntKind.u64.wrap (b.toNat : Int) * 2 ^ (8 * i)) = ((b.toNat * 256 ^ i : Nat) : Int) := by
    have e0 : ((b.toNat : Int)) * 2 ^ (8 * i) = ((b.toNat * 256 ^ i : Nat) : Int) := by rw [pow256]; simp
    rw [IntKind.wrap_u64 (b.toNat : Int), Int.emod_eq_of_lt (by omega) (by omega), e0, IntKind.wrap_u64, Int.emod_eq_of_lt (by omega) (by omega)]
  have e2 : x + b.toNat * 256 ^ i = x ||| b.toNat * 256 ^ i := by
    rw [pow256] at hx ⊢
    rw [Nat.add_comm, Nat.mul_comm, Nat.two_pow_add_eq_or_of_lt hx, Nat.or_comm]
  rw [e1, u64_or_nat _ _ (by omega) (by omega), ← e2]

end Go.Proofs.Ytpkbkliblbbdcaa
end

section
namespace Go.Proofs.Ytpkbkliblbbdcaa
open Go.RowKit
set_option maxRecDepth 20000

/-- bytes as cells -/
def cells8 (l : List UInt8) : List Value := l.map fun b => .int .u8 (b.toNat : Int)
theorem cells8_length (l : List UInt8) : (cells8 l).length = l.length := by simp [cells8]
theorem cells8_append (a b : List UInt8) : cells8 (a ++ b) = cells8 a ++ cells8 b := by simp [cells8]
theorem cells8_get (l : List UInt8) (i : Nat) (h : i < l.length) : (cells8 l)[i]? = some (.int .u8 ((l[i]'h).toNat : Int)) := by
  simp [cells8, List.getElem?_eq_getElem h]
theorem cells8_one (l : List UInt8) : ∀ u ∈ cells8 l, u.oneCell' = true := by
  intro u hu
  simp only [cells8, List.mem_map] at hu
  obtain ⟨b, _, rfl⟩ := hu
  rfl
theorem cells8_drop (l : List UInt8) (k : Nat) : cells8 (l.drop k) = (cells8 l).drop k := by simp [cells8, List.map_drop]
theorem cells8_take (l : List UInt8) (k : Nat) : cells8 (l.take k) = (cells8 l).take k := by simp [cells8, List.map_take]

/-- a slice of n one-cell elements from A on shows the cells xs; where it has any, they lie below block B -/
structure Shows (w : World) (B : Nat) (A : Option Addr) (n : Nat) (xs : List Value) : Prop where
  len : xs.length = n
  lies : 0 < n → ∃ p : Addr, A = some p ∧ p.block < B ∧ ∀ j u, xs[j]? = some u → w.cell? (p.add j) = some u

theorem addr_block (p : Addr) (k : Nat) : (p.add k).block = p.block := by
  unfold Addr.add
  split <;> rfl
theorem addr_twice (p : Addr) (i j : Nat) : (p.add i).add j = p.add (i + j) := by
  unfold Addr.add
  by_cases hi : i = 0
  · by_cases hj : j = 0 <;> simp [hi, hj]
  · by_cases hj : j = 0 <;> simp [hi, hj, Nat.add_assoc]

section
variable {w w' : World} {B C n : Nat} {A : Option Addr} {xs : List Value}
theorem Shows.empty (w : World) (B : Nat) (A : Option Addr) : Shows w B A 0 [] := ⟨rfl, fun h => absurd h (Nat.lt_irrefl 0)⟩
theorem Shows.moved (h : Shows w B A n xs) (hc : ∀ p : Addr, p.block < B → w'.cell? p = w.cell? p) : Shows w' B A n xs := by
  refine ⟨h.len, fun hn => ?_⟩
  obtain ⟨p, e, hp, hx⟩ := h.lies hn
  exact ⟨p, e, hp, fun j u hu => by rw [hc _ (by rw [addr_block]; exact hp)]; exact hx j u hu⟩
theorem Shows.below (h : Shows w B A n xs) (hb : Below B w w') : Shows w' B A n xs := h.moved fun _ hp => hb.cell hp
theorem Shows.wide (h : Shows w B A n xs) (hB : B ≤ C) : Shows w C A n xs := by
  refine ⟨h.len, fun hn => ?_⟩
  obtain ⟨p, e, hp, hx⟩ := h.lies hn
  exact ⟨p, e, Nat.lt_of_lt_of_le hp hB, hx⟩
theorem Shows.alloc (h : Shows w B A n xs) (hB : B ≤ w.heap.size) (o : Obj) : Shows (w.alloc o) B A n xs :=
  h.moved fun p hp => World.cell?_alloc_lt w o p (Nat.lt_of_lt_of_le hp hB)
theorem Shows.drew (h : Shows w B A n xs) : Shows w.drew B A n xs := h.moved fun _ _ => rfl
theorem Shows.drewN (h : Shows w B A n xs) (k : Nat) : Shows (w.drewN k) B A n xs := h.moved fun _ _ => rfl
theorem Shows.cell {k : Nat} (h : Shows w B A n xs) (hk : k < n) : ∃ (p : Addr) (u : Value), A = some p ∧ p.block < B ∧ xs[k]? = some u ∧ w.cell? (p.add k) = some u := by
  obtain ⟨p, e, hp, hx⟩ := h.lies (by omega)
  have hl : k < xs.length := by rw [h.len]; exact hk
  exact ⟨p, xs[k], e, hp, List.getElem?_eq_getElem hl, hx k _ (List.getElem?_eq_getElem hl)⟩
/-- the slice cut at its front -/
theorem Shows.from_ (h : Shows w B A n xs) {k cap : Nat} (hk : k ≤ n) (hc : n ≤ cap) :
    Shows w B (if cap = k then A else A.map (·.add k)) (n - k) (xs.drop k) := by
  refine ⟨by simp [h.len], fun hn => ?_⟩
  obtain ⟨p, rfl, hp, hx⟩ := h.lies (by omega)
  rw [if_neg (by omega)]
  refine ⟨p.add k, rfl, by rw [addr_block]; exact hp, fun j u hu => ?_⟩
  rw [addr_twice]
  exact hx _ u (by simpa [List.getElem?_drop] using hu)
/-- the slice cut at its end -/
theorem Shows.upto (h : Shows w B A n xs) {k : Nat} (hk : k ≤ n) : Shows w B A k (xs.take k) := by
  refine ⟨by simp [h.len, hk], fun hn => ?_⟩
  obtain ⟨p, rfl, hp, hx⟩ := h.lies (by omega)
  refine ⟨p, rfl, hp, fun j u hu => hx j u ?_⟩
  rw [List.getElem?_take] at hu
  split at hu
  · exact hu
  · cases hu
theorem Shows.owned {base : Nat} {e : TypeId} {c : Nat} (h : w.ownsRow base e 1 (.slice A n c) n xs) : Shows w w.heap.size A n xs := by
  refine ⟨by simpa using h.1, fun hn => ?_⟩
  rcases h.2 with ⟨hv, h0⟩ | ⟨g, cap, cur, hv, _, _⟩
  · omega
  · have hA : A = some ⟨g, 0, none⟩ := by injection hv
    subst hA
    exact ⟨⟨g, 0, none⟩, rfl, (h.lt g rfl).2, h.cells (g := g) rfl⟩
end

/-- what an append, or several, onto v leave: only v's own row and new blocks have turned; v' lies where v lay, or in a new block -/
structure Grew (w w' : World) (v v' : Value) : Prop where
  by_ : w.grownBy w' v.ownBlock
  at_ : v'.ownBlock = v.ownBlock ∨ ∃ g, v'.ownBlock = some g ∧ w.heap.size ≤ g
theorem Grew.refl (w : World) (v : Value) : Grew w w v v := ⟨World.grownBy.refl w _, .inl rfl⟩
theorem Grew.trans {a b c : World} {u v x : Value} (h : Grew a b u v) (k : Grew b c v x) : Grew a c u x := by
  refine ⟨⟨k.by_.os.trans h.by_.os, k.by_.tape.trans h.by_.tape, k.by_.output.trans h.by_.output, Nat.le_trans h.by_.size k.by_.size, fun i hi hne => ?_⟩, ?_⟩
  · rw [k.by_.block i (Nat.lt_of_lt_of_le hi h.by_.size) ?_, h.by_.block i hi hne]
    rcases h.at_ with e | ⟨g, e, hg⟩
    · rw [e]; exact hne
    · rw [e]; intro he; injection he with he; omega
  · rcases k.at_ with e | ⟨g, e, hg⟩
    · rw [e]; exact h.at_
    · exact .inr ⟨g, e, Nat.le_trans h.by_.size hg⟩
theorem Grew.alloc {a b : World} {u v : Value} (h : Grew a b u v) (o : Obj) : Grew a (b.alloc o) u v := by
  refine ⟨⟨h.by_.os, h.by_.tape, h.by_.output, Nat.le_trans h.by_.size (by simp), fun i hi hne => ?_⟩, h.at_⟩
  rw [Below.heap_alloc b o i (Nat.lt_of_lt_of_le hi h.by_.size)]
  exact h.by_.block i hi hne
theorem Grew.drewN {a b : World} {u v : Value} (h : Grew a b u v) (n : Nat) : Grew a (b.drewN n) u v := ⟨⟨h.by_.os, h.by_.tape, h.by_.output, h.by_.size, h.by_.block⟩, h.at_⟩
theorem Grew.below {B base n : Nat} {e : TypeId} {size : Nat} {xs : List Value} {a b : World} {u v : Value} (h : Grew a b u v) (ho : a.ownsRow base e size u n xs) (hB : B ≤ base) (hs : B ≤ a.heap.size) : Below B a b :=
  (Below.refl B a).grown h.by_ hs fun k hk => Nat.le_trans hB (ho.lt k hk).1
theorem Grew.below_from {a b : World} {u v : Value} {B : Nat} (h : Grew a b u v) (hB : B ≤ a.heap.size) (hu : ∀ k, u.ownBlock = some k → B ≤ k) : Below B a b := (Below.refl B a).grown h.by_ hB hu

section
variable {P : Program}
/-- append onto a row of the call's own, of whatever slice shows its cells (nil, empty, or not) -/
theorem run_append_shows (w : World) (base : Nat) (t ty e : TypeId) (i : TypeInfo) (z : Value) (bytes : Nat) (ht : P.underlying t = some (.slice e)) (hi : P.info? e = some i) (hz : i.zero = some z)
    (hsize : i.size = 1) (hby : i.bytes = bytes) (hzs : z.cells.size = 1)
    (v : Value) (n : Nat) (xs : List Value) (hown : w.ownsRow base e 1 v n xs)
    (B : Nat) (A : Option Addr) (m c : Nat) (news : List Value) (hs : Shows w B A m news) (h1 : ∀ u ∈ news, u.oneCell' = true)
    (h63 : n + m ≤ maxLen) (hbytes : (n + m) * bytes ≤ 140737488355328) (hbase : base ≤ w.heap.size) :
    ∃ v' w', (Builtin.append_ #[t, t] ty #[v, .slice A m c]).run P w = .ok v' w' ∧ w'.ownsRow base e 1 v' (n + m) (xs ++ news) ∧ Grew w w' v v' := by
  cases A with
  | none =>
    have hm : m = 0 := by
      rcases Nat.eq_zero_or_pos m with h | h
      · exact h
      · obtain ⟨p, hp, _⟩ := hs.lies h
        cases hp
    subst hm
    have hn : news = [] := List.eq_nil_of_length_eq_zero hs.len
    subst hn
    refine ⟨v, w, ?_, by simpa using hown, Grew.refl w v⟩
    rcases hown.2 with ⟨rfl, rfl⟩ | ⟨g, cap, cur, rfl, _, _, hnc, _⟩
    · simp [Builtin.append_, run_underlying ht, sizeOf, typeInfo, hi, Builtin.lenOf, Builtin.firstCells]
    · simp [Builtin.append_, run_underlying ht, sizeOf, typeInfo, hi, Builtin.lenOf, Builtin.firstCells, hnc, storeCells]
  | some p =>
    have hcells : ∀ j u, news[j]? = some u → w.cell? (p.add j) = some u := by
      intro j u hu
      have hj : j < news.length := by
        rcases Nat.lt_or_ge j news.length with h | h
        · exact h
        · rw [List.getElem?_eq_none h] at hu; cases hu
      obtain ⟨q, hq, _, hx⟩ := hs.lies (by rw [← hs.len]; omega)
      injection hq with hq
      subst hq
      exact hx j u hu
    obtain ⟨v', w', hrun, h2, h3, _, h5⟩ := run_append_own_at (P := P) w base t ty e i z 1 bytes ht hi hz hsize hby hzs (by omega) v n xs hown p m c news (by rw [hs.len, Nat.mul_one]) hcells h1 h63 hbytes hbase
    refine ⟨v', w', hrun, h2, h3, ?_⟩
    rcases h5 with h5 | h5
    · exact .inl h5
    · exact .inr ⟨_, h5, Nat.le_refl _⟩

/-- the same at the operation, for the walk -/
theorem wpList_append_shows (w : World) {ops : Array Oper} {rest : List Oper} {o : Oper} {a : Act} {Q : Exit → Act → World → Prop} (hgd : o.guard = none) (s x : Operand) (t : TypeId)
    (ho : o.op = .call { callee := .builtin .append, args := #[s, x], argTypes := #[t, t] })
    (base : Nat) (e : TypeId) (i : TypeInfo) (z : Value) (bytes : Nat) (ht : P.underlying t = some (.slice e)) (hi : P.info? e = some i) (hz : i.zero = some z)
    (hsize : i.size = 1) (hby : i.bytes = bytes) (hzs : z.cells.size = 1)
    (v : Value) (n : Nat) (xs : List Value) (hev : a.eval s = v) (hown : w.ownsRow base e 1 v n xs)
    (B : Nat) (A : Option Addr) (m c : Nat) (news : List Value) (hx : a.eval x = .slice A m c) (hs : Shows w B A m news) (h1 : ∀ u ∈ news, u.oneCell' = true)
    (h63 : n + m ≤ maxLen) (hbytes : (n + m) * bytes ≤ 140737488355328) (hbase : base ≤ w.heap.size)
    (h : ∀ v' w', w'.ownsRow base e 1 v' (n + m) (xs ++ news) → Grew w w' v v' → wpList P ops Q rest (a.put o.dst v') w') : wpList P ops Q (o :: rest) a w := by
  refine wpList_plain hgd fun K hK => ?_
  obtain ⟨v', w', hr, h2, h3⟩ := run_append_shows (P := P) w base t o.type e i z bytes ht hi hz hsize hby hzs v n xs hown B A m c news hs h1 h63 hbytes hbase
  unfold Oper.wp execOp
  simp only [ho, resolve, invoke, builtin, Sem.run_bind, Sem.run_pure, Result.andThen_ok, List.map_toArray, List.map_cons, List.map_nil, hev, hx, hr]
  exact hK _ _ (h v' w' h2 h3)
end

/-- a block of literal cells, just laid, shown as a slice -/
theorem shows_new (w : World) (cs : Array Value) (e : TypeId) : Shows (w.alloc (.cells cs e)) (w.heap.size + 1) (some ⟨w.heap.size, 0, none⟩) cs.size cs.toList := by
  refine ⟨by simp, fun _ => ⟨⟨w.heap.size, 0, none⟩, rfl, Nat.lt_succ_self _, fun j u hj => ?_⟩⟩
  have hc := cell_of_row (w.alloc (.cells cs e)) w.heap.size j cs e (0, 0) (heap_alloc_new w _)
  have ha : (⟨w.heap.size, 0, none⟩ : Addr).add j = ⟨w.heap.size, j, none⟩ := by
    unfold Addr.add
    by_cases hj0 : j = 0 <;> simp [hj0]
  rw [ha, hc]
  simpa using hj

theorem add_pos (p : Addr) (k : Nat) (hk : k ≠ 0) : p.add k = ⟨p.block, p.off + k, none⟩ := by simp [Addr.add, hk]
/-- the slice cut at its front at a number above 0, as the walk writes it -/
theorem Shows.behind {w : World} {B n : Nat} {A : Option Addr} {xs : List Value} (h : Shows w B A n xs) {k cap : Nat} (h0 : k ≠ 0) (hk : k ≤ n) (hc : n ≤ cap) (hne : ¬ cap = k) :
    Shows w B (A.map fun x => ⟨x.block, x.off + k, none⟩) (n - k) (xs.drop k) := by
  have h1 := h.from_ hk hc
  rw [if_neg hne] at h1
  have e : (fun x : Addr => x.add k) = fun x : Addr => (⟨x.block, x.off + k, none⟩ : Addr) := by funext x; exact add_pos x k h0
  rw [e] at h1
  exact h1

section
variable {P : Program}
/-- copy into a row that the call has just made, of a slice that is no shorter -/
theorem wpList_copy_shows {w : World} {ops : Array Oper} {rest : List Oper} {o : Oper} {a : Act} {Q : Exit → Act → World → Prop} (hgd : o.guard = none) (d s : Operand) (dT sT : TypeId)
    (ho : o.op = .call { callee := .builtin .copy, args := #[d, s], argTypes := #[dT, sT] }) (e : TypeId) (hu : P.underlying dT = some (.slice e)) (hsz : (P.info? e).map (·.size) = some 1)
    (g m n c : Nat) (A : Option Addr) (hd : a.eval d = .slice (some ⟨g, 0, none⟩) m m) (hs : a.eval s = .slice A n c) (hmn : m ≤ n)
    (base : Nat) (old xs : List Value) (hown : w.ownsRow base e 1 (.slice (some ⟨g, 0, none⟩) m m) m old) (B : Nat) (hsh : Shows w B A n xs) (h1 : ∀ u ∈ xs, u.oneCell' = true)
    (C : Nat) (w0 : World) (hb : Below C w0 w) (hC : C ≤ base)
    (h : ∀ w', w'.ownsRow base e 1 (.slice (some ⟨g, 0, none⟩) m m) m (xs.take m) → Below C w0 w' → wpList P ops Q rest (a.put o.dst (goInt m)) w') : wpList P ops Q (o :: rest) a w := by
  have hlen : (xs.take m).length = m := by rw [List.length_take, hsh.len, Nat.min_eq_left hmn]
  rcases hown.2 with ⟨hv, _⟩ | ⟨g', cap, cur, hv, hg, hh, hnc, hcm, hcs, htake⟩
  · cases hv
  · injection hv with hv1 _ hv2
    injection hv1 with hv1
    injection hv1 with hv1
    subst hv1
    subst hv2
    obtain ⟨curl⟩ := cur
    have hcl : curl.length = m := by simpa using hcs
    refine wpList_copy_splice hgd d s dT sT ho e hu hsz _ _ m m n c hd hs g 0 curl e hh (xs.take m) (by rw [hlen]; exact (Nat.min_eq_right hmn).symm) ?_ (by rw [hlen]; omega) (fun u hu' => h1 u (List.mem_of_mem_take hu')) C w0 hb (by omega) ?_
    · intro hpos
      obtain ⟨p, hp, _, hx⟩ := hsh.lies (by rw [hlen] at hpos; omega)
      refine ⟨rfl, p, hp, fun j u hj => hx j u ?_⟩
      rw [List.getElem?_take] at hj
      split at hj
      · exact hj
      · cases hj
    · intro w' hw' hb'
      rw [hlen]
      refine h w' ⟨by rw [hlen, Nat.mul_one], .inr ⟨g, m, _, rfl, hg, hw'.out, Nat.le_refl _, hcm, ?_, ?_⟩⟩ hb'
      · rw [List.size_toArray, length_splice _ _ _ (by rw [hlen]; omega), hcl, Nat.mul_one]
      · simp only [splice, Nat.mul_one, List.take_zero, List.nil_append, hlen, Nat.zero_add]
        rw [List.take_append_of_le_length (by omega), List.take_of_length_le (by omega)]
/-- copy into the block that was laid last (an array's variable), of a slice that is no shorter -/
theorem wpList_copy_new {w : World} {ops : Array Oper} {rest : List Oper} {o : Oper} {a : Act} {Q : Exit → Act → World → Prop} (hgd : o.guard = none) (d s : Operand) (dT sT : TypeId)
    (ho : o.op = .call { callee := .builtin .copy, args := #[d, s], argTypes := #[dT, sT] }) (e : TypeId) (hu : P.underlying dT = some (.slice e)) (hsz : (P.info? e).map (·.size) = some 1)
    (m n c : Nat) (A : Option Addr) (old : List Value) (t : TypeId) (hd : a.eval d = .slice (some ⟨w.heap.size, 0, none⟩) m m) (hs : a.eval s = .slice A n c) (hmn : m ≤ n) (hold : old.length = m)
    (xs : List Value) (B : Nat) (hB : B ≤ w.heap.size) (hsh : Shows w B A n xs) (h1 : ∀ u ∈ xs, u.oneCell' = true)
    (h : ∀ w', Hid (w'.heap[w.heap.size]? = some (.cells (xs.take m).toArray t (0, 0))) → Below w.heap.size w w' → wpList P ops Q rest (a.put o.dst (goInt m)) w') : wpList P ops Q (o :: rest) a (w.alloc (.cells old.toArray t)) := by
  have hlen : (xs.take m).length = m := by rw [List.length_take, hsh.len, Nat.min_eq_left hmn]
  refine wpList_copy_splice hgd d s dT sT ho e hu hsz _ _ m m n c hd hs w.heap.size 0 old t (heap_alloc_new w _) (xs.take m) (by rw [hlen]; exact (Nat.min_eq_right hmn).symm) ?_ (by rw [hlen]; omega) (fun u hu' => h1 u (List.mem_of_mem_take hu')) w.heap.size w ((Below.refl _ _).alloc (Nat.le_refl _) _) (Nat.le_refl _) ?_
  · intro hpos
    obtain ⟨p, hp, _, hx⟩ := (hsh.alloc hB (.cells old.toArray t)).lies (by rw [hlen] at hpos; omega)
    refine ⟨rfl, p, hp, fun j u hj => hx j u ?_⟩
    rw [List.getElem?_take] at hj
    split at hj
    · exact hj
    · cases hj
  · intro w' hw' hb'
    rw [hlen]
    have e2 : splice old 0 (xs.take m) = xs.take m := by simp [splice, hlen, hold]
    rw [e2] at hw'
    exact h w' hw' hb'
end

end Go.Proofs.Ytpkbkliblbbdcaa
end

section
namespace Go.Proofs.Ytpkbkliblbbdcaa
open Go.RowKit
set_option maxRecDepth 20000

/-- bytes that came in: nil, or a row of cells -/
theorem row_bytes {w : World} {a : Option Addr} {len cap : Nat} {zs : List Int}
    (h : (a = none ∧ len = 0 ∧ cap = 0 ∧ zs = []) ∨
      ∃ x, a = some x ∧ len ≤ cap ∧ cap ≤ maxLen ∧ zs.length = cap ∧ (∀ i, i < zs.length → w.cell? (x.add i) = some (.int .u8 (zs.getD i 0))) ∧ ∀ n ∈ zs, (Lit.int .u8 n).wf = true) :
    ∃ l : List UInt8, l.length = len ∧ Shows w w.heap.size a l.length (cells8 l) ∧ l.length ≤ cap ∧ cap ≤ 9223372036854775807 := by
  rcases h with ⟨rfl, rfl, rfl, rfl⟩ | ⟨x, rfl, hl, hm, hz, hc, hw⟩
  · exact ⟨[], rfl, Shows.empty _ _ _, Nat.le_refl _, by omega⟩
  · refine ⟨(zs.take len).map fun z => UInt8.ofNat z.toNat, by simp; omega, ?_, by simp; omega, hm⟩
    have hlen : ((zs.take len).map fun z => UInt8.ofNat z.toNat).length = len := by simp; omega
    have hcell : ∀ j u, (cells8 ((zs.take len).map fun z => UInt8.ofNat z.toNat))[j]? = some u → w.cell? (x.add j) = some u := by
      intro j u hu
      have hj : j < len := by
        rcases Nat.lt_or_ge j len with h1 | h1
        · exact h1
        · rw [List.getElem?_eq_none (by rw [cells8_length, hlen]; exact h1)] at hu; cases hu
      have hjz : j < zs.length := by omega
      rw [hc j hjz]
      rw [cells8_get _ j (by rw [hlen]; exact hj)] at hu
      rw [← hu]
      have hwf := hw _ (List.getElem_mem hjz)
      have hb := bounds_u8 hwf
      simp [List.getD, hjz]
      omega
    refine ⟨by rw [cells8_length], fun hp => ⟨x, rfl, ?_, hcell⟩⟩
    rw [hlen] at hp
    have h0 := hc 0 (by omega)
    have := block_lt_of_cell h0
    rwa [addr_block] at this

end Go.Proofs.Ytpkbkliblbbdcaa
end

section
namespace Go.Proofs.Ytpkbkliblbbdcaa
open Go.RowKit
set_option maxRecDepth 20000

set_option maxHeartbeats 400000 in
theorem widthOf_any (c : Int) (w : World) :
    Calls Try.prog 64 #[.int .i32 c] w fun e w' => e = .returned (.int .i64 (wid c)) ∧ w = w' := by
  go_enter Try.func64, Try.ntmps64
  go_wp2
  all_goals go_ret
  all_goals refine ⟨ret_int ?_, rfl⟩
  all_goals simp only [beq_iff_eq, beq_eq_false_iff_ne, ne_eq] at *
  all_goals first
    | (simp [wid, *]; done)
    | (simp [wid, *]; unfold wrap64 wrap32; omega)

set_option maxHeartbeats 400000 in
theorem leastOf_any (c : Int) (w : World) :
    Calls Try.prog 63 #[.int .i32 c] w fun e w' => e = .returned (.int .i64 (lst c)) ∧ w = w' := by
  go_enter Try.func63, Try.ntmps63
  go_wp2_with (go_at_call 64; refine (widthOf_any _ _).mono ?_; rintro e w' ⟨rfl, rfl⟩)
  all_goals go_ret
  all_goals refine ⟨ret_int ?_, rfl⟩
  all_goals simp only [beq_iff_eq, beq_eq_false_iff_ne, ne_eq] at *
  all_goals simp [lst, *]

def bit8 (b : Bool) : UInt8 := if b then 1 else 0

set_option maxHeartbeats 400000 in
theorem byteOf_any (b : Bool) (w : World) :
    Calls Try.prog 66 #[.bool b] w fun e w' => e = .returned (.int .u8 ((bit8 b).toNat : Int)) ∧ w = w' := by
  go_enter Try.func66, Try.ntmps66
  cases b
  all_goals go_wp2
  all_goals go_ret
  all_goals exact ⟨rfl, rfl⟩

end Go.Proofs.Ytpkbkliblbbdcaa
end

section
namespace Go.Proofs.Ytpkbkliblbbdcaa
open Go.RowKit
set_option maxRecDepth 20000

theorem u8_info : (Try.prog.info? 5).map (fun i => (i.zero, i.size, i.bytes)) = some (some (.int .u8 0), 1, 1) := by kernel_rfl

theorem low_cells {n i x : Nat} (h : n / 256 ^ i = x) : cells8 (low n (i + 1)) = cells8 (low n i) ++ [.int .u8 ((x : Int) % 256)] := by
  rw [low, cells8_append, h]
  simp [cells8]
theorem low_next {n i x : Nat} (h : n / 256 ^ i = x) : ((x : Int) / 256) = ((n / 256 ^ (i + 1) : Nat) : Int) := by
  rw [Nat.pow_succ, ← Nat.div_div_eq_div_mul, h]
  simp

set_option maxHeartbeats 1000000 in
theorem appendNumber_any (base : Nat) (v : Value) (k : Nat) (xs : List Value) (n width : Nat) (w : World) (hown : w.ownsRow base 5 1 v k xs) (hbase : base ≤ w.heap.size)
    (_hn : n < 18446744073709551616) (hw : width ≤ 8) (hk : k ≤ 70368744177664) :
    Calls Try.prog 65 #[v, .int .u64 n, .int .i64 width] w fun e w' => ∃ v', e = .returned v' ∧ w'.ownsRow base 5 1 v' (k + width) (xs ++ cells8 (low n width)) ∧ Grew w w' v v' := by
  obtain ⟨i0, hi, hz0, hz1, hz2⟩ := info_parts u8_info
  go_enter Try.func65, Try.ntmps65
  go_wp2
  go_loopw [0, 1, 8] (fun u x j wr => ∃ i : Nat, i ≤ width ∧ j = .int .i64 i ∧ x = .int .u64 ((n / 256 ^ i : Nat) : Int) ∧ wr.ownsRow base 5 1 u (k + i) (xs ++ cells8 (low n i)) ∧ Grew w wr v u)
    (fun _ _ j _ => width - (intOf j).toNat)
  case atStart => exact ⟨0, Nat.zero_le _, rfl, by simp, by simpa [low, cells8] using hown, Grew.refl _ _⟩
  case round =>
    obtain ⟨i, hiw, rfl, rfl, how, hg⟩ := hrel
    have hdiv : n / 256 ^ i ≤ n := Nat.div_le_self _ _
    generalize hx : n / 256 ^ i = x at *
    have HX := Lib.hid hx
    clear hx
    by_cases hlt : i < width
    · go_wp2_with (at_builtin; refine wpList_append_shows _ rfl (.tmp 10) (.tmp 13) 24 rfl base 5 i0 (.int .u8 0) 1 Try.underlying24 hi hz0 hz1 hz2 rfl _ _ _ rfl (how.alloc _) (wr.heap.size + 1) _ 1 1 [.int .u8 ((x : Int) % 256)] rfl (shows_new wr _ _) (by simp [Value.oneCell']) (by unfold maxLen; omega) (by omega) (by have := hg.by_.size; simp; omega) ?_; intro v' w1 hown' hgrow)
      go_roundw
      case rel => exact ⟨i + 1, hlt, by go_num, val_int (low_next HX.out), by rw [low_cells HX.out, ← List.append_assoc]; exact hown', (hg.alloc _).trans hgrow⟩
      case measure => simp [intOf]; omega
    · go_wp2
      go_ret
      obtain rfl : i = width := by omega
      exact ⟨_, rfl, how, hg⟩

set_option maxHeartbeats 1000000 in
theorem number_any (B : Nat) (A : Option Addr) (c : Nat) (l : List UInt8) (w : World) (hs : Shows w B A l.length (cells8 l)) (hl : l.length ≤ 8) :
    Calls Try.prog 68 #[.slice A l.length c] w fun e w' => e = .returned (.int .u64 (num8 l : Int)) ∧ w = w' := by
  go_enter Try.func68, Try.ntmps68
  go_wp2
  go_loop [3, 8] (fun x j => ∃ i : Nat, i ≤ l.length ∧ j = .int .i64 i ∧ x = .int .u64 ((num8 (l.take i) : Nat) : Int))
    (fun _ j => l.length - (intOf j).toNat)
  case atStart => exact ⟨0, Nat.zero_le _, rfl, by simp [num8]⟩
  case round =>
    obtain ⟨i, hiw, rfl, rfl⟩ := hrel
    by_cases hlt : i < l.length
    · obtain ⟨p, u, rfl, hp, hu, hcell⟩ := hs.cell hlt
      rw [cells8_get l i hlt] at hu
      injection hu with hu
      subst hu
      generalize hx : num8 (l.take i) = x at *
      have HX := Lib.hid hx
      clear hx
      have hxl : x < 256 ^ i := by
        have := num8_lt (l.take i)
        rw [List.length_take, Nat.min_eq_left (by omega), HX.out] at this
        exact this
      have HL := Lib.hid hxl
      clear hxl
      go_wp2
      go_round
      case rel => exact ⟨i + 1, hlt, by go_num, val_int (by rw [or_step x i _ (by omega) HL.out, num8_take l i hlt, HX.out])⟩
      case measure => simp [intOf]; omega
    · go_wp2
      go_ret
      obtain rfl : i = l.length := by omega
      exact ⟨by simp, rfl⟩

theorem number_at (B : Nat) (A : Option Addr) (n c : Nat) (l : List UInt8) (w : World) (hs : Shows w B A n (cells8 l)) (hl : n ≤ 8) :
    Calls Try.prog 68 #[.slice A n c] w fun e w' => e = .returned (.int .u64 (num8 l : Int)) ∧ w = w' := by
  have e : n = l.length := by rw [← hs.len, cells8_length]
  subst e
  exact number_any B A c l w hs hl

end Go.Proofs.Ytpkbkliblbbdcaa
end

section
namespace Go.Proofs.Ytpkbkliblbbdcaa
open Go.RowKit
set_option maxRecDepth 20000

/-- a text's bytes -/
def bs (s : ByteArray) : List UInt8 := s.data.toList
theorem bs_length (s : ByteArray) : (bs s).length = s.size := by simp only [bs, Array.length_toList]; rfl
theorem bs_get (s : ByteArray) (i : Nat) (h : i < s.size) : (bs s)[i]'(by rw [bs_length]; exact h) = s[i]'h := by simp only [bs, Array.getElem_toList]; rfl
theorem bs_take (s : ByteArray) (i : Nat) (h : i < s.size) : (bs s).take (i + 1) = (bs s).take i ++ [s[i]'h] := by
  rw [List.take_succ_eq_append_getElem (by rw [bs_length]; exact h), bs_get s i h]
theorem bs_all (s : ByteArray) : (bs s).take s.size = bs s := by rw [← bs_length, List.take_length]

def letter (b : UInt8) : Bool := !(lst (b.toNat : Int) == 0)
def mayS (l : List UInt8) : Bool := l.all letter
def leastS : List UInt8 → Nat
  | [] => 0
  | b :: l => (lst (b.toNat : Int)).toNat + leastS l
theorem leastS_snoc (l : List UInt8) (b : UInt8) : leastS (l ++ [b]) = leastS l + (lst (b.toNat : Int)).toNat := by
  induction l with
  | nil => simp [leastS]
  | cons a l ih => simp [leastS, ih]; omega
theorem leastS_le (l : List UInt8) : leastS l ≤ 256 * l.length := by
  induction l with
  | nil => simp [leastS]
  | cons a l ih => have := lst_le (a.toNat : Int); simp only [leastS, List.length_cons]; omega
theorem mayS_stop (l : List UInt8) (i : Nat) (h : i < l.length) (hb : lst ((l[i]'h).toNat : Int) = 0) : mayS l = false := by
  unfold mayS
  rw [List.all_eq_false]
  exact ⟨l[i], List.getElem_mem h, by simp [letter, hb]⟩
theorem mayS_step (s : ByteArray) (i : Nat) (h : i < s.size) (hm : mayS ((bs s).take i) = true) (hb : ¬ lst ((s[i]'h).toNat : Int) = 0) : mayS ((bs s).take (i + 1)) = true := by
  unfold mayS at *
  rw [bs_take s i h, List.all_append, hm]
  simp [letter, hb]

theorem lst_high (c : Int) (h : 128 ≤ c) : lst c = 0 := by unfold lst wid; omega
theorem rune_lst (s : ByteArray) (pos : Nat) (h : pos < s.size) : lst ((Utf8.decode s pos).1 : Int) = lst ((s[pos]'h).toNat : Int) := by
  by_cases ha : (s[pos]'h).toNat < 128
  · rw [decode_ascii s pos h ha]
  · have := (decode_high s pos h (by omega)).1
    rw [lst_high _ (by omega), lst_high _ (by omega)]
theorem rune_of (s : ByteArray) (pos : Nat) (h : pos < s.size) (hb : ¬ lst ((s[pos]'h).toNat : Int) = 0) : Utf8.decode s pos = ((s[pos]'h).toNat, 1) := by
  refine decode_ascii s pos h ?_
  rcases Nat.lt_or_ge (s[pos]'h).toNat 128 with h1 | h1
  · exact h1
  · exact absurd (lst_high _ (by omega)) hb

set_option maxHeartbeats 1000000 in
theorem may_any (s : ByteArray) (w : World) :
    Calls Try.prog 50 #[.string s] w fun e w' => e = .returned (.bool (mayS (bs s))) ∧ Below w.heap.size w w' := by
  go_enter Try.func50, Try.ntmps50
  go_wp2
  go_loopw [4] (fun _ wr => ∃ pos : Nat, pos ≤ s.size ∧ wr = w.iter s pos ∧ Hid (mayS ((bs s).take pos) = true)) (fun _ wr => s.size - wr.iterPos w.heap.size)
  case atStart => exact ⟨0, Nat.zero_le _, rfl, rfl⟩
  case round =>
    obtain ⟨pos, hp, rfl, HM⟩ := hrel
    by_cases hlt : pos < s.size
    · have hr := rune_lst s pos hlt
      by_cases hz : lst ((s[pos]'hlt).toNat : Int) = 0
      · have hnx : ∀ ty, (Instr.next (.pointer (some ⟨w.heap.size, 0, none⟩)) true ty).run Try.prog (w.iter s pos) = _ := fun ty => run_next_any w s pos ty hlt
        rw [hz] at hr
        have hfin : mayS (bs s) = false := mayS_stop (bs s) pos (by rw [bs_length]; exact hlt) (by rw [bs_get s pos hlt]; exact hz)
        have HF := Lib.hid hfin
        have HR := Lib.hid hr
        clear hfin hr hz
        go_wp2_with fail
        refine (leastOf_any _ _).mono ?_
        rintro e w' ⟨rfl, rfl⟩
        rw [HR.out]
        go_wp2
        go_ret
        exact ⟨by rw [HF.out]; rfl, (Below.refl _ _).alloc (Nat.le_refl _) _⟩
      · have hd := rune_of s pos hlt hz
        have hnx : ∀ ty, (Instr.next (.pointer (some ⟨w.heap.size, 0, none⟩)) true ty).run Try.prog (w.iter s pos) = _ := fun ty => run_next_any w s pos ty hlt
        simp only [hd] at hnx
        have HM2 := Lib.hid (mayS_step s pos hlt HM.out hz)
        have hz0 : (lst ((s[pos]'hlt).toNat : Int) == 0) = false := by simpa using hz
        clear hd hr hz HM
        go_wp2_with fail
        refine (leastOf_any _ _).mono ?_
        rintro e w' ⟨rfl, rfl⟩
        go_wp2
        go_roundw
        case rel => exact ⟨pos + 1, hlt, rfl, HM2⟩
        case measure => simp; omega
    · have hnx : ∀ ty, (Instr.next (.pointer (some ⟨w.heap.size, 0, none⟩)) true ty).run Try.prog (w.iter s pos) = _ := fun ty => run_next_end w s pos ty hlt
      obtain rfl : pos = s.size := by omega
      have HM2 := Lib.hid (show mayS (bs s) = true by rw [← bs_all]; exact HM.out)
      clear HM
      go_wp2
      go_ret
      exact ⟨by rw [HM2.out]; rfl, (Below.refl _ _).alloc (Nat.le_refl _) _⟩

theorem leastS_step (s : ByteArray) (i : Nat) (h : i < s.size) : (leastS ((bs s).take (i + 1)) : Int) = leastS ((bs s).take i) + lst ((s[i]'h).toNat : Int) := by
  have := lst_le ((s[i]'h).toNat : Int)
  rw [bs_take s i h, leastS_snoc]
  omega
theorem leastS_bound (s : ByteArray) (i : Nat) (h : i ≤ s.size) : leastS ((bs s).take i) ≤ 256 * i := by
  have := leastS_le ((bs s).take i)
  rw [List.length_take, bs_length, Nat.min_eq_left h] at this
  exact this

/-- how many bytes a shape takes at least; 0: it may not be -/
def leastM (l : List UInt8) : Nat := if mayS l then leastS l else 0

set_option maxHeartbeats 1000000 in
theorem least_any (s : ByteArray) (w : World) (hs : s.size ≤ 1000000) :
    Calls Try.prog 51 #[.string s] w fun e w' => e = .returned (.int .i64 (leastM (bs s) : Int)) ∧ Below w.heap.size w w' := by
  go_enter Try.func51, Try.ntmps51
  go_wp2
  go_loopw [3] (fun v wr => ∃ pos : Nat, pos ≤ s.size ∧ v = .int .i64 (leastS ((bs s).take pos) : Int) ∧ wr = w.iter s pos ∧ Hid (mayS ((bs s).take pos) = true)) (fun _ wr => s.size - wr.iterPos w.heap.size)
  case atStart => exact ⟨0, Nat.zero_le _, rfl, rfl, rfl⟩
  case round =>
    obtain ⟨pos, hp, rfl, rfl, HM⟩ := hrel
    by_cases hlt : pos < s.size
    · have hr := rune_lst s pos hlt
      by_cases hz : lst ((s[pos]'hlt).toNat : Int) = 0
      · have hnx : ∀ ty, (Instr.next (.pointer (some ⟨w.heap.size, 0, none⟩)) true ty).run Try.prog (w.iter s pos) = _ := fun ty => run_next_any w s pos ty hlt
        rw [hz] at hr
        have hfin : leastM (bs s) = 0 := by unfold leastM; rw [mayS_stop (bs s) pos (by rw [bs_length]; exact hlt) (by rw [bs_get s pos hlt]; exact hz)]; rfl
        have HF := Lib.hid hfin
        have HR := Lib.hid hr
        clear hfin hr hz
        go_wp2_with fail
        refine (leastOf_any _ _).mono ?_
        rintro e w' ⟨rfl, rfl⟩
        rw [HR.out]
        go_wp2
        go_ret
        exact ⟨by rw [HF.out]; rfl, (Below.refl _ _).alloc (Nat.le_refl _) _⟩
      · have hd := rune_of s pos hlt hz
        have hnx : ∀ ty, (Instr.next (.pointer (some ⟨w.heap.size, 0, none⟩)) true ty).run Try.prog (w.iter s pos) = _ := fun ty => run_next_any w s pos ty hlt
        simp only [hd] at hnx
        have HM2 := Lib.hid (mayS_step s pos hlt HM.out hz)
        have HL2 := Lib.hid (leastS_step s pos hlt)
        have hb := leastS_bound s pos hp
        have hl := lst_le ((s[pos]'hlt).toNat : Int)
        have hz0 : (lst ((s[pos]'hlt).toNat : Int) == 0) = false := by simpa using hz
        clear hd hr hz HM
        go_wp2_with fail
        refine (leastOf_any _ _).mono ?_
        rintro e w' ⟨rfl, rfl⟩
        go_wp2
        go_roundw
        case rel => exact ⟨pos + 1, hlt, val_int HL2.out.symm, rfl, HM2⟩
        case measure => simp; omega
    · have hnx : ∀ ty, (Instr.next (.pointer (some ⟨w.heap.size, 0, none⟩)) true ty).run Try.prog (w.iter s pos) = _ := fun ty => run_next_end w s pos ty hlt
      obtain rfl : pos = s.size := by omega
      have HM2 := Lib.hid (show leastM (bs s) = leastS (bs s) by unfold leastM; rw [if_pos]; rw [← bs_all]; exact HM.out)
      clear HM
      rw [bs_all]
      go_wp2
      go_ret
      exact ⟨by rw [HM2.out]; rfl, (Below.refl _ _).alloc (Nat.le_refl _) _⟩

end Go.Proofs.Ytpkbkliblbbdcaa
end
