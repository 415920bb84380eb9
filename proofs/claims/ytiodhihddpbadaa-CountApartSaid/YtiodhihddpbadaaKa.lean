/- Areas: how often each block is named, now and at the last commit, and a cursor; how one lies in memory, the program's and the document's. -/
import Derived.Test.YtiodhihddpbadaaProg
import Derived.Test.YtiodhihddpbadaaMem
import Derived.WalkKit
import Derived.WalkSpells
import Derived.WalkLawsBesides
import Derived.Lib.Hide
import Derived.Lib.SmallJoins
import Derived.Deep.QuietTactic
import Derived.Deep.WholeRow
import Derived.Laws.Rows
import Derived.Laws.OwnMore
import Derived.BigQuiet
namespace Go.Proofs.Ytiodhihddpbadaa
open Go.RowKit

theorem ret_int {k : IntKind} {a b : Int} (h : a = b) : Ending.returned (.int k a) = .returned (.int k b) := by rw [h]
theorem val_int {k : IntKind} {a b : Int} (h : a = b) : Value.int k a = .int k b := by rw [h]

/-- an area -/
structure CS where
  now : List Nat
  was : List Nat
  at_ : Nat
  kept : Nat
/-- one that may be -/
structure CS.ok (c : CS) : Prop where
  n0 : 0 < c.now.length
  n1 : c.now.length ≤ 1000
  len : c.was.length = c.now.length
  bn : ∀ x ∈ c.now, x ≤ 65535
  bw : ∀ x ∈ c.was, x ≤ 65535
  a1 : c.at_ < c.now.length
  k1 : c.kept < c.now.length
def nz (k : IntKind) (l : List Nat) : List Value := l.map fun n : Nat => Value.int k (n : Int)
theorem nz_len (k : IntKind) (l : List Nat) : (nz k l).length = l.length := by simp [nz]
theorem nz_one (k : IntKind) (l : List Nat) : ∀ v ∈ nz k l, v.oneCell' = true := by
  intro v hv
  obtain ⟨x, _, rfl⟩ := List.mem_map.1 hv
  rfl
theorem nz_set (k : IntKind) (l : List Nat) (i x : Nat) : (nz k l).set i (.int k (x : Int)) = nz k (l.set i x) := by simp [nz, List.map_set]
theorem nz_append (k : IntKind) (a b : List Nat) : nz k (a ++ b) = nz k a ++ nz k b := by simp [nz]
def nowAt (c : CS) (i : Nat) : Nat := c.now.getD i 0
def wasAt (c : CS) (i : Nat) : Nat := c.was.getD i 0
theorem nz_get (k : IntKind) (l : List Nat) (i : Nat) (h : i < l.length) : (nz k l)[i]? = some (.int k ((l.getD i 0 : Nat) : Int)) := by
  simp [nz, List.getElem?_eq_getElem h, List.getD]
theorem getD_mem (l : List Nat) (i m : Nat) (h : ∀ x ∈ l, x ≤ m) : l.getD i 0 ≤ m := by
  by_cases hi : i < l.length
  · have : l.getD i 0 = l[i] := by simp [List.getD, hi]
    rw [this]; exact h _ (List.getElem_mem hi)
  · have : l.getD i 0 = 0 := by simp [List.getD, hi]
    omega
theorem CS.ok.now_le {c : CS} (h : c.ok) (i : Nat) : nowAt c i ≤ 65535 := getD_mem _ _ _ h.bn
theorem CS.ok.was_le {c : CS} (h : c.ok) (i : Nat) : wasAt c i ≤ 65535 := getD_mem _ _ _ h.bw

/-- block b holds an area, of type T, with counts of kind k, type e, in blocks g0 and g1 -/
structure AR (T e : TypeId) (k : IntKind) (w : World) (b g0 p0 g1 p1 : Nat) (c : CS) : Prop where
  blk : w.heap[b]? = some (.cells #[.slice (some ⟨g0, 0, none⟩) c.now.length p0, .slice (some ⟨g1, 0, none⟩) c.now.length p1, .int .i64 (c.at_ : Int), .int .i64 (c.kept : Int)] T (0, 0))
  now : w.ownsRow 0 e 1 (.slice (some ⟨g0, 0, none⟩) c.now.length p0) c.now.length (nz k c.now)
  was : w.ownsRow 0 e 1 (.slice (some ⟨g1, 0, none⟩) c.now.length p1) c.now.length (nz k c.was)
  apart : g0 ≠ g1
  ok : c.ok
def foot (b g0 g1 j : Nat) : Prop := j = b ∨ j = g0 ∨ j = g1
/-- the same, and F are its blocks -/
def PA (T e : TypeId) (k : IntKind) (w : World) (F : Nat → Prop) (b : Nat) (c : CS) : Prop := ∃ g0 p0 g1 p1, AR T e k w b g0 p0 g1 p1 c ∧ ∀ j, F j ↔ foot b g0 g1 j

theorem row_blk {w : World} {e : TypeId} {n g p : Nat} {xs : List Value} (h : w.ownsRow 0 e 1 (.slice (some ⟨g, 0, none⟩) n p) n xs) : ∃ cur, w.heap[g]? = some (.cells cur e (0, 0)) ∧ n ≤ p ∧ p ≤ maxLen ∧ cur.size = p * 1 ∧ cur.toList.take (n * 1) = xs := by
  rcases h.2 with ⟨h', _⟩ | ⟨g', cap', cur, h', _, hg, r⟩
  · cases h'
  · injection h' with h1 h2 h3
    injection h1 with h1
    injection h1 with h1
    subst h1
    subst h3
    exact ⟨cur, hg, r⟩
theorem rowS_on {w w' : World} {base n size : Nat} {e : TypeId} {v : Value} {xs : List Value} (h : w.ownsRow base e size v n xs) (hb : ∀ k, v.ownBlock = some k → w'.heap[k]? = w.heap[k]?) : w'.ownsRow base e size v n xs := by
  refine ⟨h.1, ?_⟩
  rcases h.2 with h2 | ⟨g, cap, cur, hv, hg, hh, hr⟩
  · exact .inl h2
  · exact .inr ⟨g, cap, cur, hv, hg, (hb g (by rw [hv]; rfl)).trans hh, hr⟩

section
variable {T e : TypeId} {k : IntKind} {w w' : World} {b g0 p0 g1 p1 : Nat} {c : CS} {F : Nat → Prop}
theorem AR.c0 (h : AR T e k w b g0 p0 g1 p1 c) : w.cell? ⟨b, 0, none⟩ = some (.slice (some ⟨g0, 0, none⟩) c.now.length p0) := by rw [cell_of_row w b 0 _ _ _ h.blk]; rfl
theorem AR.c1 (h : AR T e k w b g0 p0 g1 p1 c) : w.cell? ⟨b, 1, none⟩ = some (.slice (some ⟨g1, 0, none⟩) c.now.length p1) := by rw [cell_of_row w b 1 _ _ _ h.blk]; rfl
theorem AR.c2 (h : AR T e k w b g0 p0 g1 p1 c) : w.cell? ⟨b, 2, none⟩ = some (.int .i64 (c.at_ : Int)) := by rw [cell_of_row w b 2 _ _ _ h.blk]; rfl
theorem AR.c3 (h : AR T e k w b g0 p0 g1 p1 c) : w.cell? ⟨b, 3, none⟩ = some (.int .i64 (c.kept : Int)) := by rw [cell_of_row w b 3 _ _ _ h.blk]; rfl
theorem AR.fr (h : AR T e k w b g0 p0 g1 p1 c) (i : Nat) : w.frozen? ⟨b, i, none⟩ = false := frozen_of_row w b i _ _ h.blk
theorem AR.lt (h : AR T e k w b g0 p0 g1 p1 c) : b < w.heap.size := (Array.getElem?_eq_some_iff.1 h.blk).1
theorem AR.lt0 (h : AR T e k w b g0 p0 g1 p1 c) : g0 < w.heap.size := (h.now.lt g0 rfl).2
theorem AR.lt1 (h : AR T e k w b g0 p0 g1 p1 c) : g1 < w.heap.size := (h.was.lt g1 rfl).2
theorem AR.n_at (h : AR T e k w b g0 p0 g1 p1 c) (i : Nat) (hi : i < c.now.length) : w.cell? ⟨g0, i, none⟩ = some (.int k (nowAt c i : Int)) := by
  rw [h.now.cellAt i (by omega), nz_get k c.now i hi]; rfl
theorem AR.w_at (h : AR T e k w b g0 p0 g1 p1 c) (i : Nat) (hi : i < c.now.length) : w.cell? ⟨g1, i, none⟩ = some (.int k (wasAt c i : Int)) := by
  rw [h.was.cellAt i (by omega), nz_get k c.was i (by rw [h.ok.len]; exact hi)]; rfl
theorem AR.fr0 (h : AR T e k w b g0 p0 g1 p1 c) (i : Nat) : w.frozen? ⟨g0, i, none⟩ = false := h.now.frozenAt i
theorem AR.fr1 (h : AR T e k w b g0 p0 g1 p1 c) (i : Nat) : w.frozen? ⟨g1, i, none⟩ = false := h.was.frozenAt i
theorem AR.kb (h : AR T e k w b g0 p0 g1 p1 c) (hT : T ≠ e) : g0 ≠ b ∧ g1 ≠ b := by
  obtain ⟨c0, h0, _⟩ := row_blk h.now
  obtain ⟨c1, h1, _⟩ := row_blk h.was
  refine ⟨fun x => ?_, fun x => ?_⟩
  · subst x; rw [h.blk] at h0; injection h0 with h0; injection h0 with _ h0; exact hT h0
  · subst x; rw [h.blk] at h1; injection h1 with h1; injection h1 with _ h1; exact hT h1
theorem AR.on (h : AR T e k w b g0 p0 g1 p1 c) (hk : ∀ j, foot b g0 g1 j → w'.heap[j]? = w.heap[j]?) : AR T e k w' b g0 p0 g1 p1 c :=
  ⟨(hk b (.inl rfl)).trans h.blk, rowS_on h.now (fun j e => hk j (.inr (.inl (by injection e with e; exact e.symm)))), rowS_on h.was (fun j e => hk j (.inr (.inr (by injection e with e; exact e.symm)))), h.apart, h.ok⟩
/-- of which types its blocks are -/
theorem AR.kind (h : AR T e k w b g0 p0 g1 p1 c) {j : Nat} (hj : foot b g0 g1 j) : ∃ cs t, w.heap[j]? = some (.cells cs t (0, 0)) ∧ (t = T ∨ t = e) := by
  rcases hj with rfl | rfl | rfl
  · exact ⟨_, _, h.blk, .inl rfl⟩
  · obtain ⟨cur, h1, _⟩ := row_blk h.now; exact ⟨_, _, h1, .inr rfl⟩
  · obtain ⟨cur, h1, _⟩ := row_blk h.was; exact ⟨_, _, h1, .inr rfl⟩
/-- a count is set -/
theorem AR.setNow (h : AR T e k w b g0 p0 g1 p1 c) (hT : T ≠ e) (i x : Nat) (hx : x ≤ 65535) : AR T e k (w.setCell ⟨g0, i, none⟩ (.int k (x : Int))) b g0 p0 g1 p1 { c with now := c.now.set i x } := by
  obtain ⟨n0, n1⟩ := h.kb hT
  have hs := (h.now.stored i (.int k (x : Int))).1
  have ho : ∀ j, j ≠ g0 → (w.setCell ⟨g0, i, none⟩ (.int k (x : Int))).heap[j]? = w.heap[j]? := fun j hj => Below.heap_setCell _ _ _ _ hj
  rw [nz_set] at hs
  refine ⟨?_, ?_, ?_, h.apart, ?_⟩
  · rw [ho b (fun e => n0 e.symm)]; simpa using h.blk
  · simpa using hs
  · have := rowS_on (w' := w.setCell ⟨g0, i, none⟩ (.int k (x : Int))) h.was (fun j e => ho j (fun e2 => h.apart (by injection e with e; rw [← e2, ← e])))
    simpa using this
  · have o := h.ok
    refine ⟨by simpa using o.n0, by simpa using o.n1, by simpa using o.len, fun y hy => ?_, o.bw, by simpa using o.a1, by simpa using o.k1⟩
    rcases List.mem_or_eq_of_mem_set hy with hy | rfl
    · exact o.bn y hy
    · exact hx
/-- a cursor is set -/
theorem AR.setAt (h : AR T e k w b g0 p0 g1 p1 c) (hT : T ≠ e) (x : Nat) (hx : x < c.now.length) : AR T e k (w.setCell ⟨b, 2, none⟩ (.int .i64 (x : Int))) b g0 p0 g1 p1 { c with at_ := x } := by
  obtain ⟨n0, n1⟩ := h.kb hT
  have ho : ∀ j, j ≠ b → (w.setCell ⟨b, 2, none⟩ (.int .i64 (x : Int))).heap[j]? = w.heap[j]? := fun j hj => Below.heap_setCell _ _ _ _ hj
  refine ⟨by rw [Joins.block_setCell h.blk]; rfl, rowS_on h.now (fun j e => ho j ?_), rowS_on h.was (fun j e => ho j ?_), h.apart, ⟨h.ok.n0, h.ok.n1, h.ok.len, h.ok.bn, h.ok.bw, hx, h.ok.k1⟩⟩
  · injection e with e; subst e; exact n0
  · injection e with e; subst e; exact n1
theorem AR.setKept (h : AR T e k w b g0 p0 g1 p1 c) (hT : T ≠ e) (x : Nat) (hx : x < c.now.length) : AR T e k (w.setCell ⟨b, 3, none⟩ (.int .i64 (x : Int))) b g0 p0 g1 p1 { c with kept := x } := by
  obtain ⟨n0, n1⟩ := h.kb hT
  have ho : ∀ j, j ≠ b → (w.setCell ⟨b, 3, none⟩ (.int .i64 (x : Int))).heap[j]? = w.heap[j]? := fun j hj => Below.heap_setCell _ _ _ _ hj
  refine ⟨by rw [Joins.block_setCell h.blk]; rfl, rowS_on h.now (fun j e => ho j ?_), rowS_on h.was (fun j e => ho j ?_), h.apart, ⟨h.ok.n0, h.ok.n1, h.ok.len, h.ok.bn, h.ok.bw, h.ok.a1, hx⟩⟩
  · injection e with e; subst e; exact n0
  · injection e with e; subst e; exact n1
theorem PA.kind (h : PA T e k w F b c) {j : Nat} (hj : F j) : ∃ cs t, w.heap[j]? = some (.cells cs t (0, 0)) ∧ (t = T ∨ t = e) := by
  obtain ⟨g0, p0, g1, p1, h1, hF⟩ := h
  exact h1.kind ((hF j).1 hj)
theorem PA.lt (h : PA T e k w F b c) {j : Nat} (hj : F j) : j < w.heap.size := by
  obtain ⟨cs, t, h1, _⟩ := h.kind hj
  exact (Array.getElem?_eq_some_iff.1 h1).1
theorem PA.on (h : PA T e k w F b c) (hk : ∀ j, F j → w'.heap[j]? = w.heap[j]?) : PA T e k w' F b c := by
  obtain ⟨g0, p0, g1, p1, h1, hF⟩ := h
  exact ⟨g0, p0, g1, p1, h1.on (fun j e => hk j ((hF j).2 e)), hF⟩
theorem PA.below (h : PA T e k w F b c) (hb : Below w.heap.size w w') : PA T e k w' F b c := h.on fun _ hk => hb.block _ (h.lt hk)
theorem PA.fb (h : PA T e k w F b c) : F b := by
  obtain ⟨g0, p0, g1, p1, h1, hF⟩ := h
  exact (hF b).2 (.inl rfl)
theorem PA.ok (h : PA T e k w F b c) : c.ok := by
  obtain ⟨g0, p0, g1, p1, h1, hF⟩ := h
  exact h1.ok
/-- a block of another type is none of its -/
theorem PA.not (h : PA T e k w F b c) {j : Nat} {cs : Array Value} {t : TypeId} {fr : Nat × Nat} (hj : w.heap[j]? = some (.cells cs t fr)) (h1 : t ≠ T) (h2 : t ≠ e) : ¬ F j := by
  intro hF
  obtain ⟨cs', t', h3, h4⟩ := h.kind hF
  rw [hj] at h3
  injection h3 with h3
  injection h3 with _ h3
  subst h3
  exact h4.elim h1 h2
end

/-- only blocks of F, and new ones, may be others -/
structure Stays (w w' : World) (F : Nat → Prop) : Prop where
  os : w'.os = w.os
  tape : w'.tape = w.tape
  output : w'.output = w.output
  size : w.heap.size ≤ w'.heap.size
  block : ∀ k, k < w.heap.size → ¬ F k → w'.heap[k]? = w.heap[k]?
theorem Stays.refl (w : World) (F : Nat → Prop) : Stays w w F := ⟨rfl, rfl, rfl, Nat.le_refl _, fun _ _ _ => rfl⟩
theorem Stays.of_below {w w' : World} (h : Below w.heap.size w w') (F : Nat → Prop) : Stays w w' F := ⟨h.os, h.tape, h.output, h.size, fun k hk _ => h.block k hk⟩
theorem Stays.trans {a b c : World} {F G : Nat → Prop} (h : Stays a b F) (k : Stays b c G) (hG : ∀ i, G i → F i ∨ a.heap.size ≤ i) : Stays a c F := by
  refine ⟨k.os.trans h.os, k.tape.trans h.tape, k.output.trans h.output, Nat.le_trans h.size k.size, fun i hi hF => ?_⟩
  rw [k.block i (Nat.lt_of_lt_of_le hi h.size) (fun e => (hG i e).elim hF (fun e => by omega)), h.block i hi hF]
theorem Stays.below {w w' : World} {F : Nat → Prop} {B : Nat} (h : Stays w w' F) (hB : B ≤ w.heap.size) (hF : ∀ k, F k → B ≤ k) : Below B w w' :=
  ⟨h.os, h.tape, h.output, h.size, fun k hk => h.block k (Nat.lt_of_lt_of_le hk hB) (fun e => by have := hF k e; omega)⟩
theorem Stays.set {w w' : World} {F : Nat → Prop} (h : Stays w w' F) (a : Addr) (ha : F a.block ∨ w.heap.size ≤ a.block) (u : Value) : Stays w (w'.setCell a u) F :=
  ⟨h.os, h.tape, h.output, by have := h.size; simpa [World.setCell] using this, fun k hk hF => by rw [Below.heap_setCell w' a u k (fun e => by subst e; exact ha.elim hF (fun e => by omega))]; exact h.block k hk hF⟩
theorem Stays.grown {w w' w2 : World} {F : Nat → Prop} {row : Option Nat} (h : Stays w w' F) (hg : w'.grownBy w2 row) (hr : ∀ k, row = some k → F k ∨ w.heap.size ≤ k) : Stays w w2 F :=
  ⟨hg.os.trans h.os, hg.tape.trans h.tape, hg.output.trans h.output, Nat.le_trans h.size hg.size, fun k hk hF => by
    rw [hg.block k (Nat.lt_of_lt_of_le hk h.size) (fun e => (hr k e.symm).elim hF (fun e => by omega))]; exact h.block k hk hF⟩
theorem Stays.wide {w w' : World} {F G : Nat → Prop} (h : Stays w w' F) (hG : ∀ i, F i → G i) : Stays w w' G := ⟨h.os, h.tape, h.output, h.size, fun k hk hF => h.block k hk (fun e => hF (hG k e))⟩

abbrev AA := PA 46 43 .u16
abbrev RA := PA 41 3 .i64
abbrev AX := AR 46 43 .u16
abbrev RX := AR 41 3 .i64
theorem tA : 46 ≠ 43 := by decide
theorem tR : 41 ≠ 3 := by decide
/-- what an act on it leaves -/
def Done (T e : TypeId) (k : IntKind) (w : World) (F : Nat → Prop) (b : Nat) (c' : CS) (w' : World) : Prop := ∃ F', PA T e k w' F' b c' ∧ (∀ j, F' j → F j ∨ w.heap.size ≤ j) ∧ Stays w w' F
end Go.Proofs.Ytiodhihddpbadaa
