/- Areas: how often each block is named, now and at the last commit, and a cursor; how one lies in memory, the program's and the document's. The program's area: is there one, looks, Set, Inc, Dec. The program's area: Set, Inc, Dec, which blocks are free, Alloc. The program's area: Alloc. The program's area: slices.Clone of counts, New, Counts, Copy, Commit, Abort. The program's area: Copy, Commit, Abort. -/
import Derived.Test.YtoclhiaidbfheaaGreatDoorProg
import Derived.Test.YtoclhiaidbfheaaGreatDoorMem
import Derived.WalkKit
import Derived.WalkSpells
import Derived.WalkLawsBesides
import Derived.Lib.Hide
import Derived.Lib.SmallJoins
import Derived.Deep.QuietTactic
import Derived.Deep.WholeRow
import Derived.Laws.Rows
import Derived.Laws.OwnMore
import Derived.BigQuiet
import Derived.Laws.CopyRow
import Derived.Maps.AppendAt
import Derived.Stop.BytesEq
import Derived.Lib.AppendZerosOnto
import Derived.StillTailTactics
import Derived.Deep.RegionHeldLaw
section
namespace Go.Proofs.YtoclhiaidbfheaaGreatDoor.C
open Go.RowKit

theorem ret_int {k : IntKind} {a b : Int} (h : a = b) : Ending.returned (.int k a) = .returned (.int k b) := by rw [h]
theorem val_int {k : IntKind} {a b : Int} (h : a = b) : Value.int k a = .int k b := by rw [h]

/-- an area -/
structure CS where
  now : List Nat
  was : List Nat
  at_ : Nat
  kept : Nat
/-- one that may be -/
structure CS.ok (c : CS) : Prop where
  n0 : 0 < c.now.length
  n1 : c.now.length ≤ 1000
  len : c.was.length = c.now.length
  bn : ∀ x ∈ c.now, x ≤ 65535
  bw : ∀ x ∈ c.was, x ≤ 65535
  a1 : c.at_ < c.now.length
  k1 : c.kept < c.now.length
def nz (k : IntKind) (l : List Nat) : List Value := l.map fun n : Nat => Value.int k (n : Int)
theorem nz_len (k : IntKind) (l : List Nat) : (nz k l).length = l.length := by simp [nz]
theorem nz_one (k : IntKind) (l : List Nat) : ∀ v ∈ nz k l, v.oneCell' = true := by
  intro v hv
  obtain ⟨x, _, rfl⟩ := List.mem_map.1 hv
  rfl
theorem nz_set (k : IntKind) (l : List Nat) (i x : Nat) : (nz k l).set i (.int k (x : Int)) = nz k (l.set i x) := by simp [nz, List.map_set]
theorem nz_append (k : IntKind) (a b : List Nat) : nz k (a ++ b) = nz k a ++ nz k b := by simp [nz]
def nowAt (c : CS) (i : Nat) : Nat := c.now.getD i 0
def wasAt (c : CS) (i : Nat) : Nat := c.was.getD i 0
theorem nz_get (k : IntKind) (l : List Nat) (i : Nat) (h : i < l.length) : (nz k l)[i]? = some (.int k ((l.getD i 0 : Nat) : Int)) := by
  simp [nz, List.getElem?_eq_getElem h, List.getD]
theorem getD_mem (l : List Nat) (i m : Nat) (h : ∀ x ∈ l, x ≤ m) : l.getD i 0 ≤ m := by
  by_cases hi : i < l.length
  · have : l.getD i 0 = l[i] := by simp [List.getD, hi]
    rw [this]; exact h _ (List.getElem_mem hi)
  · have : l.getD i 0 = 0 := by simp [List.getD, hi]
    omega
theorem CS.ok.now_le {c : CS} (h : c.ok) (i : Nat) : nowAt c i ≤ 65535 := getD_mem _ _ _ h.bn
theorem CS.ok.was_le {c : CS} (h : c.ok) (i : Nat) : wasAt c i ≤ 65535 := getD_mem _ _ _ h.bw

/-- block b holds an area, of type T, with counts of kind k, type e, in blocks g0 and g1 -/
structure AR (T e : TypeId) (k : IntKind) (w : World) (b g0 p0 g1 p1 : Nat) (c : CS) : Prop where
  blk : w.heap[b]? = some (.cells #[.slice (some ⟨g0, 0, none⟩) c.now.length p0, .slice (some ⟨g1, 0, none⟩) c.now.length p1, .int .i64 (c.at_ : Int), .int .i64 (c.kept : Int)] T (0, 0))
  now : w.ownsRow 0 e 1 (.slice (some ⟨g0, 0, none⟩) c.now.length p0) c.now.length (nz k c.now)
  was : w.ownsRow 0 e 1 (.slice (some ⟨g1, 0, none⟩) c.now.length p1) c.now.length (nz k c.was)
  apart : g0 ≠ g1
  ok : c.ok
def foot (b g0 g1 j : Nat) : Prop := j = b ∨ j = g0 ∨ j = g1
/-- the same, and F are its blocks -/
def PA (T e : TypeId) (k : IntKind) (w : World) (F : Nat → Prop) (b : Nat) (c : CS) : Prop := ∃ g0 p0 g1 p1, AR T e k w b g0 p0 g1 p1 c ∧ ∀ j, F j ↔ foot b g0 g1 j

theorem row_blk {w : World} {e : TypeId} {n g p : Nat} {xs : List Value} (h : w.ownsRow 0 e 1 (.slice (some ⟨g, 0, none⟩) n p) n xs) : ∃ cur, w.heap[g]? = some (.cells cur e (0, 0)) ∧ n ≤ p ∧ p ≤ maxLen ∧ cur.size = p * 1 ∧ cur.toList.take (n * 1) = xs := by
  rcases h.2 with ⟨h', _⟩ | ⟨g', cap', cur, h', _, hg, r⟩
  · cases h'
  · injection h' with h1 h2 h3
    injection h1 with h1
    injection h1 with h1
    subst h1
    subst h3
    exact ⟨cur, hg, r⟩
theorem rowS_on {w w' : World} {base n size : Nat} {e : TypeId} {v : Value} {xs : List Value} (h : w.ownsRow base e size v n xs) (hb : ∀ k, v.ownBlock = some k → w'.heap[k]? = w.heap[k]?) : w'.ownsRow base e size v n xs := by
  refine ⟨h.1, ?_⟩
  rcases h.2 with h2 | ⟨g, cap, cur, hv, hg, hh, hr⟩
  · exact .inl h2
  · exact .inr ⟨g, cap, cur, hv, hg, (hb g (by rw [hv]; rfl)).trans hh, hr⟩

section
variable {T e : TypeId} {k : IntKind} {w w' : World} {b g0 p0 g1 p1 : Nat} {c : CS} {F : Nat → Prop}
theorem AR.c0 (h : AR T e k w b g0 p0 g1 p1 c) : w.cell? ⟨b, 0, none⟩ = some (.slice (some ⟨g0, 0, none⟩) c.now.length p0) := by rw [cell_of_row w b 0 _ _ _ h.blk]; rfl
theorem AR.c1 (h : AR T e k w b g0 p0 g1 p1 c) : w.cell? ⟨b, 1, none⟩ = some (.slice (some ⟨g1, 0, none⟩) c.now.length p1) := by rw [cell_of_row w b 1 _ _ _ h.blk]; rfl
theorem AR.c2 (h : AR T e k w b g0 p0 g1 p1 c) : w.cell? ⟨b, 2, none⟩ = some (.int .i64 (c.at_ : Int)) := by rw [cell_of_row w b 2 _ _ _ h.blk]; rfl
theorem AR.c3 (h : AR T e k w b g0 p0 g1 p1 c) : w.cell? ⟨b, 3, none⟩ = some (.int .i64 (c.kept : Int)) := by rw [cell_of_row w b 3 _ _ _ h.blk]; rfl
theorem AR.fr (h : AR T e k w b g0 p0 g1 p1 c) (i : Nat) : w.frozen? ⟨b, i, none⟩ = false := frozen_of_row w b i _ _ h.blk
theorem AR.lt (h : AR T e k w b g0 p0 g1 p1 c) : b < w.heap.size := (Array.getElem?_eq_some_iff.1 h.blk).1
theorem AR.lt0 (h : AR T e k w b g0 p0 g1 p1 c) : g0 < w.heap.size := (h.now.lt g0 rfl).2
theorem AR.lt1 (h : AR T e k w b g0 p0 g1 p1 c) : g1 < w.heap.size := (h.was.lt g1 rfl).2
theorem AR.n_at (h : AR T e k w b g0 p0 g1 p1 c) (i : Nat) (hi : i < c.now.length) : w.cell? ⟨g0, i, none⟩ = some (.int k (nowAt c i : Int)) := by
  rw [h.now.cellAt i (by omega), nz_get k c.now i hi]; rfl
theorem AR.w_at (h : AR T e k w b g0 p0 g1 p1 c) (i : Nat) (hi : i < c.now.length) : w.cell? ⟨g1, i, none⟩ = some (.int k (wasAt c i : Int)) := by
  rw [h.was.cellAt i (by omega), nz_get k c.was i (by rw [h.ok.len]; exact hi)]; rfl
theorem AR.fr0 (h : AR T e k w b g0 p0 g1 p1 c) (i : Nat) : w.frozen? ⟨g0, i, none⟩ = false := h.now.frozenAt i
theorem AR.fr1 (h : AR T e k w b g0 p0 g1 p1 c) (i : Nat) : w.frozen? ⟨g1, i, none⟩ = false := h.was.frozenAt i
theorem AR.kb (h : AR T e k w b g0 p0 g1 p1 c) (hT : T ≠ e) : g0 ≠ b ∧ g1 ≠ b := by
  obtain ⟨c0, h0, _⟩ := row_blk h.now
  obtain ⟨c1, h1, _⟩ := row_blk h.was
  refine ⟨fun x => ?_, fun x => ?_⟩
  · subst x; rw [h.blk] at h0; injection h0 with h0; injection h0 with _ h0; exact hT h0
  · subst x; rw [h.blk] at h1; injection h1 with h1; injection h1 with _ h1; exact hT h1
theorem AR.on (h : AR T e k w b g0 p0 g1 p1 c) (hk : ∀ j, foot b g0 g1 j → w'.heap[j]? = w.heap[j]?) : AR T e k w' b g0 p0 g1 p1 c :=
  ⟨(hk b (.inl rfl)).trans h.blk, rowS_on h.now (fun j e => hk j (.inr (.inl (by injection e with e; exact e.symm)))), rowS_on h.was (fun j e => hk j (.inr (.inr (by injection e with e; exact e.symm)))), h.apart, h.ok⟩
/-- of which types its blocks are -/
theorem AR.kind (h : AR T e k w b g0 p0 g1 p1 c) {j : Nat} (hj : foot b g0 g1 j) : ∃ cs t, w.heap[j]? = some (.cells cs t (0, 0)) ∧ (t = T ∨ t = e) := by
  rcases hj with rfl | rfl | rfl
  · exact ⟨_, _, h.blk, .inl rfl⟩
  · obtain ⟨cur, h1, _⟩ := row_blk h.now; exact ⟨_, _, h1, .inr rfl⟩
  · obtain ⟨cur, h1, _⟩ := row_blk h.was; exact ⟨_, _, h1, .inr rfl⟩
/-- a count is set -/
theorem AR.setNow (h : AR T e k w b g0 p0 g1 p1 c) (hT : T ≠ e) (i x : Nat) (hx : x ≤ 65535) : AR T e k (w.setCell ⟨g0, i, none⟩ (.int k (x : Int))) b g0 p0 g1 p1 { c with now := c.now.set i x } := by
  obtain ⟨n0, n1⟩ := h.kb hT
  have hs := (h.now.stored i (.int k (x : Int))).1
  have ho : ∀ j, j ≠ g0 → (w.setCell ⟨g0, i, none⟩ (.int k (x : Int))).heap[j]? = w.heap[j]? := fun j hj => Below.heap_setCell _ _ _ _ hj
  rw [nz_set] at hs
  refine ⟨?_, ?_, ?_, h.apart, ?_⟩
  · rw [ho b (fun e => n0 e.symm)]; simpa using h.blk
  · simpa using hs
  · have := rowS_on (w' := w.setCell ⟨g0, i, none⟩ (.int k (x : Int))) h.was (fun j e => ho j (fun e2 => h.apart (by injection e with e; rw [← e2, ← e])))
    simpa using this
  · have o := h.ok
    refine ⟨by simpa using o.n0, by simpa using o.n1, by simpa using o.len, fun y hy => ?_, o.bw, by simpa using o.a1, by simpa using o.k1⟩
    rcases List.mem_or_eq_of_mem_set hy with hy | rfl
    · exact o.bn y hy
    · exact hx
/-- a cursor is set -/
theorem AR.setAt (h : AR T e k w b g0 p0 g1 p1 c) (hT : T ≠ e) (x : Nat) (hx : x < c.now.length) : AR T e k (w.setCell ⟨b, 2, none⟩ (.int .i64 (x : Int))) b g0 p0 g1 p1 { c with at_ := x } := by
  obtain ⟨n0, n1⟩ := h.kb hT
  have ho : ∀ j, j ≠ b → (w.setCell ⟨b, 2, none⟩ (.int .i64 (x : Int))).heap[j]? = w.heap[j]? := fun j hj => Below.heap_setCell _ _ _ _ hj
  refine ⟨by rw [Joins.block_setCell h.blk]; rfl, rowS_on h.now (fun j e => ho j ?_), rowS_on h.was (fun j e => ho j ?_), h.apart, ⟨h.ok.n0, h.ok.n1, h.ok.len, h.ok.bn, h.ok.bw, hx, h.ok.k1⟩⟩
  · injection e with e; subst e; exact n0
  · injection e with e; subst e; exact n1
theorem AR.setKept (h : AR T e k w b g0 p0 g1 p1 c) (hT : T ≠ e) (x : Nat) (hx : x < c.now.length) : AR T e k (w.setCell ⟨b, 3, none⟩ (.int .i64 (x : Int))) b g0 p0 g1 p1 { c with kept := x } := by
  obtain ⟨n0, n1⟩ := h.kb hT
  have ho : ∀ j, j ≠ b → (w.setCell ⟨b, 3, none⟩ (.int .i64 (x : Int))).heap[j]? = w.heap[j]? := fun j hj => Below.heap_setCell _ _ _ _ hj
  refine ⟨by rw [Joins.block_setCell h.blk]; rfl, rowS_on h.now (fun j e => ho j ?_), rowS_on h.was (fun j e => ho j ?_), h.apart, ⟨h.ok.n0, h.ok.n1, h.ok.len, h.ok.bn, h.ok.bw, h.ok.a1, hx⟩⟩
  · injection e with e; subst e; exact n0
  · injection e with e; subst e; exact n1
theorem PA.kind (h : PA T e k w F b c) {j : Nat} (hj : F j) : ∃ cs t, w.heap[j]? = some (.cells cs t (0, 0)) ∧ (t = T ∨ t = e) := by
  obtain ⟨g0, p0, g1, p1, h1, hF⟩ := h
  exact h1.kind ((hF j).1 hj)
theorem PA.lt (h : PA T e k w F b c) {j : Nat} (hj : F j) : j < w.heap.size := by
  obtain ⟨cs, t, h1, _⟩ := h.kind hj
  exact (Array.getElem?_eq_some_iff.1 h1).1
theorem PA.on (h : PA T e k w F b c) (hk : ∀ j, F j → w'.heap[j]? = w.heap[j]?) : PA T e k w' F b c := by
  obtain ⟨g0, p0, g1, p1, h1, hF⟩ := h
  exact ⟨g0, p0, g1, p1, h1.on (fun j e => hk j ((hF j).2 e)), hF⟩
theorem PA.below (h : PA T e k w F b c) (hb : Below w.heap.size w w') : PA T e k w' F b c := h.on fun _ hk => hb.block _ (h.lt hk)
theorem PA.fb (h : PA T e k w F b c) : F b := by
  obtain ⟨g0, p0, g1, p1, h1, hF⟩ := h
  exact (hF b).2 (.inl rfl)
theorem PA.ok (h : PA T e k w F b c) : c.ok := by
  obtain ⟨g0, p0, g1, p1, h1, hF⟩ := h
  exact h1.ok
/-- a block of another type is none of its -/
theorem PA.not (h : PA T e k w F b c) {j : Nat} {cs : Array Value} {t : TypeId} {fr : Nat × Nat} (hj : w.heap[j]? = some (.cells cs t fr)) (h1 : t ≠ T) (h2 : t ≠ e) : ¬ F j := by
  intro hF
  obtain ⟨cs', t', h3, h4⟩ := h.kind hF
  rw [hj] at h3
  injection h3 with h3
  injection h3 with _ h3
  subst h3
  exact h4.elim h1 h2
end

/-- only blocks of F, and new ones, may be others -/
structure Stays (w w' : World) (F : Nat → Prop) : Prop where
  os : w'.os = w.os
  tape : w'.tape = w.tape
  output : w'.output = w.output
  size : w.heap.size ≤ w'.heap.size
  block : ∀ k, k < w.heap.size → ¬ F k → w'.heap[k]? = w.heap[k]?
theorem Stays.refl (w : World) (F : Nat → Prop) : Stays w w F := ⟨rfl, rfl, rfl, Nat.le_refl _, fun _ _ _ => rfl⟩
theorem Stays.of_below {w w' : World} (h : Below w.heap.size w w') (F : Nat → Prop) : Stays w w' F := ⟨h.os, h.tape, h.output, h.size, fun k hk _ => h.block k hk⟩
theorem Stays.trans {a b c : World} {F G : Nat → Prop} (h : Stays a b F) (k : Stays b c G) (hG : ∀ i, G i → F i ∨ a.heap.size ≤ i) : Stays a c F := by
  refine ⟨k.os.trans h.os, k.tape.trans h.tape, k.output.trans h.output, Nat.le_trans h.size k.size, fun i hi hF => ?_⟩
  rw [k.block i (Nat.lt_of_lt_of_le hi h.size) (fun e => (hG i e).elim hF (fun e => by omega)), h.block i hi hF]
theorem Stays.below {w w' : World} {F : Nat → Prop} {B : Nat} (h : Stays w w' F) (hB : B ≤ w.heap.size) (hF : ∀ k, F k → B ≤ k) : Below B w w' :=
  ⟨h.os, h.tape, h.output, h.size, fun k hk => h.block k (Nat.lt_of_lt_of_le hk hB) (fun e => by have := hF k e; omega)⟩
theorem Stays.set {w w' : World} {F : Nat → Prop} (h : Stays w w' F) (a : Addr) (ha : F a.block ∨ w.heap.size ≤ a.block) (u : Value) : Stays w (w'.setCell a u) F :=
  ⟨h.os, h.tape, h.output, by have := h.size; simpa [World.setCell] using this, fun k hk hF => by rw [Below.heap_setCell w' a u k (fun e => by subst e; exact ha.elim hF (fun e => by omega))]; exact h.block k hk hF⟩
theorem Stays.grown {w w' w2 : World} {F : Nat → Prop} {row : Option Nat} (h : Stays w w' F) (hg : w'.grownBy w2 row) (hr : ∀ k, row = some k → F k ∨ w.heap.size ≤ k) : Stays w w2 F :=
  ⟨hg.os.trans h.os, hg.tape.trans h.tape, hg.output.trans h.output, Nat.le_trans h.size hg.size, fun k hk hF => by
    rw [hg.block k (Nat.lt_of_lt_of_le hk h.size) (fun e => (hr k e.symm).elim hF (fun e => by omega))]; exact h.block k hk hF⟩
theorem Stays.wide {w w' : World} {F G : Nat → Prop} (h : Stays w w' F) (hG : ∀ i, F i → G i) : Stays w w' G := ⟨h.os, h.tape, h.output, h.size, fun k hk hF => h.block k hk (fun e => hF (hG k e))⟩

abbrev AA := PA 270 161 .u16
abbrev AX := AR 270 161 .u16
theorem tA : 270 ≠ 161 := by decide
/-- what an act on it leaves -/
def Done (T e : TypeId) (k : IntKind) (w : World) (F : Nat → Prop) (b : Nat) (c' : CS) (w' : World) : Prop := ∃ F', PA T e k w' F' b c' ∧ (∀ j, F' j → F j ∨ w.heap.size ≤ j) ∧ Stays w w' F
end Go.Proofs.YtoclhiaidbfheaaGreatDoor.C
end

section
namespace Go.Proofs.YtoclhiaidbfheaaGreatDoor.C
open Go.RowKit

section
variable (w : World) (b g0 p0 g1 p1 : Nat) (c : CS)
theorem len_any (h : AX w b g0 p0 g1 p1 c) : Calls Tryz.prog 166 #[.pointer (some ⟨b, 0, none⟩)] w fun e w' => e = .returned (.int .i64 (c.now.length : Int)) ∧ w = w' := by
  have c0 := h.c0
  clear h
  go_enter Tryz.func166, Tryz.ntmps166
  go_wp2
  go_ret
  exact ⟨rfl, rfl⟩
theorem len_nil : Calls Tryz.prog 166 #[.pointer none] w fun e w' => e = .returned (.int .i64 0) ∧ w = w' := by
  go_enter Tryz.func166, Tryz.ntmps166
  go_wp2
  go_ret
  exact ⟨rfl, rfl⟩
theorem len_zero (h : w.cell? ⟨b, 0, none⟩ = some (.slice none 0 0)) : Calls Tryz.prog 166 #[.pointer (some ⟨b, 0, none⟩)] w fun e w' => e = .returned (.int .i64 0) ∧ w = w' := by
  go_enter Tryz.func166, Tryz.ntmps166
  go_wp2
  go_ret
  exact ⟨rfl, rfl⟩
theorem none_any (h : AX w b g0 p0 g1 p1 c) : Calls Tryz.prog 165 #[.pointer (some ⟨b, 0, none⟩)] w fun e w' => e = .returned (.bool false) ∧ w = w' := by
  have HL := Lib.hid (len_any w b g0 p0 g1 p1 c h)
  have h0 : ((c.now.length : Int) == 0) = false := by have := h.ok.n0; rw [beq_eq_false_iff_ne]; omega
  clear h
  go_enter Tryz.func165, Tryz.ntmps165
  go_wp2_with (go_at_call 166; refine HL.out.mono ?_; rintro e w' ⟨rfl, rfl⟩)
  go_ret
  exact ⟨rfl, rfl⟩
theorem none_no (p : Value) (h : Calls Tryz.prog 166 #[p] w fun e w' => e = .returned (.int .i64 0) ∧ w = w') : Calls Tryz.prog 165 #[p] w fun e w' => e = .returned (.bool true) ∧ w = w' := by
  have HL := Lib.hid h
  clear h
  go_enter Tryz.func165, Tryz.ntmps165
  go_wp2_with (go_at_call 166; refine HL.out.mono ?_; rintro e w' ⟨rfl, rfl⟩)
  go_ret
  exact ⟨rfl, rfl⟩
def placeE (n : Nat) (i : Int) : Int := if 0 ≤ i ∧ i < (n : Int) then 0 else 2
theorem place_any (h : AX w b g0 p0 g1 p1 c) (i : Int) : Calls Tryz.prog 206 #[.pointer (some ⟨b, 0, none⟩), .int .i64 i] w fun e w' => e = .returned (.int .i64 (placeE c.now.length i)) ∧ w = w' := by
  have HL := Lib.hid (len_any w b g0 p0 g1 p1 c h)
  have HN := Lib.hid (none_any w b g0 p0 g1 p1 c h)
  clear h
  by_cases h1 : i < 0
  · have e1 : placeE c.now.length i = 2 := by unfold placeE; rw [if_neg (by omega)]
    rw [e1]
    clear e1
    go_enter Tryz.func206, Tryz.ntmps206
    go_wp2_with (first
      | (go_at_call 165; refine HN.out.mono ?_; rintro e w' ⟨rfl, rfl⟩)
      | (go_at_call 166; refine HL.out.mono ?_; rintro e w' ⟨rfl, rfl⟩)
      | fail)
    go_ret
    exact ⟨rfl, rfl⟩
  · have t1 : decide (i < 0) = false := by simpa using h1
    by_cases h2 : i < (c.now.length : Int)
    · have e1 : placeE c.now.length i = 0 := by unfold placeE; rw [if_pos (by omega)]
      rw [e1]
      have t2 : decide ((c.now.length : Int) ≤ i) = false := by simpa using h2
      clear e1
      go_enter Tryz.func206, Tryz.ntmps206
      go_wp2_with (first
        | (go_at_call 165; refine HN.out.mono ?_; rintro e w' ⟨rfl, rfl⟩)
        | (go_at_call 166; refine HL.out.mono ?_; rintro e w' ⟨rfl, rfl⟩)
        | fail)
      go_ret
      exact ⟨rfl, rfl⟩
    · have e1 : placeE c.now.length i = 2 := by unfold placeE; rw [if_neg (by omega)]
      rw [e1]
      have t2 : decide ((c.now.length : Int) ≤ i) = true := by simp; omega
      clear e1
      go_enter Tryz.func206, Tryz.ntmps206
      go_wp2_with (first
        | (go_at_call 165; refine HN.out.mono ?_; rintro e w' ⟨rfl, rfl⟩)
        | (go_at_call 166; refine HL.out.mono ?_; rintro e w' ⟨rfl, rfl⟩)
        | fail)
      go_ret
      exact ⟨rfl, rfl⟩
theorem place_no (p : Value) (i : Int) (h : Calls Tryz.prog 166 #[p] w fun e w' => e = .returned (.int .i64 0) ∧ w = w') : Calls Tryz.prog 206 #[p, .int .i64 i] w fun e w' => e = .returned (.int .i64 1) ∧ w = w' := by
  have HN := Lib.hid (none_no w p h)
  clear h
  go_enter Tryz.func206, Tryz.ntmps206
  go_wp2_with (first
    | (go_at_call 165; refine HN.out.mono ?_; rintro e w' ⟨rfl, rfl⟩)
    | fail)
  go_ret
  exact ⟨rfl, rfl⟩
/-- how often a block is named; of one that there is not: by none -/
def lookN (l : List Nat) (i : Int) : Nat := if 0 ≤ i ∧ i < (l.length : Int) then l.getD i.toNat 0 else 0
theorem count_any (h : AX w b g0 p0 g1 p1 c) (i : Int) : Calls Tryz.prog 186 #[.pointer (some ⟨b, 0, none⟩), .int .i64 i] w fun e w' => e = .returned (.int .u16 (lookN c.now i : Int)) ∧ w = w' := by
  have HP := Lib.hid (place_any w b g0 p0 g1 p1 c h i)
  by_cases hi : 0 ≤ i ∧ i < (c.now.length : Int)
  · have e1 : placeE c.now.length i = 0 := by unfold placeE; rw [if_pos hi]
    have e2 : lookN c.now i = nowAt c i.toNat := by unfold lookN; rw [if_pos hi]; rfl
    rw [e2]
    rw [e1] at HP
    obtain ⟨n, rfl⟩ := Int.eq_ofNat_of_zero_le hi.1
    have hn : n < c.now.length := by omega
    have c0 := h.c0
    have cn := h.n_at n hn
    have e3 : ((n : Nat) : Int).toNat = n := by omega
    rw [e3]
    have hnI : (n : Int) < (c.now.length : Int) := by omega
    clear h e1 e2 e3 hi
    go_enter Tryz.func186, Tryz.ntmps186
    go_wp2_with (go_at_call 206; refine HP.out.mono ?_; rintro e w' ⟨rfl, rfl⟩)
    go_ret
    exact ⟨rfl, rfl⟩
  · have e1 : placeE c.now.length i = 2 := by unfold placeE; rw [if_neg hi]
    have e2 : lookN c.now i = 0 := by unfold lookN; rw [if_neg hi]
    rw [e2]
    rw [e1] at HP
    clear h e1 e2 hi
    go_enter Tryz.func186, Tryz.ntmps186
    go_wp2_with (go_at_call 206; refine HP.out.mono ?_; rintro e w' ⟨rfl, rfl⟩)
    go_ret
    exact ⟨rfl, rfl⟩
theorem count_no (p : Value) (i : Int) (h : Calls Tryz.prog 166 #[p] w fun e w' => e = .returned (.int .i64 0) ∧ w = w') : Calls Tryz.prog 186 #[p, .int .i64 i] w fun e w' => e = .returned (.int .u16 0) ∧ w = w' := by
  have HP := Lib.hid (place_no w p i h)
  clear h
  go_enter Tryz.func186, Tryz.ntmps186
  go_wp2_with (go_at_call 206; refine HP.out.mono ?_; rintro e w' ⟨rfl, rfl⟩)
  go_ret
  exact ⟨rfl, rfl⟩
theorem set_no (p : Value) (i : Int) (h : Calls Tryz.prog 166 #[p] w fun e w' => e = .returned (.int .i64 0) ∧ w = w') : Calls Tryz.prog 154 #[p, .int .i64 i] w fun e w' => e = .returned (.int .i64 1) ∧ w = w' := by
  have HP := Lib.hid (place_no w p i h)
  clear h
  go_enter Tryz.func154, Tryz.ntmps154
  go_wp2_with (go_at_call 206; refine HP.out.mono ?_; rintro e w' ⟨rfl, rfl⟩)
  go_ret
  exact ⟨rfl, rfl⟩
theorem inc_no (p : Value) (i : Int) (h : Calls Tryz.prog 166 #[p] w fun e w' => e = .returned (.int .i64 0) ∧ w = w') : Calls Tryz.prog 193 #[p, .int .i64 i] w fun e w' => e = .returned (.int .i64 1) ∧ w = w' := by
  have HP := Lib.hid (place_no w p i h)
  clear h
  go_enter Tryz.func193, Tryz.ntmps193
  go_wp2_with (go_at_call 206; refine HP.out.mono ?_; rintro e w' ⟨rfl, rfl⟩)
  go_ret
  exact ⟨rfl, rfl⟩
theorem dec_no (p : Value) (i : Int) (h : Calls Tryz.prog 166 #[p] w fun e w' => e = .returned (.int .i64 0) ∧ w = w') : Calls Tryz.prog 188 #[p, .int .i64 i] w fun e w' => e = .returned (.tuple #[.int .u16 0, .int .i64 1]) ∧ w = w' := by
  have HP := Lib.hid (place_no w p i h)
  clear h
  go_enter Tryz.func188, Tryz.ntmps188
  go_wp2_with (go_at_call 206; refine HP.out.mono ?_; rintro e w' ⟨rfl, rfl⟩)
  go_ret2
  exact ⟨rfl, rfl⟩
end
end Go.Proofs.YtoclhiaidbfheaaGreatDoor.C
end

section
namespace Go.Proofs.YtoclhiaidbfheaaGreatDoor.C
open Go.RowKit

def freeB (c : CS) (i : Nat) : Bool := (nowAt c i == 0) && (wasAt c i == 0)
def roomN (c : CS) : Nat → Nat
  | 0 => 0
  | i + 1 => roomN c i + (if freeB c i = true then 1 else 0)
theorem roomN_le (c : CS) (i : Nat) : roomN c i ≤ i := by
  induction i with
  | zero => exact Nat.le_refl _
  | succ i ih => unfold roomN; split <;> omega
def turn (c : CS) (k : Nat) : Nat := (c.at_ + k) % c.now.length
/-- which free one comes first, from the cursor on -/
def allocK (c : CS) : Option Nat := (List.range c.now.length).find? fun k => freeB c (turn c k)
theorem allocK_none {c : CS} (h : allocK c = none) : ∀ k, k < c.now.length → freeB c (turn c k) = false := by
  intro k hk
  have := List.find?_eq_none.1 h k (List.mem_range.2 hk)
  simpa using this
theorem allocK_some {c : CS} {k : Nat} (h : allocK c = some k) : k < c.now.length ∧ freeB c (turn c k) = true ∧ ∀ j, j < k → freeB c (turn c j) = false := by
  have h1 := List.find?_range_eq_some.1 h
  exact ⟨List.mem_range.1 h1.2.1, h1.1, fun j hj => by have := h1.2.2 j hj; simpa using this⟩
def after (c : CS) (n : Nat) : Nat := (n + 1) % c.now.length
def allocS (c : CS) (k : Nat) : CS := { c with now := c.now.set (turn c k) 1, at_ := after c (turn c k) }
def setS (c : CS) (n : Nat) : CS := { c with at_ := n, kept := n }
def incS (c : CS) (n : Nat) : CS := { c with now := c.now.set n (nowAt c n + 1) }
def decS (c : CS) (n : Nat) : CS := { c with now := c.now.set n (nowAt c n - 1) }

section
variable (w : World) (b g0 p0 g1 p1 : Nat) (c : CS)
theorem fset (w : World) (b g0 g1 : Nat) (a : Addr) (ha : foot b g0 g1 a.block) (u : Value) : Stays w (w.setCell a u) (foot b g0 g1) := (Stays.refl w _).set a (.inl ha) u
theorem set_any (h : AX w b g0 p0 g1 p1 c) (n : Nat) (hn : n < c.now.length) : Calls Tryz.prog 154 #[.pointer (some ⟨b, 0, none⟩), .int .i64 (n : Int)] w fun e w' => e = .returned (.int .i64 0) ∧ AX w' b g0 p0 g1 p1 (setS c n) ∧ Stays w w' (foot b g0 g1) := by
  have HP := place_any w b g0 p0 g1 p1 c h n
  have e1 : placeE c.now.length (n : Int) = 0 := by unfold placeE; rw [if_pos (by omega)]
  rw [e1] at HP
  have HP := Lib.hid HP
  have h2 := (h.setAt tA n hn)
  have h3 := h2.setKept tA n hn
  have HE := Lib.hid h3
  have hs := (fset w b g0 g1 ⟨b, 2, none⟩ (.inl rfl) (.int .i64 (n : Int))).set ⟨b, 3, none⟩ (.inl (.inl rfl)) (.int .i64 (n : Int))
  have HS := Lib.hid hs
  have f2 := h.fr 2
  have f3 := h2.fr 3
  have c2 := h.c2
  have c3 := h2.c3
  clear h h2 h3 hs e1
  go_enter Tryz.func154, Tryz.ntmps154
  go_wp2_with (go_at_call 206; refine HP.out.mono ?_; rintro e w' ⟨rfl, rfl⟩)
  go_ret
  exact ⟨rfl, HE.out, HS.out⟩
theorem set_out (h : AX w b g0 p0 g1 p1 c) (i : Int) (hi : ¬ (0 ≤ i ∧ i < (c.now.length : Int))) : Calls Tryz.prog 154 #[.pointer (some ⟨b, 0, none⟩), .int .i64 i] w fun e w' => e = .returned (.int .i64 2) ∧ w = w' := by
  have HP := place_any w b g0 p0 g1 p1 c h i
  have e1 : placeE c.now.length i = 2 := by unfold placeE; rw [if_neg hi]
  rw [e1] at HP
  have HP := Lib.hid HP
  clear h e1 hi
  go_enter Tryz.func154, Tryz.ntmps154
  go_wp2_with (go_at_call 206; refine HP.out.mono ?_; rintro e w' ⟨rfl, rfl⟩)
  go_ret
  exact ⟨rfl, rfl⟩
theorem inc_out (h : AX w b g0 p0 g1 p1 c) (i : Int) (hi : ¬ (0 ≤ i ∧ i < (c.now.length : Int))) : Calls Tryz.prog 193 #[.pointer (some ⟨b, 0, none⟩), .int .i64 i] w fun e w' => e = .returned (.int .i64 2) ∧ w = w' := by
  have HP := place_any w b g0 p0 g1 p1 c h i
  have e1 : placeE c.now.length i = 2 := by unfold placeE; rw [if_neg hi]
  rw [e1] at HP
  have HP := Lib.hid HP
  clear h e1 hi
  go_enter Tryz.func193, Tryz.ntmps193
  go_wp2_with (go_at_call 206; refine HP.out.mono ?_; rintro e w' ⟨rfl, rfl⟩)
  go_ret
  exact ⟨rfl, rfl⟩
theorem dec_out (h : AX w b g0 p0 g1 p1 c) (i : Int) (hi : ¬ (0 ≤ i ∧ i < (c.now.length : Int))) : Calls Tryz.prog 188 #[.pointer (some ⟨b, 0, none⟩), .int .i64 i] w fun e w' => e = .returned (.tuple #[.int .u16 0, .int .i64 2]) ∧ w = w' := by
  have HP := place_any w b g0 p0 g1 p1 c h i
  have e1 : placeE c.now.length i = 2 := by unfold placeE; rw [if_neg hi]
  rw [e1] at HP
  have HP := Lib.hid HP
  clear h e1 hi
  go_enter Tryz.func188, Tryz.ntmps188
  go_wp2_with (go_at_call 206; refine HP.out.mono ?_; rintro e w' ⟨rfl, rfl⟩)
  go_ret2
  exact ⟨rfl, rfl⟩
theorem inc_full (h : AX w b g0 p0 g1 p1 c) (n : Nat) (hn : n < c.now.length) (hx : nowAt c n = 65535) : Calls Tryz.prog 193 #[.pointer (some ⟨b, 0, none⟩), .int .i64 (n : Int)] w fun e w' => e = .returned (.int .i64 8) ∧ w = w' := by
  have HP := place_any w b g0 p0 g1 p1 c h n
  have e1 : placeE c.now.length (n : Int) = 0 := by unfold placeE; rw [if_pos (by omega)]
  rw [e1] at HP
  have HP := Lib.hid HP
  have c0 := h.c0
  have cn := h.n_at n hn
  rw [hx] at cn
  have cn' : w.cell? ⟨g0, n, none⟩ = some (.int .u16 65535) := cn
  have hnI : (n : Int) < (c.now.length : Int) := by omega
  clear h e1 hx cn
  go_enter Tryz.func193, Tryz.ntmps193
  go_wp2_with (go_at_call 206; refine HP.out.mono ?_; rintro e w' ⟨rfl, rfl⟩)
  go_ret
  exact ⟨rfl, rfl⟩
theorem inc_free (h : AX w b g0 p0 g1 p1 c) (n : Nat) (hn : n < c.now.length) (hx : nowAt c n = 0) : Calls Tryz.prog 193 #[.pointer (some ⟨b, 0, none⟩), .int .i64 (n : Int)] w fun e w' => e = .returned (.int .i64 9) ∧ w = w' := by
  have HP := place_any w b g0 p0 g1 p1 c h n
  have e1 : placeE c.now.length (n : Int) = 0 := by unfold placeE; rw [if_pos (by omega)]
  rw [e1] at HP
  have HP := Lib.hid HP
  have c0 := h.c0
  have cn := h.n_at n hn
  rw [hx] at cn
  have cn' : w.cell? ⟨g0, n, none⟩ = some (.int .u16 0) := cn
  have hnI : (n : Int) < (c.now.length : Int) := by omega
  clear h e1 hx cn
  go_enter Tryz.func193, Tryz.ntmps193
  go_wp2_with (go_at_call 206; refine HP.out.mono ?_; rintro e w' ⟨rfl, rfl⟩)
  go_ret
  exact ⟨rfl, rfl⟩
theorem dec_free (h : AX w b g0 p0 g1 p1 c) (n : Nat) (hn : n < c.now.length) (hx : nowAt c n = 0) : Calls Tryz.prog 188 #[.pointer (some ⟨b, 0, none⟩), .int .i64 (n : Int)] w fun e w' => e = .returned (.tuple #[.int .u16 0, .int .i64 9]) ∧ w = w' := by
  have HP := place_any w b g0 p0 g1 p1 c h n
  have e1 : placeE c.now.length (n : Int) = 0 := by unfold placeE; rw [if_pos (by omega)]
  rw [e1] at HP
  have HP := Lib.hid HP
  have c0 := h.c0
  have cn := h.n_at n hn
  rw [hx] at cn
  have cn' : w.cell? ⟨g0, n, none⟩ = some (.int .u16 0) := cn
  have hnI : (n : Int) < (c.now.length : Int) := by omega
  clear h e1 hx cn
  go_enter Tryz.func188, Tryz.ntmps188
  go_wp2_with (go_at_call 206; refine HP.out.mono ?_; rintro e w' ⟨rfl, rfl⟩)
  go_ret2
  exact ⟨rfl, rfl⟩
theorem inc_any (h : AX w b g0 p0 g1 p1 c) (n : Nat) (hn : n < c.now.length) (h0 : nowAt c n ≠ 0) (hx : nowAt c n ≠ 65535) : Calls Tryz.prog 193 #[.pointer (some ⟨b, 0, none⟩), .int .i64 (n : Int)] w fun e w' => e = .returned (.int .i64 0) ∧ AX w' b g0 p0 g1 p1 (incS c n) ∧ Stays w w' (foot b g0 g1) := by
  have HP := place_any w b g0 p0 g1 p1 c h n
  have e1 : placeE c.now.length (n : Int) = 0 := by unfold placeE; rw [if_pos (by omega)]
  rw [e1] at HP
  have HP := Lib.hid HP
  have hm := h.ok.now_le n
  have HE := Lib.hid (h.setNow tA n (nowAt c n + 1) (by omega))
  have HS := Lib.hid (fset w b g0 g1 ⟨g0, n, none⟩ (.inr (.inl rfl)) (.int .u16 ((nowAt c n + 1 : Nat) : Int)))
  have c0 := h.c0
  have cn := h.n_at n hn
  have f0 := h.fr0 n
  have hnI : (n : Int) < (c.now.length : Int) := by omega
  have hS : incS c n = { c with now := c.now.set n (nowAt c n + 1) } := rfl
  rw [hS]
  clear h e1 hS
  generalize nowAt c n = x at *
  have ex : ((x + 1 : Nat) : Int) = (x : Int) + 1 := by omega
  rw [ex] at HE HS
  have hw : IntKind.u16.wrap ((x : Int) + 1) = (x : Int) + 1 := by rw [IntKind.wrap_u16]; omega
  have b0 : ((x : Int) == 0) = false := by rw [beq_eq_false_iff_ne]; omega
  have b1 : ((x : Int) == 65535) = false := by rw [beq_eq_false_iff_ne]; omega
  clear ex
  go_enter Tryz.func193, Tryz.ntmps193
  go_wp2_with (go_at_call 206; refine HP.out.mono ?_; rintro e w' ⟨rfl, rfl⟩)
  go_ret
  exact ⟨rfl, HE.out, HS.out⟩
theorem dec_any (h : AX w b g0 p0 g1 p1 c) (n : Nat) (hn : n < c.now.length) (h0 : nowAt c n ≠ 0) : Calls Tryz.prog 188 #[.pointer (some ⟨b, 0, none⟩), .int .i64 (n : Int)] w fun e w' => e = .returned (.tuple #[.int .u16 ((nowAt c n - 1 : Nat) : Int), .int .i64 0]) ∧ AX w' b g0 p0 g1 p1 (decS c n) ∧ Stays w w' (foot b g0 g1) := by
  have HP := place_any w b g0 p0 g1 p1 c h n
  have e1 : placeE c.now.length (n : Int) = 0 := by unfold placeE; rw [if_pos (by omega)]
  rw [e1] at HP
  have HP := Lib.hid HP
  have hm := h.ok.now_le n
  have hh := h.setNow tA n (nowAt c n - 1) (by omega)
  have HE := Lib.hid hh
  have HS := Lib.hid (fset w b g0 g1 ⟨g0, n, none⟩ (.inr (.inl rfl)) (.int .u16 ((nowAt c n - 1 : Nat) : Int)))
  have c0 := h.c0
  have cn := h.n_at n hn
  have f0 := h.fr0 n
  have c02 := hh.c0
  have cn2 := hh.n_at n (by simpa using hn)
  have e2 : nowAt { c with now := c.now.set n (nowAt c n - 1) } n = nowAt c n - 1 := by simp [nowAt, hn]
  rw [e2] at cn2
  have hnI : (n : Int) < (c.now.length : Int) := by omega
  have hS : decS c n = { c with now := c.now.set n (nowAt c n - 1) } := rfl
  rw [hS]
  clear h hh e1 hS e2
  simp only [List.length_set] at c02
  generalize nowAt c n = x at *
  have ex : ((x - 1 : Nat) : Int) = (x : Int) - 1 := by omega
  rw [ex] at HE HS c02 cn2
  rw [ex]
  have hw : IntKind.u16.wrap ((x : Int) - 1) = (x : Int) - 1 := by rw [IntKind.wrap_u16]; omega
  have b0 : ((x : Int) == 0) = false := by rw [beq_eq_false_iff_ne]; omega
  clear ex
  go_enter Tryz.func188, Tryz.ntmps188
  go_wp2_with (go_at_call 206; refine HP.out.mono ?_; rintro e w' ⟨rfl, rfl⟩)
  go_ret2
  exact ⟨rfl, HE.out, HS.out⟩
theorem free_any (h : AX w b g0 p0 g1 p1 c) (n : Nat) (hn : n < c.now.length) : Calls Tryz.prog 167 #[.pointer (some ⟨b, 0, none⟩), .int .i64 (n : Int)] w fun e w' => e = .returned (.bool (freeB c n)) ∧ w = w' := by
  have c0 := h.c0
  have c1 := h.c1
  have cn := h.n_at n hn
  have cw := h.w_at n hn
  have hnI : (n : Int) < (c.now.length : Int) := by omega
  have e1 : freeB c n = ((nowAt c n == 0) && (wasAt c n == 0)) := rfl
  rw [e1]
  clear h e1
  generalize nowAt c n = x at *
  generalize wasAt c n = y at *
  by_cases hx : x = 0
  · subst hx
    have cn' : w.cell? ⟨g0, n, none⟩ = some (.int .u16 0) := cn
    clear cn
    by_cases hy : y = 0
    · subst hy
      have cw' : w.cell? ⟨g1, n, none⟩ = some (.int .u16 0) := cw
      clear cw
      go_enter Tryz.func167, Tryz.ntmps167
      go_wp2
      go_ret
      exact ⟨rfl, rfl⟩
    · have b1 : ((y : Int) == 0) = false := by rw [beq_eq_false_iff_ne]; omega
      have e2 : ((0 == 0) && (y == 0)) = false := by simpa using hy
      rw [e2]
      clear e2
      go_enter Tryz.func167, Tryz.ntmps167
      go_wp2
      go_ret
      exact ⟨rfl, rfl⟩
  · have b1 : ((x : Int) == 0) = false := by rw [beq_eq_false_iff_ne]; omega
    have e2 : ((x == 0) && (y == 0)) = false := by simp [hx]
    rw [e2]
    clear e2
    go_enter Tryz.func167, Tryz.ntmps167
    go_wp2
    go_ret
    exact ⟨rfl, rfl⟩
theorem room_any (h : AX w b g0 p0 g1 p1 c) : Calls Tryz.prog 155 #[.pointer (some ⟨b, 0, none⟩)] w fun e w' => e = .returned (.int .i64 (roomN c c.now.length : Int)) ∧ w = w' := by
  have HL := Lib.hid (len_any w b g0 p0 g1 p1 c h)
  have HF := Lib.hid (fun n hn => free_any w b g0 p0 g1 p1 c h n hn)
  have n1 := h.ok.n1
  clear h
  go_enter Tryz.func155, Tryz.ntmps155
  go_wp2_with (first
    | (go_at_call 166; refine HL.out.mono ?_; rintro e w' ⟨rfl, rfl⟩)
    | fail)
  go_loopw [7, 3] (fun j r wr => ∃ i : Nat, i ≤ c.now.length ∧ j = .int .i64 (i : Int) ∧ r = .int .i64 (roomN c i : Int) ∧ wr = w) (fun j _ _ => c.now.length - (intOf j).toNat)
  case atStart => exact ⟨0, Nat.zero_le _, rfl, rfl, rfl⟩
  case round =>
    obtain ⟨i, hi, rfl, rfl, rfl⟩ := hrel
    by_cases hlt : i < c.now.length
    · have hltI : (i : Int) < (c.now.length : Int) := by omega
      have hr := roomN_le c i
      have hF := HF.out i hlt
      have hs : roomN c (i + 1) = roomN c i + (if freeB c i = true then 1 else 0) := rfl
      cases hb : freeB c i with
      | true =>
        rw [hb] at hF hs
        have HFi := Lib.hid hF
        rw [if_pos rfl] at hs
        have HS := Lib.hid hs
        clear hF hs hb
        go_wp2_with (first
          | (go_at_call 167; refine HFi.out.mono ?_; rintro e w' ⟨rfl, rfl⟩)
          | fail)
        go_roundw
        case rel => exact ⟨i + 1, hlt, by go_num, by rw [HS.out]; go_num, trivial⟩
        case measure => simp [intOf]; omega
      | false =>
        rw [hb] at hF hs
        have HFi := Lib.hid hF
        rw [if_neg (by simp), Nat.add_zero] at hs
        have HS := Lib.hid hs
        clear hF hs hb
        go_wp2_with (first
          | (go_at_call 167; refine HFi.out.mono ?_; rintro e w' ⟨rfl, rfl⟩)
          | fail)
        go_roundw
        case rel => exact ⟨i + 1, hlt, by go_num, by rw [HS.out]; rfl, trivial⟩
        case measure => simp [intOf]; omega
    · obtain rfl : i = c.now.length := by omega
      go_wp2
      go_ret
      exact ⟨rfl, rfl⟩
theorem room_no (p : Value) (h : Calls Tryz.prog 166 #[p] w fun e w' => e = .returned (.int .i64 0) ∧ w = w') : Calls Tryz.prog 155 #[p] w fun e w' => e = .returned (.int .i64 0) ∧ w = w' := by
  have HL := Lib.hid h
  clear h
  go_enter Tryz.func155, Tryz.ntmps155
  go_wp2_with (first
    | (go_at_call 166; refine HL.out.mono ?_; rintro e w' ⟨rfl, rfl⟩)
    | fail)
  go_loopw [7, 3] (fun j r wr => j = .int .i64 0 ∧ r = .int .i64 0 ∧ wr = w) (fun _ _ _ => 0)
  case atStart => exact ⟨rfl, rfl, rfl⟩
  case round =>
    obtain ⟨rfl, rfl, rfl⟩ := hrel
    go_wp2
    go_ret
    exact ⟨rfl, rfl⟩
end
end Go.Proofs.YtoclhiaidbfheaaGreatDoor.C
end

section
namespace Go.Proofs.YtoclhiaidbfheaaGreatDoor.C
open Go.RowKit

theorem turn_lt {c : CS} (h : 0 < c.now.length) (k : Nat) : turn c k < c.now.length := Nat.mod_lt _ h
theorem turn_rem {c : CS} (_ : 0 < c.now.length) (i : Nat) : ((c.at_ : Int) + (i : Int)).tmod (c.now.length : Int) = (turn c i : Int) := by
  rw [Int.tmod_eq_emod_of_nonneg (by omega)]
  simp [turn]
theorem after_rem {c : CS} (_ : 0 < c.now.length) (i : Nat) : ((i : Int) + 1).tmod (c.now.length : Int) = (after c i : Int) := by
  rw [Int.tmod_eq_emod_of_nonneg (by omega)]
  simp [after]
theorem after_lt {c : CS} (h : 0 < c.now.length) (k : Nat) : after c k < c.now.length := Nat.mod_lt _ h
section
variable (w : World) (b g0 p0 g1 p1 : Nat) (c : CS)
theorem alloc_no (p : Value) (h : Calls Tryz.prog 166 #[p] w fun e w' => e = .returned (.int .i64 0) ∧ w = w') : Calls Tryz.prog 106 #[p] w fun e w' => e = .returned (.tuple #[.int .i64 0, .int .i64 1]) ∧ w = w' := by
  have HN := Lib.hid (none_no w p h)
  clear h
  go_enter Tryz.func106, Tryz.ntmps106
  go_wp2_with (go_at_call 165; refine HN.out.mono ?_; rintro e w' ⟨rfl, rfl⟩)
  go_ret2
  exact ⟨rfl, rfl⟩
theorem alloc_full (h : AX w b g0 p0 g1 p1 c) (hk : allocK c = none) : Calls Tryz.prog 106 #[.pointer (some ⟨b, 0, none⟩)] w fun e w' => e = .returned (.tuple #[.int .i64 0, .int .i64 8]) ∧ w = w' := by
  have HN := Lib.hid (none_any w b g0 p0 g1 p1 c h)
  have HL := Lib.hid (len_any w b g0 p0 g1 p1 c h)
  have HF := Lib.hid (fun n hn => free_any w b g0 p0 g1 p1 c h n hn)
  have HK := Lib.hid (allocK_none hk)
  have n0 := h.ok.n0
  have n1 := h.ok.n1
  have a1 := h.ok.a1
  have c2 := h.c2
  clear h hk
  go_enter Tryz.func106, Tryz.ntmps106
  go_wp2_with (first
    | (go_at_call 165; refine HN.out.mono ?_; rintro e w' ⟨rfl, rfl⟩)
    | (go_at_call 166; refine HL.out.mono ?_; rintro e w' ⟨rfl, rfl⟩)
    | fail)
  go_loopw [12] (fun j wr => ∃ i : Nat, i ≤ c.now.length ∧ j = .int .i64 (i : Int) ∧ wr = w) (fun j _ => c.now.length - (intOf j).toNat)
  case atStart => exact ⟨0, Nat.zero_le _, rfl, rfl⟩
  case round =>
    obtain ⟨i, hi, rfl, rfl⟩ := hrel
    by_cases hlt : i < c.now.length
    · have hltI : (i : Int) < (c.now.length : Int) := by omega
      have hF := HF.out (turn c i) (turn_lt n0 i)
      rw [HK.out i hlt] at hF
      have HFi := Lib.hid hF
      have hrem := turn_rem n0 i
      have h00 : ((c.now.length : Int) == 0) = false := by rw [beq_eq_false_iff_ne]; omega
      clear hF
      go_wp2_with (first
        | (go_at_call 167; refine HFi.out.mono ?_; rintro e w' ⟨rfl, rfl⟩)
        | fail)
      go_roundw
      case rel => exact ⟨i + 1, hlt, by go_num, trivial⟩
      case measure => simp [intOf]; omega
    · obtain rfl : i = c.now.length := by omega
      go_wp2
      go_ret2
      exact ⟨rfl, rfl⟩
theorem alloc_any (h : AX w b g0 p0 g1 p1 c) (k : Nat) (hk : allocK c = some k) : Calls Tryz.prog 106 #[.pointer (some ⟨b, 0, none⟩)] w fun e w' => e = .returned (.tuple #[.int .i64 (turn c k : Int), .int .i64 0]) ∧ AX w' b g0 p0 g1 p1 (allocS c k) ∧ Stays w w' (foot b g0 g1) := by
  have HN := Lib.hid (none_any w b g0 p0 g1 p1 c h)
  have HL := Lib.hid (len_any w b g0 p0 g1 p1 c h)
  have HF := Lib.hid (fun n hn => free_any w b g0 p0 g1 p1 c h n hn)
  obtain ⟨k1, k2, k3⟩ := allocK_some hk
  have HK := Lib.hid k3
  have HK2 := Lib.hid k2
  have n0 := h.ok.n0
  have n1 := h.ok.n1
  have a1 := h.ok.a1
  have c2 := h.c2
  have c0 := h.c0
  have hh : AX (w.setCell ⟨g0, turn c k, none⟩ (.int .u16 1)) b g0 p0 g1 p1 { c with now := c.now.set (turn c k) 1 } := h.setNow tA (turn c k) 1 (by omega)
  have hh2 := hh.setAt tA (after c (turn c k)) (by simpa using after_lt n0 _)
  have HE : Hid (AX _ b g0 p0 g1 p1 (allocS c k)) := Lib.hid hh2
  have hs := (fset w b g0 g1 ⟨g0, turn c k, none⟩ (.inr (.inl rfl)) (.int .u16 1)).set ⟨b, 2, none⟩ (.inl (.inl rfl)) (.int .i64 (after c (turn c k) : Int))
  have HS := Lib.hid hs
  have f0 := h.fr0 (turn c k)
  have cn := h.n_at (turn c k) (turn_lt n0 k)
  have f2 := hh.fr 2
  have c22 := hh.c2
  have ht := turn_lt n0 k
  have hrem2 := after_rem n0 (turn c k)
  clear h hk hh hh2 hs k2 k3
  go_enter Tryz.func106, Tryz.ntmps106
  go_wp2_with (first
    | (go_at_call 165; refine HN.out.mono ?_; rintro e w' ⟨rfl, rfl⟩)
    | (go_at_call 166; refine HL.out.mono ?_; rintro e w' ⟨rfl, rfl⟩)
    | fail)
  go_loopw [12] (fun j wr => ∃ i : Nat, i ≤ k ∧ j = .int .i64 (i : Int) ∧ wr = w) (fun j _ => c.now.length - (intOf j).toNat)
  case atStart => exact ⟨0, Nat.zero_le _, rfl, rfl⟩
  case round =>
    obtain ⟨i, hi, rfl, rfl⟩ := hrel
    have hltI : (i : Int) < (c.now.length : Int) := by omega
    have hrem := turn_rem n0 i
    have h00 : ((c.now.length : Int) == 0) = false := by rw [beq_eq_false_iff_ne]; omega
    have hF := HF.out (turn c i) (turn_lt n0 i)
    by_cases hlt : i < k
    · rw [HK.out i hlt] at hF
      have HFi := Lib.hid hF
      clear hF
      go_wp2_with (first
        | (go_at_call 167; refine HFi.out.mono ?_; rintro e w' ⟨rfl, rfl⟩)
        | fail)
      go_roundw
      case rel => exact ⟨i + 1, hlt, by go_num, trivial⟩
      case measure => simp [intOf]; omega
    · obtain rfl : i = k := by omega
      rw [HK2.out] at hF
      have HFi := Lib.hid hF
      have htI : (turn c i : Int) < (c.now.length : Int) := by omega
      clear hF
      go_wp2_with (first
        | (go_at_call 167; refine HFi.out.mono ?_; rintro e w' ⟨rfl, rfl⟩)
        | fail)
      go_ret2
      exact ⟨rfl, HE.out, HS.out⟩
end
end Go.Proofs.YtoclhiaidbfheaaGreatDoor.C
end

section
namespace Go.Proofs.YtoclhiaidbfheaaGreatDoor.C
open Go.RowKit

theorem u16_info : (Tryz.prog.info? 161).map (fun i => (i.zero, i.size, i.bytes)) = some (some (.int .u16 0), 1, 2) := by kernel_rfl
theorem row_slice {w : World} {base : Nat} {e : TypeId} {n : Nat} {v : Value} {xs : List Value} (h : w.ownsRow base e 1 v n xs) (hn : 0 < n) : ∃ g p, v = .slice (some ⟨g, 0, none⟩) n p ∧ base ≤ g := by
  rcases h.2 with ⟨_, e⟩ | ⟨g, cap, cur, rfl, hb, _⟩
  · omega
  · exact ⟨g, cap, rfl, hb⟩
theorem own_base0 {w : World} {base : Nat} {e : TypeId} {n : Nat} {v : Value} {xs : List Value} (h : w.ownsRow base e 1 v n xs) : w.ownsRow 0 e 1 v n xs := by
  refine ⟨h.1, ?_⟩
  rcases h.2 with h | ⟨g, cap, cur, h1, h2, h3⟩
  · exact .inl h
  · exact .inr ⟨g, cap, cur, h1, Nat.zero_le _, h3⟩

set_option maxRecDepth 10000 in
set_option maxHeartbeats 1000000 in
/-- slices.Clone of counts: new memory -/
theorem clone_any (w : World) (B : Nat) (p : Addr) (l : List Nat) (c : Nat) (h0 : 0 < l.length) (h8 : l.length ≤ 100000) (hs : Shows w B (some p) l.length (nz .u16 l)) :
    Calls Tryz.prog 238 #[.slice (some p) l.length c] w fun e w' => ∃ g q, e = .returned (.slice (some ⟨g, 0, none⟩) l.length q) ∧ w'.ownsRow 0 161 1 (.slice (some ⟨g, 0, none⟩) l.length q) l.length (nz .u16 l) ∧ w.heap.size ≤ g ∧ g < w'.heap.size ∧ Below w.heap.size w w' := by
  obtain ⟨i0, hi0, hz0, hz1, hz2⟩ := info_parts u16_info
  have hb1 := (Below.refl w.heap.size w).alloc (Nat.le_refl _) (.cells #[] 161)
  have hown0 : (w.alloc (.cells #[] 161)).ownsRow w.heap.size 161 1 (.slice (some ⟨w.heap.size, 0, none⟩) 0 0) 0 [] := World.ownsRow_made w #[] 0 (Nat.le_refl _) (Nat.zero_le _) rfl
  have hb : ∀ j u, (nz .u16 l)[j]? = some u → (w.alloc (.cells #[] 161)).cell? (p.add j) = some u := fun j u hu => by
    obtain ⟨q, hq, _, hx⟩ := hs.lies h0
    injection hq with hq
    subst hq
    have h1 := hx j u hu
    rw [World.cell?_alloc_lt _ _ _ (World.block_lt_of_cell? w _ h1)]
    exact h1
  obtain ⟨v, w4, hrun, hown4, hg4, _, hat⟩ := run_append_own_at (P := Tryz.prog) (w.alloc (.cells #[] 161)) w.heap.size 160 160 161 i0 (.int .u16 0) 1 2 Tryz.underlying160 hi0 hz0 hz1 hz2 rfl (by omega) _ 0 [] hown0 p l.length c (nz .u16 l) (by rw [nz_len]; omega) hb (nz_one _ _) (by unfold maxLen; omega) (by omega) (by simp)
  rw [Nat.zero_add, List.nil_append] at hown4
  have hb4 : Below w.heap.size w w4 := hb1.grown hg4 (by simp) (fun k hk => by injection hk with hk; have hk' : w.heap.size = k := hk; omega)
  obtain ⟨g, q, rfl, hgg⟩ := row_slice hown4 h0
  have hlt := (hown4.lt g rfl).2
  have hnil : ∀ w : World, (binOp .eql 160 (.slice (some p) l.length c) (.slice none 0 0)).run Tryz.prog w = .ok (.bool false) w := fun w => Lib.run_eql_slice_nil w _ _ _ _ _ _ _ Tryz.underlying160
  have HRUN := Lib.hid hrun
  have HEND : Hid (∃ g' q', Value.slice (some ⟨g, 0, none⟩) l.length q = .slice (some ⟨g', 0, none⟩) l.length q' ∧ w4.ownsRow 0 161 1 (.slice (some ⟨g', 0, none⟩) l.length q') l.length (nz .u16 l) ∧ w.heap.size ≤ g' ∧ g' < w4.heap.size ∧ Below w.heap.size w w4) := Lib.hid ⟨g, q, rfl, own_base0 hown4, hgg, hlt, hb4⟩
  clear hrun hown4 hg4 hat hb4 hgg hb hown0 hb1 hs hlt
  go_enter Tryz.func238, Tryz.ntmps238
  go_wp2_with (first
    | (at_builtin; refine Lib.wpList_append_run _ rfl (.tmp 5) (.tmp 6) 160 160 rfl _ _ rfl rfl _ _ HRUN.out ?_)
    | fail)
  go_ret
  obtain ⟨g', q', e', h1, h2, h3, h4⟩ := HEND.out
  exact ⟨g', q', by rw [e']; rfl, h1, h2, h3, h4⟩

/-- a row that is shown -/
theorem row_shows {w : World} {g n p : Nat} {e : TypeId} {xs : List Value} (h : w.ownsRow 0 e 1 (.slice (some ⟨g, 0, none⟩) n p) n xs) : Shows w w.heap.size (some ⟨g, 0, none⟩) n xs := Shows.owned h

section
variable (w : World) (b g0 p0 g1 p1 : Nat) (c : CS)
theorem may_any (n : Int) : Calls Tryz.prog 237 #[.int .i64 n] w fun e w' => e = .returned (.bool (decide (1 ≤ n) && decide (n ≤ 1000))) ∧ w = w' := by
  cases h1 : decide (1 ≤ n) with
  | true =>
    go_enter Tryz.func237, Tryz.ntmps237
    go_wp2
    go_ret
    exact ⟨by simp, rfl⟩
  | false =>
    go_enter Tryz.func237, Tryz.ntmps237
    go_wp2
    go_ret
    exact ⟨by simp, rfl⟩
theorem new_no (A : Option Addr) (n cap : Nat) (h : ¬ (1 ≤ n ∧ n ≤ 1000)) : Calls Tryz.prog 205 #[.slice A n cap] w fun e w' => e = .returned (.tuple #[.pointer none, .int .i64 2]) ∧ w = w' := by
  have hm := may_any w (n : Int)
  have e1 : (decide (1 ≤ (n : Int)) && decide ((n : Int) ≤ 1000)) = false := by simp; omega
  rw [e1] at hm
  have HM := Lib.hid hm
  clear hm e1
  go_enter Tryz.func205, Tryz.ntmps205
  go_wp2_with (first
    | (go_at_call 237; refine HM.out.mono ?_; rintro e w' ⟨rfl, rfl⟩)
    | fail)
  go_ret2
  exact ⟨rfl, rfl⟩
/-- a new area of two clones -/
theorem new_area (w w1 w2 : World) (l l2 : List Nat) (g0 q0 g1 q1 a1 k1 : Nat) (h1 : w1.ownsRow 0 161 1 (.slice (some ⟨g0, 0, none⟩) l.length q0) l.length (nz .u16 l)) (hg0 : w.heap.size ≤ g0) (hl0 : g0 < w1.heap.size) (hb1 : Below w.heap.size w w1)
    (h2 : w2.ownsRow 0 161 1 (.slice (some ⟨g1, 0, none⟩) l2.length q1) l2.length (nz .u16 l2)) (hg1 : w1.heap.size ≤ g1) (hb2 : Below w1.heap.size w1 w2) (hok : CS.ok ⟨l, l2, a1, k1⟩) :
    AX (w2.alloc (.cells #[.slice (some ⟨g0, 0, none⟩) l.length q0, .slice (some ⟨g1, 0, none⟩) l.length q1, .int .i64 (a1 : Int), .int .i64 (k1 : Int)] 270)) w2.heap.size g0 q0 g1 q1 ⟨l, l2, a1, k1⟩ ∧
    (∀ j, foot w2.heap.size g0 g1 j → w.heap.size ≤ j) ∧ Below w.heap.size w (w2.alloc (.cells #[.slice (some ⟨g0, 0, none⟩) l.length q0, .slice (some ⟨g1, 0, none⟩) l.length q1, .int .i64 (a1 : Int), .int .i64 (k1 : Int)] 270)) := by
  have hl : l2.length = l.length := hok.len
  have hs1 := hb1.size
  have hs2 := hb2.size
  have hg1l := (h2.lt g1 rfl).2
  rw [hl] at h2
  refine ⟨⟨heap_alloc_new w2 _, ?_, h2.alloc _, by omega, hok⟩, ?_, ?_⟩
  · exact (rowS_on h1 (fun k hk => by injection hk with hk; have hk' : g0 = k := hk; subst hk'; exact hb2.block _ hl0)).alloc _
  · rintro j (rfl | rfl | rfl)
    · omega
    · omega
    · omega
  · exact (hb1.trans (hb2.mono hs1)).alloc (by omega) _
theorem new_any (B : Nat) (A : Option Addr) (l : List Nat) (cap : Nat) (hs : Shows w B A l.length (nz .u16 l)) (h0 : 1 ≤ l.length ∧ l.length ≤ 1000) (hB : B ≤ w.heap.size) (h16 : ∀ x ∈ l, x ≤ 65535) :
    Calls Tryz.prog 205 #[.slice A l.length cap] w fun e w' => ∃ b g0 p0 g1 p1, e = .returned (.tuple #[.pointer (some ⟨b, 0, none⟩), .int .i64 0]) ∧ AX w' b g0 p0 g1 p1 ⟨l, l, 0, 0⟩ ∧ (∀ j, foot b g0 g1 j → w.heap.size ≤ j) ∧ Below w.heap.size w w' := by
  have hm := may_any w (l.length : Int)
  have e1 : (decide (1 ≤ (l.length : Int)) && decide ((l.length : Int) ≤ 1000)) = true := by simp; omega
  rw [e1] at hm
  have HM := Lib.hid hm
  obtain ⟨p, rfl, hp, _⟩ := hs.lies (by omega)
  have HC := Lib.hid (fun W (hb : Below w.heap.size w W) => clone_any W B p l cap (by omega) (by omega) (hs.moved fun q hq => hb.cell (Nat.lt_of_lt_of_le hq hB)))
  have HOK : Hid (CS.ok ⟨l, l, 0, 0⟩) := Lib.hid ⟨by simp; omega, by simp; omega, rfl, h16, h16, by simp; omega, by simp; omega⟩
  clear hm e1 hs
  go_enter Tryz.func205, Tryz.ntmps205
  go_wp2_with (first
    | (go_at_call 237; refine HM.out.mono ?_; rintro e w' ⟨rfl, rfl⟩)
    | (go_at_call 238; (with_reducible refine (HC.out _ (Below.refl _ _)).mono ?_); rintro e w1 ⟨g0, q0, rfl, h1, h2, h3, h4⟩)
    | (go_at_call 238; (with_reducible refine (HC.out _ h4).mono ?_); rintro e w2 ⟨g1, q1, rfl, k1, k2, k3, k4⟩)
    | fail)
  go_ret2
  obtain ⟨r1, r2, r3⟩ := new_area w w1 w2 l l g0 q0 g1 q1 0 0 h1 h2 h3 h4 k1 k2 k4 HOK.out
  exact ⟨_, g0, q0, g1, q1, rfl, r1, r2, r3⟩
end
end Go.Proofs.YtoclhiaidbfheaaGreatDoor.C
end

section
namespace Go.Proofs.YtoclhiaidbfheaaGreatDoor.C
open Go.RowKit
set_option maxRecDepth 100000

def commitS (c : CS) : CS := { c with was := c.now, kept := c.at_ }
def abortS (c : CS) : CS := { c with now := c.was, at_ := c.kept }
theorem u16_size : (Tryz.prog.info? 161).map (·.size) = some 1 := by kernel_rfl

section
variable {w : World} {b g0 p0 g1 p1 : Nat} {c : CS}
theorem AR.drew {T e : TypeId} {k : IntKind} (h : AR T e k w b g0 p0 g1 p1 c) : AR T e k w.drew b g0 p0 g1 p1 c := h.on (fun _ _ => rfl)
theorem Stays.from_drew {w w' : World} {F : Nat → Prop} (h : Stays w.drew w' F) : Stays w w' F := ⟨h.os, h.tape, h.output, h.size, h.block⟩
theorem commit_copy (h : AX w b g0 p0 g1 p1 c) : ∃ w1, (Builtin.copy_ #[160, 160] 3 #[.slice (some ⟨g1, 0, none⟩) c.now.length p1, .slice (some ⟨g0, 0, none⟩) c.now.length p0]).run Tryz.prog w = .ok (.int .i64 (c.now.length : Int)) w1 ∧
    AX w1 b g0 p0 g1 p1 { c with was := c.now } ∧ Stays w w1 (foot b g0 g1) := by
  obtain ⟨cur, hg, hnp, hpm, hsz, htk⟩ := row_blk h.was
  have hcells : ∀ j v, (nz .u16 c.now)[j]? = some v → w.cell? ((⟨g0, 0, none⟩ : Addr).add j) = some v := h.now.cells rfl
  have hrun := run_copy_row (P := Tryz.prog) w 160 160 3 161 g1 0 c.now.length p1 ⟨g0, 0, none⟩ c.now.length p0 cur 161 (nz .u16 c.now) Tryz.underlying160 u16_size hg (by rw [nz_len]; exact (Nat.min_self _).symm) hcells (by rw [nz_len]; omega) (nz_one _ _)
  rw [nz_len] at hrun
  refine ⟨_, hrun, ?_, ⟨rfl, rfl, rfl, by simp, fun j _ hj => setRow_other w g1 j _ (fun e => hj (.inr (.inr e)))⟩⟩
  have ho := h.ok
  refine ⟨?_, ?_, ⟨by rw [nz_len]; show c.now.length = c.now.length * 1; omega, .inr ⟨g1, p1, _, rfl, Nat.zero_le _, setRow_heap w g1 cur _ _ _ hg, hnp, hpm, ?_, ?_⟩⟩, h.apart, ⟨ho.n0, ho.n1, rfl, ho.bn, ho.bn, ho.a1, ho.k1⟩⟩
  · rw [setRow_other w g1 b _ (fun e => (h.kb tA).2 e.symm)]; exact h.blk
  · exact rowS_on h.now (fun k hk => setRow_other w g1 k _ (fun e => h.apart (by injection hk with hk; have hk' : g0 = k := hk; rw [hk', e])))
  · simp [nz_len] at hsz ⊢; omega
  · simp [nz_len]
theorem abort_copy (h : AX w b g0 p0 g1 p1 c) : ∃ w1, (Builtin.copy_ #[160, 160] 3 #[.slice (some ⟨g0, 0, none⟩) c.now.length p0, .slice (some ⟨g1, 0, none⟩) c.now.length p1]).run Tryz.prog w = .ok (.int .i64 (c.now.length : Int)) w1 ∧
    AX w1 b g0 p0 g1 p1 { c with now := c.was } ∧ Stays w w1 (foot b g0 g1) := by
  obtain ⟨cur, hg, hnp, hpm, hsz, htk⟩ := row_blk h.now
  have ho := h.ok
  have hl := ho.len
  have hcells : ∀ j v, (nz .u16 c.was)[j]? = some v → w.cell? ((⟨g1, 0, none⟩ : Addr).add j) = some v := h.was.cells rfl
  have hrun := run_copy_row (P := Tryz.prog) w 160 160 3 161 g0 0 c.now.length p0 ⟨g1, 0, none⟩ c.now.length p1 cur 161 (nz .u16 c.was) Tryz.underlying160 u16_size hg (by rw [nz_len, hl]; exact (Nat.min_self _).symm) hcells (by rw [nz_len]; omega) (nz_one _ _)
  rw [nz_len, hl] at hrun
  refine ⟨_, hrun, ?_, ⟨rfl, rfl, rfl, by simp, fun j _ hj => setRow_other w g0 j _ (fun e => hj (.inr (.inl e)))⟩⟩
  refine ⟨?_, ⟨by rw [nz_len]; show c.was.length = c.was.length * 1; omega, .inr ⟨g0, p0, _, by rw [hl], Nat.zero_le _, setRow_heap w g0 cur _ _ _ hg, by show c.was.length ≤ p0; omega, hpm, ?_, ?_⟩⟩, ?_, h.apart, ⟨by show 0 < c.was.length; have := ho.n0; omega, by show c.was.length ≤ 1000; have := ho.n1; omega, rfl, ho.bw, ho.bw, by show c.at_ < c.was.length; have := ho.a1; omega, by show c.kept < c.was.length; have := ho.k1; omega⟩⟩
  · rw [setRow_other w g0 b _ (fun e => (h.kb tA).1 e.symm)]
    show _ = some (Obj.cells #[Value.slice _ c.was.length _, Value.slice _ c.was.length _, _, _] _ _)
    rw [hl]; exact h.blk
  · simp [nz_len] at hsz ⊢; omega
  · simp [nz_len]
  · show World.ownsRow _ _ _ _ (Value.slice _ c.was.length _) c.was.length _
    rw [hl]
    exact rowS_on h.was (fun k hk => setRow_other w g0 k _ (fun e => h.apart (by injection hk with hk; have hk' : g1 = k := hk; rw [hk', e])))
end
section
variable (w : World) (b g0 p0 g1 p1 : Nat) (c : CS)
abbrev Cells4 (W : World) (b g0 p0 g1 p1 : Nat) (c : CS) : Prop := W.cell? ⟨b, 0, none⟩ = some (.slice (some ⟨g0, 0, none⟩) c.now.length p0) ∧ W.cell? ⟨b, 1, none⟩ = some (.slice (some ⟨g1, 0, none⟩) c.now.length p1) ∧ W.cell? ⟨b, 2, none⟩ = some (.int .i64 (c.at_ : Int)) ∧ W.cell? ⟨b, 3, none⟩ = some (.int .i64 (c.kept : Int))
theorem Cells4.alloc {W : World} {b g0 p0 g1 p1 : Nat} {c : CS} (h : Cells4 W b g0 p0 g1 p1 c) (o : Obj) : Cells4 (W.alloc o) b g0 p0 g1 p1 c := by
  obtain ⟨h0, h1, h2, h3⟩ := h
  refine ⟨?_, ?_, ?_, ?_⟩
  · rw [World.cell?_alloc_lt _ _ _ (World.block_lt_of_cell? W _ h0)]; exact h0
  · rw [World.cell?_alloc_lt _ _ _ (World.block_lt_of_cell? W _ h1)]; exact h1
  · rw [World.cell?_alloc_lt _ _ _ (World.block_lt_of_cell? W _ h2)]; exact h2
  · rw [World.cell?_alloc_lt _ _ _ (World.block_lt_of_cell? W _ h3)]; exact h3
theorem AR.cells4 {T e : TypeId} {k : IntKind} {w : World} {b g0 p0 g1 p1 : Nat} {c : CS} (h : AR T e k w b g0 p0 g1 p1 c) : Cells4 w b g0 p0 g1 p1 c := ⟨h.c0, h.c1, h.c2, h.c3⟩
theorem AR.below {T e : TypeId} {k : IntKind} {w w' : World} {b g0 p0 g1 p1 : Nat} {c : CS} (h : AR T e k w b g0 p0 g1 p1 c) (hb : Below w.heap.size w w') : AR T e k w' b g0 p0 g1 p1 c := h.on (fun j hj => by
  rcases hj with rfl | rfl | rfl
  · exact hb.block _ h.lt
  · exact hb.block _ h.lt0
  · exact hb.block _ h.lt1)
end
end Go.Proofs.YtoclhiaidbfheaaGreatDoor.C
end
