/- The law's own values: a record of 260 cells; what the program takes of them. Slices of the law's values; the walks of 'all' and 'much'. The walk of 'is': a value that the program answers, held against one of the law's. The walk of 'is', for blocks: a value that the program answers, held against one of the law's. Walks of the texts of bytes: hexDigit and digit, Unhex of the program and of the document. The walk of Unhex of package wire. The walk of the document's Unhex. The walk of Hex of package wire. The walk of 'are': the program's values, held against the law's. Walks of the document's own answers: size, May, Least; and the laws' bound on what is gone through. The walk of the document's Least; of the bound 'much' at no values. Walks of the document's fits and Low. The walk of the laws' bound 'much'. The walk of the law WireMeans. The walk of the law WireMeans where the values are packed. -/
import Derived.Test.YtpkbkliblbbdcaaWd
import Derived.Deep.MidRow
import Derived.Stop.BytesEq
import Derived.Deep.QuietTactic
import Derived.BigQuiet
import Derived.Laws.BitsAllLaws
import Derived.Deep.RegionLaw
import Derived.StillTailTactics
section
namespace Go.Proofs.Ytpkbkliblbbdcaa
open Go.RowKit
set_option maxRecDepth 20000

/-- a value of the law: its letter, and what of each kind it has -/
structure LVal where
  c : UInt8
  n : Nat
  yes : Bool
  b : List UInt8
  x : List UInt8

/-- its cells, with its bytes' slice -/
def lvCells (v : LVal) (A : Option Addr) (cap : Nat) : List Value := .int .u8 (v.c.toNat : Int) :: .int .u64 (v.n : Int) :: .bool v.yes :: .slice A v.b.length cap :: cells8 v.x
/-- these cells are that value; its bytes lie below block B -/
def LVok (w : World) (B : Nat) (cs : List Value) (v : LVal) : Prop := ∃ A cap, cs = lvCells v A cap ∧ v.x.length = 256 ∧ v.n < 18446744073709551616 ∧ Shows w B A v.b.length (cells8 v.b) ∧ v.b.length ≤ cap ∧ cap ≤ 9223372036854775807

/-- what the program is told of it -/
def toldP (v : LVal) : PV := if v.c = 56 then .num v.n else if v.c = 63 then .flag v.yes else if v.c = 42 then .blob v.b else if v.c = 35 then .block v.x else .other

theorem lv_length {v : LVal} (h : v.x.length = 256) (A : Option Addr) (cap : Nat) : (lvCells v A cap).length = 260 := by simp [lvCells, cells8_length, h]
theorem lv_one (v : LVal) (A : Option Addr) (cap : Nat) : ∀ u ∈ lvCells v A cap, u.oneCell' = true := by
  intro u hu
  simp only [lvCells, List.mem_cons] at hu
  rcases hu with rfl | rfl | rfl | rfl | hu
  · rfl
  · rfl
  · rfl
  · rfl
  · exact cells8_one _ u hu
theorem lv_range (v : LVal) (A : Option Addr) (cap : Nat) (w : World) (t : TypeId) : (w.alloc (.cells (lvCells v A cap).toArray t)).rangeAt w.heap.size 4 (cells8 v.x) := by
  intro j u hj
  rw [cell_of_row _ w.heap.size (4 + j) _ t (0, 0) (heap_alloc_new w _)]
  simp only [List.getElem?_toArray]
  rw [Nat.add_comm 4 j]
  exact hj
theorem val_size : (Try.prog.info? 78).map (·.size) = some 260 := by kernel_rfl

section
variable (v : LVal) (A : Option Addr) (cap : Nat) (w : World)
theorem lv_c0 : (w.alloc (.cells (lvCells v A cap).toArray 78)).cell? ⟨w.heap.size, 0, none⟩ = some (.int .u8 (v.c.toNat : Int)) := by
  rw [cell_of_row _ w.heap.size 0 _ _ (0, 0) (heap_alloc_new w _)]; rfl
theorem lv_c1 : (w.alloc (.cells (lvCells v A cap).toArray 78)).cell? ⟨w.heap.size, 1, none⟩ = some (.int .u64 (v.n : Int)) := by
  rw [cell_of_row _ w.heap.size 1 _ _ (0, 0) (heap_alloc_new w _)]; rfl
theorem lv_c2 : (w.alloc (.cells (lvCells v A cap).toArray 78)).cell? ⟨w.heap.size, 2, none⟩ = some (.bool v.yes) := by
  rw [cell_of_row _ w.heap.size 2 _ _ (0, 0) (heap_alloc_new w _)]; rfl
theorem lv_c3 : (w.alloc (.cells (lvCells v A cap).toArray 78)).cell? ⟨w.heap.size, 3, none⟩ = some (.slice A v.b.length cap) := by
  rw [cell_of_row _ w.heap.size 3 _ _ (0, 0) (heap_alloc_new w _)]; rfl
end

theorem ne56 {c : UInt8} (h : ¬ c = 56) : ((c.toNat : Int) == 56) = false := by rw [beq_eq_false_iff_ne]; intro e; exact h (UInt8.toNat.inj (by show _ = 56; omega))
theorem eq56 {c : UInt8} (h : c = 56) : ((c.toNat : Int) == 56) = true := by rw [h]; rfl
theorem ne63 {c : UInt8} (h : ¬ c = 63) : ((c.toNat : Int) == 63) = false := by rw [beq_eq_false_iff_ne]; intro e; exact h (UInt8.toNat.inj (by show _ = 63; omega))
theorem eq63 {c : UInt8} (h : c = 63) : ((c.toNat : Int) == 63) = true := by rw [h]; rfl
theorem ne42 {c : UInt8} (h : ¬ c = 42) : ((c.toNat : Int) == 42) = false := by rw [beq_eq_false_iff_ne]; intro e; exact h (UInt8.toNat.inj (by show _ = 42; omega))
theorem eq42 {c : UInt8} (h : c = 42) : ((c.toNat : Int) == 42) = true := by rw [h]; rfl
theorem ne35 {c : UInt8} (h : ¬ c = 35) : ((c.toNat : Int) == 35) = false := by rw [beq_eq_false_iff_ne]; intro e; exact h (UInt8.toNat.inj (by show _ = 35; omega))
theorem eq35 {c : UInt8} (h : c = 35) : ((c.toNat : Int) == 35) = true := by rw [h]; rfl

end Go.Proofs.Ytpkbkliblbbdcaa
end

section
namespace Go.Proofs.Ytpkbkliblbbdcaa
open Go.RowKit
set_option maxRecDepth 20000

/-- a slice of the law's values, from A on, below block B -/
def VRow (w : World) (B : Nat) (A : Option Addr) (vals : List LVal) : Prop :=
  0 < vals.length → ∃ p : Addr, A = some p ∧ p.block < B ∧ ∀ i (h : i < vals.length), ∃ cs, LVok w B cs vals[i] ∧ ∀ j u, cs[j]? = some u → w.cell? (p.add (i * 260 + j)) = some u
theorem LVok.below {w w' : World} {B : Nat} {cs : List Value} {v : LVal} (h : LVok w B cs v) (hb : Below B w w') : LVok w' B cs v := by
  obtain ⟨A, cap, e, hx, hn, hs, hc⟩ := h
  exact ⟨A, cap, e, hx, hn, hs.below hb, hc⟩
theorem LVok.wide {w : World} {B C : Nat} {cs : List Value} {v : LVal} (h : LVok w B cs v) (hC : B ≤ C) : LVok w C cs v := by
  obtain ⟨A, cap, e, hx, hn, hs, hc⟩ := h
  exact ⟨A, cap, e, hx, hn, hs.wide hC, hc⟩
theorem VRow.below {w w' : World} {B : Nat} {A : Option Addr} {vals : List LVal} (h : VRow w B A vals) (hb : Below B w w') : VRow w' B A vals := by
  intro hp
  obtain ⟨p, e, hpb, hx⟩ := h hp
  refine ⟨p, e, hpb, fun i hi => ?_⟩
  obtain ⟨cs, hl, hc⟩ := hx i hi
  exact ⟨cs, hl.below hb, fun j u hu => by rw [hb.cell (by rw [addr_block]; exact hpb)]; exact hc j u hu⟩
theorem LVok.length {w : World} {B : Nat} {cs : List Value} {v : LVal} (h : LVok w B cs v) : cs.length = 260 := by
  obtain ⟨A, cap, rfl, hx, _⟩ := h
  exact lv_length hx A cap

section
variable {P : Program}
/-- a whole struct or array, read at whatever address -/
theorem run_loadVar_addr (w : World) (a : Addr) (ty : TypeId) (cs : List Value) (d : TypeDesc) (hc : ∀ j u, cs[j]? = some u → w.cell? (a.add j) = some u)
    (hu : P.underlying ty = some d) (hd : d.isRow = true) (hi : (P.info? ty).map (·.size) = some cs.length) : (loadVar ty a).run P w = .ok (.agg cs.toArray) w := by
  have hl : (loadCells a cs.length).run P w = .ok cs.toArray w := run_loadCells_list (P := P) w a cs hc
  cases hq : P.info? ty with
  | none => simp [hq] at hi
  | some i =>
    have hs : i.size = cs.length := by simpa [hq] using hi
    have hagg : (isAgg ty).run P w = .ok true w := by
      unfold isAgg
      rw [Sem.run_bind, run_underlying hu w]
      cases d <;> simp_all
    simp [loadVar, Sem.run_bind, hagg, sizeOf, typeInfo, hq, hs, hl]
theorem wpList_load_addr {ops : Array Oper} {rest : List Oper} {op : Oper} {a : Act} {w : World} {Q : Exit → Act → World → Prop} (hgd : op.guard = none) (ty : TypeId) (x : Operand) (ho : op.op = .load ty x)
    (ad : Addr) (hx : a.eval x = .pointer (some ad)) (cs : List Value) (d : TypeDesc) (hc : ∀ j u, cs[j]? = some u → w.cell? (ad.add j) = some u)
    (hu : P.underlying ty = some d) (hd : d.isRow = true) (hi : (P.info? ty).map (·.size) = some cs.length)
    (h : wpList P ops Q rest (a.put op.dst (.agg cs.toArray)) w) : wpList P ops Q (op :: rest) a w := by
  refine wpList_plain hgd fun K hK => ?_
  unfold Oper.wp execOp
  simp only [ho, hx, Instr.loadAt, Instr.sureAddr, Sem.run_bind, Sem.run_pure, Result.andThen_ok, run_loadVar_addr w ad ty cs d hc hu hd hi]
  exact hK _ _ h
end

end Go.Proofs.Ytpkbkliblbbdcaa
end

section
namespace Go.Proofs.Ytpkbkliblbbdcaa
open Go.RowKit
set_option maxRecDepth 20000

theorem eql_block (x : List UInt8) (hx : x.length = 256) (w : World) : (binOp .eql 76 (.agg (cells8 x).toArray) (.agg (cells8 x).toArray)).run Try.prog w = .ok (.bool true) w := by
  have h := run_eql_bytes (P := Try.prog) w 76 5 256 Try.underlying76 Try.underlying5 (fun w => by kernel_rfl) x x hx hx
  rw [beq_self_eq_true] at h
  exact h

end Go.Proofs.Ytpkbkliblbbdcaa
end

section
namespace Go.Proofs.Ytpkbkliblbbdcaa
open Go.RowKit
set_option maxRecDepth 20000

end Go.Proofs.Ytpkbkliblbbdcaa
end

section
namespace Go.Proofs.Ytpkbkliblbbdcaa
open Go.RowKit
set_option maxRecDepth 20000

/-- a letter of hex; 16: it is none -/
def hexV (c : Int) : Int := if 48 ≤ c ∧ c ≤ 57 then c - 48 else if 97 ≤ c ∧ c ≤ 102 then c - 87 else 16
theorem hexV_bounds (c : Int) : 0 ≤ hexV c ∧ hexV c ≤ 16 := by unfold hexV; split <;> (try split) <;> omega

theorem hexV_cases (c : Int) : (48 ≤ c ∧ c ≤ 57 ∧ hexV c = c - 48) ∨ (97 ≤ c ∧ c ≤ 102 ∧ hexV c = c - 87) ∨ (hexV c = 16 ∧ (c < 48 ∨ (57 < c ∧ c < 97) ∨ 102 < c)) := by
  unfold hexV
  by_cases h1 : 48 ≤ c ∧ c ≤ 57
  · rw [if_pos h1]; exact .inl ⟨h1.1, h1.2, rfl⟩
  · rw [if_neg h1]
    by_cases h2 : 97 ≤ c ∧ c ≤ 102
    · rw [if_pos h2]; exact .inr (.inl ⟨h2.1, h2.2, rfl⟩)
    · rw [if_neg h2]; exact .inr (.inr ⟨rfl, by omega⟩)
theorem ret_pair {k : IntKind} {a b : Int} {x : Bool} (h : a = b) : Ending.returned (.tuple #[.int k a, .bool x]) = .returned (.tuple #[.int k b, .bool x]) := by rw [h]

/-- the letters of the j-th byte: both are some; the byte -/
def okP (s : ByteArray) (j : Nat) : Bool := decide (hexV (((bs s).getD (2 * j) 0).toNat : Int) < 16) && decide (hexV (((bs s).getD (2 * j + 1) 0).toNat : Int) < 16)
def byP (s : ByteArray) (j : Nat) : UInt8 := UInt8.ofNat (16 * hexV (((bs s).getD (2 * j) 0).toNat : Int) + hexV (((bs s).getD (2 * j + 1) 0).toNat : Int)).toNat
def unhexR (s : ByteArray) : Option (List UInt8) := if s.size % 2 = 0 ∧ (List.range (s.size / 2)).all (okP s) = true then some ((List.range (s.size / 2)).map (byP s)) else none
/-- what Unhex leaves -/
def Unhexed (w : World) (r : Option (List UInt8)) (e : Ending) (w' : World) : Prop :=
  Below w.heap.size w w' ∧ match r with
  | some l => ∃ v, e = .returned (.tuple #[v, .bool true]) ∧ w'.ownsRow w.heap.size 5 1 v l.length (cells8 l)
  | none => e = .returned (.tuple #[.slice none 0 0, .bool false])
theorem bs_getD (s : ByteArray) (i : Nat) (h : i < s.size) : (bs s).getD i 0 = s[i]'h := by
  rw [List.getD_eq_getElem?_getD, List.getElem?_eq_getElem (by rw [bs_length]; exact h), Option.getD_some, bs_get s i h]

end Go.Proofs.Ytpkbkliblbbdcaa
end

section
namespace Go.Proofs.Ytpkbkliblbbdcaa
open Go.RowKit
set_option maxRecDepth 20000

theorem range_okP (s : ByteArray) (k : Nat) (h : (List.range k).all (okP s) = true) (hk : okP s k = true) : (List.range (k + 1)).all (okP s) = true := by
  rw [List.range_succ, List.all_append, h]
  simp [hk]
theorem range_byP (s : ByteArray) (k : Nat) : (List.range (k + 1)).map (byP s) = (List.range k).map (byP s) ++ [byP s k] := by
  rw [List.range_succ, List.map_append]
  rfl
theorem unhex_odd (s : ByteArray) (h : ¬ s.size % 2 = 0) : unhexR s = none := by rw [unhexR, if_neg (fun x => h x.1)]
theorem unhex_bad (s : ByteArray) (k : Nat) (hk : k < s.size / 2) (h : okP s k = false) : unhexR s = none := by
  rw [unhexR, if_neg]
  rintro ⟨_, ha⟩
  rw [List.all_eq_true] at ha
  have := ha k (List.mem_range.2 hk)
  rw [h] at this
  cases this
theorem unhex_good (s : ByteArray) (h : s.size % 2 = 0) (ha : (List.range (s.size / 2)).all (okP s) = true) : unhexR s = some ((List.range (s.size / 2)).map (byP s)) := by
  rw [unhexR, if_pos ⟨h, ha⟩]
theorem okP_at (s : ByteArray) (k : Nat) (h1 : 2 * k < s.size) (h2 : 2 * k + 1 < s.size) : okP s k = (decide (hexV ((s[2 * k]'h1).toNat : Int) < 16) && decide (hexV ((s[2 * k + 1]'h2).toNat : Int) < 16)) := by
  rw [okP, bs_getD s _ h1, bs_getD s _ h2]
theorem byP_at (s : ByteArray) (k : Nat) (h1 : 2 * k < s.size) (h2 : 2 * k + 1 < s.size) (hok : okP s k = true) : ((byP s k).toNat : Int) = 16 * hexV ((s[2 * k]'h1).toNat : Int) + hexV ((s[2 * k + 1]'h2).toNat : Int) := by
  rw [okP_at s k h1 h2] at hok
  simp only [Bool.and_eq_true, decide_eq_true_eq] at hok
  have b1 := hexV_bounds ((s[2 * k]'h1).toNat : Int)
  have b2 := hexV_bounds ((s[2 * k + 1]'h2).toNat : Int)
  rw [byP, bs_getD s _ h1, bs_getD s _ h2]
  generalize hexV ((s[2 * k]'h1).toNat : Int) = x at *
  generalize hexV ((s[2 * k + 1]'h2).toNat : Int) = y at *
  simp only [UInt8.toNat_ofNat']
  omega

theorem okP_i (s : ByteArray) (i k : Nat) (hk : i = 2 * k) (h1 : i < s.size) (h2 : i + 1 < s.size) : okP s k = (decide (hexV ((s[i]'h1).toNat : Int) < 16) && decide (hexV ((s[i + 1]'h2).toNat : Int) < 16)) := by
  subst hk
  exact okP_at s k h1 h2
theorem byP_i (s : ByteArray) (i k : Nat) (hk : i = 2 * k) (h1 : i < s.size) (h2 : i + 1 < s.size) (ha : hexV ((s[i]'h1).toNat : Int) < 16) (hb : hexV ((s[i + 1]'h2).toNat : Int) < 16) : ((byP s k).toNat : Int) = 16 * hexV ((s[i]'h1).toNat : Int) + hexV ((s[i + 1]'h2).toNat : Int) := by
  subst hk
  exact byP_at s k h1 h2 (by rw [okP_at s k h1 h2]; simp [ha, hb])
theorem u8_pair (x y : Int) (h1 : 0 ≤ x) (h2 : x < 16) (h3 : 0 ≤ y) (h4 : y < 16) : bits .or .u8 (x * 16) y = 16 * x + y := by
  obtain ⟨a, rfl⟩ := Int.eq_ofNat_of_zero_le h1
  obtain ⟨b, rfl⟩ := Int.eq_ofNat_of_zero_le h3
  have ha : a < 16 := by omega
  have hb : b < 16 := by omega
  have key : ∀ a, a < 16 → ∀ b, b < 16 → bits .or .u8 ((a : Nat) * 16 : Int) ((b : Nat) : Int) = 16 * ((a : Nat) : Int) + ((b : Nat) : Int) := by decide
  exact key a ha b hb
theorem byte_small (c : UInt8) : 0 ≤ (c.toNat : Int) ∧ (c.toNat : Int) ≤ 255 := by have := c.toNat_lt; omega

end Go.Proofs.Ytpkbkliblbbdcaa
end

section
namespace Go.Proofs.Ytpkbkliblbbdcaa
open Go.RowKit
set_option maxRecDepth 20000

theorem below_drewN {B : Nat} {a w : World} (h : Below B a w) (n : Nat) : Below B a (w.drewN n) := ⟨h.os, h.tape, h.output, h.size, h.block⟩
theorem own_drewN {w : World} {base n : Nat} {e : TypeId} {v : Value} {xs : List Value} (h : w.ownsRow base e 1 v n xs) (k : Nat) : (w.drewN k).ownsRow base e 1 v n xs := h

end Go.Proofs.Ytpkbkliblbbdcaa
end

section
namespace Go.Proofs.Ytpkbkliblbbdcaa
open Go.RowKit
set_option maxRecDepth 20000

/-- a letter of hex -/
def hexD (n : Nat) : UInt8 := UInt8.ofNat (if n < 10 then 48 + n else 87 + n)
def hexS : List UInt8 → List UInt8
  | [] => []
  | b :: l => hexD (b.toNat / 16) :: hexD (b.toNat % 16) :: hexS l
theorem hexS_snoc (l : List UInt8) (b : UInt8) : hexS (l ++ [b]) = hexS l ++ [hexD (b.toNat / 16), hexD (b.toNat % 16)] := by
  induction l with
  | nil => rfl
  | cons a l ih => simp [hexS, ih]
theorem hexS_length (l : List UInt8) : (hexS l).length = 2 * l.length := by
  induction l with
  | nil => rfl
  | cons a l ih => simp only [hexS, List.length_cons, ih]; omega

theorem grew_drew {a b : World} {u v : Value} (h : Grew a b u v) : Grew a b.drew u v := ⟨⟨h.by_.os, h.by_.tape, h.by_.output, h.by_.size, h.by_.block⟩, h.at_⟩

/-- append of whatever slice shows its cells, as a step of a region that draws its order -/
theorem step_append_shows {P : Program} (w : World) {ops : Array Oper} {o : Oper} {a : Act} {K : Act → World → Prop} {Q : Exit → Act → World → Prop} {E : Prop} (hgd : o.guard = none) (s x : Operand) (t : TypeId)
    (ho : o.op = .call { callee := .builtin .append, args := #[s, x], argTypes := #[t, t] })
    (base : Nat) (e : TypeId) (i : TypeInfo) (z : Value) (bytes : Nat) (ht : P.underlying t = some (.slice e)) (hi : P.info? e = some i) (hz : i.zero = some z)
    (hsize : i.size = 1) (hby : i.bytes = bytes) (hzs : z.cells.size = 1)
    (v : Value) (n : Nat) (xs : List Value) (hev : a.eval s = v) (hown : w.ownsRow base e 1 v n xs)
    (B : Nat) (A : Option Addr) (m c : Nat) (news : List Value) (hx : a.eval x = .slice A m c) (hs : Shows w B A m news) (h1 : ∀ u ∈ news, u.oneCell' = true)
    (h63 : n + m ≤ maxLen) (hbytes : (n + m) * bytes ≤ 140737488355328) (hbase : base ≤ w.heap.size)
    (h : ∀ v' w', w'.ownsRow base e 1 v' (n + m) (xs ++ news) → Grew w w' v v' → K (a.put o.dst v') w') :
    if Region.wanted o (yielded ops a.tmps) = true then Oper.wp P o a w K Q else E := by
  have hw : Region.wanted o (yielded ops a.tmps) = true := by simp [Region.wanted, hgd]
  rw [if_pos hw]
  obtain ⟨v', w', hr, h2, h3⟩ := run_append_shows (P := P) w base t o.type e i z bytes ht hi hz hsize hby hzs v n xs hown B A m c news hs h1 h63 hbytes hbase
  unfold Oper.wp execOp
  simp only [ho, resolve, invoke, builtin, Sem.run_bind, Sem.run_pure, Result.andThen_ok, List.map_toArray, List.map_cons, List.map_nil, hev, hx, hr]
  exact h v' w' h2 h3

/- a letter out of the text of all letters: closed facts -/
theorem hexl0 (w : World) : (Instr.index 9 (.string ⟨#[48, 49, 50, 51, 52, 53, 54, 55, 56, 57, 97, 98, 99, 100, 101, 102]⟩) (.int .u8 0)).run Try.prog w = .ok (.int .u8 ((hexD 0).toNat : Int)) w := by kernel_rfl
theorem hexl1 (w : World) : (Instr.index 9 (.string ⟨#[48, 49, 50, 51, 52, 53, 54, 55, 56, 57, 97, 98, 99, 100, 101, 102]⟩) (.int .u8 1)).run Try.prog w = .ok (.int .u8 ((hexD 1).toNat : Int)) w := by kernel_rfl
theorem hexl2 (w : World) : (Instr.index 9 (.string ⟨#[48, 49, 50, 51, 52, 53, 54, 55, 56, 57, 97, 98, 99, 100, 101, 102]⟩) (.int .u8 2)).run Try.prog w = .ok (.int .u8 ((hexD 2).toNat : Int)) w := by kernel_rfl
theorem hexl3 (w : World) : (Instr.index 9 (.string ⟨#[48, 49, 50, 51, 52, 53, 54, 55, 56, 57, 97, 98, 99, 100, 101, 102]⟩) (.int .u8 3)).run Try.prog w = .ok (.int .u8 ((hexD 3).toNat : Int)) w := by kernel_rfl
theorem hexl4 (w : World) : (Instr.index 9 (.string ⟨#[48, 49, 50, 51, 52, 53, 54, 55, 56, 57, 97, 98, 99, 100, 101, 102]⟩) (.int .u8 4)).run Try.prog w = .ok (.int .u8 ((hexD 4).toNat : Int)) w := by kernel_rfl
theorem hexl5 (w : World) : (Instr.index 9 (.string ⟨#[48, 49, 50, 51, 52, 53, 54, 55, 56, 57, 97, 98, 99, 100, 101, 102]⟩) (.int .u8 5)).run Try.prog w = .ok (.int .u8 ((hexD 5).toNat : Int)) w := by kernel_rfl
theorem hexl6 (w : World) : (Instr.index 9 (.string ⟨#[48, 49, 50, 51, 52, 53, 54, 55, 56, 57, 97, 98, 99, 100, 101, 102]⟩) (.int .u8 6)).run Try.prog w = .ok (.int .u8 ((hexD 6).toNat : Int)) w := by kernel_rfl
theorem hexl7 (w : World) : (Instr.index 9 (.string ⟨#[48, 49, 50, 51, 52, 53, 54, 55, 56, 57, 97, 98, 99, 100, 101, 102]⟩) (.int .u8 7)).run Try.prog w = .ok (.int .u8 ((hexD 7).toNat : Int)) w := by kernel_rfl
theorem hexl8 (w : World) : (Instr.index 9 (.string ⟨#[48, 49, 50, 51, 52, 53, 54, 55, 56, 57, 97, 98, 99, 100, 101, 102]⟩) (.int .u8 8)).run Try.prog w = .ok (.int .u8 ((hexD 8).toNat : Int)) w := by kernel_rfl
theorem hexl9 (w : World) : (Instr.index 9 (.string ⟨#[48, 49, 50, 51, 52, 53, 54, 55, 56, 57, 97, 98, 99, 100, 101, 102]⟩) (.int .u8 9)).run Try.prog w = .ok (.int .u8 ((hexD 9).toNat : Int)) w := by kernel_rfl
theorem hexl10 (w : World) : (Instr.index 9 (.string ⟨#[48, 49, 50, 51, 52, 53, 54, 55, 56, 57, 97, 98, 99, 100, 101, 102]⟩) (.int .u8 10)).run Try.prog w = .ok (.int .u8 ((hexD 10).toNat : Int)) w := by kernel_rfl
theorem hexl11 (w : World) : (Instr.index 9 (.string ⟨#[48, 49, 50, 51, 52, 53, 54, 55, 56, 57, 97, 98, 99, 100, 101, 102]⟩) (.int .u8 11)).run Try.prog w = .ok (.int .u8 ((hexD 11).toNat : Int)) w := by kernel_rfl
theorem hexl12 (w : World) : (Instr.index 9 (.string ⟨#[48, 49, 50, 51, 52, 53, 54, 55, 56, 57, 97, 98, 99, 100, 101, 102]⟩) (.int .u8 12)).run Try.prog w = .ok (.int .u8 ((hexD 12).toNat : Int)) w := by kernel_rfl
theorem hexl13 (w : World) : (Instr.index 9 (.string ⟨#[48, 49, 50, 51, 52, 53, 54, 55, 56, 57, 97, 98, 99, 100, 101, 102]⟩) (.int .u8 13)).run Try.prog w = .ok (.int .u8 ((hexD 13).toNat : Int)) w := by kernel_rfl
theorem hexl14 (w : World) : (Instr.index 9 (.string ⟨#[48, 49, 50, 51, 52, 53, 54, 55, 56, 57, 97, 98, 99, 100, 101, 102]⟩) (.int .u8 14)).run Try.prog w = .ok (.int .u8 ((hexD 14).toNat : Int)) w := by kernel_rfl
theorem hexl15 (w : World) : (Instr.index 9 (.string ⟨#[48, 49, 50, 51, 52, 53, 54, 55, 56, 57, 97, 98, 99, 100, 101, 102]⟩) (.int .u8 15)).run Try.prog w = .ok (.int .u8 ((hexD 15).toNat : Int)) w := by kernel_rfl
theorem hex_letter (n : Nat) (hn : n < 16) (w : World) : (Instr.index 9 (.string ⟨#[48, 49, 50, 51, 52, 53, 54, 55, 56, 57, 97, 98, 99, 100, 101, 102]⟩) (.int .u8 (n : Int))).run Try.prog w = .ok (.int .u8 ((hexD n).toNat : Int)) w := by
  match n, hn with
  | 0, _ => exact hexl0 w
  | 1, _ => exact hexl1 w
  | 2, _ => exact hexl2 w
  | 3, _ => exact hexl3 w
  | 4, _ => exact hexl4 w
  | 5, _ => exact hexl5 w
  | 6, _ => exact hexl6 w
  | 7, _ => exact hexl7 w
  | 8, _ => exact hexl8 w
  | 9, _ => exact hexl9 w
  | 10, _ => exact hexl10 w
  | 11, _ => exact hexl11 w
  | 12, _ => exact hexl12 w
  | 13, _ => exact hexl13 w
  | 14, _ => exact hexl14 w
  | 15, _ => exact hexl15 w
  | n + 16, h => exact absurd h (by omega)
set_option maxRecDepth 100000 in
theorem u8_low (b : Nat) (h : b < 256) : bits .and .u8 (b : Int) 15 = ((b % 16 : Nat) : Int) := by
  have key : ∀ b, b < 256 → bits .and .u8 ((b : Nat) : Int) 15 = ((b % 16 : Nat) : Int) := by decide
  exact key b h

end Go.Proofs.Ytpkbkliblbbdcaa
end

section
namespace Go.Proofs.Ytpkbkliblbbdcaa
open Go.RowKit
set_option maxRecDepth 20000

theorem iv_wide {w : World} {B C : Nat} {v : Value} {p : PV} (h : IV w B v p) (hC : B ≤ C) : IV w C v p := by
  cases p with
  | blob l => obtain ⟨A, c, e, h2, h3⟩ := h; exact ⟨A, c, e, h2.wide hC, h3⟩
  | num n => exact h
  | flag b => exact h
  | block l => exact h
  | other => exact h

theorem wpStill_load_addr {P : Program} {ops : Array Oper} {w : World} {Q : Act → Prop} {a : Act} {o : Oper} {rest : List Oper} (hgd : o.guard = none) (ty : TypeId) (x : Operand) (ho : o.op = .load ty x)
    (ad : Addr) (hx : a.eval x = .pointer (some ad)) (cs : List Value) (d : TypeDesc) (hc : ∀ j u, cs[j]? = some u → w.cell? (ad.add j) = some u)
    (hu : P.underlying ty = some d) (hd : d.isRow = true) (hi : (P.info? ty).map (·.size) = some cs.length)
    (h : wpStill P ops w Q rest (a.put o.dst (.agg cs.toArray))) : wpStill P ops w Q (o :: rest) a := by
  have hw : Region.wanted o (yielded ops a.tmps) = true := by simp [Region.wanted, hgd]
  unfold wpStill
  rw [if_pos hw]
  unfold Oper.still execOp
  simp only [ho, hx, Instr.loadAt, Instr.sureAddr, Sem.run_bind, Sem.run_pure, Result.andThen_ok, run_loadVar_addr w ad ty cs d hc hu hd hi]
  exact ⟨rfl, h⟩

end Go.Proofs.Ytpkbkliblbbdcaa
end

section
namespace Go.Proofs.Ytpkbkliblbbdcaa
open Go.RowKit
set_option maxRecDepth 20000

set_option maxHeartbeats 400000 in
theorem size_any (c : Int) (w : World) :
    Calls Try.prog 55 #[.int .u8 c] w fun e w' => e = .returned (.int .i64 (wid c)) ∧ w = w' := by
  go_enter Try.func55, Try.ntmps55
  go_wp2
  all_goals go_ret
  all_goals refine ⟨ret_int ?_, rfl⟩
  all_goals simp only [beq_iff_eq, beq_eq_false_iff_ne, ne_eq] at *
  all_goals simp [wid, *]

theorem lst_zero (c : Int) (h : lst c = 0) : wid c = 0 ∧ (c != 63) = true ∧ (c != 42) = true ∧ (c != 35) = true := by
  unfold lst at h
  have h1 : ¬ c = 63 := by intro e; rw [if_pos e] at h; omega
  rw [if_neg h1] at h
  have h2 : ¬ c = 42 := by intro e; rw [if_pos e] at h; omega
  rw [if_neg h2] at h
  have h3 : ¬ c = 35 := by intro e; rw [if_pos e] at h; omega
  rw [if_neg h3] at h
  simp [h, h1, h2, h3]
theorem lst_some (c : Int) (h : ¬ lst c = 0) : ¬ wid c = 0 ∨ c = 63 ∨ c = 42 ∨ c = 35 := by
  unfold lst at h
  by_cases h1 : c = 63
  · exact .inr (.inl h1)
  · by_cases h2 : c = 42
    · exact .inr (.inr (.inl h2))
    · by_cases h3 : c = 35
      · exact .inr (.inr (.inr h3))
      · simp only [h1, h2, h3, if_false] at h; exact .inl h
theorem wid_63 : wid 63 = 0 := by decide
theorem wid_42 : wid 42 = 0 := by decide
theorem wid_35 : wid 35 = 0 := by decide

set_option maxHeartbeats 1000000 in
theorem rmay_any (s : ByteArray) (w : World) (hs : s.size ≤ 1000000) :
    Calls Try.prog 54 #[.string s] w fun e w' => e = .returned (.bool (mayS (bs s))) ∧ w = w' := by
  go_enter Try.func54, Try.ntmps54
  go_wp2
  go_loop [3] (fun j => ∃ i : Nat, i ≤ s.size ∧ j = .int .i64 i ∧ Hid (mayS ((bs s).take i) = true)) (fun j => s.size - (intOf j).toNat)
  case atStart => exact ⟨0, Nat.zero_le _, rfl, rfl⟩
  case round =>
    obtain ⟨i, hp, rfl, HM⟩ := hrel
    by_cases hlt : i < s.size
    · by_cases hz : lst ((s[i]'hlt).toNat : Int) = 0
      · have hfin : mayS (bs s) = false := mayS_stop (bs s) i (by rw [bs_length]; exact hlt) (by rw [bs_get s i hlt]; exact hz)
        obtain ⟨z0, z1, z2, z3⟩ := lst_zero _ hz
        have HF := Lib.hid hfin
        have HZ := Lib.hid z0
        clear hfin hz z0
        go_wp2_with fail
        refine (size_any _ _).mono ?_
        rintro e w' ⟨rfl, rfl⟩
        rw [HZ.out]
        go_wp2
        go_ret
        exact ⟨by rw [HF.out]; rfl, rfl⟩
      · have HM2 := Lib.hid (mayS_step s i hlt HM.out hz)
        clear HM
        generalize hc : ((s[i]'hlt).toNat : Int) = c at *
        have hcs := lst_some c hz
        clear hz
        by_cases hw : wid c = 0
        · rcases hcs with h | h | h | h
          · exact absurd hw h
          all_goals
            subst h
            have HC := Lib.hid hc
            clear hc hw
            go_wp2_with fail
            rw [HC.out]
            refine (size_any _ _).mono ?_
            rintro e w' ⟨rfl, rfl⟩
            first | rw [wid_63] | rw [wid_42] | rw [wid_35]
            go_wp2
            go_round
            case rel => exact ⟨i + 1, hlt, by go_num, HM2⟩
            case measure => simp [intOf]; omega
        · have hwb : (wid c == 0) = false := by simpa using hw
          have HC := Lib.hid hc
          clear hc hw hcs
          go_wp2_with fail
          rw [HC.out]
          refine (size_any _ _).mono ?_
          rintro e w' ⟨rfl, rfl⟩
          go_wp2
          go_round
          case rel => exact ⟨i + 1, hlt, by go_num, HM2⟩
          case measure => simp [intOf]; omega
    · obtain rfl : i = s.size := by omega
      have HM2 := Lib.hid (show mayS (bs s) = true by rw [← bs_all]; exact HM.out)
      clear HM
      go_wp2
      go_ret
      exact ⟨by rw [HM2.out]; rfl, rfl⟩

end Go.Proofs.Ytpkbkliblbbdcaa
end

section
namespace Go.Proofs.Ytpkbkliblbbdcaa
open Go.RowKit
set_option maxRecDepth 20000

set_option maxHeartbeats 2000000 in
theorem rleast_any (s : ByteArray) (w : World) (hs : s.size ≤ 1000000) :
    Calls Try.prog 59 #[.string s] w fun e w' => e = .returned (.int .i64 (leastM (bs s) : Int)) ∧ w = w' := by
  cases hm : mayS (bs s) with
  | false =>
    have hL : leastM (bs s) = 0 := by rw [leastM, hm]; rfl
    rw [hL]
    have HM := Lib.hid hm
    clear hm hL
    have hpos : 0 < s.size := by
      rcases Nat.eq_zero_or_pos s.size with h0 | h0
      · have : bs s = [] := List.eq_nil_of_length_eq_zero (by rw [bs_length]; exact h0)
        have h1 := HM.out
        rw [this] at h1
        cases h1
      · exact h0
    go_enter Try.func59, Try.ntmps59
    go_wp2
    refine wp_loop_rounds 1 ?_
    rw [rounds_succ]
    go_wp2_with fail
    refine (rmay_any s w hs).mono ?_
    rintro e w' ⟨rfl, rfl⟩
    rw [HM.out]
    go_wp2_with fail
    go_ret
    exact ⟨rfl, rfl⟩
  | true =>
    have hL : leastM (bs s) = leastS (bs s) := by rw [leastM, if_pos hm]
    rw [hL]
    have HM := Lib.hid hm
    clear hm hL
    go_enter Try.func59, Try.ntmps59
    go_wp2
    go_loop [3, 4] (fun v j => ∃ i : Nat, i ≤ s.size ∧ j = .int .i64 i ∧ v = .int .i64 (leastS ((bs s).take i) : Int)) (fun _ j => s.size - (intOf j).toNat)
    case atStart => exact ⟨0, Nat.zero_le _, rfl, rfl⟩
    case round =>
      obtain ⟨i, hp, rfl, rfl⟩ := hrel
      have hb := leastS_bound s i hp
      by_cases hlt : i < s.size
      · have hst := leastS_step s i hlt
        have hno := mayS_at s i hlt HM.out
        have HST := Lib.hid hst
        have hwb := wid_le ((s[i]'hlt).toNat : Int)
        clear hst hno
        by_cases h : ((s[i]'hlt).toNat : Int) = 63
        · have k63 : (((s[i]'hlt).toNat : Int) == 63) = true := by rw [h]; rfl
          have HW := Lib.hid (show wid ((s[i]'hlt).toNat : Int) = 0 by rw [h]; decide)
          have HS := Lib.hid (show lst ((s[i]'hlt).toNat : Int) = 1 by rw [h]; decide)
          clear h
          go_wp2_with fail
          refine (rmay_any s w hs).mono ?_
          rintro e w' ⟨rfl, rfl⟩
          rw [HM.out]
          go_wp2_with fail
          refine (size_any _ _).mono ?_
          rintro e w' ⟨rfl, rfl⟩
          rw [HW.out]
          go_wp2_with fail
          go_round
          case rel => exact ⟨i + 1, hlt, by go_num, val_int (by rw [HST.out, HS.out])⟩
          case measure => simp [intOf]; omega
        have k63 : (((s[i]'hlt).toNat : Int) == 63) = false := by rw [beq_eq_false_iff_ne]; exact h
        have h63 := Lib.hid h
        clear h
        by_cases h : ((s[i]'hlt).toNat : Int) = 42
        · have k42 : (((s[i]'hlt).toNat : Int) == 42) = true := by rw [h]; rfl
          have HW := Lib.hid (show wid ((s[i]'hlt).toNat : Int) = 0 by rw [h]; decide)
          have HS := Lib.hid (show lst ((s[i]'hlt).toNat : Int) = 4 by rw [h]; decide)
          clear h
          go_wp2_with fail
          refine (rmay_any s w hs).mono ?_
          rintro e w' ⟨rfl, rfl⟩
          rw [HM.out]
          go_wp2_with fail
          refine (size_any _ _).mono ?_
          rintro e w' ⟨rfl, rfl⟩
          rw [HW.out]
          go_wp2_with fail
          go_round
          case rel => exact ⟨i + 1, hlt, by go_num, val_int (by rw [HST.out, HS.out])⟩
          case measure => simp [intOf]; omega
        have k42 : (((s[i]'hlt).toNat : Int) == 42) = false := by rw [beq_eq_false_iff_ne]; exact h
        have h42 := Lib.hid h
        clear h
        by_cases h : ((s[i]'hlt).toNat : Int) = 35
        · have k35 : (((s[i]'hlt).toNat : Int) == 35) = true := by rw [h]; rfl
          have HW := Lib.hid (show wid ((s[i]'hlt).toNat : Int) = 0 by rw [h]; decide)
          have HS := Lib.hid (show lst ((s[i]'hlt).toNat : Int) = 256 by rw [h]; decide)
          clear h
          go_wp2_with fail
          refine (rmay_any s w hs).mono ?_
          rintro e w' ⟨rfl, rfl⟩
          rw [HM.out]
          go_wp2_with fail
          refine (size_any _ _).mono ?_
          rintro e w' ⟨rfl, rfl⟩
          rw [HW.out]
          go_wp2_with fail
          go_round
          case rel => exact ⟨i + 1, hlt, by go_num, val_int (by rw [HST.out, HS.out])⟩
          case measure => simp [intOf]; omega
        have k35 : (((s[i]'hlt).toNat : Int) == 35) = false := by rw [beq_eq_false_iff_ne]; exact h
        have h35 := Lib.hid h
        clear h
        have HN := Lib.hid (lst_num ((s[i]'hlt).toNat : Int) h63.out h42.out h35.out)
        clear h63 h42 h35
        go_wp2_with fail
        refine (rmay_any s w hs).mono ?_
        rintro e w' ⟨rfl, rfl⟩
        rw [HM.out]
        go_wp2_with fail
        refine (size_any _ _).mono ?_
        rintro e w' ⟨rfl, rfl⟩
        go_wp2_with fail
        go_round
        case rel => exact ⟨i + 1, hlt, by go_num, val_int (by rw [HST.out, HN.out])⟩
        case measure => simp [intOf]; omega
      · obtain rfl : i = s.size := by omega
        rw [bs_all]
        go_wp2_with fail
        go_ret
        exact ⟨rfl, rfl⟩

end Go.Proofs.Ytpkbkliblbbdcaa
end

section
namespace Go.Proofs.Ytpkbkliblbbdcaa
open Go.RowKit
set_option maxRecDepth 20000

set_option maxHeartbeats 1000000 in
theorem fits_any (n k : Nat) (w : World) (hn : n < 18446744073709551616) (hk : k ≤ 8) :
    Calls Try.prog 56 #[.int .u64 (n : Int), .int .i64 (k : Int)] w fun e w' => e = .returned (.bool (decide (n < 256 ^ k))) ∧ w' = w := by
  go_enter Try.func56, Try.ntmps56
  go_wp2
  go_loop [0, 5] (fun x j => ∃ i : Nat, i ≤ k ∧ j = .int .i64 (i : Int) ∧ x = .int .u64 ((n / 256 ^ i : Nat) : Int)) (fun _ j => k - (intOf j).toNat)
  case atStart => exact ⟨0, Nat.zero_le _, rfl, by simp⟩
  case round =>
    obtain ⟨i, hp, rfl, rfl⟩ := hrel
    have hdiv : n / 256 ^ i ≤ n := Nat.div_le_self _ _
    generalize hx : n / 256 ^ i = x at *
    have HX := Lib.hid hx
    clear hx
    by_cases hlt : i < k
    · go_wp2
      go_round
      case rel => exact ⟨i + 1, hlt, by go_num, val_int (low_next HX.out)⟩
      case measure => simp [intOf]; omega
    · obtain rfl : i = k := by omega
      have hd : decide (n < 256 ^ i) = ((x : Int) == 0) := by
        rw [← HX.out, Bool.eq_iff_iff]
        simp only [decide_eq_true_eq, beq_iff_eq]
        constructor
        · intro h; rw [Nat.div_eq_of_lt h]; rfl
        · intro h
          have h0 : n / 256 ^ i = 0 := by omega
          rcases (Nat.div_eq_zero_iff).1 h0 with h1 | h1
          · exact absurd h1 (Nat.ne_of_gt (Nat.pow_pos (by omega)))
          · exact h1
      have HD := Lib.hid hd
      clear hd
      go_wp2
      go_ret
      rw [HD.out]
      exact ⟨rfl, rfl⟩

theorem low_set (n i k : Nat) (hi : i < k) : (cells8 (low n i ++ noughts (k - i))).set i (.int .u8 (((n / 256 ^ i : Nat) : Int) % 256)) = cells8 (low n (i + 1) ++ noughts (k - (i + 1))) := by
  have e1 : noughts (k - i) = 0 :: noughts (k - (i + 1)) := by
    have : k - i = (k - (i + 1)) + 1 := by omega
    rw [this]
    rfl
  rw [e1, cells8_append, List.set_append_right _ _ (by rw [cells8_length, low_length]; omega), cells8_length, low_length, Nat.sub_self, cells8_append, low_cells rfl]
  simp [cells8]

set_option maxHeartbeats 1000000 in
theorem low_any (n k : Nat) (w : World) (hn : n < 18446744073709551616) (hk : k ≤ 8) :
    Calls Try.prog 57 #[.int .u64 (n : Int), .int .i64 (k : Int)] w fun e w' => ∃ c, e = .returned (.slice (some ⟨w.heap.size, 0, none⟩) k c) ∧ w'.ownsRow w.heap.size 5 1 (.slice (some ⟨w.heap.size, 0, none⟩) k c) k (cells8 (low n k)) ∧ Below w.heap.size w w' := by
  obtain ⟨i0, hi, hz0, hz1, hz2⟩ := info_parts u8_info
  go_enter Try.func57, Try.ntmps57
  go_wp2_with (at_make; refine wpList_make_full _ rfl _ _ 24 rfl w.heap.size 5 i0 _ 1 Try.underlying24 hi hz0 hz1 _ _ _ _ k rfl rfl rfl rfl (by rw [hz2]; omega) (by unfold maxLen; omega) (Nat.le_refl _) ?_; intro w3 hown3 hg3; rw [noughts_made] at hown3)
  have hb3 : Below w.heap.size w w3 := (Below.refl _ _).grown hg3 (Nat.le_refl _) (by simp)
  clear hg3
  go_loopw [0, 6] (fun x j wr => ∃ i : Nat, i ≤ k ∧ j = .int .i64 (i : Int) ∧ x = .int .u64 ((n / 256 ^ i : Nat) : Int) ∧ wr.ownsRow w.heap.size 5 1 (.slice (some ⟨w.heap.size, 0, none⟩) k k) k (cells8 (low n i ++ noughts (k - i))) ∧ Below w.heap.size w wr) (fun _ j _ => k - (intOf j).toNat)
  case atStart => exact ⟨0, Nat.zero_le _, rfl, by simp, hown3, hb3⟩
  case round =>
    obtain ⟨i, hp, rfl, rfl, hown, hbr⟩ := hrel
    have hdiv : n / 256 ^ i ≤ n := Nat.div_le_self _ _
    have HS := fun hi => Lib.hid (low_set n i k hi)
    generalize hx : n / 256 ^ i = x at *
    have HX := Lib.hid hx
    clear hx hown3 hb3
    by_cases hlt : i < k
    · have hlen : (cells8 (low n i ++ noughts (k - i))).length = k := by rw [cells8_length, List.length_append, low_length, noughts_length]; omega
      have hcell : wr.cell? ⟨w.heap.size, i, none⟩ = some ((cells8 (low n i ++ noughts (k - i)))[i]'(by omega)) := by
        rw [hown.cellAt i (by omega), List.getElem?_eq_getElem (by omega)]
      have hfr := hown.frozenAt i
      have HS1 := HS hlt
      have hst := hown.stored i (.int .u8 ((x : Int) % 256))
      have HST := Lib.hid hst
      clear hst HS
      generalize (cells8 (low n i ++ noughts (k - i)))[i]'_ = cu at hcell
      go_wp2
      go_roundw
      case rel => exact ⟨i + 1, hlt, by go_num, val_int (low_next HX.out), by rw [← HS1.out]; exact HST.out.1, hbr.setCell (p := ⟨w.heap.size, i, none⟩) (Nat.le_refl _) _⟩
      case measure => simp [intOf]; omega
    · obtain rfl : i = k := by omega
      rw [Nat.sub_self, show noughts 0 = [] from rfl, List.append_nil] at hown
      go_wp2
      go_ret
      exact ⟨i, rfl, hown, hbr⟩

end Go.Proofs.Ytpkbkliblbbdcaa
end

section
namespace Go.Proofs.Ytpkbkliblbbdcaa
open Go.RowKit
set_option maxRecDepth 20000

def muchB (s : ByteArray) (vals : List LVal) : Bool := (vals.take 41).any (fun v => decide (3000 < v.b.length)) || decide (40 < s.size) || decide (40 < vals.length)
theorem muchB_at (s : ByteArray) (vals : List LVal) (i : Nat) (h : i < vals.length) (hi : i ≤ 40) (hb : 3000 < vals[i].b.length) : muchB s vals = true := by
  have : (vals.take 41).any (fun v => decide (3000 < v.b.length)) = true := by
    rw [List.any_eq_true]
    refine ⟨vals[i], ?_, by simpa using hb⟩
    rw [List.mem_iff_getElem]
    exact ⟨i, by rw [List.length_take]; omega, by rw [List.getElem_take]⟩
  rw [muchB, this]
  rfl
theorem muchB_end (s : ByteArray) (vals : List LVal) (i : Nat) (hi : i = vals.length ∨ i = 41) (h : (vals.take i).any (fun v => decide (3000 < v.b.length)) = false) : muchB s vals = (decide (40 < s.size) || decide (40 < vals.length)) := by
  have : (vals.take 41).any (fun v => decide (3000 < v.b.length)) = false := by
    rcases hi with rfl | rfl
    · rw [List.take_length] at h
      rw [List.any_eq_false] at h ⊢
      exact fun v hv => h v (List.mem_of_mem_take hv)
    · exact h
  rw [muchB, this]
  rfl
theorem muchB_no {s : ByteArray} {vals : List LVal} (h : muchB s vals = false) : s.size ≤ 40 ∧ vals.length ≤ 40 ∧ ∀ v ∈ vals, v.b.length ≤ 3000 := by
  simp only [muchB, Bool.or_eq_false_iff, decide_eq_false_iff_not] at h
  obtain ⟨⟨h1, h2⟩, h3⟩ := h
  refine ⟨by omega, by omega, fun v hv => ?_⟩
  rw [List.take_of_length_le (by omega), List.any_eq_false] at h1
  have := h1 v hv
  simp at this
  omega

end Go.Proofs.Ytpkbkliblbbdcaa
end

section
namespace Go.Proofs.Ytpkbkliblbbdcaa
open Go.RowKit
set_option maxRecDepth 20000

theorem vrow_wide {w : World} {B C : Nat} {A : Option Addr} {vals : List LVal} (h : VRow w B A vals) (hC : B ≤ C) : VRow w C A vals := by
  intro hp
  obtain ⟨p, e, hpb, hx⟩ := h hp
  refine ⟨p, e, by omega, fun i hi => ?_⟩
  obtain ⟨cs, hl, hc⟩ := hx i hi
  exact ⟨cs, hl.wide hC, hc⟩

end Go.Proofs.Ytpkbkliblbbdcaa
end

section
namespace Go.Proofs.Ytpkbkliblbbdcaa
open Go.RowKit
set_option maxRecDepth 20000

theorem packZ_other {l : List (UInt8 × PV)} {x : List UInt8} (h : packZ l = some x) : ∀ q ∈ l, q.2 ≠ .other := by
  induction l generalizing x with
  | nil => intro q hq; simp at hq
  | cons a l ih =>
    obtain ⟨c, p⟩ := a
    simp only [packZ] at h
    cases he : enc1 (c.toNat : Int) p with
    | none => rw [he] at h; cases h
    | some y =>
      rw [he] at h
      simp only [Option.map_eq_some_iff] at h
      obtain ⟨z, hz, _⟩ := h
      intro q hq
      rcases List.mem_cons.1 hq with rfl | hq
      · intro e
        simp only at e
        rw [e] at he
        simp [enc1] at he
      · exact ih hz q hq
theorem packR_other {s : List UInt8} {ps : List PV} {x : List UInt8} (h : packR s ps = some x) : ∀ p ∈ ps, p ≠ .other := by
  unfold packR at h
  split at h
  · rename_i hc
    intro p hp
    obtain ⟨i, hi, rfl⟩ := List.getElem_of_mem hp
    have hm : (s[i]'(by omega), ps[i]) ∈ s.zip ps := by
      rw [List.mem_iff_getElem]
      exact ⟨i, by rw [List.length_zip]; omega, by rw [List.getElem_zip]⟩
    exact packZ_other h _ hm
  · cases h
theorem told_iv {w : World} {B : Nat} {us : List Value} {vals : List LVal} (h : AllOV w B us (vals.map toldP)) : ∀ i (hi : i < vals.length), ∃ x, us[i]? = some x ∧ IV w w.heap.size x (toldP vals[i]) := by
  intro i hi
  obtain ⟨x, hx, ho⟩ := h.iv i (by rw [List.length_map]; exact hi)
  rw [List.getElem_map] at ho
  exact ⟨x, hx, ho⟩

end Go.Proofs.Ytpkbkliblbbdcaa
end
