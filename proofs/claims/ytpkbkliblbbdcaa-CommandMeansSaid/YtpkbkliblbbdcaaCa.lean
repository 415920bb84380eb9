/- Operations and answers as numbers; which may be; what a kind names. No program is named here. -/
import Derived.Test.YtpkbkliblbbdcaaWb
namespace Go.Proofs.Ytpkbkliblbbdcaa
open Go.RowKit
set_option maxRecDepth 20000

/-- an operation, as numbers -/
structure OP where
  k : Int
  v : Nat
  t : Nat
  s : Int
  a : Int
  c : Int
  d : List UInt8
deriving DecidableEq

def opCells (o : OP) (A : Option Addr) (cap : Nat) : List Value := [.int .i64 o.k, .int .u64 (o.v : Int), .int .u64 (o.t : Int), .int .i64 o.s, .int .i64 o.a, .int .i64 o.c, .slice A o.d.length cap]

/-- the numbers are such as their types have -/
def OP.fit (o : OP) : Prop := o.v < 18446744073709551616 ∧ o.t < 18446744073709551616 ∧ (-9223372036854775808 ≤ o.k ∧ o.k ≤ 9223372036854775807) ∧ (-9223372036854775808 ≤ o.s ∧ o.s ≤ 9223372036854775807) ∧ (-9223372036854775808 ≤ o.a ∧ o.a ≤ 9223372036854775807) ∧ (-9223372036854775808 ≤ o.c ∧ o.c ≤ 9223372036854775807)

/-- the letters of what a kind names -/
def namesL (k : Int) : Option (List UInt8) :=
  if k = 1 ∨ k = 3 then some [86, 83] else if k = 2 then some [86] else if k = 4 then some [86, 84] else if k = 5 then some [86, 65, 68] else if k = 6 ∨ k = 7 ∨ k = 9 then some [86, 65, 67] else if k = 8 then some [] else none

/-- whole sectors, at most so many -/
def secB (n most : Nat) : Bool := decide (n % 64 = 0) && decide (n / 64 ≤ most)

def bnd (o : OP) (c : Int) : Bool :=
  if c = 86 then decide (1 ≤ o.v) && decide (o.v ≤ 4294967295)
  else if c = 84 then (decide (1 ≤ o.t) && decide (o.t ≤ 4294967295)) && !decide (o.t = o.v)
  else if c = 83 then decide (0 ≤ o.s) && decide (o.s ≤ 256)
  else if c = 65 then decide (0 ≤ o.a) && decide (o.a ≤ 1048576)
  else if c = 67 then decide (1 ≤ o.c) && decide (o.c ≤ 1024)
  else if c = 68 then decide (0 < o.d.length) && secB o.d.length 32
  else false

/-- what a letter names, as a value of wire -/
def valP (o : OP) (c : Int) : PV :=
  if c = 86 then .num o.v else if c = 84 then .num o.t else if c = 83 then .num o.s.toNat else if c = 65 then .num o.a.toNat else if c = 67 then .num o.c.toNat else .blob o.d

def PV.n : PV → Nat
  | .num n => n
  | _ => 0
def PV.bl : PV → List UInt8
  | .blob l => l
  | _ => []
def PV.isNum : PV → Bool
  | .num _ => true
  | _ => false
def PV.isBlob : PV → Bool
  | .blob _ => true
  | _ => false

/-- an int of a number -/
def toI (n : Nat) : Int := IntKind.i64.wrap (n : Int)

/-- a value laid, as what a letter names -/
def laid (o : OP) (c : Int) (p : PV) : OP :=
  if c = 68 then { o with d := p.bl }
  else if c = 86 then { o with v := p.n } else if c = 84 then { o with t := p.n } else if c = 83 then { o with s := toI p.n } else if c = 65 then { o with a := toI p.n } else if c = 67 then { o with c := toI p.n } else o
def laidOk (c : Int) (p : PV) : Bool := if c = 68 then p.isBlob else p.isNum

def zeroO (k : Int) : OP := ⟨k, 0, 0, 0, 0, 0, []⟩
def laidAll (o : OP) : OP → List UInt8 → OP
  | w, [] => w
  | w, c :: l => laidAll o (laid w (c.toNat : Int) (valP o (c.toNat : Int))) l

/-- may it be an operation? -/
def mayO (o : OP) : Bool :=
  match namesL o.k with
  | none => false
  | some l => l.all (fun c => bnd o (c.toNat : Int)) && decide (o = laidAll o (zeroO o.k) l)

theorem laidAll_snoc (o w : OP) (l : List UInt8) (c : UInt8) : laidAll o w (l ++ [c]) = laid (laidAll o w l) (c.toNat : Int) (valP o (c.toNat : Int)) := by
  induction l generalizing w with
  | nil => rfl
  | cons x l ih => simp only [List.cons_append, laidAll, ih]

theorem bytes_row {w : World} {B n : Nat} {A : Option Addr} {l : List UInt8} (h : Shows w B A n (cells8 l)) : n = l.length := by rw [← h.len, cells8_length]

theorem toI_nat (n : Nat) (h : n < 9223372036854775808) : toI n = (n : Int) := by
  unfold toI
  simp [IntKind.wrap, IntKind.bits, IntKind.signed]
  omega

theorem namesL_ascii {k : Int} {l : List UInt8} (h : namesL k = some l) : ∀ c ∈ l, c = 86 ∨ c = 83 ∨ c = 84 ∨ c = 65 ∨ c = 68 ∨ c = 67 := by
  unfold namesL at h
  repeat' split at h
  all_goals first
    | (cases h; intro c hc; simp at hc; omega)
    | (cases h; intro c hc; simp at hc; rcases hc with rfl | rfl | rfl <;> simp)
    | (cases h; intro c hc; simp at hc; rcases hc with rfl | rfl <;> simp)
    | (cases h; intro c hc; simp at hc; subst hc; simp)
    | (cases h; intro c hc; simp at hc)
    | cases h

/-- the six kinds of names -/
theorem namesL_cases (k : Int) : (namesL k = none ∧ ¬ (1 ≤ k ∧ k ≤ 9)) ∨ (k = 1 ∨ k = 2 ∨ k = 3 ∨ k = 4 ∨ k = 5 ∨ k = 6 ∨ k = 7 ∨ k = 8 ∨ k = 9) := by
  by_cases h : 1 ≤ k ∧ k ≤ 9
  · right; omega
  · left
    refine ⟨?_, h⟩
    unfold namesL
    repeat rw [if_neg (by omega)]

end Go.Proofs.Ytpkbkliblbbdcaa
