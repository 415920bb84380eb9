/- Values as package wire takes them, and appendValue: what each comes to. -/
import Derived.Test.YtpkbkliblbbdcaaProg
import Derived.Test.YtpkbkliblbbdcaaSpec
import Derived.Test.YtpkbkliblbbdcaaMem
import Derived.Test.YtpkbkliblbbdcaaLeaf
import Derived.Test.YtpkbkliblbbdcaaNumb
import Derived.WalkSpells
import Derived.WalkLawsBesides
import Derived.Lib.Hide
import Derived.Deep.WholeRow
namespace Go.Proofs.Ytpkbkliblbbdcaa
open Go.RowKit
set_option maxRecDepth 20000

/-- a value that is packed, or was unpacked -/
inductive PV where
  | num (n : Nat)
  | flag (b : Bool)
  | blob (l : List UInt8)
  | block (l : List UInt8)
  | other

/-- the interface value v is p; a blob's bytes lie below block B -/
def IV (w : World) (B : Nat) (v : Value) : PV → Prop
  | .num n => v = .iface 23 (.int .u64 (n : Int)) ∧ n < 18446744073709551616
  | .flag b => v = .iface 4 (.bool b)
  | .blob l => ∃ A c, v = .iface 24 (.slice A l.length c) ∧ Shows w B A l.length (cells8 l) ∧ l.length ≤ c ∧ l.length ≤ 1073741824
  | .block l => v = .iface 76 (.agg (cells8 l).toArray) ∧ l.length = 256
  | .other => v = .nilIface ∨ ∃ n, v = .iface 3 (.int .i64 n)

/-- a value's bytes by a letter -/
def enc1 (c : Int) : PV → Option (List UInt8)
  | .num n => if wid c ≠ 0 ∧ n < 256 ^ (wid c).toNat then some (low n (wid c).toNat) else none
  | .flag b => if c = 63 then some [bit8 b] else none
  | .blob l => if c = 42 ∧ l.length ≤ 16777216 then some (low l.length 4 ++ l) else none
  | .block l => if c = 35 ∧ l.length = 256 then some l else none
  | .other => none

/-- what appendValue leaves -/
def Put (base : Nat) (v : Value) (k : Nat) (xs : List Value) (w : World) (r : Option (List UInt8)) (e : Ending) (w' : World) : Prop :=
  match r with
  | some l => ∃ v', e = .returned (.tuple #[v', .bool true]) ∧ w'.ownsRow base 5 1 v' (k + l.length) (xs ++ cells8 l) ∧ Grew w w' v v'
  | none => e = .returned (.tuple #[.slice none 0 0, .bool false]) ∧ Below w.heap.size w w'

/-- a block of noughts -/
def zeros256 : List UInt8 := List.replicate 256 0

/- a value of an interface, asked for a type: closed facts -/
theorem ask_u64_u64 (x : Value) (w : World) : (Instr.typeAssert (.iface 23 x) 20 23 true).run Try.prog w = .ok (.tuple #[x, .bool true]) w := by kernel_rfl
theorem ask_u64_bool (x : Value) (w : World) : (Instr.typeAssert (.iface 23 x) 20 4 true).run Try.prog w = .ok (.tuple #[.bool false, .bool false]) w := by kernel_rfl
theorem ask_u64_bytes (x : Value) (w : World) : (Instr.typeAssert (.iface 23 x) 20 24 true).run Try.prog w = .ok (.tuple #[.slice none 0 0, .bool false]) w := by kernel_rfl
theorem ask_u64_block (x : Value) (w : World) : (Instr.typeAssert (.iface 23 x) 20 76 true).run Try.prog w = .ok (.tuple #[.agg (cells8 zeros256).toArray, .bool false]) w := by kernel_rfl
theorem ask_bool_u64 (x : Value) (w : World) : (Instr.typeAssert (.iface 4 x) 20 23 true).run Try.prog w = .ok (.tuple #[.int .u64 0, .bool false]) w := by kernel_rfl
theorem ask_bool_bool (x : Value) (w : World) : (Instr.typeAssert (.iface 4 x) 20 4 true).run Try.prog w = .ok (.tuple #[x, .bool true]) w := by kernel_rfl
theorem ask_bool_bytes (x : Value) (w : World) : (Instr.typeAssert (.iface 4 x) 20 24 true).run Try.prog w = .ok (.tuple #[.slice none 0 0, .bool false]) w := by kernel_rfl
theorem ask_bool_block (x : Value) (w : World) : (Instr.typeAssert (.iface 4 x) 20 76 true).run Try.prog w = .ok (.tuple #[.agg (cells8 zeros256).toArray, .bool false]) w := by kernel_rfl
theorem ask_bytes_u64 (x : Value) (w : World) : (Instr.typeAssert (.iface 24 x) 20 23 true).run Try.prog w = .ok (.tuple #[.int .u64 0, .bool false]) w := by kernel_rfl
theorem ask_bytes_bool (x : Value) (w : World) : (Instr.typeAssert (.iface 24 x) 20 4 true).run Try.prog w = .ok (.tuple #[.bool false, .bool false]) w := by kernel_rfl
theorem ask_bytes_bytes (x : Value) (w : World) : (Instr.typeAssert (.iface 24 x) 20 24 true).run Try.prog w = .ok (.tuple #[x, .bool true]) w := by kernel_rfl
theorem ask_bytes_block (x : Value) (w : World) : (Instr.typeAssert (.iface 24 x) 20 76 true).run Try.prog w = .ok (.tuple #[.agg (cells8 zeros256).toArray, .bool false]) w := by kernel_rfl
theorem ask_block_u64 (x : Value) (w : World) : (Instr.typeAssert (.iface 76 x) 20 23 true).run Try.prog w = .ok (.tuple #[.int .u64 0, .bool false]) w := by kernel_rfl
theorem ask_block_bool (x : Value) (w : World) : (Instr.typeAssert (.iface 76 x) 20 4 true).run Try.prog w = .ok (.tuple #[.bool false, .bool false]) w := by kernel_rfl
theorem ask_block_bytes (x : Value) (w : World) : (Instr.typeAssert (.iface 76 x) 20 24 true).run Try.prog w = .ok (.tuple #[.slice none 0 0, .bool false]) w := by kernel_rfl
theorem ask_block_block (x : Value) (w : World) : (Instr.typeAssert (.iface 76 x) 20 76 true).run Try.prog w = .ok (.tuple #[x, .bool true]) w := by kernel_rfl
theorem ask_int_u64 (x : Value) (w : World) : (Instr.typeAssert (.iface 3 x) 20 23 true).run Try.prog w = .ok (.tuple #[.int .u64 0, .bool false]) w := by kernel_rfl
theorem ask_int_bool (x : Value) (w : World) : (Instr.typeAssert (.iface 3 x) 20 4 true).run Try.prog w = .ok (.tuple #[.bool false, .bool false]) w := by kernel_rfl
theorem ask_int_bytes (x : Value) (w : World) : (Instr.typeAssert (.iface 3 x) 20 24 true).run Try.prog w = .ok (.tuple #[.slice none 0 0, .bool false]) w := by kernel_rfl
theorem ask_int_block (x : Value) (w : World) : (Instr.typeAssert (.iface 3 x) 20 76 true).run Try.prog w = .ok (.tuple #[.agg (cells8 zeros256).toArray, .bool false]) w := by kernel_rfl
theorem ask_nil_u64 (w : World) : (Instr.typeAssert .nilIface 20 23 true).run Try.prog w = .ok (.tuple #[.int .u64 0, .bool false]) w := by kernel_rfl
theorem ask_nil_bool (w : World) : (Instr.typeAssert .nilIface 20 4 true).run Try.prog w = .ok (.tuple #[.bool false, .bool false]) w := by kernel_rfl
theorem ask_nil_bytes (w : World) : (Instr.typeAssert .nilIface 20 24 true).run Try.prog w = .ok (.tuple #[.slice none 0 0, .bool false]) w := by kernel_rfl
theorem ask_nil_block (w : World) : (Instr.typeAssert .nilIface 20 76 true).run Try.prog w = .ok (.tuple #[.agg (cells8 zeros256).toArray, .bool false]) w := by kernel_rfl

theorem zero_block (w : World) : (zeroValue 76).run Try.prog w = .ok (.agg (cells8 zeros256).toArray) w := by kernel_rfl
theorem block_size : (Try.prog.info? 76).map (·.size) = some 256 := by kernel_rfl
theorem block_cells (l : List UInt8) (h : l.length = 256) : (Try.prog.info? 76).map (·.size) = some (cells8 l).toArray.size := by
  rw [block_size, List.size_toArray, cells8_length, h]
theorem cells8_all (l : List UInt8) : (cells8 l).toArray.all (·.oneCell') = true := by
  rw [Array.all_eq_true_iff_forall_mem]
  intro u hu
  exact cells8_one l u (by simpa using hu)
theorem zeros256_length : zeros256.length = 256 := List.length_replicate

/-- a block's cells, stored into a block that was just laid -/
theorem store_block (l : List UInt8) (hl : l.length = 256) (w : World) : (storeCells ⟨w.heap.size, 0, none⟩ (cells8 l) 0).run Try.prog (w.alloc (.cells (cells8 zeros256).toArray 76)) = .ok () (w.alloc (.cells (cells8 l).toArray 76)) :=
  run_storeCells_new (P := Try.prog) w 76 (cells8 zeros256).toArray (cells8 l).toArray (block_cells l hl) (by rw [List.size_toArray, List.size_toArray, cells8_length, cells8_length, zeros256_length, hl]) (cells8_all l)

theorem shows_block (l : List UInt8) (hl : l.length = 256) (e : TypeId) (w : World) : Shows (w.alloc (.cells (cells8 l).toArray e)) (w.heap.size + 1) (some ⟨w.heap.size, 0, none⟩) 256 (cells8 l) := by
  have h := shows_new w (cells8 l).toArray e
  have e2 : (cells8 l).toArray.size = 256 := by rw [List.size_toArray, cells8_length, hl]
  rw [e2] at h
  exact h

theorem enc1_num (c : Int) (n d : Nat) (h : wid c = (d : Int)) (h0 : d ≠ 0) : enc1 c (.num n) = if n < 256 ^ d then some (low n d) else none := by
  have e : (wid c).toNat = d := by omega
  have e2 : wid c ≠ 0 := by omega
  simp only [enc1, e, e2, ne_eq, not_false_eq_true, true_and]

theorem wid_cases (c : Int) : wid c = 0 ∨ wid c = 1 ∨ wid c = 2 ∨ wid c = 4 ∨ wid c = 8 := by unfold wid; omega

end Go.Proofs.Ytpkbkliblbbdcaa
