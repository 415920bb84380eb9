/- Values as package wire takes them, and appendValue: what each comes to. What Pack comes to, in plain mathematics over lists of values; small facts on rows and iterators. Walks of appendValue of package wire, one for each kind of value. Walks of appendValue of package wire: yes or no, blobs, blocks, other values. The walk of Pack of package wire. -/
import Derived.Test.YtpkbkliblbbdcaaProg
import Derived.Test.YtpkbkliblbbdcaaWa
import Derived.WalkSpells
import Derived.WalkLawsBesides
import Derived.Lib.Hide
import Derived.Deep.WholeRow
import Derived.Lib.OthersKept
import Derived.WalkSmall
section
namespace Go.Proofs.Ytpkbkliblbbdcaa
open Go.RowKit
set_option maxRecDepth 20000

/-- a value that is packed, or was unpacked -/
inductive PV where
  | num (n : Nat)
  | flag (b : Bool)
  | blob (l : List UInt8)
  | block (l : List UInt8)
  | other

/-- the interface value v is p; a blob's bytes lie below block B -/
def IV (w : World) (B : Nat) (v : Value) : PV → Prop
  | .num n => v = .iface 23 (.int .u64 (n : Int)) ∧ n < 18446744073709551616
  | .flag b => v = .iface 4 (.bool b)
  | .blob l => ∃ A c, v = .iface 24 (.slice A l.length c) ∧ Shows w B A l.length (cells8 l) ∧ l.length ≤ c ∧ l.length ≤ 1073741824
  | .block l => v = .iface 76 (.agg (cells8 l).toArray) ∧ l.length = 256
  | .other => v = .nilIface ∨ ∃ n, v = .iface 3 (.int .i64 n)

/-- a value's bytes by a letter -/
def enc1 (c : Int) : PV → Option (List UInt8)
  | .num n => if wid c ≠ 0 ∧ n < 256 ^ (wid c).toNat then some (low n (wid c).toNat) else none
  | .flag b => if c = 63 then some [bit8 b] else none
  | .blob l => if c = 42 ∧ l.length ≤ 16777216 then some (low l.length 4 ++ l) else none
  | .block l => if c = 35 ∧ l.length = 256 then some l else none
  | .other => none

/-- what appendValue leaves -/
def Put (base : Nat) (v : Value) (k : Nat) (xs : List Value) (w : World) (r : Option (List UInt8)) (e : Ending) (w' : World) : Prop :=
  match r with
  | some l => ∃ v', e = .returned (.tuple #[v', .bool true]) ∧ w'.ownsRow base 5 1 v' (k + l.length) (xs ++ cells8 l) ∧ Grew w w' v v'
  | none => e = .returned (.tuple #[.slice none 0 0, .bool false]) ∧ Below w.heap.size w w'

/-- a block of noughts -/
def zeros256 : List UInt8 := List.replicate 256 0

/- a value of an interface, asked for a type: closed facts -/
theorem ask_u64_u64 (x : Value) (w : World) : (Instr.typeAssert (.iface 23 x) 20 23 true).run Try.prog w = .ok (.tuple #[x, .bool true]) w := by kernel_rfl
theorem ask_u64_bool (x : Value) (w : World) : (Instr.typeAssert (.iface 23 x) 20 4 true).run Try.prog w = .ok (.tuple #[.bool false, .bool false]) w := by kernel_rfl
theorem ask_u64_bytes (x : Value) (w : World) : (Instr.typeAssert (.iface 23 x) 20 24 true).run Try.prog w = .ok (.tuple #[.slice none 0 0, .bool false]) w := by kernel_rfl
theorem ask_u64_block (x : Value) (w : World) : (Instr.typeAssert (.iface 23 x) 20 76 true).run Try.prog w = .ok (.tuple #[.agg (cells8 zeros256).toArray, .bool false]) w := by kernel_rfl
theorem ask_bool_u64 (x : Value) (w : World) : (Instr.typeAssert (.iface 4 x) 20 23 true).run Try.prog w = .ok (.tuple #[.int .u64 0, .bool false]) w := by kernel_rfl
theorem ask_bool_bool (x : Value) (w : World) : (Instr.typeAssert (.iface 4 x) 20 4 true).run Try.prog w = .ok (.tuple #[x, .bool true]) w := by kernel_rfl
theorem ask_bool_bytes (x : Value) (w : World) : (Instr.typeAssert (.iface 4 x) 20 24 true).run Try.prog w = .ok (.tuple #[.slice none 0 0, .bool false]) w := by kernel_rfl
theorem ask_bool_block (x : Value) (w : World) : (Instr.typeAssert (.iface 4 x) 20 76 true).run Try.prog w = .ok (.tuple #[.agg (cells8 zeros256).toArray, .bool false]) w := by kernel_rfl
theorem ask_bytes_u64 (x : Value) (w : World) : (Instr.typeAssert (.iface 24 x) 20 23 true).run Try.prog w = .ok (.tuple #[.int .u64 0, .bool false]) w := by kernel_rfl
theorem ask_bytes_bool (x : Value) (w : World) : (Instr.typeAssert (.iface 24 x) 20 4 true).run Try.prog w = .ok (.tuple #[.bool false, .bool false]) w := by kernel_rfl
theorem ask_bytes_bytes (x : Value) (w : World) : (Instr.typeAssert (.iface 24 x) 20 24 true).run Try.prog w = .ok (.tuple #[x, .bool true]) w := by kernel_rfl
theorem ask_bytes_block (x : Value) (w : World) : (Instr.typeAssert (.iface 24 x) 20 76 true).run Try.prog w = .ok (.tuple #[.agg (cells8 zeros256).toArray, .bool false]) w := by kernel_rfl
theorem ask_block_u64 (x : Value) (w : World) : (Instr.typeAssert (.iface 76 x) 20 23 true).run Try.prog w = .ok (.tuple #[.int .u64 0, .bool false]) w := by kernel_rfl
theorem ask_block_bool (x : Value) (w : World) : (Instr.typeAssert (.iface 76 x) 20 4 true).run Try.prog w = .ok (.tuple #[.bool false, .bool false]) w := by kernel_rfl
theorem ask_block_bytes (x : Value) (w : World) : (Instr.typeAssert (.iface 76 x) 20 24 true).run Try.prog w = .ok (.tuple #[.slice none 0 0, .bool false]) w := by kernel_rfl
theorem ask_block_block (x : Value) (w : World) : (Instr.typeAssert (.iface 76 x) 20 76 true).run Try.prog w = .ok (.tuple #[x, .bool true]) w := by kernel_rfl
theorem ask_int_u64 (x : Value) (w : World) : (Instr.typeAssert (.iface 3 x) 20 23 true).run Try.prog w = .ok (.tuple #[.int .u64 0, .bool false]) w := by kernel_rfl
theorem ask_int_bool (x : Value) (w : World) : (Instr.typeAssert (.iface 3 x) 20 4 true).run Try.prog w = .ok (.tuple #[.bool false, .bool false]) w := by kernel_rfl
theorem ask_int_bytes (x : Value) (w : World) : (Instr.typeAssert (.iface 3 x) 20 24 true).run Try.prog w = .ok (.tuple #[.slice none 0 0, .bool false]) w := by kernel_rfl
theorem ask_int_block (x : Value) (w : World) : (Instr.typeAssert (.iface 3 x) 20 76 true).run Try.prog w = .ok (.tuple #[.agg (cells8 zeros256).toArray, .bool false]) w := by kernel_rfl
theorem ask_nil_u64 (w : World) : (Instr.typeAssert .nilIface 20 23 true).run Try.prog w = .ok (.tuple #[.int .u64 0, .bool false]) w := by kernel_rfl
theorem ask_nil_bool (w : World) : (Instr.typeAssert .nilIface 20 4 true).run Try.prog w = .ok (.tuple #[.bool false, .bool false]) w := by kernel_rfl
theorem ask_nil_bytes (w : World) : (Instr.typeAssert .nilIface 20 24 true).run Try.prog w = .ok (.tuple #[.slice none 0 0, .bool false]) w := by kernel_rfl
theorem ask_nil_block (w : World) : (Instr.typeAssert .nilIface 20 76 true).run Try.prog w = .ok (.tuple #[.agg (cells8 zeros256).toArray, .bool false]) w := by kernel_rfl

theorem zero_block (w : World) : (zeroValue 76).run Try.prog w = .ok (.agg (cells8 zeros256).toArray) w := by kernel_rfl
theorem block_size : (Try.prog.info? 76).map (·.size) = some 256 := by kernel_rfl
theorem block_cells (l : List UInt8) (h : l.length = 256) : (Try.prog.info? 76).map (·.size) = some (cells8 l).toArray.size := by
  rw [block_size, List.size_toArray, cells8_length, h]
theorem cells8_all (l : List UInt8) : (cells8 l).toArray.all (·.oneCell') = true := by
  rw [Array.all_eq_true_iff_forall_mem]
  intro u hu
  exact cells8_one l u (by simpa using hu)
theorem zeros256_length : zeros256.length = 256 := List.length_replicate

/-- a block's cells, stored into a block that was just laid -/
theorem store_block (l : List UInt8) (hl : l.length = 256) (w : World) : (storeCells ⟨w.heap.size, 0, none⟩ (cells8 l) 0).run Try.prog (w.alloc (.cells (cells8 zeros256).toArray 76)) = .ok () (w.alloc (.cells (cells8 l).toArray 76)) :=
  run_storeCells_new (P := Try.prog) w 76 (cells8 zeros256).toArray (cells8 l).toArray (block_cells l hl) (by rw [List.size_toArray, List.size_toArray, cells8_length, cells8_length, zeros256_length, hl]) (cells8_all l)

theorem shows_block (l : List UInt8) (hl : l.length = 256) (e : TypeId) (w : World) : Shows (w.alloc (.cells (cells8 l).toArray e)) (w.heap.size + 1) (some ⟨w.heap.size, 0, none⟩) 256 (cells8 l) := by
  have h := shows_new w (cells8 l).toArray e
  have e2 : (cells8 l).toArray.size = 256 := by rw [List.size_toArray, cells8_length, hl]
  rw [e2] at h
  exact h

theorem enc1_num (c : Int) (n d : Nat) (h : wid c = (d : Int)) (h0 : d ≠ 0) : enc1 c (.num n) = if n < 256 ^ d then some (low n d) else none := by
  have e : (wid c).toNat = d := by omega
  have e2 : wid c ≠ 0 := by omega
  simp only [enc1, e, e2, ne_eq, not_false_eq_true, true_and]

theorem wid_cases (c : Int) : wid c = 0 ∨ wid c = 1 ∨ wid c = 2 ∨ wid c = 4 ∨ wid c = 8 := by unfold wid; omega

end Go.Proofs.Ytpkbkliblbbdcaa
end

section
namespace Go.Proofs.Ytpkbkliblbbdcaa
open Go.RowKit
set_option maxRecDepth 20000

def packZ : List (UInt8 × PV) → Option (List UInt8)
  | [] => some []
  | (c, p) :: l => match enc1 (c.toNat : Int) p with
    | none => none
    | some a => (packZ l).map (a ++ ·)

theorem packZ_snoc (l : List (UInt8 × PV)) (c : UInt8) (p : PV) : packZ (l ++ [(c, p)]) = (packZ l).bind fun a => (enc1 (c.toNat : Int) p).map (a ++ ·) := by
  induction l with
  | nil => simp [packZ]; cases enc1 (c.toNat : Int) p <;> simp
  | cons x l ih =>
    obtain ⟨d, q⟩ := x
    simp only [List.cons_append, packZ]
    cases enc1 (d.toNat : Int) q with
    | none => simp
    | some a => rw [ih]; cases packZ l <;> simp; cases enc1 (c.toNat : Int) p <;> simp
theorem packZ_none (l r : List (UInt8 × PV)) (h : packZ l = none) : packZ (l ++ r) = none := by
  induction l with
  | nil => simp [packZ] at h
  | cons x l ih =>
    obtain ⟨d, q⟩ := x
    simp only [List.cons_append, packZ] at h ⊢
    cases he : enc1 (d.toNat : Int) q with
    | none => rfl
    | some a => rw [he] at h; simp only [Option.map_eq_none_iff] at h; simp [ih h]
theorem enc1_length {c : Int} {p : PV} {a : List UInt8} (h : enc1 c p = some a) : a.length ≤ 16777476 := by
  cases p with
  | num n =>
    have := wid_le c
    simp only [enc1] at h
    split at h
    · injection h with h; subst h; rw [low_length]; omega
    · cases h
  | flag b =>
    simp only [enc1] at h
    split at h
    · injection h with h; subst h; simp
    · cases h
  | blob l =>
    simp only [enc1] at h
    split at h
    · injection h with h; subst h; rw [List.length_append, low_length]; omega
    · cases h
  | block l =>
    simp only [enc1] at h
    split at h
    · injection h with h; subst h; omega
    · cases h
  | other => simp [enc1] at h
theorem packZ_length {l : List (UInt8 × PV)} {a : List UInt8} (h : packZ l = some a) : a.length ≤ 16777476 * l.length := by
  induction l generalizing a with
  | nil => simp [packZ] at h; subst h; simp
  | cons x l ih =>
    obtain ⟨d, q⟩ := x
    simp only [packZ] at h
    cases he : enc1 (d.toNat : Int) q with
    | none => rw [he] at h; cases h
    | some b =>
      rw [he] at h
      simp only [Option.map_eq_some_iff] at h
      obtain ⟨t, ht, rfl⟩ := h
      have := ih ht
      have := enc1_length he
      simp only [List.length_append, List.length_cons]
      omega

/-- what Pack answers: the bytes, or none: refused -/
def packR (s : List UInt8) (ps : List PV) : Option (List UInt8) := if mayS s = true ∧ ps.length = s.length then packZ (s.zip ps) else none

theorem zip_take {α β : Type} (s : List α) (ps : List β) (i : Nat) (h1 : i < s.length) (h2 : i < ps.length) : (s.zip ps).take (i + 1) = (s.zip ps).take i ++ [(s[i], ps[i])] := by
  rw [List.take_succ_eq_append_getElem (by simp; omega), List.getElem_zip]

/-- what Pack leaves -/
def Packed (w : World) (r : Option (List UInt8)) (e : Ending) (w' : World) : Prop :=
  match r with
  | some l => ∃ v, e = .returned (.tuple #[v, .int .i64 0]) ∧ w'.ownsRow w.heap.size 5 1 v l.length (cells8 l) ∧ Below w.heap.size w w'
  | none => e = .returned (.tuple #[.slice none 0 0, .int .i64 2]) ∧ Below w.heap.size w w'

theorem row_iter {w : World} {base n k : Nat} {e : TypeId} {v : Value} {xs : List Value} {s : ByteArray} {pos : Nat} (h : w.ownsRow base e 1 v n xs) (hk : w.heap[k]? = some (.stringIter s pos)) : v.ownBlock ≠ some k := by
  rcases h.2 with ⟨rfl, _⟩ | ⟨g, cap, cur, rfl, _, hh, _⟩
  · simp [Value.ownBlock]
  · intro he
    have : g = k := by simpa [Value.ownBlock] using he
    subst this
    rw [hh] at hk
    cases hk
theorem row_iterAt {w : World} {base n k : Nat} {e : TypeId} {v : Value} {xs : List Value} {s : ByteArray} {pos : Nat} (h : w.ownsRow base e 1 v n xs) (hk : w.heap[k]? = some (.stringIter s pos)) (q : Nat) : (w.iterAt k s q).ownsRow base e 1 v n xs := by
  have hne := row_iter h hk
  refine ⟨h.1, ?_⟩
  rcases h.2 with h2 | ⟨g, cap, cur, rfl, hg, hh, hr⟩
  · exact .inl h2
  · refine .inr ⟨g, cap, cur, rfl, hg, ?_, hr⟩
    rw [Lib.iterAt_other _ _ _ _ _ (fun e => hne (by simp [Value.ownBlock, e]))]
    exact hh
theorem grew_iter {w w' : World} {base n k : Nat} {e : TypeId} {v v' : Value} {xs : List Value} {s : ByteArray} {pos : Nat} (hg : Grew w w' v v') (h : w.ownsRow base e 1 v n xs) (hk : w.heap[k]? = some (.stringIter s pos)) : w'.heap[k]? = some (.stringIter s pos) := by
  rw [hg.by_.block k (Array.getElem?_eq_some_iff.1 hk).1 (fun e => row_iter h hk e.symm)]
  exact hk
theorem IV.below {w w' : World} {B : Nat} {v : Value} {p : PV} (h : IV w B v p) (hb : Below B w w') : IV w' B v p := by
  cases p with
  | blob l => obtain ⟨A, c, e, hs, hc⟩ := h; exact ⟨A, c, e, hs.below hb, hc⟩
  | num n => exact h
  | flag b => exact h
  | block l => exact h
  | other => exact h

theorem mayS_at (s : ByteArray) (pos : Nat) (h : pos < s.size) (hm : mayS (bs s) = true) : ¬ lst ((s[pos]'h).toNat : Int) = 0 := by
  intro h0
  have := mayS_stop (bs s) pos (by rw [bs_length]; exact h) (by rw [bs_get s pos h]; exact h0)
  rw [this] at hm
  cases hm
theorem packZ_at (s : ByteArray) (ps : List PV) (pos : Nat) (h1 : pos < s.size) (h2 : pos < ps.length) : ((bs s).zip ps).take (pos + 1) = ((bs s).zip ps).take pos ++ [(s[pos]'h1, ps[pos])] := by
  rw [zip_take (bs s) ps pos (by rw [bs_length]; exact h1) h2, bs_get s pos h1]
theorem packZ_go (s : ByteArray) (ps : List PV) (pos : Nat) (h1 : pos < s.size) (h2 : pos < ps.length) {acc a : List UInt8} (hp : packZ (((bs s).zip ps).take pos) = some acc) (he : enc1 ((s[pos]'h1).toNat : Int) ps[pos] = some a) :
    packZ (((bs s).zip ps).take (pos + 1)) = some (acc ++ a) := by
  rw [packZ_at s ps pos h1 h2, packZ_snoc, hp]
  simp [he]
theorem packZ_stop (s : ByteArray) (ps : List PV) (pos : Nat) (h1 : pos < s.size) (h2 : pos < ps.length) {acc : List UInt8} (hp : packZ (((bs s).zip ps).take pos) = some acc) (he : enc1 ((s[pos]'h1).toNat : Int) ps[pos] = none) :
    packZ ((bs s).zip ps) = none := by
  rw [← List.take_append_drop (pos + 1) ((bs s).zip ps)]
  apply packZ_none
  rw [packZ_at s ps pos h1 h2, packZ_snoc, hp]
  simp [he]
theorem packZ_bound (s : ByteArray) (ps : List PV) (pos : Nat) {acc : List UInt8} (hp : packZ (((bs s).zip ps).take pos) = some acc) (hs : pos ≤ 1000) : acc.length ≤ 16777476000 := by
  have h := packZ_length hp
  have : (((bs s).zip ps).take pos).length ≤ pos := List.length_take_le _ _
  omega
theorem packZ_all (s : ByteArray) (ps : List PV) {acc : List UInt8} (hp : packZ (((bs s).zip ps).take s.size) = some acc) : packZ ((bs s).zip ps) = some acc := by
  rw [List.take_of_length_le (by simp [bs_length]; omega)] at hp
  exact hp
theorem iterPos_at {w : World} {k : Nat} {s : ByteArray} {p : Nat} (h : w.heap[k]? = some (.stringIter s p)) : w.iterPos k = p := by simp [World.iterPos, h]

end Go.Proofs.Ytpkbkliblbbdcaa
end

section
namespace Go.Proofs.Ytpkbkliblbbdcaa
open Go.RowKit
set_option maxRecDepth 20000

set_option maxHeartbeats 1000000 in
theorem appendValue_num (base : Nat) (v : Value) (k : Nat) (xs : List Value) (c : Int) (n : Nat) (w : World) (hown : w.ownsRow base 5 1 v k xs) (hbase : base ≤ w.heap.size) (hn : n < 18446744073709551616) (hk : k ≤ 70368744177664) :
    Calls Try.prog 52 #[v, .int .i32 c, .iface 23 (.int .u64 (n : Int))] w (Put base v k xs w (enc1 c (.num n))) := by
  have h1 := ask_u64_u64 (.int .u64 (n : Int))
  rcases wid_cases c with h | h | h | h | h
  · have hE : enc1 c (.num n) = none := by simp [enc1, h]
    rw [hE]
    clear hE
    have H := Lib.hid h
    clear h
    go_enter Try.func52, Try.ntmps52
    go_wp2_with fail
    refine (widthOf_any _ _).mono ?_
    rintro e w' ⟨rfl, rfl⟩
    rw [H.out]
    go_wp2
    go_ret2
    exact ⟨rfl, Below.refl _ _⟩
  · have H := Lib.hid h
    clear h
    by_cases hf : n < 256
    · have hE : enc1 c (.num n) = some (low n 1) := by rw [enc1_num c n 1 H.out (by decide), if_pos (show n < 256 ^ 1 from hf)]
      rw [hE]
      clear hE
      go_enter Try.func52, Try.ntmps52
      go_wp2_with fail
      refine (widthOf_any _ _).mono ?_
      rintro e w' ⟨rfl, rfl⟩
      rw [H.out]
      go_wp2_with fail
      · refine (appendNumber_any base v k xs n 1 w hown hbase hn (by omega) hk).mono ?_
        rintro e w' ⟨v', rfl, ho, hg⟩
        go_wp2
        go_ret2
        exact ⟨v', rfl, by rw [low_length]; exact ho, hg⟩
    · have hE : enc1 c (.num n) = none := by rw [enc1_num c n 1 H.out (by decide), if_neg (show ¬ n < 256 ^ 1 from hf)]
      rw [hE]
      clear hE
      go_enter Try.func52, Try.ntmps52
      go_wp2_with fail
      refine (widthOf_any _ _).mono ?_
      rintro e w' ⟨rfl, rfl⟩
      rw [H.out]
      go_wp2_with fail
      · go_ret2
        exact ⟨rfl, Below.refl _ _⟩
  · have H := Lib.hid h
    clear h
    by_cases hf : n < 65536
    · have hE : enc1 c (.num n) = some (low n 2) := by rw [enc1_num c n 2 H.out (by decide), if_pos (show n < 256 ^ 2 from hf)]
      rw [hE]
      clear hE
      go_enter Try.func52, Try.ntmps52
      go_wp2_with fail
      refine (widthOf_any _ _).mono ?_
      rintro e w' ⟨rfl, rfl⟩
      rw [H.out]
      go_wp2_with fail
      · refine (appendNumber_any base v k xs n 2 w hown hbase hn (by omega) hk).mono ?_
        rintro e w' ⟨v', rfl, ho, hg⟩
        go_wp2
        go_ret2
        exact ⟨v', rfl, by rw [low_length]; exact ho, hg⟩
    · have hE : enc1 c (.num n) = none := by rw [enc1_num c n 2 H.out (by decide), if_neg (show ¬ n < 256 ^ 2 from hf)]
      rw [hE]
      clear hE
      go_enter Try.func52, Try.ntmps52
      go_wp2_with fail
      refine (widthOf_any _ _).mono ?_
      rintro e w' ⟨rfl, rfl⟩
      rw [H.out]
      go_wp2_with fail
      · go_ret2
        exact ⟨rfl, Below.refl _ _⟩
  · have H := Lib.hid h
    clear h
    by_cases hf : n < 4294967296
    · have hE : enc1 c (.num n) = some (low n 4) := by rw [enc1_num c n 4 H.out (by decide), if_pos (show n < 256 ^ 4 from hf)]
      rw [hE]
      clear hE
      go_enter Try.func52, Try.ntmps52
      go_wp2_with fail
      refine (widthOf_any _ _).mono ?_
      rintro e w' ⟨rfl, rfl⟩
      rw [H.out]
      go_wp2_with fail
      · refine (appendNumber_any base v k xs n 4 w hown hbase hn (by omega) hk).mono ?_
        rintro e w' ⟨v', rfl, ho, hg⟩
        go_wp2
        go_ret2
        exact ⟨v', rfl, by rw [low_length]; exact ho, hg⟩
    · have hE : enc1 c (.num n) = none := by rw [enc1_num c n 4 H.out (by decide), if_neg (show ¬ n < 256 ^ 4 from hf)]
      rw [hE]
      clear hE
      go_enter Try.func52, Try.ntmps52
      go_wp2_with fail
      refine (widthOf_any _ _).mono ?_
      rintro e w' ⟨rfl, rfl⟩
      rw [H.out]
      go_wp2_with fail
      · go_ret2
        exact ⟨rfl, Below.refl _ _⟩
  · have H := Lib.hid h
    clear h
    have hE : enc1 c (.num n) = some (low n 8) := by rw [enc1_num c n 8 H.out (by decide), if_pos (show n < 256 ^ 8 from hn)]
    rw [hE]
    clear hE
    go_enter Try.func52, Try.ntmps52
    go_wp2_with fail
    refine (widthOf_any _ _).mono ?_
    rintro e w' ⟨rfl, rfl⟩
    rw [H.out]
    go_wp2_with fail
    refine (appendNumber_any base v k xs n 8 w hown hbase hn (by omega) hk).mono ?_
    rintro e w' ⟨v', rfl, ho, hg⟩
    go_wp2
    go_ret2
    exact ⟨v', rfl, by rw [low_length]; exact ho, hg⟩

end Go.Proofs.Ytpkbkliblbbdcaa
end

section
namespace Go.Proofs.Ytpkbkliblbbdcaa
open Go.RowKit
set_option maxRecDepth 20000

set_option maxHeartbeats 1000000 in
theorem appendValue_flag (base : Nat) (v : Value) (k : Nat) (xs : List Value) (c : Int) (b : Bool) (w : World) (hown : w.ownsRow base 5 1 v k xs) (hbase : base ≤ w.heap.size) (hk : k ≤ 70368744177664) :
    Calls Try.prog 52 #[v, .int .i32 c, .iface 4 (.bool b)] w (Put base v k xs w (enc1 c (.flag b))) := by
  obtain ⟨i0, hi, hz0, hz1, hz2⟩ := info_parts u8_info
  have h1 := ask_bool_u64 (.bool b)
  have h2 := ask_bool_bool (.bool b)
  by_cases hc : c = 63
  · subst hc
    have hE : enc1 63 (.flag b) = some [bit8 b] := by simp [enc1]
    rw [hE]
    clear hE
    go_enter Try.func52, Try.ntmps52
    go_wp2_with fail
    refine (byteOf_any _ _).mono ?_
    rintro e w' ⟨rfl, rfl⟩
    go_wp2_with (at_builtin; refine wpList_append_shows _ rfl (.tmp 37) (.tmp 40) 24 rfl base 5 i0 (.int .u8 0) 1 Try.underlying24 hi hz0 hz1 hz2 rfl v _ _ rfl (hown.alloc _) (w.heap.size + 1) _ 1 1 (cells8 [bit8 b]) rfl (shows_new w _ _) (cells8_one _) (by unfold maxLen; omega) (by omega) (by simp; omega) ?_; intro v' w1 hown' hgrow)
    go_ret2
    exact ⟨v', rfl, hown', ((Grew.refl _ _).alloc _).trans hgrow⟩
  · have hE : enc1 c (.flag b) = none := by simp [enc1, hc]
    rw [hE]
    clear hE
    have hc1 : (c != 63) = true := by simpa using hc
    go_enter Try.func52, Try.ntmps52
    go_wp2_with fail
    go_ret2
    exact ⟨rfl, Below.refl _ _⟩

set_option maxHeartbeats 1000000 in
theorem appendValue_other (base : Nat) (v : Value) (k : Nat) (xs : List Value) (c : Int) (x : Value) (w : World) (hx : x = .nilIface ∨ ∃ n, x = .iface 3 (.int .i64 n)) :
    Calls Try.prog 52 #[v, .int .i32 c, x] w (Put base v k xs w (enc1 c .other)) := by
  have hE : enc1 c .other = none := rfl
  rw [hE]
  clear hE
  rcases hx with rfl | ⟨n, rfl⟩
  · have h1 := ask_nil_u64
    have h2 := ask_nil_bool
    have h3 := ask_nil_bytes
    have h4 := ask_nil_block
    go_enter Try.func52, Try.ntmps52
    go_wp2_with fail
    go_ret2
    exact ⟨rfl, Below.refl _ _⟩
  · have h1 := ask_int_u64 (.int .i64 n)
    have h2 := ask_int_bool (.int .i64 n)
    have h3 := ask_int_bytes (.int .i64 n)
    have h4 := ask_int_block (.int .i64 n)
    go_enter Try.func52, Try.ntmps52
    go_wp2_with fail
    go_ret2
    exact ⟨rfl, Below.refl _ _⟩

set_option maxHeartbeats 1000000 in
theorem appendValue_blob (base : Nat) (v : Value) (k : Nat) (xs : List Value) (c : Int) (A : Option Addr) (l : List UInt8) (cap : Nat) (w : World) (hown : w.ownsRow base 5 1 v k xs) (hbase : base ≤ w.heap.size) (hk : k ≤ 70368744177664)
    (hs : Shows w base A l.length (cells8 l)) (hl : l.length ≤ 70368744177664) :
    Calls Try.prog 52 #[v, .int .i32 c, .iface 24 (.slice A l.length cap)] w (Put base v k xs w (enc1 c (.blob l))) := by
  obtain ⟨i0, hi, hz0, hz1, hz2⟩ := info_parts u8_info
  have h1 := ask_bytes_u64 (.slice A l.length cap)
  have h2 := ask_bytes_bool (.slice A l.length cap)
  have h3 := ask_bytes_bytes (.slice A l.length cap)
  by_cases hc : c = 42
  · subst hc
    by_cases hm : l.length ≤ 16777216
    · have hE : enc1 42 (.blob l) = some (low l.length 4 ++ l) := by simp [enc1, hm]
      rw [hE]
      clear hE
      go_enter Try.func52, Try.ntmps52
      go_wp2_with fail
      refine (appendNumber_any base v k xs l.length 4 w hown hbase (by omega) (by omega) hk).mono ?_
      rintro e w' ⟨v', rfl, ho, hg⟩
      have hs1 : Shows w' base A l.length (cells8 l) := hs.below (hg.below hown (Nat.le_refl _) hbase)
      have hb1 : base ≤ w'.heap.size := Nat.le_trans hbase hg.by_.size
      go_wp2_with (at_builtin; refine wpList_append_shows _ rfl (.tmp 56) (.tmp 57) 24 rfl base 5 i0 (.int .u8 0) 1 Try.underlying24 hi hz0 hz1 hz2 rfl v' _ _ rfl ho base A l.length cap (cells8 l) rfl hs1 (cells8_one _) (by unfold maxLen; omega) (by omega) hb1 ?_; intro v2 w2 hown2 hgrow2)
      go_ret2
      exact ⟨v2, rfl, by rw [cells8_append, ← List.append_assoc, List.length_append, low_length, ← Nat.add_assoc]; exact hown2, hg.trans hgrow2⟩
    · have hE : enc1 42 (.blob l) = none := by simp [enc1, hm]
      rw [hE]
      clear hE
      go_enter Try.func52, Try.ntmps52
      go_wp2_with fail
      go_ret2
      exact ⟨rfl, Below.refl _ _⟩
  · have hE : enc1 c (.blob l) = none := by simp [enc1, hc]
    rw [hE]
    clear hE
    have hc1 : (c != 42) = true := by simpa using hc
    go_enter Try.func52, Try.ntmps52
    go_wp2_with fail
    go_ret2
    exact ⟨rfl, Below.refl _ _⟩

set_option maxHeartbeats 1000000 in
theorem appendValue_block (base : Nat) (v : Value) (k : Nat) (xs : List Value) (c : Int) (l : List UInt8) (w : World) (hown : w.ownsRow base 5 1 v k xs) (hbase : base ≤ w.heap.size) (hk : k ≤ 70368744177664) (hl : l.length = 256) :
    Calls Try.prog 52 #[v, .int .i32 c, .iface 76 (.agg (cells8 l).toArray)] w (Put base v k xs w (enc1 c (.block l))) := by
  obtain ⟨i0, hi, hz0, hz1, hz2⟩ := info_parts u8_info
  have h1 := ask_block_u64 (.agg (cells8 l).toArray)
  have h2 := ask_block_bool (.agg (cells8 l).toArray)
  have h3 := ask_block_bytes (.agg (cells8 l).toArray)
  have h4 := ask_block_block (.agg (cells8 l).toArray)
  have HL := Lib.hid hl
  clear hl
  have hzv := zero_block
  by_cases hc : c = 35
  · subst hc
    have hE : enc1 35 (.block l) = some l := by simp [enc1, HL.out]
    rw [hE]
    clear hE
    go_enter Try.func52, Try.ntmps52
    have hst := store_block l HL.out
    have hcl : (cells8 l).length = 256 := by rw [cells8_length, HL.out]
    have hsn := shows_block l HL.out 76 w
    go_wp2_with (at_builtin; refine wpList_append_shows _ rfl (.tmp 64) (.tmp 65) 24 rfl base 5 i0 (.int .u8 0) 1 Try.underlying24 hi hz0 hz1 hz2 rfl v k xs rfl (hown.alloc _) (w.heap.size + 1) _ 256 256 (cells8 l) rfl hsn (cells8_one _) (by unfold maxLen; omega) (by omega) (by simp; omega) ?_; intro v' w1 hown' hgrow)
    go_ret2
    exact ⟨v', rfl, by rw [HL.out]; exact hown', ((Grew.refl _ _).alloc _).trans hgrow⟩
  · have hE : enc1 c (.block l) = none := by simp [enc1, hc]
    rw [hE]
    clear hE
    have hc1 : (c != 35) = true := by simpa using hc
    have hst := store_block l HL.out
    have hcl : (cells8 l).length = 256 := by rw [cells8_length, HL.out]
    go_enter Try.func52, Try.ntmps52
    go_wp2_with fail
    go_ret2
    exact ⟨rfl, (Below.refl _ _).alloc (Nat.le_refl _) _⟩

/-- appendValue, whatever value it is handed -/
theorem appendValue_any (base : Nat) (v : Value) (k : Nat) (xs : List Value) (c : Int) (x : Value) (p : PV) (w : World) (hown : w.ownsRow base 5 1 v k xs) (hbase : base ≤ w.heap.size) (hk : k ≤ 70368744177664) (hx : IV w base x p) :
    Calls Try.prog 52 #[v, .int .i32 c, x] w (Put base v k xs w (enc1 c p)) := by
  cases p with
  | num n => obtain ⟨rfl, hn⟩ := hx; exact appendValue_num base v k xs c n w hown hbase hn hk
  | flag b => obtain rfl := hx; exact appendValue_flag base v k xs c b w hown hbase hk
  | blob l => obtain ⟨A, cap, rfl, hs, _, hl⟩ := hx; exact appendValue_blob base v k xs c A l cap w hown hbase hk hs (by omega)
  | block l => obtain ⟨rfl, hl⟩ := hx; exact appendValue_block base v k xs c l w hown hbase hk hl
  | other => exact appendValue_other base v k xs c x w hx

end Go.Proofs.Ytpkbkliblbbdcaa
end

section
namespace Go.Proofs.Ytpkbkliblbbdcaa
open Go.RowKit
set_option maxRecDepth 20000

set_option maxHeartbeats 2000000 in
theorem pack_any (s : ByteArray) (A : Option Addr) (n c : Nat) (vs : List Value) (ps : List PV) (w : World) (hs : s.size ≤ 1000) (hn : n ≤ 1000000)
    (hvs : Shows w w.heap.size A n vs) (hps : ps.length = n) (hiv : ∀ i (h : i < ps.length), ∃ v, vs[i]? = some v ∧ IV w w.heap.size v ps[i]) :
    Calls Try.prog 33 #[.string s, .slice A n c] w (Packed w (packR (bs s) ps)) := by
  obtain ⟨i0, hi, hz0, hz1, hz2⟩ := info_parts u8_info
  cases hm : mayS (bs s) with
  | false =>
    have hE : packR (bs s) ps = none := by simp [packR, hm]
    rw [hE]
    have HM := Lib.hid hm
    clear hm hE
    go_enter Try.func33, Try.ntmps33
    go_wp2_with fail
    refine (may_any s w).mono ?_
    rintro e w1 ⟨rfl, hb1⟩
    rw [HM.out]
    go_wp2_with fail
    go_ret2
    exact ⟨rfl, hb1⟩
  | true =>
    have HM := Lib.hid hm
    clear hm
    by_cases hns : n = s.size
    · subst hns
      have hE : packR (bs s) ps = packZ ((bs s).zip ps) := by rw [packR, if_pos ⟨HM.out, by rw [hps, bs_length]⟩]
      rw [hE]
      have HP := Lib.hid hps
      clear hE hps
      go_enter Try.func33, Try.ntmps33
      go_wp2_with fail
      refine (may_any s w).mono ?_
      rintro e w1 ⟨rfl, hb1⟩
      rw [HM.out]
      go_wp2_with fail
      refine (least_any s w1 (by omega)).mono ?_
      rintro e w2 ⟨rfl, hb2⟩
      have hlm : leastM (bs s) ≤ 256000 := by
        have := leastS_le (bs s)
        rw [bs_length] at this
        unfold leastM
        split <;> omega
      have hb12 : Below w.heap.size w w2 := hb1.trans (hb2.mono hb1.size)
      go_wp2_with (at_make; refine wpList_make_own _ rfl _ _ 24 rfl w.heap.size 5 i0 _ 1 Try.underlying24 hi hz0 hz1 _ _ _ (leastM (bs s)) rfl rfl rfl (by rw [hz2]; omega) (by unfold maxLen; omega) hb12.size ?_; intro w3 hown3 hg3)
      have hb3 : Below w.heap.size w w3 := hb12.grown hg3 hb12.size (by simp)
      have hown4 : (w3.iter s 0).ownsRow w.heap.size 5 1 (.slice (some ⟨w2.heap.size, 0, none⟩) 0 (leastM (bs s))) 0 [] := hown3.alloc _
      have hb4 : Below w.heap.size w (w3.iter s 0) := hb3.alloc hb3.size _
      have hit := World.iter_heap w3 s 0
      have hK : w.heap.size ≤ w3.heap.size := hb3.size
      clear hg3 hown3 hb3 hb12 hb1 hb2
      generalize w3.heap.size = K at *
      generalize w3.iter s 0 = w4 at *
      generalize (Value.slice (some ⟨w2.heap.size, 0, none⟩) 0 (leastM (bs s))) = v0 at *
      go_loopw [6] (fun v wr => ∃ (pos : Nat) (acc : List UInt8), pos ≤ s.size ∧ wr.heap[K]? = some (.stringIter s pos) ∧ wr.ownsRow w.heap.size 5 1 v acc.length (cells8 acc) ∧ Below w.heap.size w wr ∧ Hid (packZ (((bs s).zip ps).take pos) = some acc)) (fun _ wr => s.size - wr.iterPos K)
      case atStart => exact ⟨0, [], Nat.zero_le _, hit, hown4, hb4, rfl⟩
      case round =>
        obtain ⟨pos, acc, hp, hitr, hown, hbr, HA⟩ := hrel
        have hpos0 := iterPos_at hitr
        have HP0 := Lib.hid hpos0
        clear hpos0 hit hown4 hb4
        by_cases hlt : pos < s.size
        · have hpl : pos < ps.length := by rw [HP.out]; exact hlt
          have hnx : ∀ ty, (Instr.next (.pointer (some ⟨K, 0, none⟩)) true ty).run Try.prog wr = _ := fun ty => Lib.run_next_any_at wr K s pos ty hitr hlt
          have hd := rune_of s pos hlt (mayS_at s pos hlt HM.out)
          simp only [hd] at hnx
          clear hd
          have hit2 := Lib.iterAt_heap wr K s pos (pos + 1) hitr
          have hbr2 := Lib.below_iterAt hbr (k := K) hK s (pos + 1)
          have hown2 := row_iterAt hown hitr (pos + 1)
          have hacc := packZ_bound s ps pos HA.out (by omega)
          generalize wr.iterAt K s (pos + 1) = W1 at *
          obtain ⟨u, hu, hiu⟩ := hiv pos hpl
          have hiu2 := hiu.below hbr2
          obtain ⟨p, u', rfl, hpb, hu', hcell⟩ := (hvs.below hbr2).cell hlt
          have hcell2 : W1.cell? (p.add pos) = some u := by rw [hcell, ← hu', hu]
          have HIV := Lib.hid hiu2
          clear hitr hown hbr hu hiu hu' hcell hiu2 hiv
          cases he : enc1 ((s[pos]'hlt).toNat : Int) ps[pos] with
          | none =>
            have HE := Lib.hid he
            clear he
            go_wp2_with fail
            refine (appendValue_any w.heap.size _ acc.length (cells8 acc) _ u ps[pos] W1 hown2 hbr2.size (by omega) HIV.out).mono ?_
            rw [HE.out]
            rintro e w5 ⟨rfl, hb5⟩
            go_wp2_with fail
            go_ret2
            rw [packZ_stop s ps pos hlt hpl HA.out HE.out]
            exact ⟨rfl, hbr2.trans (hb5.mono hbr2.size)⟩
          | some a =>
            have HE := Lib.hid he
            clear he
            go_wp2_with fail
            refine (appendValue_any w.heap.size _ acc.length (cells8 acc) _ u ps[pos] W1 hown2 hbr2.size (by omega) HIV.out).mono ?_
            rw [HE.out]
            rintro e w5 ⟨v5, rfl, hown5, hg5⟩
            have hit5 := grew_iter hg5 hown2 hit2
            have hb5 : Below w.heap.size w w5 := hbr2.trans (hg5.below hown2 (Nat.le_refl _) hbr2.size)
            rw [← cells8_append, ← List.length_append] at hown5
            clear hg5 hown2 hit2 hbr2 hnx hcell2
            go_wp2_with fail
            go_roundw
            case rel => exact ⟨pos + 1, acc ++ a, hlt, hit5, hown5, hb5, packZ_go s ps pos hlt hpl HA.out HE.out⟩
            case measure => rw [iterPos_at hit5, HP0.out]; omega
        · have hnx : ∀ ty, (Instr.next (.pointer (some ⟨K, 0, none⟩)) true ty).run Try.prog wr = _ := fun ty => Lib.run_next_end_at wr K s pos ty hitr hlt
          obtain rfl : pos = s.size := by omega
          go_wp2_with fail
          go_ret2
          rw [packZ_all s ps HA.out]
          exact ⟨_, rfl, hown, hbr⟩
    · have hE : packR (bs s) ps = none := by rw [packR, if_neg]; rintro ⟨_, h⟩; rw [hps, bs_length] at h; exact hns h
      rw [hE]
      clear hE hps
      have hd : ((n : Int) != (s.size : Int)) = true := by simpa using (by omega : ¬ (n : Int) = (s.size : Int))
      go_enter Try.func33, Try.ntmps33
      go_wp2_with fail
      refine (may_any s w).mono ?_
      rintro e w1 ⟨rfl, hb1⟩
      rw [HM.out]
      go_wp2_with fail
      go_ret2
      exact ⟨rfl, hb1⟩

end Go.Proofs.Ytpkbkliblbbdcaa
end
