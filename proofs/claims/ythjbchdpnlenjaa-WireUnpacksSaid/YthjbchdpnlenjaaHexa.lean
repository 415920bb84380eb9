/- Walks of the texts of bytes: hexDigit and digit, Unhex of the program and of the document. -/
import Derived.Test.YthjbchdpnlenjaaKnown
import Derived.Deep.QuietTactic
import Derived.BigQuiet
import Derived.Laws.BitsAllLaws
namespace Go.Proofs.Ythjbchdpnlenjaa
open Go.RowKit

/-- a letter of hex; 16: it is none -/
def hexV (c : Int) : Int := if 48 ≤ c ∧ c ≤ 57 then c - 48 else if 97 ≤ c ∧ c ≤ 102 then c - 87 else 16
theorem hexV_bounds (c : Int) : 0 ≤ hexV c ∧ hexV c ≤ 16 := by unfold hexV; split <;> (try split) <;> omega

theorem hexV_cases (c : Int) : (48 ≤ c ∧ c ≤ 57 ∧ hexV c = c - 48) ∨ (97 ≤ c ∧ c ≤ 102 ∧ hexV c = c - 87) ∨ (hexV c = 16 ∧ (c < 48 ∨ (57 < c ∧ c < 97) ∨ 102 < c)) := by
  unfold hexV
  by_cases h1 : 48 ≤ c ∧ c ≤ 57
  · rw [if_pos h1]; exact .inl ⟨h1.1, h1.2, rfl⟩
  · rw [if_neg h1]
    by_cases h2 : 97 ≤ c ∧ c ≤ 102
    · rw [if_pos h2]; exact .inr (.inl ⟨h2.1, h2.2, rfl⟩)
    · rw [if_neg h2]; exact .inr (.inr ⟨rfl, by omega⟩)
theorem ret_pair {k : IntKind} {a b : Int} {x : Bool} (h : a = b) : Ending.returned (.tuple #[.int k a, .bool x]) = .returned (.tuple #[.int k b, .bool x]) := by rw [h]

set_option maxHeartbeats 800000 in
theorem hexDigit_yes (c : Int) (w : World) (h0 : 0 ≤ c) (h1 : c ≤ 255) (h : hexV c < 16) :
    Calls Try.prog 42 #[.int .u8 c] w fun e w' => e = .returned (.tuple #[.int .u8 (hexV c), .bool true]) ∧ w = w' := by
  rcases hexV_cases c with ⟨a, b, e⟩ | ⟨a, b, e⟩ | ⟨e, _⟩
  · rw [e]
    clear e h
    go_enter Try.func42, Try.ntmps42
    go_wp2
    go_ret2
    exact ⟨rfl, rfl⟩
  · rw [e]
    clear e h
    have hd : decide (c ≤ 57) = false := by simp; omega
    go_enter Try.func42, Try.ntmps42
    go_wp2
    go_ret2
    exact ⟨ret_pair (by omega), rfl⟩
  · omega
set_option maxHeartbeats 800000 in
theorem hexDigit_no (c : Int) (w : World) (h0 : 0 ≤ c) (h1 : c ≤ 255) (h : ¬ hexV c < 16) :
    Calls Try.prog 42 #[.int .u8 c] w fun e w' => e = .returned (.tuple #[.int .u8 0, .bool false]) ∧ w = w' := by
  rcases hexV_cases c with ⟨a, b, e⟩ | ⟨a, b, e⟩ | ⟨e, hc⟩
  · omega
  · omega
  · clear e h
    rcases hc with hc | ⟨ha, hb⟩ | hc
    · go_enter Try.func42, Try.ntmps42
      go_wp2
      go_ret2
      exact ⟨rfl, rfl⟩
    · have hd : decide (c ≤ 57) = false := by simp; omega
      go_enter Try.func42, Try.ntmps42
      go_wp2
      go_ret2
      exact ⟨rfl, rfl⟩
    · have hd : decide (c ≤ 57) = false := by simp; omega
      have hd2 : decide (c ≤ 102) = false := by simp; omega
      go_enter Try.func42, Try.ntmps42
      go_wp2
      go_ret2
      exact ⟨rfl, rfl⟩
set_option maxHeartbeats 800000 in
theorem digit_any (c : Int) (w : World) (h0 : 0 ≤ c) (h1 : c ≤ 255) :
    Calls Try.prog 43 #[.int .u8 c] w fun e w' => e = .returned (.int .i64 (hexV c)) ∧ w' = w := by
  rcases hexV_cases c with ⟨a, b, e⟩ | ⟨a, b, e⟩ | ⟨e, hc⟩
  · rw [e]
    clear e
    go_enter Try.func43, Try.ntmps43
    go_wp2
    go_ret
    exact ⟨rfl, rfl⟩
  · rw [e]
    clear e
    have hd : decide (c ≤ 57) = false := by simp; omega
    go_enter Try.func43, Try.ntmps43
    go_wp2
    go_ret
    exact ⟨ret_int (by omega), rfl⟩
  · rw [e]
    clear e
    rcases hc with hc | ⟨ha, hb⟩ | hc
    · go_enter Try.func43, Try.ntmps43
      go_wp2
      go_ret
      exact ⟨rfl, rfl⟩
    · have hd : decide (c ≤ 57) = false := by simp; omega
      go_enter Try.func43, Try.ntmps43
      go_wp2
      go_ret
      exact ⟨rfl, rfl⟩
    · have hd : decide (c ≤ 57) = false := by simp; omega
      have hd2 : decide (c ≤ 102) = false := by simp; omega
      go_enter Try.func43, Try.ntmps43
      go_wp2
      go_ret
      exact ⟨rfl, rfl⟩

/-- the letters of the j-th byte: both are some; the byte -/
def okP (s : ByteArray) (j : Nat) : Bool := decide (hexV (((bs s).getD (2 * j) 0).toNat : Int) < 16) && decide (hexV (((bs s).getD (2 * j + 1) 0).toNat : Int) < 16)
def byP (s : ByteArray) (j : Nat) : UInt8 := UInt8.ofNat (16 * hexV (((bs s).getD (2 * j) 0).toNat : Int) + hexV (((bs s).getD (2 * j + 1) 0).toNat : Int)).toNat
def unhexR (s : ByteArray) : Option (List UInt8) := if s.size % 2 = 0 ∧ (List.range (s.size / 2)).all (okP s) = true then some ((List.range (s.size / 2)).map (byP s)) else none
/-- what Unhex leaves -/
def Unhexed (w : World) (r : Option (List UInt8)) (e : Ending) (w' : World) : Prop :=
  Below w.heap.size w w' ∧ match r with
  | some l => ∃ v, e = .returned (.tuple #[v, .bool true]) ∧ w'.ownsRow w.heap.size 5 1 v l.length (cells8 l)
  | none => e = .returned (.tuple #[.slice none 0 0, .bool false])
theorem bs_getD (s : ByteArray) (i : Nat) (h : i < s.size) : (bs s).getD i 0 = s[i]'h := by
  rw [List.getD_eq_getElem?_getD, List.getElem?_eq_getElem (by rw [bs_length]; exact h), Option.getD_some, bs_get s i h]

end Go.Proofs.Ythjbchdpnlenjaa
