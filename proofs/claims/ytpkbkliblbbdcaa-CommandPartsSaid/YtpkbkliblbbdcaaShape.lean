/- Walks of May and Least of package wire: a shape is gone over rune by rune. -/
import Derived.Test.YtpkbkliblbbdcaaProg
import Derived.Test.YtpkbkliblbbdcaaSpec
import Derived.Test.YtpkbkliblbbdcaaMem
import Derived.Test.YtpkbkliblbbdcaaLeaf
import Derived.Laws.RangeAny
import Derived.Lib.Hide
namespace Go.Proofs.Ytpkbkliblbbdcaa
open Go.RowKit
set_option maxRecDepth 20000

/-- a text's bytes -/
def bs (s : ByteArray) : List UInt8 := s.data.toList
theorem bs_length (s : ByteArray) : (bs s).length = s.size := by simp only [bs, Array.length_toList]; rfl
theorem bs_get (s : ByteArray) (i : Nat) (h : i < s.size) : (bs s)[i]'(by rw [bs_length]; exact h) = s[i]'h := by simp only [bs, Array.getElem_toList]; rfl
theorem bs_take (s : ByteArray) (i : Nat) (h : i < s.size) : (bs s).take (i + 1) = (bs s).take i ++ [s[i]'h] := by
  rw [List.take_succ_eq_append_getElem (by rw [bs_length]; exact h), bs_get s i h]
theorem bs_all (s : ByteArray) : (bs s).take s.size = bs s := by rw [← bs_length, List.take_length]

def letter (b : UInt8) : Bool := !(lst (b.toNat : Int) == 0)
def mayS (l : List UInt8) : Bool := l.all letter
def leastS : List UInt8 → Nat
  | [] => 0
  | b :: l => (lst (b.toNat : Int)).toNat + leastS l
theorem leastS_snoc (l : List UInt8) (b : UInt8) : leastS (l ++ [b]) = leastS l + (lst (b.toNat : Int)).toNat := by
  induction l with
  | nil => simp [leastS]
  | cons a l ih => simp [leastS, ih]; omega
theorem leastS_le (l : List UInt8) : leastS l ≤ 256 * l.length := by
  induction l with
  | nil => simp [leastS]
  | cons a l ih => have := lst_le (a.toNat : Int); simp only [leastS, List.length_cons]; omega
theorem mayS_stop (l : List UInt8) (i : Nat) (h : i < l.length) (hb : lst ((l[i]'h).toNat : Int) = 0) : mayS l = false := by
  unfold mayS
  rw [List.all_eq_false]
  exact ⟨l[i], List.getElem_mem h, by simp [letter, hb]⟩
theorem mayS_step (s : ByteArray) (i : Nat) (h : i < s.size) (hm : mayS ((bs s).take i) = true) (hb : ¬ lst ((s[i]'h).toNat : Int) = 0) : mayS ((bs s).take (i + 1)) = true := by
  unfold mayS at *
  rw [bs_take s i h, List.all_append, hm]
  simp [letter, hb]

theorem lst_high (c : Int) (h : 128 ≤ c) : lst c = 0 := by unfold lst wid; omega
theorem rune_lst (s : ByteArray) (pos : Nat) (h : pos < s.size) : lst ((Utf8.decode s pos).1 : Int) = lst ((s[pos]'h).toNat : Int) := by
  by_cases ha : (s[pos]'h).toNat < 128
  · rw [decode_ascii s pos h ha]
  · have := (decode_high s pos h (by omega)).1
    rw [lst_high _ (by omega), lst_high _ (by omega)]
theorem rune_of (s : ByteArray) (pos : Nat) (h : pos < s.size) (hb : ¬ lst ((s[pos]'h).toNat : Int) = 0) : Utf8.decode s pos = ((s[pos]'h).toNat, 1) := by
  refine decode_ascii s pos h ?_
  rcases Nat.lt_or_ge (s[pos]'h).toNat 128 with h1 | h1
  · exact h1
  · exact absurd (lst_high _ (by omega)) hb

set_option maxHeartbeats 1000000 in
theorem may_any (s : ByteArray) (w : World) :
    Calls Try.prog 50 #[.string s] w fun e w' => e = .returned (.bool (mayS (bs s))) ∧ Below w.heap.size w w' := by
  go_enter Try.func50, Try.ntmps50
  go_wp2
  go_loopw [4] (fun _ wr => ∃ pos : Nat, pos ≤ s.size ∧ wr = w.iter s pos ∧ Hid (mayS ((bs s).take pos) = true)) (fun _ wr => s.size - wr.iterPos w.heap.size)
  case atStart => exact ⟨0, Nat.zero_le _, rfl, rfl⟩
  case round =>
    obtain ⟨pos, hp, rfl, HM⟩ := hrel
    by_cases hlt : pos < s.size
    · have hr := rune_lst s pos hlt
      by_cases hz : lst ((s[pos]'hlt).toNat : Int) = 0
      · have hnx : ∀ ty, (Instr.next (.pointer (some ⟨w.heap.size, 0, none⟩)) true ty).run Try.prog (w.iter s pos) = _ := fun ty => run_next_any w s pos ty hlt
        rw [hz] at hr
        have hfin : mayS (bs s) = false := mayS_stop (bs s) pos (by rw [bs_length]; exact hlt) (by rw [bs_get s pos hlt]; exact hz)
        have HF := Lib.hid hfin
        have HR := Lib.hid hr
        clear hfin hr hz
        go_wp2_with fail
        refine (leastOf_any _ _).mono ?_
        rintro e w' ⟨rfl, rfl⟩
        rw [HR.out]
        go_wp2
        go_ret
        exact ⟨by rw [HF.out]; rfl, (Below.refl _ _).alloc (Nat.le_refl _) _⟩
      · have hd := rune_of s pos hlt hz
        have hnx : ∀ ty, (Instr.next (.pointer (some ⟨w.heap.size, 0, none⟩)) true ty).run Try.prog (w.iter s pos) = _ := fun ty => run_next_any w s pos ty hlt
        simp only [hd] at hnx
        have HM2 := Lib.hid (mayS_step s pos hlt HM.out hz)
        have hz0 : (lst ((s[pos]'hlt).toNat : Int) == 0) = false := by simpa using hz
        clear hd hr hz HM
        go_wp2_with fail
        refine (leastOf_any _ _).mono ?_
        rintro e w' ⟨rfl, rfl⟩
        go_wp2
        go_roundw
        case rel => exact ⟨pos + 1, hlt, rfl, HM2⟩
        case measure => simp; omega
    · have hnx : ∀ ty, (Instr.next (.pointer (some ⟨w.heap.size, 0, none⟩)) true ty).run Try.prog (w.iter s pos) = _ := fun ty => run_next_end w s pos ty hlt
      obtain rfl : pos = s.size := by omega
      have HM2 := Lib.hid (show mayS (bs s) = true by rw [← bs_all]; exact HM.out)
      clear HM
      go_wp2
      go_ret
      exact ⟨by rw [HM2.out]; rfl, (Below.refl _ _).alloc (Nat.le_refl _) _⟩

theorem leastS_step (s : ByteArray) (i : Nat) (h : i < s.size) : (leastS ((bs s).take (i + 1)) : Int) = leastS ((bs s).take i) + lst ((s[i]'h).toNat : Int) := by
  have := lst_le ((s[i]'h).toNat : Int)
  rw [bs_take s i h, leastS_snoc]
  omega
theorem leastS_bound (s : ByteArray) (i : Nat) (h : i ≤ s.size) : leastS ((bs s).take i) ≤ 256 * i := by
  have := leastS_le ((bs s).take i)
  rw [List.length_take, bs_length, Nat.min_eq_left h] at this
  exact this

/-- how many bytes a shape takes at least; 0: it may not be -/
def leastM (l : List UInt8) : Nat := if mayS l then leastS l else 0

set_option maxHeartbeats 1000000 in
theorem least_any (s : ByteArray) (w : World) (hs : s.size ≤ 1000000) :
    Calls Try.prog 51 #[.string s] w fun e w' => e = .returned (.int .i64 (leastM (bs s) : Int)) ∧ Below w.heap.size w w' := by
  go_enter Try.func51, Try.ntmps51
  go_wp2
  go_loopw [3] (fun v wr => ∃ pos : Nat, pos ≤ s.size ∧ v = .int .i64 (leastS ((bs s).take pos) : Int) ∧ wr = w.iter s pos ∧ Hid (mayS ((bs s).take pos) = true)) (fun _ wr => s.size - wr.iterPos w.heap.size)
  case atStart => exact ⟨0, Nat.zero_le _, rfl, rfl, rfl⟩
  case round =>
    obtain ⟨pos, hp, rfl, rfl, HM⟩ := hrel
    by_cases hlt : pos < s.size
    · have hr := rune_lst s pos hlt
      by_cases hz : lst ((s[pos]'hlt).toNat : Int) = 0
      · have hnx : ∀ ty, (Instr.next (.pointer (some ⟨w.heap.size, 0, none⟩)) true ty).run Try.prog (w.iter s pos) = _ := fun ty => run_next_any w s pos ty hlt
        rw [hz] at hr
        have hfin : leastM (bs s) = 0 := by unfold leastM; rw [mayS_stop (bs s) pos (by rw [bs_length]; exact hlt) (by rw [bs_get s pos hlt]; exact hz)]; rfl
        have HF := Lib.hid hfin
        have HR := Lib.hid hr
        clear hfin hr hz
        go_wp2_with fail
        refine (leastOf_any _ _).mono ?_
        rintro e w' ⟨rfl, rfl⟩
        rw [HR.out]
        go_wp2
        go_ret
        exact ⟨by rw [HF.out]; rfl, (Below.refl _ _).alloc (Nat.le_refl _) _⟩
      · have hd := rune_of s pos hlt hz
        have hnx : ∀ ty, (Instr.next (.pointer (some ⟨w.heap.size, 0, none⟩)) true ty).run Try.prog (w.iter s pos) = _ := fun ty => run_next_any w s pos ty hlt
        simp only [hd] at hnx
        have HM2 := Lib.hid (mayS_step s pos hlt HM.out hz)
        have HL2 := Lib.hid (leastS_step s pos hlt)
        have hb := leastS_bound s pos hp
        have hl := lst_le ((s[pos]'hlt).toNat : Int)
        have hz0 : (lst ((s[pos]'hlt).toNat : Int) == 0) = false := by simpa using hz
        clear hd hr hz HM
        go_wp2_with fail
        refine (leastOf_any _ _).mono ?_
        rintro e w' ⟨rfl, rfl⟩
        go_wp2
        go_roundw
        case rel => exact ⟨pos + 1, hlt, val_int HL2.out.symm, rfl, HM2⟩
        case measure => simp; omega
    · have hnx : ∀ ty, (Instr.next (.pointer (some ⟨w.heap.size, 0, none⟩)) true ty).run Try.prog (w.iter s pos) = _ := fun ty => run_next_end w s pos ty hlt
      obtain rfl : pos = s.size := by omega
      have HM2 := Lib.hid (show leastM (bs s) = leastS (bs s) by unfold leastM; rw [if_pos]; rw [← bs_all]; exact HM.out)
      clear HM
      rw [bs_all]
      go_wp2
      go_ret
      exact ⟨by rw [HM2.out]; rfl, (Below.refl _ _).alloc (Nat.le_refl _) _⟩

end Go.Proofs.Ytpkbkliblbbdcaa
