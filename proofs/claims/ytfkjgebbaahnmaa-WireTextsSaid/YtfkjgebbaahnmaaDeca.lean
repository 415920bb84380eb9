/- Numbers' texts, in plain mathematics, and the walk of Decimal of package wire. -/
import Derived.Test.YtfkjgebbaahnmaaHexe
namespace Go.Proofs.Ytfkjgebbaahnmaa
open Go.RowKit

def decV (l : List UInt8) : Nat := l.foldl (fun n b => 10 * n + (b.toNat - 48)) 0
def digits (l : List UInt8) : Bool := l.all fun b => decide (48 ≤ b.toNat ∧ b.toNat ≤ 57)
theorem decV_snoc (l : List UInt8) (b : UInt8) : decV (l ++ [b]) = 10 * decV l + (b.toNat - 48) := by simp [decV]
theorem decV_mono (l r : List UInt8) : decV l ≤ decV (l ++ r) := by
  induction r generalizing l with
  | nil => simp
  | cons b r ih =>
    have h1 := decV_snoc l b
    have h2 := ih (l ++ [b])
    rw [List.append_assoc] at h2
    simp only [List.cons_append, List.nil_append] at h2
    omega
theorem digits_app (l r : List UInt8) : digits (l ++ r) = (digits l && digits r) := by simp [digits]

/-- a text that begins with a nought and goes on -/
def nought (s : ByteArray) : Bool := decide (1 < s.size) && ((bs s).getD 0 0 == 48)
/-- what Decimal answers -/
def decR (s : ByteArray) (most : Nat) : Option Nat := if 0 < s.size ∧ nought s = false ∧ digits (bs s) = true ∧ decV (bs s) ≤ most then some (decV (bs s)) else none
def decAns : Option Nat → Ending
  | some n => .returned (.tuple #[.int .u64 (n : Int), .bool true])
  | none => .returned (.tuple #[.int .u64 0, .bool false])

theorem decR_empty (s : ByteArray) (most : Nat) (h : s.size = 0) : decR s most = none := by rw [decR, if_neg]; omega
theorem decR_nought (s : ByteArray) (most : Nat) (h : nought s = true) : decR s most = none := by
  rw [decR, if_neg]; rintro ⟨_, h2, _⟩; rw [h] at h2; cases h2
theorem decR_letter (s : ByteArray) (most i : Nat) (hi : i < s.size) (h : ¬ (48 ≤ (s[i]'hi).toNat ∧ (s[i]'hi).toNat ≤ 57)) : decR s most = none := by
  rw [decR, if_neg]
  rintro ⟨_, _, h3, _⟩
  rw [digits, List.all_eq_true] at h3
  have := h3 _ (List.getElem_mem (l := bs s) (n := i) (by rw [bs_length]; exact hi))
  rw [bs_get s i hi] at this
  exact h (by simpa using this)
theorem decR_great (s : ByteArray) (most i : Nat) (h : most < decV ((bs s).take i)) : decR s most = none := by
  rw [decR, if_neg]
  rintro ⟨_, _, _, h4⟩
  have := decV_mono ((bs s).take i) ((bs s).drop i)
  rw [List.take_append_drop] at this
  omega
theorem decR_good (s : ByteArray) (most : Nat) (h0 : 0 < s.size) (hn : nought s = false) (hd : digits (bs s) = true) (hv : decV (bs s) ≤ most) : decR s most = some (decV (bs s)) := by
  rw [decR, if_pos ⟨h0, hn, hd, hv⟩]
theorem digits_step (s : ByteArray) (i : Nat) (hi : i < s.size) (h : digits ((bs s).take i) = true) (hb : 48 ≤ (s[i]'hi).toNat ∧ (s[i]'hi).toNat ≤ 57) : digits ((bs s).take (i + 1)) = true := by
  rw [bs_take s i hi, digits_app, h]
  simp [digits, hb]
theorem decV_step (s : ByteArray) (i : Nat) (hi : i < s.size) : decV ((bs s).take (i + 1)) = 10 * decV ((bs s).take i) + ((s[i]'hi).toNat - 48) := by
  rw [bs_take s i hi, decV_snoc]
theorem rune_other (s : ByteArray) (i : Nat) (hi : i < s.size) (h : ¬ (48 ≤ (s[i]'hi).toNat ∧ (s[i]'hi).toNat ≤ 57)) : ((Utf8.decode s i).1 : Int) < 48 ∨ 57 < ((Utf8.decode s i).1 : Int) := by
  by_cases ha : (s[i]'hi).toNat < 128
  · rw [decode_ascii s i hi ha]; simp only; omega
  · have := (decode_high s i hi (by omega)).1; omega

theorem text_some (s : ByteArray) (h : 0 < s.size) : s.toList.isEmpty = false := by
  rw [ByteArray.toList_eq s]
  have : (bs s).length ≠ 0 := by rw [bs_length]; omega
  unfold bs at this
  cases hl : s.data.toList with
  | nil => rw [hl] at this; exact absurd rfl this
  | cons a l => rfl
theorem text_none (s : ByteArray) (h : s.size = 0) : s.toList.isEmpty = true := by
  rw [ByteArray.toList_eq s]
  have : bs s = [] := List.eq_nil_of_length_eq_zero (by rw [bs_length]; exact h)
  unfold bs at this
  rw [this]
  rfl
theorem nought_at (s : ByteArray) (h : 1 < s.size) : nought s = (((s[0]'(by omega)).toNat : Int) == 48) := by
  rw [nought, bs_getD s 0 (by omega)]
  have hd : decide (1 < s.size) = true := by simpa using h
  rw [hd, Bool.true_and, Bool.eq_iff_iff]
  simp only [beq_iff_eq]
  constructor
  · intro e; rw [e]; rfl
  · intro e; exact UInt8.toNat.inj (by show _ = 48; omega)

set_option maxHeartbeats 4000000 in
theorem decimal_any (s : ByteArray) (most : Nat) (w : World) (hm : most < 18446744073709551616) (hs : s.size ≤ 1000000) :
    Calls Try.prog 25 #[.string s, .int .u64 (most : Int)] w fun e w' => e = decAns (decR s most) ∧ Below w.heap.size w w' := by
  by_cases h0 : 0 < s.size
  · have hemp := text_some s h0
    by_cases h1 : 1 < s.size
    · have hna := nought_at s h1
      cases hno : nought s with
      | true =>
        have HR := Lib.hid (decR_nought s most hno)
        rw [hno] at hna
        have hna2 := hna.symm
        clear hno hna
        go_enter Try.func25, Try.ntmps25
        go_wp2
        go_ret2
        rw [HR.out]
        exact ⟨rfl, Below.refl _ _⟩
      | false =>
        have HN := Lib.hid hno
        rw [hno] at hna
        have hna2 := hna.symm
        clear hno hna
        go_enter Try.func25, Try.ntmps25
        go_wp2
        go_loopw [6] (fun v wr => ∃ pos n : Nat, pos ≤ s.size ∧ v = .int .u64 (n : Int) ∧ wr = w.iter s pos ∧ n ≤ most ∧ Hid (digits ((bs s).take pos) = true) ∧ Hid (decV ((bs s).take pos) = n)) (fun _ wr => s.size - wr.iterPos w.heap.size)
        case atStart => exact ⟨0, 0, Nat.zero_le _, rfl, rfl, Nat.zero_le _, rfl, rfl⟩
        case round =>
          obtain ⟨pos, n, hp, rfl, rfl, hnm, HD, HV⟩ := hrel
          by_cases hlt : pos < s.size
          · by_cases hb : 48 ≤ (s[pos]'hlt).toNat ∧ (s[pos]'hlt).toNat ≤ 57
            · have hd := decode_ascii s pos hlt (by omega)
              have hnx : ∀ ty, (Instr.next (.pointer (some ⟨w.heap.size, 0, none⟩)) true ty).run Try.prog (w.iter s pos) = _ := fun ty => run_next_any w s pos ty hlt
              simp only [hd] at hnx
              have HD2 := Lib.hid (digits_step s pos hlt HD.out hb)
              have hv2 := decV_step s pos hlt
              rw [HV.out] at hv2
              obtain ⟨hb1, hb2⟩ := hb
              generalize hbv : (s[pos]'hlt).toNat = b at *
              have HV2 := Lib.hid hv2
              clear hd hbv hv2 HD
              obtain ⟨d, rfl⟩ : ∃ d, b = 48 + d := ⟨b - 48, by omega⟩
              have hv3 : decV ((bs s).take (pos + 1)) = 10 * n + d := by rw [HV2.out]; omega
              have HV3 := Lib.hid hv3
              clear hv3 HV2
              by_cases h1 : most < d
              · have HR := Lib.hid (decR_great s most (pos + 1) (by rw [HV3.out]; omega))
                go_wp2
                go_ret2
                rw [HR.out]
                exact ⟨rfl, (Below.refl _ _).alloc (Nat.le_refl _) _⟩
              · by_cases h2 : (most - d) / 10 < n
                · have HR := Lib.hid (decR_great s most (pos + 1) (by rw [HV3.out]; omega))
                  go_wp2
                  go_ret2
                  rw [HR.out]
                  exact ⟨rfl, (Below.refl _ _).alloc (Nat.le_refl _) _⟩
                · have hle : 10 * n + d ≤ most := by omega
                  go_wp2
                  go_roundw
                  case rel => exact ⟨pos + 1, 10 * n + d, hlt, val_int (by omega), rfl, hle, HD2, HV3⟩
                  case measure => simp; omega
            · have HR := Lib.hid (decR_letter s most pos hlt hb)
              have hr := rune_other s pos hlt hb
              have hnx : ∀ ty, (Instr.next (.pointer (some ⟨w.heap.size, 0, none⟩)) true ty).run Try.prog (w.iter s pos) = _ := fun ty => run_next_any w s pos ty hlt
              clear hb
              generalize (Utf8.decode s pos).1 = r at *
              generalize (Utf8.decode s pos).2 = rw' at *
              rcases hr with hr | hr
              · go_wp2
                go_ret2
                rw [HR.out]
                exact ⟨rfl, (Below.refl _ _).alloc (Nat.le_refl _) _⟩
              · have hr2 : decide ((r : Int) < 48) = false := by simp; omega
                go_wp2
                go_ret2
                rw [HR.out]
                exact ⟨rfl, (Below.refl _ _).alloc (Nat.le_refl _) _⟩
          · have hnx : ∀ ty, (Instr.next (.pointer (some ⟨w.heap.size, 0, none⟩)) true ty).run Try.prog (w.iter s pos) = _ := fun ty => run_next_end w s pos ty hlt
            obtain rfl : pos = s.size := by omega
            have h5 := HV.out
            have h6 := HD.out
            rw [bs_all] at h5 h6
            have HR := Lib.hid (decR_good s most h0 HN.out h6 (by rw [h5]; exact hnm))
            have H5 := Lib.hid h5
            clear h5 h6
            go_wp2
            go_ret2
            rw [HR.out, H5.out]
            exact ⟨rfl, (Below.refl _ _).alloc (Nat.le_refl _) _⟩
    · have HN := Lib.hid (show nought s = false by simp [nought, h1])
      have h1d : decide ((1 : Int) < (s.size : Int)) = false := by simp; omega
      go_enter Try.func25, Try.ntmps25
      go_wp2
      go_loopw [6] (fun v wr => ∃ pos n : Nat, pos ≤ s.size ∧ v = .int .u64 (n : Int) ∧ wr = w.iter s pos ∧ n ≤ most ∧ Hid (digits ((bs s).take pos) = true) ∧ Hid (decV ((bs s).take pos) = n)) (fun _ wr => s.size - wr.iterPos w.heap.size)
      case atStart => exact ⟨0, 0, Nat.zero_le _, rfl, rfl, Nat.zero_le _, rfl, rfl⟩
      case round =>
        obtain ⟨pos, n, hp, rfl, rfl, hnm, HD, HV⟩ := hrel
        by_cases hlt : pos < s.size
        · by_cases hb : 48 ≤ (s[pos]'hlt).toNat ∧ (s[pos]'hlt).toNat ≤ 57
          · have hd := decode_ascii s pos hlt (by omega)
            have hnx : ∀ ty, (Instr.next (.pointer (some ⟨w.heap.size, 0, none⟩)) true ty).run Try.prog (w.iter s pos) = _ := fun ty => run_next_any w s pos ty hlt
            simp only [hd] at hnx
            have HD2 := Lib.hid (digits_step s pos hlt HD.out hb)
            have hv2 := decV_step s pos hlt
            rw [HV.out] at hv2
            obtain ⟨hb1, hb2⟩ := hb
            generalize hbv : (s[pos]'hlt).toNat = b at *
            have HV2 := Lib.hid hv2
            clear hd hbv hv2 HD
            obtain ⟨d, rfl⟩ : ∃ d, b = 48 + d := ⟨b - 48, by omega⟩
            have hv3 : decV ((bs s).take (pos + 1)) = 10 * n + d := by rw [HV2.out]; omega
            have HV3 := Lib.hid hv3
            clear hv3 HV2
            by_cases h1 : most < d
            · have HR := Lib.hid (decR_great s most (pos + 1) (by rw [HV3.out]; omega))
              go_wp2
              go_ret2
              rw [HR.out]
              exact ⟨rfl, (Below.refl _ _).alloc (Nat.le_refl _) _⟩
            · by_cases h2 : (most - d) / 10 < n
              · have HR := Lib.hid (decR_great s most (pos + 1) (by rw [HV3.out]; omega))
                go_wp2
                go_ret2
                rw [HR.out]
                exact ⟨rfl, (Below.refl _ _).alloc (Nat.le_refl _) _⟩
              · have hle : 10 * n + d ≤ most := by omega
                go_wp2
                go_roundw
                case rel => exact ⟨pos + 1, 10 * n + d, hlt, val_int (by omega), rfl, hle, HD2, HV3⟩
                case measure => simp; omega
          · have HR := Lib.hid (decR_letter s most pos hlt hb)
            have hr := rune_other s pos hlt hb
            have hnx : ∀ ty, (Instr.next (.pointer (some ⟨w.heap.size, 0, none⟩)) true ty).run Try.prog (w.iter s pos) = _ := fun ty => run_next_any w s pos ty hlt
            clear hb
            generalize (Utf8.decode s pos).1 = r at *
            generalize (Utf8.decode s pos).2 = rw' at *
            rcases hr with hr | hr
            · go_wp2
              go_ret2
              rw [HR.out]
              exact ⟨rfl, (Below.refl _ _).alloc (Nat.le_refl _) _⟩
            · have hr2 : decide ((r : Int) < 48) = false := by simp; omega
              go_wp2
              go_ret2
              rw [HR.out]
              exact ⟨rfl, (Below.refl _ _).alloc (Nat.le_refl _) _⟩
        · have hnx : ∀ ty, (Instr.next (.pointer (some ⟨w.heap.size, 0, none⟩)) true ty).run Try.prog (w.iter s pos) = _ := fun ty => run_next_end w s pos ty hlt
          obtain rfl : pos = s.size := by omega
          have h5 := HV.out
          have h6 := HD.out
          rw [bs_all] at h5 h6
          have HR := Lib.hid (decR_good s most h0 HN.out h6 (by rw [h5]; exact hnm))
          have H5 := Lib.hid h5
          clear h5 h6
          go_wp2
          go_ret2
          rw [HR.out, H5.out]
          exact ⟨rfl, (Below.refl _ _).alloc (Nat.le_refl _) _⟩
  · have HR := Lib.hid (decR_empty s most (by omega))
    have hemp := text_none s (by omega)
    go_enter Try.func25, Try.ntmps25
    go_wp2
    go_ret2
    rw [HR.out]
    exact ⟨rfl, Below.refl _ _⟩

end Go.Proofs.Ytfkjgebbaahnmaa
