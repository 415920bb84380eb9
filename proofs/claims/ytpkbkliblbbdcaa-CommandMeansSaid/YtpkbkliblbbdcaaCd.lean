/- Walks: the shape of names; whether a letter's number is in its bounds; its value; a value laid. -/
import Derived.Test.YtpkbkliblbbdcaaCc
set_option linter.unusedVariables false
namespace Go.Proofs.Ytpkbkliblbbdcaa
open Go.RowKit
set_option maxRecDepth 20000

def shapeF (c : UInt8) : UInt8 := if c = 68 then 42 else 52
/-- the shape of the bytes of one that names so much -/
def shapeS (l : List UInt8) : ByteArray := ⟨(49 :: l.map shapeF).toArray⟩

theorem rune_asc (s : ByteArray) (pos : Nat) (h : pos < s.size) (hb : (s[pos]'h).toNat < 128) : Utf8.decode s pos = ((s[pos]'h).toNat, 1) := decode_ascii s pos h hb

theorem shape_cat (l : List UInt8) (x : UInt8) : (⟨(49 :: l.map shapeF).toArray⟩ : ByteArray) ++ ⟨#[x]⟩ = ⟨(49 :: (l.map shapeF ++ [x])).toArray⟩ := by
  ext1
  simp [ByteArray.data_append]

set_option maxHeartbeats 1000000 in
theorem shape_any (s : ByteArray) (w : World) (hs : s.size ≤ 1000) (ha : ∀ i (h : i < s.size), (s[i]'h).toNat < 128) :
    Calls Try.prog 34 #[.string s] w fun e w' => e = .returned (.string (shapeS (bs s))) ∧ Below w.heap.size w w' := by
  go_enter Try.func34, Try.ntmps34
  go_wp2
  go_loopw [3] (fun v wr => ∃ pos : Nat, pos ≤ s.size ∧ v = .string (shapeS ((bs s).take pos)) ∧ wr = w.iter s pos) (fun _ wr => s.size - wr.iterPos w.heap.size)
  case atStart => exact ⟨0, Nat.zero_le _, rfl, rfl⟩
  case round =>
    obtain ⟨pos, hp, rfl, rfl⟩ := hrel
    by_cases hlt : pos < s.size
    · have hd := rune_asc s pos hlt (ha pos hlt)
      have hnx : ∀ ty, (Instr.next (.pointer (some ⟨w.heap.size, 0, none⟩)) true ty).run Try.prog (w.iter s pos) = _ := fun ty => run_next_any w s pos ty hlt
      simp only [hd] at hnx
      have hst : shapeS ((bs s).take (pos + 1)) = ⟨(49 :: (((bs s).take pos).map shapeF ++ [shapeF (s[pos]'hlt)])).toArray⟩ := by rw [shapeS, bs_take s pos hlt, List.map_append]; rfl
      have HS := Lib.hid hst
      have hz : (shapeS ((bs s).take pos)).size ≤ 1001 := by
        show (49 :: ((bs s).take pos).map shapeF).toArray.size ≤ 1001
        simp
        omega
      clear hd hst
      by_cases hc : (s[pos]'hlt) = 68
      · have e : (((s[pos]'hlt).toNat : Int) == 68) = true := by rw [hc]; rfl
        have HC := Lib.hid hc
        clear hc
        go_wp2
        go_roundw
        case rel => exact ⟨pos + 1, hlt, by rw [HS.out, HC.out, shapeS, shape_cat]; rfl, rfl⟩
        case measure => simp; omega
      · have e : (((s[pos]'hlt).toNat : Int) == 68) = false := by rw [beq_eq_false_iff_ne]; intro e; exact hc (UInt8.toNat.inj (by show _ = 68; omega))
        have HC := Lib.hid hc
        clear hc
        go_wp2
        go_roundw
        case rel => exact ⟨pos + 1, hlt, by rw [HS.out, shapeF, if_neg HC.out, shapeS, shape_cat], rfl⟩
        case measure => simp; omega
    · have hnx : ∀ ty, (Instr.next (.pointer (some ⟨w.heap.size, 0, none⟩)) true ty).run Try.prog (w.iter s pos) = _ := fun ty => run_next_end w s pos ty hlt
      obtain rfl : pos = s.size := by omega
      go_wp2
      go_ret
      exact ⟨by rw [bs_all]; rfl, (Below.refl _ _).alloc (Nat.le_refl _) _⟩

end Go.Proofs.Ytpkbkliblbbdcaa
