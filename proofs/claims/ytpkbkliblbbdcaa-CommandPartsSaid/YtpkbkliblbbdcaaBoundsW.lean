/- The walk of the law WireBounds: bytes at their bound, a shape of nothing, values of other types. -/
import Derived.Test.YtpkbkliblbbdcaaBack
namespace Go.Proofs.Ytpkbkliblbbdcaa
open Go.RowKit
set_option maxRecDepth 20000

/-- as many noughts -/
def noughts (n : Nat) : List UInt8 := List.replicate n 0
theorem noughts_length (n : Nat) : (noughts n).length = n := List.length_replicate
theorem noughts_cells (n : Nat) : cells8 (noughts n) = List.replicate n (.int .u8 0) := by
  simp only [cells8, noughts, List.map_replicate]
  rfl
theorem noughts_made (n : Nat) : (madeCells (Value.int .u8 0).cells (n * 1)).toList = cells8 (noughts n) := by
  rw [noughts_cells, Nat.mul_one]
  exact toList_madeCells_one (.int .u8 0) n
theorem noughts_drop (n k : Nat) : (noughts n).drop k = noughts (n - k) := by simp only [noughts, List.drop_replicate]

theorem star_may : mayS [42] = true := by rfl
theorem star_bs : bs ⟨#[42]⟩ = [42] := rfl
theorem pack_star (l : List UInt8) (h : l.length ≤ 16777216) : packR [42] [.blob l] = some (low l.length 4 ++ l) := by
  have he : enc1 (((42 : UInt8).toNat : Nat) : Int) (.blob l) = some (low l.length 4 ++ l) := by
    show enc1 42 (.blob l) = _
    simp [enc1, h]
  rw [packR, if_pos ⟨star_may, rfl⟩, List.zip_cons_cons, packZ, he]
  simp [packZ]
theorem pack_star_long (l : List UInt8) (h : ¬ l.length ≤ 16777216) : packR [42] [.blob l] = none := by
  have he : enc1 (((42 : UInt8).toNat : Nat) : Int) (.blob l) = none := by
    show enc1 42 (.blob l) = _
    simp [enc1, h]
  rw [packR, if_pos ⟨star_may, rfl⟩, List.zip_cons_cons, packZ, he]
theorem unp_star_long (l : List UInt8) : unpE [42] ([1, 0, 0, 1] ++ l) = 4 := by
  have hd : dec1 (((42 : UInt8).toNat : Nat) : Int) ([1, 0, 0, 1] ++ l) = none := by
    show dec1 42 _ = _
    have hb : 16777216 < num8 (([1, 0, 0, 1] ++ l).take 4) := by
      show 16777216 < num8 [1, 0, 0, 1]
      decide
    rw [dec1_blob _ (by simp; omega), blobR, if_pos (.inl hb)]
  unfold unpE
  rw [if_pos star_may]
  simp only [unpZ, hd]
  rfl
theorem pack_nothing : packR [] [] = some [] := rfl
theorem pack_int : packR [49] [.other] = none := rfl
theorem pack_nil : packR [63] [.other] = none := rfl
theorem pack_extra : packR [] [.num 1] = none := rfl

/-- Pack of one value that lies in a block of its own -/
theorem pack_single (s : ByteArray) (v : Value) (p : PV) (w : World) (hs : s.size ≤ 1000) (hv : IV w w.heap.size v p) :
    Calls Try.prog 33 #[.string s, .slice (some ⟨w.heap.size, 0, none⟩) 1 1] (w.alloc (.cells #[v] 20))
      fun e w' => Packed w (packR (bs s) [p]) e w' := by
  have hs1 : (w.alloc (.cells #[v] 20)).heap.size = w.heap.size + 1 := by simp
  have hb : Below w.heap.size w (w.alloc (.cells #[v] 20)) := (Below.refl _ _).alloc (Nat.le_refl _) _
  have hsh := shows_new w #[v] 20
  have hv2 : IV (w.alloc (.cells #[v] 20)) (w.alloc (.cells #[v] 20)).heap.size v p := by
    have h1 := hv.below hb
    cases p with
    | blob l => obtain ⟨A, c, e, h2, h3⟩ := h1; exact ⟨A, c, e, h2.wide (by rw [hs1]; omega), h3⟩
    | num n => exact h1
    | flag b => exact h1
    | block l => exact h1
    | other => exact h1
  generalize hW : w.alloc (.cells #[v] 20) = W at *
  clear hW
  refine (pack_any s _ 1 1 [v] [p] W hs (by omega) (hsh.wide (by omega)) rfl ?_).mono ?_
  · intro i hi
    match i, hi with
    | 0, _ => exact ⟨v, rfl, hv2⟩
  · intro e w' h
    cases hr : packR (bs s) [p] with
    | none => rw [hr] at h; exact ⟨h.1, hb.trans (h.2.mono (by omega))⟩
    | some l =>
      rw [hr] at h
      obtain ⟨u, he, ho, hb2⟩ := h
      refine ⟨u, he, ⟨ho.1, ?_⟩, hb.trans (hb2.mono (by omega))⟩
      rcases ho.2 with h2 | ⟨g, cap, cur, hu, hg, hh⟩
      · exact .inl h2
      · exact .inr ⟨g, cap, cur, hu, by omega, hh⟩

theorem big_tail {w : World} {B g : Nat} (h : Shows w B (some ⟨g, 0, none⟩) 16777217 (cells8 (noughts 16777217))) : Shows w B (some ⟨g, 1, none⟩) 16777216 (cells8 (noughts 16777216)) := by
  have h1 := h.behind (k := 1) (cap := 16777217) (by omega) (by omega) (by omega) (by omega)
  rw [← cells8_drop, noughts_drop] at h1
  exact h1
theorem iv_blob {w : World} {B n c : Nat} {A : Option Addr} {l : List UInt8} (h : Shows w B A n (cells8 l)) (h1 : n ≤ c) (h2 : n ≤ 1073741824) : IV w B (.iface 24 (.slice A n c)) (.blob l) := by
  have e : n = l.length := by rw [← h.len, cells8_length]
  subst e
  exact ⟨A, c, rfl, h, h1, h2⟩
theorem star_there : ∃ X : List UInt8, packR [42] [.blob (noughts 16777216)] = some X ∧ X.length = 16777220 ∧ unpZ [42] X = some ([.blob (noughts 16777216)], 16777220) := by
  have h := pack_star (noughts 16777216) (by rw [noughts_length]; omega)
  have hu := (packR_unpZ [] h).2
  have hl : (low (noughts 16777216).length 4 ++ noughts 16777216).length = 16777220 := by rw [List.length_append, low_length, noughts_length]
  rw [List.append_nil, hl] at hu
  exact ⟨_, h, hl, hu⟩

end Go.Proofs.Ytpkbkliblbbdcaa
