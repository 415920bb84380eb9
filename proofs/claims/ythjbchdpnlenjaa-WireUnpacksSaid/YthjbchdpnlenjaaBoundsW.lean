/- The walk of the law WireBounds: bytes at their bound, a shape of nothing, values of other types. -/
import Derived.Test.YthjbchdpnlenjaaBack
namespace Go.Proofs.Ythjbchdpnlenjaa
open Go.RowKit

/-- as many noughts -/
def noughts (n : Nat) : List UInt8 := List.replicate n 0
theorem noughts_length (n : Nat) : (noughts n).length = n := List.length_replicate
theorem noughts_cells (n : Nat) : cells8 (noughts n) = List.replicate n (.int .u8 0) := by
  simp only [cells8, noughts, List.map_replicate]
  rfl
theorem noughts_made (n : Nat) : (madeCells (Value.int .u8 0).cells (n * 1)).toList = cells8 (noughts n) := by
  rw [noughts_cells, Nat.mul_one]
  exact toList_madeCells_one (.int .u8 0) n
theorem noughts_drop (n k : Nat) : (noughts n).drop k = noughts (n - k) := by simp only [noughts, List.drop_replicate]

theorem star_may : mayS [42] = true := by rfl
theorem star_bs : bs ⟨#[42]⟩ = [42] := rfl
theorem pack_star (l : List UInt8) (h : l.length ≤ 16777216) : packR [42] [.blob l] = some (low l.length 4 ++ l) := by
  have he : enc1 (((42 : UInt8).toNat : Nat) : Int) (.blob l) = some (low l.length 4 ++ l) := by
    show enc1 42 (.blob l) = _
    simp [enc1, h]
  rw [packR, if_pos ⟨star_may, rfl⟩, List.zip_cons_cons, packZ, he]
  simp [packZ]
theorem pack_star_long (l : List UInt8) (h : ¬ l.length ≤ 16777216) : packR [42] [.blob l] = none := by
  have he : enc1 (((42 : UInt8).toNat : Nat) : Int) (.blob l) = none := by
    show enc1 42 (.blob l) = _
    simp [enc1, h]
  rw [packR, if_pos ⟨star_may, rfl⟩, List.zip_cons_cons, packZ, he]
theorem unp_star_long (l : List UInt8) : unpE [42] ([1, 0, 0, 1] ++ l) = 4 := by
  have hd : dec1 (((42 : UInt8).toNat : Nat) : Int) ([1, 0, 0, 1] ++ l) = none := by
    show dec1 42 _ = _
    have hb : 16777216 < num8 (([1, 0, 0, 1] ++ l).take 4) := by
      show 16777216 < num8 [1, 0, 0, 1]
      decide
    rw [dec1_blob _ (by simp; omega), blobR, if_pos (.inl hb)]
  unfold unpE
  rw [if_pos star_may]
  simp only [unpZ, hd]
  rfl
theorem pack_nothing : packR [] [] = some [] := rfl
theorem pack_int : packR [49] [.other] = none := rfl
theorem pack_nil : packR [63] [.other] = none := rfl
theorem pack_extra : packR [] [.num 1] = none := rfl

/-- Pack of one value that lies in a block of its own -/
theorem pack_single (s : ByteArray) (v : Value) (p : PV) (w : World) (hs : s.size ≤ 1000) (hv : IV w w.heap.size v p) :
    Calls Try.prog 12 #[.string s, .slice (some ⟨w.heap.size, 0, none⟩) 1 1] (w.alloc (.cells #[v] 20))
      fun e w' => Packed w (packR (bs s) [p]) e w' := by
  have hs1 : (w.alloc (.cells #[v] 20)).heap.size = w.heap.size + 1 := by simp
  have hb : Below w.heap.size w (w.alloc (.cells #[v] 20)) := (Below.refl _ _).alloc (Nat.le_refl _) _
  have hsh := shows_new w #[v] 20
  have hv2 : IV (w.alloc (.cells #[v] 20)) (w.alloc (.cells #[v] 20)).heap.size v p := by
    have h1 := hv.below hb
    cases p with
    | blob l => obtain ⟨A, c, e, h2, h3⟩ := h1; exact ⟨A, c, e, h2.wide (by rw [hs1]; omega), h3⟩
    | num n => exact h1
    | flag b => exact h1
    | block l => exact h1
    | other => exact h1
  generalize hW : w.alloc (.cells #[v] 20) = W at *
  clear hW
  refine (pack_any s _ 1 1 [v] [p] W hs (by omega) (hsh.wide (by omega)) rfl ?_).mono ?_
  · intro i hi
    match i, hi with
    | 0, _ => exact ⟨v, rfl, hv2⟩
  · intro e w' h
    cases hr : packR (bs s) [p] with
    | none => rw [hr] at h; exact ⟨h.1, hb.trans (h.2.mono (by omega))⟩
    | some l =>
      rw [hr] at h
      obtain ⟨u, he, ho, hb2⟩ := h
      refine ⟨u, he, ⟨ho.1, ?_⟩, hb.trans (hb2.mono (by omega))⟩
      rcases ho.2 with h2 | ⟨g, cap, cur, hu, hg, hh⟩
      · exact .inl h2
      · exact .inr ⟨g, cap, cur, hu, by omega, hh⟩

theorem big_tail {w : World} {B g : Nat} (h : Shows w B (some ⟨g, 0, none⟩) 16777217 (cells8 (noughts 16777217))) : Shows w B (some ⟨g, 1, none⟩) 16777216 (cells8 (noughts 16777216)) := by
  have h1 := h.behind (k := 1) (cap := 16777217) (by omega) (by omega) (by omega) (by omega)
  rw [← cells8_drop, noughts_drop] at h1
  exact h1
theorem iv_blob {w : World} {B n c : Nat} {A : Option Addr} {l : List UInt8} (h : Shows w B A n (cells8 l)) (h1 : n ≤ c) (h2 : n ≤ 1073741824) : IV w B (.iface 25 (.slice A n c)) (.blob l) := by
  have e : n = l.length := by rw [← h.len, cells8_length]
  subst e
  exact ⟨A, c, rfl, h, h1, h2⟩
theorem star_there : ∃ X : List UInt8, packR [42] [.blob (noughts 16777216)] = some X ∧ X.length = 16777220 ∧ unpZ [42] X = some ([.blob (noughts 16777216)], 16777220) := by
  have h := pack_star (noughts 16777216) (by rw [noughts_length]; omega)
  have hu := (packR_unpZ [] h).2
  have hl : (low (noughts 16777216).length 4 ++ noughts 16777216).length = 16777220 := by rw [List.length_append, low_length, noughts_length]
  rw [List.append_nil, hl] at hu
  exact ⟨_, h, hl, hu⟩

set_option maxRecDepth 100000 in
set_option maxHeartbeats 2000000 in
theorem bounds_walk (w : World) : Calls Try.prog 9 #[] w fun e w' => e = .returned (.bool true) ∧ Below w.heap.size w w' := by
  obtain ⟨i0, hi, hz0, hz1, hz2⟩ := info_parts u8_info
  go_enter Try.func9, Try.ntmps9
  go_wp2_with (at_make; refine wpList_make_full _ rfl _ _ 25 rfl w.heap.size 5 i0 _ 1 Try.underlying25 hi hz0 hz1 _ _ _ _ 16777217 rfl rfl (by simp) (by simp) (by rw [hz2]; omega) (by unfold maxLen; omega) (Nat.le_refl _) ?_; intro w1 hown1 hg1; rw [noughts_made] at hown1)
  have hb1 : Below w.heap.size w w1 := (Below.refl _ _).grown hg1 (Nat.le_refl _) (by simp)
  have hsl := Shows.owned hown1
  have hst := big_tail hsl
  clear hg1 hown1
  obtain ⟨X, hX, hXl, hXu⟩ := star_there
  have HX := Lib.hid hX
  have HXL := Lib.hid hXl
  have HXU := Lib.hid hXu
  clear hX hXl hXu
  refine (pack_single ⟨#[42]⟩ _ (.blob (noughts 16777216)) w1 (by decide) (iv_blob hst (by omega) (by omega))).mono ?_
  rw [star_bs, HX.out]
  rintro e w2 hp
  obtain ⟨A2, c2, rfl, ho2, hb2, hc2, hm2⟩ := packed_ok hp
  rw [HXL.out] at ho2 hc2 ⊢
  clear hp hst
  have hsl2 := (hsl.below hb2).wide hb2.size
  have hbb2 := hb1.trans (hb2.mono hb1.size)
  clear hsl hb2
  go_wp2_with fail
  refine (pack_single ⟨#[42]⟩ _ (.blob (noughts 16777217)) w2 (by decide) (iv_blob hsl2 (by omega) (by omega))).mono ?_
  rw [star_bs, pack_star_long _ (by rw [noughts_length]; omega)]
  rintro e w3 ⟨rfl, hb3⟩
  have hsl3 := (hsl2.below hb3).wide hb3.size
  have ho3 := own_below ho2 hb3
  have hbb3 := hbb2.trans (hb3.mono hbb2.size)
  clear hsl2 hb3 ho2
  have hz3 : (w3.alloc (.cells #[.int .u8 1, .int .u8 0, .int .u8 0, .int .u8 1] 5)).heap.size = w3.heap.size + 1 := by simp
  have hba : Below w3.heap.size w3 (w3.alloc (.cells #[.int .u8 1, .int .u8 0, .int .u8 0, .int .u8 1] 5)) := (Below.refl _ _).alloc (Nat.le_refl _) _
  go_wp2_with (at_builtin; refine wpList_append_shows _ rfl (.tmp 37) (.tmp 38) 25 rfl w3.heap.size 5 i0 (.int .u8 0) 1 Try.underlying25 hi hz0 hz1 hz2 rfl (.slice (some ⟨w3.heap.size, 0, none⟩) 4 4) 4 (cells8 [1, 0, 0, 1]) rfl (World.ownsRow_lit w3 _ 4 (Nat.le_refl _) (by unfold maxLen; omega) rfl) w3.heap.size _ 16777217 16777217 (cells8 (noughts 16777217)) rfl (hsl3.below hba) (cells8_one _) (by unfold maxLen; omega) (by omega) (by rw [hz3]; omega) ?_; intro v4 w4 hown4 hgrow4)
  rw [← cells8_append] at hown4
  obtain ⟨A4, c4, hv4, hc4, hm4⟩ := own_form hown4
  subst hv4
  have hb4 : Below w3.heap.size w3 w4 := hba.trans (hgrow4.below_from (by rw [hz3]; omega) (by simp [Value.ownBlock]))
  have ho4 := own_below ho3 hb4
  have hbb4 := hbb3.trans (hb4.mono hbb3.size)
  have hsh4 := Shows.owned hown4
  clear hown4 hgrow4 hb4 ho3 hba hz3 hsl3
  refine (unpack_at ⟨#[42]⟩ w4.heap.size A4 (4 + 16777217) c4 ([1, 0, 0, 1] ++ noughts 16777217) w4 (by decide) hsh4 (Nat.le_refl _) hc4 hm4).mono ?_
  rintro e w5 hu
  have hb5 := hu.1
  obtain ⟨v5, n5, rfl, -⟩ := unpacked_shape hu
  rw [star_bs, unp_star_long]
  clear hu hsh4
  have ho5 := own_below ho4 hb5
  have hbb5 := hbb4.trans (hb5.mono hbb4.size)
  clear ho4 hb5
  go_wp2_with fail
  refine (unpack_at ⟨#[42]⟩ w5.heap.size A2 16777220 c2 X w5 (by decide) (Shows.owned ho5) (Nat.le_refl _) hc2 hm2).mono ?_
  rintro e w6 hu
  obtain ⟨A6, c6, vs6, rfl, ho6, -, hb6⟩ := unpacked_ok hu star_may HXU.out
  clear hu ho5 ho6
  have hbb6 := hbb5.trans (hb6.mono hbb5.size)
  clear hb6
  go_wp2_with fail
  refine (pack_any ⟨#[]⟩ none 0 0 [] [] w6 (by decide) (by omega) (Shows.empty _ _ _) rfl (fun i h => absurd h (by simp))).mono ?_
  rw [show bs ⟨#[]⟩ = [] from rfl, pack_nothing]
  rintro e w7 hp
  obtain ⟨A7, c7, rfl, -, hb7, -, -⟩ := packed_ok hp
  clear hp
  have hbb7 := hbb6.trans (hb7.mono hbb6.size)
  clear hb7
  go_wp2_with fail
  refine (pack_single ⟨#[49]⟩ _ .other w7 (by decide) (.inr ⟨1, rfl⟩)).mono ?_
  rw [show bs ⟨#[49]⟩ = [49] from rfl, pack_int]
  rintro e w8 ⟨rfl, hb8⟩
  have hbb8 := hbb7.trans (hb8.mono hbb7.size)
  clear hb8
  go_wp2_with fail
  refine (pack_single ⟨#[63]⟩ _ .other w8 (by decide) (.inl rfl)).mono ?_
  rw [show bs ⟨#[63]⟩ = [63] from rfl, pack_nil]
  rintro e w9 ⟨rfl, hb9⟩
  have hbb9 := hbb8.trans (hb9.mono hbb8.size)
  clear hb9
  go_wp2_with fail
  refine (pack_single ⟨#[]⟩ _ (.num 1) w9 (by decide) ⟨rfl, by decide⟩).mono ?_
  rw [show bs ⟨#[]⟩ = [] from rfl, pack_extra]
  rintro e w10 ⟨rfl, hb10⟩
  have hbb10 := hbb9.trans (hb10.mono hbb9.size)
  clear hb10
  go_wp2_with (go_at_call 15; refine (num_any _ _).mono ?_; rintro e w' ⟨rfl, rfl⟩)
  refine (known_any w10).mono ?_
  rintro e w11 ⟨rfl, hb11⟩
  go_wp2_with fail
  go_ret
  exact ⟨rfl, hbb10.trans (hb11.mono hbb10.size)⟩

end Go.Proofs.Ythjbchdpnlenjaa
