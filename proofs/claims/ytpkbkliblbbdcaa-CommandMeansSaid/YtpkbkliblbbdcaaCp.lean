/- The chapter's rows hold: the walk of the laws' own check 'known'. -/
import Derived.Test.YtpkbkliblbbdcaaCo
import Derived.Test.YtpkbkliblbbdcaaWd
set_option linter.unusedVariables false
namespace Go.Proofs.Ytpkbkliblbbdcaa
open Go.RowKit
set_option maxRecDepth 20000

def opF : OP := ⟨8, 0, 0, 0, 0, 0, []⟩
def opD : OP := ⟨2, 1, 0, 0, 0, 0, []⟩
def opW : OP := ⟨5, 1, 0, 0, 0, 0, List.replicate 64 0⟩
theorem may_F : mayO opF = true := by decide
theorem may_D : mayO opD = true := by decide
theorem may_W : mayO opW = true := by decide
theorem len_F : (packO opF).map (·.length) = some 1 := by decide
theorem len_D : (packO opD).map (·.length) = some 5 := by decide
theorem len_W : (packO opW).map (·.length) = some 77 := by decide +kernel
theorem some_of {o : Option (List UInt8)} {n : Nat} (h : o.map (·.length) = some n) : ∃ l, o = some l ∧ l.length = n := by
  cases o with
  | none => cases h
  | some l => exact ⟨l, rfl, by simpa using h⟩

/-- an operation that may be, as bytes -/
theorem bytes_good {o : OP} {A : Option Addr} {cap n : Nat} {w : World} (hv : o.v < 18446744073709551616) (ht : o.t < 18446744073709551616) (hd : o.d.length ≤ 16777216) (hcap : o.d.length ≤ cap) (hs : Shows w w.heap.size A o.d.length (cells8 o.d)) (hm : mayO o = true) (hl : (packO o).map (·.length) = some n) :
    Calls Try.prog 10 #[.agg #[.int .i64 o.k, .int .u64 (o.v : Int), .int .u64 (o.t : Int), .int .i64 o.s, .int .i64 o.a, .int .i64 o.c, .slice A o.d.length cap]] w fun e w' => ∃ A' c', e = .returned (.tuple #[.slice A' n c', .int .i64 0]) ∧ Below w.heap.size w w' := by
  have h := bytesO_any o.k o.v o.t o.s o.a o.c o.d A cap w hv ht hd hcap hs
  have hm2 : mayO ⟨o.k, o.v, o.t, o.s, o.a, o.c, o.d⟩ = true := hm
  rw [if_pos hm2] at h
  obtain ⟨l, h1, h2⟩ := some_of hl
  refine h.mono ?_
  intro e w' hp
  have e1 : packO ⟨o.k, o.v, o.t, o.s, o.a, o.c, o.d⟩ = some l := h1
  rw [e1] at hp
  obtain ⟨v, he, ho, hb⟩ := hp
  obtain ⟨A', c', rfl, _⟩ := own_form ho
  rw [h2] at he
  exact ⟨A', c', he, hb⟩

set_option maxHeartbeats 2000000 in
theorem known_any (w : World) : Calls Try.prog 9 #[] w fun e w' => e = .returned (.bool true) ∧ Below w.heap.size w w' := by
  obtain ⟨i0, hi, hz0, hz1, hz2⟩ := info_parts u8_info
  go_enter Try.func9, Try.ntmps9
  go_wp2_with fail
  refine (bytes_good (o := opF) (A := none) (cap := 0) (by decide) (by decide) (by decide) (Nat.le_refl _) (Shows.empty _ _ _) may_F len_F).mono ?_
  rintro e w1 ⟨A1, c1, rfl, hb1⟩
  go_wp2_with fail
  refine (bytes_good (o := opD) (A := none) (cap := 0) (by decide) (by decide) (by decide) (Nat.le_refl _) (Shows.empty _ _ _) may_D len_D).mono ?_
  rintro e w2 ⟨A2, c2, rfl, hb2⟩
  have hB2 : Hid (Below w.heap.size w w2) := hb1.trans (hb2.mono hb1.size)
  clear hb1 hb2
  go_wp2_with (at_make; refine wpList_make_full _ rfl _ _ 24 rfl w2.heap.size 5 i0 _ 1 Try.underlying24 hi hz0 hz1 _ _ _ _ 64 rfl rfl rfl rfl (by rw [hz2]; omega) (by unfold maxLen; omega) (Nat.le_refl _) ?_; intro w3 hown3 hg3)
  rw [noughts_made] at hown3
  have hs3 : Shows w3 w3.heap.size (some ⟨w2.heap.size, 0, none⟩) opW.d.length (cells8 opW.d) := Shows.owned hown3
  have HB3 : Hid (Below w.heap.size w w3) := hB2.out.grown hg3 hB2.out.size (by simp)
  have HW := Lib.hid (bytes_good (o := opW) (A := some ⟨w2.heap.size, 0, none⟩) (cap := 64) (w := w3) (by decide) (by decide) (by decide) (by decide) hs3 may_W len_W)
  clear hs3 hown3 hg3 hB2
  refine HW.out.mono ?_
  rintro e w4 ⟨A4, c4, rfl, hb4⟩
  go_wp2_with (go_at_call 17; refine (num_any _ _).mono ?_; rintro e w' ⟨rfl, rfl⟩)
  go_ret
  exact ⟨rfl, HB3.out.trans (hb4.mono HB3.out.size)⟩

end Go.Proofs.Ytpkbkliblbbdcaa
