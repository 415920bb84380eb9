/- The law's known; same. -/
import Derived.Test.YtiodhihddpbadaaKi
namespace Go.Proofs.Ytiodhihddpbadaa
open Go.RowKit

/-- an area of the call's own -/
def KA (w W : World) (b : Nat) (c : CS) : Prop := ∃ g0 p0 g1 p1, AX W b g0 p0 g1 p1 c ∧ (∀ j, foot b g0 g1 j → w.heap.size ≤ j) ∧ Below w.heap.size w W
theorem KA.alloc {w W : World} {b : Nat} {c : CS} (h : KA w W b c) (k : Nat) (hk : allocK c = some k) : Calls Try.prog 16 #[.pointer (some ⟨b, 0, none⟩)] W fun e w' => e = .returned (.tuple #[.int .i64 (turn c k : Int), .int .i64 0]) ∧ Hid (KA w w' b (allocS c k)) := by
  obtain ⟨g0, p0, g1, p1, h1, h2, h3⟩ := h
  refine (alloc_any W b g0 p0 g1 p1 c h1 k hk).mono ?_
  rintro e w' ⟨rfl, h4, h5⟩
  exact ⟨rfl, g0, p0, g1, p1, h4, h2, h3.trans (h5.below h3.size h2)⟩
theorem KA.full {w W : World} {b : Nat} {c : CS} (h : KA w W b c) (hk : allocK c = none) : Calls Try.prog 16 #[.pointer (some ⟨b, 0, none⟩)] W fun e w' => e = .returned (.tuple #[.int .i64 0, .int .i64 8]) ∧ W = w' := by
  obtain ⟨g0, p0, g1, p1, h1, h2, h3⟩ := h
  exact alloc_full W b g0 p0 g1 p1 c h1 hk
theorem KA.dec {w W : World} {b : Nat} {c : CS} (h : KA w W b c) (n : Nat) (hn : n < c.now.length) (h0 : nowAt c n ≠ 0) : Calls Try.prog 17 #[.pointer (some ⟨b, 0, none⟩), .int .i64 (n : Int)] W fun e w' => e = .returned (.tuple #[.int .u16 ((nowAt c n - 1 : Nat) : Int), .int .i64 0]) ∧ Hid (KA w w' b (decS c n)) := by
  obtain ⟨g0, p0, g1, p1, h1, h2, h3⟩ := h
  refine (dec_any W b g0 p0 g1 p1 c h1 n hn h0).mono ?_
  rintro e w' ⟨rfl, h4, h5⟩
  exact ⟨rfl, g0, p0, g1, p1, h4, h2, h3.trans (h5.below h3.size h2)⟩

def k0 : CS := ⟨[1, 0, 0], [1, 0, 0], 0, 0⟩
def k1 : CS := ⟨[1, 1, 0], [1, 0, 0], 2, 0⟩
def k2 : CS := ⟨[1, 1, 1], [1, 0, 0], 0, 0⟩
def k3 : CS := ⟨[1, 0, 1], [1, 0, 0], 0, 0⟩
theorem known_new (w W : World) (hb : Below w.heap.size w W) : Calls Try.prog 8 #[.slice (some ⟨W.heap.size, 0, none⟩) 3 3] (W.alloc (.cells #[.int .u16 1, .int .u16 0, .int .u16 0] 43)) fun e w' => ∃ b, e = .returned (.tuple #[.pointer (some ⟨b, 0, none⟩), .int .i64 0]) ∧ Hid (KA w w' b k0) := by
  have hs := shows_new W #[.int .u16 1, .int .u16 0, .int .u16 0] 43
  have hn := new_any (W.alloc (.cells #[.int .u16 1, .int .u16 0, .int .u16 0] 43)) (W.heap.size + 1) (some ⟨W.heap.size, 0, none⟩) [1, 0, 0] 3 hs (by decide) (by simp) (by decide)
  refine hn.mono ?_
  rintro e w' ⟨b, g0, p0, g1, p1, rfl, h1, h2, h3⟩
  have hs := hb.size
  refine ⟨b, rfl, g0, p0, g1, p1, h1, fun j hj => ?_, ?_⟩
  · have := h2 j hj; simp at this; omega
  · exact (hb.alloc hs _).trans (h3.mono (by simp; omega))
theorem known_any (w W : World) (hb : Below w.heap.size w W) : Calls Try.prog 6 #[] W fun e w' => e = .returned (.bool true) ∧ Below w.heap.size w w' := by
  have HN := Lib.hid (known_new w W hb)
  have h1 : ∀ w' b, KA w w' b k0 → Calls Try.prog 16 #[.pointer (some ⟨b, 0, none⟩)] w' fun e w' => e = .returned (.tuple #[.int .i64 1, .int .i64 0]) ∧ Hid (KA w w' b k1) := fun w' b h => h.alloc 1 rfl
  have h2 : ∀ w' b, KA w w' b k1 → Calls Try.prog 16 #[.pointer (some ⟨b, 0, none⟩)] w' fun e w' => e = .returned (.tuple #[.int .i64 2, .int .i64 0]) ∧ Hid (KA w w' b k2) := fun w' b h => h.alloc 0 rfl
  have h3 : ∀ w' b, KA w w' b k2 → Calls Try.prog 16 #[.pointer (some ⟨b, 0, none⟩)] w' fun e w'' => e = .returned (.tuple #[.int .i64 0, .int .i64 8]) ∧ w' = w'' := fun w' b h => h.full rfl
  have h4 : ∀ w' b, KA w w' b k2 → Calls Try.prog 17 #[.pointer (some ⟨b, 0, none⟩), .int .i64 1] w' fun e w' => e = .returned (.tuple #[.int .u16 0, .int .i64 0]) ∧ Hid (KA w w' b k3) := fun w' b h => h.dec 1 (by decide) (by decide)
  have h5 : ∀ w' b, KA w w' b k3 → Calls Try.prog 16 #[.pointer (some ⟨b, 0, none⟩)] w' fun e w' => e = .returned (.tuple #[.int .i64 1, .int .i64 0]) ∧ Hid (KA w w' b (allocS k3 1)) := fun w' b h => h.alloc 1 rfl
  have H1 := Lib.hid h1
  have H2 := Lib.hid h2
  have H3 := Lib.hid h3
  have H4 := Lib.hid h4
  have H5 := Lib.hid h5
  clear h1 h2 h3 h4 h5
  go_enter Try.func6, Try.ntmps6
  go_wp2_with (first
    | (go_at_call 8; (with_reducible refine HN.out.mono ?_); rintro e w1 ⟨b, rfl, ha⟩)
    | (go_at_call 16; (with_reducible refine (H5.out _ _ hd.out).mono ?_); rintro e w5 ⟨rfl, he⟩)
    | (go_at_call 17; (with_reducible refine (H4.out _ _ hc.out).mono ?_); rintro e w4 ⟨rfl, hd⟩)
    | (go_at_call 16; (with_reducible refine (H3.out _ _ hc.out).mono ?_); rintro e w3 ⟨rfl, rfl⟩)
    | (go_at_call 16; (with_reducible refine (H2.out _ _ hb.out).mono ?_); rintro e w3 ⟨rfl, hc⟩)
    | (go_at_call 16; (with_reducible refine (H1.out _ _ ha.out).mono ?_); rintro e w2 ⟨rfl, hb⟩)
    | fail)
  go_ret
  obtain ⟨g0, p0, g1, p1, _, _, h⟩ := he.out
  exact ⟨rfl, h⟩
end Go.Proofs.Ytiodhihddpbadaa
