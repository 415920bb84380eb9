/- The chapter's row is known. -/
import Derived.Test.YtbencgjihoiieaaPk
set_option linter.unusedVariables false
namespace Go.Proofs.Ytbencgjihoiieaa
open Go.RowKit

theorem own_shows {w : World} {base : Nat} {v : Value} {l : List SP} (h : w.ownsRow base 23 3 v l.length (cells3 l)) : ∃ A c, v = .slice A l.length c ∧ ShowsP w w.heap.size A l ∧ (∀ p, A = some p → base ≤ p.block) := by
  have h1 := h.1
  rcases h.2 with ⟨rfl, h0⟩ | ⟨g, cap, cur, rfl, hg, hh, hc, hm, hcs, htake⟩
  · refine ⟨none, 0, by rw [h0], ⟨h1, fun hp => by omega⟩, fun p hp => by cases hp⟩
  · refine ⟨_, cap, rfl, ⟨h1, fun hp => ⟨⟨g, 0, none⟩, rfl, (h.lt g rfl).2, h.cells (g := g) rfl⟩⟩, fun p hp => ?_⟩
    injection hp with hp
    subst hp
    exact hg
theorem row36 : rowL 3 6 = [⟨0, 3, 4⟩, ⟨1, 0, 4⟩, ⟨2, 0, 1⟩] := by
  have e : rowL ((3 : Nat) : Int) ((6 : Nat) : Int) = partsL 3 6 := rowL_good 3 6 (by omega) (by omega)
  exact e.trans rfl
theorem lit36 (w : World) : ShowsP (w.alloc (.cells #[.int .i64 0, .int .i64 3, .int .i64 4, .int .i64 1, .int .i64 0, .int .i64 4, .int .i64 2, .int .i64 0, .int .i64 1] 23)) (w.heap.size + 1) (some ⟨w.heap.size, 0, none⟩) [⟨0, 3, 4⟩, ⟨1, 0, 4⟩, ⟨2, 0, 1⟩] :=
  shows_new w #[.int .i64 0, .int .i64 3, .int .i64 4, .int .i64 1, .int .i64 0, .int .i64 4, .int .i64 2, .int .i64 0, .int .i64 1] 23
theorem same36 (w : World) (A B : Option Addr) (ca cb : Nat) (ha : ShowsP w w.heap.size A [⟨0, 3, 4⟩, ⟨1, 0, 4⟩, ⟨2, 0, 1⟩]) (hb : ShowsP w w.heap.size B [⟨0, 3, 4⟩, ⟨1, 0, 4⟩, ⟨2, 0, 1⟩]) :
    Calls Try.prog 8 #[.slice A 3 ca, .slice B 3 cb] w fun e w' => e = .returned (.bool true) ∧ Below w.heap.size w w' := same_any w A B ca cb [⟨0, 3, 4⟩, ⟨1, 0, 4⟩, ⟨2, 0, 1⟩] (by simp) ha hb
theorem known_any (w : World) : Calls Try.prog 6 #[] w fun e w' => e = .returned (.bool true) ∧ Below w.heap.size w w' := by
  have HS := Lib.hid (split_any w 3 6 (by omega) (by omega))
  rw [row36] at HS
  go_enter Try.func6, Try.ntmps6
  go_wp2_with (first
    | (go_at_call 9; (with_reducible refine HS.out.mono ?_); rintro e w1 ⟨v, rfl, hown, hbel⟩; obtain ⟨A, c, rfl, hsh, _⟩ := own_shows hown; simp only [List.length_cons, List.length_nil, Nat.reduceAdd]; have HA := Lib.hid hsh; have HB := Lib.hid hbel; clear hown hsh hbel)
    | (go_at_call 8; (with_reducible refine (same36 _ _ _ _ _ (((HA.out.alloc (Nat.le_refl _) _)).wide (by simp)) ((lit36 _).wide (by simp))).mono ?_); rintro e w2 ⟨rfl, hb2⟩; have HB2 := Lib.hid hb2; clear hb2)
    | fail)
  go_ret
  exact ⟨rfl, (HB.out.alloc HB.out.size _).trans (HB2.out.mono (by have := HB.out.size; simp; omega))⟩
end Go.Proofs.Ytbencgjihoiieaa
