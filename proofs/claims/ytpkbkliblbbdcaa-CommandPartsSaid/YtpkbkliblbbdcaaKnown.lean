/- The chapter's rows hold: the walk of the law's own check 'known'. -/
import Derived.Test.YtpkbkliblbbdcaaPack
import Derived.Test.YtpkbkliblbbdcaaUnpk
import Derived.Laws.BytesString
import Derived.Laws.IdiomStrings
namespace Go.Proofs.Ytpkbkliblbbdcaa
open Go.RowKit
set_option maxRecDepth 20000

/-- a text of bytes -/
def txt (l : List UInt8) : Value := .string ⟨l.toArray⟩

theorem str_shows {P : Program} (src dst e : TypeId) (hs : P.underlying src = some (.slice e)) (he : P.underlying e = some (.int .u8)) (hd : P.underlying dst = some .string)
    {w : World} {B : Nat} {A : Option Addr} {n c : Nat} {l : List UInt8} (h : Shows w B A n (cells8 l)) : (convert src dst (.slice A n c)).run P w = .ok (.string ⟨l.toArray⟩) w := by
  rw [run_convert_bytes_string w src dst e A n c hs he hd]
  have hn : n = l.length := by rw [← h.len, cells8_length]
  cases A with
  | none =>
    have hl : l = [] := by
      rcases Nat.eq_zero_or_pos n with h0 | h0
      · exact List.eq_nil_of_length_eq_zero (by omega)
      · obtain ⟨p, hp, _⟩ := h.lies h0
        cases hp
    subst hl
    simp [Conv.bytesToString]
    rfl
  | some p =>
    have hload : (loadCells p (cells8 l).length).run P w = .ok (cells8 l).toArray w := by
      refine run_loadCells_list (P := P) w p (cells8 l) fun j v hv => ?_
      have hj : j < (cells8 l).length := by
        rcases Nat.lt_or_ge j (cells8 l).length with h1 | h1
        · exact h1
        · rw [List.getElem?_eq_none h1] at hv; cases hv
      obtain ⟨q, hq, _, hx⟩ := h.lies (by rw [← h.len]; omega)
      injection hq with hq
      subst hq
      exact hx j v hv
    rw [cells8_length, ← hn] at hload
    have hc : cells8 l = (l.map fun b => (b.toNat : Int)).map (Value.int .u8) := by simp [cells8]
    rw [hc] at hload
    rw [run_bytesToString w p n c _ hload, foldl_push_byteCells]
    simp

theorem own_below {w w' : World} {base n : Nat} {e : TypeId} {v : Value} {xs : List Value} (h : w.ownsRow base e 1 v n xs) (hb : Below w.heap.size w w') : w'.ownsRow base e 1 v n xs := by
  refine ⟨h.1, ?_⟩
  rcases h.2 with h2 | ⟨g, cap, cur, hv, hg, hh, hr⟩
  · exact .inl h2
  · exact .inr ⟨g, cap, cur, hv, hg, (hb.block g (Array.getElem?_eq_some_iff.1 hh).1).trans hh, hr⟩
theorem own_form {w : World} {base n : Nat} {e : TypeId} {v : Value} {xs : List Value} (h : w.ownsRow base e 1 v n xs) : ∃ A c, v = .slice A n c ∧ n ≤ c ∧ c ≤ maxLen := by
  rcases h.2 with ⟨rfl, rfl⟩ | ⟨g, cap, cur, rfl, _, _, hc, hm, _⟩
  · exact ⟨none, 0, rfl, Nat.le_refl _, Nat.zero_le _⟩
  · exact ⟨_, cap, rfl, hc, hm⟩
theorem str_own {w : World} {base n : Nat} {v : Value} {l : List UInt8} (h : w.ownsRow base 5 1 v n (cells8 l)) : (convert 24 9 v).run Try.prog w = .ok (.string ⟨l.toArray⟩) w := by
  obtain ⟨A, c, rfl, _⟩ := own_form h
  exact str_shows 24 9 5 Try.underlying24 Try.underlying5 Try.underlying9 (Shows.owned h)

theorem shape_a : bs ⟨#[52, 63, 42]⟩ = [52, 63, 42] := rfl
theorem shape_b : bs ⟨#[50]⟩ = [50] := rfl
theorem pack_row : packR [52, 63, 42] [.num 258, .flag true, .blob [7]] = some [2, 1, 0, 0, 1, 1, 0, 0, 0, 7] := by rfl
theorem unpack_row : unpZ [50] [3, 1, 9] = some ([.num 259], 2) := by rfl
theorem may_row : mayS [50] = true := by rfl

theorem known_pack (w : World) :
    Calls Try.prog 33 #[.string ⟨#[52, 63, 42]⟩, .slice (some ⟨w.heap.size + 1, 0, none⟩) 3 3]
      ((w.alloc (.cells #[.int .u8 7] 5)).alloc (.cells #[.iface 23 (.int .u64 258), .iface 4 (.bool true), .iface 24 (.slice (some ⟨w.heap.size, 0, none⟩) 1 1)] 20))
      fun e w' => ∃ v, e = .returned (.tuple #[v, .int .i64 0]) ∧ w'.ownsRow (w.heap.size + 2) 5 1 v 10 (cells8 [2, 1, 0, 0, 1, 1, 0, 0, 0, 7]) ∧ Below w.heap.size w w' := by
  have hsz : ((w.alloc (.cells #[.int .u8 7] 5)).alloc (.cells #[.iface 23 (.int .u64 258), .iface 4 (.bool true), .iface 24 (.slice (some ⟨w.heap.size, 0, none⟩) 1 1)] 20)).heap.size = w.heap.size + 2 := by simp
  have hs1 : (w.alloc (.cells #[.int .u8 7] 5)).heap.size = w.heap.size + 1 := by simp
  have hv := shows_new (w.alloc (.cells #[.int .u8 7] 5)) #[.iface 23 (.int .u64 258), .iface 4 (.bool true), .iface 24 (.slice (some ⟨w.heap.size, 0, none⟩) 1 1)] 20
  rw [hs1] at hv
  have hb := (shows_new w #[.int .u8 7] 5).alloc (by rw [hs1]; omega) (.cells #[.iface 23 (.int .u64 258), .iface 4 (.bool true), .iface 24 (.slice (some ⟨w.heap.size, 0, none⟩) 1 1)] 20)
  have hbel : Below w.heap.size w ((w.alloc (.cells #[.int .u8 7] 5)).alloc (.cells #[.iface 23 (.int .u64 258), .iface 4 (.bool true), .iface 24 (.slice (some ⟨w.heap.size, 0, none⟩) 1 1)] 20)) :=
    ((Below.refl _ _).alloc (Nat.le_refl _) _).alloc (by rw [hs1]; omega) _
  generalize ((w.alloc (.cells #[.int .u8 7] 5)).alloc (.cells #[.iface 23 (.int .u64 258), .iface 4 (.bool true), .iface 24 (.slice (some ⟨w.heap.size, 0, none⟩) 1 1)] 20)) = W at *
  refine (pack_any ⟨#[52, 63, 42]⟩ (some ⟨w.heap.size + 1, 0, none⟩) 3 3 _ [.num 258, .flag true, .blob [7]] W (by decide) (by omega) (hv.wide (by omega)) rfl ?_).mono ?_
  · intro i hi
    match i, hi with
    | 0, _ => exact ⟨_, rfl, rfl, by decide⟩
    | 1, _ => exact ⟨_, rfl, rfl⟩
    | 2, _ => exact ⟨_, rfl, some ⟨w.heap.size, 0, none⟩, 1, rfl, hb.wide (by omega), by decide, by decide⟩
  · rw [shape_a, pack_row]
    rintro e w' ⟨v, rfl, ho, hbw⟩
    rw [hsz] at ho hbw
    exact ⟨v, rfl, ho, hbel.trans (hbw.mono (by omega))⟩

theorem known_unpack (w : World) :
    Calls Try.prog 46 #[.string ⟨#[50]⟩, .slice (some ⟨w.heap.size, 0, none⟩) 3 3] (w.alloc (.cells #[.int .u8 3, .int .u8 1, .int .u8 9] 5))
      fun e w' => ∃ g cap, e = .returned (.tuple #[.slice (some ⟨g, 0, none⟩) 1 cap, .int .i64 2, .int .i64 0]) ∧ w'.cell? ⟨g, 0, none⟩ = some (.iface 23 (.int .u64 259)) ∧ Below w.heap.size w w' := by
  have hs1 : (w.alloc (.cells #[.int .u8 3, .int .u8 1, .int .u8 9] 5)).heap.size = w.heap.size + 1 := by simp
  have hv := shows_new w #[.int .u8 3, .int .u8 1, .int .u8 9] 5
  have hbel : Below w.heap.size w (w.alloc (.cells #[.int .u8 3, .int .u8 1, .int .u8 9] 5)) := (Below.refl _ _).alloc (Nat.le_refl _) _
  generalize (w.alloc (.cells #[.int .u8 3, .int .u8 1, .int .u8 9] 5)) = W at *
  refine (unpack_any ⟨#[50]⟩ (w.heap.size + 1) (some ⟨w.heap.size, 0, none⟩) 3 [3, 1, 9] W (by decide) hv (by omega) (by decide) (by decide)).mono ?_
  rintro e w' ⟨hb, hr⟩
  rw [shape_b, if_pos may_row, unpack_row] at hr
  obtain ⟨v, vs, rfl, ho, ha⟩ := hr
  obtain ⟨x, hx, hox⟩ := ha.2 0 (by decide)
  obtain ⟨rfl, _⟩ := hox
  rcases ho.2 with ⟨_, h0⟩ | ⟨g, cap, cur, rfl, hg, hh, _⟩
  · cases h0
  · refine ⟨g, cap, rfl, ?_, hbel.trans (hb.mono (by omega))⟩
    rw [World.ownsRow.cellAt ho 0 (by decide)]
    exact hx

end Go.Proofs.Ytpkbkliblbbdcaa
