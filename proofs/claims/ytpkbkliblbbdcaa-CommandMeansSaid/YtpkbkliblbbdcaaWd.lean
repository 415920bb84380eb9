/- The chapter's rows hold: the walk of the law's own check 'known'. There and back, in plain mathematics: what was unpacked is packed as the bytes that it took; shapes one behind the other. The walk of the law WireBounds: bytes at their bound, a shape of nothing, values of other types. -/
import Derived.Test.YtpkbkliblbbdcaaWb
import Derived.Test.YtpkbkliblbbdcaaWc
import Derived.Laws.BytesString
import Derived.Laws.IdiomStrings
section
namespace Go.Proofs.Ytpkbkliblbbdcaa
open Go.RowKit
set_option maxRecDepth 20000

/-- a text of bytes -/
def txt (l : List UInt8) : Value := .string ⟨l.toArray⟩

theorem str_shows {P : Program} (src dst e : TypeId) (hs : P.underlying src = some (.slice e)) (he : P.underlying e = some (.int .u8)) (hd : P.underlying dst = some .string)
    {w : World} {B : Nat} {A : Option Addr} {n c : Nat} {l : List UInt8} (h : Shows w B A n (cells8 l)) : (convert src dst (.slice A n c)).run P w = .ok (.string ⟨l.toArray⟩) w := by
  rw [run_convert_bytes_string w src dst e A n c hs he hd]
  have hn : n = l.length := by rw [← h.len, cells8_length]
  cases A with
  | none =>
    have hl : l = [] := by
      rcases Nat.eq_zero_or_pos n with h0 | h0
      · exact List.eq_nil_of_length_eq_zero (by omega)
      · obtain ⟨p, hp, _⟩ := h.lies h0
        cases hp
    subst hl
    simp [Conv.bytesToString]
    rfl
  | some p =>
    have hload : (loadCells p (cells8 l).length).run P w = .ok (cells8 l).toArray w := by
      refine run_loadCells_list (P := P) w p (cells8 l) fun j v hv => ?_
      have hj : j < (cells8 l).length := by
        rcases Nat.lt_or_ge j (cells8 l).length with h1 | h1
        · exact h1
        · rw [List.getElem?_eq_none h1] at hv; cases hv
      obtain ⟨q, hq, _, hx⟩ := h.lies (by rw [← h.len]; omega)
      injection hq with hq
      subst hq
      exact hx j v hv
    rw [cells8_length, ← hn] at hload
    have hc : cells8 l = (l.map fun b => (b.toNat : Int)).map (Value.int .u8) := by simp [cells8]
    rw [hc] at hload
    rw [run_bytesToString w p n c _ hload, foldl_push_byteCells]
    simp

theorem own_below {w w' : World} {base n : Nat} {e : TypeId} {v : Value} {xs : List Value} (h : w.ownsRow base e 1 v n xs) (hb : Below w.heap.size w w') : w'.ownsRow base e 1 v n xs := by
  refine ⟨h.1, ?_⟩
  rcases h.2 with h2 | ⟨g, cap, cur, hv, hg, hh, hr⟩
  · exact .inl h2
  · exact .inr ⟨g, cap, cur, hv, hg, (hb.block g (Array.getElem?_eq_some_iff.1 hh).1).trans hh, hr⟩
theorem own_form {w : World} {base n : Nat} {e : TypeId} {v : Value} {xs : List Value} (h : w.ownsRow base e 1 v n xs) : ∃ A c, v = .slice A n c ∧ n ≤ c ∧ c ≤ maxLen := by
  rcases h.2 with ⟨rfl, rfl⟩ | ⟨g, cap, cur, rfl, _, _, hc, hm, _⟩
  · exact ⟨none, 0, rfl, Nat.le_refl _, Nat.zero_le _⟩
  · exact ⟨_, cap, rfl, hc, hm⟩
theorem str_own {w : World} {base n : Nat} {v : Value} {l : List UInt8} (h : w.ownsRow base 5 1 v n (cells8 l)) : (convert 24 9 v).run Try.prog w = .ok (.string ⟨l.toArray⟩) w := by
  obtain ⟨A, c, rfl, _⟩ := own_form h
  exact str_shows 24 9 5 Try.underlying24 Try.underlying5 Try.underlying9 (Shows.owned h)

theorem shape_a : bs ⟨#[52, 63, 42]⟩ = [52, 63, 42] := rfl
theorem shape_b : bs ⟨#[50]⟩ = [50] := rfl
theorem pack_row : packR [52, 63, 42] [.num 258, .flag true, .blob [7]] = some [2, 1, 0, 0, 1, 1, 0, 0, 0, 7] := by rfl
theorem unpack_row : unpZ [50] [3, 1, 9] = some ([.num 259], 2) := by rfl
theorem may_row : mayS [50] = true := by rfl

theorem known_pack (w : World) :
    Calls Try.prog 33 #[.string ⟨#[52, 63, 42]⟩, .slice (some ⟨w.heap.size + 1, 0, none⟩) 3 3]
      ((w.alloc (.cells #[.int .u8 7] 5)).alloc (.cells #[.iface 23 (.int .u64 258), .iface 4 (.bool true), .iface 24 (.slice (some ⟨w.heap.size, 0, none⟩) 1 1)] 20))
      fun e w' => ∃ v, e = .returned (.tuple #[v, .int .i64 0]) ∧ w'.ownsRow (w.heap.size + 2) 5 1 v 10 (cells8 [2, 1, 0, 0, 1, 1, 0, 0, 0, 7]) ∧ Below w.heap.size w w' := by
  have hsz : ((w.alloc (.cells #[.int .u8 7] 5)).alloc (.cells #[.iface 23 (.int .u64 258), .iface 4 (.bool true), .iface 24 (.slice (some ⟨w.heap.size, 0, none⟩) 1 1)] 20)).heap.size = w.heap.size + 2 := by simp
  have hs1 : (w.alloc (.cells #[.int .u8 7] 5)).heap.size = w.heap.size + 1 := by simp
  have hv := shows_new (w.alloc (.cells #[.int .u8 7] 5)) #[.iface 23 (.int .u64 258), .iface 4 (.bool true), .iface 24 (.slice (some ⟨w.heap.size, 0, none⟩) 1 1)] 20
  rw [hs1] at hv
  have hb := (shows_new w #[.int .u8 7] 5).alloc (by rw [hs1]; omega) (.cells #[.iface 23 (.int .u64 258), .iface 4 (.bool true), .iface 24 (.slice (some ⟨w.heap.size, 0, none⟩) 1 1)] 20)
  have hbel : Below w.heap.size w ((w.alloc (.cells #[.int .u8 7] 5)).alloc (.cells #[.iface 23 (.int .u64 258), .iface 4 (.bool true), .iface 24 (.slice (some ⟨w.heap.size, 0, none⟩) 1 1)] 20)) :=
    ((Below.refl _ _).alloc (Nat.le_refl _) _).alloc (by rw [hs1]; omega) _
  generalize ((w.alloc (.cells #[.int .u8 7] 5)).alloc (.cells #[.iface 23 (.int .u64 258), .iface 4 (.bool true), .iface 24 (.slice (some ⟨w.heap.size, 0, none⟩) 1 1)] 20)) = W at *
  refine (pack_any ⟨#[52, 63, 42]⟩ (some ⟨w.heap.size + 1, 0, none⟩) 3 3 _ [.num 258, .flag true, .blob [7]] W (by decide) (by omega) (hv.wide (by omega)) rfl ?_).mono ?_
  · intro i hi
    match i, hi with
    | 0, _ => exact ⟨_, rfl, rfl, by decide⟩
    | 1, _ => exact ⟨_, rfl, rfl⟩
    | 2, _ => exact ⟨_, rfl, some ⟨w.heap.size, 0, none⟩, 1, rfl, hb.wide (by omega), by decide, by decide⟩
  · rw [shape_a, pack_row]
    rintro e w' ⟨v, rfl, ho, hbw⟩
    rw [hsz] at ho hbw
    exact ⟨v, rfl, ho, hbel.trans (hbw.mono (by omega))⟩

theorem known_unpack (w : World) :
    Calls Try.prog 46 #[.string ⟨#[50]⟩, .slice (some ⟨w.heap.size, 0, none⟩) 3 3] (w.alloc (.cells #[.int .u8 3, .int .u8 1, .int .u8 9] 5))
      fun e w' => ∃ g cap, e = .returned (.tuple #[.slice (some ⟨g, 0, none⟩) 1 cap, .int .i64 2, .int .i64 0]) ∧ w'.cell? ⟨g, 0, none⟩ = some (.iface 23 (.int .u64 259)) ∧ Below w.heap.size w w' := by
  have hs1 : (w.alloc (.cells #[.int .u8 3, .int .u8 1, .int .u8 9] 5)).heap.size = w.heap.size + 1 := by simp
  have hv := shows_new w #[.int .u8 3, .int .u8 1, .int .u8 9] 5
  have hbel : Below w.heap.size w (w.alloc (.cells #[.int .u8 3, .int .u8 1, .int .u8 9] 5)) := (Below.refl _ _).alloc (Nat.le_refl _) _
  generalize (w.alloc (.cells #[.int .u8 3, .int .u8 1, .int .u8 9] 5)) = W at *
  refine (unpack_any ⟨#[50]⟩ (w.heap.size + 1) (some ⟨w.heap.size, 0, none⟩) 3 [3, 1, 9] W (by decide) hv (by omega) (by decide) (by decide)).mono ?_
  rintro e w' ⟨hb, hr⟩
  rw [shape_b, if_pos may_row, unpack_row] at hr
  obtain ⟨v, vs, rfl, ho, ha⟩ := hr
  obtain ⟨x, hx, hox⟩ := ha.2 0 (by decide)
  obtain ⟨rfl, _⟩ := hox
  rcases ho.2 with ⟨_, h0⟩ | ⟨g, cap, cur, rfl, hg, hh, _⟩
  · cases h0
  · refine ⟨g, cap, rfl, ?_, hbel.trans (hb.mono (by omega))⟩
    rw [World.ownsRow.cellAt ho 0 (by decide)]
    exact hx

end Go.Proofs.Ytpkbkliblbbdcaa
end

section
namespace Go.Proofs.Ytpkbkliblbbdcaa
open Go.RowKit
set_option maxRecDepth 20000

theorem dec1_enc1 {c : Int} {l : List UInt8} {p : PV} {k : Nat} (hc : ¬ lst c = 0) (h : dec1 c l = some (p, k)) : enc1 c p = some (l.take k) := by
  unfold dec1 at h
  split at h
  · cases h
  · rename_i hs
    split at h
    · rename_i h63; subst h63; rw [lst_63] at hs
      split at h
      · cases h
      · rename_i hb
        injection h with h; injection h with h1 h2; subst h1; subst h2
        cases l with
        | nil => simp at hs
        | cons a l =>
          simp only [List.getD_cons_zero] at hb ⊢
          simp only [enc1, if_true, List.take_succ_cons, List.take_zero, Option.some.injEq, List.cons.injEq, and_true]
          have ha : a.toNat = 0 ∨ a.toNat = 1 := by omega
          rcases ha with ha | ha
          · have : a = 0 := UInt8.toNat.inj (by simpa using ha)
            subst this; rfl
          · have : a = 1 := UInt8.toNat.inj (by simpa using ha)
            subst this; rfl
    · split at h
      · rename_i h42; subst h42; rw [lst_42] at hs
        split at h
        · cases h
        · rename_i hb
          injection h with h; injection h with h1 h2; subst h1; subst h2
          have hx : ((l.drop 4).take (num8 (l.take 4))).length = num8 (l.take 4) := by rw [List.length_take, List.length_drop]; omega
          simp only [enc1, hx, true_and]
          rw [if_pos (by omega)]
          have h4 : (l.take 4).length = 4 := by rw [List.length_take]; omega
          have hlow := low_num8 (l.take 4)
          rw [h4] at hlow
          rw [hlow, List.take_add]
      · split at h
        · rename_i h35; subst h35; rw [lst_35] at hs
          injection h with h; injection h with h1 h2; subst h1; subst h2
          have hx : (l.take 256).length = 256 := by rw [List.length_take]; omega
          simp only [enc1, hx, and_self, if_true]
        · have e := lst_num c (by assumption) (by assumption) (by assumption)
          rw [e] at hs hc
          injection h with h; injection h with h1 h2; subst h1; subst h2
          have hw := wid_le c
          have hx : (l.take (wid c).toNat).length = (wid c).toNat := by rw [List.length_take]; omega
          have hlow := low_num8 (l.take (wid c).toNat)
          have hlt := num8_lt (l.take (wid c).toNat)
          rw [hx] at hlow hlt
          simp only [enc1]
          rw [if_pos ⟨hc, hlt⟩, hlow]

theorem unpZ_pack {s l : List UInt8} {ps : List PV} {n : Nat} (hm : mayS s = true) (h : unpZ s l = some (ps, n)) : packZ (s.zip ps) = some (l.take n) := by
  induction s generalizing l ps n with
  | nil => simp only [unpZ, Option.some.injEq, Prod.mk.injEq] at h; obtain ⟨rfl, rfl⟩ := h; simp [packZ]
  | cons c s ih =>
    simp only [unpZ] at h
    cases hd : dec1 (c.toNat : Int) l with
    | none => rw [hd] at h; cases h
    | some q =>
      obtain ⟨p, k⟩ := q
      rw [hd] at h
      simp only [Option.map_eq_some_iff] at h
      obtain ⟨⟨r1, r2⟩, hr, he⟩ := h
      simp only [Prod.mk.injEq] at he
      obtain ⟨rfl, rfl⟩ := he
      simp only [mayS, List.all_cons, Bool.and_eq_true] at hm
      have hc : ¬ lst (c.toNat : Int) = 0 := by simpa [letter] using hm.1
      have hi := ih hm.2 hr
      rw [List.zip_cons_cons, packZ, dec1_enc1 hc hd]
      simp only [hi, Option.map_some, List.take_add]
theorem unpZ_packR {s l : List UInt8} {ps : List PV} {n : Nat} (hm : mayS s = true) (h : unpZ s l = some (ps, n)) : packR s ps = some (l.take n) := by
  rw [packR, if_pos ⟨hm, (unpZ_bounds h).2.2⟩]
  exact unpZ_pack hm h

theorem unpZ_app (s t l : List UInt8) : unpZ (s ++ t) l = (unpZ s l).bind fun r => (unpZ t (l.drop r.2)).map fun q => (r.1 ++ q.1, r.2 + q.2) := by
  induction s generalizing l with
  | nil => simp [unpZ]
  | cons c s ih =>
    simp only [List.cons_append, unpZ]
    cases dec1 (c.toNat : Int) l with
    | none => rfl
    | some q =>
      simp only [ih]
      cases unpZ s (l.drop q.2) with
      | none => rfl
      | some r =>
        simp only [Option.bind_some, Option.map_some, List.drop_drop]
        cases unpZ t (l.drop (q.2 + r.2)) with
        | none => rfl
        | some u => simp [Nat.add_assoc]
theorem mayS_app (s t : List UInt8) : mayS (s ++ t) = (mayS s && mayS t) := by simp [mayS]

theorem wid_letter {c : Int} (h : ¬ wid c = 0) : ¬ c = 63 ∧ ¬ c = 42 ∧ ¬ c = 35 := by
  refine ⟨?_, ?_, ?_⟩ <;> (rintro rfl; exact h (by decide))
theorem enc1_dec1 {c : Int} {p : PV} {a : List UInt8} (r : List UInt8) (h : enc1 c p = some a) : dec1 c (a ++ r) = some (p, a.length) := by
  cases p with
  | num n =>
    simp only [enc1] at h
    split at h
    · rename_i hc
      injection h with h
      subst h
      have hw := wid_le c
      obtain ⟨h1, h2, h3⟩ := wid_letter hc.1
      rw [dec1_num c _ h1 h2 h3 (by rw [lst_num c h1 h2 h3, List.length_append, low_length]; omega), low_length]
      have e : (low n (wid c).toNat ++ r).take (wid c).toNat = low n (wid c).toNat := by
        rw [List.take_append_of_le_length (by rw [low_length]; omega), List.take_of_length_le (by rw [low_length]; omega)]
      rw [e, num8_low, Nat.mod_eq_of_lt hc.2]
    · cases h
  | flag b =>
    simp only [enc1] at h
    split at h
    · rename_i hc
      injection h with h
      subst h
      subst hc
      rw [dec1_flag _ (by simp; omega)]
      cases b <;> simp [bit8]
    · cases h
  | blob l =>
    simp only [enc1] at h
    split at h
    · rename_i hc
      injection h with h
      subst h
      obtain ⟨rfl, hl⟩ := hc
      rw [dec1_blob _ (by rw [List.length_append, List.length_append, low_length]; omega), blobR]
      have e4 : (low l.length 4 ++ l ++ r).take 4 = low l.length 4 := by
        rw [List.append_assoc, List.take_append_of_le_length (by rw [low_length]; omega), List.take_of_length_le (by rw [low_length]; omega)]
      have ed : (low l.length 4 ++ l ++ r).drop 4 = l ++ r := by
        rw [List.append_assoc, List.drop_append_of_le_length (by rw [low_length]; omega), List.drop_of_length_le (by rw [low_length]; omega), List.nil_append]
      have en : num8 (low l.length 4) = l.length := by rw [num8_low, Nat.mod_eq_of_lt (by omega)]
      rw [e4, ed, en, if_neg (by simp only [List.length_append, low_length]; omega), List.take_append_of_le_length (Nat.le_refl _), List.take_length, List.length_append, low_length]
    · cases h
  | block l =>
    simp only [enc1] at h
    split at h
    · rename_i hc
      injection h with h
      subst h
      obtain ⟨rfl, hl⟩ := hc
      rw [dec1_block _ (by rw [List.length_append]; omega), List.take_append_of_le_length (by omega), List.take_of_length_le (by omega), hl]
    · cases h
  | other => simp [enc1] at h
theorem packZ_unpZ {s : List UInt8} {ps : List PV} {x : List UInt8} (r : List UInt8) (hl : ps.length = s.length) (h : packZ (s.zip ps) = some x) : unpZ s (x ++ r) = some (ps, x.length) := by
  induction s generalizing ps x with
  | nil =>
    have : ps = [] := List.eq_nil_of_length_eq_zero hl
    subst this
    simp only [List.zip_nil_left, packZ, Option.some.injEq] at h
    subst h
    simp [unpZ]
  | cons c s ih =>
    cases ps with
    | nil => simp at hl
    | cons p ps =>
      rw [List.zip_cons_cons, packZ] at h
      cases he : enc1 (c.toNat : Int) p with
      | none => rw [he] at h; cases h
      | some a =>
        rw [he] at h
        simp only [Option.map_eq_some_iff] at h
        obtain ⟨y, hy, rfl⟩ := h
        have hi := ih (by simpa using hl) hy
        rw [unpZ, List.append_assoc, enc1_dec1 (y ++ r) he]
        simp only [List.drop_left, hi, Option.map_some, List.length_append]
theorem packR_unpZ {s : List UInt8} {ps : List PV} {x : List UInt8} (r : List UInt8) (h : packR s ps = some x) : mayS s = true ∧ unpZ s (x ++ r) = some (ps, x.length) := by
  unfold packR at h
  split at h
  · rename_i hc
    exact ⟨hc.1, packZ_unpZ r hc.2 h⟩
  · cases h
theorem unpZ_more {s l : List UInt8} {ps : List PV} {n : Nat} (r : List UInt8) (hm : mayS s = true) (h : unpZ s l = some (ps, n)) : unpZ s (l ++ r) = some (ps, n) := by
  have hb := unpZ_bounds h
  have hp := packZ_unpZ (l.drop n ++ r) hb.2.2 (unpZ_pack hm h)
  rw [← List.append_assoc, List.take_append_drop, List.length_take, Nat.min_eq_left hb.2.1] at hp
  exact hp
/-- of fewer bytes nothing is unpacked -/
theorem unpZ_fewer {s : List UInt8} {ps : List PV} {x : List UInt8} (h : packR s ps = some x) (k : Nat) (hk : k < x.length) : unpZ s (x.take k) = none := by
  obtain ⟨hm, hu⟩ := packR_unpZ [] h
  rw [List.append_nil] at hu
  cases hn : unpZ s (x.take k) with
  | none => rfl
  | some q =>
    obtain ⟨qs, n⟩ := q
    have hb := unpZ_bounds hn
    have hmore := unpZ_more (x.drop k) hm hn
    rw [List.take_append_drop, hu] at hmore
    injection hmore with hmore
    injection hmore with _ hmore
    rw [List.length_take] at hb
    omega

/-- the error's number that Unpack tells -/
def unpE (s l : List UInt8) : Int := if mayS s = true then (if (unpZ s l).isSome = true then 0 else 4) else 2
theorem unpE_app_bad {s t l : List UInt8} (h : ¬ unpE s l = 0) : ¬ unpE (s ++ t) l = 0 := by
  unfold unpE at *
  rw [mayS_app, unpZ_app]
  cases hm : mayS s with
  | false => simp
  | true =>
    rw [hm] at h
    cases hu : unpZ s l with
    | none => simp; split <;> omega
    | some r => rw [hu] at h; simp at h
theorem unpE_zero {s l : List UInt8} (h : unpE s l = 0) : mayS s = true ∧ ∃ ps n, unpZ s l = some (ps, n) := by
  unfold unpE at h
  split at h
  · rename_i hm
    split at h
    · rename_i hu
      obtain ⟨⟨ps, n⟩, hr⟩ := Option.isSome_iff_exists.1 hu
      exact ⟨hm, ps, n, hr⟩
    · omega
  · omega
theorem unpE_app {s t l : List UInt8} {ps : List PV} {n : Nat} (hm : mayS s = true) (hu : unpZ s l = some (ps, n)) : unpE (s ++ t) l = unpE t (l.drop n) := by
  unfold unpE
  rw [mayS_app, unpZ_app, hm, hu]
  simp
theorem unpZ_app_some {s t l : List UInt8} {ps qs : List PV} {n m : Nat} (hu : unpZ s l = some (ps, n)) (ht : unpZ t (l.drop n) = some (qs, m)) : unpZ (s ++ t) l = some (ps ++ qs, n + m) := by
  rw [unpZ_app, hu]
  simp [ht]

/-- what Unpack leaves, with its error's number -/
theorem unpacked_shape {w w' : World} {s l : List UInt8} {e : Ending} (h : Unpacked w s l e w') :
    ∃ (v : Value) (n : Nat), e = .returned (.tuple #[v, .int .i64 (n : Int), .int .i64 (unpE s l)]) ∧
      (unpE s l = 0 → ∃ ps vs, unpZ s l = some (ps, n) ∧ w'.ownsRow w.heap.size 20 1 v ps.length vs ∧ AllOV w' w.heap.size vs ps) := by
  obtain ⟨_, h⟩ := h
  unfold unpE
  split at h
  · rename_i hm
    rw [if_pos hm]
    cases hu : unpZ s l with
    | none => rw [hu] at h; exact ⟨_, 0, h, fun h0 => by simp at h0⟩
    | some r =>
      obtain ⟨ps, n⟩ := r
      rw [hu] at h
      obtain ⟨v, vs, he, ho, ha⟩ := h
      exact ⟨v, n, he, fun _ => ⟨ps, vs, rfl, ho, ha⟩⟩
  · rename_i hm
    rw [if_neg hm]
    exact ⟨_, 0, h, fun h0 => by simp at h0⟩
theorem OV.iv {w : World} {B : Nat} {v : Value} {p : PV} (h : OV w B v p) : IV w w.heap.size v p := by
  cases p with
  | blob l =>
    obtain ⟨A, c, e, ho, hl⟩ := h
    obtain ⟨A', c', hv, hn, _⟩ := own_form ho
    injection hv with h1 h2 h3
    subst h1
    subst h3
    exact ⟨A, c, e, Shows.owned ho, hn, by omega⟩
  | num n => exact h
  | flag b => exact h
  | block l => exact h
  | other => exact .inr h
theorem AllOV.iv {w : World} {B : Nat} {vs : List Value} {ps : List PV} (h : AllOV w B vs ps) : ∀ i (hi : i < ps.length), ∃ v, vs[i]? = some v ∧ IV w w.heap.size v ps[i] :=
  fun i hi => by obtain ⟨x, hx, ho⟩ := h.2 i hi; exact ⟨x, hx, ho.iv⟩
theorem AllOV.mono {w : World} {B C : Nat} {vs : List Value} {ps : List PV} (h : AllOV w B vs ps) (hC : C ≤ B) : AllOV w C vs ps :=
  ⟨h.1, fun i hi => by obtain ⟨x, hx, ho⟩ := h.2 i hi; exact ⟨x, hx, ho.mono hC⟩⟩
theorem AllOV.append {w : World} {B : Nat} {vs us : List Value} {ps qs : List PV} (h : AllOV w B vs ps) (k : AllOV w B us qs) : AllOV w B (vs ++ us) (ps ++ qs) := by
  refine ⟨by simp [h.1, k.1], fun i hi => ?_⟩
  rcases Nat.lt_or_ge i ps.length with hlt | hge
  · obtain ⟨x, hx, ho⟩ := h.2 i hlt
    exact ⟨x, by rw [List.getElem?_append_left (by rw [h.1]; exact hlt)]; exact hx, by rw [List.getElem_append_left hlt]; exact ho⟩
  · have hi' : i - ps.length < qs.length := by rw [List.length_append] at hi; omega
    obtain ⟨x, hx, ho⟩ := k.2 (i - ps.length) hi'
    exact ⟨x, by rw [List.getElem?_append_right (by rw [h.1]; exact hge), h.1]; exact hx, by rw [List.getElem_append_right hge]; exact ho⟩
theorem AllOV.one {w : World} {B : Nat} {vs : List Value} {ps : List PV} (h : AllOV w B vs ps) : ∀ u ∈ vs, u.oneCell' = true := by
  intro u hu
  obtain ⟨i, hi, rfl⟩ := List.getElem_of_mem hu
  obtain ⟨x, hx, ho⟩ := h.2 i (by rw [← h.1]; exact hi)
  rw [List.getElem?_eq_getElem hi] at hx
  injection hx with hx
  rw [hx]
  exact ho.one
theorem bs_app (a c : ByteArray) : bs (a ++ c) = bs a ++ bs c := by
  simp only [bs, ByteArray.data_append, Array.toList_append]

theorem unpacked_ok {w w' : World} {s l : List UInt8} {e : Ending} {ps : List PV} {n : Nat} (h : Unpacked w s l e w') (hm : mayS s = true) (hu : unpZ s l = some (ps, n)) :
    ∃ A c vs, e = .returned (.tuple #[.slice A ps.length c, .int .i64 (n : Int), .int .i64 0]) ∧ w'.ownsRow w.heap.size 20 1 (.slice A ps.length c) ps.length vs ∧ AllOV w' w.heap.size vs ps ∧ Below w.heap.size w w' := by
  obtain ⟨hb, h⟩ := h
  rw [if_pos hm, hu] at h
  obtain ⟨v, vs, he, ho, ha⟩ := h
  obtain ⟨A, c, rfl, _⟩ := own_form ho
  exact ⟨A, c, vs, he, ho, ha, hb⟩
theorem packed_ok {w w' : World} {l : List UInt8} {e : Ending} (h : Packed w (some l) e w') :
    ∃ A c, e = .returned (.tuple #[.slice A l.length c, .int .i64 0]) ∧ w'.ownsRow w.heap.size 5 1 (.slice A l.length c) l.length (cells8 l) ∧ Below w.heap.size w w' ∧ l.length ≤ c ∧ c ≤ 9223372036854775807 := by
  obtain ⟨v, he, ho, hb⟩ := h
  obtain ⟨A, c, rfl, h1, h2⟩ := own_form ho
  exact ⟨A, c, he, ho, hb, h1, h2⟩

theorem unpack_at (s : ByteArray) (B : Nat) (A : Option Addr) (n cap : Nat) (l : List UInt8) (w : World) (hs : s.size ≤ 1000) (hl : Shows w B A n (cells8 l)) (hB : B ≤ w.heap.size) (hc : n ≤ cap) (hcm : cap ≤ 9223372036854775807) :
    Calls Try.prog 46 #[.string s, .slice A n cap] w (Unpacked w (bs s) l) := by
  have e : n = l.length := by rw [← hl.len, cells8_length]
  subst e
  exact unpack_any s B A cap l w hs hl hB hc hcm

end Go.Proofs.Ytpkbkliblbbdcaa
end

section
namespace Go.Proofs.Ytpkbkliblbbdcaa
open Go.RowKit
set_option maxRecDepth 20000

/-- as many noughts -/
def noughts (n : Nat) : List UInt8 := List.replicate n 0
theorem noughts_length (n : Nat) : (noughts n).length = n := List.length_replicate
theorem noughts_cells (n : Nat) : cells8 (noughts n) = List.replicate n (.int .u8 0) := by
  simp only [cells8, noughts, List.map_replicate]
  rfl
theorem noughts_made (n : Nat) : (madeCells (Value.int .u8 0).cells (n * 1)).toList = cells8 (noughts n) := by
  rw [noughts_cells, Nat.mul_one]
  exact toList_madeCells_one (.int .u8 0) n
theorem noughts_drop (n k : Nat) : (noughts n).drop k = noughts (n - k) := by simp only [noughts, List.drop_replicate]

theorem star_may : mayS [42] = true := by rfl
theorem star_bs : bs ⟨#[42]⟩ = [42] := rfl
theorem pack_star (l : List UInt8) (h : l.length ≤ 16777216) : packR [42] [.blob l] = some (low l.length 4 ++ l) := by
  have he : enc1 (((42 : UInt8).toNat : Nat) : Int) (.blob l) = some (low l.length 4 ++ l) := by
    show enc1 42 (.blob l) = _
    simp [enc1, h]
  rw [packR, if_pos ⟨star_may, rfl⟩, List.zip_cons_cons, packZ, he]
  simp [packZ]
theorem pack_star_long (l : List UInt8) (h : ¬ l.length ≤ 16777216) : packR [42] [.blob l] = none := by
  have he : enc1 (((42 : UInt8).toNat : Nat) : Int) (.blob l) = none := by
    show enc1 42 (.blob l) = _
    simp [enc1, h]
  rw [packR, if_pos ⟨star_may, rfl⟩, List.zip_cons_cons, packZ, he]
theorem unp_star_long (l : List UInt8) : unpE [42] ([1, 0, 0, 1] ++ l) = 4 := by
  have hd : dec1 (((42 : UInt8).toNat : Nat) : Int) ([1, 0, 0, 1] ++ l) = none := by
    show dec1 42 _ = _
    have hb : 16777216 < num8 (([1, 0, 0, 1] ++ l).take 4) := by
      show 16777216 < num8 [1, 0, 0, 1]
      decide
    rw [dec1_blob _ (by simp; omega), blobR, if_pos (.inl hb)]
  unfold unpE
  rw [if_pos star_may]
  simp only [unpZ, hd]
  rfl
theorem pack_nothing : packR [] [] = some [] := rfl
theorem pack_int : packR [49] [.other] = none := rfl
theorem pack_nil : packR [63] [.other] = none := rfl
theorem pack_extra : packR [] [.num 1] = none := rfl

/-- Pack of one value that lies in a block of its own -/
theorem pack_single (s : ByteArray) (v : Value) (p : PV) (w : World) (hs : s.size ≤ 1000) (hv : IV w w.heap.size v p) :
    Calls Try.prog 33 #[.string s, .slice (some ⟨w.heap.size, 0, none⟩) 1 1] (w.alloc (.cells #[v] 20))
      fun e w' => Packed w (packR (bs s) [p]) e w' := by
  have hs1 : (w.alloc (.cells #[v] 20)).heap.size = w.heap.size + 1 := by simp
  have hb : Below w.heap.size w (w.alloc (.cells #[v] 20)) := (Below.refl _ _).alloc (Nat.le_refl _) _
  have hsh := shows_new w #[v] 20
  have hv2 : IV (w.alloc (.cells #[v] 20)) (w.alloc (.cells #[v] 20)).heap.size v p := by
    have h1 := hv.below hb
    cases p with
    | blob l => obtain ⟨A, c, e, h2, h3⟩ := h1; exact ⟨A, c, e, h2.wide (by rw [hs1]; omega), h3⟩
    | num n => exact h1
    | flag b => exact h1
    | block l => exact h1
    | other => exact h1
  generalize hW : w.alloc (.cells #[v] 20) = W at *
  clear hW
  refine (pack_any s _ 1 1 [v] [p] W hs (by omega) (hsh.wide (by omega)) rfl ?_).mono ?_
  · intro i hi
    match i, hi with
    | 0, _ => exact ⟨v, rfl, hv2⟩
  · intro e w' h
    cases hr : packR (bs s) [p] with
    | none => rw [hr] at h; exact ⟨h.1, hb.trans (h.2.mono (by omega))⟩
    | some l =>
      rw [hr] at h
      obtain ⟨u, he, ho, hb2⟩ := h
      refine ⟨u, he, ⟨ho.1, ?_⟩, hb.trans (hb2.mono (by omega))⟩
      rcases ho.2 with h2 | ⟨g, cap, cur, hu, hg, hh⟩
      · exact .inl h2
      · exact .inr ⟨g, cap, cur, hu, by omega, hh⟩

theorem big_tail {w : World} {B g : Nat} (h : Shows w B (some ⟨g, 0, none⟩) 16777217 (cells8 (noughts 16777217))) : Shows w B (some ⟨g, 1, none⟩) 16777216 (cells8 (noughts 16777216)) := by
  have h1 := h.behind (k := 1) (cap := 16777217) (by omega) (by omega) (by omega) (by omega)
  rw [← cells8_drop, noughts_drop] at h1
  exact h1
theorem iv_blob {w : World} {B n c : Nat} {A : Option Addr} {l : List UInt8} (h : Shows w B A n (cells8 l)) (h1 : n ≤ c) (h2 : n ≤ 1073741824) : IV w B (.iface 24 (.slice A n c)) (.blob l) := by
  have e : n = l.length := by rw [← h.len, cells8_length]
  subst e
  exact ⟨A, c, rfl, h, h1, h2⟩
theorem star_there : ∃ X : List UInt8, packR [42] [.blob (noughts 16777216)] = some X ∧ X.length = 16777220 ∧ unpZ [42] X = some ([.blob (noughts 16777216)], 16777220) := by
  have h := pack_star (noughts 16777216) (by rw [noughts_length]; omega)
  have hu := (packR_unpZ [] h).2
  have hl : (low (noughts 16777216).length 4 ++ noughts 16777216).length = 16777220 := by rw [List.length_append, low_length, noughts_length]
  rw [List.append_nil, hl] at hu
  exact ⟨_, h, hl, hu⟩

end Go.Proofs.Ytpkbkliblbbdcaa
end
