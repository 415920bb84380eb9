/- Walks of cutBlob and cutValue of package wire. The walk of cutValue of package wire. What Unpack comes to, in plain mathematics; what is kept of unpacked values while memory grows. The walk of Unpack of package wire. -/
import Derived.Test.YtpkbkliblbbdcaaWb
section
namespace Go.Proofs.Ytpkbkliblbbdcaa
open Go.RowKit
set_option maxRecDepth 20000

/-- the interface value v is p; a blob's bytes are a row of its own, from block B on -/
def OV (w : World) (B : Nat) (v : Value) : PV → Prop
  | .num n => v = .iface 23 (.int .u64 (n : Int)) ∧ n < 18446744073709551616
  | .flag b => v = .iface 4 (.bool b)
  | .blob l => ∃ A c, v = .iface 24 (.slice A l.length c) ∧ w.ownsRow B 5 1 (.slice A l.length c) l.length (cells8 l) ∧ l.length ≤ 16777216
  | .block l => v = .iface 76 (.agg (cells8 l).toArray) ∧ l.length = 256
  | .other => ∃ n, v = .iface 3 (.int .i64 n)

/-- the value that bytes begin with, by a letter, and how many bytes it took -/
def dec1 (c : Int) (l : List UInt8) : Option (PV × Nat) :=
  if (l.length : Int) < lst c then none
  else if c = 63 then (if 1 < (l.getD 0 0).toNat then none else some (.flag ((l.getD 0 0).toNat == 1), 1))
  else if c = 42 then (if 16777216 < num8 (l.take 4) ∨ l.length - 4 < num8 (l.take 4) then none else some (.blob ((l.drop 4).take (num8 (l.take 4))), 4 + num8 (l.take 4)))
  else if c = 35 then some (.block (l.take 256), 256)
  else some (.num (num8 (l.take (wid c).toNat)), (wid c).toNat)

/-- what cutValue leaves -/
def Cut (w : World) (r : Option (PV × Nat)) (e : Ending) (w' : World) : Prop :=
  Below w.heap.size w w' ∧ match r with
  | some (p, k) => ∃ v, e = .returned (.tuple #[v, .int .i64 (k : Int), .bool true]) ∧ OV w' w.heap.size v p
  | none => e = .returned (.tuple #[.nilIface, .int .i64 0, .bool false])

def blobR (l : List UInt8) : Option (PV × Nat) := if 16777216 < num8 (l.take 4) ∨ l.length - 4 < num8 (l.take 4) then none else some (.blob ((l.drop 4).take (num8 (l.take 4))), 4 + num8 (l.take 4))

set_option maxHeartbeats 2000000 in
theorem cutBlob_any (B : Nat) (A : Option Addr) (cap : Nat) (l : List UInt8) (w : World) (hs : Shows w B A l.length (cells8 l)) (hB : B ≤ w.heap.size) (hl : 4 ≤ l.length) (hc : l.length ≤ cap) (hcm : cap ≤ 9223372036854775807) :
    Calls Try.prog 67 #[.slice A l.length cap] w (Cut w (blobR l)) := by
  obtain ⟨i0, hi, hz0, hz1, hz2⟩ := info_parts u8_info
  have hs4 : Shows w B A 4 (cells8 (l.take 4)) := by
    have := hs.upto (k := 4) hl
    rw [← cells8_take] at this
    exact this
  have hn4 : num8 (l.take 4) < 4294967296 := by
    have := num8_lt (l.take 4)
    rw [List.length_take, Nat.min_eq_left hl] at this
    exact this
  go_enter Try.func67, Try.ntmps67
  go_wp2_with fail
  refine (number_at B A 4 cap (l.take 4) w hs4 (by omega)).mono ?_
  rintro e w' ⟨rfl, rfl⟩
  generalize hx : num8 (l.take 4) = x at *
  have HX := Lib.hid hx
  clear hx
  by_cases hcap : cap = 4
  · subst hcap
    have hsr : Shows w B A 0 (cells8 (l.drop 4)) := by
      rw [List.drop_of_length_le (by omega)]
      exact Shows.empty w B A
    by_cases hb1 : 16777216 < x
    · go_wp2_with fail
      go_ret3
      exact ⟨Below.refl _ _, by rw [blobR, HX.out, if_pos (.inl hb1)]; rfl⟩
    · by_cases hb2 : l.length - 4 < x
      · go_wp2_with fail
        go_ret3
        exact ⟨Below.refl _ _, by rw [blobR, HX.out, if_pos (.inr hb2)]; rfl⟩
      · go_wp2_with (first
          | (at_make; refine wpList_make_full _ rfl _ _ 24 rfl w.heap.size 5 i0 _ 1 Try.underlying24 hi hz0 hz1 _ _ _ _ x rfl rfl rfl rfl (by rw [hz2]; omega) (by unfold maxLen; omega) (Nat.le_refl _) ?_; intro w3 hown3 hg3)
          | (refine wpList_copy_shows (w := w3) rfl (.tmp 24) (.tmp 25) 24 24 rfl 5 Try.underlying24 (by rw [hi]; exact congrArg some hz1) w.heap.size x 0 _ _ rfl rfl (by omega) w.heap.size _ (cells8 (l.drop 4)) hown3 B (hsr.below ((Below.refl _ _).grown hg3 hB (by simp))) (cells8_one _) w.heap.size w ((Below.refl _ _).grown hg3 (Nat.le_refl _) (by simp)) (Nat.le_refl _) ?_; intro w4 hown4 hb4))
        go_ret3
        refine ⟨hb4, ?_⟩
        have hbl : ((l.drop 4).take x).length = x := by rw [List.length_take, List.length_drop]; omega
        rw [blobR, HX.out, if_neg (by omega)]
        refine ⟨_, by rw [Int.natCast_add]; rfl, some ⟨w.heap.size, 0, none⟩, x, by rw [hbl]; rfl, ?_, by omega⟩
        rw [hbl, cells8_take]
        exact hown4
  · have hsr := hs.behind (k := 4) (by omega) hl hc hcap
    rw [← cells8_drop] at hsr
    by_cases hb1 : 16777216 < x
    · go_wp2_with fail
      go_ret3
      exact ⟨Below.refl _ _, by rw [blobR, HX.out, if_pos (.inl hb1)]; rfl⟩
    · by_cases hb2 : l.length - 4 < x
      · go_wp2_with fail
        go_ret3
        exact ⟨Below.refl _ _, by rw [blobR, HX.out, if_pos (.inr hb2)]; rfl⟩
      · go_wp2_with (first
          | (at_make; refine wpList_make_full _ rfl _ _ 24 rfl w.heap.size 5 i0 _ 1 Try.underlying24 hi hz0 hz1 _ _ _ _ x rfl rfl rfl rfl (by rw [hz2]; omega) (by unfold maxLen; omega) (Nat.le_refl _) ?_; intro w3 hown3 hg3)
          | (refine wpList_copy_shows (w := w3) rfl (.tmp 24) (.tmp 25) 24 24 rfl 5 Try.underlying24 (by rw [hi]; exact congrArg some hz1) w.heap.size x (l.length - 4) _ _ rfl rfl (by omega) w.heap.size _ (cells8 (l.drop 4)) hown3 B (hsr.below ((Below.refl _ _).grown hg3 hB (by simp))) (cells8_one _) w.heap.size w ((Below.refl _ _).grown hg3 (Nat.le_refl _) (by simp)) (Nat.le_refl _) ?_; intro w4 hown4 hb4))
        go_ret3
        refine ⟨hb4, ?_⟩
        have hbl : ((l.drop 4).take x).length = x := by rw [List.length_take, List.length_drop]; omega
        rw [blobR, HX.out, if_neg (by omega)]
        refine ⟨_, by rw [Int.natCast_add]; rfl, some ⟨w.heap.size, 0, none⟩, x, by rw [hbl]; rfl, ?_, by omega⟩
        rw [hbl, cells8_take]
        exact hown4

end Go.Proofs.Ytpkbkliblbbdcaa
end

section
namespace Go.Proofs.Ytpkbkliblbbdcaa
open Go.RowKit
set_option maxRecDepth 20000

theorem lst_63 : lst 63 = 1 := by decide
theorem lst_42 : lst 42 = 4 := by decide
theorem lst_35 : lst 35 = 256 := by decide
theorem lst_num (c : Int) (h1 : ¬ c = 63) (h2 : ¬ c = 42) (h3 : ¬ c = 35) : lst c = wid c := by simp [lst, h1, h2, h3]
theorem dec1_short (c : Int) (l : List UInt8) (h : (l.length : Int) < lst c) : dec1 c l = none := by simp [dec1, h]
theorem dec1_flag (l : List UInt8) (h : ¬ (l.length : Int) < 1) : dec1 63 l = if 1 < (l.getD 0 0).toNat then none else some (.flag ((l.getD 0 0).toNat == 1), 1) := by
  rw [dec1, lst_63, if_neg h, if_pos rfl]
theorem dec1_blob (l : List UInt8) (h : ¬ (l.length : Int) < 4) : dec1 42 l = blobR l := by
  rw [dec1, lst_42, if_neg h, if_neg (by decide), if_pos rfl, blobR]
theorem dec1_block (l : List UInt8) (h : ¬ (l.length : Int) < 256) : dec1 35 l = some (.block (l.take 256), 256) := by
  rw [dec1, lst_35, if_neg h, if_neg (by decide), if_neg (by decide), if_pos rfl]
theorem dec1_num (c : Int) (l : List UInt8) (h1 : ¬ c = 63) (h2 : ¬ c = 42) (h3 : ¬ c = 35) (h : ¬ (l.length : Int) < lst c) : dec1 c l = some (.num (num8 (l.take (wid c).toNat)), (wid c).toNat) := by
  rw [dec1, if_neg h, if_neg h1, if_neg h2, if_neg h3]

set_option maxRecDepth 5000 in
set_option maxHeartbeats 2000000 in
theorem cutValue_any (c : Int) (B : Nat) (A : Option Addr) (cap : Nat) (l : List UInt8) (w : World) (hs : Shows w B A l.length (cells8 l)) (hB : B ≤ w.heap.size) (hc : l.length ≤ cap) (hcm : cap ≤ 9223372036854775807) :
    Calls Try.prog 58 #[.int .i32 c, .slice A l.length cap] w (Cut w (dec1 c l)) := by
  obtain ⟨i0, hi, hz0, hz1, hz2⟩ := info_parts u8_info
  by_cases hsh : (l.length : Int) < lst c
  · rw [dec1_short c l hsh]
    go_enter Try.func58, Try.ntmps58
    go_wp2_with fail
    refine (leastOf_any _ _).mono ?_
    rintro e w' ⟨rfl, rfl⟩
    go_wp2_with fail
    go_ret3
    exact ⟨Below.refl _ _, rfl⟩
  · by_cases h63 : c = 63
    · subst h63
      rw [lst_63] at hsh
      rw [dec1_flag l hsh]
      have hp : 0 < l.length := by omega
      obtain ⟨p, u, rfl, hpb, hu, hcell⟩ := hs.cell hp
      rw [cells8_get l 0 hp] at hu
      injection hu with hu
      subst hu
      have e0 : l.getD 0 0 = l[0] := by simp [List.getD, hp]
      rw [e0]
      have hcell0 : w.cell? p = some (.int .u8 ((l[0].toNat : Nat) : Int)) := by simpa [Addr.add] using hcell
      clear hcell e0
      generalize l[0].toNat = b at *
      by_cases hb : 1 < b
      · rw [if_pos hb]
        go_enter Try.func58, Try.ntmps58
        go_wp2_with fail
        refine (leastOf_any _ _).mono ?_
        rintro e w' ⟨rfl, rfl⟩
        rw [lst_63]
        go_wp2_with fail
        go_ret3
        exact ⟨Below.refl _ _, rfl⟩
      · rw [if_neg hb]
        go_enter Try.func58, Try.ntmps58
        go_wp2_with fail
        refine (leastOf_any _ _).mono ?_
        rintro e w' ⟨rfl, rfl⟩
        rw [lst_63]
        go_wp2_with fail
        go_ret3
        refine ⟨Below.refl _ _, _, rfl, ?_⟩
        have eb : ((b : Int) == 1) = (b == 1) := by rw [Bool.eq_iff_iff]; simp; omega
        show Value.iface 4 (.bool ((b : Int) == 1)) = .iface 4 (.bool (b == 1))
        rw [eb]
    · have k63 : (c == 63) = false := by simpa using h63
      by_cases h42 : c = 42
      · subst h42
        rw [lst_42] at hsh
        rw [dec1_blob l hsh]
        cases hR : blobR l with
        | none =>
          have HR := Lib.hid hR
          clear hR
          go_enter Try.func58, Try.ntmps58
          go_wp2_with fail
          refine (leastOf_any _ _).mono ?_
          rintro e w' ⟨rfl, rfl⟩
          rw [lst_42]
          go_wp2_with fail
          refine (cutBlob_any B A cap l w hs hB (by omega) hc hcm).mono ?_
          rw [HR.out]
          rintro e w' ⟨hb1, rfl⟩
          go_wp2_with fail
          go_ret3
          exact ⟨hb1, rfl⟩
        | some q =>
          obtain ⟨q1, q2⟩ := q
          have HR := Lib.hid hR
          clear hR
          go_enter Try.func58, Try.ntmps58
          go_wp2_with fail
          refine (leastOf_any _ _).mono ?_
          rintro e w' ⟨rfl, rfl⟩
          rw [lst_42]
          go_wp2_with fail
          refine (cutBlob_any B A cap l w hs hB (by omega) hc hcm).mono ?_
          rw [HR.out]
          rintro e w' ⟨hb1, v, rfl, hv⟩
          go_wp2_with fail
          go_ret3
          exact ⟨hb1, v, rfl, hv⟩
      · have k42 : (c == 42) = false := by simpa using h42
        by_cases h35 : c = 35
        · subst h35
          rw [lst_35] at hsh
          rw [dec1_block l hsh]
          have hl256 : (l.take 256).length = 256 := by rw [List.length_take]; omega
          have HL := Lib.hid hl256
          clear hl256
          have hzv := zero_block
          go_enter Try.func58, Try.ntmps58
          go_wp2_with fail
          refine (leastOf_any _ _).mono ?_
          rintro e w' ⟨rfl, rfl⟩
          rw [lst_35]
          go_wp2_with (first
            | (refine wpList_copy_new (w := w) rfl (.tmp 35) (.tmp 36) 24 24 rfl 5 Try.underlying24 (by rw [hi]; exact congrArg some hz1) 256 l.length cap A (cells8 zeros256) 76 rfl rfl (by omega) (by rw [cells8_length, zeros256_length]) (cells8 l) B hB hs (cells8_one _) ?_; intro w4 hg4 hb4; rw [← cells8_take] at hg4)
            | (refine wpList_load_row rfl 76 (.tmp 7) rfl w.heap.size rfl 76 (cells8 (l.take 256)).toArray (0, 0) _ hg4.out Try.underlying76 rfl (block_cells _ HL.out) ?_))
          go_ret3
          exact ⟨hb4, _, rfl, rfl, HL.out⟩
        · have k35 : (c == 35) = false := by simpa using h35
          rw [dec1_num c l h63 h42 h35 hsh]
          rw [lst_num c h63 h42 h35] at hsh
          have HLN := Lib.hid (lst_num c h63 h42 h35)
          clear h63 h42 h35
          have hw := wid_le c
          have hsw : Shows w B A (wid c).toNat (cells8 (l.take (wid c).toNat)) := by
            have := hs.upto (k := (wid c).toNat) (by omega)
            rw [← cells8_take] at this
            exact this
          have hnl := num8_lt (l.take (wid c).toNat)
          have hp : 256 ^ (l.take (wid c).toNat).length ≤ 256 ^ 8 := Nat.pow_le_pow_right (by omega) (by rw [List.length_take]; omega)
          have hn64 : num8 (l.take (wid c).toNat) < 18446744073709551616 := Nat.lt_of_lt_of_le hnl hp
          have HN := Lib.hid hn64
          clear hnl hp hn64
          go_enter Try.func58, Try.ntmps58
          go_wp2_with fail
          refine (leastOf_any _ _).mono ?_
          rintro e w' ⟨rfl, rfl⟩
          rw [HLN.out]
          go_wp2_with fail
          refine (widthOf_any _ _).mono ?_
          rintro e w' ⟨rfl, rfl⟩
          go_wp2_with fail
          refine (number_at B A (wid c).toNat cap (l.take (wid c).toNat) w hsw (by omega)).mono ?_
          rintro e w' ⟨rfl, rfl⟩
          go_wp2_with fail
          go_ret3
          refine ⟨Below.refl _ _, _, ?_, rfl, HN.out⟩
          rw [Int.toNat_of_nonneg hw.1]
          rfl

theorem cutValue_at (c : Int) (B : Nat) (A : Option Addr) (n cap : Nat) (l : List UInt8) (w : World) (hs : Shows w B A n (cells8 l)) (hB : B ≤ w.heap.size) (hc : n ≤ cap) (hcm : cap ≤ 9223372036854775807) :
    Calls Try.prog 58 #[.int .i32 c, .slice A n cap] w (Cut w (dec1 c l)) := by
  have e : n = l.length := by rw [← hs.len, cells8_length]
  subst e
  exact cutValue_any c B A cap l w hs hB hc hcm

end Go.Proofs.Ytpkbkliblbbdcaa
end

section
namespace Go.Proofs.Ytpkbkliblbbdcaa
open Go.RowKit
set_option maxRecDepth 20000

def unpZ : List UInt8 → List UInt8 → Option (List PV × Nat)
  | [], _ => some ([], 0)
  | c :: s, l => match dec1 (c.toNat : Int) l with
    | none => none
    | some (p, k) => (unpZ s (l.drop k)).map fun r => (p :: r.1, k + r.2)

theorem unpZ_snoc (s : List UInt8) (c : UInt8) (l : List UInt8) : unpZ (s ++ [c]) l = (unpZ s l).bind fun r => (dec1 (c.toNat : Int) (l.drop r.2)).map fun q => (r.1 ++ [q.1], r.2 + q.2) := by
  induction s generalizing l with
  | nil =>
    simp only [List.nil_append, unpZ, Option.bind_some, List.drop_zero]
    cases dec1 (c.toNat : Int) l with
    | none => rfl
    | some q => simp
  | cons d s ih =>
    simp only [List.cons_append, unpZ]
    cases dec1 (d.toNat : Int) l with
    | none => rfl
    | some q =>
      simp only [ih]
      cases unpZ s (l.drop q.2) with
      | none => rfl
      | some r =>
        simp only [Option.bind_some, Option.map_some, List.drop_drop]
        cases dec1 (c.toNat : Int) (l.drop (q.2 + r.2)) with
        | none => rfl
        | some t => simp [Nat.add_assoc]
theorem unpZ_none (s r l : List UInt8) (h : unpZ s l = none) : unpZ (s ++ r) l = none := by
  induction s generalizing l with
  | nil => simp [unpZ] at h
  | cons d s ih =>
    simp only [List.cons_append, unpZ] at h ⊢
    cases hd : dec1 (d.toNat : Int) l with
    | none => rfl
    | some q => rw [hd] at h; simp only [Option.map_eq_none_iff] at h; simp [ih _ h]
theorem dec1_bounds {c : Int} {l : List UInt8} {p : PV} {k : Nat} (h : dec1 c l = some (p, k)) : lst c ≤ k ∧ k ≤ l.length := by
  unfold dec1 at h
  split at h
  · cases h
  · rename_i hs
    split at h
    · subst c; rw [lst_63] at hs ⊢
      split at h
      · cases h
      · injection h with h; injection h with _ h; omega
    · split at h
      · subst c; rw [lst_42] at hs ⊢
        split at h
        · cases h
        · injection h with h; injection h with _ h; omega
      · split at h
        · subst c; rw [lst_35] at hs ⊢
          injection h with h; injection h with _ h; omega
        · have hw := wid_le c
          rw [lst_num c (by assumption) (by assumption) (by assumption)] at hs ⊢
          injection h with h; injection h with _ h; omega
theorem unpZ_bounds {s l : List UInt8} {ps : List PV} {n : Nat} (h : unpZ s l = some (ps, n)) : leastS s ≤ n ∧ n ≤ l.length ∧ ps.length = s.length := by
  induction s generalizing l ps n with
  | nil => simp only [unpZ, Option.some.injEq, Prod.mk.injEq] at h; obtain ⟨rfl, rfl⟩ := h; simp [leastS]
  | cons c s ih =>
    simp only [unpZ] at h
    cases hd : dec1 (c.toNat : Int) l with
    | none => rw [hd] at h; cases h
    | some q =>
      obtain ⟨p, k⟩ := q
      rw [hd] at h
      simp only [Option.map_eq_some_iff] at h
      obtain ⟨⟨r1, r2⟩, hr, he⟩ := h
      simp only [Prod.mk.injEq] at he
      obtain ⟨rfl, rfl⟩ := he
      have h1 := dec1_bounds hd
      have h2 := ih hr
      rw [List.length_drop] at h2
      simp only [leastS, List.length_cons]
      omega

/-- what is kept of values: blocks of bytes stay -/
def BytesKept (w w' : World) : Prop := ∀ (g : Nat) (cur : Array Value), w.heap[g]? = some (.cells cur 5 (0, 0)) → w'.heap[g]? = some (.cells cur 5 (0, 0))
theorem BytesKept.refl (w : World) : BytesKept w w := fun _ _ h => h
theorem BytesKept.trans {a b c : World} (h : BytesKept a b) (k : BytesKept b c) : BytesKept a c := fun g cur hg => k g cur (h g cur hg)
theorem BytesKept.below {w w' : World} (h : Below w.heap.size w w') : BytesKept w w' := fun g _ hg => by
  rw [h.block g (Array.getElem?_eq_some_iff.1 hg).1]; exact hg
theorem BytesKept.alloc (w : World) (o : Obj) : BytesKept w (w.alloc o) := fun g _ hg => by
  rw [Below.heap_alloc w o g (Array.getElem?_eq_some_iff.1 hg).1]; exact hg
theorem BytesKept.iterAt {w : World} {k : Nat} {s : ByteArray} {pos : Nat} (hk : w.heap[k]? = some (.stringIter s pos)) (q : Nat) : BytesKept w (w.iterAt k s q) := fun g cur hg => by
  rw [Lib.iterAt_other _ _ _ _ _ (fun e => by subst e; rw [hg] at hk; cases hk)]; exact hg
theorem BytesKept.grew {w w' : World} {v v' : Value} {base n : Nat} {e : TypeId} {xs : List Value} (hg : Grew w w' v v') (ho : w.ownsRow base e 1 v n xs) (he : e ≠ 5) : BytesKept w w' := fun g cur hh => by
  rw [hg.by_.block g (Array.getElem?_eq_some_iff.1 hh).1 ?_]
  · exact hh
  · intro heq
    rcases ho.2 with ⟨rfl, _⟩ | ⟨g', cap, cur', rfl, _, hh', _⟩
    · simp [Value.ownBlock] at heq
    · have : g = g' := by simpa [Value.ownBlock] using heq
      subst this
      rw [hh] at hh'
      injection hh' with hh'
      injection hh' with _ ht
      exact he ht.symm
theorem OV.kept {w w' : World} {B : Nat} {v : Value} {p : PV} (h : OV w B v p) (hk : BytesKept w w') : OV w' B v p := by
  cases p with
  | blob l =>
    obtain ⟨A, c, e, ho, hl⟩ := h
    refine ⟨A, c, e, ⟨ho.1, ?_⟩, hl⟩
    rcases ho.2 with h2 | ⟨g, cap, cur, hv, hb, hh, hr⟩
    · exact .inl h2
    · exact .inr ⟨g, cap, cur, hv, hb, hk g cur hh, hr⟩
  | num n => exact h
  | flag b => exact h
  | block l => exact h
  | other => exact h
theorem OV.mono {w : World} {B C : Nat} {v : Value} {p : PV} (h : OV w B v p) (hC : C ≤ B) : OV w C v p := by
  cases p with
  | blob l =>
    obtain ⟨A, c, e, ho, hl⟩ := h
    refine ⟨A, c, e, ⟨ho.1, ?_⟩, hl⟩
    rcases ho.2 with h2 | ⟨g, cap, cur, hv, hb, hh, hr⟩
    · exact .inl h2
    · exact .inr ⟨g, cap, cur, hv, Nat.le_trans hC hb, hh, hr⟩
  | num n => exact h
  | flag b => exact h
  | block l => exact h
  | other => exact h
theorem OV.one {w : World} {B : Nat} {v : Value} {p : PV} (h : OV w B v p) : v.oneCell' = true := by
  cases p with
  | blob l => obtain ⟨A, c, rfl, _⟩ := h; rfl
  | num n => obtain ⟨rfl, _⟩ := h; rfl
  | flag b => obtain rfl := h; rfl
  | block l => obtain ⟨rfl, _⟩ := h; rfl
  | other => obtain ⟨n, rfl⟩ := h; rfl

theorem OV.form {w : World} {B : Nat} {v : Value} {p : PV} (h : OV w B v p) : ∃ T x, v = .iface T x := by
  cases p with
  | blob l => obtain ⟨A, c, rfl, _⟩ := h; exact ⟨_, _, rfl⟩
  | num n => obtain ⟨rfl, _⟩ := h; exact ⟨_, _, rfl⟩
  | flag b => obtain rfl := h; exact ⟨_, _, rfl⟩
  | block l => obtain ⟨rfl, _⟩ := h; exact ⟨_, _, rfl⟩
  | other => obtain ⟨n, rfl⟩ := h; exact ⟨_, _, rfl⟩

/-- a list of interface values and what they are -/
def AllOV (w : World) (B : Nat) (vs : List Value) (ps : List PV) : Prop := vs.length = ps.length ∧ ∀ i (h : i < ps.length), ∃ x, vs[i]? = some x ∧ OV w B x ps[i]
theorem AllOV.nil (w : World) (B : Nat) : AllOV w B [] [] := ⟨rfl, fun i h => absurd h (by simp)⟩
theorem AllOV.kept {w w' : World} {B : Nat} {vs : List Value} {ps : List PV} (h : AllOV w B vs ps) (hk : BytesKept w w') : AllOV w' B vs ps :=
  ⟨h.1, fun i hi => by obtain ⟨x, hx, ho⟩ := h.2 i hi; exact ⟨x, hx, ho.kept hk⟩⟩
theorem AllOV.snoc {w : World} {B : Nat} {vs : List Value} {ps : List PV} {v : Value} {p : PV} (h : AllOV w B vs ps) (hv : OV w B v p) : AllOV w B (vs ++ [v]) (ps ++ [p]) := by
  refine ⟨by simp [h.1], fun i hi => ?_⟩
  rcases Nat.lt_or_ge i ps.length with hlt | hge
  · obtain ⟨x, hx, ho⟩ := h.2 i hlt
    refine ⟨x, ?_, ?_⟩
    · rw [List.getElem?_append_left (by rw [h.1]; exact hlt)]; exact hx
    · rw [List.getElem_append_left hlt]; exact ho
  · have : i = ps.length := by simp at hi; omega
    subst this
    refine ⟨v, ?_, ?_⟩
    · rw [← h.1]; simp
    · simpa using hv

/-- what Unpack leaves -/
def Unpacked (w : World) (s l : List UInt8) (e : Ending) (w' : World) : Prop :=
  Below w.heap.size w w' ∧ if mayS s = true then
    match unpZ s l with
    | none => e = .returned (.tuple #[.slice none 0 0, .int .i64 0, .int .i64 4])
    | some (ps, n) => ∃ v vs, e = .returned (.tuple #[v, .int .i64 (n : Int), .int .i64 0]) ∧ w'.ownsRow w.heap.size 20 1 v ps.length vs ∧ AllOV w' w.heap.size vs ps
  else e = .returned (.tuple #[.slice none 0 0, .int .i64 0, .int .i64 2])
theorem unpacked_arg {w w' : World} {s l : List UInt8} {e : Ending} (hb : Below w.heap.size w w') (hm : mayS s = false) (he : e = .returned (.tuple #[.slice none 0 0, .int .i64 0, .int .i64 2])) : Unpacked w s l e w' :=
  ⟨hb, by rw [if_neg (by rw [hm]; decide)]; exact he⟩
theorem unpacked_none {w w' : World} {s l : List UInt8} {e : Ending} (hb : Below w.heap.size w w') (hm : mayS s = true) (hu : unpZ s l = none) (he : e = .returned (.tuple #[.slice none 0 0, .int .i64 0, .int .i64 4])) : Unpacked w s l e w' :=
  ⟨hb, by rw [if_pos hm, hu]; exact he⟩
theorem unpacked_some {w w' : World} {s l : List UInt8} {e : Ending} {ps : List PV} {n : Nat} {v : Value} {vs : List Value} (hb : Below w.heap.size w w') (hm : mayS s = true) (hu : unpZ s l = some (ps, n)) (he : e = .returned (.tuple #[v, .int .i64 (n : Int), .int .i64 0]))
    (ho : w'.ownsRow w.heap.size 20 1 v ps.length vs) (ha : AllOV w' w.heap.size vs ps) : Unpacked w s l e w' :=
  ⟨hb, by rw [if_pos hm, hu]; exact ⟨v, vs, he, ho, ha⟩⟩

end Go.Proofs.Ytpkbkliblbbdcaa
end

section
namespace Go.Proofs.Ytpkbkliblbbdcaa
open Go.RowKit
set_option maxRecDepth 20000

theorem any_info : (Try.prog.info? 20).map (fun i => (i.zero, i.size, i.bytes)) = some (some .nilIface, 1, 16) := by kernel_rfl

theorem unpZ_go (s : ByteArray) (l : List UInt8) (pos : Nat) (h : pos < s.size) {ps : List PV} {n : Nat} {p : PV} {k : Nat} (hu : unpZ ((bs s).take pos) l = some (ps, n)) (hd : dec1 ((s[pos]'h).toNat : Int) (l.drop n) = some (p, k)) :
    unpZ ((bs s).take (pos + 1)) l = some (ps ++ [p], n + k) := by
  rw [bs_take s pos h, unpZ_snoc, hu]
  simp [hd]
theorem unpZ_stop (s : ByteArray) (l : List UInt8) (pos : Nat) (h : pos < s.size) {ps : List PV} {n : Nat} (hu : unpZ ((bs s).take pos) l = some (ps, n)) (hd : dec1 ((s[pos]'h).toNat : Int) (l.drop n) = none) : unpZ (bs s) l = none := by
  rw [← List.take_append_drop (pos + 1) (bs s)]
  apply unpZ_none
  rw [bs_take s pos h, unpZ_snoc, hu]
  simp [hd]

set_option maxHeartbeats 2000000 in
theorem unpack_any (s : ByteArray) (B : Nat) (A : Option Addr) (cap : Nat) (l : List UInt8) (w : World) (hs : s.size ≤ 1000) (hl : Shows w B A l.length (cells8 l)) (hB : B ≤ w.heap.size) (hc : l.length ≤ cap) (hcm : cap ≤ 9223372036854775807) :
    Calls Try.prog 46 #[.string s, .slice A l.length cap] w (Unpacked w (bs s) l) := by
  obtain ⟨i0, hi, hz0, hz1, hz2⟩ := info_parts any_info
  cases hm : mayS (bs s) with
  | false =>
    have HM := Lib.hid hm
    clear hm
    go_enter Try.func46, Try.ntmps46
    go_wp2_with fail
    refine (may_any s w).mono ?_
    rintro e w1 ⟨rfl, hb1⟩
    rw [HM.out]
    go_wp2_with fail
    go_ret3
    exact unpacked_arg hb1 HM.out rfl
  | true =>
    have hlm : leastM (bs s) = leastS (bs s) := by rw [leastM, if_pos hm]
    have hlb : leastS (bs s) ≤ 256000 := by
      have := leastS_le (bs s)
      rw [bs_length] at this
      omega
    have HM := Lib.hid hm
    have HLM := Lib.hid hlm
    clear hm hlm
    by_cases hsh : l.length < leastS (bs s)
    · go_enter Try.func46, Try.ntmps46
      go_wp2_with fail
      refine (may_any s w).mono ?_
      rintro e w1 ⟨rfl, hb1⟩
      rw [HM.out]
      go_wp2_with fail
      refine (least_any s w1 (by omega)).mono ?_
      rintro e w2 ⟨rfl, hb2⟩
      rw [HLM.out]
      go_wp2_with fail
      go_ret3
      refine unpacked_none (hb1.trans (hb2.mono hb1.size)) HM.out ?_ rfl
      cases hu : unpZ (bs s) l with
      | none => rfl
      | some r =>
        have := unpZ_bounds (ps := r.1) (n := r.2) hu
        omega
    · go_enter Try.func46, Try.ntmps46
      go_wp2_with fail
      refine (may_any s w).mono ?_
      rintro e w1 ⟨rfl, hb1⟩
      rw [HM.out]
      go_wp2_with fail
      refine (least_any s w1 (by omega)).mono ?_
      rintro e w2 ⟨rfl, hb2⟩
      rw [HLM.out]
      have hb12 : Below w.heap.size w w2 := hb1.trans (hb2.mono hb1.size)
      go_wp2_with (at_make; refine wpList_make_own _ rfl _ _ 65 rfl w.heap.size 20 i0 _ 1 Try.underlying65 hi hz0 hz1 _ _ _ s.size rfl rfl rfl (by rw [hz2]; omega) (by unfold maxLen; omega) hb12.size ?_; intro w3 hown3 hg3)
      have hb3 : Below w.heap.size w w3 := hb12.grown hg3 hb12.size (by simp)
      have hown4 : (w3.iter s 0).ownsRow w.heap.size 20 1 (.slice (some ⟨w2.heap.size, 0, none⟩) 0 s.size) 0 [] := hown3.alloc _
      have hb4 : Below w.heap.size w (w3.iter s 0) := hb3.alloc hb3.size _
      have hit := World.iter_heap w3 s 0
      have hK : w.heap.size ≤ w3.heap.size := hb3.size
      clear hg3 hown3 hb3 hb12 hb1 hb2
      generalize w3.heap.size = K at *
      generalize w3.iter s 0 = w4 at *
      generalize (Value.slice (some ⟨w2.heap.size, 0, none⟩) 0 s.size) = v0 at *
      go_loopw [7, 8] (fun v t wr => ∃ (pos : Nat) (ps : List PV) (n : Nat) (vs : List Value), pos ≤ s.size ∧ wr.heap[K]? = some (.stringIter s pos) ∧ t = .int .i64 (n : Int) ∧ wr.ownsRow w.heap.size 20 1 v ps.length vs ∧ AllOV wr w.heap.size vs ps ∧ Below w.heap.size w wr ∧ Hid (unpZ ((bs s).take pos) l = some (ps, n))) (fun _ _ wr => s.size - wr.iterPos K)
      case atStart => exact ⟨0, [], 0, [], Nat.zero_le _, hit, rfl, hown4, AllOV.nil _ _, hb4, rfl⟩
      case round =>
        obtain ⟨pos, ps, n, vs, hp, hitr, rfl, hown, hall, hbr, HA⟩ := hrel
        have HP0 := Lib.hid (iterPos_at hitr)
        clear hit hown4 hb4
        have hbd := unpZ_bounds HA.out
        have hpsl : ps.length = pos := by rw [hbd.2.2, List.length_take, bs_length]; omega
        have hnl : n ≤ l.length := hbd.2.1
        have HPL := Lib.hid hpsl
        have hpsb : ps.length ≤ 1000 := by omega
        clear hbd hpsl
        by_cases hlt : pos < s.size
        · have hnx : ∀ ty, (Instr.next (.pointer (some ⟨K, 0, none⟩)) true ty).run Try.prog wr = _ := fun ty => Lib.run_next_any_at wr K s pos ty hitr hlt
          have hd := rune_of s pos hlt (mayS_at s pos hlt HM.out)
          simp only [hd] at hnx
          clear hd
          have hit2 := Lib.iterAt_heap wr K s pos (pos + 1) hitr
          have hbr2 := Lib.below_iterAt hbr (k := K) hK s (pos + 1)
          have hown2 := row_iterAt hown hitr (pos + 1)
          have hall2 := hall.kept (BytesKept.iterAt hitr (pos + 1))
          generalize wr.iterAt K s (pos + 1) = W1 at *
          clear hitr hown hbr hall
          by_cases hcn : cap = n
          · obtain rfl : n = cap := hcn.symm
            clear hcn
            have hl2 : Shows W1 B A 0 (cells8 (l.drop n)) := by
              rw [List.drop_of_length_le (by omega)]
              exact Shows.empty _ _ _
            cases hd : dec1 ((s[pos]'hlt).toNat : Int) (l.drop n) with
            | none =>
              have HD := Lib.hid hd
              clear hd
              go_wp2_with fail
              refine (cutValue_at _ B A 0 0 (l.drop n) W1 hl2 (Nat.le_trans hB hbr2.size) (by omega) (by omega)).mono ?_
              rw [HD.out]
              rintro e w5 ⟨hb5, rfl⟩
              go_wp2_with fail
              go_ret3
              exact unpacked_none (hbr2.trans (hb5.mono hbr2.size)) HM.out (unpZ_stop s l pos hlt HA.out HD.out) rfl
            | some q =>
              obtain ⟨q1, q2⟩ := q
              have hqb := dec1_bounds hd
              rw [List.length_drop] at hqb
              have hq2 : n + q2 ≤ l.length := by omega
              have HD := Lib.hid hd
              clear hd hqb
              go_wp2_with fail
              refine (cutValue_at _ B A 0 0 (l.drop n) W1 hl2 (Nat.le_trans hB hbr2.size) (by omega) (by omega)).mono ?_
              rw [HD.out]
              rintro e w5 ⟨hb5, v5, rfl, hv5⟩
              obtain ⟨T5, x5, hvx⟩ := hv5.form
              subst hvx
              have hit5 : w5.heap[K]? = some (.stringIter s (pos + 1)) := by rw [hb5.block K (Array.getElem?_eq_some_iff.1 hit2).1]; exact hit2
              have hown5 : w5.ownsRow w.heap.size 20 1 _ ps.length vs := hown2.kept (row := none) ⟨hb5.os, hb5.tape, hb5.output, hb5.size, fun k hk _ => hb5.block k hk⟩ (by
                rcases hown2.2 with ⟨rfl, _⟩ | ⟨g, _, _, rfl, _⟩
                · exact .inl rfl
                · exact .inr (by simp [Value.ownBlock]))
              have hall5 := hall2.kept (BytesKept.below hb5)
              have hbr5 : Below w.heap.size w w5 := hbr2.trans (hb5.mono hbr2.size)
              have hov5 := hv5.mono hbr2.size
              clear hit2 hown2 hall2 hbr2 hb5 hv5 hnx hl2
              go_wp2_with (at_builtin; refine wpList_append_shows _ rfl (.tmp 41) (.tmp 43) 65 rfl w.heap.size 20 i0 .nilIface 16 Try.underlying65 hi hz0 hz1 hz2 rfl _ _ _ rfl (hown5.alloc _) (w5.heap.size + 1) _ 1 1 [.iface T5 x5] rfl (shows_new w5 _ _) (by simp [hov5.one]) (by unfold maxLen; omega) (by omega) (by have := hbr5.size; simp; omega) ?_; intro v6 w6 hown6 hgrow6)
              have hgr6 : Grew w5 w6 _ v6 := ((Grew.refl w5 _).alloc _).trans hgrow6
              have hit6 := grew_iter hgr6 hown5 hit5
              have hk6 := BytesKept.grew hgr6 hown5 (by decide)
              have hall6 := (hall5.kept hk6).snoc (hov5.kept hk6)
              have hb6 : Below w.heap.size w w6 := hbr5.trans (hgr6.below hown5 (Nat.le_refl _) hbr5.size)
              clear hgr6 hgrow6 hk6 hown5 hall5 hov5 hit5 hbr5
              go_roundw
              case rel => exact ⟨pos + 1, ps ++ [q1], n + q2, vs ++ [.iface T5 x5], hlt, hit6, by go_num, by rw [List.length_append]; exact hown6, hall6, hb6, unpZ_go s l pos hlt HA.out HD.out⟩
              case measure => rw [iterPos_at hit6, HP0.out]; omega
          · have hl2 := (hl.below (hbr2.mono hB)).from_ hnl hc
            rw [if_neg hcn, ← cells8_drop] at hl2
            cases hd : dec1 ((s[pos]'hlt).toNat : Int) (l.drop n) with
            | none =>
              have HD := Lib.hid hd
              clear hd
              go_wp2_with fail
              refine (cutValue_at _ B (A.map fun x => x.add n) (l.length - n) (cap - n) (l.drop n) W1 hl2 (Nat.le_trans hB hbr2.size) (by omega) (by omega)).mono ?_
              rw [HD.out]
              rintro e w5 ⟨hb5, rfl⟩
              go_wp2_with fail
              go_ret3
              exact unpacked_none (hbr2.trans (hb5.mono hbr2.size)) HM.out (unpZ_stop s l pos hlt HA.out HD.out) rfl
            | some q =>
              obtain ⟨q1, q2⟩ := q
              have hqb := dec1_bounds hd
              rw [List.length_drop] at hqb
              have hq2 : n + q2 ≤ l.length := by omega
              have HD := Lib.hid hd
              clear hd hqb
              go_wp2_with fail
              refine (cutValue_at _ B (A.map fun x => x.add n) (l.length - n) (cap - n) (l.drop n) W1 hl2 (Nat.le_trans hB hbr2.size) (by omega) (by omega)).mono ?_
              rw [HD.out]
              rintro e w5 ⟨hb5, v5, rfl, hv5⟩
              obtain ⟨T5, x5, hvx⟩ := hv5.form
              subst hvx
              have hit5 : w5.heap[K]? = some (.stringIter s (pos + 1)) := by rw [hb5.block K (Array.getElem?_eq_some_iff.1 hit2).1]; exact hit2
              have hown5 : w5.ownsRow w.heap.size 20 1 _ ps.length vs := hown2.kept (row := none) ⟨hb5.os, hb5.tape, hb5.output, hb5.size, fun k hk _ => hb5.block k hk⟩ (by
                rcases hown2.2 with ⟨rfl, _⟩ | ⟨g, _, _, rfl, _⟩
                · exact .inl rfl
                · exact .inr (by simp [Value.ownBlock]))
              have hall5 := hall2.kept (BytesKept.below hb5)
              have hbr5 : Below w.heap.size w w5 := hbr2.trans (hb5.mono hbr2.size)
              have hov5 := hv5.mono hbr2.size
              clear hit2 hown2 hall2 hbr2 hb5 hv5 hnx hl2
              go_wp2_with (at_builtin; refine wpList_append_shows _ rfl (.tmp 41) (.tmp 43) 65 rfl w.heap.size 20 i0 .nilIface 16 Try.underlying65 hi hz0 hz1 hz2 rfl _ _ _ rfl (hown5.alloc _) (w5.heap.size + 1) _ 1 1 [.iface T5 x5] rfl (shows_new w5 _ _) (by simp [hov5.one]) (by unfold maxLen; omega) (by omega) (by have := hbr5.size; simp; omega) ?_; intro v6 w6 hown6 hgrow6)
              have hgr6 : Grew w5 w6 _ v6 := ((Grew.refl w5 _).alloc _).trans hgrow6
              have hit6 := grew_iter hgr6 hown5 hit5
              have hk6 := BytesKept.grew hgr6 hown5 (by decide)
              have hall6 := (hall5.kept hk6).snoc (hov5.kept hk6)
              have hb6 : Below w.heap.size w w6 := hbr5.trans (hgr6.below hown5 (Nat.le_refl _) hbr5.size)
              clear hgr6 hgrow6 hk6 hown5 hall5 hov5 hit5 hbr5
              go_roundw
              case rel => exact ⟨pos + 1, ps ++ [q1], n + q2, vs ++ [.iface T5 x5], hlt, hit6, by go_num, by rw [List.length_append]; exact hown6, hall6, hb6, unpZ_go s l pos hlt HA.out HD.out⟩
              case measure => rw [iterPos_at hit6, HP0.out]; omega
        · have hnx : ∀ ty, (Instr.next (.pointer (some ⟨K, 0, none⟩)) true ty).run Try.prog wr = _ := fun ty => Lib.run_next_end_at wr K s pos ty hitr hlt
          obtain rfl : pos = s.size := by omega
          go_wp2_with fail
          go_ret3
          exact unpacked_some hbr HM.out (by rw [← bs_all]; exact HA.out) rfl hown hall

end Go.Proofs.Ytpkbkliblbbdcaa
end
