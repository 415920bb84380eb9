/- The walk of cutValue of package wire. -/
import Derived.Test.YtpkbkliblbbdcaaCut
namespace Go.Proofs.Ytpkbkliblbbdcaa
open Go.RowKit
set_option maxRecDepth 20000

theorem lst_63 : lst 63 = 1 := by decide
theorem lst_42 : lst 42 = 4 := by decide
theorem lst_35 : lst 35 = 256 := by decide
theorem lst_num (c : Int) (h1 : ¬ c = 63) (h2 : ¬ c = 42) (h3 : ¬ c = 35) : lst c = wid c := by simp [lst, h1, h2, h3]
theorem dec1_short (c : Int) (l : List UInt8) (h : (l.length : Int) < lst c) : dec1 c l = none := by simp [dec1, h]
theorem dec1_flag (l : List UInt8) (h : ¬ (l.length : Int) < 1) : dec1 63 l = if 1 < (l.getD 0 0).toNat then none else some (.flag ((l.getD 0 0).toNat == 1), 1) := by
  rw [dec1, lst_63, if_neg h, if_pos rfl]
theorem dec1_blob (l : List UInt8) (h : ¬ (l.length : Int) < 4) : dec1 42 l = blobR l := by
  rw [dec1, lst_42, if_neg h, if_neg (by decide), if_pos rfl, blobR]
theorem dec1_block (l : List UInt8) (h : ¬ (l.length : Int) < 256) : dec1 35 l = some (.block (l.take 256), 256) := by
  rw [dec1, lst_35, if_neg h, if_neg (by decide), if_neg (by decide), if_pos rfl]
theorem dec1_num (c : Int) (l : List UInt8) (h1 : ¬ c = 63) (h2 : ¬ c = 42) (h3 : ¬ c = 35) (h : ¬ (l.length : Int) < lst c) : dec1 c l = some (.num (num8 (l.take (wid c).toNat)), (wid c).toNat) := by
  rw [dec1, if_neg h, if_neg h1, if_neg h2, if_neg h3]

set_option maxRecDepth 5000 in
set_option maxHeartbeats 2000000 in
theorem cutValue_any (c : Int) (B : Nat) (A : Option Addr) (cap : Nat) (l : List UInt8) (w : World) (hs : Shows w B A l.length (cells8 l)) (hB : B ≤ w.heap.size) (hc : l.length ≤ cap) (hcm : cap ≤ 9223372036854775807) :
    Calls Try.prog 58 #[.int .i32 c, .slice A l.length cap] w (Cut w (dec1 c l)) := by
  obtain ⟨i0, hi, hz0, hz1, hz2⟩ := info_parts u8_info
  by_cases hsh : (l.length : Int) < lst c
  · rw [dec1_short c l hsh]
    go_enter Try.func58, Try.ntmps58
    go_wp2_with fail
    refine (leastOf_any _ _).mono ?_
    rintro e w' ⟨rfl, rfl⟩
    go_wp2_with fail
    go_ret3
    exact ⟨Below.refl _ _, rfl⟩
  · by_cases h63 : c = 63
    · subst h63
      rw [lst_63] at hsh
      rw [dec1_flag l hsh]
      have hp : 0 < l.length := by omega
      obtain ⟨p, u, rfl, hpb, hu, hcell⟩ := hs.cell hp
      rw [cells8_get l 0 hp] at hu
      injection hu with hu
      subst hu
      have e0 : l.getD 0 0 = l[0] := by simp [List.getD, hp]
      rw [e0]
      have hcell0 : w.cell? p = some (.int .u8 ((l[0].toNat : Nat) : Int)) := by simpa [Addr.add] using hcell
      clear hcell e0
      generalize l[0].toNat = b at *
      by_cases hb : 1 < b
      · rw [if_pos hb]
        go_enter Try.func58, Try.ntmps58
        go_wp2_with fail
        refine (leastOf_any _ _).mono ?_
        rintro e w' ⟨rfl, rfl⟩
        rw [lst_63]
        go_wp2_with fail
        go_ret3
        exact ⟨Below.refl _ _, rfl⟩
      · rw [if_neg hb]
        go_enter Try.func58, Try.ntmps58
        go_wp2_with fail
        refine (leastOf_any _ _).mono ?_
        rintro e w' ⟨rfl, rfl⟩
        rw [lst_63]
        go_wp2_with fail
        go_ret3
        refine ⟨Below.refl _ _, _, rfl, ?_⟩
        have eb : ((b : Int) == 1) = (b == 1) := by rw [Bool.eq_iff_iff]; simp; omega
        show Value.iface 4 (.bool ((b : Int) == 1)) = .iface 4 (.bool (b == 1))
        rw [eb]
    · have k63 : (c == 63) = false := by simpa using h63
      by_cases h42 : c = 42
      · subst h42
        rw [lst_42] at hsh
        rw [dec1_blob l hsh]
        cases hR : blobR l with
        | none =>
          have HR := Lib.hid hR
          clear hR
          go_enter Try.func58, Try.ntmps58
          go_wp2_with fail
          refine (leastOf_any _ _).mono ?_
          rintro e w' ⟨rfl, rfl⟩
          rw [lst_42]
          go_wp2_with fail
          refine (cutBlob_any B A cap l w hs hB (by omega) hc hcm).mono ?_
          rw [HR.out]
          rintro e w' ⟨hb1, rfl⟩
          go_wp2_with fail
          go_ret3
          exact ⟨hb1, rfl⟩
        | some q =>
          obtain ⟨q1, q2⟩ := q
          have HR := Lib.hid hR
          clear hR
          go_enter Try.func58, Try.ntmps58
          go_wp2_with fail
          refine (leastOf_any _ _).mono ?_
          rintro e w' ⟨rfl, rfl⟩
          rw [lst_42]
          go_wp2_with fail
          refine (cutBlob_any B A cap l w hs hB (by omega) hc hcm).mono ?_
          rw [HR.out]
          rintro e w' ⟨hb1, v, rfl, hv⟩
          go_wp2_with fail
          go_ret3
          exact ⟨hb1, v, rfl, hv⟩
      · have k42 : (c == 42) = false := by simpa using h42
        by_cases h35 : c = 35
        · subst h35
          rw [lst_35] at hsh
          rw [dec1_block l hsh]
          have hl256 : (l.take 256).length = 256 := by rw [List.length_take]; omega
          have HL := Lib.hid hl256
          clear hl256
          have hzv := zero_block
          go_enter Try.func58, Try.ntmps58
          go_wp2_with fail
          refine (leastOf_any _ _).mono ?_
          rintro e w' ⟨rfl, rfl⟩
          rw [lst_35]
          go_wp2_with (first
            | (refine wpList_copy_new (w := w) rfl (.tmp 35) (.tmp 36) 24 24 rfl 5 Try.underlying24 (by rw [hi]; exact congrArg some hz1) 256 l.length cap A (cells8 zeros256) 76 rfl rfl (by omega) (by rw [cells8_length, zeros256_length]) (cells8 l) B hB hs (cells8_one _) ?_; intro w4 hg4 hb4; rw [← cells8_take] at hg4)
            | (refine wpList_load_row rfl 76 (.tmp 7) rfl w.heap.size rfl 76 (cells8 (l.take 256)).toArray (0, 0) _ hg4.out Try.underlying76 rfl (block_cells _ HL.out) ?_))
          go_ret3
          exact ⟨hb4, _, rfl, rfl, HL.out⟩
        · have k35 : (c == 35) = false := by simpa using h35
          rw [dec1_num c l h63 h42 h35 hsh]
          rw [lst_num c h63 h42 h35] at hsh
          have HLN := Lib.hid (lst_num c h63 h42 h35)
          clear h63 h42 h35
          have hw := wid_le c
          have hsw : Shows w B A (wid c).toNat (cells8 (l.take (wid c).toNat)) := by
            have := hs.upto (k := (wid c).toNat) (by omega)
            rw [← cells8_take] at this
            exact this
          have hnl := num8_lt (l.take (wid c).toNat)
          have hp : 256 ^ (l.take (wid c).toNat).length ≤ 256 ^ 8 := Nat.pow_le_pow_right (by omega) (by rw [List.length_take]; omega)
          have hn64 : num8 (l.take (wid c).toNat) < 18446744073709551616 := Nat.lt_of_lt_of_le hnl hp
          have HN := Lib.hid hn64
          clear hnl hp hn64
          go_enter Try.func58, Try.ntmps58
          go_wp2_with fail
          refine (leastOf_any _ _).mono ?_
          rintro e w' ⟨rfl, rfl⟩
          rw [HLN.out]
          go_wp2_with fail
          refine (widthOf_any _ _).mono ?_
          rintro e w' ⟨rfl, rfl⟩
          go_wp2_with fail
          refine (number_at B A (wid c).toNat cap (l.take (wid c).toNat) w hsw (by omega)).mono ?_
          rintro e w' ⟨rfl, rfl⟩
          go_wp2_with fail
          go_ret3
          refine ⟨Below.refl _ _, _, ?_, rfl, HN.out⟩
          rw [Int.toNat_of_nonneg hw.1]
          rfl

theorem cutValue_at (c : Int) (B : Nat) (A : Option Addr) (n cap : Nat) (l : List UInt8) (w : World) (hs : Shows w B A n (cells8 l)) (hB : B ≤ w.heap.size) (hc : n ≤ cap) (hcm : cap ≤ 9223372036854775807) :
    Calls Try.prog 58 #[.int .i32 c, .slice A n cap] w (Cut w (dec1 c l)) := by
  have e : n = l.length := by rw [← hs.len, cells8_length]
  subst e
  exact cutValue_any c B A cap l w hs hB hc hcm

end Go.Proofs.Ytpkbkliblbbdcaa
