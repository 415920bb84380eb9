/- Walks of appendValue of package wire: yes or no, blobs, blocks, other values. -/
import Derived.Test.YtpkbkliblbbdcaaVals
import Derived.Test.YtpkbkliblbbdcaaPut
namespace Go.Proofs.Ytpkbkliblbbdcaa
open Go.RowKit
set_option maxRecDepth 20000

set_option maxHeartbeats 1000000 in
theorem appendValue_flag (base : Nat) (v : Value) (k : Nat) (xs : List Value) (c : Int) (b : Bool) (w : World) (hown : w.ownsRow base 5 1 v k xs) (hbase : base ≤ w.heap.size) (hk : k ≤ 70368744177664) :
    Calls Try.prog 52 #[v, .int .i32 c, .iface 4 (.bool b)] w (Put base v k xs w (enc1 c (.flag b))) := by
  obtain ⟨i0, hi, hz0, hz1, hz2⟩ := info_parts u8_info
  have h1 := ask_bool_u64 (.bool b)
  have h2 := ask_bool_bool (.bool b)
  by_cases hc : c = 63
  · subst hc
    have hE : enc1 63 (.flag b) = some [bit8 b] := by simp [enc1]
    rw [hE]
    clear hE
    go_enter Try.func52, Try.ntmps52
    go_wp2_with fail
    refine (byteOf_any _ _).mono ?_
    rintro e w' ⟨rfl, rfl⟩
    go_wp2_with (at_builtin; refine wpList_append_shows _ rfl (.tmp 37) (.tmp 40) 24 rfl base 5 i0 (.int .u8 0) 1 Try.underlying24 hi hz0 hz1 hz2 rfl v _ _ rfl (hown.alloc _) (w.heap.size + 1) _ 1 1 (cells8 [bit8 b]) rfl (shows_new w _ _) (cells8_one _) (by unfold maxLen; omega) (by omega) (by simp; omega) ?_; intro v' w1 hown' hgrow)
    go_ret2
    exact ⟨v', rfl, hown', ((Grew.refl _ _).alloc _).trans hgrow⟩
  · have hE : enc1 c (.flag b) = none := by simp [enc1, hc]
    rw [hE]
    clear hE
    have hc1 : (c != 63) = true := by simpa using hc
    go_enter Try.func52, Try.ntmps52
    go_wp2_with fail
    go_ret2
    exact ⟨rfl, Below.refl _ _⟩

set_option maxHeartbeats 1000000 in
theorem appendValue_other (base : Nat) (v : Value) (k : Nat) (xs : List Value) (c : Int) (x : Value) (w : World) (hx : x = .nilIface ∨ ∃ n, x = .iface 3 (.int .i64 n)) :
    Calls Try.prog 52 #[v, .int .i32 c, x] w (Put base v k xs w (enc1 c .other)) := by
  have hE : enc1 c .other = none := rfl
  rw [hE]
  clear hE
  rcases hx with rfl | ⟨n, rfl⟩
  · have h1 := ask_nil_u64
    have h2 := ask_nil_bool
    have h3 := ask_nil_bytes
    have h4 := ask_nil_block
    go_enter Try.func52, Try.ntmps52
    go_wp2_with fail
    go_ret2
    exact ⟨rfl, Below.refl _ _⟩
  · have h1 := ask_int_u64 (.int .i64 n)
    have h2 := ask_int_bool (.int .i64 n)
    have h3 := ask_int_bytes (.int .i64 n)
    have h4 := ask_int_block (.int .i64 n)
    go_enter Try.func52, Try.ntmps52
    go_wp2_with fail
    go_ret2
    exact ⟨rfl, Below.refl _ _⟩

set_option maxHeartbeats 1000000 in
theorem appendValue_blob (base : Nat) (v : Value) (k : Nat) (xs : List Value) (c : Int) (A : Option Addr) (l : List UInt8) (cap : Nat) (w : World) (hown : w.ownsRow base 5 1 v k xs) (hbase : base ≤ w.heap.size) (hk : k ≤ 70368744177664)
    (hs : Shows w base A l.length (cells8 l)) (hl : l.length ≤ 70368744177664) :
    Calls Try.prog 52 #[v, .int .i32 c, .iface 24 (.slice A l.length cap)] w (Put base v k xs w (enc1 c (.blob l))) := by
  obtain ⟨i0, hi, hz0, hz1, hz2⟩ := info_parts u8_info
  have h1 := ask_bytes_u64 (.slice A l.length cap)
  have h2 := ask_bytes_bool (.slice A l.length cap)
  have h3 := ask_bytes_bytes (.slice A l.length cap)
  by_cases hc : c = 42
  · subst hc
    by_cases hm : l.length ≤ 16777216
    · have hE : enc1 42 (.blob l) = some (low l.length 4 ++ l) := by simp [enc1, hm]
      rw [hE]
      clear hE
      go_enter Try.func52, Try.ntmps52
      go_wp2_with fail
      refine (appendNumber_any base v k xs l.length 4 w hown hbase (by omega) (by omega) hk).mono ?_
      rintro e w' ⟨v', rfl, ho, hg⟩
      have hs1 : Shows w' base A l.length (cells8 l) := hs.below (hg.below hown (Nat.le_refl _) hbase)
      have hb1 : base ≤ w'.heap.size := Nat.le_trans hbase hg.by_.size
      go_wp2_with (at_builtin; refine wpList_append_shows _ rfl (.tmp 56) (.tmp 57) 24 rfl base 5 i0 (.int .u8 0) 1 Try.underlying24 hi hz0 hz1 hz2 rfl v' _ _ rfl ho base A l.length cap (cells8 l) rfl hs1 (cells8_one _) (by unfold maxLen; omega) (by omega) hb1 ?_; intro v2 w2 hown2 hgrow2)
      go_ret2
      exact ⟨v2, rfl, by rw [cells8_append, ← List.append_assoc, List.length_append, low_length, ← Nat.add_assoc]; exact hown2, hg.trans hgrow2⟩
    · have hE : enc1 42 (.blob l) = none := by simp [enc1, hm]
      rw [hE]
      clear hE
      go_enter Try.func52, Try.ntmps52
      go_wp2_with fail
      go_ret2
      exact ⟨rfl, Below.refl _ _⟩
  · have hE : enc1 c (.blob l) = none := by simp [enc1, hc]
    rw [hE]
    clear hE
    have hc1 : (c != 42) = true := by simpa using hc
    go_enter Try.func52, Try.ntmps52
    go_wp2_with fail
    go_ret2
    exact ⟨rfl, Below.refl _ _⟩

set_option maxHeartbeats 1000000 in
theorem appendValue_block (base : Nat) (v : Value) (k : Nat) (xs : List Value) (c : Int) (l : List UInt8) (w : World) (hown : w.ownsRow base 5 1 v k xs) (hbase : base ≤ w.heap.size) (hk : k ≤ 70368744177664) (hl : l.length = 256) :
    Calls Try.prog 52 #[v, .int .i32 c, .iface 76 (.agg (cells8 l).toArray)] w (Put base v k xs w (enc1 c (.block l))) := by
  obtain ⟨i0, hi, hz0, hz1, hz2⟩ := info_parts u8_info
  have h1 := ask_block_u64 (.agg (cells8 l).toArray)
  have h2 := ask_block_bool (.agg (cells8 l).toArray)
  have h3 := ask_block_bytes (.agg (cells8 l).toArray)
  have h4 := ask_block_block (.agg (cells8 l).toArray)
  have HL := Lib.hid hl
  clear hl
  have hzv := zero_block
  by_cases hc : c = 35
  · subst hc
    have hE : enc1 35 (.block l) = some l := by simp [enc1, HL.out]
    rw [hE]
    clear hE
    go_enter Try.func52, Try.ntmps52
    have hst := store_block l HL.out
    have hcl : (cells8 l).length = 256 := by rw [cells8_length, HL.out]
    have hsn := shows_block l HL.out 76 w
    go_wp2_with (at_builtin; refine wpList_append_shows _ rfl (.tmp 64) (.tmp 65) 24 rfl base 5 i0 (.int .u8 0) 1 Try.underlying24 hi hz0 hz1 hz2 rfl v k xs rfl (hown.alloc _) (w.heap.size + 1) _ 256 256 (cells8 l) rfl hsn (cells8_one _) (by unfold maxLen; omega) (by omega) (by simp; omega) ?_; intro v' w1 hown' hgrow)
    go_ret2
    exact ⟨v', rfl, by rw [HL.out]; exact hown', ((Grew.refl _ _).alloc _).trans hgrow⟩
  · have hE : enc1 c (.block l) = none := by simp [enc1, hc]
    rw [hE]
    clear hE
    have hc1 : (c != 35) = true := by simpa using hc
    have hst := store_block l HL.out
    have hcl : (cells8 l).length = 256 := by rw [cells8_length, HL.out]
    go_enter Try.func52, Try.ntmps52
    go_wp2_with fail
    go_ret2
    exact ⟨rfl, (Below.refl _ _).alloc (Nat.le_refl _) _⟩

/-- appendValue, whatever value it is handed -/
theorem appendValue_any (base : Nat) (v : Value) (k : Nat) (xs : List Value) (c : Int) (x : Value) (p : PV) (w : World) (hown : w.ownsRow base 5 1 v k xs) (hbase : base ≤ w.heap.size) (hk : k ≤ 70368744177664) (hx : IV w base x p) :
    Calls Try.prog 52 #[v, .int .i32 c, x] w (Put base v k xs w (enc1 c p)) := by
  cases p with
  | num n => obtain ⟨rfl, hn⟩ := hx; exact appendValue_num base v k xs c n w hown hbase hn hk
  | flag b => obtain rfl := hx; exact appendValue_flag base v k xs c b w hown hbase hk
  | blob l => obtain ⟨A, cap, rfl, hs, _, hl⟩ := hx; exact appendValue_blob base v k xs c A l cap w hown hbase hk hs (by omega)
  | block l => obtain ⟨rfl, hl⟩ := hx; exact appendValue_block base v k xs c l w hown hbase hk hl
  | other => exact appendValue_other base v k xs c x w hx

end Go.Proofs.Ytpkbkliblbbdcaa
