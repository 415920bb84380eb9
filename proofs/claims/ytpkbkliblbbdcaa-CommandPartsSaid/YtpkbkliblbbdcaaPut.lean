/- Walks of appendValue of package wire, one for each kind of value. -/
import Derived.Test.YtpkbkliblbbdcaaVals
namespace Go.Proofs.Ytpkbkliblbbdcaa
open Go.RowKit
set_option maxRecDepth 20000

set_option maxHeartbeats 1000000 in
theorem appendValue_num (base : Nat) (v : Value) (k : Nat) (xs : List Value) (c : Int) (n : Nat) (w : World) (hown : w.ownsRow base 5 1 v k xs) (hbase : base ≤ w.heap.size) (hn : n < 18446744073709551616) (hk : k ≤ 70368744177664) :
    Calls Try.prog 52 #[v, .int .i32 c, .iface 23 (.int .u64 (n : Int))] w (Put base v k xs w (enc1 c (.num n))) := by
  have h1 := ask_u64_u64 (.int .u64 (n : Int))
  rcases wid_cases c with h | h | h | h | h
  · have hE : enc1 c (.num n) = none := by simp [enc1, h]
    rw [hE]
    clear hE
    have H := Lib.hid h
    clear h
    go_enter Try.func52, Try.ntmps52
    go_wp2_with fail
    refine (widthOf_any _ _).mono ?_
    rintro e w' ⟨rfl, rfl⟩
    rw [H.out]
    go_wp2
    go_ret2
    exact ⟨rfl, Below.refl _ _⟩
  · have H := Lib.hid h
    clear h
    by_cases hf : n < 256
    · have hE : enc1 c (.num n) = some (low n 1) := by rw [enc1_num c n 1 H.out (by decide), if_pos (show n < 256 ^ 1 from hf)]
      rw [hE]
      clear hE
      go_enter Try.func52, Try.ntmps52
      go_wp2_with fail
      refine (widthOf_any _ _).mono ?_
      rintro e w' ⟨rfl, rfl⟩
      rw [H.out]
      go_wp2_with fail
      · refine (appendNumber_any base v k xs n 1 w hown hbase hn (by omega) hk).mono ?_
        rintro e w' ⟨v', rfl, ho, hg⟩
        go_wp2
        go_ret2
        exact ⟨v', rfl, by rw [low_length]; exact ho, hg⟩
    · have hE : enc1 c (.num n) = none := by rw [enc1_num c n 1 H.out (by decide), if_neg (show ¬ n < 256 ^ 1 from hf)]
      rw [hE]
      clear hE
      go_enter Try.func52, Try.ntmps52
      go_wp2_with fail
      refine (widthOf_any _ _).mono ?_
      rintro e w' ⟨rfl, rfl⟩
      rw [H.out]
      go_wp2_with fail
      · go_ret2
        exact ⟨rfl, Below.refl _ _⟩
  · have H := Lib.hid h
    clear h
    by_cases hf : n < 65536
    · have hE : enc1 c (.num n) = some (low n 2) := by rw [enc1_num c n 2 H.out (by decide), if_pos (show n < 256 ^ 2 from hf)]
      rw [hE]
      clear hE
      go_enter Try.func52, Try.ntmps52
      go_wp2_with fail
      refine (widthOf_any _ _).mono ?_
      rintro e w' ⟨rfl, rfl⟩
      rw [H.out]
      go_wp2_with fail
      · refine (appendNumber_any base v k xs n 2 w hown hbase hn (by omega) hk).mono ?_
        rintro e w' ⟨v', rfl, ho, hg⟩
        go_wp2
        go_ret2
        exact ⟨v', rfl, by rw [low_length]; exact ho, hg⟩
    · have hE : enc1 c (.num n) = none := by rw [enc1_num c n 2 H.out (by decide), if_neg (show ¬ n < 256 ^ 2 from hf)]
      rw [hE]
      clear hE
      go_enter Try.func52, Try.ntmps52
      go_wp2_with fail
      refine (widthOf_any _ _).mono ?_
      rintro e w' ⟨rfl, rfl⟩
      rw [H.out]
      go_wp2_with fail
      · go_ret2
        exact ⟨rfl, Below.refl _ _⟩
  · have H := Lib.hid h
    clear h
    by_cases hf : n < 4294967296
    · have hE : enc1 c (.num n) = some (low n 4) := by rw [enc1_num c n 4 H.out (by decide), if_pos (show n < 256 ^ 4 from hf)]
      rw [hE]
      clear hE
      go_enter Try.func52, Try.ntmps52
      go_wp2_with fail
      refine (widthOf_any _ _).mono ?_
      rintro e w' ⟨rfl, rfl⟩
      rw [H.out]
      go_wp2_with fail
      · refine (appendNumber_any base v k xs n 4 w hown hbase hn (by omega) hk).mono ?_
        rintro e w' ⟨v', rfl, ho, hg⟩
        go_wp2
        go_ret2
        exact ⟨v', rfl, by rw [low_length]; exact ho, hg⟩
    · have hE : enc1 c (.num n) = none := by rw [enc1_num c n 4 H.out (by decide), if_neg (show ¬ n < 256 ^ 4 from hf)]
      rw [hE]
      clear hE
      go_enter Try.func52, Try.ntmps52
      go_wp2_with fail
      refine (widthOf_any _ _).mono ?_
      rintro e w' ⟨rfl, rfl⟩
      rw [H.out]
      go_wp2_with fail
      · go_ret2
        exact ⟨rfl, Below.refl _ _⟩
  · have H := Lib.hid h
    clear h
    have hE : enc1 c (.num n) = some (low n 8) := by rw [enc1_num c n 8 H.out (by decide), if_pos (show n < 256 ^ 8 from hn)]
    rw [hE]
    clear hE
    go_enter Try.func52, Try.ntmps52
    go_wp2_with fail
    refine (widthOf_any _ _).mono ?_
    rintro e w' ⟨rfl, rfl⟩
    rw [H.out]
    go_wp2_with fail
    refine (appendNumber_any base v k xs n 8 w hown hbase hn (by omega) hk).mono ?_
    rintro e w' ⟨v', rfl, ho, hg⟩
    go_wp2
    go_ret2
    exact ⟨v', rfl, by rw [low_length]; exact ho, hg⟩

end Go.Proofs.Ytpkbkliblbbdcaa
