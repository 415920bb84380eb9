/- Walks of cutBlob and cutValue of package wire. -/
import Derived.Test.YtpkbkliblbbdcaaPackS
namespace Go.Proofs.Ytpkbkliblbbdcaa
open Go.RowKit
set_option maxRecDepth 20000

/-- the interface value v is p; a blob's bytes are a row of its own, from block B on -/
def OV (w : World) (B : Nat) (v : Value) : PV → Prop
  | .num n => v = .iface 23 (.int .u64 (n : Int)) ∧ n < 18446744073709551616
  | .flag b => v = .iface 4 (.bool b)
  | .blob l => ∃ A c, v = .iface 24 (.slice A l.length c) ∧ w.ownsRow B 5 1 (.slice A l.length c) l.length (cells8 l) ∧ l.length ≤ 16777216
  | .block l => v = .iface 76 (.agg (cells8 l).toArray) ∧ l.length = 256
  | .other => ∃ n, v = .iface 3 (.int .i64 n)

/-- the value that bytes begin with, by a letter, and how many bytes it took -/
def dec1 (c : Int) (l : List UInt8) : Option (PV × Nat) :=
  if (l.length : Int) < lst c then none
  else if c = 63 then (if 1 < (l.getD 0 0).toNat then none else some (.flag ((l.getD 0 0).toNat == 1), 1))
  else if c = 42 then (if 16777216 < num8 (l.take 4) ∨ l.length - 4 < num8 (l.take 4) then none else some (.blob ((l.drop 4).take (num8 (l.take 4))), 4 + num8 (l.take 4)))
  else if c = 35 then some (.block (l.take 256), 256)
  else some (.num (num8 (l.take (wid c).toNat)), (wid c).toNat)

/-- what cutValue leaves -/
def Cut (w : World) (r : Option (PV × Nat)) (e : Ending) (w' : World) : Prop :=
  Below w.heap.size w w' ∧ match r with
  | some (p, k) => ∃ v, e = .returned (.tuple #[v, .int .i64 (k : Int), .bool true]) ∧ OV w' w.heap.size v p
  | none => e = .returned (.tuple #[.nilIface, .int .i64 0, .bool false])

def blobR (l : List UInt8) : Option (PV × Nat) := if 16777216 < num8 (l.take 4) ∨ l.length - 4 < num8 (l.take 4) then none else some (.blob ((l.drop 4).take (num8 (l.take 4))), 4 + num8 (l.take 4))

set_option maxHeartbeats 2000000 in
theorem cutBlob_any (B : Nat) (A : Option Addr) (cap : Nat) (l : List UInt8) (w : World) (hs : Shows w B A l.length (cells8 l)) (hB : B ≤ w.heap.size) (hl : 4 ≤ l.length) (hc : l.length ≤ cap) (hcm : cap ≤ 9223372036854775807) :
    Calls Try.prog 67 #[.slice A l.length cap] w (Cut w (blobR l)) := by
  obtain ⟨i0, hi, hz0, hz1, hz2⟩ := info_parts u8_info
  have hs4 : Shows w B A 4 (cells8 (l.take 4)) := by
    have := hs.upto (k := 4) hl
    rw [← cells8_take] at this
    exact this
  have hn4 : num8 (l.take 4) < 4294967296 := by
    have := num8_lt (l.take 4)
    rw [List.length_take, Nat.min_eq_left hl] at this
    exact this
  go_enter Try.func67, Try.ntmps67
  go_wp2_with fail
  refine (number_at B A 4 cap (l.take 4) w hs4 (by omega)).mono ?_
  rintro e w' ⟨rfl, rfl⟩
  generalize hx : num8 (l.take 4) = x at *
  have HX := Lib.hid hx
  clear hx
  by_cases hcap : cap = 4
  · subst hcap
    have hsr : Shows w B A 0 (cells8 (l.drop 4)) := by
      rw [List.drop_of_length_le (by omega)]
      exact Shows.empty w B A
    by_cases hb1 : 16777216 < x
    · go_wp2_with fail
      go_ret3
      exact ⟨Below.refl _ _, by rw [blobR, HX.out, if_pos (.inl hb1)]; rfl⟩
    · by_cases hb2 : l.length - 4 < x
      · go_wp2_with fail
        go_ret3
        exact ⟨Below.refl _ _, by rw [blobR, HX.out, if_pos (.inr hb2)]; rfl⟩
      · go_wp2_with (first
          | (at_make; refine wpList_make_full _ rfl _ _ 24 rfl w.heap.size 5 i0 _ 1 Try.underlying24 hi hz0 hz1 _ _ _ _ x rfl rfl rfl rfl (by rw [hz2]; omega) (by unfold maxLen; omega) (Nat.le_refl _) ?_; intro w3 hown3 hg3)
          | (refine wpList_copy_shows (w := w3) rfl (.tmp 24) (.tmp 25) 24 24 rfl 5 Try.underlying24 (by rw [hi]; exact congrArg some hz1) w.heap.size x 0 _ _ rfl rfl (by omega) w.heap.size _ (cells8 (l.drop 4)) hown3 B (hsr.below ((Below.refl _ _).grown hg3 hB (by simp))) (cells8_one _) w.heap.size w ((Below.refl _ _).grown hg3 (Nat.le_refl _) (by simp)) (Nat.le_refl _) ?_; intro w4 hown4 hb4))
        go_ret3
        refine ⟨hb4, ?_⟩
        have hbl : ((l.drop 4).take x).length = x := by rw [List.length_take, List.length_drop]; omega
        rw [blobR, HX.out, if_neg (by omega)]
        refine ⟨_, by rw [Int.natCast_add]; rfl, some ⟨w.heap.size, 0, none⟩, x, by rw [hbl]; rfl, ?_, by omega⟩
        rw [hbl, cells8_take]
        exact hown4
  · have hsr := hs.behind (k := 4) (by omega) hl hc hcap
    rw [← cells8_drop] at hsr
    by_cases hb1 : 16777216 < x
    · go_wp2_with fail
      go_ret3
      exact ⟨Below.refl _ _, by rw [blobR, HX.out, if_pos (.inl hb1)]; rfl⟩
    · by_cases hb2 : l.length - 4 < x
      · go_wp2_with fail
        go_ret3
        exact ⟨Below.refl _ _, by rw [blobR, HX.out, if_pos (.inr hb2)]; rfl⟩
      · go_wp2_with (first
          | (at_make; refine wpList_make_full _ rfl _ _ 24 rfl w.heap.size 5 i0 _ 1 Try.underlying24 hi hz0 hz1 _ _ _ _ x rfl rfl rfl rfl (by rw [hz2]; omega) (by unfold maxLen; omega) (Nat.le_refl _) ?_; intro w3 hown3 hg3)
          | (refine wpList_copy_shows (w := w3) rfl (.tmp 24) (.tmp 25) 24 24 rfl 5 Try.underlying24 (by rw [hi]; exact congrArg some hz1) w.heap.size x (l.length - 4) _ _ rfl rfl (by omega) w.heap.size _ (cells8 (l.drop 4)) hown3 B (hsr.below ((Below.refl _ _).grown hg3 hB (by simp))) (cells8_one _) w.heap.size w ((Below.refl _ _).grown hg3 (Nat.le_refl _) (by simp)) (Nat.le_refl _) ?_; intro w4 hown4 hb4))
        go_ret3
        refine ⟨hb4, ?_⟩
        have hbl : ((l.drop 4).take x).length = x := by rw [List.length_take, List.length_drop]; omega
        rw [blobR, HX.out, if_neg (by omega)]
        refine ⟨_, by rw [Int.natCast_add]; rfl, some ⟨w.heap.size, 0, none⟩, x, by rw [hbl]; rfl, ?_, by omega⟩
        rw [hbl, cells8_take]
        exact hown4

end Go.Proofs.Ytpkbkliblbbdcaa
