/- Walks: the document's own answers: run, Sum, Add, Table; the chapter's row. -/
import Derived.Test.YthjbchdpnlenjaaDoorCe
import Derived.Laws.BytesString
import Derived.Laws.IdiomStrings
namespace Go.Proofs.YthjbchdpnlenjaaDoor
open Go.RowKit

theorem in32 (r : Nat) (b : UInt8) (h : r < 4294967296) : bits .xor .u32 (r : Int) (b.toNat : Int) = ((r ^^^ b.toNat : Nat) : Int) := u32_xor_nat _ _ h (byte_lt32 b)

set_option maxHeartbeats 1000000 in
theorem rrun_any (B : Nat) (A : Option Addr) (c : Nat) (l : List UInt8) (r : Nat) (w : World) (hs : Shows w B A l.length (cells8 l)) (h : r < 4294967296) (hl : l.length ≤ 9223372036854775807) :
    Calls Tryd.prog 17 #[.int .u32 r, .slice A l.length c] w fun e w' => e = .returned (.int .u32 ((runB r l : Nat) : Int)) ∧ w' = w := by
  go_enter Tryd.func17, Tryd.ntmps17
  go_wp2
  go_loop [0, 5] (fun x j => ∃ i : Nat, i ≤ l.length ∧ j = .int .i64 (i : Int) ∧ x = .int .u32 ((runB r (l.take i) : Nat) : Int)) (fun _ j => l.length - (intOf j).toNat)
  case atStart => exact ⟨0, Nat.zero_le _, rfl, rfl⟩
  case round =>
    obtain ⟨i, hi, rfl, rfl⟩ := hrel
    by_cases hlt : i < l.length
    · obtain ⟨p, u, rfl, hp, hu, hcl⟩ := hs.cell hlt
      rw [cells8_get l i hlt] at hu
      injection hu with hu
      subst hu
      have hnx := Lib.hid (run_take r l i hlt)
      have hrl := runB_lt (l.take i) r h
      generalize hx : runB r (l.take i) = x at *
      generalize hb : l[i] = b at *
      clear hx hb
      have h1 := in32 x b hrl
      have hwb : IntKind.u32.wrap (b.toNat : Int) = (b.toNat : Int) := by rw [IntKind.wrap_u32']; have := b.toNat_lt; omega
      have h2 := xor_lt32 _ _ hrl (byte_lt32 b)
      have he : ∀ w, Calls Tryd.prog 19 #[.int .u32 ((x ^^^ b.toNat : Nat) : Int)] w fun e w' => e = .returned (.int .u32 ((ei (x ^^^ b.toNat) : Nat) : Int)) ∧ w' = w := fun w => eight_any _ w h2
      generalize x ^^^ b.toNat = y at *
      clear hs h
      generalize ei y = z at *
      have HE := Lib.hid he
      clear he
      go_wp2_with fail
      refine (HE.out _).mono ?_
      rintro e w' ⟨rfl, rfl⟩
      go_wp2
      go_round
      case rel => exact ⟨i + 1, hlt, val_int (by omega), by rw [hnx.out]⟩
      case measure => simp [intOf]; omega
    · have : i = l.length := by omega
      subst this
      rw [List.take_length]
      clear hs
      go_wp2
      go_ret
      exact ⟨rfl, rfl⟩

theorem sub32 (x : Nat) (h : x < 4294967296) : IntKind.u32.wrap (4294967295 - (x : Int)) = ((M32 - x : Nat) : Int) := by rw [IntKind.wrap_u32']; unfold M32; omega

set_option maxHeartbeats 1000000 in
theorem rsum_any (B : Nat) (A : Option Addr) (c : Nat) (l : List UInt8) (w : World) (hs : Shows w B A l.length (cells8 l)) (hl : l.length ≤ 9223372036854775807) :
    Calls Tryd.prog 8 #[.slice A l.length c] w fun e w' => e = .returned (.int .u32 ((sumB l : Nat) : Int)) ∧ w' = w := by
  have hM : M32 < 4294967296 := by decide
  have hr := Lib.hid (rrun_any B A c l M32 w hs hM hl)
  have hsb := sub32 _ (runB_lt l M32 hM)
  have hfin : M32 - runB M32 l = sumB l := rfl
  rw [hfin] at hsb
  generalize runB M32 l = x at *
  clear hs hM hfin
  go_enter Tryd.func8, Tryd.ntmps8
  go_wp2_with (go_at_call 17; refine hr.out.mono ?_; rintro e w1 ⟨rfl, rfl⟩)
  go_ret
  exact ⟨rfl, rfl⟩

set_option maxHeartbeats 1000000 in
theorem radd_any (B : Nat) (A : Option Addr) (c : Nat) (l : List UInt8) (s : Nat) (w : World) (hs : Shows w B A l.length (cells8 l)) (h : s < 4294967296) (hl : l.length ≤ 9223372036854775807) :
    Calls Tryd.prog 10 #[.int .u32 s, .slice A l.length c] w fun e w' => e = .returned (.int .u32 ((addB s l : Nat) : Int)) ∧ w' = w := by
  have hM : M32 - s < 4294967296 := by unfold M32; omega
  have hr := Lib.hid (rrun_any B A c l (M32 - s) w hs hM hl)
  have hsb := sub32 _ (runB_lt l (M32 - s) hM)
  have hs0 := sub32 s h
  have hfin : M32 - runB (M32 - s) l = addB s l := rfl
  rw [hfin] at hsb
  generalize runB (M32 - s) l = x at *
  generalize M32 - s = y at *
  clear hs hM hfin
  go_enter Tryd.func10, Tryd.ntmps10
  go_wp2_with (go_at_call 17; refine hr.out.mono ?_; rintro e w1 ⟨rfl, rfl⟩)
  go_ret
  exact ⟨rfl, rfl⟩

theorem wrap32_small (n : Nat) (h : n < 256) : IntKind.u32.wrap (n : Int) = (n : Int) := by rw [IntKind.wrap_u32']; omega

set_option maxHeartbeats 1000000 in
theorem rtable_any (i : Int) (w : World) :
    Calls Tryd.prog 12 #[.int .i64 i] w fun e w' => e = .returned (.int .u32 ((entryB i : Nat) : Int)) ∧ w' = w := by
  by_cases h : 0 ≤ i ∧ i ≤ 255
  · obtain ⟨n, rfl⟩ := Int.eq_ofNat_of_zero_le h.1
    have hn : n < 256 := by omega
    have he : entryB (n : Int) = ei n := by unfold entryB; rw [if_pos h]; rfl
    rw [he]
    clear h he
    have hw := wrap32_small n hn
    have HE := Lib.hid (eight_any n w (by omega))
    go_enter Tryd.func12, Tryd.ntmps12
    go_wp2_with (go_at_call 19; refine HE.out.mono ?_; rintro e w' ⟨rfl, rfl⟩)
    go_ret
    exact ⟨rfl, rfl⟩
  · have he : entryB i = 0 := by unfold entryB; rw [if_neg h]
    rw [he]
    by_cases h0 : i < 0
    · clear h he
      go_enter Tryd.func12, Tryd.ntmps12
      go_wp2
      go_ret
      exact ⟨rfl, rfl⟩
    · have h1 : 255 < i := by omega
      clear h he
      go_enter Tryd.func12, Tryd.ntmps12
      go_wp2
      go_ret
      exact ⟨rfl, rfl⟩

theorem known_row : sumB [49, 50, 51, 52, 53, 54, 55, 56, 57] = 3808858755 := by decide +kernel

def row9 : Array Value := #[.int .u8 49, .int .u8 50, .int .u8 51, .int .u8 52, .int .u8 53, .int .u8 54, .int .u8 55, .int .u8 56, .int .u8 57]
theorem row9_shows (w : World) : Shows (w.alloc (.cells row9 5 (9, 10))) (w.heap.size + 1) (some ⟨w.heap.size, 0, none⟩) [49, 50, 51, 52, 53, 54, 55, 56, 57].length (cells8 [49, 50, 51, 52, 53, 54, 55, 56, 57]) := by
  refine ⟨rfl, fun _ => ⟨⟨w.heap.size, 0, none⟩, rfl, Nat.lt_succ_self _, fun j u hj => ?_⟩⟩
  have hc := cell_of_row (w.alloc (.cells row9 5 (9, 10))) w.heap.size j row9 5 (9, 10) (heap_alloc_new w _)
  have ha : (⟨w.heap.size, 0, none⟩ : Addr).add j = ⟨w.heap.size, j, none⟩ := by
    unfold Addr.add
    by_cases hj0 : j = 0 <;> simp [hj0]
  rw [ha, hc]
  have e : row9.toList = cells8 [49, 50, 51, 52, 53, 54, 55, 56, 57] := rfl
  rw [← Array.getElem?_toList, e]
  exact hj

set_option maxHeartbeats 1000000 in
theorem known_any (w : World) (hT : Tabs w) :
    Calls Tryd.prog 6 #[] w fun e w' => e = .returned (.bool true) ∧ Below w.heap.size w w' := by
  have hcv := Joins.run_convert_bytes_const_at (P := Tryd.prog) w 22 5 row9 9 9 w.heap.size rfl Tryd.underlying22 Tryd.underlying5
  unfold row9 at hcv
  have hb0 := (Below.refl w.heap.size w).alloc (Nat.le_refl _) (.cells row9 5 (9, 10))
  have hsum := sum_any (w.heap.size + 1) _ 9 [49, 50, 51, 52, 53, 54, 55, 56, 57] _ (hT.below hb0 hT.size) (row9_shows w) (by simp) (by decide)
  have e1 : ([49, 50, 51, 52, 53, 54, 55, 56, 57] : List UInt8).length = 9 := rfl
  rw [known_row, e1] at hsum
  have HS := Lib.hid hsum
  clear hsum e1
  go_enter Tryd.func6, Tryd.ntmps6
  go_wp2_with (go_at_call 7; refine HS.out.mono ?_; rintro e w1 ⟨rfl, hb1⟩)
  go_ret
  exact ⟨rfl, hb0.trans (hb1.mono (by simp))⟩
end Go.Proofs.YthjbchdpnlenjaaDoor
