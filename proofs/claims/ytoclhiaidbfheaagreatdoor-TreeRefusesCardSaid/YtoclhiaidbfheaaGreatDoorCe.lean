/- Walks: Add, Sum and Table of package crc. -/
import Derived.Test.YtoclhiaidbfheaaGreatDoorCd
namespace Go.Proofs.YtoclhiaidbfheaaGreatDoor
open Go.RowKit

theorem store_tab (w : World) : (storeCells ⟨w.heap.size, 0, none⟩ (cells32 (tabN 256)).toList 0).run Tryz.prog (w.alloc (.cells (cells32 (tabN 0)) 360)) = .ok () (w.alloc (.cells (cells32 (tabN 256)) 360)) :=
  run_storeCells_new (P := Tryz.prog) w 360 (cells32 (tabN 0)) (cells32 (tabN 256)) (by rw [tab_size, cells32_size, tabN_len]) (by rw [cells32_size, cells32_size, tabN_len, tabN_len]) (cells32_one _)
theorem tab_sz : (cells32 (tabN 256)).size = 256 := by rw [cells32_size, tabN_len]
theorem tab_cell (w : World) (m : Nat) (h : m < 256) : (w.alloc (.cells (cells32 (tabN 256)) 360)).cell? ⟨w.heap.size, m, none⟩ = some (.int .u32 ((ei m : Nat) : Int)) := by
  have := (Holds32.new w 360 (tabN 256) _ rfl).cell m (by rw [tabN_len]; exact h)
  rw [tabN_get _ _ h, if_pos h] at this
  exact this
theorem not_u32 (s : Nat) (h : s < 4294967296) : bits .xor .u32 IntKind.u32.max (s : Int) = ((M32 - s : Nat) : Int) := by
  have := u32_xor_nat 4294967295 s (by omega) h
  rw [not32 s h] at this
  exact this
theorem round_u8 (r : Nat) (b : UInt8) : bits .xor .u8 ((r : Int) % 256) (b.toNat : Int) = (((r % 256) ^^^ b.toNat : Nat) : Int) := u8_xor_nat (r % 256) b.toNat (by omega) b.toNat_lt
theorem round_lt (r : Nat) (b : UInt8) : (r % 256) ^^^ b.toNat < 256 := Nat.xor_lt_two_pow (n := 8) (by omega) b.toNat_lt
theorem round_u32 (r m : Nat) (b : UInt8) (hr : r < 4294967296) (hm : m = (r % 256) ^^^ b.toNat) : bits .xor .u32 ((r : Int) / 256) ((ei m : Nat) : Int) = ((ei (r ^^^ b.toNat) : Nat) : Int) := by
  have hl : m < 4294967296 := by have := round_lt r b; omega
  have := u32_xor_nat (r / 256) (ei m) (by omega) (ei_lt m hl)
  rw [ei_step r b.toNat, ← hm]
  exact this
theorem run_take (r : Nat) (l : List UInt8) (i : Nat) (h : i < l.length) : runB r (l.take (i + 1)) = ei (runB r (l.take i) ^^^ (l[i]'h).toNat) := by
  rw [List.take_succ_eq_append_getElem h, runB_snoc]

set_option maxRecDepth 10000 in
set_option maxHeartbeats 1000000 in
theorem add_any (B : Nat) (A : Option Addr) (c : Nat) (l : List UInt8) (s : Nat) (w : World) (hT : Tabs w) (hs : Shows w B A l.length (cells8 l)) (hB : B ≤ w.heap.size) (h : s < 4294967296) (hl : l.length ≤ 9223372036854775807) :
    Calls Tryz.prog 232 #[.int .u32 s, .slice A l.length c] w fun e w' => e = .returned (.int .u32 ((addB s l : Nat) : Int)) ∧ Below w.heap.size w w' := by
  have hzt := zero_tab
  have hst := fun w => store_tab w
  have hsz := tab_sz
  have hn := not_u32 s h
  generalize hr0 : M32 - s = r0 at *
  have h0 : r0 < 4294967296 := by unfold M32 at hr0; omega
  have HR := Lib.hid hr0
  clear hr0
  go_enter Tryz.func232, Tryz.ntmps232
  go_wp2_with (go_at_call 249; refine (table_any _ hT).mono ?_; rintro e w1 ⟨rfl, hb1⟩)
  have hs1 := (hs.wide hB).below hb1
  have hB1 := hb1.size
  have hs2 := (hs1.wide hB1).alloc (Nat.le_refl _) (.cells (cells32 (tabN 256)) 360)
  have hcell := tab_cell w1
  have hb2 := hb1.alloc hB1 (.cells (cells32 (tabN 256)) 360)
  clear hzt hst hsz hs hs1
  go_loop [6, 14] (fun x j => ∃ i : Nat, i ≤ l.length ∧ j = .int .i64 (i : Int) ∧ x = .int .u32 ((runB r0 (l.take i) : Nat) : Int)) (fun _ j => l.length - (intOf j).toNat)
  case atStart => exact ⟨0, Nat.zero_le _, rfl, rfl⟩
  case round =>
    clear hn
    obtain ⟨i, hi, rfl, rfl⟩ := hrel
    by_cases hlt : i < l.length
    · obtain ⟨p, u, rfl, hp, hu, hcl⟩ := hs2.cell hlt
      rw [cells8_get l i hlt] at hu
      injection hu with hu
      subst hu
      have hnx := run_take r0 l i hlt
      have hrl := runB_lt (l.take i) r0 h0
      generalize hx : runB r0 (l.take i) = x at *
      generalize hb : l[i] = b at *
      have HX := Lib.hid hx
      clear hx
      have h1 := round_u8 x b
      have h2 := round_lt x b
      have h3 := round_u32 x _ b hrl rfl
      rw [← hnx] at h3
      have hc := hcell _ h2
      generalize (x % 256) ^^^ b.toNat = m at *
      have hw1 : ((w1.alloc (.cells (cells32 (tabN 256)) 360)).cell? ⟨w1.heap.size, m, none⟩) = some (.int .u32 ((ei m : Nat) : Int)) := hc
      clear hc hcell
      generalize ei m = y at *
      generalize hz : runB r0 (l.take (i + 1)) = z at *
      have HZ := Lib.hid hz
      clear hz hnx hs2
      go_wp2
      go_round
      case rel => exact ⟨i + 1, hlt, by go_num, by rw [HZ.out]⟩
      case measure => simp [intOf]; omega
    · have : i = l.length := by omega
      subst this
      have hrl := runB_lt l r0 h0
      have hn2 := not_u32 _ hrl
      rw [List.take_length]
      have hfin : M32 - runB r0 l = addB s l := by unfold addB; rw [HR.out]
      rw [hfin] at hn2
      generalize runB r0 l = x at *
      clear hfin hcell hs2
      go_wp2
      go_ret
      exact ⟨rfl, hb2⟩

set_option maxHeartbeats 1000000 in
theorem sum_any (B : Nat) (A : Option Addr) (c : Nat) (l : List UInt8) (w : World) (hT : Tabs w) (hs : Shows w B A l.length (cells8 l)) (hB : B ≤ w.heap.size) (hl : l.length ≤ 9223372036854775807) :
    Calls Tryz.prog 199 #[.slice A l.length c] w fun e w' => e = .returned (.int .u32 ((sumB l : Nat) : Int)) ∧ Below w.heap.size w w' := by
  go_enter Tryz.func199, Tryz.ntmps199
  go_wp2_with (go_at_call 232; refine (add_any B A c l 0 w hT hs hB (by omega) hl).mono ?_; rintro e w1 ⟨rfl, hb1⟩)
  go_ret
  exact ⟨rfl, hb1⟩

end Go.Proofs.YtoclhiaidbfheaaGreatDoor
