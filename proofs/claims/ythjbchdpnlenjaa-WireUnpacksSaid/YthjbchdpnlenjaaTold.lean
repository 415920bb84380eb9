/- The law's own values: a record of 260 cells; what the program takes of them. -/
import Derived.Test.YthjbchdpnlenjaaBack
import Derived.Deep.MidRow
import Derived.Stop.BytesEq
namespace Go.Proofs.Ythjbchdpnlenjaa
open Go.RowKit

/-- a value of the law: its letter, and what of each kind it has -/
structure LVal where
  c : UInt8
  n : Nat
  yes : Bool
  b : List UInt8
  x : List UInt8

/-- its cells, with its bytes' slice -/
def lvCells (v : LVal) (A : Option Addr) (cap : Nat) : List Value := .int .u8 (v.c.toNat : Int) :: .int .u64 (v.n : Int) :: .bool v.yes :: .slice A v.b.length cap :: cells8 v.x
/-- these cells are that value; its bytes lie below block B -/
def LVok (w : World) (B : Nat) (cs : List Value) (v : LVal) : Prop := ∃ A cap, cs = lvCells v A cap ∧ v.x.length = 256 ∧ v.n < 18446744073709551616 ∧ Shows w B A v.b.length (cells8 v.b) ∧ v.b.length ≤ cap ∧ cap ≤ 9223372036854775807

/-- what the program is told of it -/
def toldP (v : LVal) : PV := if v.c = 56 then .num v.n else if v.c = 63 then .flag v.yes else if v.c = 42 then .blob v.b else if v.c = 35 then .block v.x else .other

theorem lv_length {v : LVal} (h : v.x.length = 256) (A : Option Addr) (cap : Nat) : (lvCells v A cap).length = 260 := by simp [lvCells, cells8_length, h]
theorem lv_one (v : LVal) (A : Option Addr) (cap : Nat) : ∀ u ∈ lvCells v A cap, u.oneCell' = true := by
  intro u hu
  simp only [lvCells, List.mem_cons] at hu
  rcases hu with rfl | rfl | rfl | rfl | hu
  · rfl
  · rfl
  · rfl
  · rfl
  · exact cells8_one _ u hu
theorem lv_range (v : LVal) (A : Option Addr) (cap : Nat) (w : World) (t : TypeId) : (w.alloc (.cells (lvCells v A cap).toArray t)).rangeAt w.heap.size 4 (cells8 v.x) := by
  intro j u hj
  rw [cell_of_row _ w.heap.size (4 + j) _ t (0, 0) (heap_alloc_new w _)]
  simp only [List.getElem?_toArray]
  rw [Nat.add_comm 4 j]
  exact hj
theorem val_size : (Try.prog.info? 54).map (·.size) = some 260 := by kernel_rfl

section
variable (v : LVal) (A : Option Addr) (cap : Nat) (w : World)
theorem lv_c0 : (w.alloc (.cells (lvCells v A cap).toArray 54)).cell? ⟨w.heap.size, 0, none⟩ = some (.int .u8 (v.c.toNat : Int)) := by
  rw [cell_of_row _ w.heap.size 0 _ _ (0, 0) (heap_alloc_new w _)]; rfl
theorem lv_c1 : (w.alloc (.cells (lvCells v A cap).toArray 54)).cell? ⟨w.heap.size, 1, none⟩ = some (.int .u64 (v.n : Int)) := by
  rw [cell_of_row _ w.heap.size 1 _ _ (0, 0) (heap_alloc_new w _)]; rfl
theorem lv_c2 : (w.alloc (.cells (lvCells v A cap).toArray 54)).cell? ⟨w.heap.size, 2, none⟩ = some (.bool v.yes) := by
  rw [cell_of_row _ w.heap.size 2 _ _ (0, 0) (heap_alloc_new w _)]; rfl
theorem lv_c3 : (w.alloc (.cells (lvCells v A cap).toArray 54)).cell? ⟨w.heap.size, 3, none⟩ = some (.slice A v.b.length cap) := by
  rw [cell_of_row _ w.heap.size 3 _ _ (0, 0) (heap_alloc_new w _)]; rfl
end

theorem ne56 {c : UInt8} (h : ¬ c = 56) : ((c.toNat : Int) == 56) = false := by rw [beq_eq_false_iff_ne]; intro e; exact h (UInt8.toNat.inj (by show _ = 56; omega))
theorem eq56 {c : UInt8} (h : c = 56) : ((c.toNat : Int) == 56) = true := by rw [h]; rfl
theorem ne63 {c : UInt8} (h : ¬ c = 63) : ((c.toNat : Int) == 63) = false := by rw [beq_eq_false_iff_ne]; intro e; exact h (UInt8.toNat.inj (by show _ = 63; omega))
theorem eq63 {c : UInt8} (h : c = 63) : ((c.toNat : Int) == 63) = true := by rw [h]; rfl
theorem ne42 {c : UInt8} (h : ¬ c = 42) : ((c.toNat : Int) == 42) = false := by rw [beq_eq_false_iff_ne]; intro e; exact h (UInt8.toNat.inj (by show _ = 42; omega))
theorem eq42 {c : UInt8} (h : c = 42) : ((c.toNat : Int) == 42) = true := by rw [h]; rfl
theorem ne35 {c : UInt8} (h : ¬ c = 35) : ((c.toNat : Int) == 35) = false := by rw [beq_eq_false_iff_ne]; intro e; exact h (UInt8.toNat.inj (by show _ = 35; omega))
theorem eq35 {c : UInt8} (h : c = 35) : ((c.toNat : Int) == 35) = true := by rw [h]; rfl

set_option maxHeartbeats 1000000 in
theorem told_any (v : LVal) (cs : List Value) (w : World) (h : LVok w w.heap.size cs v) (hb : v.b.length ≤ 16777216) :
    Calls Try.prog 30 #[.agg cs.toArray] w fun e w' => ∃ u, e = .returned u ∧ OV w' w.heap.size u (toldP v) ∧ Below w.heap.size w w' := by
  obtain ⟨A, cap, rfl, hx, hn, hs, hc, hcm⟩ := h
  obtain ⟨i0, hi, hz0, hz1, hz2⟩ := info_parts u8_info
  have c0 := lv_c0 v A cap w
  have c1 := lv_c1 v A cap w
  have c2 := lv_c2 v A cap w
  have c3 := lv_c3 v A cap w
  have hr := lv_range v A cap w 54
  have hs2 := hs.alloc (Nat.le_refl _) (.cells (lvCells v A cap).toArray 54)
  have HR := Lib.hid hr
  clear hr hs
  have hbel : Below w.heap.size w (w.alloc (.cells (lvCells v A cap).toArray 54)) := (Below.refl _ _).alloc (Nat.le_refl _) _
  have hsz : (w.alloc (.cells (lvCells v A cap).toArray 54)).heap.size = w.heap.size + 1 := by simp
  have HX := Lib.hid hx
  have HN := Lib.hid hn
  have HSZ := Lib.hid hsz
  clear hx hn hsz
  by_cases h56 : v.c = 56
  · have hE : toldP v = .num v.n := by simp [toldP, h56]
    rw [hE]
    have k56 := eq56 h56
    clear hE h56
    generalize hcs : (lvCells v A cap).toArray = CS at *
    clear hcs
    go_enter Try.func30, Try.ntmps30
    go_wp2_with fail
    go_ret
    exact ⟨_, rfl, ⟨rfl, HN.out⟩, hbel⟩
  · have k56 := ne56 h56
    by_cases h63 : v.c = 63
    · have hE : toldP v = .flag v.yes := by simp [toldP, h63]
      rw [hE]
      have k63 := eq63 h63
      clear hE h63 h56
      generalize hcs : (lvCells v A cap).toArray = CS at *
      clear hcs
      go_enter Try.func30, Try.ntmps30
      go_wp2_with fail
      go_ret
      exact ⟨_, rfl, rfl, hbel⟩
    · have k63 := ne63 h63
      by_cases h42 : v.c = 42
      · have hE : toldP v = .blob v.b := by simp [toldP, h42]
        rw [hE]
        have k42 := eq42 h42
        clear hE h42 h63 h56
        generalize hcs : (lvCells v A cap).toArray = CS at *
        clear hcs
        go_enter Try.func30, Try.ntmps30
        go_wp2_with (at_builtin; refine wpList_append_shows _ rfl (.const (.slice none 0 0)) (.tmp 18) 25 rfl w.heap.size 5 i0 (.int .u8 0) 1 Try.underlying25 hi hz0 hz1 hz2 rfl (.slice none 0 0) 0 [] rfl (World.ownsRow_nil _ _ _ _) w.heap.size A v.b.length cap (cells8 v.b) rfl hs2 (cells8_one _) (by unfold maxLen; omega) (by omega) (by rw [HSZ.out]; omega) ?_; intro v4 w4 hown4 hgrow4; simp only [Nat.zero_add, List.nil_append] at hown4)
        obtain ⟨A4, c4, hv4, hc4, hm4⟩ := own_form hown4
        subst hv4
        go_ret
        exact ⟨_, rfl, ⟨A4, c4, rfl, hown4, hb⟩, hbel.trans (hgrow4.below_from (by rw [HSZ.out]; omega) (by simp [Value.ownBlock]))⟩
      · have k42 := ne42 h42
        by_cases h35 : v.c = 35
        · have hE : toldP v = .block v.x := by simp [toldP, h35]
          rw [hE]
          have k35 := eq35 h35
          clear hE h35 h42 h63 h56
          generalize hcs : (lvCells v A cap).toArray = CS at *
          clear hcs
          go_enter Try.func30, Try.ntmps30
          go_wp2_with (refine wpList_load_mid rfl 52 (.tmp 23) rfl w.heap.size 4 rfl (cells8 v.x) _ HR.out Try.underlying52 rfl (by rw [block_size, cells8_length, HX.out]) ?_)
          go_ret
          exact ⟨_, rfl, ⟨rfl, HX.out⟩, hbel⟩
        · have hE : toldP v = .other := by simp [toldP, h56, h63, h42, h35]
          rw [hE]
          have k35 := ne35 h35
          clear hE h35 h42 h63 h56
          generalize hcs : (lvCells v A cap).toArray = CS at *
          clear hcs
          go_enter Try.func30, Try.ntmps30
          go_wp2_with fail
          go_ret
          exact ⟨_, rfl, ⟨_, rfl⟩, hbel⟩

end Go.Proofs.Ythjbchdpnlenjaa
