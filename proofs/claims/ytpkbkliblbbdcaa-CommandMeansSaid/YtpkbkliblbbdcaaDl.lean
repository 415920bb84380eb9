/- The walk of the law CommandReads. -/
import Derived.Test.YtpkbkliblbbdcaaDk
set_option linter.unusedVariables false
namespace Go.Proofs.Ytpkbkliblbbdcaa
open Go.RowKit
set_option maxRecDepth 20000

set_option maxHeartbeats 4000000 in
theorem rof_nil (A : Option Addr) (cap : Nat) (w : World) (en : Value → Prop) (hen : en (.bool false)) :
    Calls Try.prog 20 #[.slice A 0 cap] w (OOf w none en) := by
  have hz : ZO (w.alloc (.cells #[.int .i64 0, .int .u64 0, .int .u64 0, .int .i64 0, .int .i64 0, .int .i64 0, .slice none 0 0] 26)) w.heap.size := heap_alloc_new _ _
  have HZ := Lib.hid hz
  clear hz
  go_enter Try.func20, Try.ntmps20
  go_wp2_with fail
  refine bodyPost_ret (results_cell_tmp rfl _ _ w.heap.size 26 _ (0, 0) _ _ rfl rfl HZ.out Try.underlying26 rfl op_size) rfl ?_
  exact OOf.zero hen ((Below.refl _ _).alloc (Nat.le_refl _) _)

theorem cof_any (l : List UInt8) (A : Option Addr) (cap : Nat) (w : World) (hs : Shows w w.heap.size A l.length (cells8 l)) (hc : l.length ≤ cap) (hcm : cap ≤ 9223372036854775807) :
    Calls Try.prog 19 #[.slice A l.length cap] w (OOf w (opOf l) (fun u => u = .int .i64 (if (opOf l).isSome then 0 else 4))) := by
  cases l with
  | nil => exact of_nil A cap w _ rfl
  | cons b tl => exact of_cons b tl A cap w hs hc hcm
theorem rof_any (l : List UInt8) (A : Option Addr) (cap : Nat) (w : World) (hl : l.length ≤ 9000) (hs : Shows w w.heap.size A l.length (cells8 l)) (hc : l.length ≤ cap) (hcm : cap ≤ 9223372036854775807) :
    Calls Try.prog 20 #[.slice A l.length cap] w (OOf w (opOf l) (fun u => u = .bool (opOf l).isSome)) := by
  cases l with
  | nil => exact rof_nil A cap w _ rfl
  | cons b tl => exact rof_cons b tl A cap w hl hs hc hcm

/-- a reading's error -/
def ee (g : Bool) : Int := if g then 0 else 4
theorem oo_same (o : OP) : decide ((⟨o.k, o.v, o.t, o.s, o.a, o.c, o.d⟩ : OP) = ⟨o.k, o.v, o.t, o.s, o.a, o.c, o.d⟩) = true := decide_eq_true rfl
theorem aa_same (a : AN) : decide ((⟨a.k, a.s, a.d⟩ : AN) = ⟨a.k, a.s, a.d⟩) = true := decide_eq_true rfl

set_option maxHeartbeats 4000000 in
theorem reads_much (l m : List UInt8) (A B : Option Addr) (cap cap2 : Nat) (w : World) (hl : l.length ≤ 9223372036854775807) (hm : m.length ≤ 9223372036854775807) (h : 9000 < l.length ∨ 9000 < m.length) :
    Calls Try.prog 4 #[.slice A l.length cap, .slice B m.length cap2] w fun e w' => e = .returned (.bool true) ∧ Below w.heap.size w w' := by
  by_cases h1 : 9000 < l.length
  · have d1 : decide ((9000 : Int) < (l.length : Int)) = true := dec_t (by omega)
    clear h1 h
    go_enter Try.func4, Try.ntmps4
    go_wp2_with (go_at_call 9; refine (known_any _).mono ?_; rintro e w2 ⟨rfl, hb2⟩)
    go_ret
    exact ⟨rfl, hb2⟩
  · have d1 : decide ((9000 : Int) < (l.length : Int)) = false := dec_f (by omega)
    have d2 : decide ((9000 : Int) < (m.length : Int)) = true := dec_t (by omega)
    clear h1 h
    go_enter Try.func4, Try.ntmps4
    go_wp2_with (go_at_call 9; refine (known_any _).mono ?_; rintro e w2 ⟨rfl, hb2⟩)
    go_ret
    exact ⟨rfl, hb2⟩

set_option maxHeartbeats 8000000 in
theorem reads_main (l m : List UInt8) (A B : Option Addr) (cap cap2 : Nat) (w : World) (hl : l.length ≤ 9000) (hm : m.length ≤ 9000) (hs : Shows w w.heap.size A l.length (cells8 l)) (hc : l.length ≤ cap) (hcm : cap ≤ 9223372036854775807) (hs2 : Shows w w.heap.size B m.length (cells8 m)) (hc2 : m.length ≤ cap2) (hcm2 : cap2 ≤ 9223372036854775807) :
    Calls Try.prog 4 #[.slice A l.length cap, .slice B m.length cap2] w fun e w' => e = .returned (.bool true) ∧ Below w.heap.size w w' := by
  have HC1 : Hid (∀ W, Shows W W.heap.size A l.length (cells8 l) → Calls Try.prog 19 #[.slice A l.length cap] W (OOf W (opOf l) (fun u => u = .int .i64 (ee (opOf l).isSome)))) := fun W hS => cof_any l A cap W hS hc hcm
  have HC2 := Lib.hid (fun W hS => rof_any l A cap W hl hS hc hcm)
  have HC3 : Hid (∀ W, Shows W W.heap.size B m.length (cells8 m) → Calls Try.prog 21 #[.slice B m.length cap2] W (AOf W (ansOf m) (fun u => u = .int .i64 (ee (ansOf m).isSome)))) := fun W hS => ansOf_any B cap2 m W hS hc2 hcm2
  have HC4 := Lib.hid (fun W hS => ransOf_any B cap2 m W (by omega) hS hc2 hcm2)
  have HS := Lib.hid hs
  have HS2 := Lib.hid hs2
  have d1 : decide ((9000 : Int) < (l.length : Int)) = false := dec_f (by omega)
  have d2 : decide ((9000 : Int) < (m.length : Int)) = false := dec_f (by omega)
  unfold OOf at HC1 HC2
  unfold AOf at HC3 HC4
  generalize (opOf l).getD (zeroO 0) = ob at *
  generalize (opOf l).isSome = g1 at *
  generalize (ansOf m).getD ⟨0, 0, []⟩ = ab at *
  generalize (ansOf m).isSome = g2 at *
  clear hs hs2 hl hm hc hcm hc2 hcm2
  go_enter Try.func4, Try.ntmps4
  go_wp2_with fail
  refine (HC1.out _ HS.out).mono ?_
  rintro e w1 ⟨A1, c1, u1, rfl, rfl, H1⟩
  have HW1 := Lib.hid (H1.out.2.2.2.trans ((Below.refl w1.heap.size w1).alloc (Nat.le_refl _) (.cells #[.int .i64 ob.k, .int .u64 (ob.v : Int), .int .u64 (ob.t : Int), .int .i64 ob.s, .int .i64 ob.a, .int .i64 ob.c, .slice A1 ob.d.length c1] 26) |>.mono H1.out.2.2.2.size))
  go_wp2_with fail
  refine (HC2.out _ (HS.out.on HW1.out)).mono ?_
  rintro e w2 ⟨A2, c2, u2, rfl, rfl, H2⟩
  have HW2 := Lib.hid (H2.out.2.2.2.trans ((Below.refl w2.heap.size w2).alloc (Nat.le_refl _) (.cells #[.int .i64 ob.k, .int .u64 (ob.v : Int), .int .u64 (ob.t : Int), .int .i64 ob.s, .int .i64 ob.a, .int .i64 ob.c, .slice A2 ob.d.length c2] 26) |>.mono H2.out.2.2.2.size))
  have HX2 := Lib.hid (HW1.out.trans (HW2.out.mono HW1.out.size))
  go_wp2_with fail
  refine (HC3.out _ (HS2.out.on HX2.out)).mono ?_
  rintro e w3 ⟨A3, c3, u3, rfl, rfl, H3⟩
  have HW3 := Lib.hid (H3.out.2.2.2.trans ((Below.refl w3.heap.size w3).alloc (Nat.le_refl _) (.cells #[.int .i64 ab.k, .int .i64 ab.s, .slice A3 ab.d.length c3] 41) |>.mono H3.out.2.2.2.size))
  have HX3 := Lib.hid (HX2.out.trans (HW3.out.mono HX2.out.size))
  go_wp2_with fail
  refine (HC4.out _ (HS2.out.on HX3.out)).mono ?_
  rintro e w4 ⟨A4, c4, u4, rfl, rfl, H4⟩
  have HW4 := Lib.hid (H4.out.2.2.2.trans ((Below.refl w4.heap.size w4).alloc (Nat.le_refl _) (.cells #[.int .i64 ab.k, .int .i64 ab.s, .slice A4 ab.d.length c4] 41) |>.mono H4.out.2.2.2.size))
  have HX4 := Lib.hid (HX3.out.trans (HW4.out.mono HX3.out.size))
  have HY3 := Lib.hid (HW3.out.trans (HW4.out.mono HW3.out.size))
  have HY2 := Lib.hid (HW2.out.trans (HY3.out.mono HW2.out.size))
  have HB5 : Hid (Box (w4.alloc (.cells #[.int .i64 ab.k, .int .i64 ab.s, .slice A4 ab.d.length c4] 41)) w1.heap.size ob A1 c1) := (HY2.out.block _ (by simp)).trans (heap_alloc_new _ _)
  have HB7 : Hid (Box (w4.alloc (.cells #[.int .i64 ab.k, .int .i64 ab.s, .slice A4 ab.d.length c4] 41)) w2.heap.size ob A2 c2) := (HY3.out.block _ (by simp)).trans (heap_alloc_new _ _)
  have HB9 : Hid (BoxA (w4.alloc (.cells #[.int .i64 ab.k, .int .i64 ab.s, .slice A4 ab.d.length c4] 41)) w3.heap.size ab A3 c3) := (HW4.out.block _ (by simp)).trans (heap_alloc_new _ _)
  have HB11 : Hid (BoxA (w4.alloc (.cells #[.int .i64 ab.k, .int .i64 ab.s, .slice A4 ab.d.length c4] 41)) w4.heap.size ab A4 c4) := heap_alloc_new _ _
  have HS5 : Hid (Shows (w4.alloc (.cells #[.int .i64 ab.k, .int .i64 ab.s, .slice A4 ab.d.length c4] 41)) (w4.alloc (.cells #[.int .i64 ab.k, .int .i64 ab.s, .slice A4 ab.d.length c4] 41)).heap.size A1 ob.d.length (cells8 ob.d)) := (H1.out.1.on ((Below.refl w1.heap.size w1).alloc (Nat.le_refl _) (.cells #[.int .i64 ob.k, .int .u64 (ob.v : Int), .int .u64 (ob.t : Int), .int .i64 ob.s, .int .i64 ob.a, .int .i64 ob.c, .slice A1 ob.d.length c1] 26))).on HY2.out
  have HS7 : Hid (Shows (w4.alloc (.cells #[.int .i64 ab.k, .int .i64 ab.s, .slice A4 ab.d.length c4] 41)) (w4.alloc (.cells #[.int .i64 ab.k, .int .i64 ab.s, .slice A4 ab.d.length c4] 41)).heap.size A2 ob.d.length (cells8 ob.d)) := (H2.out.1.on ((Below.refl w2.heap.size w2).alloc (Nat.le_refl _) (.cells #[.int .i64 ob.k, .int .u64 (ob.v : Int), .int .u64 (ob.t : Int), .int .i64 ob.s, .int .i64 ob.a, .int .i64 ob.c, .slice A2 ob.d.length c2] 26))).on HY3.out
  have HS9 : Hid (Shows (w4.alloc (.cells #[.int .i64 ab.k, .int .i64 ab.s, .slice A4 ab.d.length c4] 41)) (w4.alloc (.cells #[.int .i64 ab.k, .int .i64 ab.s, .slice A4 ab.d.length c4] 41)).heap.size A3 ab.d.length (cells8 ab.d)) := (H3.out.1.on ((Below.refl w3.heap.size w3).alloc (Nat.le_refl _) (.cells #[.int .i64 ab.k, .int .i64 ab.s, .slice A3 ab.d.length c3] 41))).on HW4.out
  have HS11 : Hid (Shows (w4.alloc (.cells #[.int .i64 ab.k, .int .i64 ab.s, .slice A4 ab.d.length c4] 41)) (w4.alloc (.cells #[.int .i64 ab.k, .int .i64 ab.s, .slice A4 ab.d.length c4] 41)).heap.size A4 ab.d.length (cells8 ab.d)) := H4.out.1.on ((Below.refl w4.heap.size w4).alloc (Nat.le_refl _) (.cells #[.int .i64 ab.k, .int .i64 ab.s, .slice A4 ab.d.length c4] 41))
  obtain ⟨W, hW⟩ : ∃ W, w4.alloc (.cells #[.int .i64 ab.k, .int .i64 ab.s, .slice A4 ab.d.length c4] 41) = W := ⟨_, rfl⟩
  rw [hW] at HX4 HB5 HB7 HB9 HB11 HS5 HS7 HS9 HS11
  have HWE := Lib.hid hW
  clear HW1 HW2 HW3 HW4 HX2 HX3 HY2 HY3 HC1 HC2 HC3 HC4 H1 H2 H3 H4 HS HS2 hW
  go_upto_region 7 with fail
  rw [HWE.out]
  clear HWE
  obtain ⟨a0, a1, a2, a3, a4, a5, a6⟩ := HB5.out.cells
  obtain ⟨b0, b1, b2, b3, b4, b5, b6⟩ := HB7.out.cells
  have he0 : ee true = 0 := rfl
  have he4 : ee false = 4 := rfl
  cases g1
  all_goals cases g2
  all_goals
    go_wp2_with fail
    refine (rsame_any HS5.out HS7.out).mono ?_
    rintro e w5 ⟨rfl, hb5⟩
    rw [oo_same]
    have HB95 := Lib.hid (HB9.out.below hb5 (Array.getElem?_eq_some_iff.1 HB9.out).1)
    have HB115 := Lib.hid (HB11.out.below hb5 (Array.getElem?_eq_some_iff.1 HB11.out).1)
    obtain ⟨n0, n1, n2⟩ := HB95.out.cells
    obtain ⟨o0, o1, o2⟩ := HB115.out.cells
    go_wp2_with (first
      | (go_at_call 17; refine (num_any _ _).mono ?_; rintro e w' ⟨rfl, rfl⟩)
      | (go_at_call 23; refine (rsameA_any (HS9.out.on hb5) (HS11.out.on hb5)).mono ?_; rintro e w6 ⟨rfl, hb6⟩; rw [aa_same])
      | (go_at_call 9; refine (known_any _).mono ?_; rintro e w7 ⟨rfl, hb7⟩)
      | fail)
    go_ret
    exact ⟨rfl, HX4.out.trans (((hb5.trans (hb6.mono hb5.size)).trans (hb7.mono (Nat.le_trans hb5.size hb6.size))).mono HX4.out.size)⟩

theorem reads_law (l m : List UInt8) (A B : Option Addr) (cap cap2 : Nat) (w : World) (hs : Shows w w.heap.size A l.length (cells8 l)) (hc : l.length ≤ cap) (hcm : cap ≤ 9223372036854775807) (hs2 : Shows w w.heap.size B m.length (cells8 m)) (hc2 : m.length ≤ cap2) (hcm2 : cap2 ≤ 9223372036854775807) :
    Calls Try.prog 4 #[.slice A l.length cap, .slice B m.length cap2] w fun e w' => e = .returned (.bool true) ∧ Below w.heap.size w w' := by
  by_cases h : 9000 < l.length ∨ 9000 < m.length
  · exact reads_much l m A B cap cap2 w (by omega) (by omega) h
  · exact reads_main l m A B cap cap2 w (by omega) (by omega) hs hc hcm hs2 hc2 hcm2

end Go.Proofs.Ytpkbkliblbbdcaa
