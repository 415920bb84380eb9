/- SuperNil, walked. -/
import Derived.Test.YtfkhfmhmkccbgaaDoorTi
set_option linter.unusedVariables false
namespace Go.Proofs.YtfkhfmhmkccbgaaDoor.Q
open Go.RowKit

def nd7 : RD := newD 7
set_option maxRecDepth 100000 in
set_option maxHeartbeats 8000000 in
theorem nil_law (w : World) (hT : Tabs w) (hW : Wids w) : Calls Tryd.prog 8 #[] w fun e w' => e = .returned (.bool true) ∧ Below w.heap.size w w' := by
  have HTW : Hid (∀ W, Below w.heap.size w W → Tabs W ∧ Wids W) := Lib.hid (fun W hb => ⟨hT.below hb hT.size, hW.below hb hW.size⟩)
  have HN : Hid (∀ W, Below w.heap.size w W → Calls Tryd.prog 28 #[.int .i64 7] W fun e w' => ∃ b, e = .returned (.tuple #[.pointer (some ⟨b, 0, none⟩), .int .i64 0]) ∧ Hid (KS w w' b nd7)) := Lib.hid (fun W hb => KS.new 7 w W hb (by omega))
  have HLD : Hid (∀ (b : Nat) (W : World), KS w W b nd7 → Calls Tryd.prog 35 #[.pointer (some ⟨b, 0, none⟩)] W fun e w' => e = .returned (.tuple #[.agg zeroSC, .int .i64 2]) ∧ Hid (KS w w' b nd7)) := Lib.hid (fun b W h => by
    have h0 := h
    obtain ⟨F, h1, h2, h3⟩ := h
    exact (load_7 (HTW.out W h3).1 (HTW.out W h3).2 h1).mono fun e w' hp => ⟨hp.1, h0.below hp.2⟩)
  have HSV : Hid (∀ (b : Nat) (W : World), KS w W b nd7 → Calls Tryd.prog 32 #[.pointer (some ⟨b, 0, none⟩), .agg zeroSC] W fun e w' => e = .returned (.int .i64 2) ∧ Hid (KS w w' b nd7)) := Lib.hid (fun b W h => by
    obtain ⟨F, h1, h2, h3⟩ := h
    have hm : zeroSU.may = false := mayS_no (fun h => by have := h.2.2.1.1; simp [zeroSU] at this)
    exact (save_bad (HTW.out W h3).1 (HTW.out W h3).2 h1 zeroSU zeroSU_fits hm).mono fun e w' hp => ⟨hp.1, KS.done h3 h2 hp⟩)
  have HO1 : Hid (∀ W, Calls Tryd.prog 31 #[.int .u64 1] W fun e w' => e = .returned (.agg (someU 1).cells) ∧ Below W.heap.size W w') := Lib.hid (fun W => some_any W 1)
  have HSN : Hid (∀ W, Calls Tryd.prog 32 #[.pointer none, .agg (someU 1).cells] W fun e w' => e = .returned (.int .i64 1) ∧ Below W.heap.size W w') := Lib.hid (fun W => save_nil W (someU 1))
  have HWN : Hid (∀ W, Calls Tryd.prog 29 #[.pointer none, .int .i64 0, .agg (cells8 noughts).toArray] W fun e w' => e = .returned (.int .i64 1) ∧ Below W.heap.size W w') := Lib.hid (fun W => write_nil W 0 noughts noughts_len)
  have HKN : Hid (∀ W, Below w.heap.size w W → Calls Tryd.prog 27 #[] W fun e w' => e = .returned (.bool true) ∧ Below w.heap.size w w') := Lib.hid (fun W hb => known_any w W hb hT hW)
  obtain ⟨c1, hc1⟩ : ∃ c, (someU 1).cells = c := ⟨_, rfl⟩
  rw [hc1] at HO1 HSN
  have hzs := sup_zero
  have hz2 := blk_zero
  have hnc : (cells8 noughts).length = 256 := by rw [cells8_length, noughts_len]
  have hst := fun w => store_blk w noughts noughts noughts_len noughts_len
  have hVst := fun w => store_sup w zeroSC rfl (by simp [zeroSC, Value.oneCell'])
  have hVs : zeroSC.size = 19 := rfl
  clear hT hW hc1
  go_enter Tryd.func8, Tryd.ntmps8
  go_wp2_with (first
    | (go_at_call 35; first
        | ((with_reducible refine (load_nil _).mono ?_); rintro e w1 ⟨rfl, hb1⟩; have HB1 := Lib.hid (hb1.alloc hb1.size (.cells zeroSC 50)); clear hb1)
        | ((with_reducible refine (HLD.out _ _ HK3.out).mono ?_); rintro e w4 ⟨rfl, hk4⟩; have HK4 := Lib.hid (hk4.out.below ((Below.refl _ w4).alloc (Nat.le_refl _) (.cells zeroSC 50))); clear hk4))
    | (go_at_call 30; (with_reducible refine (read_nil _ _).mono ?_); rintro e w2 ⟨rfl, hb2⟩; have HB2 := Lib.hid ((HB1.out.trans (hb2.mono HB1.out.size)).alloc (Nat.le_trans HB1.out.size hb2.size) (.cells (cells8 noughts).toArray 29)); clear hb2)
    | (go_at_call 28; (with_reducible refine (HN.out _ HB2.out).mono ?_); rintro e w3 ⟨b, rfl, hk3⟩; have HK3 := Lib.hid hk3.out; clear hk3)
    | (go_at_call 29; (with_reducible refine (HWN.out _).mono ?_); rintro e w5 ⟨rfl, hb5⟩; have HK5 := Lib.hid (HK4.out.below hb5); clear hb5)
    | (go_at_call 31; (with_reducible refine (HO1.out _).mono ?_); rintro e w6 ⟨rfl, hb6⟩; have HK6 := Lib.hid (HK5.out.below hb6); clear hb6)
    | (go_at_call 32; first
        | ((with_reducible refine (HSN.out _).mono ?_); rintro e w7 ⟨rfl, hb7⟩; have HK7 := Lib.hid (HK6.out.below hb7); clear hb7)
        | ((with_reducible refine (HSV.out _ _ HK7.out).mono ?_); rintro e w8 ⟨rfl, hk8⟩; have HK8 := Lib.hid hk8.out; clear hk8))
    | (go_at_call 27; (with_reducible refine (HKN.out _ HK8.out.b).mono ?_); rintro e w9 ⟨rfl, hb9⟩; have HB9 := Lib.hid hb9; clear hb9)
    | fail)
  go_ret
  exact ⟨rfl, HB9.out⟩
end Go.Proofs.YtfkhfmhmkccbgaaDoor.Q
