/- From what a row of super's lists to what the walks ask. -/
import Derived.Test.YtoclhiaidbfheaaGreatDoorRows
import Derived.Test.YtoclhiaidbfheaaGreatDoorGu
import Derived.ProofKit
import Derived.LaidMore
import Derived.OpenShut
import Derived.Stop.Joined
import Derived.Lib.LaidTab
import Derived.Lib.SmallJoins
import Derived.Deep.Slices
namespace Go.Proofs.YtoclhiaidbfheaaGreatDoor
open Go.RowKit Go.ChangeShapes Go.WideShapes Go.Deep Go.WideMaps Go.WideElems

def laidS : List (String × DataW Unit) := [("math/bits.deBruijn32tab", Rows.laid_math_bits_deBruijn32tab), ("math/bits.deBruijn64tab", Rows.laid_math_bits_deBruijn64tab), ("voile/super.widths", Rows.laid_voile_super_widths)]
theorem door_metS (os : Os) (args : Array Value) : laidMetH Tryz.prog laidS ((World.doorLaid Tryz.prog 400 os).forCall (fun _ _ => 0) ⟨#[], args, []⟩).memory :=
  laidMetH_of_parts3 (fuel := 8) (laidMet_of_run' 8 (by kernel_rfl) (by kernel_rfl)) (by kernel_rfl) (by kernel_rfl)
theorem gTabS : Tryz.prog.globalNamed "math/bits.deBruijn64tab" = some 2 := by kernel_rfl
theorem tTabS : (Tryz.prog.globals[2]?).map (·.type) = some 244 := by kernel_rfl
theorem gWid : Tryz.prog.globalNamed "voile/super.widths" = some 0 := by kernel_rfl
theorem tWid : (Tryz.prog.globals[0]?).map (·.type) = some 314 := by kernel_rfl
def widZ : List Int := [8, 4, 4, 4, 4, 4, 4, 4, 4, 4, 4, 4, 4, 8, 8, 8, 8, 8, 1]
theorem widZ_at : ∀ i, i < 19 → widZ.getD i 0 = ((widL.getD i 0 : Nat) : Int) := by decide
theorem tabs_ofS {W : World} (h : laidMetH Tryz.prog laidS W) : Tabs W ∧ Wids W := by
  rw [MakeChecks.laidMetH_plain _ _ _ (by kernel_rfl)] at h
  obtain ⟨ps, ⟨g0, t0, cs0, f0, p0, q0, hg0, ht0, hv0, hd0, ⟨g1, t1, cs1, f1, p1, q1, hg1, ht1, hv1, hd1, ⟨g2, t2, cs2, f2, p2, q2, hg2, ht2, hv2, hd2, _, _⟩, _⟩, _⟩, _, _⟩ := h
  obtain rfl := Option.some.inj (gTabS.symm.trans hg1)
  obtain rfl := Option.some.inj (tTabS.symm.trans ht1)
  obtain rfl := Option.some.inj (gWid.symm.trans hg2)
  obtain rfl := Option.some.inj (tWid.symm.trans ht2)
  have e : (Rows.laid_math_bits_deBruijn64tab : DataW Unit) = Lib.tabData .u8 db64 := rfl
  rw [e] at hd1
  have hcs := Lib.cells_of_tab Tryz.underlying244 Tryz.underlying5 (by kernel_rfl) (by kernel_rfl) hd1
  have hT : Lib.TabIs Tryz.prog W "math/bits.deBruijn64tab" .u8 db64 := by
    unfold Lib.TabIs
    rw [hv1, ← hcs]
  have e2 : (Rows.laid_voile_super_widths : DataW Unit) = Lib.tabData .i64 widZ := rfl
  rw [e2] at hd2
  have hcs2 := Lib.cells_of_tab Tryz.underlying314 Tryz.underlying3 (by kernel_rfl) (by kernel_rfl) hd2
  have hT2 : Lib.TabIs Tryz.prog W "voile/super.widths" .i64 widZ := by
    unfold Lib.TabIs
    rw [hv2, ← hcs2]
  refine ⟨fun i hi => hT.cell gTabS i (by simpa [db64] using hi), fun i hi => ?_⟩
  rw [hT2.cell gWid i (by simpa [widZ] using hi), widZ_at i hi]
end Go.Proofs.YtoclhiaidbfheaaGreatDoor
