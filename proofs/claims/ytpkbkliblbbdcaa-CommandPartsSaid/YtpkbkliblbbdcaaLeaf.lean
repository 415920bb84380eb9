/- Walks of the leaf functions of package wire: widthOf, leastOf, byteOf. -/
import Derived.Test.YtpkbkliblbbdcaaProg
import Derived.Test.YtpkbkliblbbdcaaSpec
import Derived.WalkKit
import Derived.WalkSpells
import Derived.WalkLawsBesides
namespace Go.Proofs.Ytpkbkliblbbdcaa
open Go.RowKit
set_option maxRecDepth 20000

set_option maxHeartbeats 400000 in
theorem widthOf_any (c : Int) (w : World) :
    Calls Try.prog 64 #[.int .i32 c] w fun e w' => e = .returned (.int .i64 (wid c)) ∧ w = w' := by
  go_enter Try.func64, Try.ntmps64
  go_wp2
  all_goals go_ret
  all_goals refine ⟨ret_int ?_, rfl⟩
  all_goals simp only [beq_iff_eq, beq_eq_false_iff_ne, ne_eq] at *
  all_goals first
    | (simp [wid, *]; done)
    | (simp [wid, *]; unfold wrap64 wrap32; omega)

set_option maxHeartbeats 400000 in
theorem leastOf_any (c : Int) (w : World) :
    Calls Try.prog 63 #[.int .i32 c] w fun e w' => e = .returned (.int .i64 (lst c)) ∧ w = w' := by
  go_enter Try.func63, Try.ntmps63
  go_wp2_with (go_at_call 64; refine (widthOf_any _ _).mono ?_; rintro e w' ⟨rfl, rfl⟩)
  all_goals go_ret
  all_goals refine ⟨ret_int ?_, rfl⟩
  all_goals simp only [beq_iff_eq, beq_eq_false_iff_ne, ne_eq] at *
  all_goals simp [lst, *]

def bit8 (b : Bool) : UInt8 := if b then 1 else 0

set_option maxHeartbeats 400000 in
theorem byteOf_any (b : Bool) (w : World) :
    Calls Try.prog 66 #[.bool b] w fun e w' => e = .returned (.int .u8 ((bit8 b).toNat : Int)) ∧ w = w' := by
  go_enter Try.func66, Try.ntmps66
  cases b
  all_goals go_wp2
  all_goals go_ret
  all_goals exact ⟨rfl, rfl⟩

end Go.Proofs.Ytpkbkliblbbdcaa
