/-
  NARROWER THAN 'FOR EVERY INPUT', by the rows' own cells (each row's printed sentence says how): BlockMeans: laid · BlockFinds: laid · SuperMeans: laid · SuperBlocks: laid · SuperAgain: laid · SuperNil: laid · PageMeans: laid.
  DERIVED. THE GIVEN ROWS OF THIS SEAT. 7 by the template 'for every input the law returns true; each argument reads behind the call as it read before'; 0 by the template 'total and deterministic' (their statements: YtojbajbghldoeaaDoorTotals.lean).
  GIVEN WITH THE SEED: the statements are not yours to turn. If you find one false, say at which input.
  Laid BY PROGRAM, IN A SANDBOX (cutbox-rows.mjs): the forced cells as the released guide's own fill.sh prints them over the translation c08729155f70b842… (all of the seat's roots in one cut). By AI agents, Wed Nov 11 2026. No macro, syntax, notation, axiom, sorry.
-/
import Derived.Test.YtojbajbghldoeaaDoorChecked
import GoSem.Claim
import GoSem.ClaimJoined
import GoSem.ClaimMapViews
import Derived.JoinedTies
import Derived.KernelRfl
namespace Go.Proofs.YtojbajbghldoeaaDoor
/- THE CELL 'sum', in the pinned program and in every row, IS THE sha256 OF THE DUMP (.gsa) THAT YtojbajbghldoeaaDoorProg.lean LOADS. Nothing in Lean hashes anything: it is a label: what it is worth is what the hold of that sum in a sandbox is worth. -/
noncomputable def Tryd.pinned : Pinned := { name := "ytojbajbghldoeaadoor", sum := "c08729155f70b842f01fdcd5e3451ee46ae83a3409eada89e0a6e7527b98d340", checked := Tryd.checked }
namespace Rows
def none {H : Type} : Left H := { results := [], args := [] }

/- WHAT THE LISTED PACKAGE-LEVEL VARIABLES READ AS WHEN THE CALL BEGINS. Each datum BY PROGRAM (the guide's laid-datum.mjs) off the statement by which the dump's own 'gosem.cut.vars' lays the variable. In a bare row this is a premise. The card (YtojbajbghldoeaaDoorCards.lean) ties it to the program's text. -/
def laid_math_bits_deBruijn32tab {H : Type} : DataW H := .agg [.lit (.int .u8 0), .lit (.int .u8 1), .lit (.int .u8 28), .lit (.int .u8 2), .lit (.int .u8 29), .lit (.int .u8 14), .lit (.int .u8 24), .lit (.int .u8 3), .lit (.int .u8 30), .lit (.int .u8 22), .lit (.int .u8 20), .lit (.int .u8 15), .lit (.int .u8 25), .lit (.int .u8 17), .lit (.int .u8 4), .lit (.int .u8 8), .lit (.int .u8 31), .lit (.int .u8 27), .lit (.int .u8 13), .lit (.int .u8 23), .lit (.int .u8 21), .lit (.int .u8 19), .lit (.int .u8 16), .lit (.int .u8 7), .lit (.int .u8 26), .lit (.int .u8 12), .lit (.int .u8 18), .lit (.int .u8 6), .lit (.int .u8 11), .lit (.int .u8 5), .lit (.int .u8 10), .lit (.int .u8 9)]
def laid_math_bits_deBruijn64tab {H : Type} : DataW H := .agg [.lit (.int .u8 0), .lit (.int .u8 1), .lit (.int .u8 56), .lit (.int .u8 2), .lit (.int .u8 57), .lit (.int .u8 49), .lit (.int .u8 28), .lit (.int .u8 3), .lit (.int .u8 61), .lit (.int .u8 58), .lit (.int .u8 42), .lit (.int .u8 50), .lit (.int .u8 38), .lit (.int .u8 29), .lit (.int .u8 17), .lit (.int .u8 4), .lit (.int .u8 62), .lit (.int .u8 47), .lit (.int .u8 59), .lit (.int .u8 36), .lit (.int .u8 45), .lit (.int .u8 43), .lit (.int .u8 51), .lit (.int .u8 22), .lit (.int .u8 53), .lit (.int .u8 39), .lit (.int .u8 33), .lit (.int .u8 30), .lit (.int .u8 24), .lit (.int .u8 18), .lit (.int .u8 12), .lit (.int .u8 5), .lit (.int .u8 63), .lit (.int .u8 55), .lit (.int .u8 48), .lit (.int .u8 27), .lit (.int .u8 60), .lit (.int .u8 41), .lit (.int .u8 37), .lit (.int .u8 16), .lit (.int .u8 46), .lit (.int .u8 35), .lit (.int .u8 44), .lit (.int .u8 21), .lit (.int .u8 52), .lit (.int .u8 32), .lit (.int .u8 23), .lit (.int .u8 11), .lit (.int .u8 54), .lit (.int .u8 26), .lit (.int .u8 40), .lit (.int .u8 15), .lit (.int .u8 34), .lit (.int .u8 20), .lit (.int .u8 31), .lit (.int .u8 10), .lit (.int .u8 25), .lit (.int .u8 14), .lit (.int .u8 19), .lit (.int .u8 9), .lit (.int .u8 13), .lit (.int .u8 8), .lit (.int .u8 7), .lit (.int .u8 6)]
def laid_voile_super_widths {H : Type} : DataW H := .agg [.lit (.int .i64 8), .lit (.int .i64 4), .lit (.int .i64 4), .lit (.int .i64 4), .lit (.int .i64 4), .lit (.int .i64 4), .lit (.int .i64 4), .lit (.int .i64 4), .lit (.int .i64 4), .lit (.int .i64 4), .lit (.int .i64 4), .lit (.int .i64 4), .lit (.int .i64 4), .lit (.int .i64 8), .lit (.int .i64 8), .lit (.int .i64 8), .lit (.int .i64 8), .lit (.int .i64 8), .lit (.int .i64 1)]

/-- 'voilelaw04.BlockMeans': WHATEVER THE INPUT: true; the input reads as it did. -/
def blockMeansSpec : ChangeSpec := { name := "blockMeans", fn := fun _ => fun
  | [d1, d2, d3, d4, d5] => { results := [.lit (.bool true)], args := [d1, d2, d3, d4, d5] }
  | _ => none }
def blockMeansRow : OpenClaim := { program := "ytojbajbghldoeaadoor", sum := "c08729155f70b842f01fdcd5e3451ee46ae83a3409eada89e0a6e7527b98d340", func := "voile/voilelaw04.BlockMeans", spec := "blockMeans", unfollowed := true, recurses := true, named := ["math/bits.deBruijn32tab", "math/bits.deBruijn64tab"], apart := false, laid := [("math/bits.deBruijn32tab", laid_math_bits_deBruijn32tab), ("math/bits.deBruijn64tab", laid_math_bits_deBruijn64tab)] }
def BlockMeansSaid : Prop := blockMeansRow.holds Tryd.pinned (OpenSpec.ofChange blockMeansSpec)

/-- ITS FALSE NEIGHBOUR: 'it returns false'. Refute it at one input. -/
def blockMeansWrong : ChangeSpec := { name := "blockMeans", fn := fun _ => fun
  | [d1, d2, d3, d4, d5] => { results := [.lit (.bool false)], args := [d1, d2, d3, d4, d5] }
  | _ => none }
def BlockMeansWrongFalsely : Prop := blockMeansRow.holds Tryd.pinned (OpenSpec.ofChange blockMeansWrong)

/-- 'voilelaw04.BlockFinds': WHATEVER THE INPUT: true; the input reads as it did. -/
def blockFindsSpec : ChangeSpec := { name := "blockFinds", fn := fun _ => fun
  | [d1, d2, d3] => { results := [.lit (.bool true)], args := [d1, d2, d3] }
  | _ => none }
def blockFindsRow : OpenClaim := { program := "ytojbajbghldoeaadoor", sum := "c08729155f70b842f01fdcd5e3451ee46ae83a3409eada89e0a6e7527b98d340", func := "voile/voilelaw04.BlockFinds", spec := "blockFinds", unfollowed := true, recurses := true, named := ["math/bits.deBruijn32tab", "math/bits.deBruijn64tab"], apart := false, laid := [("math/bits.deBruijn32tab", laid_math_bits_deBruijn32tab), ("math/bits.deBruijn64tab", laid_math_bits_deBruijn64tab)] }
def BlockFindsSaid : Prop := blockFindsRow.holds Tryd.pinned (OpenSpec.ofChange blockFindsSpec)

/-- ITS FALSE NEIGHBOUR: 'it returns false'. Refute it at one input. -/
def blockFindsWrong : ChangeSpec := { name := "blockFinds", fn := fun _ => fun
  | [d1, d2, d3] => { results := [.lit (.bool false)], args := [d1, d2, d3] }
  | _ => none }
def BlockFindsWrongFalsely : Prop := blockFindsRow.holds Tryd.pinned (OpenSpec.ofChange blockFindsWrong)

/-- 'voilelaw05.SuperMeans': WHATEVER THE INPUT: true; the input reads as it did. -/
def superMeansSpec : ChangeSpec := { name := "superMeans", fn := fun _ => fun
  | [d1, d2, d3, d4] => { results := [.lit (.bool true)], args := [d1, d2, d3, d4] }
  | _ => none }
def superMeansRow : OpenClaim := { program := "ytojbajbghldoeaadoor", sum := "c08729155f70b842f01fdcd5e3451ee46ae83a3409eada89e0a6e7527b98d340", func := "voile/voilelaw05.SuperMeans", spec := "superMeans", unfollowed := true, recurses := true, named := ["voile/super.widths", "math/bits.deBruijn32tab", "math/bits.deBruijn64tab"], apart := false, laid := [("math/bits.deBruijn32tab", laid_math_bits_deBruijn32tab), ("math/bits.deBruijn64tab", laid_math_bits_deBruijn64tab), ("voile/super.widths", laid_voile_super_widths)] }
def SuperMeansSaid : Prop := superMeansRow.holds Tryd.pinned (OpenSpec.ofChange superMeansSpec)

/-- ITS FALSE NEIGHBOUR: 'it returns false'. Refute it at one input. -/
def superMeansWrong : ChangeSpec := { name := "superMeans", fn := fun _ => fun
  | [d1, d2, d3, d4] => { results := [.lit (.bool false)], args := [d1, d2, d3, d4] }
  | _ => none }
def SuperMeansWrongFalsely : Prop := superMeansRow.holds Tryd.pinned (OpenSpec.ofChange superMeansWrong)

/-- 'voilelaw05.SuperBlocks': WHATEVER THE INPUT: true; the input reads as it did. -/
def superBlocksSpec : ChangeSpec := { name := "superBlocks", fn := fun _ => fun
  | [d1, d2, d3] => { results := [.lit (.bool true)], args := [d1, d2, d3] }
  | _ => none }
def superBlocksRow : OpenClaim := { program := "ytojbajbghldoeaadoor", sum := "c08729155f70b842f01fdcd5e3451ee46ae83a3409eada89e0a6e7527b98d340", func := "voile/voilelaw05.SuperBlocks", spec := "superBlocks", unfollowed := true, recurses := true, named := ["voile/super.widths", "math/bits.deBruijn32tab", "math/bits.deBruijn64tab"], apart := false, laid := [("math/bits.deBruijn32tab", laid_math_bits_deBruijn32tab), ("math/bits.deBruijn64tab", laid_math_bits_deBruijn64tab), ("voile/super.widths", laid_voile_super_widths)] }
def SuperBlocksSaid : Prop := superBlocksRow.holds Tryd.pinned (OpenSpec.ofChange superBlocksSpec)

/-- ITS FALSE NEIGHBOUR: 'it returns false'. Refute it at one input. -/
def superBlocksWrong : ChangeSpec := { name := "superBlocks", fn := fun _ => fun
  | [d1, d2, d3] => { results := [.lit (.bool false)], args := [d1, d2, d3] }
  | _ => none }
def SuperBlocksWrongFalsely : Prop := superBlocksRow.holds Tryd.pinned (OpenSpec.ofChange superBlocksWrong)

/-- 'voilelaw05.SuperAgain': WHATEVER THE INPUT: true; the input reads as it did. -/
def superAgainSpec : ChangeSpec := { name := "superAgain", fn := fun _ => fun
  | [d1, d2, d3, d4, d5] => { results := [.lit (.bool true)], args := [d1, d2, d3, d4, d5] }
  | _ => none }
def superAgainRow : OpenClaim := { program := "ytojbajbghldoeaadoor", sum := "c08729155f70b842f01fdcd5e3451ee46ae83a3409eada89e0a6e7527b98d340", func := "voile/voilelaw05.SuperAgain", spec := "superAgain", unfollowed := true, recurses := true, named := ["voile/super.widths", "math/bits.deBruijn32tab", "math/bits.deBruijn64tab"], apart := false, laid := [("math/bits.deBruijn32tab", laid_math_bits_deBruijn32tab), ("math/bits.deBruijn64tab", laid_math_bits_deBruijn64tab), ("voile/super.widths", laid_voile_super_widths)] }
def SuperAgainSaid : Prop := superAgainRow.holds Tryd.pinned (OpenSpec.ofChange superAgainSpec)

/-- ITS FALSE NEIGHBOUR: 'it returns false'. Refute it at one input. -/
def superAgainWrong : ChangeSpec := { name := "superAgain", fn := fun _ => fun
  | [d1, d2, d3, d4, d5] => { results := [.lit (.bool false)], args := [d1, d2, d3, d4, d5] }
  | _ => none }
def SuperAgainWrongFalsely : Prop := superAgainRow.holds Tryd.pinned (OpenSpec.ofChange superAgainWrong)

/-- 'voilelaw05.SuperNil': WHATEVER THE INPUT: true; the input reads as it did. -/
def superNilSpec : ChangeSpec := { name := "superNil", fn := fun _ => fun
  | [] => { results := [.lit (.bool true)], args := [] }
  | _ => none }
def superNilRow : OpenClaim := { program := "ytojbajbghldoeaadoor", sum := "c08729155f70b842f01fdcd5e3451ee46ae83a3409eada89e0a6e7527b98d340", func := "voile/voilelaw05.SuperNil", spec := "superNil", unfollowed := true, recurses := true, named := ["voile/super.widths", "math/bits.deBruijn32tab", "math/bits.deBruijn64tab"], apart := false, laid := [("math/bits.deBruijn32tab", laid_math_bits_deBruijn32tab), ("math/bits.deBruijn64tab", laid_math_bits_deBruijn64tab), ("voile/super.widths", laid_voile_super_widths)] }
def SuperNilSaid : Prop := superNilRow.holds Tryd.pinned (OpenSpec.ofChange superNilSpec)

/-- ITS FALSE NEIGHBOUR: 'it returns false'. Refute it at one input. -/
def superNilWrong : ChangeSpec := { name := "superNil", fn := fun _ => fun
  | [] => { results := [.lit (.bool false)], args := [] }
  | _ => none }
def SuperNilWrongFalsely : Prop := superNilRow.holds Tryd.pinned (OpenSpec.ofChange superNilWrong)

/-- 'voilelaw07.PageMeans': WHATEVER THE INPUT: true; the input reads as it did. -/
def pageMeansSpec : ChangeSpec := { name := "pageMeans", fn := fun _ => fun
  | [d1, d2, d3, d4, d5, d6] => { results := [.lit (.bool true)], args := [d1, d2, d3, d4, d5, d6] }
  | _ => none }
def pageMeansRow : OpenClaim := { program := "ytojbajbghldoeaadoor", sum := "c08729155f70b842f01fdcd5e3451ee46ae83a3409eada89e0a6e7527b98d340", func := "voile/voilelaw07.PageMeans", spec := "pageMeans", unfollowed := true, recurses := true, named := ["math/bits.deBruijn32tab", "math/bits.deBruijn64tab"], apart := false, laid := [("math/bits.deBruijn32tab", laid_math_bits_deBruijn32tab), ("math/bits.deBruijn64tab", laid_math_bits_deBruijn64tab)] }
def PageMeansSaid : Prop := pageMeansRow.holds Tryd.pinned (OpenSpec.ofChange pageMeansSpec)

/-- ITS FALSE NEIGHBOUR: 'it returns false'. Refute it at one input. -/
def pageMeansWrong : ChangeSpec := { name := "pageMeans", fn := fun _ => fun
  | [d1, d2, d3, d4, d5, d6] => { results := [.lit (.bool false)], args := [d1, d2, d3, d4, d5, d6] }
  | _ => none }
def PageMeansWrongFalsely : Prop := pageMeansRow.holds Tryd.pinned (OpenSpec.ofChange pageMeansWrong)

/- THE SECOND FORM. 'bulk': how many values and letters a reading holds, each counted each time it is reached (what is shared counts as often as it is met; a slice's spare places count too). A statement '..UptoSaid' is the law's where the arguments, and the package variables that the reading takes, are together of bulk at most 1048576: NARROWER than '..Said'. Prove '..Said' where nothing that the law and all that it calls make is longer than what came in: it says more and counts as full. Else prove '..UptoSaid'. A law counts once. -/
mutual
def uptoBulk {H : Type} : DataW H → Nat
  | .lit (.string bytes) => bytes.length + 1
  | .lit _ => 1
  | .nil => 1
  | .ptr d => uptoBulk d + 1
  | .slice elems spare => uptoBulkAll elems + uptoBulkAll spare + 1
  | .agg parts => uptoBulkAll parts + 1
  | .iface _ d => uptoBulk d + 1
  | .map entries => uptoBulkEntries entries + 1
  | .held _ => 1
def uptoBulkAll {H : Type} : List (DataW H) → Nat
  | [] => 0
  | d :: r => uptoBulk d + uptoBulkAll r
def uptoBulkEntries {H : Type} : List (Lit × DataW H) → Nat
  | [] => 0
  | x :: r => uptoBulkEntry x + uptoBulkEntries r
def uptoBulkEntry {H : Type} : Lit × DataW H → Nat
  | (.string bytes, d) => bytes.length + uptoBulk d + 1
  | (_, d) => uptoBulk d + 1
 end
def uptoSmall : (H : Type) → List (DataW H) → Bool := fun _ ds => decide (uptoBulkAll ds ≤ 1048576)
def OpenSpec.upto (s : _root_.Go.ChangeSpec) : _root_.Go.OpenSpec := { _root_.Go.OpenSpec.ofChange s with cond := some uptoSmall }

/-- 'voilelaw04.BlockMeans', WHERE WHAT IT READS IS OF BULK AT MOST 1048576: true; the input reads as it did. -/
def blockMeansUptoRow : OpenClaim := { program := "ytojbajbghldoeaadoor", sum := "c08729155f70b842f01fdcd5e3451ee46ae83a3409eada89e0a6e7527b98d340", func := "voile/voilelaw04.BlockMeans", spec := "blockMeans", unfollowed := true, recurses := true, named := ["math/bits.deBruijn32tab", "math/bits.deBruijn64tab"], apart := false, laid := [("math/bits.deBruijn32tab", laid_math_bits_deBruijn32tab), ("math/bits.deBruijn64tab", laid_math_bits_deBruijn64tab)], narrowed := true }
def BlockMeansUptoSaid : Prop := blockMeansUptoRow.holds Tryd.pinned (OpenSpec.upto blockMeansSpec)

/-- 'voilelaw04.BlockFinds', WHERE WHAT IT READS IS OF BULK AT MOST 1048576: true; the input reads as it did. -/
def blockFindsUptoRow : OpenClaim := { program := "ytojbajbghldoeaadoor", sum := "c08729155f70b842f01fdcd5e3451ee46ae83a3409eada89e0a6e7527b98d340", func := "voile/voilelaw04.BlockFinds", spec := "blockFinds", unfollowed := true, recurses := true, named := ["math/bits.deBruijn32tab", "math/bits.deBruijn64tab"], apart := false, laid := [("math/bits.deBruijn32tab", laid_math_bits_deBruijn32tab), ("math/bits.deBruijn64tab", laid_math_bits_deBruijn64tab)], narrowed := true }
def BlockFindsUptoSaid : Prop := blockFindsUptoRow.holds Tryd.pinned (OpenSpec.upto blockFindsSpec)

/-- 'voilelaw05.SuperMeans', WHERE WHAT IT READS IS OF BULK AT MOST 1048576: true; the input reads as it did. -/
def superMeansUptoRow : OpenClaim := { program := "ytojbajbghldoeaadoor", sum := "c08729155f70b842f01fdcd5e3451ee46ae83a3409eada89e0a6e7527b98d340", func := "voile/voilelaw05.SuperMeans", spec := "superMeans", unfollowed := true, recurses := true, named := ["voile/super.widths", "math/bits.deBruijn32tab", "math/bits.deBruijn64tab"], apart := false, laid := [("math/bits.deBruijn32tab", laid_math_bits_deBruijn32tab), ("math/bits.deBruijn64tab", laid_math_bits_deBruijn64tab), ("voile/super.widths", laid_voile_super_widths)], narrowed := true }
def SuperMeansUptoSaid : Prop := superMeansUptoRow.holds Tryd.pinned (OpenSpec.upto superMeansSpec)

/-- 'voilelaw05.SuperBlocks', WHERE WHAT IT READS IS OF BULK AT MOST 1048576: true; the input reads as it did. -/
def superBlocksUptoRow : OpenClaim := { program := "ytojbajbghldoeaadoor", sum := "c08729155f70b842f01fdcd5e3451ee46ae83a3409eada89e0a6e7527b98d340", func := "voile/voilelaw05.SuperBlocks", spec := "superBlocks", unfollowed := true, recurses := true, named := ["voile/super.widths", "math/bits.deBruijn32tab", "math/bits.deBruijn64tab"], apart := false, laid := [("math/bits.deBruijn32tab", laid_math_bits_deBruijn32tab), ("math/bits.deBruijn64tab", laid_math_bits_deBruijn64tab), ("voile/super.widths", laid_voile_super_widths)], narrowed := true }
def SuperBlocksUptoSaid : Prop := superBlocksUptoRow.holds Tryd.pinned (OpenSpec.upto superBlocksSpec)

/-- 'voilelaw05.SuperAgain', WHERE WHAT IT READS IS OF BULK AT MOST 1048576: true; the input reads as it did. -/
def superAgainUptoRow : OpenClaim := { program := "ytojbajbghldoeaadoor", sum := "c08729155f70b842f01fdcd5e3451ee46ae83a3409eada89e0a6e7527b98d340", func := "voile/voilelaw05.SuperAgain", spec := "superAgain", unfollowed := true, recurses := true, named := ["voile/super.widths", "math/bits.deBruijn32tab", "math/bits.deBruijn64tab"], apart := false, laid := [("math/bits.deBruijn32tab", laid_math_bits_deBruijn32tab), ("math/bits.deBruijn64tab", laid_math_bits_deBruijn64tab), ("voile/super.widths", laid_voile_super_widths)], narrowed := true }
def SuperAgainUptoSaid : Prop := superAgainUptoRow.holds Tryd.pinned (OpenSpec.upto superAgainSpec)

/-- 'voilelaw05.SuperNil', WHERE WHAT IT READS IS OF BULK AT MOST 1048576: true; the input reads as it did. -/
def superNilUptoRow : OpenClaim := { program := "ytojbajbghldoeaadoor", sum := "c08729155f70b842f01fdcd5e3451ee46ae83a3409eada89e0a6e7527b98d340", func := "voile/voilelaw05.SuperNil", spec := "superNil", unfollowed := true, recurses := true, named := ["voile/super.widths", "math/bits.deBruijn32tab", "math/bits.deBruijn64tab"], apart := false, laid := [("math/bits.deBruijn32tab", laid_math_bits_deBruijn32tab), ("math/bits.deBruijn64tab", laid_math_bits_deBruijn64tab), ("voile/super.widths", laid_voile_super_widths)], narrowed := true }
def SuperNilUptoSaid : Prop := superNilUptoRow.holds Tryd.pinned (OpenSpec.upto superNilSpec)

/-- 'voilelaw07.PageMeans', WHERE WHAT IT READS IS OF BULK AT MOST 1048576: true; the input reads as it did. -/
def pageMeansUptoRow : OpenClaim := { program := "ytojbajbghldoeaadoor", sum := "c08729155f70b842f01fdcd5e3451ee46ae83a3409eada89e0a6e7527b98d340", func := "voile/voilelaw07.PageMeans", spec := "pageMeans", unfollowed := true, recurses := true, named := ["math/bits.deBruijn32tab", "math/bits.deBruijn64tab"], apart := false, laid := [("math/bits.deBruijn32tab", laid_math_bits_deBruijn32tab), ("math/bits.deBruijn64tab", laid_math_bits_deBruijn64tab)], narrowed := true }
def PageMeansUptoSaid : Prop := pageMeansUptoRow.holds Tryd.pinned (OpenSpec.upto pageMeansSpec)

end Rows
end Go.Proofs.YtojbajbghldoeaaDoor
