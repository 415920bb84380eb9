/-
  No cell of these rows narrows 'for every input' (looked for: loops, veiled, ifaces, maps, wideKeys, modest, calm, conditions, laid).
  DERIVED. THE GIVEN ROWS OF THIS SEAT. 5 by the template 'for every input the law returns true; each argument reads behind the call as it read before'; 0 by the template 'total and deterministic' (their statements: YtpkbkliblbbdcaaTotals.lean).
  GIVEN WITH THE SEED: the statements are not yours to turn. If you find one false, say at which input.
  Laid BY PROGRAM, IN A SANDBOX (cutbox-rows.mjs): the forced cells as the released guide's own fill.sh prints them over the translation 40dfa8a95ddb0e6b… (all of the seat's roots in one cut). By AI agents, Wed Nov 11 2026. No macro, syntax, notation, axiom, sorry.
-/
import Derived.Test.YtpkbkliblbbdcaaChecked
import GoSem.Claim
import GoSem.ClaimJoined
import GoSem.ClaimMapViews
import Derived.JoinedTies
import Derived.KernelRfl
namespace Go.Proofs.Ytpkbkliblbbdcaa
/- THE CELL 'sum', in the pinned program and in every row, IS THE sha256 OF THE DUMP (.gsa) THAT YtpkbkliblbbdcaaProg.lean LOADS. Nothing in Lean hashes anything: it is a label: what it is worth is what the hold of that sum in a sandbox is worth. -/
noncomputable def Try.pinned : Pinned := { name := "ytpkbkliblbbdcaa", sum := "40dfa8a95ddb0e6b30b698e57b0d97521ff8cac2db65c2cfa89dd9d9ccce1fc5", checked := Try.checked }
namespace Rows
def none {H : Type} : Left H := { results := [], args := [] }

/-- 'voilelaw13.CommandOps': WHATEVER THE INPUT: true; the input reads as it did. -/
def commandOpsSpec : ChangeSpec := { name := "commandOps", fn := fun _ => fun
  | [d1, d2] => { results := [.lit (.bool true)], args := [d1, d2] }
  | _ => none }
def commandOpsRow : OpenClaim := { program := "ytpkbkliblbbdcaa", sum := "40dfa8a95ddb0e6b30b698e57b0d97521ff8cac2db65c2cfa89dd9d9ccce1fc5", func := "voile/voilelaw13.CommandOps", spec := "commandOps", apart := false }
def CommandOpsSaid : Prop := commandOpsRow.holds Try.pinned (OpenSpec.ofChange commandOpsSpec)

/-- ITS FALSE NEIGHBOUR: 'it returns false'. Refute it at one input. -/
def commandOpsWrong : ChangeSpec := { name := "commandOps", fn := fun _ => fun
  | [d1, d2] => { results := [.lit (.bool false)], args := [d1, d2] }
  | _ => none }
def CommandOpsWrongFalsely : Prop := commandOpsRow.holds Try.pinned (OpenSpec.ofChange commandOpsWrong)

/-- 'voilelaw13.CommandReads': WHATEVER THE INPUT: true; the input reads as it did. -/
def commandReadsSpec : ChangeSpec := { name := "commandReads", fn := fun _ => fun
  | [d1, d2] => { results := [.lit (.bool true)], args := [d1, d2] }
  | _ => none }
def commandReadsRow : OpenClaim := { program := "ytpkbkliblbbdcaa", sum := "40dfa8a95ddb0e6b30b698e57b0d97521ff8cac2db65c2cfa89dd9d9ccce1fc5", func := "voile/voilelaw13.CommandReads", spec := "commandReads", apart := false }
def CommandReadsSaid : Prop := commandReadsRow.holds Try.pinned (OpenSpec.ofChange commandReadsSpec)

/-- ITS FALSE NEIGHBOUR: 'it returns false'. Refute it at one input. -/
def commandReadsWrong : ChangeSpec := { name := "commandReads", fn := fun _ => fun
  | [d1, d2] => { results := [.lit (.bool false)], args := [d1, d2] }
  | _ => none }
def CommandReadsWrongFalsely : Prop := commandReadsRow.holds Try.pinned (OpenSpec.ofChange commandReadsWrong)

/-- 'voilelaw13.CommandAnswers': WHATEVER THE INPUT: true; the input reads as it did. -/
def commandAnswersSpec : ChangeSpec := { name := "commandAnswers", fn := fun _ => fun
  | [d1, d2] => { results := [.lit (.bool true)], args := [d1, d2] }
  | _ => none }
def commandAnswersRow : OpenClaim := { program := "ytpkbkliblbbdcaa", sum := "40dfa8a95ddb0e6b30b698e57b0d97521ff8cac2db65c2cfa89dd9d9ccce1fc5", func := "voile/voilelaw13.CommandAnswers", spec := "commandAnswers", apart := false }
def CommandAnswersSaid : Prop := commandAnswersRow.holds Try.pinned (OpenSpec.ofChange commandAnswersSpec)

/-- ITS FALSE NEIGHBOUR: 'it returns false'. Refute it at one input. -/
def commandAnswersWrong : ChangeSpec := { name := "commandAnswers", fn := fun _ => fun
  | [d1, d2] => { results := [.lit (.bool false)], args := [d1, d2] }
  | _ => none }
def CommandAnswersWrongFalsely : Prop := commandAnswersRow.holds Try.pinned (OpenSpec.ofChange commandAnswersWrong)

/-- 'voilelaw13.CommandParts': WHATEVER THE INPUT: true; the input reads as it did. -/
def commandPartsSpec : ChangeSpec := { name := "commandParts", fn := fun _ => fun
  | [d] => { results := [.lit (.bool true)], args := [d] }
  | _ => none }
def commandPartsRow : OpenClaim := { program := "ytpkbkliblbbdcaa", sum := "40dfa8a95ddb0e6b30b698e57b0d97521ff8cac2db65c2cfa89dd9d9ccce1fc5", func := "voile/voilelaw13.CommandParts", spec := "commandParts", apart := false }
def CommandPartsSaid : Prop := commandPartsRow.holds Try.pinned (OpenSpec.ofChange commandPartsSpec)

/-- ITS FALSE NEIGHBOUR: 'it returns false'. Refute it at one input. -/
def commandPartsWrong : ChangeSpec := { name := "commandParts", fn := fun _ => fun
  | [d] => { results := [.lit (.bool false)], args := [d] }
  | _ => none }
def CommandPartsWrongFalsely : Prop := commandPartsRow.holds Try.pinned (OpenSpec.ofChange commandPartsWrong)

/-- 'voilelaw13.CommandMeans': WHATEVER THE INPUT: true; the input reads as it did. -/
def commandMeansSpec : ChangeSpec := { name := "commandMeans", fn := fun _ => fun
  | [d1, d2, d3, d4, d5] => { results := [.lit (.bool true)], args := [d1, d2, d3, d4, d5] }
  | _ => none }
def commandMeansRow : OpenClaim := { program := "ytpkbkliblbbdcaa", sum := "40dfa8a95ddb0e6b30b698e57b0d97521ff8cac2db65c2cfa89dd9d9ccce1fc5", func := "voile/voilelaw13.CommandMeans", spec := "commandMeans", apart := false }
def CommandMeansSaid : Prop := commandMeansRow.holds Try.pinned (OpenSpec.ofChange commandMeansSpec)

/-- ITS FALSE NEIGHBOUR: 'it returns false'. Refute it at one input. -/
def commandMeansWrong : ChangeSpec := { name := "commandMeans", fn := fun _ => fun
  | [d1, d2, d3, d4, d5] => { results := [.lit (.bool false)], args := [d1, d2, d3, d4, d5] }
  | _ => none }
def CommandMeansWrongFalsely : Prop := commandMeansRow.holds Try.pinned (OpenSpec.ofChange commandMeansWrong)

/- THE SECOND FORM. 'bulk': how many values and letters a reading holds, each counted each time it is reached (what is shared counts as often as it is met; a slice's spare places count too). A statement '..UptoSaid' is the law's where the arguments, and the package variables that the reading takes, are together of bulk at most 1048576: NARROWER than '..Said'. Prove '..Said' where nothing that the law and all that it calls make is longer than what came in: it says more and counts as full. Else prove '..UptoSaid'. A law counts once. -/
mutual
def uptoBulk {H : Type} : DataW H → Nat
  | .lit (.string bytes) => bytes.length + 1
  | .lit _ => 1
  | .nil => 1
  | .ptr d => uptoBulk d + 1
  | .slice elems spare => uptoBulkAll elems + uptoBulkAll spare + 1
  | .agg parts => uptoBulkAll parts + 1
  | .iface _ d => uptoBulk d + 1
  | .map entries => uptoBulkEntries entries + 1
  | .held _ => 1
def uptoBulkAll {H : Type} : List (DataW H) → Nat
  | [] => 0
  | d :: r => uptoBulk d + uptoBulkAll r
def uptoBulkEntries {H : Type} : List (Lit × DataW H) → Nat
  | [] => 0
  | x :: r => uptoBulkEntry x + uptoBulkEntries r
def uptoBulkEntry {H : Type} : Lit × DataW H → Nat
  | (.string bytes, d) => bytes.length + uptoBulk d + 1
  | (_, d) => uptoBulk d + 1
 end
def uptoSmall : (H : Type) → List (DataW H) → Bool := fun _ ds => decide (uptoBulkAll ds ≤ 1048576)
def OpenSpec.upto (s : _root_.Go.ChangeSpec) : _root_.Go.OpenSpec := { _root_.Go.OpenSpec.ofChange s with cond := some uptoSmall }

/-- 'voilelaw13.CommandOps', WHERE WHAT IT READS IS OF BULK AT MOST 1048576: true; the input reads as it did. -/
def commandOpsUptoRow : OpenClaim := { program := "ytpkbkliblbbdcaa", sum := "40dfa8a95ddb0e6b30b698e57b0d97521ff8cac2db65c2cfa89dd9d9ccce1fc5", func := "voile/voilelaw13.CommandOps", spec := "commandOps", apart := false, narrowed := true }
def CommandOpsUptoSaid : Prop := commandOpsUptoRow.holds Try.pinned (OpenSpec.upto commandOpsSpec)

/-- 'voilelaw13.CommandReads', WHERE WHAT IT READS IS OF BULK AT MOST 1048576: true; the input reads as it did. -/
def commandReadsUptoRow : OpenClaim := { program := "ytpkbkliblbbdcaa", sum := "40dfa8a95ddb0e6b30b698e57b0d97521ff8cac2db65c2cfa89dd9d9ccce1fc5", func := "voile/voilelaw13.CommandReads", spec := "commandReads", apart := false, narrowed := true }
def CommandReadsUptoSaid : Prop := commandReadsUptoRow.holds Try.pinned (OpenSpec.upto commandReadsSpec)

/-- 'voilelaw13.CommandAnswers', WHERE WHAT IT READS IS OF BULK AT MOST 1048576: true; the input reads as it did. -/
def commandAnswersUptoRow : OpenClaim := { program := "ytpkbkliblbbdcaa", sum := "40dfa8a95ddb0e6b30b698e57b0d97521ff8cac2db65c2cfa89dd9d9ccce1fc5", func := "voile/voilelaw13.CommandAnswers", spec := "commandAnswers", apart := false, narrowed := true }
def CommandAnswersUptoSaid : Prop := commandAnswersUptoRow.holds Try.pinned (OpenSpec.upto commandAnswersSpec)

/-- 'voilelaw13.CommandParts', WHERE WHAT IT READS IS OF BULK AT MOST 1048576: true; the input reads as it did. -/
def commandPartsUptoRow : OpenClaim := { program := "ytpkbkliblbbdcaa", sum := "40dfa8a95ddb0e6b30b698e57b0d97521ff8cac2db65c2cfa89dd9d9ccce1fc5", func := "voile/voilelaw13.CommandParts", spec := "commandParts", apart := false, narrowed := true }
def CommandPartsUptoSaid : Prop := commandPartsUptoRow.holds Try.pinned (OpenSpec.upto commandPartsSpec)

/-- 'voilelaw13.CommandMeans', WHERE WHAT IT READS IS OF BULK AT MOST 1048576: true; the input reads as it did. -/
def commandMeansUptoRow : OpenClaim := { program := "ytpkbkliblbbdcaa", sum := "40dfa8a95ddb0e6b30b698e57b0d97521ff8cac2db65c2cfa89dd9d9ccce1fc5", func := "voile/voilelaw13.CommandMeans", spec := "commandMeans", apart := false, narrowed := true }
def CommandMeansUptoSaid : Prop := commandMeansUptoRow.holds Try.pinned (OpenSpec.upto commandMeansSpec)

end Rows
end Go.Proofs.Ytpkbkliblbbdcaa
