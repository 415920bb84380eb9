/-
  DERIVED. GIVEN WITH THE SEED: THE CARDS: each row of YtnddkpemoljhoaaGreatDoorRows.lean that lists a variable, with what it lists TIED to the program's text (the seventh form; the later family's looks); each row that meets fmt, with fmt's text TOLD by the authors' own Lean function (tested against real Go, not proved from fmt's source: count such statements apart). THE CARD IS WHAT COUNTS. Prove the row's statement (the work); the ties are given (YtnddkpemoljhoaaGreatDoorTie.lean); close each card by the builder's one call (the guide's Derived/Test/ToyasCard.lean, 'card_holds'). Laid BY PROGRAM, IN A SANDBOX (cutbox-door.mjs). By AI agents, Wed Nov 11 2026. No macro, syntax, notation, axiom, sorry.
-/
import Derived.Test.YtnddkpemoljhoaaGreatDoorRows
import GoSem.ClaimSeven
namespace Go.Proofs.YtnddkpemoljhoaaGreatDoor
namespace Rows

/-- THE TIED CARD OF 'voilelaw09.TreeNil'. -/
def treeNilCard : Claim7 := { stood := { row := treeNilRow, standIns := [], harness := (true, "4e0d304a553b277d2d013dbf1387269cba78b5ebf58d117fe253f4441cadfdbb"), looks := false }, kinds := [], alts := [], laidByText := true, laidKinds := [.data, .data, .data], laidTests := true, laidLooks := .later }
def TreeNilCardSaid : Prop := Claim7.holds Tryz.pinned (.plain (OpenSpec.ofChange treeNilSpec)) treeNilCard

/-- THE TIED CARD OF 'voilelaw10.DiffNil'. -/
def diffNilCard : Claim7 := { stood := { row := diffNilRow, standIns := [], harness := (true, "4e0d304a553b277d2d013dbf1387269cba78b5ebf58d117fe253f4441cadfdbb"), looks := false }, kinds := [], alts := [], laidByText := true, laidKinds := [.data, .data, .data], laidTests := true, laidLooks := .later }
def DiffNilCardSaid : Prop := Claim7.holds Tryz.pinned (.plain (OpenSpec.ofChange diffNilSpec)) diffNilCard

/-- THE SECOND FORM's CARD OF 'voilelaw09.TreeNil'. -/
def treeNilUptoCard : Claim7 := { stood := { row := treeNilUptoRow, standIns := [], harness := (true, "4e0d304a553b277d2d013dbf1387269cba78b5ebf58d117fe253f4441cadfdbb"), looks := false }, kinds := [], alts := [], laidByText := true, laidKinds := [.data, .data, .data], laidTests := true, laidLooks := .later }
def TreeNilUptoCardSaid : Prop := Claim7.holds Tryz.pinned (.plain (OpenSpec.upto treeNilSpec)) treeNilUptoCard

/-- THE SECOND FORM's CARD OF 'voilelaw10.DiffNil'. -/
def diffNilUptoCard : Claim7 := { stood := { row := diffNilUptoRow, standIns := [], harness := (true, "4e0d304a553b277d2d013dbf1387269cba78b5ebf58d117fe253f4441cadfdbb"), looks := false }, kinds := [], alts := [], laidByText := true, laidKinds := [.data, .data, .data], laidTests := true, laidLooks := .later }
def DiffNilUptoCardSaid : Prop := Claim7.holds Tryz.pinned (.plain (OpenSpec.upto diffNilSpec)) diffNilUptoCard
end Rows
end Go.Proofs.YtnddkpemoljhoaaGreatDoor
