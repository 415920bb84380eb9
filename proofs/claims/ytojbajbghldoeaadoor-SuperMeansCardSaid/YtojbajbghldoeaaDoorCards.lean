/-
  DERIVED. GIVEN WITH THE SEED: THE CARDS: each row of YtojbajbghldoeaaDoorRows.lean that lists a variable, with what it lists TIED to the program's text (the seventh form; the later family's looks); each row that meets fmt, with fmt's text TOLD by the authors' own Lean function (tested against real Go, not proved from fmt's source: count such statements apart). THE CARD IS WHAT COUNTS. Prove the row's statement (the work); the ties are given (YtojbajbghldoeaaDoorTie.lean); close each card by the builder's one call (the guide's Derived/Test/ToyasCard.lean, 'card_holds'). Laid BY PROGRAM, IN A SANDBOX (cutbox-door.mjs). By AI agents, Wed Nov 11 2026. No macro, syntax, notation, axiom, sorry.
-/
import Derived.Test.YtojbajbghldoeaaDoorRows
import GoSem.ClaimSeven
namespace Go.Proofs.YtojbajbghldoeaaDoor
namespace Rows

/-- THE TIED CARD OF 'voilelaw04.BlockMeans'. -/
def blockMeansCard : Claim7 := { stood := { row := blockMeansRow, standIns := [], harness := (true, "55be97e57eab2050a1977008476103707bf42f87492e51fdd36ab26e06066daa"), looks := false }, kinds := [], alts := [], laidByText := true, laidKinds := [.data, .data], laidTests := true, laidLooks := .later }
def BlockMeansCardSaid : Prop := Claim7.holds Tryd.pinned (.plain (OpenSpec.ofChange blockMeansSpec)) blockMeansCard

/-- THE TIED CARD OF 'voilelaw04.BlockFinds'. -/
def blockFindsCard : Claim7 := { stood := { row := blockFindsRow, standIns := [], harness := (true, "55be97e57eab2050a1977008476103707bf42f87492e51fdd36ab26e06066daa"), looks := false }, kinds := [], alts := [], laidByText := true, laidKinds := [.data, .data], laidTests := true, laidLooks := .later }
def BlockFindsCardSaid : Prop := Claim7.holds Tryd.pinned (.plain (OpenSpec.ofChange blockFindsSpec)) blockFindsCard

/-- THE TIED CARD OF 'voilelaw05.SuperMeans'. -/
def superMeansCard : Claim7 := { stood := { row := superMeansRow, standIns := [], harness := (true, "55be97e57eab2050a1977008476103707bf42f87492e51fdd36ab26e06066daa"), looks := false }, kinds := [], alts := [], laidByText := true, laidKinds := [.data, .data, .data], laidTests := true, laidLooks := .later }
def SuperMeansCardSaid : Prop := Claim7.holds Tryd.pinned (.plain (OpenSpec.ofChange superMeansSpec)) superMeansCard

/-- THE TIED CARD OF 'voilelaw05.SuperBlocks'. -/
def superBlocksCard : Claim7 := { stood := { row := superBlocksRow, standIns := [], harness := (true, "55be97e57eab2050a1977008476103707bf42f87492e51fdd36ab26e06066daa"), looks := false }, kinds := [], alts := [], laidByText := true, laidKinds := [.data, .data, .data], laidTests := true, laidLooks := .later }
def SuperBlocksCardSaid : Prop := Claim7.holds Tryd.pinned (.plain (OpenSpec.ofChange superBlocksSpec)) superBlocksCard

/-- THE TIED CARD OF 'voilelaw05.SuperAgain'. -/
def superAgainCard : Claim7 := { stood := { row := superAgainRow, standIns := [], harness := (true, "55be97e57eab2050a1977008476103707bf42f87492e51fdd36ab26e06066daa"), looks := false }, kinds := [], alts := [], laidByText := true, laidKinds := [.data, .data, .data], laidTests := true, laidLooks := .later }
def SuperAgainCardSaid : Prop := Claim7.holds Tryd.pinned (.plain (OpenSpec.ofChange superAgainSpec)) superAgainCard

/-- THE TIED CARD OF 'voilelaw05.SuperNil'. -/
def superNilCard : Claim7 := { stood := { row := superNilRow, standIns := [], harness := (true, "55be97e57eab2050a1977008476103707bf42f87492e51fdd36ab26e06066daa"), looks := false }, kinds := [], alts := [], laidByText := true, laidKinds := [.data, .data, .data], laidTests := true, laidLooks := .later }
def SuperNilCardSaid : Prop := Claim7.holds Tryd.pinned (.plain (OpenSpec.ofChange superNilSpec)) superNilCard

/-- THE TIED CARD OF 'voilelaw07.PageMeans'. -/
def pageMeansCard : Claim7 := { stood := { row := pageMeansRow, standIns := [], harness := (true, "55be97e57eab2050a1977008476103707bf42f87492e51fdd36ab26e06066daa"), looks := false }, kinds := [], alts := [], laidByText := true, laidKinds := [.data, .data], laidTests := true, laidLooks := .later }
def PageMeansCardSaid : Prop := Claim7.holds Tryd.pinned (.plain (OpenSpec.ofChange pageMeansSpec)) pageMeansCard

/-- THE SECOND FORM's CARD OF 'voilelaw04.BlockMeans'. -/
def blockMeansUptoCard : Claim7 := { stood := { row := blockMeansUptoRow, standIns := [], harness := (true, "55be97e57eab2050a1977008476103707bf42f87492e51fdd36ab26e06066daa"), looks := false }, kinds := [], alts := [], laidByText := true, laidKinds := [.data, .data], laidTests := true, laidLooks := .later }
def BlockMeansUptoCardSaid : Prop := Claim7.holds Tryd.pinned (.plain (OpenSpec.upto blockMeansSpec)) blockMeansUptoCard

/-- THE SECOND FORM's CARD OF 'voilelaw04.BlockFinds'. -/
def blockFindsUptoCard : Claim7 := { stood := { row := blockFindsUptoRow, standIns := [], harness := (true, "55be97e57eab2050a1977008476103707bf42f87492e51fdd36ab26e06066daa"), looks := false }, kinds := [], alts := [], laidByText := true, laidKinds := [.data, .data], laidTests := true, laidLooks := .later }
def BlockFindsUptoCardSaid : Prop := Claim7.holds Tryd.pinned (.plain (OpenSpec.upto blockFindsSpec)) blockFindsUptoCard

/-- THE SECOND FORM's CARD OF 'voilelaw05.SuperMeans'. -/
def superMeansUptoCard : Claim7 := { stood := { row := superMeansUptoRow, standIns := [], harness := (true, "55be97e57eab2050a1977008476103707bf42f87492e51fdd36ab26e06066daa"), looks := false }, kinds := [], alts := [], laidByText := true, laidKinds := [.data, .data, .data], laidTests := true, laidLooks := .later }
def SuperMeansUptoCardSaid : Prop := Claim7.holds Tryd.pinned (.plain (OpenSpec.upto superMeansSpec)) superMeansUptoCard

/-- THE SECOND FORM's CARD OF 'voilelaw05.SuperBlocks'. -/
def superBlocksUptoCard : Claim7 := { stood := { row := superBlocksUptoRow, standIns := [], harness := (true, "55be97e57eab2050a1977008476103707bf42f87492e51fdd36ab26e06066daa"), looks := false }, kinds := [], alts := [], laidByText := true, laidKinds := [.data, .data, .data], laidTests := true, laidLooks := .later }
def SuperBlocksUptoCardSaid : Prop := Claim7.holds Tryd.pinned (.plain (OpenSpec.upto superBlocksSpec)) superBlocksUptoCard

/-- THE SECOND FORM's CARD OF 'voilelaw05.SuperAgain'. -/
def superAgainUptoCard : Claim7 := { stood := { row := superAgainUptoRow, standIns := [], harness := (true, "55be97e57eab2050a1977008476103707bf42f87492e51fdd36ab26e06066daa"), looks := false }, kinds := [], alts := [], laidByText := true, laidKinds := [.data, .data, .data], laidTests := true, laidLooks := .later }
def SuperAgainUptoCardSaid : Prop := Claim7.holds Tryd.pinned (.plain (OpenSpec.upto superAgainSpec)) superAgainUptoCard

/-- THE SECOND FORM's CARD OF 'voilelaw05.SuperNil'. -/
def superNilUptoCard : Claim7 := { stood := { row := superNilUptoRow, standIns := [], harness := (true, "55be97e57eab2050a1977008476103707bf42f87492e51fdd36ab26e06066daa"), looks := false }, kinds := [], alts := [], laidByText := true, laidKinds := [.data, .data, .data], laidTests := true, laidLooks := .later }
def SuperNilUptoCardSaid : Prop := Claim7.holds Tryd.pinned (.plain (OpenSpec.upto superNilSpec)) superNilUptoCard

/-- THE SECOND FORM's CARD OF 'voilelaw07.PageMeans'. -/
def pageMeansUptoCard : Claim7 := { stood := { row := pageMeansUptoRow, standIns := [], harness := (true, "55be97e57eab2050a1977008476103707bf42f87492e51fdd36ab26e06066daa"), looks := false }, kinds := [], alts := [], laidByText := true, laidKinds := [.data, .data], laidTests := true, laidLooks := .later }
def PageMeansUptoCardSaid : Prop := Claim7.holds Tryd.pinned (.plain (OpenSpec.upto pageMeansSpec)) pageMeansUptoCard
end Rows
end Go.Proofs.YtojbajbghldoeaaDoor
