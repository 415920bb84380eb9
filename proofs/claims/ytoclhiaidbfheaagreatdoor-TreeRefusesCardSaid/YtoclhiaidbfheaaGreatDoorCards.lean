/-
  DERIVED. GIVEN WITH THE SEED: THE CARDS: each row of YtoclhiaidbfheaaGreatDoorRows.lean that lists a variable, with what it lists TIED to the program's text (the seventh form; the later family's looks); each row that meets fmt, with fmt's text TOLD by the authors' own Lean function (tested against real Go, not proved from fmt's source: count such statements apart). THE CARD IS WHAT COUNTS. Prove the row's statement (the work); the ties are given (YtoclhiaidbfheaaGreatDoorTie.lean); close each card by the builder's one call (the guide's Derived/Test/ToyasCard.lean, 'card_holds'). Laid BY PROGRAM, IN A SANDBOX (cutbox-door.mjs). By AI agents, Wed Nov 11 2026. No macro, syntax, notation, axiom, sorry.
-/
import Derived.Test.YtoclhiaidbfheaaGreatDoorRows
import GoSem.ClaimSeven
namespace Go.Proofs.YtoclhiaidbfheaaGreatDoor
namespace Rows

/-- THE TIED CARD OF 'voilelaw09.TreeRefuses'. -/
def treeRefusesCard : Claim7 := { stood := { row := treeRefusesRow, standIns := [], harness := (true, "35e5fdcc1ae3c7a88a462994846adda6f6ccd6c8fe22d335d1a9cb861736a7b8"), looks := false }, kinds := [], alts := [], laidByText := true, laidKinds := [.data, .data, .data], laidTests := true, laidLooks := .later }
def TreeRefusesCardSaid : Prop := Claim7.holds Tryz.pinned (.plain (OpenSpec.ofChange treeRefusesSpec)) treeRefusesCard

/-- THE TIED CARD OF 'voilelaw10.DiffNil'. -/
def diffNilCard : Claim7 := { stood := { row := diffNilRow, standIns := [], harness := (true, "35e5fdcc1ae3c7a88a462994846adda6f6ccd6c8fe22d335d1a9cb861736a7b8"), looks := false }, kinds := [], alts := [], laidByText := true, laidKinds := [.data, .data, .data], laidTests := true, laidLooks := .later }
def DiffNilCardSaid : Prop := Claim7.holds Tryz.pinned (.plain (OpenSpec.ofChange diffNilSpec)) diffNilCard

/-- THE TIED CARD OF 'voilelaw11.VolumeNil'. -/
def volumeNilCard : Claim7 := { stood := { row := volumeNilRow, standIns := [], harness := (true, "35e5fdcc1ae3c7a88a462994846adda6f6ccd6c8fe22d335d1a9cb861736a7b8"), looks := false }, kinds := [], alts := [], laidByText := true, laidKinds := [.data, .data, .data], laidTests := true, laidLooks := .later }
def VolumeNilCardSaid : Prop := Claim7.holds Tryz.pinned (.plain (OpenSpec.ofChange volumeNilSpec)) volumeNilCard

/-- THE SECOND FORM's CARD OF 'voilelaw09.TreeRefuses'. -/
def treeRefusesUptoCard : Claim7 := { stood := { row := treeRefusesUptoRow, standIns := [], harness := (true, "35e5fdcc1ae3c7a88a462994846adda6f6ccd6c8fe22d335d1a9cb861736a7b8"), looks := false }, kinds := [], alts := [], laidByText := true, laidKinds := [.data, .data, .data], laidTests := true, laidLooks := .later }
def TreeRefusesUptoCardSaid : Prop := Claim7.holds Tryz.pinned (.plain (OpenSpec.upto treeRefusesSpec)) treeRefusesUptoCard

/-- THE SECOND FORM's CARD OF 'voilelaw10.DiffNil'. -/
def diffNilUptoCard : Claim7 := { stood := { row := diffNilUptoRow, standIns := [], harness := (true, "35e5fdcc1ae3c7a88a462994846adda6f6ccd6c8fe22d335d1a9cb861736a7b8"), looks := false }, kinds := [], alts := [], laidByText := true, laidKinds := [.data, .data, .data], laidTests := true, laidLooks := .later }
def DiffNilUptoCardSaid : Prop := Claim7.holds Tryz.pinned (.plain (OpenSpec.upto diffNilSpec)) diffNilUptoCard

/-- THE SECOND FORM's CARD OF 'voilelaw11.VolumeNil'. -/
def volumeNilUptoCard : Claim7 := { stood := { row := volumeNilUptoRow, standIns := [], harness := (true, "35e5fdcc1ae3c7a88a462994846adda6f6ccd6c8fe22d335d1a9cb861736a7b8"), looks := false }, kinds := [], alts := [], laidByText := true, laidKinds := [.data, .data, .data], laidTests := true, laidLooks := .later }
def VolumeNilUptoCardSaid : Prop := Claim7.holds Tryz.pinned (.plain (OpenSpec.upto volumeNilSpec)) volumeNilUptoCard
end Rows
end Go.Proofs.YtoclhiaidbfheaaGreatDoor
