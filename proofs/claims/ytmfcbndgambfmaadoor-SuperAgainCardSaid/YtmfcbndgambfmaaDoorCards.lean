/-
  DERIVED. GIVEN WITH THE SEED: THE CARDS: each row of YtmfcbndgambfmaaDoorRows.lean that lists a variable, with what it lists TIED to the program's text (the seventh form; the later family's looks); each row that meets fmt, with fmt's text TOLD by the authors' own Lean function (tested against real Go, not proved from fmt's source: count such statements apart). THE CARD IS WHAT COUNTS. Prove the row's statement (the work); the ties are given (YtmfcbndgambfmaaDoorTie.lean); close each card by the builder's one call (the guide's Derived/Test/ToyasCard.lean, 'card_holds'). Laid BY PROGRAM, IN A SANDBOX (cutbox-door.mjs). By AI agents, Wed Nov 11 2026. No macro, syntax, notation, axiom, sorry.
-/
import Derived.Test.YtmfcbndgambfmaaDoorRows
import GoSem.ClaimSeven
namespace Go.Proofs.YtmfcbndgambfmaaDoor
namespace Rows

/-- THE TIED CARD OF 'voilelaw05.SuperAgain'. -/
def superAgainCard : Claim7 := { stood := { row := superAgainRow, standIns := [], harness := (true, "cd216f815be7f483be1e7dd117cdf17ad2d23ca1d37fb91093b092d9f6d7d7b7"), looks := false }, kinds := [], alts := [], laidByText := true, laidKinds := [.data, .data, .data], laidTests := true, laidLooks := .later }
def SuperAgainCardSaid : Prop := Claim7.holds Tryd.pinned (.plain (OpenSpec.ofChange superAgainSpec)) superAgainCard

/-- THE SECOND FORM's CARD OF 'voilelaw05.SuperAgain'. -/
def superAgainUptoCard : Claim7 := { stood := { row := superAgainUptoRow, standIns := [], harness := (true, "cd216f815be7f483be1e7dd117cdf17ad2d23ca1d37fb91093b092d9f6d7d7b7"), looks := false }, kinds := [], alts := [], laidByText := true, laidKinds := [.data, .data, .data], laidTests := true, laidLooks := .later }
def SuperAgainUptoCardSaid : Prop := Claim7.holds Tryd.pinned (.plain (OpenSpec.upto superAgainSpec)) superAgainUptoCard
end Rows
end Go.Proofs.YtmfcbndgambfmaaDoor
