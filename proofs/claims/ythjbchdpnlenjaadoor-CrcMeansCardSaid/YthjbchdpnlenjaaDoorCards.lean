/-
  DERIVED. GIVEN WITH THE SEED: THE CARDS: each row of YthjbchdpnlenjaaDoorRows.lean that lists a variable, with what it lists TIED to the program's text (the seventh form; the later family's looks); each row that meets fmt, with fmt's text TOLD by the authors' own Lean function (tested against real Go, not proved from fmt's source: count such statements apart). THE CARD IS WHAT COUNTS. Prove the row's statement (the work); the ties are given (YthjbchdpnlenjaaDoorTie.lean); close each card by the builder's one call (the guide's Derived/Test/ToyasCard.lean, 'card_holds'). Laid BY PROGRAM, IN A SANDBOX (cutbox-door.mjs). By AI agents, Wed Nov 11 2026. No macro, syntax, notation, axiom, sorry.
-/
import Derived.Test.YthjbchdpnlenjaaDoorRows
import GoSem.ClaimSeven
namespace Go.Proofs.YthjbchdpnlenjaaDoor
namespace Rows

/-- THE TIED CARD OF 'voilelaw02.CrcSums'. -/
def crcSumsCard : Claim7 := { stood := { row := crcSumsRow, standIns := [], harness := (true, "d036a9e4bab1b6d99d0261960eaae36e79b1e889176a6eb80bd84fddcce85b75"), looks := false }, kinds := [], alts := [], laidByText := true, laidKinds := [.data, .data], laidTests := true, laidLooks := .later }
def CrcSumsCardSaid : Prop := Claim7.holds Tryd.pinned (.plain (OpenSpec.ofChange crcSumsSpec)) crcSumsCard

/-- THE TIED CARD OF 'voilelaw02.CrcSeals'. -/
def crcSealsCard : Claim7 := { stood := { row := crcSealsRow, standIns := [], harness := (true, "d036a9e4bab1b6d99d0261960eaae36e79b1e889176a6eb80bd84fddcce85b75"), looks := false }, kinds := [], alts := [], laidByText := true, laidKinds := [.data, .data], laidTests := true, laidLooks := .later }
def CrcSealsCardSaid : Prop := Claim7.holds Tryd.pinned (.plain (OpenSpec.ofChange crcSealsSpec)) crcSealsCard

/-- THE TIED CARD OF 'voilelaw02.CrcMeans'. -/
def crcMeansCard : Claim7 := { stood := { row := crcMeansRow, standIns := [], harness := (true, "d036a9e4bab1b6d99d0261960eaae36e79b1e889176a6eb80bd84fddcce85b75"), looks := false }, kinds := [], alts := [], laidByText := true, laidKinds := [.data, .data], laidTests := true, laidLooks := .later }
def CrcMeansCardSaid : Prop := Claim7.holds Tryd.pinned (.plain (OpenSpec.ofChange crcMeansSpec)) crcMeansCard

/-- THE SECOND FORM's CARD OF 'voilelaw02.CrcSums'. -/
def crcSumsUptoCard : Claim7 := { stood := { row := crcSumsUptoRow, standIns := [], harness := (true, "d036a9e4bab1b6d99d0261960eaae36e79b1e889176a6eb80bd84fddcce85b75"), looks := false }, kinds := [], alts := [], laidByText := true, laidKinds := [.data, .data], laidTests := true, laidLooks := .later }
def CrcSumsUptoCardSaid : Prop := Claim7.holds Tryd.pinned (.plain (OpenSpec.upto crcSumsSpec)) crcSumsUptoCard

/-- THE SECOND FORM's CARD OF 'voilelaw02.CrcSeals'. -/
def crcSealsUptoCard : Claim7 := { stood := { row := crcSealsUptoRow, standIns := [], harness := (true, "d036a9e4bab1b6d99d0261960eaae36e79b1e889176a6eb80bd84fddcce85b75"), looks := false }, kinds := [], alts := [], laidByText := true, laidKinds := [.data, .data], laidTests := true, laidLooks := .later }
def CrcSealsUptoCardSaid : Prop := Claim7.holds Tryd.pinned (.plain (OpenSpec.upto crcSealsSpec)) crcSealsUptoCard

/-- THE SECOND FORM's CARD OF 'voilelaw02.CrcMeans'. -/
def crcMeansUptoCard : Claim7 := { stood := { row := crcMeansUptoRow, standIns := [], harness := (true, "d036a9e4bab1b6d99d0261960eaae36e79b1e889176a6eb80bd84fddcce85b75"), looks := false }, kinds := [], alts := [], laidByText := true, laidKinds := [.data, .data], laidTests := true, laidLooks := .later }
def CrcMeansUptoCardSaid : Prop := Claim7.holds Tryd.pinned (.plain (OpenSpec.upto crcMeansSpec)) crcMeansUptoCard
end Rows
end Go.Proofs.YthjbchdpnlenjaaDoor
