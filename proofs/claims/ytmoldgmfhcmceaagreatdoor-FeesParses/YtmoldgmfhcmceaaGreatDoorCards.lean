/-
  DERIVED. GIVEN WITH THE SEED: THE CARDS: each row of YtmoldgmfhcmceaaGreatDoorRows.lean that lists a variable, with what it lists TIED to the program's text (the seventh form; the later family's looks); each row that meets fmt, with fmt's text TOLD by the authors' own Lean function (tested against real Go, not proved from fmt's source: count such statements apart). THE CARD IS WHAT COUNTS. Prove the row's statement (the work); the ties are given (YtmoldgmfhcmceaaGreatDoorTie.lean); close each card by the builder's one call (the guide's Derived/Test/ToyasCard.lean, 'card_holds'). Laid BY PROGRAM, IN A SANDBOX (cutbox-door.mjs). By AI agents, Wed Nov 11 2026. No macro, syntax, notation, axiom, sorry.
-/
import Derived.Test.YtmoldgmfhcmceaaGreatDoorRows
import GoSem.ClaimSeven
namespace Go.Proofs.YtmoldgmfhcmceaaGreatDoor
namespace Rows

/-- THE TIED CARD OF 'leechbooklaw12.FeesChecks'. -/
def feesChecksCard : Claim7 := { stood := { row := feesChecksRow, standIns := [], harness := (true, "80dccdd50eaf1c53024e5eea2a051199af16ff3b85190e87a6f69e571cef1663"), looks := false }, kinds := [], alts := [], laidByText := true, laidKinds := [.data, .data, .data, .data], laidTests := true, laidLooks := .later }
def FeesChecksCardSaid : Prop := Claim7.holds Tryz.pinned (.plain (OpenSpec.ofChange feesChecksSpec)) feesChecksCard

/-- THE TIED CARD OF 'leechbooklaw12.FeesParses'. -/
def feesParsesCard : Claim7 := { stood := { row := feesParsesRow, standIns := [], harness := (true, "80dccdd50eaf1c53024e5eea2a051199af16ff3b85190e87a6f69e571cef1663"), looks := false }, kinds := [], alts := [], laidByText := true, laidKinds := [.data, .data, .data, .data], laidTests := true, laidLooks := .later }
def FeesParsesCardSaid : Prop := Claim7.holds Tryz.pinned (.plain (OpenSpec.ofChange feesParsesSpec)) feesParsesCard

/-- THE TIED CARD OF 'leechbooklaw12.FeesFinds'. -/
def feesFindsCard : Claim7 := { stood := { row := feesFindsRow, standIns := [], harness := (true, "80dccdd50eaf1c53024e5eea2a051199af16ff3b85190e87a6f69e571cef1663"), looks := false }, kinds := [], alts := [], laidByText := true, laidKinds := [.data, .data, .data, .data], laidTests := true, laidLooks := .later }
def FeesFindsCardSaid : Prop := Claim7.holds Tryz.pinned (.plain (OpenSpec.ofChange feesFindsSpec)) feesFindsCard

/-- THE TIED CARD OF 'leechbooklaw12.FeesBound'. -/
def feesBoundCard : Claim7 := { stood := { row := feesBoundRow, standIns := [], harness := (true, "80dccdd50eaf1c53024e5eea2a051199af16ff3b85190e87a6f69e571cef1663"), looks := false }, kinds := [], alts := [], laidByText := true, laidKinds := [.data, .data, .data, .data], laidTests := true, laidLooks := .later }
def FeesBoundCardSaid : Prop := Claim7.holds Tryz.pinned (.plain (OpenSpec.ofChange feesBoundSpec)) feesBoundCard

/-- THE SECOND FORM's CARD OF 'leechbooklaw12.FeesChecks'. -/
def feesChecksUptoCard : Claim7 := { stood := { row := feesChecksUptoRow, standIns := [], harness := (true, "80dccdd50eaf1c53024e5eea2a051199af16ff3b85190e87a6f69e571cef1663"), looks := false }, kinds := [], alts := [], laidByText := true, laidKinds := [.data, .data, .data, .data], laidTests := true, laidLooks := .later }
def FeesChecksUptoCardSaid : Prop := Claim7.holds Tryz.pinned (.plain (OpenSpec.upto feesChecksSpec)) feesChecksUptoCard

/-- THE SECOND FORM's CARD OF 'leechbooklaw12.FeesParses'. -/
def feesParsesUptoCard : Claim7 := { stood := { row := feesParsesUptoRow, standIns := [], harness := (true, "80dccdd50eaf1c53024e5eea2a051199af16ff3b85190e87a6f69e571cef1663"), looks := false }, kinds := [], alts := [], laidByText := true, laidKinds := [.data, .data, .data, .data], laidTests := true, laidLooks := .later }
def FeesParsesUptoCardSaid : Prop := Claim7.holds Tryz.pinned (.plain (OpenSpec.upto feesParsesSpec)) feesParsesUptoCard

/-- THE SECOND FORM's CARD OF 'leechbooklaw12.FeesFinds'. -/
def feesFindsUptoCard : Claim7 := { stood := { row := feesFindsUptoRow, standIns := [], harness := (true, "80dccdd50eaf1c53024e5eea2a051199af16ff3b85190e87a6f69e571cef1663"), looks := false }, kinds := [], alts := [], laidByText := true, laidKinds := [.data, .data, .data, .data], laidTests := true, laidLooks := .later }
def FeesFindsUptoCardSaid : Prop := Claim7.holds Tryz.pinned (.plain (OpenSpec.upto feesFindsSpec)) feesFindsUptoCard

/-- THE SECOND FORM's CARD OF 'leechbooklaw12.FeesBound'. -/
def feesBoundUptoCard : Claim7 := { stood := { row := feesBoundUptoRow, standIns := [], harness := (true, "80dccdd50eaf1c53024e5eea2a051199af16ff3b85190e87a6f69e571cef1663"), looks := false }, kinds := [], alts := [], laidByText := true, laidKinds := [.data, .data, .data, .data], laidTests := true, laidLooks := .later }
def FeesBoundUptoCardSaid : Prop := Claim7.holds Tryz.pinned (.plain (OpenSpec.upto feesBoundSpec)) feesBoundUptoCard
end Rows
end Go.Proofs.YtmoldgmfhcmceaaGreatDoor
