/-
  DERIVED. GIVEN WITH THE SEED: THE CARDS: each row of YtmoldgmfhcmceabGreatDoorRows.lean that lists a variable, with what it lists TIED to the program's text (the seventh form; the later family's looks); each row that meets fmt, with fmt's text TOLD by the authors' own Lean function (tested against real Go, not proved from fmt's source: count such statements apart). THE CARD IS WHAT COUNTS. Prove the row's statement (the work); the ties are given (YtmoldgmfhcmceabGreatDoorTie.lean); close each card by the builder's one call (the guide's Derived/Test/ToyasCard.lean, 'card_holds'). Laid BY PROGRAM, IN A SANDBOX (cutbox-door.mjs). By AI agents, Wed Nov 11 2026. No macro, syntax, notation, axiom, sorry.
-/
import Derived.Test.YtmoldgmfhcmceabGreatDoorRows
import GoSem.ClaimSeven
namespace Go.Proofs.YtmoldgmfhcmceabGreatDoor
namespace Rows

/-- THE TIED CARD OF 'leechbooklaw12.FeesLater'. -/
def feesLaterCard : Claim7 := { stood := { row := feesLaterRow, standIns := [], harness := (true, "64063d37844db1196f552e21807d89b0da64ae643f6624f82837d4a8f2ed6266"), looks := false }, kinds := [], alts := [], laidByText := true, laidKinds := [.data, .data, .data, .data], laidTests := true, laidLooks := .later }
def FeesLaterCardSaid : Prop := Claim7.holds Tryz.pinned (.plain (OpenSpec.ofChange feesLaterSpec)) feesLaterCard

/-- THE SECOND FORM's CARD OF 'leechbooklaw12.FeesLater'. -/
def feesLaterUptoCard : Claim7 := { stood := { row := feesLaterUptoRow, standIns := [], harness := (true, "64063d37844db1196f552e21807d89b0da64ae643f6624f82837d4a8f2ed6266"), looks := false }, kinds := [], alts := [], laidByText := true, laidKinds := [.data, .data, .data, .data], laidTests := true, laidLooks := .later }
def FeesLaterUptoCardSaid : Prop := Claim7.holds Tryz.pinned (.plain (OpenSpec.upto feesLaterSpec)) feesLaterUptoCard
end Rows
end Go.Proofs.YtmoldgmfhcmceabGreatDoor
