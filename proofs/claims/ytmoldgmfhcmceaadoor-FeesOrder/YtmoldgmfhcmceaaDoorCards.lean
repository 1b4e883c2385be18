/-
  DERIVED. GIVEN WITH THE SEED: THE CARDS: each row of YtmoldgmfhcmceaaDoorRows.lean that lists a variable, with what it lists TIED to the program's text (the seventh form; the later family's looks); each row that meets fmt, with fmt's text TOLD by the authors' own Lean function (tested against real Go, not proved from fmt's source: count such statements apart). THE CARD IS WHAT COUNTS. Prove the row's statement (the work); the ties are given (YtmoldgmfhcmceaaDoorTie.lean); close each card by the builder's one call (the guide's Derived/Test/ToyasCard.lean, 'card_holds'). Laid BY PROGRAM, IN A SANDBOX (cutbox-door.mjs). By AI agents, Wed Nov 11 2026. No macro, syntax, notation, axiom, sorry.
-/
import Derived.Test.YtmoldgmfhcmceaaDoorRows
import GoSem.ClaimSeven
namespace Go.Proofs.YtmoldgmfhcmceaaDoor
namespace Rows

/-- THE TIED CARD OF 'leechbooklaw12.FeesBack'. -/
def feesBackCard : Claim7 := { stood := { row := feesBackRow, standIns := [], harness := (true, "dc6de08f986fe839d9b4d4c88e23b1a0f0b8862dcb03fb9235ab3580fe1b0240"), looks := false }, kinds := [], alts := [], laidByText := true, laidKinds := [.data, .data, .data, .data], laidTests := true, laidLooks := .later }
def FeesBackCardSaid : Prop := Claim7.holds Tryd.pinned (.plain (OpenSpec.ofChange feesBackSpec)) feesBackCard

/-- THE TIED CARD OF 'leechbooklaw12.FeesOrder'. -/
def feesOrderCard : Claim7 := { stood := { row := feesOrderRow, standIns := [], harness := (true, "dc6de08f986fe839d9b4d4c88e23b1a0f0b8862dcb03fb9235ab3580fe1b0240"), looks := false }, kinds := [], alts := [], laidByText := true, laidKinds := [.data, .data, .data, .data], laidTests := true, laidLooks := .later }
def FeesOrderCardSaid : Prop := Claim7.holds Tryd.pinned (.plain (OpenSpec.ofChange feesOrderSpec)) feesOrderCard

/-- THE SECOND FORM's CARD OF 'leechbooklaw12.FeesBack'. -/
def feesBackUptoCard : Claim7 := { stood := { row := feesBackUptoRow, standIns := [], harness := (true, "dc6de08f986fe839d9b4d4c88e23b1a0f0b8862dcb03fb9235ab3580fe1b0240"), looks := false }, kinds := [], alts := [], laidByText := true, laidKinds := [.data, .data, .data, .data], laidTests := true, laidLooks := .later }
def FeesBackUptoCardSaid : Prop := Claim7.holds Tryd.pinned (.plain (OpenSpec.upto feesBackSpec)) feesBackUptoCard

/-- THE SECOND FORM's CARD OF 'leechbooklaw12.FeesOrder'. -/
def feesOrderUptoCard : Claim7 := { stood := { row := feesOrderUptoRow, standIns := [], harness := (true, "dc6de08f986fe839d9b4d4c88e23b1a0f0b8862dcb03fb9235ab3580fe1b0240"), looks := false }, kinds := [], alts := [], laidByText := true, laidKinds := [.data, .data, .data, .data], laidTests := true, laidLooks := .later }
def FeesOrderUptoCardSaid : Prop := Claim7.holds Tryd.pinned (.plain (OpenSpec.upto feesOrderSpec)) feesOrderUptoCard
end Rows
end Go.Proofs.YtmoldgmfhcmceaaDoor
