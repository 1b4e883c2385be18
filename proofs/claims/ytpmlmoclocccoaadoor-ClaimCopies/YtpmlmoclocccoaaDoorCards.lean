/-
  DERIVED. GIVEN WITH THE SEED: THE CARDS: each row of YtpmlmoclocccoaaDoorRows.lean that lists a variable, with what it lists TIED to the program's text (the seventh form; the later family's looks); each row that meets fmt, with fmt's text TOLD by the authors' own Lean function (tested against real Go, not proved from fmt's source: count such statements apart). THE CARD IS WHAT COUNTS. Prove the row's statement (the work); the ties are given (YtpmlmoclocccoaaDoorTie.lean); close each card by the builder's one call (the guide's Derived/Test/ToyasCard.lean, 'card_holds'). Laid BY PROGRAM, IN A SANDBOX (cutbox-door.mjs). By AI agents, Wed Nov 11 2026. No macro, syntax, notation, axiom, sorry.
-/
import Derived.Test.YtpmlmoclocccoaaDoorRows
import GoSem.ClaimSeven
namespace Go.Proofs.YtpmlmoclocccoaaDoor
namespace Rows

/-- THE TIED CARD OF 'leechbooklaw07.ClaimChecks'. -/
def claimChecksCard : Claim7 := { stood := { row := claimChecksRow, standIns := [], harness := (true, "e0c6d56abecee78b69bbdfe67875128316fb25898fd5cc9334db5ddfe1891555"), looks := false }, kinds := [], alts := [], laidByText := true, laidKinds := [.data], laidTests := true, laidLooks := .later }
def ClaimChecksCardSaid : Prop := Claim7.holds Tryd.pinned (.plain (OpenSpec.ofChange claimChecksSpec)) claimChecksCard

/-- THE TIED CARD OF 'leechbooklaw07.ClaimLines'. -/
def claimLinesCard : Claim7 := { stood := { row := claimLinesRow, standIns := [], harness := (true, "e0c6d56abecee78b69bbdfe67875128316fb25898fd5cc9334db5ddfe1891555"), looks := false }, kinds := [], alts := [], laidByText := true, laidKinds := [.data], laidTests := true, laidLooks := .later }
def ClaimLinesCardSaid : Prop := Claim7.holds Tryd.pinned (.plain (OpenSpec.ofChange claimLinesSpec)) claimLinesCard

/-- THE TIED CARD OF 'leechbooklaw07.ClaimBatches'. -/
def claimBatchesCard : Claim7 := { stood := { row := claimBatchesRow, standIns := [], harness := (true, "e0c6d56abecee78b69bbdfe67875128316fb25898fd5cc9334db5ddfe1891555"), looks := false }, kinds := [], alts := [], laidByText := true, laidKinds := [.data], laidTests := true, laidLooks := .later }
def ClaimBatchesCardSaid : Prop := Claim7.holds Tryd.pinned (.plain (OpenSpec.ofChange claimBatchesSpec)) claimBatchesCard

/-- THE TIED CARD OF 'leechbooklaw07.ClaimSame'. -/
def claimSameCard : Claim7 := { stood := { row := claimSameRow, standIns := [], harness := (true, "e0c6d56abecee78b69bbdfe67875128316fb25898fd5cc9334db5ddfe1891555"), looks := false }, kinds := [], alts := [], laidByText := true, laidKinds := [.data], laidTests := true, laidLooks := .later }
def ClaimSameCardSaid : Prop := Claim7.holds Tryd.pinned (.plain (OpenSpec.ofChange claimSameSpec)) claimSameCard

/-- THE TIED CARD OF 'leechbooklaw07.ClaimCopies'. -/
def claimCopiesCard : Claim7 := { stood := { row := claimCopiesRow, standIns := [], harness := (true, "e0c6d56abecee78b69bbdfe67875128316fb25898fd5cc9334db5ddfe1891555"), looks := false }, kinds := [], alts := [], laidByText := true, laidKinds := [.data], laidTests := true, laidLooks := .later }
def ClaimCopiesCardSaid : Prop := Claim7.holds Tryd.pinned (.plain (OpenSpec.ofChange claimCopiesSpec)) claimCopiesCard

/-- THE TIED CARD OF 'leechbooklaw07.ClaimParts'. -/
def claimPartsCard : Claim7 := { stood := { row := claimPartsRow, standIns := [], harness := (true, "e0c6d56abecee78b69bbdfe67875128316fb25898fd5cc9334db5ddfe1891555"), looks := false }, kinds := [], alts := [], laidByText := true, laidKinds := [.data], laidTests := true, laidLooks := .later }
def ClaimPartsCardSaid : Prop := Claim7.holds Tryd.pinned (.plain (OpenSpec.ofChange claimPartsSpec)) claimPartsCard

/-- THE SECOND FORM's CARD OF 'leechbooklaw07.ClaimChecks'. -/
def claimChecksUptoCard : Claim7 := { stood := { row := claimChecksUptoRow, standIns := [], harness := (true, "e0c6d56abecee78b69bbdfe67875128316fb25898fd5cc9334db5ddfe1891555"), looks := false }, kinds := [], alts := [], laidByText := true, laidKinds := [.data], laidTests := true, laidLooks := .later }
def ClaimChecksUptoCardSaid : Prop := Claim7.holds Tryd.pinned (.plain (OpenSpec.upto claimChecksSpec)) claimChecksUptoCard

/-- THE SECOND FORM's CARD OF 'leechbooklaw07.ClaimLines'. -/
def claimLinesUptoCard : Claim7 := { stood := { row := claimLinesUptoRow, standIns := [], harness := (true, "e0c6d56abecee78b69bbdfe67875128316fb25898fd5cc9334db5ddfe1891555"), looks := false }, kinds := [], alts := [], laidByText := true, laidKinds := [.data], laidTests := true, laidLooks := .later }
def ClaimLinesUptoCardSaid : Prop := Claim7.holds Tryd.pinned (.plain (OpenSpec.upto claimLinesSpec)) claimLinesUptoCard

/-- THE SECOND FORM's CARD OF 'leechbooklaw07.ClaimBatches'. -/
def claimBatchesUptoCard : Claim7 := { stood := { row := claimBatchesUptoRow, standIns := [], harness := (true, "e0c6d56abecee78b69bbdfe67875128316fb25898fd5cc9334db5ddfe1891555"), looks := false }, kinds := [], alts := [], laidByText := true, laidKinds := [.data], laidTests := true, laidLooks := .later }
def ClaimBatchesUptoCardSaid : Prop := Claim7.holds Tryd.pinned (.plain (OpenSpec.upto claimBatchesSpec)) claimBatchesUptoCard

/-- THE SECOND FORM's CARD OF 'leechbooklaw07.ClaimSame'. -/
def claimSameUptoCard : Claim7 := { stood := { row := claimSameUptoRow, standIns := [], harness := (true, "e0c6d56abecee78b69bbdfe67875128316fb25898fd5cc9334db5ddfe1891555"), looks := false }, kinds := [], alts := [], laidByText := true, laidKinds := [.data], laidTests := true, laidLooks := .later }
def ClaimSameUptoCardSaid : Prop := Claim7.holds Tryd.pinned (.plain (OpenSpec.upto claimSameSpec)) claimSameUptoCard

/-- THE SECOND FORM's CARD OF 'leechbooklaw07.ClaimCopies'. -/
def claimCopiesUptoCard : Claim7 := { stood := { row := claimCopiesUptoRow, standIns := [], harness := (true, "e0c6d56abecee78b69bbdfe67875128316fb25898fd5cc9334db5ddfe1891555"), looks := false }, kinds := [], alts := [], laidByText := true, laidKinds := [.data], laidTests := true, laidLooks := .later }
def ClaimCopiesUptoCardSaid : Prop := Claim7.holds Tryd.pinned (.plain (OpenSpec.upto claimCopiesSpec)) claimCopiesUptoCard

/-- THE SECOND FORM's CARD OF 'leechbooklaw07.ClaimParts'. -/
def claimPartsUptoCard : Claim7 := { stood := { row := claimPartsUptoRow, standIns := [], harness := (true, "e0c6d56abecee78b69bbdfe67875128316fb25898fd5cc9334db5ddfe1891555"), looks := false }, kinds := [], alts := [], laidByText := true, laidKinds := [.data], laidTests := true, laidLooks := .later }
def ClaimPartsUptoCardSaid : Prop := Claim7.holds Tryd.pinned (.plain (OpenSpec.upto claimPartsSpec)) claimPartsUptoCard
end Rows
end Go.Proofs.YtpmlmoclocccoaaDoor
