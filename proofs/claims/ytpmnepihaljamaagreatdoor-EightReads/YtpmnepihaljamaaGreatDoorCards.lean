/-
  DERIVED. GIVEN WITH THE SEED: THE CARDS: each row of YtpmnepihaljamaaGreatDoorRows.lean that lists a variable, with what it lists TIED to the program's text (the seventh form; the later family's looks); each row that meets fmt, with fmt's text TOLD by the authors' own Lean function (tested against real Go, not proved from fmt's source: count such statements apart). THE CARD IS WHAT COUNTS. Prove the row's statement (the work); the ties are given (YtpmnepihaljamaaGreatDoorTie.lean); close each card by the builder's one call (the guide's Derived/Test/ToyasCard.lean, 'card_holds'). Laid BY PROGRAM, IN A SANDBOX (cutbox-door.mjs). By AI agents, Wed Nov 11 2026. No macro, syntax, notation, axiom, sorry.
-/
import Derived.Test.YtpmnepihaljamaaGreatDoorRows
import GoSem.ClaimSeven
namespace Go.Proofs.YtpmnepihaljamaaGreatDoor
namespace Rows

/-- THE TIED CARD OF 'leechbooklaw08.EightWrites'. -/
def eightWritesCard : Claim7 := { stood := { row := eightWritesRow, standIns := [], harness := (true, "122e963fb66ddac7511cf8e03ec72daa6168b7b23aebada0a115fea26b40cd7f"), looks := false }, kinds := [], alts := [], laidByText := true, laidKinds := [.data, .data, .data, .data, .data, .pinned], laidTests := true, laidLooks := .later }
def EightWritesCardSaid : Prop := Claim7.holds Tryz.pinned (.plain (OpenSpec.ofChange eightWritesSpec)) eightWritesCard

/-- THE TIED CARD OF 'leechbooklaw08.EightReads'. -/
def eightReadsCard : Claim7 := { stood := { row := eightReadsRow, standIns := [], harness := (true, "122e963fb66ddac7511cf8e03ec72daa6168b7b23aebada0a115fea26b40cd7f"), looks := false }, kinds := [], alts := [], laidByText := true, laidKinds := [.data, .data, .data, .data, .data, .pinned], laidTests := true, laidLooks := .later }
def EightReadsCardSaid : Prop := Claim7.holds Tryz.pinned (.plain (OpenSpec.ofChange eightReadsSpec)) eightReadsCard

/-- THE TIED CARD OF 'leechbooklaw08.EightBack'. -/
def eightBackCard : Claim7 := { stood := { row := eightBackRow, standIns := [], harness := (true, "122e963fb66ddac7511cf8e03ec72daa6168b7b23aebada0a115fea26b40cd7f"), looks := false }, kinds := [], alts := [], laidByText := true, laidKinds := [.data, .data, .data, .data, .data, .pinned], laidTests := true, laidLooks := .later }
def EightBackCardSaid : Prop := Claim7.holds Tryz.pinned (.plain (OpenSpec.ofChange eightBackSpec)) eightBackCard

/-- THE TIED CARD OF 'leechbooklaw08.EightOnce'. -/
def eightOnceCard : Claim7 := { stood := { row := eightOnceRow, standIns := [], harness := (true, "122e963fb66ddac7511cf8e03ec72daa6168b7b23aebada0a115fea26b40cd7f"), looks := false }, kinds := [], alts := [], laidByText := true, laidKinds := [.data, .data, .data, .data, .data, .pinned], laidTests := true, laidLooks := .later }
def EightOnceCardSaid : Prop := Claim7.holds Tryz.pinned (.plain (OpenSpec.ofChange eightOnceSpec)) eightOnceCard

/-- THE TIED CARD OF 'leechbooklaw08.EightSigns'. -/
def eightSignsCard : Claim7 := { stood := { row := eightSignsRow, standIns := [], harness := (true, "122e963fb66ddac7511cf8e03ec72daa6168b7b23aebada0a115fea26b40cd7f"), looks := false }, kinds := [], alts := [], laidByText := true, laidKinds := [.data, .data, .data, .data, .data, .pinned], laidTests := true, laidLooks := .later }
def EightSignsCardSaid : Prop := Claim7.holds Tryz.pinned (.plain (OpenSpec.ofChange eightSignsSpec)) eightSignsCard

/-- THE TIED CARD OF 'leechbooklaw08.EightParts'. -/
def eightPartsCard : Claim7 := { stood := { row := eightPartsRow, standIns := [], harness := (true, "122e963fb66ddac7511cf8e03ec72daa6168b7b23aebada0a115fea26b40cd7f"), looks := false }, kinds := [], alts := [], laidByText := true, laidKinds := [.data, .data, .data, .data, .data, .pinned], laidTests := true, laidLooks := .later }
def EightPartsCardSaid : Prop := Claim7.holds Tryz.pinned (.plain (OpenSpec.ofChange eightPartsSpec)) eightPartsCard

/-- THE SECOND FORM's CARD OF 'leechbooklaw08.EightWrites'. -/
def eightWritesUptoCard : Claim7 := { stood := { row := eightWritesUptoRow, standIns := [], harness := (true, "122e963fb66ddac7511cf8e03ec72daa6168b7b23aebada0a115fea26b40cd7f"), looks := false }, kinds := [], alts := [], laidByText := true, laidKinds := [.data, .data, .data, .data, .data, .pinned], laidTests := true, laidLooks := .later }
def EightWritesUptoCardSaid : Prop := Claim7.holds Tryz.pinned (.plain (OpenSpec.upto eightWritesSpec)) eightWritesUptoCard

/-- THE SECOND FORM's CARD OF 'leechbooklaw08.EightReads'. -/
def eightReadsUptoCard : Claim7 := { stood := { row := eightReadsUptoRow, standIns := [], harness := (true, "122e963fb66ddac7511cf8e03ec72daa6168b7b23aebada0a115fea26b40cd7f"), looks := false }, kinds := [], alts := [], laidByText := true, laidKinds := [.data, .data, .data, .data, .data, .pinned], laidTests := true, laidLooks := .later }
def EightReadsUptoCardSaid : Prop := Claim7.holds Tryz.pinned (.plain (OpenSpec.upto eightReadsSpec)) eightReadsUptoCard

/-- THE SECOND FORM's CARD OF 'leechbooklaw08.EightBack'. -/
def eightBackUptoCard : Claim7 := { stood := { row := eightBackUptoRow, standIns := [], harness := (true, "122e963fb66ddac7511cf8e03ec72daa6168b7b23aebada0a115fea26b40cd7f"), looks := false }, kinds := [], alts := [], laidByText := true, laidKinds := [.data, .data, .data, .data, .data, .pinned], laidTests := true, laidLooks := .later }
def EightBackUptoCardSaid : Prop := Claim7.holds Tryz.pinned (.plain (OpenSpec.upto eightBackSpec)) eightBackUptoCard

/-- THE SECOND FORM's CARD OF 'leechbooklaw08.EightOnce'. -/
def eightOnceUptoCard : Claim7 := { stood := { row := eightOnceUptoRow, standIns := [], harness := (true, "122e963fb66ddac7511cf8e03ec72daa6168b7b23aebada0a115fea26b40cd7f"), looks := false }, kinds := [], alts := [], laidByText := true, laidKinds := [.data, .data, .data, .data, .data, .pinned], laidTests := true, laidLooks := .later }
def EightOnceUptoCardSaid : Prop := Claim7.holds Tryz.pinned (.plain (OpenSpec.upto eightOnceSpec)) eightOnceUptoCard

/-- THE SECOND FORM's CARD OF 'leechbooklaw08.EightSigns'. -/
def eightSignsUptoCard : Claim7 := { stood := { row := eightSignsUptoRow, standIns := [], harness := (true, "122e963fb66ddac7511cf8e03ec72daa6168b7b23aebada0a115fea26b40cd7f"), looks := false }, kinds := [], alts := [], laidByText := true, laidKinds := [.data, .data, .data, .data, .data, .pinned], laidTests := true, laidLooks := .later }
def EightSignsUptoCardSaid : Prop := Claim7.holds Tryz.pinned (.plain (OpenSpec.upto eightSignsSpec)) eightSignsUptoCard

/-- THE SECOND FORM's CARD OF 'leechbooklaw08.EightParts'. -/
def eightPartsUptoCard : Claim7 := { stood := { row := eightPartsUptoRow, standIns := [], harness := (true, "122e963fb66ddac7511cf8e03ec72daa6168b7b23aebada0a115fea26b40cd7f"), looks := false }, kinds := [], alts := [], laidByText := true, laidKinds := [.data, .data, .data, .data, .data, .pinned], laidTests := true, laidLooks := .later }
def EightPartsUptoCardSaid : Prop := Claim7.holds Tryz.pinned (.plain (OpenSpec.upto eightPartsSpec)) eightPartsUptoCard
end Rows
end Go.Proofs.YtpmnepihaljamaaGreatDoor
