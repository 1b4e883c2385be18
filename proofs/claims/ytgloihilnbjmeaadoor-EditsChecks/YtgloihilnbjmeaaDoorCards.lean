/-
  DERIVED. GIVEN WITH THE SEED: THE CARDS: each row of YtgloihilnbjmeaaDoorRows.lean that lists a variable, with what it lists TIED to the program's text (the seventh form; the later family's looks); each row that meets fmt, with fmt's text TOLD by the authors' own Lean function (tested against real Go, not proved from fmt's source: count such statements apart). THE CARD IS WHAT COUNTS. Prove the row's statement (the work); the ties are given (YtgloihilnbjmeaaDoorTie.lean); close each card by the builder's one call (the guide's Derived/Test/ToyasCard.lean, 'card_holds'). Laid BY PROGRAM, IN A SANDBOX (cutbox-door.mjs). By AI agents, Wed Nov 11 2026. No macro, syntax, notation, axiom, sorry.
-/
import Derived.Test.YtgloihilnbjmeaaDoorRows
import GoSem.ClaimSeven
namespace Go.Proofs.YtgloihilnbjmeaaDoor
namespace Rows

/-- THE TIED CARD OF 'leechbooklaw13.EditsChecks'. -/
def editsChecksCard : Claim7 := { stood := { row := editsChecksRow, standIns := [], harness := (true, "b44c92bab4fb646ddc684cfa4b24097984c9645ac2fd34c5cae9cfe79b4f134b"), looks := false }, kinds := [], alts := [], laidByText := true, laidKinds := [.data, .data, .data], laidTests := true, laidLooks := .later }
def EditsChecksCardSaid : Prop := Claim7.holds Tryd.pinned (.plain (OpenSpec.ofChange editsChecksSpec)) editsChecksCard

/-- THE TIED CARD OF 'leechbooklaw13.EditsParses'. -/
def editsParsesCard : Claim7 := { stood := { row := editsParsesRow, standIns := [], harness := (true, "b44c92bab4fb646ddc684cfa4b24097984c9645ac2fd34c5cae9cfe79b4f134b"), looks := false }, kinds := [], alts := [], laidByText := true, laidKinds := [.data, .data, .data], laidTests := true, laidLooks := .later }
def EditsParsesCardSaid : Prop := Claim7.holds Tryd.pinned (.plain (OpenSpec.ofChange editsParsesSpec)) editsParsesCard

/-- THE TIED CARD OF 'leechbooklaw13.EditsBack'. -/
def editsBackCard : Claim7 := { stood := { row := editsBackRow, standIns := [], harness := (true, "b44c92bab4fb646ddc684cfa4b24097984c9645ac2fd34c5cae9cfe79b4f134b"), looks := false }, kinds := [], alts := [], laidByText := true, laidKinds := [.data, .data, .data], laidTests := true, laidLooks := .later }
def EditsBackCardSaid : Prop := Claim7.holds Tryd.pinned (.plain (OpenSpec.ofChange editsBackSpec)) editsBackCard

/-- THE TIED CARD OF 'leechbooklaw13.EditsDeny'. -/
def editsDenyCard : Claim7 := { stood := { row := editsDenyRow, standIns := [], harness := (true, "b44c92bab4fb646ddc684cfa4b24097984c9645ac2fd34c5cae9cfe79b4f134b"), looks := false }, kinds := [], alts := [], laidByText := true, laidKinds := [.data, .data, .data], laidTests := true, laidLooks := .later }
def EditsDenyCardSaid : Prop := Claim7.holds Tryd.pinned (.plain (OpenSpec.ofChange editsDenySpec)) editsDenyCard

/-- THE TIED CARD OF 'leechbooklaw13.EditsAlone'. -/
def editsAloneCard : Claim7 := { stood := { row := editsAloneRow, standIns := [], harness := (true, "b44c92bab4fb646ddc684cfa4b24097984c9645ac2fd34c5cae9cfe79b4f134b"), looks := false }, kinds := [], alts := [], laidByText := true, laidKinds := [.data, .data, .data], laidTests := true, laidLooks := .later }
def EditsAloneCardSaid : Prop := Claim7.holds Tryd.pinned (.plain (OpenSpec.ofChange editsAloneSpec)) editsAloneCard

/-- THE TIED CARD OF 'leechbooklaw13.EditsJoin'. -/
def editsJoinCard : Claim7 := { stood := { row := editsJoinRow, standIns := [], harness := (true, "b44c92bab4fb646ddc684cfa4b24097984c9645ac2fd34c5cae9cfe79b4f134b"), looks := false }, kinds := [], alts := [], laidByText := true, laidKinds := [.data, .data, .data], laidTests := true, laidLooks := .later }
def EditsJoinCardSaid : Prop := Claim7.holds Tryd.pinned (.plain (OpenSpec.ofChange editsJoinSpec)) editsJoinCard

/-- THE SECOND FORM's CARD OF 'leechbooklaw13.EditsChecks'. -/
def editsChecksUptoCard : Claim7 := { stood := { row := editsChecksUptoRow, standIns := [], harness := (true, "b44c92bab4fb646ddc684cfa4b24097984c9645ac2fd34c5cae9cfe79b4f134b"), looks := false }, kinds := [], alts := [], laidByText := true, laidKinds := [.data, .data, .data], laidTests := true, laidLooks := .later }
def EditsChecksUptoCardSaid : Prop := Claim7.holds Tryd.pinned (.plain (OpenSpec.upto editsChecksSpec)) editsChecksUptoCard

/-- THE SECOND FORM's CARD OF 'leechbooklaw13.EditsParses'. -/
def editsParsesUptoCard : Claim7 := { stood := { row := editsParsesUptoRow, standIns := [], harness := (true, "b44c92bab4fb646ddc684cfa4b24097984c9645ac2fd34c5cae9cfe79b4f134b"), looks := false }, kinds := [], alts := [], laidByText := true, laidKinds := [.data, .data, .data], laidTests := true, laidLooks := .later }
def EditsParsesUptoCardSaid : Prop := Claim7.holds Tryd.pinned (.plain (OpenSpec.upto editsParsesSpec)) editsParsesUptoCard

/-- THE SECOND FORM's CARD OF 'leechbooklaw13.EditsBack'. -/
def editsBackUptoCard : Claim7 := { stood := { row := editsBackUptoRow, standIns := [], harness := (true, "b44c92bab4fb646ddc684cfa4b24097984c9645ac2fd34c5cae9cfe79b4f134b"), looks := false }, kinds := [], alts := [], laidByText := true, laidKinds := [.data, .data, .data], laidTests := true, laidLooks := .later }
def EditsBackUptoCardSaid : Prop := Claim7.holds Tryd.pinned (.plain (OpenSpec.upto editsBackSpec)) editsBackUptoCard

/-- THE SECOND FORM's CARD OF 'leechbooklaw13.EditsDeny'. -/
def editsDenyUptoCard : Claim7 := { stood := { row := editsDenyUptoRow, standIns := [], harness := (true, "b44c92bab4fb646ddc684cfa4b24097984c9645ac2fd34c5cae9cfe79b4f134b"), looks := false }, kinds := [], alts := [], laidByText := true, laidKinds := [.data, .data, .data], laidTests := true, laidLooks := .later }
def EditsDenyUptoCardSaid : Prop := Claim7.holds Tryd.pinned (.plain (OpenSpec.upto editsDenySpec)) editsDenyUptoCard

/-- THE SECOND FORM's CARD OF 'leechbooklaw13.EditsAlone'. -/
def editsAloneUptoCard : Claim7 := { stood := { row := editsAloneUptoRow, standIns := [], harness := (true, "b44c92bab4fb646ddc684cfa4b24097984c9645ac2fd34c5cae9cfe79b4f134b"), looks := false }, kinds := [], alts := [], laidByText := true, laidKinds := [.data, .data, .data], laidTests := true, laidLooks := .later }
def EditsAloneUptoCardSaid : Prop := Claim7.holds Tryd.pinned (.plain (OpenSpec.upto editsAloneSpec)) editsAloneUptoCard

/-- THE SECOND FORM's CARD OF 'leechbooklaw13.EditsJoin'. -/
def editsJoinUptoCard : Claim7 := { stood := { row := editsJoinUptoRow, standIns := [], harness := (true, "b44c92bab4fb646ddc684cfa4b24097984c9645ac2fd34c5cae9cfe79b4f134b"), looks := false }, kinds := [], alts := [], laidByText := true, laidKinds := [.data, .data, .data], laidTests := true, laidLooks := .later }
def EditsJoinUptoCardSaid : Prop := Claim7.holds Tryd.pinned (.plain (OpenSpec.upto editsJoinSpec)) editsJoinUptoCard
end Rows
end Go.Proofs.YtgloihilnbjmeaaDoor
