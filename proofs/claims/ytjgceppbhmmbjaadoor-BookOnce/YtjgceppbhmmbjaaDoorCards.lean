/-
  DERIVED. GIVEN WITH THE SEED: THE CARDS: each row of YtjgceppbhmmbjaaDoorRows.lean that lists a variable, with what it lists TIED to the program's text (the seventh form; the later family's looks); each row that meets fmt, with fmt's text TOLD by the authors' own Lean function (tested against real Go, not proved from fmt's source: count such statements apart). THE CARD IS WHAT COUNTS. Prove the row's statement (the work); the ties are given (YtjgceppbhmmbjaaDoorTie.lean); close each card by the builder's one call (the guide's Derived/Test/ToyasCard.lean, 'card_holds'). Laid BY PROGRAM, IN A SANDBOX (cutbox-door.mjs). By AI agents, Wed Nov 11 2026. No macro, syntax, notation, axiom, sorry.
-/
import Derived.Test.YtjgceppbhmmbjaaDoorRows
import GoSem.ClaimSeven
namespace Go.Proofs.YtjgceppbhmmbjaaDoor
namespace Rows

/-- THE TIED CARD OF 'leechbooklaw18.BookPuts'. -/
def bookPutsCard : Claim7 := { stood := { row := bookPutsRow, standIns := [], harness := (true, "f2479070b03f171d82c90618c5dc1cf43e6570ed6b4a30a463a32bd4503c9e70"), looks := false }, kinds := [], alts := [], laidByText := true, laidKinds := [.data], laidTests := true, laidLooks := .later }
def BookPutsCardSaid : Prop := Claim7.holds Tryd.pinned (.plain (OpenSpec.ofChange bookPutsSpec)) bookPutsCard

/-- THE TIED CARD OF 'leechbooklaw18.BookStands'. -/
def bookStandsCard : Claim7 := { stood := { row := bookStandsRow, standIns := [], harness := (true, "f2479070b03f171d82c90618c5dc1cf43e6570ed6b4a30a463a32bd4503c9e70"), looks := false }, kinds := [], alts := [], laidByText := true, laidKinds := [.data], laidTests := true, laidLooks := .later }
def BookStandsCardSaid : Prop := Claim7.holds Tryd.pinned (.plain (OpenSpec.ofChange bookStandsSpec)) bookStandsCard

/-- THE TIED CARD OF 'leechbooklaw18.BookOnce'. -/
def bookOnceCard : Claim7 := { stood := { row := bookOnceRow, standIns := [], harness := (true, "f2479070b03f171d82c90618c5dc1cf43e6570ed6b4a30a463a32bd4503c9e70"), looks := false }, kinds := [], alts := [], laidByText := true, laidKinds := [.data], laidTests := true, laidLooks := .later }
def BookOnceCardSaid : Prop := Claim7.holds Tryd.pinned (.plain (OpenSpec.ofChange bookOnceSpec)) bookOnceCard

/-- THE TIED CARD OF 'leechbooklaw18.BookVoids'. -/
def bookVoidsCard : Claim7 := { stood := { row := bookVoidsRow, standIns := [], harness := (true, "f2479070b03f171d82c90618c5dc1cf43e6570ed6b4a30a463a32bd4503c9e70"), looks := false }, kinds := [], alts := [], laidByText := true, laidKinds := [.data], laidTests := true, laidLooks := .later }
def BookVoidsCardSaid : Prop := Claim7.holds Tryd.pinned (.plain (OpenSpec.ofChange bookVoidsSpec)) bookVoidsCard

/-- THE TIED CARD OF 'leechbooklaw18.BookReplaces'. -/
def bookReplacesCard : Claim7 := { stood := { row := bookReplacesRow, standIns := [], harness := (true, "f2479070b03f171d82c90618c5dc1cf43e6570ed6b4a30a463a32bd4503c9e70"), looks := false }, kinds := [], alts := [], laidByText := true, laidKinds := [.data], laidTests := true, laidLooks := .later }
def BookReplacesCardSaid : Prop := Claim7.holds Tryd.pinned (.plain (OpenSpec.ofChange bookReplacesSpec)) bookReplacesCard

/-- THE TIED CARD OF 'leechbooklaw18.BookKeeps'. -/
def bookKeepsCard : Claim7 := { stood := { row := bookKeepsRow, standIns := [], harness := (true, "f2479070b03f171d82c90618c5dc1cf43e6570ed6b4a30a463a32bd4503c9e70"), looks := false }, kinds := [], alts := [], laidByText := true, laidKinds := [.data], laidTests := true, laidLooks := .later }
def BookKeepsCardSaid : Prop := Claim7.holds Tryd.pinned (.plain (OpenSpec.ofChange bookKeepsSpec)) bookKeepsCard

/-- THE SECOND FORM's CARD OF 'leechbooklaw18.BookPuts'. -/
def bookPutsUptoCard : Claim7 := { stood := { row := bookPutsUptoRow, standIns := [], harness := (true, "f2479070b03f171d82c90618c5dc1cf43e6570ed6b4a30a463a32bd4503c9e70"), looks := false }, kinds := [], alts := [], laidByText := true, laidKinds := [.data], laidTests := true, laidLooks := .later }
def BookPutsUptoCardSaid : Prop := Claim7.holds Tryd.pinned (.plain (OpenSpec.upto bookPutsSpec)) bookPutsUptoCard

/-- THE SECOND FORM's CARD OF 'leechbooklaw18.BookStands'. -/
def bookStandsUptoCard : Claim7 := { stood := { row := bookStandsUptoRow, standIns := [], harness := (true, "f2479070b03f171d82c90618c5dc1cf43e6570ed6b4a30a463a32bd4503c9e70"), looks := false }, kinds := [], alts := [], laidByText := true, laidKinds := [.data], laidTests := true, laidLooks := .later }
def BookStandsUptoCardSaid : Prop := Claim7.holds Tryd.pinned (.plain (OpenSpec.upto bookStandsSpec)) bookStandsUptoCard

/-- THE SECOND FORM's CARD OF 'leechbooklaw18.BookOnce'. -/
def bookOnceUptoCard : Claim7 := { stood := { row := bookOnceUptoRow, standIns := [], harness := (true, "f2479070b03f171d82c90618c5dc1cf43e6570ed6b4a30a463a32bd4503c9e70"), looks := false }, kinds := [], alts := [], laidByText := true, laidKinds := [.data], laidTests := true, laidLooks := .later }
def BookOnceUptoCardSaid : Prop := Claim7.holds Tryd.pinned (.plain (OpenSpec.upto bookOnceSpec)) bookOnceUptoCard

/-- THE SECOND FORM's CARD OF 'leechbooklaw18.BookVoids'. -/
def bookVoidsUptoCard : Claim7 := { stood := { row := bookVoidsUptoRow, standIns := [], harness := (true, "f2479070b03f171d82c90618c5dc1cf43e6570ed6b4a30a463a32bd4503c9e70"), looks := false }, kinds := [], alts := [], laidByText := true, laidKinds := [.data], laidTests := true, laidLooks := .later }
def BookVoidsUptoCardSaid : Prop := Claim7.holds Tryd.pinned (.plain (OpenSpec.upto bookVoidsSpec)) bookVoidsUptoCard

/-- THE SECOND FORM's CARD OF 'leechbooklaw18.BookReplaces'. -/
def bookReplacesUptoCard : Claim7 := { stood := { row := bookReplacesUptoRow, standIns := [], harness := (true, "f2479070b03f171d82c90618c5dc1cf43e6570ed6b4a30a463a32bd4503c9e70"), looks := false }, kinds := [], alts := [], laidByText := true, laidKinds := [.data], laidTests := true, laidLooks := .later }
def BookReplacesUptoCardSaid : Prop := Claim7.holds Tryd.pinned (.plain (OpenSpec.upto bookReplacesSpec)) bookReplacesUptoCard

/-- THE SECOND FORM's CARD OF 'leechbooklaw18.BookKeeps'. -/
def bookKeepsUptoCard : Claim7 := { stood := { row := bookKeepsUptoRow, standIns := [], harness := (true, "f2479070b03f171d82c90618c5dc1cf43e6570ed6b4a30a463a32bd4503c9e70"), looks := false }, kinds := [], alts := [], laidByText := true, laidKinds := [.data], laidTests := true, laidLooks := .later }
def BookKeepsUptoCardSaid : Prop := Claim7.holds Tryd.pinned (.plain (OpenSpec.upto bookKeepsSpec)) bookKeepsUptoCard
end Rows
end Go.Proofs.YtjgceppbhmmbjaaDoor
