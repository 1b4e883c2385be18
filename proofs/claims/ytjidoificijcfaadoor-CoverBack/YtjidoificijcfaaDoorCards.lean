/-
  DERIVED. GIVEN WITH THE SEED: THE CARDS: each row of YtjidoificijcfaaDoorRows.lean that lists a variable, with what it lists TIED to the program's text (the seventh form; the later family's looks); each row that meets fmt, with fmt's text TOLD by the authors' own Lean function (tested against real Go, not proved from fmt's source: count such statements apart). THE CARD IS WHAT COUNTS. Prove the row's statement (the work); the ties are given (YtjidoificijcfaaDoorTie.lean); close each card by the builder's one call (the guide's Derived/Test/ToyasCard.lean, 'card_holds'). Laid BY PROGRAM, IN A SANDBOX (cutbox-door.mjs). By AI agents, Wed Nov 11 2026. No macro, syntax, notation, axiom, sorry.
-/
import Derived.Test.YtjidoificijcfaaDoorRows
import GoSem.ClaimSeven
namespace Go.Proofs.YtjidoificijcfaaDoor
namespace Rows

/-- THE TIED CARD OF 'leechbooklaw06.CoverWraps'. -/
def coverWrapsCard : Claim7 := { stood := { row := coverWrapsRow, standIns := [], harness := (true, "2d2f9c332a5f6900600230bb8b72244ea9d178c45feadf0fb18f32c3500bf0bf"), looks := false }, kinds := [], alts := [], laidByText := true, laidKinds := [.data, .data, .data, .data, .pinned], laidTests := true, laidLooks := .later }
def CoverWrapsCardSaid : Prop := Claim7.holds Tryd.pinned (.plain (OpenSpec.ofChange coverWrapsSpec)) coverWrapsCard

/-- THE TIED CARD OF 'leechbooklaw06.CoverOpens'. -/
def coverOpensCard : Claim7 := { stood := { row := coverOpensRow, standIns := [], harness := (true, "2d2f9c332a5f6900600230bb8b72244ea9d178c45feadf0fb18f32c3500bf0bf"), looks := false }, kinds := [], alts := [], laidByText := true, laidKinds := [.data, .data, .data, .data, .pinned], laidTests := true, laidLooks := .later }
def CoverOpensCardSaid : Prop := Claim7.holds Tryd.pinned (.plain (OpenSpec.ofChange coverOpensSpec)) coverOpensCard

/-- THE TIED CARD OF 'leechbooklaw06.CoverBack'. -/
def coverBackCard : Claim7 := { stood := { row := coverBackRow, standIns := [], harness := (true, "2d2f9c332a5f6900600230bb8b72244ea9d178c45feadf0fb18f32c3500bf0bf"), looks := false }, kinds := [], alts := [], laidByText := true, laidKinds := [.data, .data, .data, .data, .pinned], laidTests := true, laidLooks := .later }
def CoverBackCardSaid : Prop := Claim7.holds Tryd.pinned (.plain (OpenSpec.ofChange coverBackSpec)) coverBackCard

/-- THE TIED CARD OF 'leechbooklaw06.CoverOnce'. -/
def coverOnceCard : Claim7 := { stood := { row := coverOnceRow, standIns := [], harness := (true, "2d2f9c332a5f6900600230bb8b72244ea9d178c45feadf0fb18f32c3500bf0bf"), looks := false }, kinds := [], alts := [], laidByText := true, laidKinds := [.data, .data, .data, .data, .pinned], laidTests := true, laidLooks := .later }
def CoverOnceCardSaid : Prop := Claim7.holds Tryd.pinned (.plain (OpenSpec.ofChange coverOnceSpec)) coverOnceCard

/-- THE TIED CARD OF 'leechbooklaw06.CoverCuts'. -/
def coverCutsCard : Claim7 := { stood := { row := coverCutsRow, standIns := [], harness := (true, "2d2f9c332a5f6900600230bb8b72244ea9d178c45feadf0fb18f32c3500bf0bf"), looks := false }, kinds := [], alts := [], laidByText := true, laidKinds := [.data, .data, .data, .data, .pinned], laidTests := true, laidLooks := .later }
def CoverCutsCardSaid : Prop := Claim7.holds Tryd.pinned (.plain (OpenSpec.ofChange coverCutsSpec)) coverCutsCard

/-- THE SECOND FORM's CARD OF 'leechbooklaw06.CoverWraps'. -/
def coverWrapsUptoCard : Claim7 := { stood := { row := coverWrapsUptoRow, standIns := [], harness := (true, "2d2f9c332a5f6900600230bb8b72244ea9d178c45feadf0fb18f32c3500bf0bf"), looks := false }, kinds := [], alts := [], laidByText := true, laidKinds := [.data, .data, .data, .data, .pinned], laidTests := true, laidLooks := .later }
def CoverWrapsUptoCardSaid : Prop := Claim7.holds Tryd.pinned (.plain (OpenSpec.upto coverWrapsSpec)) coverWrapsUptoCard

/-- THE SECOND FORM's CARD OF 'leechbooklaw06.CoverOpens'. -/
def coverOpensUptoCard : Claim7 := { stood := { row := coverOpensUptoRow, standIns := [], harness := (true, "2d2f9c332a5f6900600230bb8b72244ea9d178c45feadf0fb18f32c3500bf0bf"), looks := false }, kinds := [], alts := [], laidByText := true, laidKinds := [.data, .data, .data, .data, .pinned], laidTests := true, laidLooks := .later }
def CoverOpensUptoCardSaid : Prop := Claim7.holds Tryd.pinned (.plain (OpenSpec.upto coverOpensSpec)) coverOpensUptoCard

/-- THE SECOND FORM's CARD OF 'leechbooklaw06.CoverBack'. -/
def coverBackUptoCard : Claim7 := { stood := { row := coverBackUptoRow, standIns := [], harness := (true, "2d2f9c332a5f6900600230bb8b72244ea9d178c45feadf0fb18f32c3500bf0bf"), looks := false }, kinds := [], alts := [], laidByText := true, laidKinds := [.data, .data, .data, .data, .pinned], laidTests := true, laidLooks := .later }
def CoverBackUptoCardSaid : Prop := Claim7.holds Tryd.pinned (.plain (OpenSpec.upto coverBackSpec)) coverBackUptoCard

/-- THE SECOND FORM's CARD OF 'leechbooklaw06.CoverOnce'. -/
def coverOnceUptoCard : Claim7 := { stood := { row := coverOnceUptoRow, standIns := [], harness := (true, "2d2f9c332a5f6900600230bb8b72244ea9d178c45feadf0fb18f32c3500bf0bf"), looks := false }, kinds := [], alts := [], laidByText := true, laidKinds := [.data, .data, .data, .data, .pinned], laidTests := true, laidLooks := .later }
def CoverOnceUptoCardSaid : Prop := Claim7.holds Tryd.pinned (.plain (OpenSpec.upto coverOnceSpec)) coverOnceUptoCard

/-- THE SECOND FORM's CARD OF 'leechbooklaw06.CoverCuts'. -/
def coverCutsUptoCard : Claim7 := { stood := { row := coverCutsUptoRow, standIns := [], harness := (true, "2d2f9c332a5f6900600230bb8b72244ea9d178c45feadf0fb18f32c3500bf0bf"), looks := false }, kinds := [], alts := [], laidByText := true, laidKinds := [.data, .data, .data, .data, .pinned], laidTests := true, laidLooks := .later }
def CoverCutsUptoCardSaid : Prop := Claim7.holds Tryd.pinned (.plain (OpenSpec.upto coverCutsSpec)) coverCutsUptoCard
end Rows
end Go.Proofs.YtjidoificijcfaaDoor
