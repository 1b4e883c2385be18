/-
  DERIVED. GIVEN WITH THE SEED: THE CARDS: each row of YtclbejgnaphekaaDoorRows.lean that lists a variable, with what it lists TIED to the program's text (the seventh form; the later family's looks); each row that meets fmt, with fmt's text TOLD by the authors' own Lean function (tested against real Go, not proved from fmt's source: count such statements apart). THE CARD IS WHAT COUNTS. Prove the row's statement (the work); the ties are given (YtclbejgnaphekaaDoorTie.lean); close each card by the builder's one call (the guide's Derived/Test/ToyasCard.lean, 'card_holds'). Laid BY PROGRAM, IN A SANDBOX (cutbox-door.mjs). By AI agents, Wed Nov 11 2026. No macro, syntax, notation, axiom, sorry.
-/
import Derived.Test.YtclbejgnaphekaaDoorRows
import GoSem.ClaimSeven
namespace Go.Proofs.YtclbejgnaphekaaDoor
namespace Rows

/-- THE TIED CARD OF 'leechbooklaw05.SegFinds'. -/
def segFindsCard : Claim7 := { stood := { row := segFindsRow, standIns := [], harness := (true, "2043d85c6e46d741d4fbbdc4b40907132dfcb425101b77815c72a7b1e469a79e"), looks := false }, kinds := [], alts := [], laidByText := true, laidKinds := [.data, .pinned], laidTests := true, laidLooks := .later }
def SegFindsCardSaid : Prop := Claim7.holds Tryd.pinned (.plain (OpenSpec.ofChange segFindsSpec)) segFindsCard

/-- THE TIED CARD OF 'leechbooklaw05.SegWrites'. -/
def segWritesCard : Claim7 := { stood := { row := segWritesRow, standIns := [], harness := (true, "2043d85c6e46d741d4fbbdc4b40907132dfcb425101b77815c72a7b1e469a79e"), looks := false }, kinds := [], alts := [], laidByText := true, laidKinds := [.data, .pinned], laidTests := true, laidLooks := .later }
def SegWritesCardSaid : Prop := Claim7.holds Tryd.pinned (.plain (OpenSpec.ofChange segWritesSpec)) segWritesCard

/-- THE TIED CARD OF 'leechbooklaw05.SegSplits'. -/
def segSplitsCard : Claim7 := { stood := { row := segSplitsRow, standIns := [], harness := (true, "2043d85c6e46d741d4fbbdc4b40907132dfcb425101b77815c72a7b1e469a79e"), looks := false }, kinds := [], alts := [], laidByText := true, laidKinds := [.data, .pinned], laidTests := true, laidLooks := .later }
def SegSplitsCardSaid : Prop := Claim7.holds Tryd.pinned (.plain (OpenSpec.ofChange segSplitsSpec)) segSplitsCard

/-- THE TIED CARD OF 'leechbooklaw05.SegBack'. -/
def segBackCard : Claim7 := { stood := { row := segBackRow, standIns := [], harness := (true, "2043d85c6e46d741d4fbbdc4b40907132dfcb425101b77815c72a7b1e469a79e"), looks := false }, kinds := [], alts := [], laidByText := true, laidKinds := [.data, .pinned], laidTests := true, laidLooks := .later }
def SegBackCardSaid : Prop := Claim7.holds Tryd.pinned (.plain (OpenSpec.ofChange segBackSpec)) segBackCard

/-- THE TIED CARD OF 'leechbooklaw05.SegOnce'. -/
def segOnceCard : Claim7 := { stood := { row := segOnceRow, standIns := [], harness := (true, "2043d85c6e46d741d4fbbdc4b40907132dfcb425101b77815c72a7b1e469a79e"), looks := false }, kinds := [], alts := [], laidByText := true, laidKinds := [.data, .pinned], laidTests := true, laidLooks := .later }
def SegOnceCardSaid : Prop := Claim7.holds Tryd.pinned (.plain (OpenSpec.ofChange segOnceSpec)) segOnceCard

/-- THE TIED CARD OF 'leechbooklaw05.SegJoins'. -/
def segJoinsCard : Claim7 := { stood := { row := segJoinsRow, standIns := [], harness := (true, "2043d85c6e46d741d4fbbdc4b40907132dfcb425101b77815c72a7b1e469a79e"), looks := false }, kinds := [], alts := [], laidByText := true, laidKinds := [.data, .pinned], laidTests := true, laidLooks := .later }
def SegJoinsCardSaid : Prop := Claim7.holds Tryd.pinned (.plain (OpenSpec.ofChange segJoinsSpec)) segJoinsCard

/-- THE SECOND FORM's CARD OF 'leechbooklaw05.SegFinds'. -/
def segFindsUptoCard : Claim7 := { stood := { row := segFindsUptoRow, standIns := [], harness := (true, "2043d85c6e46d741d4fbbdc4b40907132dfcb425101b77815c72a7b1e469a79e"), looks := false }, kinds := [], alts := [], laidByText := true, laidKinds := [.data, .pinned], laidTests := true, laidLooks := .later }
def SegFindsUptoCardSaid : Prop := Claim7.holds Tryd.pinned (.plain (OpenSpec.upto segFindsSpec)) segFindsUptoCard

/-- THE SECOND FORM's CARD OF 'leechbooklaw05.SegWrites'. -/
def segWritesUptoCard : Claim7 := { stood := { row := segWritesUptoRow, standIns := [], harness := (true, "2043d85c6e46d741d4fbbdc4b40907132dfcb425101b77815c72a7b1e469a79e"), looks := false }, kinds := [], alts := [], laidByText := true, laidKinds := [.data, .pinned], laidTests := true, laidLooks := .later }
def SegWritesUptoCardSaid : Prop := Claim7.holds Tryd.pinned (.plain (OpenSpec.upto segWritesSpec)) segWritesUptoCard

/-- THE SECOND FORM's CARD OF 'leechbooklaw05.SegSplits'. -/
def segSplitsUptoCard : Claim7 := { stood := { row := segSplitsUptoRow, standIns := [], harness := (true, "2043d85c6e46d741d4fbbdc4b40907132dfcb425101b77815c72a7b1e469a79e"), looks := false }, kinds := [], alts := [], laidByText := true, laidKinds := [.data, .pinned], laidTests := true, laidLooks := .later }
def SegSplitsUptoCardSaid : Prop := Claim7.holds Tryd.pinned (.plain (OpenSpec.upto segSplitsSpec)) segSplitsUptoCard

/-- THE SECOND FORM's CARD OF 'leechbooklaw05.SegBack'. -/
def segBackUptoCard : Claim7 := { stood := { row := segBackUptoRow, standIns := [], harness := (true, "2043d85c6e46d741d4fbbdc4b40907132dfcb425101b77815c72a7b1e469a79e"), looks := false }, kinds := [], alts := [], laidByText := true, laidKinds := [.data, .pinned], laidTests := true, laidLooks := .later }
def SegBackUptoCardSaid : Prop := Claim7.holds Tryd.pinned (.plain (OpenSpec.upto segBackSpec)) segBackUptoCard

/-- THE SECOND FORM's CARD OF 'leechbooklaw05.SegOnce'. -/
def segOnceUptoCard : Claim7 := { stood := { row := segOnceUptoRow, standIns := [], harness := (true, "2043d85c6e46d741d4fbbdc4b40907132dfcb425101b77815c72a7b1e469a79e"), looks := false }, kinds := [], alts := [], laidByText := true, laidKinds := [.data, .pinned], laidTests := true, laidLooks := .later }
def SegOnceUptoCardSaid : Prop := Claim7.holds Tryd.pinned (.plain (OpenSpec.upto segOnceSpec)) segOnceUptoCard

/-- THE SECOND FORM's CARD OF 'leechbooklaw05.SegJoins'. -/
def segJoinsUptoCard : Claim7 := { stood := { row := segJoinsUptoRow, standIns := [], harness := (true, "2043d85c6e46d741d4fbbdc4b40907132dfcb425101b77815c72a7b1e469a79e"), looks := false }, kinds := [], alts := [], laidByText := true, laidKinds := [.data, .pinned], laidTests := true, laidLooks := .later }
def SegJoinsUptoCardSaid : Prop := Claim7.holds Tryd.pinned (.plain (OpenSpec.upto segJoinsSpec)) segJoinsUptoCard
end Rows
end Go.Proofs.YtclbejgnaphekaaDoor
