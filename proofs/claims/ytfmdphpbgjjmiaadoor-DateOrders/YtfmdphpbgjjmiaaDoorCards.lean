/-
  DERIVED. GIVEN WITH THE SEED: THE CARDS: each row of YtfmdphpbgjjmiaaDoorRows.lean that lists a variable, with what it lists TIED to the program's text (the seventh form; the later family's looks); each row that meets fmt, with fmt's text TOLD by the authors' own Lean function (tested against real Go, not proved from fmt's source: count such statements apart). THE CARD IS WHAT COUNTS. Prove the row's statement (the work); the ties are given (YtfmdphpbgjjmiaaDoorTie.lean); close each card by the builder's one call (the guide's Derived/Test/ToyasCard.lean, 'card_holds'). Laid BY PROGRAM, IN A SANDBOX (cutbox-door.mjs). By AI agents, Wed Nov 11 2026. No macro, syntax, notation, axiom, sorry.
-/
import Derived.Test.YtfmdphpbgjjmiaaDoorRows
import GoSem.ClaimSeven
namespace Go.Proofs.YtfmdphpbgjjmiaaDoor
namespace Rows

/-- THE TIED CARD OF 'leechbooklaw02.DateKnows'. -/
def dateKnowsCard : Claim7 := { stood := { row := dateKnowsRow, standIns := [], harness := (true, "63c48125a8c9f50405a96ab8dd3449818a88f5ca498298db72444af39c6b85e7"), looks := false }, kinds := [], alts := [], laidByText := true, laidKinds := [.data], laidTests := true, laidLooks := .later }
def DateKnowsCardSaid : Prop := Claim7.holds Tryd.pinned (.plain (OpenSpec.ofChange dateKnowsSpec)) dateKnowsCard

/-- THE TIED CARD OF 'leechbooklaw02.DateCounts'. -/
def dateCountsCard : Claim7 := { stood := { row := dateCountsRow, standIns := [], harness := (true, "63c48125a8c9f50405a96ab8dd3449818a88f5ca498298db72444af39c6b85e7"), looks := false }, kinds := [], alts := [], laidByText := true, laidKinds := [.data], laidTests := true, laidLooks := .later }
def DateCountsCardSaid : Prop := Claim7.holds Tryd.pinned (.plain (OpenSpec.ofChange dateCountsSpec)) dateCountsCard

/-- THE TIED CARD OF 'leechbooklaw02.DateBack'. -/
def dateBackCard : Claim7 := { stood := { row := dateBackRow, standIns := [], harness := (true, "63c48125a8c9f50405a96ab8dd3449818a88f5ca498298db72444af39c6b85e7"), looks := false }, kinds := [], alts := [], laidByText := true, laidKinds := [.data], laidTests := true, laidLooks := .later }
def DateBackCardSaid : Prop := Claim7.holds Tryd.pinned (.plain (OpenSpec.ofChange dateBackSpec)) dateBackCard

/-- THE TIED CARD OF 'leechbooklaw02.DateOrders'. -/
def dateOrdersCard : Claim7 := { stood := { row := dateOrdersRow, standIns := [], harness := (true, "63c48125a8c9f50405a96ab8dd3449818a88f5ca498298db72444af39c6b85e7"), looks := false }, kinds := [], alts := [], laidByText := true, laidKinds := [.data], laidTests := true, laidLooks := .later }
def DateOrdersCardSaid : Prop := Claim7.holds Tryd.pinned (.plain (OpenSpec.ofChange dateOrdersSpec)) dateOrdersCard

/-- THE TIED CARD OF 'leechbooklaw02.DateWeeks'. -/
def dateWeeksCard : Claim7 := { stood := { row := dateWeeksRow, standIns := [], harness := (true, "63c48125a8c9f50405a96ab8dd3449818a88f5ca498298db72444af39c6b85e7"), looks := false }, kinds := [], alts := [], laidByText := true, laidKinds := [.data], laidTests := true, laidLooks := .later }
def DateWeeksCardSaid : Prop := Claim7.holds Tryd.pinned (.plain (OpenSpec.ofChange dateWeeksSpec)) dateWeeksCard

/-- THE TIED CARD OF 'leechbooklaw02.DateSteps'. -/
def dateStepsCard : Claim7 := { stood := { row := dateStepsRow, standIns := [], harness := (true, "63c48125a8c9f50405a96ab8dd3449818a88f5ca498298db72444af39c6b85e7"), looks := false }, kinds := [], alts := [], laidByText := true, laidKinds := [.data], laidTests := true, laidLooks := .later }
def DateStepsCardSaid : Prop := Claim7.holds Tryd.pinned (.plain (OpenSpec.ofChange dateStepsSpec)) dateStepsCard

/-- THE SECOND FORM's CARD OF 'leechbooklaw02.DateKnows'. -/
def dateKnowsUptoCard : Claim7 := { stood := { row := dateKnowsUptoRow, standIns := [], harness := (true, "63c48125a8c9f50405a96ab8dd3449818a88f5ca498298db72444af39c6b85e7"), looks := false }, kinds := [], alts := [], laidByText := true, laidKinds := [.data], laidTests := true, laidLooks := .later }
def DateKnowsUptoCardSaid : Prop := Claim7.holds Tryd.pinned (.plain (OpenSpec.upto dateKnowsSpec)) dateKnowsUptoCard

/-- THE SECOND FORM's CARD OF 'leechbooklaw02.DateCounts'. -/
def dateCountsUptoCard : Claim7 := { stood := { row := dateCountsUptoRow, standIns := [], harness := (true, "63c48125a8c9f50405a96ab8dd3449818a88f5ca498298db72444af39c6b85e7"), looks := false }, kinds := [], alts := [], laidByText := true, laidKinds := [.data], laidTests := true, laidLooks := .later }
def DateCountsUptoCardSaid : Prop := Claim7.holds Tryd.pinned (.plain (OpenSpec.upto dateCountsSpec)) dateCountsUptoCard

/-- THE SECOND FORM's CARD OF 'leechbooklaw02.DateBack'. -/
def dateBackUptoCard : Claim7 := { stood := { row := dateBackUptoRow, standIns := [], harness := (true, "63c48125a8c9f50405a96ab8dd3449818a88f5ca498298db72444af39c6b85e7"), looks := false }, kinds := [], alts := [], laidByText := true, laidKinds := [.data], laidTests := true, laidLooks := .later }
def DateBackUptoCardSaid : Prop := Claim7.holds Tryd.pinned (.plain (OpenSpec.upto dateBackSpec)) dateBackUptoCard

/-- THE SECOND FORM's CARD OF 'leechbooklaw02.DateOrders'. -/
def dateOrdersUptoCard : Claim7 := { stood := { row := dateOrdersUptoRow, standIns := [], harness := (true, "63c48125a8c9f50405a96ab8dd3449818a88f5ca498298db72444af39c6b85e7"), looks := false }, kinds := [], alts := [], laidByText := true, laidKinds := [.data], laidTests := true, laidLooks := .later }
def DateOrdersUptoCardSaid : Prop := Claim7.holds Tryd.pinned (.plain (OpenSpec.upto dateOrdersSpec)) dateOrdersUptoCard

/-- THE SECOND FORM's CARD OF 'leechbooklaw02.DateWeeks'. -/
def dateWeeksUptoCard : Claim7 := { stood := { row := dateWeeksUptoRow, standIns := [], harness := (true, "63c48125a8c9f50405a96ab8dd3449818a88f5ca498298db72444af39c6b85e7"), looks := false }, kinds := [], alts := [], laidByText := true, laidKinds := [.data], laidTests := true, laidLooks := .later }
def DateWeeksUptoCardSaid : Prop := Claim7.holds Tryd.pinned (.plain (OpenSpec.upto dateWeeksSpec)) dateWeeksUptoCard

/-- THE SECOND FORM's CARD OF 'leechbooklaw02.DateSteps'. -/
def dateStepsUptoCard : Claim7 := { stood := { row := dateStepsUptoRow, standIns := [], harness := (true, "63c48125a8c9f50405a96ab8dd3449818a88f5ca498298db72444af39c6b85e7"), looks := false }, kinds := [], alts := [], laidByText := true, laidKinds := [.data], laidTests := true, laidLooks := .later }
def DateStepsUptoCardSaid : Prop := Claim7.holds Tryd.pinned (.plain (OpenSpec.upto dateStepsSpec)) dateStepsUptoCard
end Rows
end Go.Proofs.YtfmdphpbgjjmiaaDoor
