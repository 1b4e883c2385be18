/-
  DERIVED. GIVEN WITH THE SEED: THE CARDS: each row of YtfbfeoplldjbpaaGreatDoorRows.lean that lists a variable, with what it lists TIED to the program's text (the seventh form; the later family's looks); each row that meets fmt, with fmt's text TOLD by the authors' own Lean function (tested against real Go, not proved from fmt's source: count such statements apart). THE CARD IS WHAT COUNTS. Prove the row's statement (the work); the ties are given (YtfbfeoplldjbpaaGreatDoorTie.lean); close each card by the builder's one call (the guide's Derived/Test/ToyasCard.lean, 'card_holds'). Laid BY PROGRAM, IN A SANDBOX (cutbox-door.mjs). By AI agents, Wed Nov 11 2026. No macro, syntax, notation, axiom, sorry.
-/
import Derived.Test.YtfbfeoplldjbpaaGreatDoorRows
import GoSem.ClaimSeven
namespace Go.Proofs.YtfbfeoplldjbpaaGreatDoor
namespace Rows

/-- THE TIED CARD OF 'leechbooklaw17.JudgeDoes'. -/
def judgeDoesCard : Claim7 := { stood := { row := judgeDoesRow, standIns := [], harness := (true, "a7234eaa9ffd422425590d7ea42e97148f15fc950a71eabb14290e7ec31fcac2"), looks := false }, kinds := [], alts := [], laidByText := true, laidKinds := [.data], laidTests := true, laidLooks := .later }
def JudgeDoesCardSaid : Prop := Claim7.holds Tryz.pinned (.plain (OpenSpec.ofChange judgeDoesSpec)) judgeDoesCard

/-- THE TIED CARD OF 'leechbooklaw17.JudgeLimits'. -/
def judgeLimitsCard : Claim7 := { stood := { row := judgeLimitsRow, standIns := [], harness := (true, "a7234eaa9ffd422425590d7ea42e97148f15fc950a71eabb14290e7ec31fcac2"), looks := false }, kinds := [], alts := [], laidByText := true, laidKinds := [.data], laidTests := true, laidLooks := .later }
def JudgeLimitsCardSaid : Prop := Claim7.holds Tryz.pinned (.plain (OpenSpec.ofChange judgeLimitsSpec)) judgeLimitsCard

/-- THE TIED CARD OF 'leechbooklaw17.JudgeOwn'. -/
def judgeOwnCard : Claim7 := { stood := { row := judgeOwnRow, standIns := [], harness := (true, "a7234eaa9ffd422425590d7ea42e97148f15fc950a71eabb14290e7ec31fcac2"), looks := false }, kinds := [], alts := [], laidByText := true, laidKinds := [.data], laidTests := true, laidLooks := .later }
def JudgeOwnCardSaid : Prop := Claim7.holds Tryz.pinned (.plain (OpenSpec.ofChange judgeOwnSpec)) judgeOwnCard

/-- THE TIED CARD OF 'leechbooklaw17.JudgeOut'. -/
def judgeOutCard : Claim7 := { stood := { row := judgeOutRow, standIns := [], harness := (true, "a7234eaa9ffd422425590d7ea42e97148f15fc950a71eabb14290e7ec31fcac2"), looks := false }, kinds := [], alts := [], laidByText := true, laidKinds := [.data], laidTests := true, laidLooks := .later }
def JudgeOutCardSaid : Prop := Claim7.holds Tryz.pinned (.plain (OpenSpec.ofChange judgeOutSpec)) judgeOutCard

/-- THE SECOND FORM's CARD OF 'leechbooklaw17.JudgeDoes'. -/
def judgeDoesUptoCard : Claim7 := { stood := { row := judgeDoesUptoRow, standIns := [], harness := (true, "a7234eaa9ffd422425590d7ea42e97148f15fc950a71eabb14290e7ec31fcac2"), looks := false }, kinds := [], alts := [], laidByText := true, laidKinds := [.data], laidTests := true, laidLooks := .later }
def JudgeDoesUptoCardSaid : Prop := Claim7.holds Tryz.pinned (.plain (OpenSpec.upto judgeDoesSpec)) judgeDoesUptoCard

/-- THE SECOND FORM's CARD OF 'leechbooklaw17.JudgeLimits'. -/
def judgeLimitsUptoCard : Claim7 := { stood := { row := judgeLimitsUptoRow, standIns := [], harness := (true, "a7234eaa9ffd422425590d7ea42e97148f15fc950a71eabb14290e7ec31fcac2"), looks := false }, kinds := [], alts := [], laidByText := true, laidKinds := [.data], laidTests := true, laidLooks := .later }
def JudgeLimitsUptoCardSaid : Prop := Claim7.holds Tryz.pinned (.plain (OpenSpec.upto judgeLimitsSpec)) judgeLimitsUptoCard

/-- THE SECOND FORM's CARD OF 'leechbooklaw17.JudgeOwn'. -/
def judgeOwnUptoCard : Claim7 := { stood := { row := judgeOwnUptoRow, standIns := [], harness := (true, "a7234eaa9ffd422425590d7ea42e97148f15fc950a71eabb14290e7ec31fcac2"), looks := false }, kinds := [], alts := [], laidByText := true, laidKinds := [.data], laidTests := true, laidLooks := .later }
def JudgeOwnUptoCardSaid : Prop := Claim7.holds Tryz.pinned (.plain (OpenSpec.upto judgeOwnSpec)) judgeOwnUptoCard

/-- THE SECOND FORM's CARD OF 'leechbooklaw17.JudgeOut'. -/
def judgeOutUptoCard : Claim7 := { stood := { row := judgeOutUptoRow, standIns := [], harness := (true, "a7234eaa9ffd422425590d7ea42e97148f15fc950a71eabb14290e7ec31fcac2"), looks := false }, kinds := [], alts := [], laidByText := true, laidKinds := [.data], laidTests := true, laidLooks := .later }
def JudgeOutUptoCardSaid : Prop := Claim7.holds Tryz.pinned (.plain (OpenSpec.upto judgeOutSpec)) judgeOutUptoCard
end Rows
end Go.Proofs.YtfbfeoplldjbpaaGreatDoor
