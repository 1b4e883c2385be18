/-
  DERIVED. GIVEN WITH THE SEED: THE CARDS: each row of YtfoooldkmokjpaaGreatDoorRows.lean that lists a variable, with what it lists TIED to the program's text (the seventh form; the later family's looks); each row that meets fmt, with fmt's text TOLD by the authors' own Lean function (tested against real Go, not proved from fmt's source: count such statements apart). THE CARD IS WHAT COUNTS. Prove the row's statement (the work); the ties are given (YtfoooldkmokjpaaGreatDoorTie.lean); close each card by the builder's one call (the guide's Derived/Test/ToyasCard.lean, 'card_holds'). Laid BY PROGRAM, IN A SANDBOX (cutbox-door.mjs). By AI agents, Wed Nov 11 2026. No macro, syntax, notation, axiom, sorry.
-/
import Derived.Test.YtfoooldkmokjpaaGreatDoorRows
import GoSem.ClaimSeven
namespace Go.Proofs.YtfoooldkmokjpaaGreatDoor
namespace Rows

/-- THE TIED CARD OF 'leechbooklaw17.JudgeDoes'. -/
def judgeDoesCard : Claim7 := { stood := { row := judgeDoesRow, standIns := [], harness := (true, "203a673702dc739383e77bc5b6f001fe9522524a9effc6b154593a7a6936cfba"), looks := false }, kinds := [], alts := [], laidByText := true, laidKinds := [.data], laidTests := true, laidLooks := .later }
def JudgeDoesCardSaid : Prop := Claim7.holds Tryz.pinned (.plain (OpenSpec.ofChange judgeDoesSpec)) judgeDoesCard

/-- THE TIED CARD OF 'leechbooklaw17.JudgeBalances'. -/
def judgeBalancesCard : Claim7 := { stood := { row := judgeBalancesRow, standIns := [], harness := (true, "203a673702dc739383e77bc5b6f001fe9522524a9effc6b154593a7a6936cfba"), looks := false }, kinds := [], alts := [], laidByText := true, laidKinds := [.data], laidTests := true, laidLooks := .later }
def JudgeBalancesCardSaid : Prop := Claim7.holds Tryz.pinned (.plain (OpenSpec.ofChange judgeBalancesSpec)) judgeBalancesCard

/-- THE TIED CARD OF 'leechbooklaw17.JudgeLimits'. -/
def judgeLimitsCard : Claim7 := { stood := { row := judgeLimitsRow, standIns := [], harness := (true, "203a673702dc739383e77bc5b6f001fe9522524a9effc6b154593a7a6936cfba"), looks := false }, kinds := [], alts := [], laidByText := true, laidKinds := [.data], laidTests := true, laidLooks := .later }
def JudgeLimitsCardSaid : Prop := Claim7.holds Tryz.pinned (.plain (OpenSpec.ofChange judgeLimitsSpec)) judgeLimitsCard

/-- THE TIED CARD OF 'leechbooklaw17.JudgeMet'. -/
def judgeMetCard : Claim7 := { stood := { row := judgeMetRow, standIns := [], harness := (true, "203a673702dc739383e77bc5b6f001fe9522524a9effc6b154593a7a6936cfba"), looks := false }, kinds := [], alts := [], laidByText := true, laidKinds := [.data], laidTests := true, laidLooks := .later }
def JudgeMetCardSaid : Prop := Claim7.holds Tryz.pinned (.plain (OpenSpec.ofChange judgeMetSpec)) judgeMetCard

/-- THE TIED CARD OF 'leechbooklaw17.JudgeParts'. -/
def judgePartsCard : Claim7 := { stood := { row := judgePartsRow, standIns := [], harness := (true, "203a673702dc739383e77bc5b6f001fe9522524a9effc6b154593a7a6936cfba"), looks := false }, kinds := [], alts := [], laidByText := true, laidKinds := [.data], laidTests := true, laidLooks := .later }
def JudgePartsCardSaid : Prop := Claim7.holds Tryz.pinned (.plain (OpenSpec.ofChange judgePartsSpec)) judgePartsCard

/-- THE TIED CARD OF 'leechbooklaw17.JudgeOwn'. -/
def judgeOwnCard : Claim7 := { stood := { row := judgeOwnRow, standIns := [], harness := (true, "203a673702dc739383e77bc5b6f001fe9522524a9effc6b154593a7a6936cfba"), looks := false }, kinds := [], alts := [], laidByText := true, laidKinds := [.data], laidTests := true, laidLooks := .later }
def JudgeOwnCardSaid : Prop := Claim7.holds Tryz.pinned (.plain (OpenSpec.ofChange judgeOwnSpec)) judgeOwnCard

/-- THE SECOND FORM's CARD OF 'leechbooklaw17.JudgeDoes'. -/
def judgeDoesUptoCard : Claim7 := { stood := { row := judgeDoesUptoRow, standIns := [], harness := (true, "203a673702dc739383e77bc5b6f001fe9522524a9effc6b154593a7a6936cfba"), looks := false }, kinds := [], alts := [], laidByText := true, laidKinds := [.data], laidTests := true, laidLooks := .later }
def JudgeDoesUptoCardSaid : Prop := Claim7.holds Tryz.pinned (.plain (OpenSpec.upto judgeDoesSpec)) judgeDoesUptoCard

/-- THE SECOND FORM's CARD OF 'leechbooklaw17.JudgeBalances'. -/
def judgeBalancesUptoCard : Claim7 := { stood := { row := judgeBalancesUptoRow, standIns := [], harness := (true, "203a673702dc739383e77bc5b6f001fe9522524a9effc6b154593a7a6936cfba"), looks := false }, kinds := [], alts := [], laidByText := true, laidKinds := [.data], laidTests := true, laidLooks := .later }
def JudgeBalancesUptoCardSaid : Prop := Claim7.holds Tryz.pinned (.plain (OpenSpec.upto judgeBalancesSpec)) judgeBalancesUptoCard

/-- THE SECOND FORM's CARD OF 'leechbooklaw17.JudgeLimits'. -/
def judgeLimitsUptoCard : Claim7 := { stood := { row := judgeLimitsUptoRow, standIns := [], harness := (true, "203a673702dc739383e77bc5b6f001fe9522524a9effc6b154593a7a6936cfba"), looks := false }, kinds := [], alts := [], laidByText := true, laidKinds := [.data], laidTests := true, laidLooks := .later }
def JudgeLimitsUptoCardSaid : Prop := Claim7.holds Tryz.pinned (.plain (OpenSpec.upto judgeLimitsSpec)) judgeLimitsUptoCard

/-- THE SECOND FORM's CARD OF 'leechbooklaw17.JudgeMet'. -/
def judgeMetUptoCard : Claim7 := { stood := { row := judgeMetUptoRow, standIns := [], harness := (true, "203a673702dc739383e77bc5b6f001fe9522524a9effc6b154593a7a6936cfba"), looks := false }, kinds := [], alts := [], laidByText := true, laidKinds := [.data], laidTests := true, laidLooks := .later }
def JudgeMetUptoCardSaid : Prop := Claim7.holds Tryz.pinned (.plain (OpenSpec.upto judgeMetSpec)) judgeMetUptoCard

/-- THE SECOND FORM's CARD OF 'leechbooklaw17.JudgeParts'. -/
def judgePartsUptoCard : Claim7 := { stood := { row := judgePartsUptoRow, standIns := [], harness := (true, "203a673702dc739383e77bc5b6f001fe9522524a9effc6b154593a7a6936cfba"), looks := false }, kinds := [], alts := [], laidByText := true, laidKinds := [.data], laidTests := true, laidLooks := .later }
def JudgePartsUptoCardSaid : Prop := Claim7.holds Tryz.pinned (.plain (OpenSpec.upto judgePartsSpec)) judgePartsUptoCard

/-- THE SECOND FORM's CARD OF 'leechbooklaw17.JudgeOwn'. -/
def judgeOwnUptoCard : Claim7 := { stood := { row := judgeOwnUptoRow, standIns := [], harness := (true, "203a673702dc739383e77bc5b6f001fe9522524a9effc6b154593a7a6936cfba"), looks := false }, kinds := [], alts := [], laidByText := true, laidKinds := [.data], laidTests := true, laidLooks := .later }
def JudgeOwnUptoCardSaid : Prop := Claim7.holds Tryz.pinned (.plain (OpenSpec.upto judgeOwnSpec)) judgeOwnUptoCard
end Rows
end Go.Proofs.YtfoooldkmokjpaaGreatDoor
