/-
  NARROWER THAN 'FOR EVERY INPUT', by the rows' own cells (each row's printed sentence says how): JudgeDoes: loops, laid · JudgeLimits: loops, laid · JudgeOwn: loops, laid · JudgeOut: loops, laid.
  DERIVED. THE GIVEN ROWS OF THIS SEAT. 4 by the template 'for every input the law returns true; each argument reads behind the call as it read before'; 0 by the template 'total and deterministic' (their statements: YtfbfeoplldjbpaaGreatDoorTotals.lean).
  GIVEN WITH THE SEED: the statements are not yours to turn. If you find one false, say at which input.
  Laid BY PROGRAM, IN A SANDBOX (cutbox-rows.mjs): the forced cells as the released guide's own fill.sh prints them over the translation 8c84ed3dd3d95fc2… (all of the seat's roots in one cut). By AI agents, Wed Nov 11 2026. No macro, syntax, notation, axiom, sorry.
-/
import Derived.Test.YtfbfeoplldjbpaaGreatDoorChecked
import GoSem.Claim
import GoSem.ClaimJoined
import GoSem.ClaimMapViews
import Derived.JoinedTies
import Derived.KernelRfl
namespace Go.Proofs.YtfbfeoplldjbpaaGreatDoor
/- THE CELL 'sum', in the pinned program and in every row, IS THE sha256 OF THE DUMP (.gsa) THAT YtfbfeoplldjbpaaGreatDoorProg.lean LOADS. Nothing in Lean hashes anything: it is a label: what it is worth is what the hold of that sum in a sandbox is worth. -/
noncomputable def Tryz.pinned : Pinned := { name := "ytfbfeoplldjbpaagreatdoor", sum := "8c84ed3dd3d95fc2182310996ecf7813744aa9144fd2d0760d43344da52b550a", checked := Tryz.checked }
namespace Rows
def none {H : Type} : Left H := { results := [], args := [] }

/- WHAT THE LISTED PACKAGE-LEVEL VARIABLES READ AS WHEN THE CALL BEGINS. Each datum BY PROGRAM (the guide's laid-datum.mjs) off the statement by which the dump's own 'gosem.cut.vars' lays the variable. In a bare row this is a premise. The card (YtfbfeoplldjbpaaGreatDoorCards.lean) ties it to the program's text. -/
def laid_leechbook_date_lengths {H : Type} : DataW H := .agg [.lit (.int .i64 31), .lit (.int .i64 28), .lit (.int .i64 31), .lit (.int .i64 30), .lit (.int .i64 31), .lit (.int .i64 30), .lit (.int .i64 31), .lit (.int .i64 31), .lit (.int .i64 30), .lit (.int .i64 31), .lit (.int .i64 30), .lit (.int .i64 31)]

/-- 'leechbooklaw17.JudgeDoes': WHATEVER THE INPUT: true; the input reads as it did. -/
def judgeDoesSpec : ChangeSpec := { name := "judgeDoes", fn := fun _ => fun
  | [d1, d2, d3, d4] => { results := [.lit (.bool true)], args := [d1, d2, d3, d4] }
  | _ => none }
def judgeDoesRow : OpenClaim := { program := "ytfbfeoplldjbpaagreatdoor", sum := "8c84ed3dd3d95fc2182310996ecf7813744aa9144fd2d0760d43344da52b550a", func := "leechbook/leechbooklaw17.JudgeDoes", spec := "judgeDoes", inPlace := ["slices.overlaps[leechbook/api.Acc]"], unfollowed := true, recurses := true, named := ["leechbook/date.lengths", "math/bits.divideError", "math/bits.overflowError"], loops := true, apart := false, laid := [("leechbook/date.lengths", laid_leechbook_date_lengths)] }
def JudgeDoesSaid : Prop := judgeDoesRow.holds Tryz.pinned (OpenSpec.ofChange judgeDoesSpec)

/-- ITS FALSE NEIGHBOUR: 'it returns false'. Refute it at one input. -/
def judgeDoesWrong : ChangeSpec := { name := "judgeDoes", fn := fun _ => fun
  | [d1, d2, d3, d4] => { results := [.lit (.bool false)], args := [d1, d2, d3, d4] }
  | _ => none }
def JudgeDoesWrongFalsely : Prop := judgeDoesRow.holds Tryz.pinned (OpenSpec.ofChange judgeDoesWrong)

/-- 'leechbooklaw17.JudgeLimits': WHATEVER THE INPUT: true; the input reads as it did. -/
def judgeLimitsSpec : ChangeSpec := { name := "judgeLimits", fn := fun _ => fun
  | [d1, d2, d3, d4] => { results := [.lit (.bool true)], args := [d1, d2, d3, d4] }
  | _ => none }
def judgeLimitsRow : OpenClaim := { program := "ytfbfeoplldjbpaagreatdoor", sum := "8c84ed3dd3d95fc2182310996ecf7813744aa9144fd2d0760d43344da52b550a", func := "leechbook/leechbooklaw17.JudgeLimits", spec := "judgeLimits", inPlace := ["slices.overlaps[leechbook/api.Acc]"], unfollowed := true, recurses := true, named := ["leechbook/date.lengths", "math/bits.divideError", "math/bits.overflowError"], loops := true, apart := false, laid := [("leechbook/date.lengths", laid_leechbook_date_lengths)] }
def JudgeLimitsSaid : Prop := judgeLimitsRow.holds Tryz.pinned (OpenSpec.ofChange judgeLimitsSpec)

/-- ITS FALSE NEIGHBOUR: 'it returns false'. Refute it at one input. -/
def judgeLimitsWrong : ChangeSpec := { name := "judgeLimits", fn := fun _ => fun
  | [d1, d2, d3, d4] => { results := [.lit (.bool false)], args := [d1, d2, d3, d4] }
  | _ => none }
def JudgeLimitsWrongFalsely : Prop := judgeLimitsRow.holds Tryz.pinned (OpenSpec.ofChange judgeLimitsWrong)

/-- 'leechbooklaw17.JudgeOwn': WHATEVER THE INPUT: true; the input reads as it did. -/
def judgeOwnSpec : ChangeSpec := { name := "judgeOwn", fn := fun _ => fun
  | [d1, d2, d3, d4] => { results := [.lit (.bool true)], args := [d1, d2, d3, d4] }
  | _ => none }
def judgeOwnRow : OpenClaim := { program := "ytfbfeoplldjbpaagreatdoor", sum := "8c84ed3dd3d95fc2182310996ecf7813744aa9144fd2d0760d43344da52b550a", func := "leechbook/leechbooklaw17.JudgeOwn", spec := "judgeOwn", inPlace := ["slices.overlaps[leechbook/api.Acc]"], unfollowed := true, recurses := true, named := ["leechbook/date.lengths", "math/bits.divideError", "math/bits.overflowError"], loops := true, apart := false, laid := [("leechbook/date.lengths", laid_leechbook_date_lengths)] }
def JudgeOwnSaid : Prop := judgeOwnRow.holds Tryz.pinned (OpenSpec.ofChange judgeOwnSpec)

/-- ITS FALSE NEIGHBOUR: 'it returns false'. Refute it at one input. -/
def judgeOwnWrong : ChangeSpec := { name := "judgeOwn", fn := fun _ => fun
  | [d1, d2, d3, d4] => { results := [.lit (.bool false)], args := [d1, d2, d3, d4] }
  | _ => none }
def JudgeOwnWrongFalsely : Prop := judgeOwnRow.holds Tryz.pinned (OpenSpec.ofChange judgeOwnWrong)

/-- 'leechbooklaw17.JudgeOut': WHATEVER THE INPUT: true; the input reads as it did. -/
def judgeOutSpec : ChangeSpec := { name := "judgeOut", fn := fun _ => fun
  | [d1, d2, d3, d4] => { results := [.lit (.bool true)], args := [d1, d2, d3, d4] }
  | _ => none }
def judgeOutRow : OpenClaim := { program := "ytfbfeoplldjbpaagreatdoor", sum := "8c84ed3dd3d95fc2182310996ecf7813744aa9144fd2d0760d43344da52b550a", func := "leechbook/leechbooklaw17.JudgeOut", spec := "judgeOut", inPlace := ["slices.overlaps[leechbook/api.Acc]"], unfollowed := true, recurses := true, named := ["leechbook/date.lengths", "math/bits.divideError", "math/bits.overflowError"], loops := true, apart := false, laid := [("leechbook/date.lengths", laid_leechbook_date_lengths)] }
def JudgeOutSaid : Prop := judgeOutRow.holds Tryz.pinned (OpenSpec.ofChange judgeOutSpec)

/-- ITS FALSE NEIGHBOUR: 'it returns false'. Refute it at one input. -/
def judgeOutWrong : ChangeSpec := { name := "judgeOut", fn := fun _ => fun
  | [d1, d2, d3, d4] => { results := [.lit (.bool false)], args := [d1, d2, d3, d4] }
  | _ => none }
def JudgeOutWrongFalsely : Prop := judgeOutRow.holds Tryz.pinned (OpenSpec.ofChange judgeOutWrong)

/- THE SECOND FORM. 'bulk': how many values and letters a reading holds, each counted each time it is reached (what is shared counts as often as it is met; a slice's spare places count too). A statement '..UptoSaid' is the law's where the arguments, and the package variables that the reading takes, are together of bulk at most 1048576: NARROWER than '..Said'. Prove '..Said' where nothing that the law and all that it calls make is longer than what came in: it says more and counts as full. Else prove '..UptoSaid'. A law counts once. -/
mutual
def uptoBulk {H : Type} : DataW H → Nat
  | .lit (.string bytes) => bytes.length + 1
  | .lit _ => 1
  | .nil => 1
  | .ptr d => uptoBulk d + 1
  | .slice elems spare => uptoBulkAll elems + uptoBulkAll spare + 1
  | .agg parts => uptoBulkAll parts + 1
  | .iface _ d => uptoBulk d + 1
  | .map entries => uptoBulkEntries entries + 1
  | .held _ => 1
def uptoBulkAll {H : Type} : List (DataW H) → Nat
  | [] => 0
  | d :: r => uptoBulk d + uptoBulkAll r
def uptoBulkEntries {H : Type} : List (Lit × DataW H) → Nat
  | [] => 0
  | x :: r => uptoBulkEntry x + uptoBulkEntries r
def uptoBulkEntry {H : Type} : Lit × DataW H → Nat
  | (.string bytes, d) => bytes.length + uptoBulk d + 1
  | (_, d) => uptoBulk d + 1
 end
def uptoSmall : (H : Type) → List (DataW H) → Bool := fun _ ds => decide (uptoBulkAll ds ≤ 1048576)
def OpenSpec.upto (s : _root_.Go.ChangeSpec) : _root_.Go.OpenSpec := { _root_.Go.OpenSpec.ofChange s with cond := some uptoSmall }

/-- 'leechbooklaw17.JudgeDoes', WHERE WHAT IT READS IS OF BULK AT MOST 1048576: true; the input reads as it did. -/
def judgeDoesUptoRow : OpenClaim := { program := "ytfbfeoplldjbpaagreatdoor", sum := "8c84ed3dd3d95fc2182310996ecf7813744aa9144fd2d0760d43344da52b550a", func := "leechbook/leechbooklaw17.JudgeDoes", spec := "judgeDoes", inPlace := ["slices.overlaps[leechbook/api.Acc]"], unfollowed := true, recurses := true, named := ["leechbook/date.lengths", "math/bits.divideError", "math/bits.overflowError"], loops := true, apart := false, laid := [("leechbook/date.lengths", laid_leechbook_date_lengths)], narrowed := true }
def JudgeDoesUptoSaid : Prop := judgeDoesUptoRow.holds Tryz.pinned (OpenSpec.upto judgeDoesSpec)

/-- 'leechbooklaw17.JudgeLimits', WHERE WHAT IT READS IS OF BULK AT MOST 1048576: true; the input reads as it did. -/
def judgeLimitsUptoRow : OpenClaim := { program := "ytfbfeoplldjbpaagreatdoor", sum := "8c84ed3dd3d95fc2182310996ecf7813744aa9144fd2d0760d43344da52b550a", func := "leechbook/leechbooklaw17.JudgeLimits", spec := "judgeLimits", inPlace := ["slices.overlaps[leechbook/api.Acc]"], unfollowed := true, recurses := true, named := ["leechbook/date.lengths", "math/bits.divideError", "math/bits.overflowError"], loops := true, apart := false, laid := [("leechbook/date.lengths", laid_leechbook_date_lengths)], narrowed := true }
def JudgeLimitsUptoSaid : Prop := judgeLimitsUptoRow.holds Tryz.pinned (OpenSpec.upto judgeLimitsSpec)

/-- 'leechbooklaw17.JudgeOwn', WHERE WHAT IT READS IS OF BULK AT MOST 1048576: true; the input reads as it did. -/
def judgeOwnUptoRow : OpenClaim := { program := "ytfbfeoplldjbpaagreatdoor", sum := "8c84ed3dd3d95fc2182310996ecf7813744aa9144fd2d0760d43344da52b550a", func := "leechbook/leechbooklaw17.JudgeOwn", spec := "judgeOwn", inPlace := ["slices.overlaps[leechbook/api.Acc]"], unfollowed := true, recurses := true, named := ["leechbook/date.lengths", "math/bits.divideError", "math/bits.overflowError"], loops := true, apart := false, laid := [("leechbook/date.lengths", laid_leechbook_date_lengths)], narrowed := true }
def JudgeOwnUptoSaid : Prop := judgeOwnUptoRow.holds Tryz.pinned (OpenSpec.upto judgeOwnSpec)

/-- 'leechbooklaw17.JudgeOut', WHERE WHAT IT READS IS OF BULK AT MOST 1048576: true; the input reads as it did. -/
def judgeOutUptoRow : OpenClaim := { program := "ytfbfeoplldjbpaagreatdoor", sum := "8c84ed3dd3d95fc2182310996ecf7813744aa9144fd2d0760d43344da52b550a", func := "leechbook/leechbooklaw17.JudgeOut", spec := "judgeOut", inPlace := ["slices.overlaps[leechbook/api.Acc]"], unfollowed := true, recurses := true, named := ["leechbook/date.lengths", "math/bits.divideError", "math/bits.overflowError"], loops := true, apart := false, laid := [("leechbook/date.lengths", laid_leechbook_date_lengths)], narrowed := true }
def JudgeOutUptoSaid : Prop := judgeOutUptoRow.holds Tryz.pinned (OpenSpec.upto judgeOutSpec)

end Rows
end Go.Proofs.YtfbfeoplldjbpaaGreatDoor
