/-
  NARROWER THAN 'FOR EVERY INPUT', by the rows' own cells (each row's printed sentence says how): DateKnows: laid · DateCounts: laid · DateBack: laid · DateOrders: laid · DateWeeks: laid · DateSteps: laid.
  DERIVED. THE GIVEN ROWS OF THIS SEAT. 6 by the template 'for every input the law returns true; each argument reads behind the call as it read before'; 0 by the template 'total and deterministic' (their statements: YtfmdphpbgjjmiaaDoorTotals.lean).
  GIVEN WITH THE SEED: the statements are not yours to turn. If you find one false, say at which input.
  Laid BY PROGRAM, IN A SANDBOX (cutbox-rows.mjs): the forced cells as the released guide's own fill.sh prints them over the translation d2afb1836b2eccf7… (all of the seat's roots in one cut). By AI agents, Wed Nov 11 2026. No macro, syntax, notation, axiom, sorry.
-/
import Derived.Test.YtfmdphpbgjjmiaaDoorChecked
import GoSem.Claim
import GoSem.ClaimJoined
import GoSem.ClaimMapViews
import Derived.JoinedTies
import Derived.KernelRfl
namespace Go.Proofs.YtfmdphpbgjjmiaaDoor
/- THE CELL 'sum', in the pinned program and in every row, IS THE sha256 OF THE DUMP (.gsa) THAT YtfmdphpbgjjmiaaDoorProg.lean LOADS. Nothing in Lean hashes anything: it is a label: what it is worth is what the hold of that sum in a sandbox is worth. -/
noncomputable def Tryd.pinned : Pinned := { name := "ytfmdphpbgjjmiaadoor", sum := "d2afb1836b2eccf7dfe6163360a34059b5ee01dcc22067af6cbba7cdad291fae", checked := Tryd.checked }
namespace Rows
def none {H : Type} : Left H := { results := [], args := [] }

/- WHAT THE LISTED PACKAGE-LEVEL VARIABLES READ AS WHEN THE CALL BEGINS. Each datum BY PROGRAM (the guide's laid-datum.mjs) off the statement by which the dump's own 'gosem.cut.vars' lays the variable. In a bare row this is a premise. The card (YtfmdphpbgjjmiaaDoorCards.lean) ties it to the program's text. -/
def laid_leechbook_date_lengths {H : Type} : DataW H := .agg [.lit (.int .i64 31), .lit (.int .i64 28), .lit (.int .i64 31), .lit (.int .i64 30), .lit (.int .i64 31), .lit (.int .i64 30), .lit (.int .i64 31), .lit (.int .i64 31), .lit (.int .i64 30), .lit (.int .i64 31), .lit (.int .i64 30), .lit (.int .i64 31)]

/-- 'leechbooklaw02.DateKnows': WHATEVER THE INPUT: true; the input reads as it did. -/
def dateKnowsSpec : ChangeSpec := { name := "dateKnows", fn := fun _ => fun
  | [d] => { results := [.lit (.bool true)], args := [d] }
  | _ => none }
def dateKnowsRow : OpenClaim := { program := "ytfmdphpbgjjmiaadoor", sum := "d2afb1836b2eccf7dfe6163360a34059b5ee01dcc22067af6cbba7cdad291fae", func := "leechbook/leechbooklaw02.DateKnows", spec := "dateKnows", named := ["leechbook/date.lengths"], apart := false, laid := [("leechbook/date.lengths", laid_leechbook_date_lengths)] }
def DateKnowsSaid : Prop := dateKnowsRow.holds Tryd.pinned (OpenSpec.ofChange dateKnowsSpec)

/-- ITS FALSE NEIGHBOUR: 'it returns false'. Refute it at one input. -/
def dateKnowsWrong : ChangeSpec := { name := "dateKnows", fn := fun _ => fun
  | [d] => { results := [.lit (.bool false)], args := [d] }
  | _ => none }
def DateKnowsWrongFalsely : Prop := dateKnowsRow.holds Tryd.pinned (OpenSpec.ofChange dateKnowsWrong)

/-- 'leechbooklaw02.DateCounts': WHATEVER THE INPUT: true; the input reads as it did. -/
def dateCountsSpec : ChangeSpec := { name := "dateCounts", fn := fun _ => fun
  | [d1, d2] => { results := [.lit (.bool true)], args := [d1, d2] }
  | _ => none }
def dateCountsRow : OpenClaim := { program := "ytfmdphpbgjjmiaadoor", sum := "d2afb1836b2eccf7dfe6163360a34059b5ee01dcc22067af6cbba7cdad291fae", func := "leechbook/leechbooklaw02.DateCounts", spec := "dateCounts", named := ["leechbook/date.lengths"], apart := false, laid := [("leechbook/date.lengths", laid_leechbook_date_lengths)] }
def DateCountsSaid : Prop := dateCountsRow.holds Tryd.pinned (OpenSpec.ofChange dateCountsSpec)

/-- ITS FALSE NEIGHBOUR: 'it returns false'. Refute it at one input. -/
def dateCountsWrong : ChangeSpec := { name := "dateCounts", fn := fun _ => fun
  | [d1, d2] => { results := [.lit (.bool false)], args := [d1, d2] }
  | _ => none }
def DateCountsWrongFalsely : Prop := dateCountsRow.holds Tryd.pinned (OpenSpec.ofChange dateCountsWrong)

/-- 'leechbooklaw02.DateBack': WHATEVER THE INPUT: true; the input reads as it did. -/
def dateBackSpec : ChangeSpec := { name := "dateBack", fn := fun _ => fun
  | [d1, d2] => { results := [.lit (.bool true)], args := [d1, d2] }
  | _ => none }
def dateBackRow : OpenClaim := { program := "ytfmdphpbgjjmiaadoor", sum := "d2afb1836b2eccf7dfe6163360a34059b5ee01dcc22067af6cbba7cdad291fae", func := "leechbook/leechbooklaw02.DateBack", spec := "dateBack", named := ["leechbook/date.lengths"], apart := false, laid := [("leechbook/date.lengths", laid_leechbook_date_lengths)] }
def DateBackSaid : Prop := dateBackRow.holds Tryd.pinned (OpenSpec.ofChange dateBackSpec)

/-- ITS FALSE NEIGHBOUR: 'it returns false'. Refute it at one input. -/
def dateBackWrong : ChangeSpec := { name := "dateBack", fn := fun _ => fun
  | [d1, d2] => { results := [.lit (.bool false)], args := [d1, d2] }
  | _ => none }
def DateBackWrongFalsely : Prop := dateBackRow.holds Tryd.pinned (OpenSpec.ofChange dateBackWrong)

/-- 'leechbooklaw02.DateOrders': WHATEVER THE INPUT: true; the input reads as it did. -/
def dateOrdersSpec : ChangeSpec := { name := "dateOrders", fn := fun _ => fun
  | [d1, d2] => { results := [.lit (.bool true)], args := [d1, d2] }
  | _ => none }
def dateOrdersRow : OpenClaim := { program := "ytfmdphpbgjjmiaadoor", sum := "d2afb1836b2eccf7dfe6163360a34059b5ee01dcc22067af6cbba7cdad291fae", func := "leechbook/leechbooklaw02.DateOrders", spec := "dateOrders", named := ["leechbook/date.lengths"], apart := false, laid := [("leechbook/date.lengths", laid_leechbook_date_lengths)] }
def DateOrdersSaid : Prop := dateOrdersRow.holds Tryd.pinned (OpenSpec.ofChange dateOrdersSpec)

/-- ITS FALSE NEIGHBOUR: 'it returns false'. Refute it at one input. -/
def dateOrdersWrong : ChangeSpec := { name := "dateOrders", fn := fun _ => fun
  | [d1, d2] => { results := [.lit (.bool false)], args := [d1, d2] }
  | _ => none }
def DateOrdersWrongFalsely : Prop := dateOrdersRow.holds Tryd.pinned (OpenSpec.ofChange dateOrdersWrong)

/-- 'leechbooklaw02.DateWeeks': WHATEVER THE INPUT: true; the input reads as it did. -/
def dateWeeksSpec : ChangeSpec := { name := "dateWeeks", fn := fun _ => fun
  | [d] => { results := [.lit (.bool true)], args := [d] }
  | _ => none }
def dateWeeksRow : OpenClaim := { program := "ytfmdphpbgjjmiaadoor", sum := "d2afb1836b2eccf7dfe6163360a34059b5ee01dcc22067af6cbba7cdad291fae", func := "leechbook/leechbooklaw02.DateWeeks", spec := "dateWeeks", named := ["leechbook/date.lengths"], apart := false, laid := [("leechbook/date.lengths", laid_leechbook_date_lengths)] }
def DateWeeksSaid : Prop := dateWeeksRow.holds Tryd.pinned (OpenSpec.ofChange dateWeeksSpec)

/-- ITS FALSE NEIGHBOUR: 'it returns false'. Refute it at one input. -/
def dateWeeksWrong : ChangeSpec := { name := "dateWeeks", fn := fun _ => fun
  | [d] => { results := [.lit (.bool false)], args := [d] }
  | _ => none }
def DateWeeksWrongFalsely : Prop := dateWeeksRow.holds Tryd.pinned (OpenSpec.ofChange dateWeeksWrong)

/-- 'leechbooklaw02.DateSteps': WHATEVER THE INPUT: true; the input reads as it did. -/
def dateStepsSpec : ChangeSpec := { name := "dateSteps", fn := fun _ => fun
  | [d] => { results := [.lit (.bool true)], args := [d] }
  | _ => none }
def dateStepsRow : OpenClaim := { program := "ytfmdphpbgjjmiaadoor", sum := "d2afb1836b2eccf7dfe6163360a34059b5ee01dcc22067af6cbba7cdad291fae", func := "leechbook/leechbooklaw02.DateSteps", spec := "dateSteps", named := ["leechbook/date.lengths"], apart := false, laid := [("leechbook/date.lengths", laid_leechbook_date_lengths)] }
def DateStepsSaid : Prop := dateStepsRow.holds Tryd.pinned (OpenSpec.ofChange dateStepsSpec)

/-- ITS FALSE NEIGHBOUR: 'it returns false'. Refute it at one input. -/
def dateStepsWrong : ChangeSpec := { name := "dateSteps", fn := fun _ => fun
  | [d] => { results := [.lit (.bool false)], args := [d] }
  | _ => none }
def DateStepsWrongFalsely : Prop := dateStepsRow.holds Tryd.pinned (OpenSpec.ofChange dateStepsWrong)

/- THE SECOND FORM. 'bulk': how many values and letters a reading holds, each counted each time it is reached (what is shared counts as often as it is met; a slice's spare places count too). A statement '..UptoSaid' is the law's where the arguments, and the package variables that the reading takes, are together of bulk at most 1048576: NARROWER than '..Said'. Prove '..Said' where nothing that the law and all that it calls make is longer than what came in: it says more and counts as full. Else prove '..UptoSaid'. A law counts once. -/
mutual
def uptoBulk {H : Type} : DataW H → Nat
  | .lit (.string bytes) => bytes.length + 1
  | .lit _ => 1
  | .nil => 1
  | .ptr d => uptoBulk d + 1
  | .slice elems spare => uptoBulkAll elems + uptoBulkAll spare + 1
  | .agg parts => uptoBulkAll parts + 1
  | .iface _ d => uptoBulk d + 1
  | .map entries => uptoBulkEntries entries + 1
  | .held _ => 1
def uptoBulkAll {H : Type} : List (DataW H) → Nat
  | [] => 0
  | d :: r => uptoBulk d + uptoBulkAll r
def uptoBulkEntries {H : Type} : List (Lit × DataW H) → Nat
  | [] => 0
  | x :: r => uptoBulkEntry x + uptoBulkEntries r
def uptoBulkEntry {H : Type} : Lit × DataW H → Nat
  | (.string bytes, d) => bytes.length + uptoBulk d + 1
  | (_, d) => uptoBulk d + 1
 end
def uptoSmall : (H : Type) → List (DataW H) → Bool := fun _ ds => decide (uptoBulkAll ds ≤ 1048576)
def OpenSpec.upto (s : _root_.Go.ChangeSpec) : _root_.Go.OpenSpec := { _root_.Go.OpenSpec.ofChange s with cond := some uptoSmall }

/-- 'leechbooklaw02.DateKnows', WHERE WHAT IT READS IS OF BULK AT MOST 1048576: true; the input reads as it did. -/
def dateKnowsUptoRow : OpenClaim := { program := "ytfmdphpbgjjmiaadoor", sum := "d2afb1836b2eccf7dfe6163360a34059b5ee01dcc22067af6cbba7cdad291fae", func := "leechbook/leechbooklaw02.DateKnows", spec := "dateKnows", named := ["leechbook/date.lengths"], apart := false, laid := [("leechbook/date.lengths", laid_leechbook_date_lengths)], narrowed := true }
def DateKnowsUptoSaid : Prop := dateKnowsUptoRow.holds Tryd.pinned (OpenSpec.upto dateKnowsSpec)

/-- 'leechbooklaw02.DateCounts', WHERE WHAT IT READS IS OF BULK AT MOST 1048576: true; the input reads as it did. -/
def dateCountsUptoRow : OpenClaim := { program := "ytfmdphpbgjjmiaadoor", sum := "d2afb1836b2eccf7dfe6163360a34059b5ee01dcc22067af6cbba7cdad291fae", func := "leechbook/leechbooklaw02.DateCounts", spec := "dateCounts", named := ["leechbook/date.lengths"], apart := false, laid := [("leechbook/date.lengths", laid_leechbook_date_lengths)], narrowed := true }
def DateCountsUptoSaid : Prop := dateCountsUptoRow.holds Tryd.pinned (OpenSpec.upto dateCountsSpec)

/-- 'leechbooklaw02.DateBack', WHERE WHAT IT READS IS OF BULK AT MOST 1048576: true; the input reads as it did. -/
def dateBackUptoRow : OpenClaim := { program := "ytfmdphpbgjjmiaadoor", sum := "d2afb1836b2eccf7dfe6163360a34059b5ee01dcc22067af6cbba7cdad291fae", func := "leechbook/leechbooklaw02.DateBack", spec := "dateBack", named := ["leechbook/date.lengths"], apart := false, laid := [("leechbook/date.lengths", laid_leechbook_date_lengths)], narrowed := true }
def DateBackUptoSaid : Prop := dateBackUptoRow.holds Tryd.pinned (OpenSpec.upto dateBackSpec)

/-- 'leechbooklaw02.DateOrders', WHERE WHAT IT READS IS OF BULK AT MOST 1048576: true; the input reads as it did. -/
def dateOrdersUptoRow : OpenClaim := { program := "ytfmdphpbgjjmiaadoor", sum := "d2afb1836b2eccf7dfe6163360a34059b5ee01dcc22067af6cbba7cdad291fae", func := "leechbook/leechbooklaw02.DateOrders", spec := "dateOrders", named := ["leechbook/date.lengths"], apart := false, laid := [("leechbook/date.lengths", laid_leechbook_date_lengths)], narrowed := true }
def DateOrdersUptoSaid : Prop := dateOrdersUptoRow.holds Tryd.pinned (OpenSpec.upto dateOrdersSpec)

/-- 'leechbooklaw02.DateWeeks', WHERE WHAT IT READS IS OF BULK AT MOST 1048576: true; the input reads as it did. -/
def dateWeeksUptoRow : OpenClaim := { program := "ytfmdphpbgjjmiaadoor", sum := "d2afb1836b2eccf7dfe6163360a34059b5ee01dcc22067af6cbba7cdad291fae", func := "leechbook/leechbooklaw02.DateWeeks", spec := "dateWeeks", named := ["leechbook/date.lengths"], apart := false, laid := [("leechbook/date.lengths", laid_leechbook_date_lengths)], narrowed := true }
def DateWeeksUptoSaid : Prop := dateWeeksUptoRow.holds Tryd.pinned (OpenSpec.upto dateWeeksSpec)

/-- 'leechbooklaw02.DateSteps', WHERE WHAT IT READS IS OF BULK AT MOST 1048576: true; the input reads as it did. -/
def dateStepsUptoRow : OpenClaim := { program := "ytfmdphpbgjjmiaadoor", sum := "d2afb1836b2eccf7dfe6163360a34059b5ee01dcc22067af6cbba7cdad291fae", func := "leechbook/leechbooklaw02.DateSteps", spec := "dateSteps", named := ["leechbook/date.lengths"], apart := false, laid := [("leechbook/date.lengths", laid_leechbook_date_lengths)], narrowed := true }
def DateStepsUptoSaid : Prop := dateStepsUptoRow.holds Tryd.pinned (OpenSpec.upto dateStepsSpec)

end Rows
end Go.Proofs.YtfmdphpbgjjmiaaDoor
