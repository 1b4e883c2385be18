/-
  NARROWER THAN 'FOR EVERY INPUT', by the rows' own cells (each row's printed sentence says how): ClaimChecks: laid · ClaimLines: laid · ClaimBatches: laid · ClaimSame: laid · ClaimCopies: laid · ClaimParts: laid.
  DERIVED. THE GIVEN ROWS OF THIS SEAT. 6 by the template 'for every input the law returns true; each argument reads behind the call as it read before'; 0 by the template 'total and deterministic' (their statements: YtpmlmoclocccoaaDoorTotals.lean).
  GIVEN WITH THE SEED: the statements are not yours to turn. If you find one false, say at which input.
  Laid BY PROGRAM, IN A SANDBOX (cutbox-rows.mjs): the forced cells as the released guide's own fill.sh prints them over the translation ca5d353b4ba6ac81… (all of the seat's roots in one cut). By AI agents, Wed Nov 11 2026. No macro, syntax, notation, axiom, sorry.
-/
import Derived.Test.YtpmlmoclocccoaaDoorChecked
import GoSem.Claim
import GoSem.ClaimJoined
import GoSem.ClaimMapViews
import Derived.JoinedTies
import Derived.KernelRfl
namespace Go.Proofs.YtpmlmoclocccoaaDoor
/- THE CELL 'sum', in the pinned program and in every row, IS THE sha256 OF THE DUMP (.gsa) THAT YtpmlmoclocccoaaDoorProg.lean LOADS. Nothing in Lean hashes anything: it is a label: what it is worth is what the hold of that sum in a sandbox is worth. -/
noncomputable def Tryd.pinned : Pinned := { name := "ytpmlmoclocccoaadoor", sum := "ca5d353b4ba6ac8130b5e5284ecb9a5f522920c03c2ea1db2d5a0441e4174266", checked := Tryd.checked }
namespace Rows
def none {H : Type} : Left H := { results := [], args := [] }

/- WHAT THE LISTED PACKAGE-LEVEL VARIABLES READ AS WHEN THE CALL BEGINS. Each datum BY PROGRAM (the guide's laid-datum.mjs) off the statement by which the dump's own 'gosem.cut.vars' lays the variable. In a bare row this is a premise. The card (YtpmlmoclocccoaaDoorCards.lean) ties it to the program's text. -/
def laid_leechbook_date_lengths {H : Type} : DataW H := .agg [.lit (.int .i64 31), .lit (.int .i64 28), .lit (.int .i64 31), .lit (.int .i64 30), .lit (.int .i64 31), .lit (.int .i64 30), .lit (.int .i64 31), .lit (.int .i64 31), .lit (.int .i64 30), .lit (.int .i64 31), .lit (.int .i64 30), .lit (.int .i64 31)]

/-- 'leechbooklaw07.ClaimChecks': WHATEVER THE INPUT: true; the input reads as it did. -/
def claimChecksSpec : ChangeSpec := { name := "claimChecks", fn := fun _ => fun
  | [d] => { results := [.lit (.bool true)], args := [d] }
  | _ => none }
def claimChecksRow : OpenClaim := { program := "ytpmlmoclocccoaadoor", sum := "ca5d353b4ba6ac8130b5e5284ecb9a5f522920c03c2ea1db2d5a0441e4174266", func := "leechbook/leechbooklaw07.ClaimChecks", spec := "claimChecks", unfollowed := true, recurses := true, named := ["leechbook/date.lengths"], apart := false, laid := [("leechbook/date.lengths", laid_leechbook_date_lengths)] }
def ClaimChecksSaid : Prop := claimChecksRow.holds Tryd.pinned (OpenSpec.ofChange claimChecksSpec)

/-- ITS FALSE NEIGHBOUR: 'it returns false'. Refute it at one input. -/
def claimChecksWrong : ChangeSpec := { name := "claimChecks", fn := fun _ => fun
  | [d] => { results := [.lit (.bool false)], args := [d] }
  | _ => none }
def ClaimChecksWrongFalsely : Prop := claimChecksRow.holds Tryd.pinned (OpenSpec.ofChange claimChecksWrong)

/-- 'leechbooklaw07.ClaimLines': WHATEVER THE INPUT: true; the input reads as it did. -/
def claimLinesSpec : ChangeSpec := { name := "claimLines", fn := fun _ => fun
  | [d1, d2, d3, d4] => { results := [.lit (.bool true)], args := [d1, d2, d3, d4] }
  | _ => none }
def claimLinesRow : OpenClaim := { program := "ytpmlmoclocccoaadoor", sum := "ca5d353b4ba6ac8130b5e5284ecb9a5f522920c03c2ea1db2d5a0441e4174266", func := "leechbook/leechbooklaw07.ClaimLines", spec := "claimLines", unfollowed := true, recurses := true, named := ["leechbook/date.lengths"], apart := false, laid := [("leechbook/date.lengths", laid_leechbook_date_lengths)] }
def ClaimLinesSaid : Prop := claimLinesRow.holds Tryd.pinned (OpenSpec.ofChange claimLinesSpec)

/-- ITS FALSE NEIGHBOUR: 'it returns false'. Refute it at one input. -/
def claimLinesWrong : ChangeSpec := { name := "claimLines", fn := fun _ => fun
  | [d1, d2, d3, d4] => { results := [.lit (.bool false)], args := [d1, d2, d3, d4] }
  | _ => none }
def ClaimLinesWrongFalsely : Prop := claimLinesRow.holds Tryd.pinned (OpenSpec.ofChange claimLinesWrong)

/-- 'leechbooklaw07.ClaimBatches': WHATEVER THE INPUT: true; the input reads as it did. -/
def claimBatchesSpec : ChangeSpec := { name := "claimBatches", fn := fun _ => fun
  | [d] => { results := [.lit (.bool true)], args := [d] }
  | _ => none }
def claimBatchesRow : OpenClaim := { program := "ytpmlmoclocccoaadoor", sum := "ca5d353b4ba6ac8130b5e5284ecb9a5f522920c03c2ea1db2d5a0441e4174266", func := "leechbook/leechbooklaw07.ClaimBatches", spec := "claimBatches", unfollowed := true, recurses := true, named := ["leechbook/date.lengths"], apart := false, laid := [("leechbook/date.lengths", laid_leechbook_date_lengths)] }
def ClaimBatchesSaid : Prop := claimBatchesRow.holds Tryd.pinned (OpenSpec.ofChange claimBatchesSpec)

/-- ITS FALSE NEIGHBOUR: 'it returns false'. Refute it at one input. -/
def claimBatchesWrong : ChangeSpec := { name := "claimBatches", fn := fun _ => fun
  | [d] => { results := [.lit (.bool false)], args := [d] }
  | _ => none }
def ClaimBatchesWrongFalsely : Prop := claimBatchesRow.holds Tryd.pinned (OpenSpec.ofChange claimBatchesWrong)

/-- 'leechbooklaw07.ClaimSame': WHATEVER THE INPUT: true; the input reads as it did. -/
def claimSameSpec : ChangeSpec := { name := "claimSame", fn := fun _ => fun
  | [d1, d2] => { results := [.lit (.bool true)], args := [d1, d2] }
  | _ => none }
def claimSameRow : OpenClaim := { program := "ytpmlmoclocccoaadoor", sum := "ca5d353b4ba6ac8130b5e5284ecb9a5f522920c03c2ea1db2d5a0441e4174266", func := "leechbook/leechbooklaw07.ClaimSame", spec := "claimSame", unfollowed := true, recurses := true, named := ["leechbook/date.lengths"], apart := false, laid := [("leechbook/date.lengths", laid_leechbook_date_lengths)] }
def ClaimSameSaid : Prop := claimSameRow.holds Tryd.pinned (OpenSpec.ofChange claimSameSpec)

/-- ITS FALSE NEIGHBOUR: 'it returns false'. Refute it at one input. -/
def claimSameWrong : ChangeSpec := { name := "claimSame", fn := fun _ => fun
  | [d1, d2] => { results := [.lit (.bool false)], args := [d1, d2] }
  | _ => none }
def ClaimSameWrongFalsely : Prop := claimSameRow.holds Tryd.pinned (OpenSpec.ofChange claimSameWrong)

/-- 'leechbooklaw07.ClaimCopies': WHATEVER THE INPUT: true; the input reads as it did. -/
def claimCopiesSpec : ChangeSpec := { name := "claimCopies", fn := fun _ => fun
  | [d] => { results := [.lit (.bool true)], args := [d] }
  | _ => none }
def claimCopiesRow : OpenClaim := { program := "ytpmlmoclocccoaadoor", sum := "ca5d353b4ba6ac8130b5e5284ecb9a5f522920c03c2ea1db2d5a0441e4174266", func := "leechbook/leechbooklaw07.ClaimCopies", spec := "claimCopies", unfollowed := true, recurses := true, named := ["leechbook/date.lengths"], apart := false, laid := [("leechbook/date.lengths", laid_leechbook_date_lengths)] }
def ClaimCopiesSaid : Prop := claimCopiesRow.holds Tryd.pinned (OpenSpec.ofChange claimCopiesSpec)

/-- ITS FALSE NEIGHBOUR: 'it returns false'. Refute it at one input. -/
def claimCopiesWrong : ChangeSpec := { name := "claimCopies", fn := fun _ => fun
  | [d] => { results := [.lit (.bool false)], args := [d] }
  | _ => none }
def ClaimCopiesWrongFalsely : Prop := claimCopiesRow.holds Tryd.pinned (OpenSpec.ofChange claimCopiesWrong)

/-- 'leechbooklaw07.ClaimParts': WHATEVER THE INPUT: true; the input reads as it did. -/
def claimPartsSpec : ChangeSpec := { name := "claimParts", fn := fun _ => fun
  | [d1, d2] => { results := [.lit (.bool true)], args := [d1, d2] }
  | _ => none }
def claimPartsRow : OpenClaim := { program := "ytpmlmoclocccoaadoor", sum := "ca5d353b4ba6ac8130b5e5284ecb9a5f522920c03c2ea1db2d5a0441e4174266", func := "leechbook/leechbooklaw07.ClaimParts", spec := "claimParts", unfollowed := true, recurses := true, named := ["leechbook/date.lengths"], apart := false, laid := [("leechbook/date.lengths", laid_leechbook_date_lengths)] }
def ClaimPartsSaid : Prop := claimPartsRow.holds Tryd.pinned (OpenSpec.ofChange claimPartsSpec)

/-- ITS FALSE NEIGHBOUR: 'it returns false'. Refute it at one input. -/
def claimPartsWrong : ChangeSpec := { name := "claimParts", fn := fun _ => fun
  | [d1, d2] => { results := [.lit (.bool false)], args := [d1, d2] }
  | _ => none }
def ClaimPartsWrongFalsely : Prop := claimPartsRow.holds Tryd.pinned (OpenSpec.ofChange claimPartsWrong)

/- THE SECOND FORM. 'bulk': how many values and letters a reading holds, each counted each time it is reached (what is shared counts as often as it is met; a slice's spare places count too). A statement '..UptoSaid' is the law's where the arguments, and the package variables that the reading takes, are together of bulk at most 1048576: NARROWER than '..Said'. Prove '..Said' where nothing that the law and all that it calls make is longer than what came in: it says more and counts as full. Else prove '..UptoSaid'. A law counts once. -/
mutual
def uptoBulk {H : Type} : DataW H → Nat
  | .lit (.string bytes) => bytes.length + 1
  | .lit _ => 1
  | .nil => 1
  | .ptr d => uptoBulk d + 1
  | .slice elems spare => uptoBulkAll elems + uptoBulkAll spare + 1
  | .agg parts => uptoBulkAll parts + 1
  | .iface _ d => uptoBulk d + 1
  | .map entries => uptoBulkEntries entries + 1
  | .held _ => 1
def uptoBulkAll {H : Type} : List (DataW H) → Nat
  | [] => 0
  | d :: r => uptoBulk d + uptoBulkAll r
def uptoBulkEntries {H : Type} : List (Lit × DataW H) → Nat
  | [] => 0
  | x :: r => uptoBulkEntry x + uptoBulkEntries r
def uptoBulkEntry {H : Type} : Lit × DataW H → Nat
  | (.string bytes, d) => bytes.length + uptoBulk d + 1
  | (_, d) => uptoBulk d + 1
 end
def uptoSmall : (H : Type) → List (DataW H) → Bool := fun _ ds => decide (uptoBulkAll ds ≤ 1048576)
def OpenSpec.upto (s : _root_.Go.ChangeSpec) : _root_.Go.OpenSpec := { _root_.Go.OpenSpec.ofChange s with cond := some uptoSmall }

/-- 'leechbooklaw07.ClaimChecks', WHERE WHAT IT READS IS OF BULK AT MOST 1048576: true; the input reads as it did. -/
def claimChecksUptoRow : OpenClaim := { program := "ytpmlmoclocccoaadoor", sum := "ca5d353b4ba6ac8130b5e5284ecb9a5f522920c03c2ea1db2d5a0441e4174266", func := "leechbook/leechbooklaw07.ClaimChecks", spec := "claimChecks", unfollowed := true, recurses := true, named := ["leechbook/date.lengths"], apart := false, laid := [("leechbook/date.lengths", laid_leechbook_date_lengths)], narrowed := true }
def ClaimChecksUptoSaid : Prop := claimChecksUptoRow.holds Tryd.pinned (OpenSpec.upto claimChecksSpec)

/-- 'leechbooklaw07.ClaimLines', WHERE WHAT IT READS IS OF BULK AT MOST 1048576: true; the input reads as it did. -/
def claimLinesUptoRow : OpenClaim := { program := "ytpmlmoclocccoaadoor", sum := "ca5d353b4ba6ac8130b5e5284ecb9a5f522920c03c2ea1db2d5a0441e4174266", func := "leechbook/leechbooklaw07.ClaimLines", spec := "claimLines", unfollowed := true, recurses := true, named := ["leechbook/date.lengths"], apart := false, laid := [("leechbook/date.lengths", laid_leechbook_date_lengths)], narrowed := true }
def ClaimLinesUptoSaid : Prop := claimLinesUptoRow.holds Tryd.pinned (OpenSpec.upto claimLinesSpec)

/-- 'leechbooklaw07.ClaimBatches', WHERE WHAT IT READS IS OF BULK AT MOST 1048576: true; the input reads as it did. -/
def claimBatchesUptoRow : OpenClaim := { program := "ytpmlmoclocccoaadoor", sum := "ca5d353b4ba6ac8130b5e5284ecb9a5f522920c03c2ea1db2d5a0441e4174266", func := "leechbook/leechbooklaw07.ClaimBatches", spec := "claimBatches", unfollowed := true, recurses := true, named := ["leechbook/date.lengths"], apart := false, laid := [("leechbook/date.lengths", laid_leechbook_date_lengths)], narrowed := true }
def ClaimBatchesUptoSaid : Prop := claimBatchesUptoRow.holds Tryd.pinned (OpenSpec.upto claimBatchesSpec)

/-- 'leechbooklaw07.ClaimSame', WHERE WHAT IT READS IS OF BULK AT MOST 1048576: true; the input reads as it did. -/
def claimSameUptoRow : OpenClaim := { program := "ytpmlmoclocccoaadoor", sum := "ca5d353b4ba6ac8130b5e5284ecb9a5f522920c03c2ea1db2d5a0441e4174266", func := "leechbook/leechbooklaw07.ClaimSame", spec := "claimSame", unfollowed := true, recurses := true, named := ["leechbook/date.lengths"], apart := false, laid := [("leechbook/date.lengths", laid_leechbook_date_lengths)], narrowed := true }
def ClaimSameUptoSaid : Prop := claimSameUptoRow.holds Tryd.pinned (OpenSpec.upto claimSameSpec)

/-- 'leechbooklaw07.ClaimCopies', WHERE WHAT IT READS IS OF BULK AT MOST 1048576: true; the input reads as it did. -/
def claimCopiesUptoRow : OpenClaim := { program := "ytpmlmoclocccoaadoor", sum := "ca5d353b4ba6ac8130b5e5284ecb9a5f522920c03c2ea1db2d5a0441e4174266", func := "leechbook/leechbooklaw07.ClaimCopies", spec := "claimCopies", unfollowed := true, recurses := true, named := ["leechbook/date.lengths"], apart := false, laid := [("leechbook/date.lengths", laid_leechbook_date_lengths)], narrowed := true }
def ClaimCopiesUptoSaid : Prop := claimCopiesUptoRow.holds Tryd.pinned (OpenSpec.upto claimCopiesSpec)

/-- 'leechbooklaw07.ClaimParts', WHERE WHAT IT READS IS OF BULK AT MOST 1048576: true; the input reads as it did. -/
def claimPartsUptoRow : OpenClaim := { program := "ytpmlmoclocccoaadoor", sum := "ca5d353b4ba6ac8130b5e5284ecb9a5f522920c03c2ea1db2d5a0441e4174266", func := "leechbook/leechbooklaw07.ClaimParts", spec := "claimParts", unfollowed := true, recurses := true, named := ["leechbook/date.lengths"], apart := false, laid := [("leechbook/date.lengths", laid_leechbook_date_lengths)], narrowed := true }
def ClaimPartsUptoSaid : Prop := claimPartsUptoRow.holds Tryd.pinned (OpenSpec.upto claimPartsSpec)

end Rows
end Go.Proofs.YtpmlmoclocccoaaDoor
