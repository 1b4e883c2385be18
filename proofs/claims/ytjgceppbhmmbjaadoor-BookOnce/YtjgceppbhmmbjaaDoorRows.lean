/-
  NARROWER THAN 'FOR EVERY INPUT', by the rows' own cells (each row's printed sentence says how): BookPuts: laid · BookStands: laid · BookOnce: laid · BookVoids: laid · BookReplaces: laid · BookKeeps: laid.
  DERIVED. THE GIVEN ROWS OF THIS SEAT. 6 by the template 'for every input the law returns true; each argument reads behind the call as it read before'; 0 by the template 'total and deterministic' (their statements: YtjgceppbhmmbjaaDoorTotals.lean).
  GIVEN WITH THE SEED: the statements are not yours to turn. If you find one false, say at which input.
  Laid BY PROGRAM, IN A SANDBOX (cutbox-rows.mjs): the forced cells as the released guide's own fill.sh prints them over the translation 4d69cb859dd367d7… (all of the seat's roots in one cut). By AI agents, Wed Nov 11 2026. No macro, syntax, notation, axiom, sorry.
-/
import Derived.Test.YtjgceppbhmmbjaaDoorChecked
import GoSem.Claim
import GoSem.ClaimJoined
import GoSem.ClaimMapViews
import Derived.JoinedTies
import Derived.KernelRfl
namespace Go.Proofs.YtjgceppbhmmbjaaDoor
/- THE CELL 'sum', in the pinned program and in every row, IS THE sha256 OF THE DUMP (.gsa) THAT YtjgceppbhmmbjaaDoorProg.lean LOADS. Nothing in Lean hashes anything: it is a label: what it is worth is what the hold of that sum in a sandbox is worth. -/
noncomputable def Tryd.pinned : Pinned := { name := "ytjgceppbhmmbjaadoor", sum := "4d69cb859dd367d79e3bb9b934b7be6dd56c79509e22950cfdf1b0291634ef2b", checked := Tryd.checked }
namespace Rows
def none {H : Type} : Left H := { results := [], args := [] }

/- WHAT THE LISTED PACKAGE-LEVEL VARIABLES READ AS WHEN THE CALL BEGINS. Each datum BY PROGRAM (the guide's laid-datum.mjs) off the statement by which the dump's own 'gosem.cut.vars' lays the variable. In a bare row this is a premise. The card (YtjgceppbhmmbjaaDoorCards.lean) ties it to the program's text. -/
def laid_leechbook_date_lengths {H : Type} : DataW H := .agg [.lit (.int .i64 31), .lit (.int .i64 28), .lit (.int .i64 31), .lit (.int .i64 30), .lit (.int .i64 31), .lit (.int .i64 30), .lit (.int .i64 31), .lit (.int .i64 31), .lit (.int .i64 30), .lit (.int .i64 31), .lit (.int .i64 30), .lit (.int .i64 31)]

/-- 'leechbooklaw18.BookPuts': WHATEVER THE INPUT: true; the input reads as it did. -/
def bookPutsSpec : ChangeSpec := { name := "bookPuts", fn := fun _ => fun
  | [d1, d2, d3, d4] => { results := [.lit (.bool true)], args := [d1, d2, d3, d4] }
  | _ => none }
def bookPutsRow : OpenClaim := { program := "ytjgceppbhmmbjaadoor", sum := "4d69cb859dd367d79e3bb9b934b7be6dd56c79509e22950cfdf1b0291634ef2b", func := "leechbook/leechbooklaw18.BookPuts", spec := "bookPuts", inPlace := ["slices.overlaps[leechbook/api.Entry]"], named := ["leechbook/date.lengths"], apart := false, laid := [("leechbook/date.lengths", laid_leechbook_date_lengths)] }
def BookPutsSaid : Prop := bookPutsRow.holds Tryd.pinned (OpenSpec.ofChange bookPutsSpec)

/-- ITS FALSE NEIGHBOUR: 'it returns false'. Refute it at one input. -/
def bookPutsWrong : ChangeSpec := { name := "bookPuts", fn := fun _ => fun
  | [d1, d2, d3, d4] => { results := [.lit (.bool false)], args := [d1, d2, d3, d4] }
  | _ => none }
def BookPutsWrongFalsely : Prop := bookPutsRow.holds Tryd.pinned (OpenSpec.ofChange bookPutsWrong)

/-- 'leechbooklaw18.BookStands': WHATEVER THE INPUT: true; the input reads as it did. -/
def bookStandsSpec : ChangeSpec := { name := "bookStands", fn := fun _ => fun
  | [d] => { results := [.lit (.bool true)], args := [d] }
  | _ => none }
def bookStandsRow : OpenClaim := { program := "ytjgceppbhmmbjaadoor", sum := "4d69cb859dd367d79e3bb9b934b7be6dd56c79509e22950cfdf1b0291634ef2b", func := "leechbook/leechbooklaw18.BookStands", spec := "bookStands", inPlace := ["slices.overlaps[leechbook/api.Entry]"], named := ["leechbook/date.lengths"], apart := false, laid := [("leechbook/date.lengths", laid_leechbook_date_lengths)] }
def BookStandsSaid : Prop := bookStandsRow.holds Tryd.pinned (OpenSpec.ofChange bookStandsSpec)

/-- ITS FALSE NEIGHBOUR: 'it returns false'. Refute it at one input. -/
def bookStandsWrong : ChangeSpec := { name := "bookStands", fn := fun _ => fun
  | [d] => { results := [.lit (.bool false)], args := [d] }
  | _ => none }
def BookStandsWrongFalsely : Prop := bookStandsRow.holds Tryd.pinned (OpenSpec.ofChange bookStandsWrong)

/-- 'leechbooklaw18.BookOnce': WHATEVER THE INPUT: true; the input reads as it did. -/
def bookOnceSpec : ChangeSpec := { name := "bookOnce", fn := fun _ => fun
  | [d1, d2] => { results := [.lit (.bool true)], args := [d1, d2] }
  | _ => none }
def bookOnceRow : OpenClaim := { program := "ytjgceppbhmmbjaadoor", sum := "4d69cb859dd367d79e3bb9b934b7be6dd56c79509e22950cfdf1b0291634ef2b", func := "leechbook/leechbooklaw18.BookOnce", spec := "bookOnce", inPlace := ["slices.overlaps[leechbook/api.Entry]"], named := ["leechbook/date.lengths"], apart := false, laid := [("leechbook/date.lengths", laid_leechbook_date_lengths)] }
def BookOnceSaid : Prop := bookOnceRow.holds Tryd.pinned (OpenSpec.ofChange bookOnceSpec)

/-- ITS FALSE NEIGHBOUR: 'it returns false'. Refute it at one input. -/
def bookOnceWrong : ChangeSpec := { name := "bookOnce", fn := fun _ => fun
  | [d1, d2] => { results := [.lit (.bool false)], args := [d1, d2] }
  | _ => none }
def BookOnceWrongFalsely : Prop := bookOnceRow.holds Tryd.pinned (OpenSpec.ofChange bookOnceWrong)

/-- 'leechbooklaw18.BookVoids': WHATEVER THE INPUT: true; the input reads as it did. -/
def bookVoidsSpec : ChangeSpec := { name := "bookVoids", fn := fun _ => fun
  | [d1, d2, d3] => { results := [.lit (.bool true)], args := [d1, d2, d3] }
  | _ => none }
def bookVoidsRow : OpenClaim := { program := "ytjgceppbhmmbjaadoor", sum := "4d69cb859dd367d79e3bb9b934b7be6dd56c79509e22950cfdf1b0291634ef2b", func := "leechbook/leechbooklaw18.BookVoids", spec := "bookVoids", inPlace := ["slices.overlaps[leechbook/api.Entry]"], named := ["leechbook/date.lengths"], apart := false, laid := [("leechbook/date.lengths", laid_leechbook_date_lengths)] }
def BookVoidsSaid : Prop := bookVoidsRow.holds Tryd.pinned (OpenSpec.ofChange bookVoidsSpec)

/-- ITS FALSE NEIGHBOUR: 'it returns false'. Refute it at one input. -/
def bookVoidsWrong : ChangeSpec := { name := "bookVoids", fn := fun _ => fun
  | [d1, d2, d3] => { results := [.lit (.bool false)], args := [d1, d2, d3] }
  | _ => none }
def BookVoidsWrongFalsely : Prop := bookVoidsRow.holds Tryd.pinned (OpenSpec.ofChange bookVoidsWrong)

/-- 'leechbooklaw18.BookReplaces': WHATEVER THE INPUT: true; the input reads as it did. -/
def bookReplacesSpec : ChangeSpec := { name := "bookReplaces", fn := fun _ => fun
  | [d1, d2] => { results := [.lit (.bool true)], args := [d1, d2] }
  | _ => none }
def bookReplacesRow : OpenClaim := { program := "ytjgceppbhmmbjaadoor", sum := "4d69cb859dd367d79e3bb9b934b7be6dd56c79509e22950cfdf1b0291634ef2b", func := "leechbook/leechbooklaw18.BookReplaces", spec := "bookReplaces", inPlace := ["slices.overlaps[leechbook/api.Entry]"], named := ["leechbook/date.lengths"], apart := false, laid := [("leechbook/date.lengths", laid_leechbook_date_lengths)] }
def BookReplacesSaid : Prop := bookReplacesRow.holds Tryd.pinned (OpenSpec.ofChange bookReplacesSpec)

/-- ITS FALSE NEIGHBOUR: 'it returns false'. Refute it at one input. -/
def bookReplacesWrong : ChangeSpec := { name := "bookReplaces", fn := fun _ => fun
  | [d1, d2] => { results := [.lit (.bool false)], args := [d1, d2] }
  | _ => none }
def BookReplacesWrongFalsely : Prop := bookReplacesRow.holds Tryd.pinned (OpenSpec.ofChange bookReplacesWrong)

/-- 'leechbooklaw18.BookKeeps': WHATEVER THE INPUT: true; the input reads as it did. -/
def bookKeepsSpec : ChangeSpec := { name := "bookKeeps", fn := fun _ => fun
  | [d1, d2, d3, d4] => { results := [.lit (.bool true)], args := [d1, d2, d3, d4] }
  | _ => none }
def bookKeepsRow : OpenClaim := { program := "ytjgceppbhmmbjaadoor", sum := "4d69cb859dd367d79e3bb9b934b7be6dd56c79509e22950cfdf1b0291634ef2b", func := "leechbook/leechbooklaw18.BookKeeps", spec := "bookKeeps", inPlace := ["slices.overlaps[leechbook/api.Entry]"], named := ["leechbook/date.lengths"], apart := false, laid := [("leechbook/date.lengths", laid_leechbook_date_lengths)] }
def BookKeepsSaid : Prop := bookKeepsRow.holds Tryd.pinned (OpenSpec.ofChange bookKeepsSpec)

/-- ITS FALSE NEIGHBOUR: 'it returns false'. Refute it at one input. -/
def bookKeepsWrong : ChangeSpec := { name := "bookKeeps", fn := fun _ => fun
  | [d1, d2, d3, d4] => { results := [.lit (.bool false)], args := [d1, d2, d3, d4] }
  | _ => none }
def BookKeepsWrongFalsely : Prop := bookKeepsRow.holds Tryd.pinned (OpenSpec.ofChange bookKeepsWrong)

/- THE SECOND FORM. 'bulk': how many values and letters a reading holds, each counted each time it is reached (what is shared counts as often as it is met; a slice's spare places count too). A statement '..UptoSaid' is the law's where the arguments, and the package variables that the reading takes, are together of bulk at most 1048576: NARROWER than '..Said'. Prove '..Said' where nothing that the law and all that it calls make is longer than what came in: it says more and counts as full. Else prove '..UptoSaid'. A law counts once. -/
mutual
def uptoBulk {H : Type} : DataW H → Nat
  | .lit (.string bytes) => bytes.length + 1
  | .lit _ => 1
  | .nil => 1
  | .ptr d => uptoBulk d + 1
  | .slice elems spare => uptoBulkAll elems + uptoBulkAll spare + 1
  | .agg parts => uptoBulkAll parts + 1
  | .iface _ d => uptoBulk d + 1
  | .map entries => uptoBulkEntries entries + 1
  | .held _ => 1
def uptoBulkAll {H : Type} : List (DataW H) → Nat
  | [] => 0
  | d :: r => uptoBulk d + uptoBulkAll r
def uptoBulkEntries {H : Type} : List (Lit × DataW H) → Nat
  | [] => 0
  | x :: r => uptoBulkEntry x + uptoBulkEntries r
def uptoBulkEntry {H : Type} : Lit × DataW H → Nat
  | (.string bytes, d) => bytes.length + uptoBulk d + 1
  | (_, d) => uptoBulk d + 1
 end
def uptoSmall : (H : Type) → List (DataW H) → Bool := fun _ ds => decide (uptoBulkAll ds ≤ 1048576)
def OpenSpec.upto (s : _root_.Go.ChangeSpec) : _root_.Go.OpenSpec := { _root_.Go.OpenSpec.ofChange s with cond := some uptoSmall }

/-- 'leechbooklaw18.BookPuts', WHERE WHAT IT READS IS OF BULK AT MOST 1048576: true; the input reads as it did. -/
def bookPutsUptoRow : OpenClaim := { program := "ytjgceppbhmmbjaadoor", sum := "4d69cb859dd367d79e3bb9b934b7be6dd56c79509e22950cfdf1b0291634ef2b", func := "leechbook/leechbooklaw18.BookPuts", spec := "bookPuts", inPlace := ["slices.overlaps[leechbook/api.Entry]"], named := ["leechbook/date.lengths"], apart := false, laid := [("leechbook/date.lengths", laid_leechbook_date_lengths)], narrowed := true }
def BookPutsUptoSaid : Prop := bookPutsUptoRow.holds Tryd.pinned (OpenSpec.upto bookPutsSpec)

/-- 'leechbooklaw18.BookStands', WHERE WHAT IT READS IS OF BULK AT MOST 1048576: true; the input reads as it did. -/
def bookStandsUptoRow : OpenClaim := { program := "ytjgceppbhmmbjaadoor", sum := "4d69cb859dd367d79e3bb9b934b7be6dd56c79509e22950cfdf1b0291634ef2b", func := "leechbook/leechbooklaw18.BookStands", spec := "bookStands", inPlace := ["slices.overlaps[leechbook/api.Entry]"], named := ["leechbook/date.lengths"], apart := false, laid := [("leechbook/date.lengths", laid_leechbook_date_lengths)], narrowed := true }
def BookStandsUptoSaid : Prop := bookStandsUptoRow.holds Tryd.pinned (OpenSpec.upto bookStandsSpec)

/-- 'leechbooklaw18.BookOnce', WHERE WHAT IT READS IS OF BULK AT MOST 1048576: true; the input reads as it did. -/
def bookOnceUptoRow : OpenClaim := { program := "ytjgceppbhmmbjaadoor", sum := "4d69cb859dd367d79e3bb9b934b7be6dd56c79509e22950cfdf1b0291634ef2b", func := "leechbook/leechbooklaw18.BookOnce", spec := "bookOnce", inPlace := ["slices.overlaps[leechbook/api.Entry]"], named := ["leechbook/date.lengths"], apart := false, laid := [("leechbook/date.lengths", laid_leechbook_date_lengths)], narrowed := true }
def BookOnceUptoSaid : Prop := bookOnceUptoRow.holds Tryd.pinned (OpenSpec.upto bookOnceSpec)

/-- 'leechbooklaw18.BookVoids', WHERE WHAT IT READS IS OF BULK AT MOST 1048576: true; the input reads as it did. -/
def bookVoidsUptoRow : OpenClaim := { program := "ytjgceppbhmmbjaadoor", sum := "4d69cb859dd367d79e3bb9b934b7be6dd56c79509e22950cfdf1b0291634ef2b", func := "leechbook/leechbooklaw18.BookVoids", spec := "bookVoids", inPlace := ["slices.overlaps[leechbook/api.Entry]"], named := ["leechbook/date.lengths"], apart := false, laid := [("leechbook/date.lengths", laid_leechbook_date_lengths)], narrowed := true }
def BookVoidsUptoSaid : Prop := bookVoidsUptoRow.holds Tryd.pinned (OpenSpec.upto bookVoidsSpec)

/-- 'leechbooklaw18.BookReplaces', WHERE WHAT IT READS IS OF BULK AT MOST 1048576: true; the input reads as it did. -/
def bookReplacesUptoRow : OpenClaim := { program := "ytjgceppbhmmbjaadoor", sum := "4d69cb859dd367d79e3bb9b934b7be6dd56c79509e22950cfdf1b0291634ef2b", func := "leechbook/leechbooklaw18.BookReplaces", spec := "bookReplaces", inPlace := ["slices.overlaps[leechbook/api.Entry]"], named := ["leechbook/date.lengths"], apart := false, laid := [("leechbook/date.lengths", laid_leechbook_date_lengths)], narrowed := true }
def BookReplacesUptoSaid : Prop := bookReplacesUptoRow.holds Tryd.pinned (OpenSpec.upto bookReplacesSpec)

/-- 'leechbooklaw18.BookKeeps', WHERE WHAT IT READS IS OF BULK AT MOST 1048576: true; the input reads as it did. -/
def bookKeepsUptoRow : OpenClaim := { program := "ytjgceppbhmmbjaadoor", sum := "4d69cb859dd367d79e3bb9b934b7be6dd56c79509e22950cfdf1b0291634ef2b", func := "leechbook/leechbooklaw18.BookKeeps", spec := "bookKeeps", inPlace := ["slices.overlaps[leechbook/api.Entry]"], named := ["leechbook/date.lengths"], apart := false, laid := [("leechbook/date.lengths", laid_leechbook_date_lengths)], narrowed := true }
def BookKeepsUptoSaid : Prop := bookKeepsUptoRow.holds Tryd.pinned (OpenSpec.upto bookKeepsSpec)

end Rows
end Go.Proofs.YtjgceppbhmmbjaaDoor
