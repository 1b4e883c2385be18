/-
  No cell of these rows narrows 'for every input' (looked for: loops, veiled, ifaces, maps, wideKeys, modest, calm, conditions, laid).
  DERIVED. THE GIVEN ROWS OF THIS SEAT. 6 by the template 'for every input the law returns true; each argument reads behind the call as it read before'; 0 by the template 'total and deterministic' (their statements: YtpfpjbeofogbgaaTotals.lean).
  GIVEN WITH THE SEED: the statements are not yours to turn. If you find one false, say at which input.
  Laid BY PROGRAM, IN A SANDBOX (cutbox-rows.mjs): the forced cells as the released guide's own fill.sh prints them over the translation f9706f694205b8d4… (all of the seat's roots in one cut). By AI agents, Wed Nov 11 2026. No macro, syntax, notation, axiom, sorry.
-/
import Derived.Test.YtpfpjbeofogbgaaChecked
import GoSem.Claim
import GoSem.ClaimJoined
import GoSem.ClaimMapViews
import Derived.JoinedTies
import Derived.KernelRfl
namespace Go.Proofs.Ytpfpjbeofogbgaa
/- THE CELL 'sum', in the pinned program and in every row, IS THE sha256 OF THE DUMP (.gsa) THAT YtpfpjbeofogbgaaProg.lean LOADS. Nothing in Lean hashes anything: it is a label: what it is worth is what the hold of that sum in a sandbox is worth. -/
noncomputable def Try.pinned : Pinned := { name := "ytpfpjbeofogbgaa", sum := "f9706f694205b8d4661016bde8ae57631310dee936927923ddccb895b436e65e", checked := Try.checked }
namespace Rows
def none {H : Type} : Left H := { results := [], args := [] }

/-- 'leechbooklaw21.RemitMakes': WHATEVER THE INPUT: true; the input reads as it did. -/
def remitMakesSpec : ChangeSpec := { name := "remitMakes", fn := fun _ => fun
  | [d1, d2, d3, d4] => { results := [.lit (.bool true)], args := [d1, d2, d3, d4] }
  | _ => none }
def remitMakesRow : OpenClaim := { program := "ytpfpjbeofogbgaa", sum := "f9706f694205b8d4661016bde8ae57631310dee936927923ddccb895b436e65e", func := "leechbook/leechbooklaw21.RemitMakes", spec := "remitMakes", apart := false }
def RemitMakesSaid : Prop := remitMakesRow.holds Try.pinned (OpenSpec.ofChange remitMakesSpec)

/-- ITS FALSE NEIGHBOUR: 'it returns false'. Refute it at one input. -/
def remitMakesWrong : ChangeSpec := { name := "remitMakes", fn := fun _ => fun
  | [d1, d2, d3, d4] => { results := [.lit (.bool false)], args := [d1, d2, d3, d4] }
  | _ => none }
def RemitMakesWrongFalsely : Prop := remitMakesRow.holds Try.pinned (OpenSpec.ofChange remitMakesWrong)

/-- 'leechbooklaw21.RemitChecks': WHATEVER THE INPUT: true; the input reads as it did. -/
def remitChecksSpec : ChangeSpec := { name := "remitChecks", fn := fun _ => fun
  | [d] => { results := [.lit (.bool true)], args := [d] }
  | _ => none }
def remitChecksRow : OpenClaim := { program := "ytpfpjbeofogbgaa", sum := "f9706f694205b8d4661016bde8ae57631310dee936927923ddccb895b436e65e", func := "leechbook/leechbooklaw21.RemitChecks", spec := "remitChecks", apart := false }
def RemitChecksSaid : Prop := remitChecksRow.holds Try.pinned (OpenSpec.ofChange remitChecksSpec)

/-- ITS FALSE NEIGHBOUR: 'it returns false'. Refute it at one input. -/
def remitChecksWrong : ChangeSpec := { name := "remitChecks", fn := fun _ => fun
  | [d] => { results := [.lit (.bool false)], args := [d] }
  | _ => none }
def RemitChecksWrongFalsely : Prop := remitChecksRow.holds Try.pinned (OpenSpec.ofChange remitChecksWrong)

/-- 'leechbooklaw21.RemitBalances': WHATEVER THE INPUT: true; the input reads as it did. -/
def remitBalancesSpec : ChangeSpec := { name := "remitBalances", fn := fun _ => fun
  | [d1, d2, d3, d4] => { results := [.lit (.bool true)], args := [d1, d2, d3, d4] }
  | _ => none }
def remitBalancesRow : OpenClaim := { program := "ytpfpjbeofogbgaa", sum := "f9706f694205b8d4661016bde8ae57631310dee936927923ddccb895b436e65e", func := "leechbook/leechbooklaw21.RemitBalances", spec := "remitBalances", apart := false }
def RemitBalancesSaid : Prop := remitBalancesRow.holds Try.pinned (OpenSpec.ofChange remitBalancesSpec)

/-- ITS FALSE NEIGHBOUR: 'it returns false'. Refute it at one input. -/
def remitBalancesWrong : ChangeSpec := { name := "remitBalances", fn := fun _ => fun
  | [d1, d2, d3, d4] => { results := [.lit (.bool false)], args := [d1, d2, d3, d4] }
  | _ => none }
def RemitBalancesWrongFalsely : Prop := remitBalancesRow.holds Try.pinned (OpenSpec.ofChange remitBalancesWrong)

/-- 'leechbooklaw21.RemitQuiet': WHATEVER THE INPUT: true; the input reads as it did. -/
def remitQuietSpec : ChangeSpec := { name := "remitQuiet", fn := fun _ => fun
  | [d1, d2, d3, d4] => { results := [.lit (.bool true)], args := [d1, d2, d3, d4] }
  | _ => none }
def remitQuietRow : OpenClaim := { program := "ytpfpjbeofogbgaa", sum := "f9706f694205b8d4661016bde8ae57631310dee936927923ddccb895b436e65e", func := "leechbook/leechbooklaw21.RemitQuiet", spec := "remitQuiet", apart := false }
def RemitQuietSaid : Prop := remitQuietRow.holds Try.pinned (OpenSpec.ofChange remitQuietSpec)

/-- ITS FALSE NEIGHBOUR: 'it returns false'. Refute it at one input. -/
def remitQuietWrong : ChangeSpec := { name := "remitQuiet", fn := fun _ => fun
  | [d1, d2, d3, d4] => { results := [.lit (.bool false)], args := [d1, d2, d3, d4] }
  | _ => none }
def RemitQuietWrongFalsely : Prop := remitQuietRow.holds Try.pinned (OpenSpec.ofChange remitQuietWrong)

/-- 'leechbooklaw21.RemitRuns': WHATEVER THE INPUT: true; the input reads as it did. -/
def remitRunsSpec : ChangeSpec := { name := "remitRuns", fn := fun _ => fun
  | [d1, d2, d3, d4, d5] => { results := [.lit (.bool true)], args := [d1, d2, d3, d4, d5] }
  | _ => none }
def remitRunsRow : OpenClaim := { program := "ytpfpjbeofogbgaa", sum := "f9706f694205b8d4661016bde8ae57631310dee936927923ddccb895b436e65e", func := "leechbook/leechbooklaw21.RemitRuns", spec := "remitRuns", apart := false }
def RemitRunsSaid : Prop := remitRunsRow.holds Try.pinned (OpenSpec.ofChange remitRunsSpec)

/-- ITS FALSE NEIGHBOUR: 'it returns false'. Refute it at one input. -/
def remitRunsWrong : ChangeSpec := { name := "remitRuns", fn := fun _ => fun
  | [d1, d2, d3, d4, d5] => { results := [.lit (.bool false)], args := [d1, d2, d3, d4, d5] }
  | _ => none }
def RemitRunsWrongFalsely : Prop := remitRunsRow.holds Try.pinned (OpenSpec.ofChange remitRunsWrong)

/-- 'leechbooklaw21.RemitOnce': WHATEVER THE INPUT: true; the input reads as it did. -/
def remitOnceSpec : ChangeSpec := { name := "remitOnce", fn := fun _ => fun
  | [d1, d2, d3, d4, d5] => { results := [.lit (.bool true)], args := [d1, d2, d3, d4, d5] }
  | _ => none }
def remitOnceRow : OpenClaim := { program := "ytpfpjbeofogbgaa", sum := "f9706f694205b8d4661016bde8ae57631310dee936927923ddccb895b436e65e", func := "leechbook/leechbooklaw21.RemitOnce", spec := "remitOnce", apart := false }
def RemitOnceSaid : Prop := remitOnceRow.holds Try.pinned (OpenSpec.ofChange remitOnceSpec)

/-- ITS FALSE NEIGHBOUR: 'it returns false'. Refute it at one input. -/
def remitOnceWrong : ChangeSpec := { name := "remitOnce", fn := fun _ => fun
  | [d1, d2, d3, d4, d5] => { results := [.lit (.bool false)], args := [d1, d2, d3, d4, d5] }
  | _ => none }
def RemitOnceWrongFalsely : Prop := remitOnceRow.holds Try.pinned (OpenSpec.ofChange remitOnceWrong)

/- THE SECOND FORM. 'bulk': how many values and letters a reading holds, each counted each time it is reached (what is shared counts as often as it is met; a slice's spare places count too). A statement '..UptoSaid' is the law's where the arguments, and the package variables that the reading takes, are together of bulk at most 1048576: NARROWER than '..Said'. Prove '..Said' where nothing that the law and all that it calls make is longer than what came in: it says more and counts as full. Else prove '..UptoSaid'. A law counts once. -/
mutual
def uptoBulk {H : Type} : DataW H → Nat
  | .lit (.string bytes) => bytes.length + 1
  | .lit _ => 1
  | .nil => 1
  | .ptr d => uptoBulk d + 1
  | .slice elems spare => uptoBulkAll elems + uptoBulkAll spare + 1
  | .agg parts => uptoBulkAll parts + 1
  | .iface _ d => uptoBulk d + 1
  | .map entries => uptoBulkEntries entries + 1
  | .held _ => 1
def uptoBulkAll {H : Type} : List (DataW H) → Nat
  | [] => 0
  | d :: r => uptoBulk d + uptoBulkAll r
def uptoBulkEntries {H : Type} : List (Lit × DataW H) → Nat
  | [] => 0
  | x :: r => uptoBulkEntry x + uptoBulkEntries r
def uptoBulkEntry {H : Type} : Lit × DataW H → Nat
  | (.string bytes, d) => bytes.length + uptoBulk d + 1
  | (_, d) => uptoBulk d + 1
 end
def uptoSmall : (H : Type) → List (DataW H) → Bool := fun _ ds => decide (uptoBulkAll ds ≤ 1048576)
def OpenSpec.upto (s : _root_.Go.ChangeSpec) : _root_.Go.OpenSpec := { _root_.Go.OpenSpec.ofChange s with cond := some uptoSmall }

/-- 'leechbooklaw21.RemitMakes', WHERE WHAT IT READS IS OF BULK AT MOST 1048576: true; the input reads as it did. -/
def remitMakesUptoRow : OpenClaim := { program := "ytpfpjbeofogbgaa", sum := "f9706f694205b8d4661016bde8ae57631310dee936927923ddccb895b436e65e", func := "leechbook/leechbooklaw21.RemitMakes", spec := "remitMakes", apart := false, narrowed := true }
def RemitMakesUptoSaid : Prop := remitMakesUptoRow.holds Try.pinned (OpenSpec.upto remitMakesSpec)

/-- 'leechbooklaw21.RemitChecks', WHERE WHAT IT READS IS OF BULK AT MOST 1048576: true; the input reads as it did. -/
def remitChecksUptoRow : OpenClaim := { program := "ytpfpjbeofogbgaa", sum := "f9706f694205b8d4661016bde8ae57631310dee936927923ddccb895b436e65e", func := "leechbook/leechbooklaw21.RemitChecks", spec := "remitChecks", apart := false, narrowed := true }
def RemitChecksUptoSaid : Prop := remitChecksUptoRow.holds Try.pinned (OpenSpec.upto remitChecksSpec)

/-- 'leechbooklaw21.RemitBalances', WHERE WHAT IT READS IS OF BULK AT MOST 1048576: true; the input reads as it did. -/
def remitBalancesUptoRow : OpenClaim := { program := "ytpfpjbeofogbgaa", sum := "f9706f694205b8d4661016bde8ae57631310dee936927923ddccb895b436e65e", func := "leechbook/leechbooklaw21.RemitBalances", spec := "remitBalances", apart := false, narrowed := true }
def RemitBalancesUptoSaid : Prop := remitBalancesUptoRow.holds Try.pinned (OpenSpec.upto remitBalancesSpec)

/-- 'leechbooklaw21.RemitQuiet', WHERE WHAT IT READS IS OF BULK AT MOST 1048576: true; the input reads as it did. -/
def remitQuietUptoRow : OpenClaim := { program := "ytpfpjbeofogbgaa", sum := "f9706f694205b8d4661016bde8ae57631310dee936927923ddccb895b436e65e", func := "leechbook/leechbooklaw21.RemitQuiet", spec := "remitQuiet", apart := false, narrowed := true }
def RemitQuietUptoSaid : Prop := remitQuietUptoRow.holds Try.pinned (OpenSpec.upto remitQuietSpec)

/-- 'leechbooklaw21.RemitRuns', WHERE WHAT IT READS IS OF BULK AT MOST 1048576: true; the input reads as it did. -/
def remitRunsUptoRow : OpenClaim := { program := "ytpfpjbeofogbgaa", sum := "f9706f694205b8d4661016bde8ae57631310dee936927923ddccb895b436e65e", func := "leechbook/leechbooklaw21.RemitRuns", spec := "remitRuns", apart := false, narrowed := true }
def RemitRunsUptoSaid : Prop := remitRunsUptoRow.holds Try.pinned (OpenSpec.upto remitRunsSpec)

/-- 'leechbooklaw21.RemitOnce', WHERE WHAT IT READS IS OF BULK AT MOST 1048576: true; the input reads as it did. -/
def remitOnceUptoRow : OpenClaim := { program := "ytpfpjbeofogbgaa", sum := "f9706f694205b8d4661016bde8ae57631310dee936927923ddccb895b436e65e", func := "leechbook/leechbooklaw21.RemitOnce", spec := "remitOnce", apart := false, narrowed := true }
def RemitOnceUptoSaid : Prop := remitOnceUptoRow.holds Try.pinned (OpenSpec.upto remitOnceSpec)

end Rows
end Go.Proofs.Ytpfpjbeofogbgaa
