/-
  No cell of these rows narrows 'for every input' (looked for: loops, veiled, ifaces, maps, wideKeys, modest, calm, conditions, laid).
  DERIVED. THE GIVEN ROWS OF THIS SEAT. 5 by the template 'for every input the law returns true; each argument reads behind the call as it read before'; 0 by the template 'total and deterministic' (their statements: YtpnkgkchpoehcaaTotals.lean).
  GIVEN WITH THE SEED: the statements are not yours to turn. If you find one false, say at which input.
  Laid BY PROGRAM, IN A SANDBOX (cutbox-rows.mjs): the forced cells as the released guide's own fill.sh prints them over the translation 96d60235b3281cc7… (all of the seat's roots in one cut). By AI agents, Wed Nov 11 2026. No macro, syntax, notation, axiom, sorry.
-/
import Derived.Test.YtpnkgkchpoehcaaChecked
import GoSem.Claim
import GoSem.ClaimJoined
import GoSem.ClaimMapViews
import Derived.JoinedTies
import Derived.KernelRfl
namespace Go.Proofs.Ytpnkgkchpoehcaa
/- THE CELL 'sum', in the pinned program and in every row, IS THE sha256 OF THE DUMP (.gsa) THAT YtpnkgkchpoehcaaProg.lean LOADS. Nothing in Lean hashes anything: it is a label: what it is worth is what the hold of that sum in a sandbox is worth. -/
noncomputable def Try.pinned : Pinned := { name := "ytpnkgkchpoehcaa", sum := "96d60235b3281cc7642328f12fccf482396fc38424e689c33addb2e7213ca8dc", checked := Try.checked }
namespace Rows
def none {H : Type} : Left H := { results := [], args := [] }

/-- 'leechbooklaw20.SvcMakes': WHATEVER THE INPUT: true; the input reads as it did. -/
def svcMakesSpec : ChangeSpec := { name := "svcMakes", fn := fun _ => fun
  | [d1, d2] => { results := [.lit (.bool true)], args := [d1, d2] }
  | _ => none }
def svcMakesRow : OpenClaim := { program := "ytpnkgkchpoehcaa", sum := "96d60235b3281cc7642328f12fccf482396fc38424e689c33addb2e7213ca8dc", func := "leechbook/leechbooklaw20.SvcMakes", spec := "svcMakes", apart := false }
def SvcMakesSaid : Prop := svcMakesRow.holds Try.pinned (OpenSpec.ofChange svcMakesSpec)

/-- ITS FALSE NEIGHBOUR: 'it returns false'. Refute it at one input. -/
def svcMakesWrong : ChangeSpec := { name := "svcMakes", fn := fun _ => fun
  | [d1, d2] => { results := [.lit (.bool false)], args := [d1, d2] }
  | _ => none }
def SvcMakesWrongFalsely : Prop := svcMakesRow.holds Try.pinned (OpenSpec.ofChange svcMakesWrong)

/-- 'leechbooklaw20.SvcChecks': WHATEVER THE INPUT: true; the input reads as it did. -/
def svcChecksSpec : ChangeSpec := { name := "svcChecks", fn := fun _ => fun
  | [d1, d2] => { results := [.lit (.bool true)], args := [d1, d2] }
  | _ => none }
def svcChecksRow : OpenClaim := { program := "ytpnkgkchpoehcaa", sum := "96d60235b3281cc7642328f12fccf482396fc38424e689c33addb2e7213ca8dc", func := "leechbook/leechbooklaw20.SvcChecks", spec := "svcChecks", apart := false }
def SvcChecksSaid : Prop := svcChecksRow.holds Try.pinned (OpenSpec.ofChange svcChecksSpec)

/-- ITS FALSE NEIGHBOUR: 'it returns false'. Refute it at one input. -/
def svcChecksWrong : ChangeSpec := { name := "svcChecks", fn := fun _ => fun
  | [d1, d2] => { results := [.lit (.bool false)], args := [d1, d2] }
  | _ => none }
def SvcChecksWrongFalsely : Prop := svcChecksRow.holds Try.pinned (OpenSpec.ofChange svcChecksWrong)

/-- 'leechbooklaw20.SvcBalances': WHATEVER THE INPUT: true; the input reads as it did. -/
def svcBalancesSpec : ChangeSpec := { name := "svcBalances", fn := fun _ => fun
  | [d1, d2] => { results := [.lit (.bool true)], args := [d1, d2] }
  | _ => none }
def svcBalancesRow : OpenClaim := { program := "ytpnkgkchpoehcaa", sum := "96d60235b3281cc7642328f12fccf482396fc38424e689c33addb2e7213ca8dc", func := "leechbook/leechbooklaw20.SvcBalances", spec := "svcBalances", apart := false }
def SvcBalancesSaid : Prop := svcBalancesRow.holds Try.pinned (OpenSpec.ofChange svcBalancesSpec)

/-- ITS FALSE NEIGHBOUR: 'it returns false'. Refute it at one input. -/
def svcBalancesWrong : ChangeSpec := { name := "svcBalances", fn := fun _ => fun
  | [d1, d2] => { results := [.lit (.bool false)], args := [d1, d2] }
  | _ => none }
def SvcBalancesWrongFalsely : Prop := svcBalancesRow.holds Try.pinned (OpenSpec.ofChange svcBalancesWrong)

/-- 'leechbooklaw20.SvcSums': WHATEVER THE INPUT: true; the input reads as it did. -/
def svcSumsSpec : ChangeSpec := { name := "svcSums", fn := fun _ => fun
  | [d] => { results := [.lit (.bool true)], args := [d] }
  | _ => none }
def svcSumsRow : OpenClaim := { program := "ytpnkgkchpoehcaa", sum := "96d60235b3281cc7642328f12fccf482396fc38424e689c33addb2e7213ca8dc", func := "leechbook/leechbooklaw20.SvcSums", spec := "svcSums", apart := false }
def SvcSumsSaid : Prop := svcSumsRow.holds Try.pinned (OpenSpec.ofChange svcSumsSpec)

/-- ITS FALSE NEIGHBOUR: 'it returns false'. Refute it at one input. -/
def svcSumsWrong : ChangeSpec := { name := "svcSums", fn := fun _ => fun
  | [d] => { results := [.lit (.bool false)], args := [d] }
  | _ => none }
def SvcSumsWrongFalsely : Prop := svcSumsRow.holds Try.pinned (OpenSpec.ofChange svcSumsWrong)

/-- 'leechbooklaw20.SvcParts': WHATEVER THE INPUT: true; the input reads as it did. -/
def svcPartsSpec : ChangeSpec := { name := "svcParts", fn := fun _ => fun
  | [d1, d2, d3] => { results := [.lit (.bool true)], args := [d1, d2, d3] }
  | _ => none }
def svcPartsRow : OpenClaim := { program := "ytpnkgkchpoehcaa", sum := "96d60235b3281cc7642328f12fccf482396fc38424e689c33addb2e7213ca8dc", func := "leechbook/leechbooklaw20.SvcParts", spec := "svcParts", apart := false }
def SvcPartsSaid : Prop := svcPartsRow.holds Try.pinned (OpenSpec.ofChange svcPartsSpec)

/-- ITS FALSE NEIGHBOUR: 'it returns false'. Refute it at one input. -/
def svcPartsWrong : ChangeSpec := { name := "svcParts", fn := fun _ => fun
  | [d1, d2, d3] => { results := [.lit (.bool false)], args := [d1, d2, d3] }
  | _ => none }
def SvcPartsWrongFalsely : Prop := svcPartsRow.holds Try.pinned (OpenSpec.ofChange svcPartsWrong)

/- THE SECOND FORM. 'bulk': how many values and letters a reading holds, each counted each time it is reached (what is shared counts as often as it is met; a slice's spare places count too). A statement '..UptoSaid' is the law's where the arguments, and the package variables that the reading takes, are together of bulk at most 1048576: NARROWER than '..Said'. Prove '..Said' where nothing that the law and all that it calls make is longer than what came in: it says more and counts as full. Else prove '..UptoSaid'. A law counts once. -/
mutual
def uptoBulk {H : Type} : DataW H → Nat
  | .lit (.string bytes) => bytes.length + 1
  | .lit _ => 1
  | .nil => 1
  | .ptr d => uptoBulk d + 1
  | .slice elems spare => uptoBulkAll elems + uptoBulkAll spare + 1
  | .agg parts => uptoBulkAll parts + 1
  | .iface _ d => uptoBulk d + 1
  | .map entries => uptoBulkEntries entries + 1
  | .held _ => 1
def uptoBulkAll {H : Type} : List (DataW H) → Nat
  | [] => 0
  | d :: r => uptoBulk d + uptoBulkAll r
def uptoBulkEntries {H : Type} : List (Lit × DataW H) → Nat
  | [] => 0
  | x :: r => uptoBulkEntry x + uptoBulkEntries r
def uptoBulkEntry {H : Type} : Lit × DataW H → Nat
  | (.string bytes, d) => bytes.length + uptoBulk d + 1
  | (_, d) => uptoBulk d + 1
 end
def uptoSmall : (H : Type) → List (DataW H) → Bool := fun _ ds => decide (uptoBulkAll ds ≤ 1048576)
def OpenSpec.upto (s : _root_.Go.ChangeSpec) : _root_.Go.OpenSpec := { _root_.Go.OpenSpec.ofChange s with cond := some uptoSmall }

/-- 'leechbooklaw20.SvcMakes', WHERE WHAT IT READS IS OF BULK AT MOST 1048576: true; the input reads as it did. -/
def svcMakesUptoRow : OpenClaim := { program := "ytpnkgkchpoehcaa", sum := "96d60235b3281cc7642328f12fccf482396fc38424e689c33addb2e7213ca8dc", func := "leechbook/leechbooklaw20.SvcMakes", spec := "svcMakes", apart := false, narrowed := true }
def SvcMakesUptoSaid : Prop := svcMakesUptoRow.holds Try.pinned (OpenSpec.upto svcMakesSpec)

/-- 'leechbooklaw20.SvcChecks', WHERE WHAT IT READS IS OF BULK AT MOST 1048576: true; the input reads as it did. -/
def svcChecksUptoRow : OpenClaim := { program := "ytpnkgkchpoehcaa", sum := "96d60235b3281cc7642328f12fccf482396fc38424e689c33addb2e7213ca8dc", func := "leechbook/leechbooklaw20.SvcChecks", spec := "svcChecks", apart := false, narrowed := true }
def SvcChecksUptoSaid : Prop := svcChecksUptoRow.holds Try.pinned (OpenSpec.upto svcChecksSpec)

/-- 'leechbooklaw20.SvcBalances', WHERE WHAT IT READS IS OF BULK AT MOST 1048576: true; the input reads as it did. -/
def svcBalancesUptoRow : OpenClaim := { program := "ytpnkgkchpoehcaa", sum := "96d60235b3281cc7642328f12fccf482396fc38424e689c33addb2e7213ca8dc", func := "leechbook/leechbooklaw20.SvcBalances", spec := "svcBalances", apart := false, narrowed := true }
def SvcBalancesUptoSaid : Prop := svcBalancesUptoRow.holds Try.pinned (OpenSpec.upto svcBalancesSpec)

/-- 'leechbooklaw20.SvcSums', WHERE WHAT IT READS IS OF BULK AT MOST 1048576: true; the input reads as it did. -/
def svcSumsUptoRow : OpenClaim := { program := "ytpnkgkchpoehcaa", sum := "96d60235b3281cc7642328f12fccf482396fc38424e689c33addb2e7213ca8dc", func := "leechbook/leechbooklaw20.SvcSums", spec := "svcSums", apart := false, narrowed := true }
def SvcSumsUptoSaid : Prop := svcSumsUptoRow.holds Try.pinned (OpenSpec.upto svcSumsSpec)

/-- 'leechbooklaw20.SvcParts', WHERE WHAT IT READS IS OF BULK AT MOST 1048576: true; the input reads as it did. -/
def svcPartsUptoRow : OpenClaim := { program := "ytpnkgkchpoehcaa", sum := "96d60235b3281cc7642328f12fccf482396fc38424e689c33addb2e7213ca8dc", func := "leechbook/leechbooklaw20.SvcParts", spec := "svcParts", apart := false, narrowed := true }
def SvcPartsUptoSaid : Prop := svcPartsUptoRow.holds Try.pinned (OpenSpec.upto svcPartsSpec)

end Rows
end Go.Proofs.Ytpnkgkchpoehcaa
