/-
  NARROWER THAN 'FOR EVERY INPUT', by the rows' own cells (each row's printed sentence says how): RulesHold: loops · RulesResolve: loops · RulesDrop: loops · RulesOrder: loops · RulesFirst: loops · RulesExcept: loops.
  DERIVED. THE GIVEN ROWS OF THIS SEAT. 6 by the template 'for every input the law returns true; each argument reads behind the call as it read before'; 0 by the template 'total and deterministic' (their statements: YtbokhiaiihpeeaaTotals.lean).
  GIVEN WITH THE SEED: the statements are not yours to turn. If you find one false, say at which input.
  Laid BY PROGRAM, IN A SANDBOX (cutbox-rows.mjs): the forced cells as the released guide's own fill.sh prints them over the translation 581ed7a407685e68… (all of the seat's roots in one cut). By AI agents, Wed Nov 11 2026. No macro, syntax, notation, axiom, sorry.
-/
import Derived.Test.YtbokhiaiihpeeaaChecked
import GoSem.Claim
import GoSem.ClaimJoined
import GoSem.ClaimMapViews
import Derived.JoinedTies
import Derived.KernelRfl
namespace Go.Proofs.Ytbokhiaiihpeeaa
/- THE CELL 'sum', in the pinned program and in every row, IS THE sha256 OF THE DUMP (.gsa) THAT YtbokhiaiihpeeaaProg.lean LOADS. Nothing in Lean hashes anything: it is a label: what it is worth is what the hold of that sum in a sandbox is worth. -/
noncomputable def Try.pinned : Pinned := { name := "ytbokhiaiihpeeaa", sum := "581ed7a407685e68a0f5f33f9fabbfc3dd757dbc58bba92d3af919b75f0021e3", checked := Try.checked }
namespace Rows
def none {H : Type} : Left H := { results := [], args := [] }

/-- 'leechbooklaw11.RulesHold': WHATEVER THE INPUT: true; the input reads as it did. -/
def rulesHoldSpec : ChangeSpec := { name := "rulesHold", fn := fun _ => fun
  | [d1, d2, d3] => { results := [.lit (.bool true)], args := [d1, d2, d3] }
  | _ => none }
def rulesHoldRow : OpenClaim := { program := "ytbokhiaiihpeeaa", sum := "581ed7a407685e68a0f5f33f9fabbfc3dd757dbc58bba92d3af919b75f0021e3", func := "leechbook/leechbooklaw11.RulesHold", spec := "rulesHold", recurses := true, loops := true, apart := false }
def RulesHoldSaid : Prop := rulesHoldRow.holds Try.pinned (OpenSpec.ofChange rulesHoldSpec)

/-- ITS FALSE NEIGHBOUR: 'it returns false'. Refute it at one input. -/
def rulesHoldWrong : ChangeSpec := { name := "rulesHold", fn := fun _ => fun
  | [d1, d2, d3] => { results := [.lit (.bool false)], args := [d1, d2, d3] }
  | _ => none }
def RulesHoldWrongFalsely : Prop := rulesHoldRow.holds Try.pinned (OpenSpec.ofChange rulesHoldWrong)

/-- 'leechbooklaw11.RulesResolve': WHATEVER THE INPUT: true; the input reads as it did. -/
def rulesResolveSpec : ChangeSpec := { name := "rulesResolve", fn := fun _ => fun
  | [d1, d2, d3] => { results := [.lit (.bool true)], args := [d1, d2, d3] }
  | _ => none }
def rulesResolveRow : OpenClaim := { program := "ytbokhiaiihpeeaa", sum := "581ed7a407685e68a0f5f33f9fabbfc3dd757dbc58bba92d3af919b75f0021e3", func := "leechbook/leechbooklaw11.RulesResolve", spec := "rulesResolve", recurses := true, loops := true, apart := false }
def RulesResolveSaid : Prop := rulesResolveRow.holds Try.pinned (OpenSpec.ofChange rulesResolveSpec)

/-- ITS FALSE NEIGHBOUR: 'it returns false'. Refute it at one input. -/
def rulesResolveWrong : ChangeSpec := { name := "rulesResolve", fn := fun _ => fun
  | [d1, d2, d3] => { results := [.lit (.bool false)], args := [d1, d2, d3] }
  | _ => none }
def RulesResolveWrongFalsely : Prop := rulesResolveRow.holds Try.pinned (OpenSpec.ofChange rulesResolveWrong)

/-- 'leechbooklaw11.RulesDrop': WHATEVER THE INPUT: true; the input reads as it did. -/
def rulesDropSpec : ChangeSpec := { name := "rulesDrop", fn := fun _ => fun
  | [d1, d2, d3, d4] => { results := [.lit (.bool true)], args := [d1, d2, d3, d4] }
  | _ => none }
def rulesDropRow : OpenClaim := { program := "ytbokhiaiihpeeaa", sum := "581ed7a407685e68a0f5f33f9fabbfc3dd757dbc58bba92d3af919b75f0021e3", func := "leechbook/leechbooklaw11.RulesDrop", spec := "rulesDrop", recurses := true, loops := true, apart := false }
def RulesDropSaid : Prop := rulesDropRow.holds Try.pinned (OpenSpec.ofChange rulesDropSpec)

/-- ITS FALSE NEIGHBOUR: 'it returns false'. Refute it at one input. -/
def rulesDropWrong : ChangeSpec := { name := "rulesDrop", fn := fun _ => fun
  | [d1, d2, d3, d4] => { results := [.lit (.bool false)], args := [d1, d2, d3, d4] }
  | _ => none }
def RulesDropWrongFalsely : Prop := rulesDropRow.holds Try.pinned (OpenSpec.ofChange rulesDropWrong)

/-- 'leechbooklaw11.RulesOrder': WHATEVER THE INPUT: true; the input reads as it did. -/
def rulesOrderSpec : ChangeSpec := { name := "rulesOrder", fn := fun _ => fun
  | [d1, d2, d3, d4] => { results := [.lit (.bool true)], args := [d1, d2, d3, d4] }
  | _ => none }
def rulesOrderRow : OpenClaim := { program := "ytbokhiaiihpeeaa", sum := "581ed7a407685e68a0f5f33f9fabbfc3dd757dbc58bba92d3af919b75f0021e3", func := "leechbook/leechbooklaw11.RulesOrder", spec := "rulesOrder", recurses := true, loops := true, apart := false }
def RulesOrderSaid : Prop := rulesOrderRow.holds Try.pinned (OpenSpec.ofChange rulesOrderSpec)

/-- ITS FALSE NEIGHBOUR: 'it returns false'. Refute it at one input. -/
def rulesOrderWrong : ChangeSpec := { name := "rulesOrder", fn := fun _ => fun
  | [d1, d2, d3, d4] => { results := [.lit (.bool false)], args := [d1, d2, d3, d4] }
  | _ => none }
def RulesOrderWrongFalsely : Prop := rulesOrderRow.holds Try.pinned (OpenSpec.ofChange rulesOrderWrong)

/-- 'leechbooklaw11.RulesFirst': WHATEVER THE INPUT: true; the input reads as it did. -/
def rulesFirstSpec : ChangeSpec := { name := "rulesFirst", fn := fun _ => fun
  | [d1, d2, d3, d4] => { results := [.lit (.bool true)], args := [d1, d2, d3, d4] }
  | _ => none }
def rulesFirstRow : OpenClaim := { program := "ytbokhiaiihpeeaa", sum := "581ed7a407685e68a0f5f33f9fabbfc3dd757dbc58bba92d3af919b75f0021e3", func := "leechbook/leechbooklaw11.RulesFirst", spec := "rulesFirst", recurses := true, loops := true, apart := false }
def RulesFirstSaid : Prop := rulesFirstRow.holds Try.pinned (OpenSpec.ofChange rulesFirstSpec)

/-- ITS FALSE NEIGHBOUR: 'it returns false'. Refute it at one input. -/
def rulesFirstWrong : ChangeSpec := { name := "rulesFirst", fn := fun _ => fun
  | [d1, d2, d3, d4] => { results := [.lit (.bool false)], args := [d1, d2, d3, d4] }
  | _ => none }
def RulesFirstWrongFalsely : Prop := rulesFirstRow.holds Try.pinned (OpenSpec.ofChange rulesFirstWrong)

/-- 'leechbooklaw11.RulesExcept': WHATEVER THE INPUT: true; the input reads as it did. -/
def rulesExceptSpec : ChangeSpec := { name := "rulesExcept", fn := fun _ => fun
  | [d1, d2, d3] => { results := [.lit (.bool true)], args := [d1, d2, d3] }
  | _ => none }
def rulesExceptRow : OpenClaim := { program := "ytbokhiaiihpeeaa", sum := "581ed7a407685e68a0f5f33f9fabbfc3dd757dbc58bba92d3af919b75f0021e3", func := "leechbook/leechbooklaw11.RulesExcept", spec := "rulesExcept", recurses := true, loops := true, apart := false }
def RulesExceptSaid : Prop := rulesExceptRow.holds Try.pinned (OpenSpec.ofChange rulesExceptSpec)

/-- ITS FALSE NEIGHBOUR: 'it returns false'. Refute it at one input. -/
def rulesExceptWrong : ChangeSpec := { name := "rulesExcept", fn := fun _ => fun
  | [d1, d2, d3] => { results := [.lit (.bool false)], args := [d1, d2, d3] }
  | _ => none }
def RulesExceptWrongFalsely : Prop := rulesExceptRow.holds Try.pinned (OpenSpec.ofChange rulesExceptWrong)

/- THE SECOND FORM. 'bulk': how many values and letters a reading holds, each counted each time it is reached (what is shared counts as often as it is met; a slice's spare places count too). A statement '..UptoSaid' is the law's where the arguments, and the package variables that the reading takes, are together of bulk at most 1048576: NARROWER than '..Said'. Prove '..Said' where nothing that the law and all that it calls make is longer than what came in: it says more and counts as full. Else prove '..UptoSaid'. A law counts once. -/
mutual
def uptoBulk {H : Type} : DataW H → Nat
  | .lit (.string bytes) => bytes.length + 1
  | .lit _ => 1
  | .nil => 1
  | .ptr d => uptoBulk d + 1
  | .slice elems spare => uptoBulkAll elems + uptoBulkAll spare + 1
  | .agg parts => uptoBulkAll parts + 1
  | .iface _ d => uptoBulk d + 1
  | .map entries => uptoBulkEntries entries + 1
  | .held _ => 1
def uptoBulkAll {H : Type} : List (DataW H) → Nat
  | [] => 0
  | d :: r => uptoBulk d + uptoBulkAll r
def uptoBulkEntries {H : Type} : List (Lit × DataW H) → Nat
  | [] => 0
  | x :: r => uptoBulkEntry x + uptoBulkEntries r
def uptoBulkEntry {H : Type} : Lit × DataW H → Nat
  | (.string bytes, d) => bytes.length + uptoBulk d + 1
  | (_, d) => uptoBulk d + 1
 end
def uptoSmall : (H : Type) → List (DataW H) → Bool := fun _ ds => decide (uptoBulkAll ds ≤ 1048576)
def OpenSpec.upto (s : _root_.Go.ChangeSpec) : _root_.Go.OpenSpec := { _root_.Go.OpenSpec.ofChange s with cond := some uptoSmall }

/-- 'leechbooklaw11.RulesHold', WHERE WHAT IT READS IS OF BULK AT MOST 1048576: true; the input reads as it did. -/
def rulesHoldUptoRow : OpenClaim := { program := "ytbokhiaiihpeeaa", sum := "581ed7a407685e68a0f5f33f9fabbfc3dd757dbc58bba92d3af919b75f0021e3", func := "leechbook/leechbooklaw11.RulesHold", spec := "rulesHold", recurses := true, loops := true, apart := false, narrowed := true }
def RulesHoldUptoSaid : Prop := rulesHoldUptoRow.holds Try.pinned (OpenSpec.upto rulesHoldSpec)

/-- 'leechbooklaw11.RulesResolve', WHERE WHAT IT READS IS OF BULK AT MOST 1048576: true; the input reads as it did. -/
def rulesResolveUptoRow : OpenClaim := { program := "ytbokhiaiihpeeaa", sum := "581ed7a407685e68a0f5f33f9fabbfc3dd757dbc58bba92d3af919b75f0021e3", func := "leechbook/leechbooklaw11.RulesResolve", spec := "rulesResolve", recurses := true, loops := true, apart := false, narrowed := true }
def RulesResolveUptoSaid : Prop := rulesResolveUptoRow.holds Try.pinned (OpenSpec.upto rulesResolveSpec)

/-- 'leechbooklaw11.RulesDrop', WHERE WHAT IT READS IS OF BULK AT MOST 1048576: true; the input reads as it did. -/
def rulesDropUptoRow : OpenClaim := { program := "ytbokhiaiihpeeaa", sum := "581ed7a407685e68a0f5f33f9fabbfc3dd757dbc58bba92d3af919b75f0021e3", func := "leechbook/leechbooklaw11.RulesDrop", spec := "rulesDrop", recurses := true, loops := true, apart := false, narrowed := true }
def RulesDropUptoSaid : Prop := rulesDropUptoRow.holds Try.pinned (OpenSpec.upto rulesDropSpec)

/-- 'leechbooklaw11.RulesOrder', WHERE WHAT IT READS IS OF BULK AT MOST 1048576: true; the input reads as it did. -/
def rulesOrderUptoRow : OpenClaim := { program := "ytbokhiaiihpeeaa", sum := "581ed7a407685e68a0f5f33f9fabbfc3dd757dbc58bba92d3af919b75f0021e3", func := "leechbook/leechbooklaw11.RulesOrder", spec := "rulesOrder", recurses := true, loops := true, apart := false, narrowed := true }
def RulesOrderUptoSaid : Prop := rulesOrderUptoRow.holds Try.pinned (OpenSpec.upto rulesOrderSpec)

/-- 'leechbooklaw11.RulesFirst', WHERE WHAT IT READS IS OF BULK AT MOST 1048576: true; the input reads as it did. -/
def rulesFirstUptoRow : OpenClaim := { program := "ytbokhiaiihpeeaa", sum := "581ed7a407685e68a0f5f33f9fabbfc3dd757dbc58bba92d3af919b75f0021e3", func := "leechbook/leechbooklaw11.RulesFirst", spec := "rulesFirst", recurses := true, loops := true, apart := false, narrowed := true }
def RulesFirstUptoSaid : Prop := rulesFirstUptoRow.holds Try.pinned (OpenSpec.upto rulesFirstSpec)

/-- 'leechbooklaw11.RulesExcept', WHERE WHAT IT READS IS OF BULK AT MOST 1048576: true; the input reads as it did. -/
def rulesExceptUptoRow : OpenClaim := { program := "ytbokhiaiihpeeaa", sum := "581ed7a407685e68a0f5f33f9fabbfc3dd757dbc58bba92d3af919b75f0021e3", func := "leechbook/leechbooklaw11.RulesExcept", spec := "rulesExcept", recurses := true, loops := true, apart := false, narrowed := true }
def RulesExceptUptoSaid : Prop := rulesExceptUptoRow.holds Try.pinned (OpenSpec.upto rulesExceptSpec)

end Rows
end Go.Proofs.Ytbokhiaiihpeeaa
