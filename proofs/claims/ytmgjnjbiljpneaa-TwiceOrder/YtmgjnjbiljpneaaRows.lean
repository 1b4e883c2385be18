/-
  No cell of these rows narrows 'for every input' (looked for: loops, veiled, ifaces, maps, wideKeys, modest, calm, conditions, laid).
  DERIVED. THE GIVEN ROWS OF THIS SEAT. 6 by the template 'for every input the law returns true; each argument reads behind the call as it read before'; 0 by the template 'total and deterministic' (their statements: YtmgjnjbiljpneaaTotals.lean).
  GIVEN WITH THE SEED: the statements are not yours to turn. If you find one false, say at which input.
  Laid BY PROGRAM, IN A SANDBOX (cutbox-rows.mjs): the forced cells as the released guide's own fill.sh prints them over the translation 621e6af43ec40468… (all of the seat's roots in one cut). By AI agents, Wed Nov 11 2026. No macro, syntax, notation, axiom, sorry.
-/
import Derived.Test.YtmgjnjbiljpneaaChecked
import GoSem.Claim
import GoSem.ClaimJoined
import GoSem.ClaimMapViews
import Derived.JoinedTies
import Derived.KernelRfl
namespace Go.Proofs.Ytmgjnjbiljpneaa
/- THE CELL 'sum', in the pinned program and in every row, IS THE sha256 OF THE DUMP (.gsa) THAT YtmgjnjbiljpneaaProg.lean LOADS. Nothing in Lean hashes anything: it is a label: what it is worth is what the hold of that sum in a sandbox is worth. -/
noncomputable def Try.pinned : Pinned := { name := "ytmgjnjbiljpneaa", sum := "621e6af43ec40468cd638fc810c3a3ca15503c9444f4162c367965c1aa4a71c4", checked := Try.checked }
namespace Rows
def none {H : Type} : Left H := { results := [], args := [] }

/-- 'leechbooklaw14.TwiceKeys': WHATEVER THE INPUT: true; the input reads as it did. -/
def twiceKeysSpec : ChangeSpec := { name := "twiceKeys", fn := fun _ => fun
  | [d] => { results := [.lit (.bool true)], args := [d] }
  | _ => none }
def twiceKeysRow : OpenClaim := { program := "ytmgjnjbiljpneaa", sum := "621e6af43ec40468cd638fc810c3a3ca15503c9444f4162c367965c1aa4a71c4", func := "leechbook/leechbooklaw14.TwiceKeys", spec := "twiceKeys", apart := false }
def TwiceKeysSaid : Prop := twiceKeysRow.holds Try.pinned (OpenSpec.ofChange twiceKeysSpec)

/-- ITS FALSE NEIGHBOUR: 'it returns false'. Refute it at one input. -/
def twiceKeysWrong : ChangeSpec := { name := "twiceKeys", fn := fun _ => fun
  | [d] => { results := [.lit (.bool false)], args := [d] }
  | _ => none }
def TwiceKeysWrongFalsely : Prop := twiceKeysRow.holds Try.pinned (OpenSpec.ofChange twiceKeysWrong)

/-- 'leechbooklaw14.TwiceMarks': WHATEVER THE INPUT: true; the input reads as it did. -/
def twiceMarksSpec : ChangeSpec := { name := "twiceMarks", fn := fun _ => fun
  | [d1, d2] => { results := [.lit (.bool true)], args := [d1, d2] }
  | _ => none }
def twiceMarksRow : OpenClaim := { program := "ytmgjnjbiljpneaa", sum := "621e6af43ec40468cd638fc810c3a3ca15503c9444f4162c367965c1aa4a71c4", func := "leechbook/leechbooklaw14.TwiceMarks", spec := "twiceMarks", apart := false }
def TwiceMarksSaid : Prop := twiceMarksRow.holds Try.pinned (OpenSpec.ofChange twiceMarksSpec)

/-- ITS FALSE NEIGHBOUR: 'it returns false'. Refute it at one input. -/
def twiceMarksWrong : ChangeSpec := { name := "twiceMarks", fn := fun _ => fun
  | [d1, d2] => { results := [.lit (.bool false)], args := [d1, d2] }
  | _ => none }
def TwiceMarksWrongFalsely : Prop := twiceMarksRow.holds Try.pinned (OpenSpec.ofChange twiceMarksWrong)

/-- 'leechbooklaw14.TwiceSame': WHATEVER THE INPUT: true; the input reads as it did. -/
def twiceSameSpec : ChangeSpec := { name := "twiceSame", fn := fun _ => fun
  | [d1, d2] => { results := [.lit (.bool true)], args := [d1, d2] }
  | _ => none }
def twiceSameRow : OpenClaim := { program := "ytmgjnjbiljpneaa", sum := "621e6af43ec40468cd638fc810c3a3ca15503c9444f4162c367965c1aa4a71c4", func := "leechbook/leechbooklaw14.TwiceSame", spec := "twiceSame", apart := false }
def TwiceSameSaid : Prop := twiceSameRow.holds Try.pinned (OpenSpec.ofChange twiceSameSpec)

/-- ITS FALSE NEIGHBOUR: 'it returns false'. Refute it at one input. -/
def twiceSameWrong : ChangeSpec := { name := "twiceSame", fn := fun _ => fun
  | [d1, d2] => { results := [.lit (.bool false)], args := [d1, d2] }
  | _ => none }
def TwiceSameWrongFalsely : Prop := twiceSameRow.holds Try.pinned (OpenSpec.ofChange twiceSameWrong)

/-- 'leechbooklaw14.TwiceParts': WHATEVER THE INPUT: true; the input reads as it did. -/
def twicePartsSpec : ChangeSpec := { name := "twiceParts", fn := fun _ => fun
  | [d1, d2] => { results := [.lit (.bool true)], args := [d1, d2] }
  | _ => none }
def twicePartsRow : OpenClaim := { program := "ytmgjnjbiljpneaa", sum := "621e6af43ec40468cd638fc810c3a3ca15503c9444f4162c367965c1aa4a71c4", func := "leechbook/leechbooklaw14.TwiceParts", spec := "twiceParts", apart := false }
def TwicePartsSaid : Prop := twicePartsRow.holds Try.pinned (OpenSpec.ofChange twicePartsSpec)

/-- ITS FALSE NEIGHBOUR: 'it returns false'. Refute it at one input. -/
def twicePartsWrong : ChangeSpec := { name := "twiceParts", fn := fun _ => fun
  | [d1, d2] => { results := [.lit (.bool false)], args := [d1, d2] }
  | _ => none }
def TwicePartsWrongFalsely : Prop := twicePartsRow.holds Try.pinned (OpenSpec.ofChange twicePartsWrong)

/-- 'leechbooklaw14.TwiceOnce': WHATEVER THE INPUT: true; the input reads as it did. -/
def twiceOnceSpec : ChangeSpec := { name := "twiceOnce", fn := fun _ => fun
  | [d] => { results := [.lit (.bool true)], args := [d] }
  | _ => none }
def twiceOnceRow : OpenClaim := { program := "ytmgjnjbiljpneaa", sum := "621e6af43ec40468cd638fc810c3a3ca15503c9444f4162c367965c1aa4a71c4", func := "leechbook/leechbooklaw14.TwiceOnce", spec := "twiceOnce", apart := false }
def TwiceOnceSaid : Prop := twiceOnceRow.holds Try.pinned (OpenSpec.ofChange twiceOnceSpec)

/-- ITS FALSE NEIGHBOUR: 'it returns false'. Refute it at one input. -/
def twiceOnceWrong : ChangeSpec := { name := "twiceOnce", fn := fun _ => fun
  | [d] => { results := [.lit (.bool false)], args := [d] }
  | _ => none }
def TwiceOnceWrongFalsely : Prop := twiceOnceRow.holds Try.pinned (OpenSpec.ofChange twiceOnceWrong)

/-- 'leechbooklaw14.TwiceOrder': WHATEVER THE INPUT: true; the input reads as it did. -/
def twiceOrderSpec : ChangeSpec := { name := "twiceOrder", fn := fun _ => fun
  | [d1, d2] => { results := [.lit (.bool true)], args := [d1, d2] }
  | _ => none }
def twiceOrderRow : OpenClaim := { program := "ytmgjnjbiljpneaa", sum := "621e6af43ec40468cd638fc810c3a3ca15503c9444f4162c367965c1aa4a71c4", func := "leechbook/leechbooklaw14.TwiceOrder", spec := "twiceOrder", apart := false }
def TwiceOrderSaid : Prop := twiceOrderRow.holds Try.pinned (OpenSpec.ofChange twiceOrderSpec)

/-- ITS FALSE NEIGHBOUR: 'it returns false'. Refute it at one input. -/
def twiceOrderWrong : ChangeSpec := { name := "twiceOrder", fn := fun _ => fun
  | [d1, d2] => { results := [.lit (.bool false)], args := [d1, d2] }
  | _ => none }
def TwiceOrderWrongFalsely : Prop := twiceOrderRow.holds Try.pinned (OpenSpec.ofChange twiceOrderWrong)

/- THE SECOND FORM. 'bulk': how many values and letters a reading holds, each counted each time it is reached (what is shared counts as often as it is met; a slice's spare places count too). A statement '..UptoSaid' is the law's where the arguments, and the package variables that the reading takes, are together of bulk at most 1048576: NARROWER than '..Said'. Prove '..Said' where nothing that the law and all that it calls make is longer than what came in: it says more and counts as full. Else prove '..UptoSaid'. A law counts once. -/
mutual
def uptoBulk {H : Type} : DataW H → Nat
  | .lit (.string bytes) => bytes.length + 1
  | .lit _ => 1
  | .nil => 1
  | .ptr d => uptoBulk d + 1
  | .slice elems spare => uptoBulkAll elems + uptoBulkAll spare + 1
  | .agg parts => uptoBulkAll parts + 1
  | .iface _ d => uptoBulk d + 1
  | .map entries => uptoBulkEntries entries + 1
  | .held _ => 1
def uptoBulkAll {H : Type} : List (DataW H) → Nat
  | [] => 0
  | d :: r => uptoBulk d + uptoBulkAll r
def uptoBulkEntries {H : Type} : List (Lit × DataW H) → Nat
  | [] => 0
  | x :: r => uptoBulkEntry x + uptoBulkEntries r
def uptoBulkEntry {H : Type} : Lit × DataW H → Nat
  | (.string bytes, d) => bytes.length + uptoBulk d + 1
  | (_, d) => uptoBulk d + 1
 end
def uptoSmall : (H : Type) → List (DataW H) → Bool := fun _ ds => decide (uptoBulkAll ds ≤ 1048576)
def OpenSpec.upto (s : _root_.Go.ChangeSpec) : _root_.Go.OpenSpec := { _root_.Go.OpenSpec.ofChange s with cond := some uptoSmall }

/-- 'leechbooklaw14.TwiceKeys', WHERE WHAT IT READS IS OF BULK AT MOST 1048576: true; the input reads as it did. -/
def twiceKeysUptoRow : OpenClaim := { program := "ytmgjnjbiljpneaa", sum := "621e6af43ec40468cd638fc810c3a3ca15503c9444f4162c367965c1aa4a71c4", func := "leechbook/leechbooklaw14.TwiceKeys", spec := "twiceKeys", apart := false, narrowed := true }
def TwiceKeysUptoSaid : Prop := twiceKeysUptoRow.holds Try.pinned (OpenSpec.upto twiceKeysSpec)

/-- 'leechbooklaw14.TwiceMarks', WHERE WHAT IT READS IS OF BULK AT MOST 1048576: true; the input reads as it did. -/
def twiceMarksUptoRow : OpenClaim := { program := "ytmgjnjbiljpneaa", sum := "621e6af43ec40468cd638fc810c3a3ca15503c9444f4162c367965c1aa4a71c4", func := "leechbook/leechbooklaw14.TwiceMarks", spec := "twiceMarks", apart := false, narrowed := true }
def TwiceMarksUptoSaid : Prop := twiceMarksUptoRow.holds Try.pinned (OpenSpec.upto twiceMarksSpec)

/-- 'leechbooklaw14.TwiceSame', WHERE WHAT IT READS IS OF BULK AT MOST 1048576: true; the input reads as it did. -/
def twiceSameUptoRow : OpenClaim := { program := "ytmgjnjbiljpneaa", sum := "621e6af43ec40468cd638fc810c3a3ca15503c9444f4162c367965c1aa4a71c4", func := "leechbook/leechbooklaw14.TwiceSame", spec := "twiceSame", apart := false, narrowed := true }
def TwiceSameUptoSaid : Prop := twiceSameUptoRow.holds Try.pinned (OpenSpec.upto twiceSameSpec)

/-- 'leechbooklaw14.TwiceParts', WHERE WHAT IT READS IS OF BULK AT MOST 1048576: true; the input reads as it did. -/
def twicePartsUptoRow : OpenClaim := { program := "ytmgjnjbiljpneaa", sum := "621e6af43ec40468cd638fc810c3a3ca15503c9444f4162c367965c1aa4a71c4", func := "leechbook/leechbooklaw14.TwiceParts", spec := "twiceParts", apart := false, narrowed := true }
def TwicePartsUptoSaid : Prop := twicePartsUptoRow.holds Try.pinned (OpenSpec.upto twicePartsSpec)

/-- 'leechbooklaw14.TwiceOnce', WHERE WHAT IT READS IS OF BULK AT MOST 1048576: true; the input reads as it did. -/
def twiceOnceUptoRow : OpenClaim := { program := "ytmgjnjbiljpneaa", sum := "621e6af43ec40468cd638fc810c3a3ca15503c9444f4162c367965c1aa4a71c4", func := "leechbook/leechbooklaw14.TwiceOnce", spec := "twiceOnce", apart := false, narrowed := true }
def TwiceOnceUptoSaid : Prop := twiceOnceUptoRow.holds Try.pinned (OpenSpec.upto twiceOnceSpec)

/-- 'leechbooklaw14.TwiceOrder', WHERE WHAT IT READS IS OF BULK AT MOST 1048576: true; the input reads as it did. -/
def twiceOrderUptoRow : OpenClaim := { program := "ytmgjnjbiljpneaa", sum := "621e6af43ec40468cd638fc810c3a3ca15503c9444f4162c367965c1aa4a71c4", func := "leechbook/leechbooklaw14.TwiceOrder", spec := "twiceOrder", apart := false, narrowed := true }
def TwiceOrderUptoSaid : Prop := twiceOrderUptoRow.holds Try.pinned (OpenSpec.upto twiceOrderSpec)

end Rows
end Go.Proofs.Ytmgjnjbiljpneaa
