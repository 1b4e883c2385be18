/-
  No cell of these rows narrows 'for every input' (looked for: loops, veiled, ifaces, maps, wideKeys, modest, calm, conditions, laid).
  DERIVED. THE GIVEN ROWS OF THIS SEAT. 6 by the template 'for every input the law returns true; each argument reads behind the call as it read before'; 0 by the template 'total and deterministic' (their statements: YtkliijcfplmdoaaTotals.lean).
  GIVEN WITH THE SEED: the statements are not yours to turn. If you find one false, say at which input.
  Laid BY PROGRAM, IN A SANDBOX (cutbox-rows.mjs): the forced cells as the released guide's own fill.sh prints them over the translation ea4dc485d2e5b470… (all of the seat's roots in one cut). By AI agents, Wed Nov 11 2026. No macro, syntax, notation, axiom, sorry.
-/
import Derived.Test.YtkliijcfplmdoaaChecked
import GoSem.Claim
import GoSem.ClaimJoined
import GoSem.ClaimMapViews
import Derived.JoinedTies
import Derived.KernelRfl
namespace Go.Proofs.Ytkliijcfplmdoaa
/- THE CELL 'sum', in the pinned program and in every row, IS THE sha256 OF THE DUMP (.gsa) THAT YtkliijcfplmdoaaProg.lean LOADS. Nothing in Lean hashes anything: it is a label: what it is worth is what the hold of that sum in a sandbox is worth. -/
noncomputable def Try.pinned : Pinned := { name := "ytkliijcfplmdoaa", sum := "ea4dc485d2e5b470bc5611d6a4d63595b40d67be321f408edefc0df80543ed58", checked := Try.checked }
namespace Rows
def none {H : Type} : Left H := { results := [], args := [] }

/-- 'leechbooklaw01.CentsAdds': WHATEVER THE INPUT: true; the input reads as it did. -/
def centsAddsSpec : ChangeSpec := { name := "centsAdds", fn := fun _ => fun
  | [d1, d2] => { results := [.lit (.bool true)], args := [d1, d2] }
  | _ => none }
def centsAddsRow : OpenClaim := { program := "ytkliijcfplmdoaa", sum := "ea4dc485d2e5b470bc5611d6a4d63595b40d67be321f408edefc0df80543ed58", func := "leechbook/leechbooklaw01.CentsAdds", spec := "centsAdds", named := ["math/bits.divideError", "math/bits.overflowError"], apart := false }
def CentsAddsSaid : Prop := centsAddsRow.holds Try.pinned (OpenSpec.ofChange centsAddsSpec)

/-- ITS FALSE NEIGHBOUR: 'it returns false'. Refute it at one input. -/
def centsAddsWrong : ChangeSpec := { name := "centsAdds", fn := fun _ => fun
  | [d1, d2] => { results := [.lit (.bool false)], args := [d1, d2] }
  | _ => none }
def CentsAddsWrongFalsely : Prop := centsAddsRow.holds Try.pinned (OpenSpec.ofChange centsAddsWrong)

/-- 'leechbooklaw01.CentsSums': WHATEVER THE INPUT: true; the input reads as it did. -/
def centsSumsSpec : ChangeSpec := { name := "centsSums", fn := fun _ => fun
  | [d] => { results := [.lit (.bool true)], args := [d] }
  | _ => none }
def centsSumsRow : OpenClaim := { program := "ytkliijcfplmdoaa", sum := "ea4dc485d2e5b470bc5611d6a4d63595b40d67be321f408edefc0df80543ed58", func := "leechbook/leechbooklaw01.CentsSums", spec := "centsSums", named := ["math/bits.divideError", "math/bits.overflowError"], apart := false }
def CentsSumsSaid : Prop := centsSumsRow.holds Try.pinned (OpenSpec.ofChange centsSumsSpec)

/-- ITS FALSE NEIGHBOUR: 'it returns false'. Refute it at one input. -/
def centsSumsWrong : ChangeSpec := { name := "centsSums", fn := fun _ => fun
  | [d] => { results := [.lit (.bool false)], args := [d] }
  | _ => none }
def CentsSumsWrongFalsely : Prop := centsSumsRow.holds Try.pinned (OpenSpec.ofChange centsSumsWrong)

/-- 'leechbooklaw01.CentsScales': WHATEVER THE INPUT: true; the input reads as it did. -/
def centsScalesSpec : ChangeSpec := { name := "centsScales", fn := fun _ => fun
  | [d1, d2, d3] => { results := [.lit (.bool true)], args := [d1, d2, d3] }
  | _ => none }
def centsScalesRow : OpenClaim := { program := "ytkliijcfplmdoaa", sum := "ea4dc485d2e5b470bc5611d6a4d63595b40d67be321f408edefc0df80543ed58", func := "leechbook/leechbooklaw01.CentsScales", spec := "centsScales", named := ["math/bits.divideError", "math/bits.overflowError"], apart := false }
def CentsScalesSaid : Prop := centsScalesRow.holds Try.pinned (OpenSpec.ofChange centsScalesSpec)

/-- ITS FALSE NEIGHBOUR: 'it returns false'. Refute it at one input. -/
def centsScalesWrong : ChangeSpec := { name := "centsScales", fn := fun _ => fun
  | [d1, d2, d3] => { results := [.lit (.bool false)], args := [d1, d2, d3] }
  | _ => none }
def CentsScalesWrongFalsely : Prop := centsScalesRow.holds Try.pinned (OpenSpec.ofChange centsScalesWrong)

/-- 'leechbooklaw01.CentsParts': WHATEVER THE INPUT: true; the input reads as it did. -/
def centsPartsSpec : ChangeSpec := { name := "centsParts", fn := fun _ => fun
  | [d1, d2] => { results := [.lit (.bool true)], args := [d1, d2] }
  | _ => none }
def centsPartsRow : OpenClaim := { program := "ytkliijcfplmdoaa", sum := "ea4dc485d2e5b470bc5611d6a4d63595b40d67be321f408edefc0df80543ed58", func := "leechbook/leechbooklaw01.CentsParts", spec := "centsParts", named := ["math/bits.divideError", "math/bits.overflowError"], apart := false }
def CentsPartsSaid : Prop := centsPartsRow.holds Try.pinned (OpenSpec.ofChange centsPartsSpec)

/-- ITS FALSE NEIGHBOUR: 'it returns false'. Refute it at one input. -/
def centsPartsWrong : ChangeSpec := { name := "centsParts", fn := fun _ => fun
  | [d1, d2] => { results := [.lit (.bool false)], args := [d1, d2] }
  | _ => none }
def CentsPartsWrongFalsely : Prop := centsPartsRow.holds Try.pinned (OpenSpec.ofChange centsPartsWrong)

/-- 'leechbooklaw01.CentsGrows': WHATEVER THE INPUT: true; the input reads as it did. -/
def centsGrowsSpec : ChangeSpec := { name := "centsGrows", fn := fun _ => fun
  | [d1, d2, d3] => { results := [.lit (.bool true)], args := [d1, d2, d3] }
  | _ => none }
def centsGrowsRow : OpenClaim := { program := "ytkliijcfplmdoaa", sum := "ea4dc485d2e5b470bc5611d6a4d63595b40d67be321f408edefc0df80543ed58", func := "leechbook/leechbooklaw01.CentsGrows", spec := "centsGrows", named := ["math/bits.divideError", "math/bits.overflowError"], apart := false }
def CentsGrowsSaid : Prop := centsGrowsRow.holds Try.pinned (OpenSpec.ofChange centsGrowsSpec)

/-- ITS FALSE NEIGHBOUR: 'it returns false'. Refute it at one input. -/
def centsGrowsWrong : ChangeSpec := { name := "centsGrows", fn := fun _ => fun
  | [d1, d2, d3] => { results := [.lit (.bool false)], args := [d1, d2, d3] }
  | _ => none }
def CentsGrowsWrongFalsely : Prop := centsGrowsRow.holds Try.pinned (OpenSpec.ofChange centsGrowsWrong)

/-- 'leechbooklaw01.CentsCuts': WHATEVER THE INPUT: true; the input reads as it did. -/
def centsCutsSpec : ChangeSpec := { name := "centsCuts", fn := fun _ => fun
  | [d1, d2, d3] => { results := [.lit (.bool true)], args := [d1, d2, d3] }
  | _ => none }
def centsCutsRow : OpenClaim := { program := "ytkliijcfplmdoaa", sum := "ea4dc485d2e5b470bc5611d6a4d63595b40d67be321f408edefc0df80543ed58", func := "leechbook/leechbooklaw01.CentsCuts", spec := "centsCuts", named := ["math/bits.divideError", "math/bits.overflowError"], apart := false }
def CentsCutsSaid : Prop := centsCutsRow.holds Try.pinned (OpenSpec.ofChange centsCutsSpec)

/-- ITS FALSE NEIGHBOUR: 'it returns false'. Refute it at one input. -/
def centsCutsWrong : ChangeSpec := { name := "centsCuts", fn := fun _ => fun
  | [d1, d2, d3] => { results := [.lit (.bool false)], args := [d1, d2, d3] }
  | _ => none }
def CentsCutsWrongFalsely : Prop := centsCutsRow.holds Try.pinned (OpenSpec.ofChange centsCutsWrong)

/- THE SECOND FORM. 'bulk': how many values and letters a reading holds, each counted each time it is reached (what is shared counts as often as it is met; a slice's spare places count too). A statement '..UptoSaid' is the law's where the arguments, and the package variables that the reading takes, are together of bulk at most 1048576: NARROWER than '..Said'. Prove '..Said' where nothing that the law and all that it calls make is longer than what came in: it says more and counts as full. Else prove '..UptoSaid'. A law counts once. -/
mutual
def uptoBulk {H : Type} : DataW H → Nat
  | .lit (.string bytes) => bytes.length + 1
  | .lit _ => 1
  | .nil => 1
  | .ptr d => uptoBulk d + 1
  | .slice elems spare => uptoBulkAll elems + uptoBulkAll spare + 1
  | .agg parts => uptoBulkAll parts + 1
  | .iface _ d => uptoBulk d + 1
  | .map entries => uptoBulkEntries entries + 1
  | .held _ => 1
def uptoBulkAll {H : Type} : List (DataW H) → Nat
  | [] => 0
  | d :: r => uptoBulk d + uptoBulkAll r
def uptoBulkEntries {H : Type} : List (Lit × DataW H) → Nat
  | [] => 0
  | x :: r => uptoBulkEntry x + uptoBulkEntries r
def uptoBulkEntry {H : Type} : Lit × DataW H → Nat
  | (.string bytes, d) => bytes.length + uptoBulk d + 1
  | (_, d) => uptoBulk d + 1
 end
def uptoSmall : (H : Type) → List (DataW H) → Bool := fun _ ds => decide (uptoBulkAll ds ≤ 1048576)
def OpenSpec.upto (s : _root_.Go.ChangeSpec) : _root_.Go.OpenSpec := { _root_.Go.OpenSpec.ofChange s with cond := some uptoSmall }

/-- 'leechbooklaw01.CentsAdds', WHERE WHAT IT READS IS OF BULK AT MOST 1048576: true; the input reads as it did. -/
def centsAddsUptoRow : OpenClaim := { program := "ytkliijcfplmdoaa", sum := "ea4dc485d2e5b470bc5611d6a4d63595b40d67be321f408edefc0df80543ed58", func := "leechbook/leechbooklaw01.CentsAdds", spec := "centsAdds", named := ["math/bits.divideError", "math/bits.overflowError"], apart := false, narrowed := true }
def CentsAddsUptoSaid : Prop := centsAddsUptoRow.holds Try.pinned (OpenSpec.upto centsAddsSpec)

/-- 'leechbooklaw01.CentsSums', WHERE WHAT IT READS IS OF BULK AT MOST 1048576: true; the input reads as it did. -/
def centsSumsUptoRow : OpenClaim := { program := "ytkliijcfplmdoaa", sum := "ea4dc485d2e5b470bc5611d6a4d63595b40d67be321f408edefc0df80543ed58", func := "leechbook/leechbooklaw01.CentsSums", spec := "centsSums", named := ["math/bits.divideError", "math/bits.overflowError"], apart := false, narrowed := true }
def CentsSumsUptoSaid : Prop := centsSumsUptoRow.holds Try.pinned (OpenSpec.upto centsSumsSpec)

/-- 'leechbooklaw01.CentsScales', WHERE WHAT IT READS IS OF BULK AT MOST 1048576: true; the input reads as it did. -/
def centsScalesUptoRow : OpenClaim := { program := "ytkliijcfplmdoaa", sum := "ea4dc485d2e5b470bc5611d6a4d63595b40d67be321f408edefc0df80543ed58", func := "leechbook/leechbooklaw01.CentsScales", spec := "centsScales", named := ["math/bits.divideError", "math/bits.overflowError"], apart := false, narrowed := true }
def CentsScalesUptoSaid : Prop := centsScalesUptoRow.holds Try.pinned (OpenSpec.upto centsScalesSpec)

/-- 'leechbooklaw01.CentsParts', WHERE WHAT IT READS IS OF BULK AT MOST 1048576: true; the input reads as it did. -/
def centsPartsUptoRow : OpenClaim := { program := "ytkliijcfplmdoaa", sum := "ea4dc485d2e5b470bc5611d6a4d63595b40d67be321f408edefc0df80543ed58", func := "leechbook/leechbooklaw01.CentsParts", spec := "centsParts", named := ["math/bits.divideError", "math/bits.overflowError"], apart := false, narrowed := true }
def CentsPartsUptoSaid : Prop := centsPartsUptoRow.holds Try.pinned (OpenSpec.upto centsPartsSpec)

/-- 'leechbooklaw01.CentsGrows', WHERE WHAT IT READS IS OF BULK AT MOST 1048576: true; the input reads as it did. -/
def centsGrowsUptoRow : OpenClaim := { program := "ytkliijcfplmdoaa", sum := "ea4dc485d2e5b470bc5611d6a4d63595b40d67be321f408edefc0df80543ed58", func := "leechbook/leechbooklaw01.CentsGrows", spec := "centsGrows", named := ["math/bits.divideError", "math/bits.overflowError"], apart := false, narrowed := true }
def CentsGrowsUptoSaid : Prop := centsGrowsUptoRow.holds Try.pinned (OpenSpec.upto centsGrowsSpec)

/-- 'leechbooklaw01.CentsCuts', WHERE WHAT IT READS IS OF BULK AT MOST 1048576: true; the input reads as it did. -/
def centsCutsUptoRow : OpenClaim := { program := "ytkliijcfplmdoaa", sum := "ea4dc485d2e5b470bc5611d6a4d63595b40d67be321f408edefc0df80543ed58", func := "leechbook/leechbooklaw01.CentsCuts", spec := "centsCuts", named := ["math/bits.divideError", "math/bits.overflowError"], apart := false, narrowed := true }
def CentsCutsUptoSaid : Prop := centsCutsUptoRow.holds Try.pinned (OpenSpec.upto centsCutsSpec)

end Rows
end Go.Proofs.Ytkliijcfplmdoaa
