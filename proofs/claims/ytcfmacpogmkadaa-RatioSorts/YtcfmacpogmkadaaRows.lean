/-
  No cell of these rows narrows 'for every input' (looked for: loops, veiled, ifaces, maps, wideKeys, modest, calm, conditions, laid).
  DERIVED. THE GIVEN ROWS OF THIS SEAT. 6 by the template 'for every input the law returns true; each argument reads behind the call as it read before'; 0 by the template 'total and deterministic' (their statements: YtcfmacpogmkadaaTotals.lean).
  GIVEN WITH THE SEED: the statements are not yours to turn. If you find one false, say at which input.
  Laid BY PROGRAM, IN A SANDBOX (cutbox-rows.mjs): the forced cells as the released guide's own fill.sh prints them over the translation d41c8bb9bbc7fb01… (all of the seat's roots in one cut). By AI agents, Wed Nov 11 2026. No macro, syntax, notation, axiom, sorry.
-/
import Derived.Test.YtcfmacpogmkadaaChecked
import GoSem.Claim
import GoSem.ClaimJoined
import GoSem.ClaimMapViews
import Derived.JoinedTies
import Derived.KernelRfl
namespace Go.Proofs.Ytcfmacpogmkadaa
/- THE CELL 'sum', in the pinned program and in every row, IS THE sha256 OF THE DUMP (.gsa) THAT YtcfmacpogmkadaaProg.lean LOADS. Nothing in Lean hashes anything: it is a label: what it is worth is what the hold of that sum in a sandbox is worth. -/
noncomputable def Try.pinned : Pinned := { name := "ytcfmacpogmkadaa", sum := "d41c8bb9bbc7fb01b945d462c8fe221c3dc881f07047a994e9685f6a829d8c97", checked := Try.checked }
namespace Rows
def none {H : Type} : Left H := { results := [], args := [] }

/-- 'leechbooklaw04.RatioShares': WHATEVER THE INPUT: true; the input reads as it did. -/
def ratioSharesSpec : ChangeSpec := { name := "ratioShares", fn := fun _ => fun
  | [d1, d2] => { results := [.lit (.bool true)], args := [d1, d2] }
  | _ => none }
def ratioSharesRow : OpenClaim := { program := "ytcfmacpogmkadaa", sum := "d41c8bb9bbc7fb01b945d462c8fe221c3dc881f07047a994e9685f6a829d8c97", func := "leechbook/leechbooklaw04.RatioShares", spec := "ratioShares", inPlace := ["math.Float64frombits", "math.Float64bits"], unfollowed := true, recurses := true, apart := false }
def RatioSharesSaid : Prop := ratioSharesRow.holds Try.pinned (OpenSpec.ofChange ratioSharesSpec)

/-- ITS FALSE NEIGHBOUR: 'it returns false'. Refute it at one input. -/
def ratioSharesWrong : ChangeSpec := { name := "ratioShares", fn := fun _ => fun
  | [d1, d2] => { results := [.lit (.bool false)], args := [d1, d2] }
  | _ => none }
def RatioSharesWrongFalsely : Prop := ratioSharesRow.holds Try.pinned (OpenSpec.ofChange ratioSharesWrong)

/-- 'leechbooklaw04.RatioKinds': WHATEVER THE INPUT: true; the input reads as it did. -/
def ratioKindsSpec : ChangeSpec := { name := "ratioKinds", fn := fun _ => fun
  | [d1, d2] => { results := [.lit (.bool true)], args := [d1, d2] }
  | _ => none }
def ratioKindsRow : OpenClaim := { program := "ytcfmacpogmkadaa", sum := "d41c8bb9bbc7fb01b945d462c8fe221c3dc881f07047a994e9685f6a829d8c97", func := "leechbook/leechbooklaw04.RatioKinds", spec := "ratioKinds", inPlace := ["math.Float64bits", "math.Float64frombits"], unfollowed := true, recurses := true, apart := false }
def RatioKindsSaid : Prop := ratioKindsRow.holds Try.pinned (OpenSpec.ofChange ratioKindsSpec)

/-- ITS FALSE NEIGHBOUR: 'it returns false'. Refute it at one input. -/
def ratioKindsWrong : ChangeSpec := { name := "ratioKinds", fn := fun _ => fun
  | [d1, d2] => { results := [.lit (.bool false)], args := [d1, d2] }
  | _ => none }
def RatioKindsWrongFalsely : Prop := ratioKindsRow.holds Try.pinned (OpenSpec.ofChange ratioKindsWrong)

/-- 'leechbooklaw04.RatioSorts': WHATEVER THE INPUT: true; the input reads as it did. -/
def ratioSortsSpec : ChangeSpec := { name := "ratioSorts", fn := fun _ => fun
  | [d] => { results := [.lit (.bool true)], args := [d] }
  | _ => none }
def ratioSortsRow : OpenClaim := { program := "ytcfmacpogmkadaa", sum := "d41c8bb9bbc7fb01b945d462c8fe221c3dc881f07047a994e9685f6a829d8c97", func := "leechbook/leechbooklaw04.RatioSorts", spec := "ratioSorts", inPlace := ["math.Float64bits", "math.Float64frombits"], unfollowed := true, recurses := true, apart := false }
def RatioSortsSaid : Prop := ratioSortsRow.holds Try.pinned (OpenSpec.ofChange ratioSortsSpec)

/-- ITS FALSE NEIGHBOUR: 'it returns false'. Refute it at one input. -/
def ratioSortsWrong : ChangeSpec := { name := "ratioSorts", fn := fun _ => fun
  | [d] => { results := [.lit (.bool false)], args := [d] }
  | _ => none }
def RatioSortsWrongFalsely : Prop := ratioSortsRow.holds Try.pinned (OpenSpec.ofChange ratioSortsWrong)

/-- 'leechbooklaw04.RatioClamps': WHATEVER THE INPUT: true; the input reads as it did. -/
def ratioClampsSpec : ChangeSpec := { name := "ratioClamps", fn := fun _ => fun
  | [d] => { results := [.lit (.bool true)], args := [d] }
  | _ => none }
def ratioClampsRow : OpenClaim := { program := "ytcfmacpogmkadaa", sum := "d41c8bb9bbc7fb01b945d462c8fe221c3dc881f07047a994e9685f6a829d8c97", func := "leechbook/leechbooklaw04.RatioClamps", spec := "ratioClamps", inPlace := ["math.Float64bits", "math.Float64frombits"], unfollowed := true, recurses := true, apart := false }
def RatioClampsSaid : Prop := ratioClampsRow.holds Try.pinned (OpenSpec.ofChange ratioClampsSpec)

/-- ITS FALSE NEIGHBOUR: 'it returns false'. Refute it at one input. -/
def ratioClampsWrong : ChangeSpec := { name := "ratioClamps", fn := fun _ => fun
  | [d] => { results := [.lit (.bool false)], args := [d] }
  | _ => none }
def RatioClampsWrongFalsely : Prop := ratioClampsRow.holds Try.pinned (OpenSpec.ofChange ratioClampsWrong)

/-- 'leechbooklaw04.RatioTotal': WHATEVER THE INPUT: true; the input reads as it did. -/
def ratioTotalSpec : ChangeSpec := { name := "ratioTotal", fn := fun _ => fun
  | [d1, d2, d3] => { results := [.lit (.bool true)], args := [d1, d2, d3] }
  | _ => none }
def ratioTotalRow : OpenClaim := { program := "ytcfmacpogmkadaa", sum := "d41c8bb9bbc7fb01b945d462c8fe221c3dc881f07047a994e9685f6a829d8c97", func := "leechbook/leechbooklaw04.RatioTotal", spec := "ratioTotal", inPlace := ["math.Float64bits", "math.Float64frombits"], unfollowed := true, recurses := true, apart := false }
def RatioTotalSaid : Prop := ratioTotalRow.holds Try.pinned (OpenSpec.ofChange ratioTotalSpec)

/-- ITS FALSE NEIGHBOUR: 'it returns false'. Refute it at one input. -/
def ratioTotalWrong : ChangeSpec := { name := "ratioTotal", fn := fun _ => fun
  | [d1, d2, d3] => { results := [.lit (.bool false)], args := [d1, d2, d3] }
  | _ => none }
def RatioTotalWrongFalsely : Prop := ratioTotalRow.holds Try.pinned (OpenSpec.ofChange ratioTotalWrong)

/-- 'leechbooklaw04.RatioParts': WHATEVER THE INPUT: true; the input reads as it did. -/
def ratioPartsSpec : ChangeSpec := { name := "ratioParts", fn := fun _ => fun
  | [d1, d2] => { results := [.lit (.bool true)], args := [d1, d2] }
  | _ => none }
def ratioPartsRow : OpenClaim := { program := "ytcfmacpogmkadaa", sum := "d41c8bb9bbc7fb01b945d462c8fe221c3dc881f07047a994e9685f6a829d8c97", func := "leechbook/leechbooklaw04.RatioParts", spec := "ratioParts", inPlace := ["math.Float64bits", "math.Float64frombits"], unfollowed := true, recurses := true, apart := false }
def RatioPartsSaid : Prop := ratioPartsRow.holds Try.pinned (OpenSpec.ofChange ratioPartsSpec)

/-- ITS FALSE NEIGHBOUR: 'it returns false'. Refute it at one input. -/
def ratioPartsWrong : ChangeSpec := { name := "ratioParts", fn := fun _ => fun
  | [d1, d2] => { results := [.lit (.bool false)], args := [d1, d2] }
  | _ => none }
def RatioPartsWrongFalsely : Prop := ratioPartsRow.holds Try.pinned (OpenSpec.ofChange ratioPartsWrong)

/- THE SECOND FORM. 'bulk': how many values and letters a reading holds, each counted each time it is reached (what is shared counts as often as it is met; a slice's spare places count too). A statement '..UptoSaid' is the law's where the arguments, and the package variables that the reading takes, are together of bulk at most 1048576: NARROWER than '..Said'. Prove '..Said' where nothing that the law and all that it calls make is longer than what came in: it says more and counts as full. Else prove '..UptoSaid'. A law counts once. -/
mutual
def uptoBulk {H : Type} : DataW H → Nat
  | .lit (.string bytes) => bytes.length + 1
  | .lit _ => 1
  | .nil => 1
  | .ptr d => uptoBulk d + 1
  | .slice elems spare => uptoBulkAll elems + uptoBulkAll spare + 1
  | .agg parts => uptoBulkAll parts + 1
  | .iface _ d => uptoBulk d + 1
  | .map entries => uptoBulkEntries entries + 1
  | .held _ => 1
def uptoBulkAll {H : Type} : List (DataW H) → Nat
  | [] => 0
  | d :: r => uptoBulk d + uptoBulkAll r
def uptoBulkEntries {H : Type} : List (Lit × DataW H) → Nat
  | [] => 0
  | x :: r => uptoBulkEntry x + uptoBulkEntries r
def uptoBulkEntry {H : Type} : Lit × DataW H → Nat
  | (.string bytes, d) => bytes.length + uptoBulk d + 1
  | (_, d) => uptoBulk d + 1
 end
def uptoSmall : (H : Type) → List (DataW H) → Bool := fun _ ds => decide (uptoBulkAll ds ≤ 1048576)
def OpenSpec.upto (s : _root_.Go.ChangeSpec) : _root_.Go.OpenSpec := { _root_.Go.OpenSpec.ofChange s with cond := some uptoSmall }

/-- 'leechbooklaw04.RatioShares', WHERE WHAT IT READS IS OF BULK AT MOST 1048576: true; the input reads as it did. -/
def ratioSharesUptoRow : OpenClaim := { program := "ytcfmacpogmkadaa", sum := "d41c8bb9bbc7fb01b945d462c8fe221c3dc881f07047a994e9685f6a829d8c97", func := "leechbook/leechbooklaw04.RatioShares", spec := "ratioShares", inPlace := ["math.Float64frombits", "math.Float64bits"], unfollowed := true, recurses := true, apart := false, narrowed := true }
def RatioSharesUptoSaid : Prop := ratioSharesUptoRow.holds Try.pinned (OpenSpec.upto ratioSharesSpec)

/-- 'leechbooklaw04.RatioKinds', WHERE WHAT IT READS IS OF BULK AT MOST 1048576: true; the input reads as it did. -/
def ratioKindsUptoRow : OpenClaim := { program := "ytcfmacpogmkadaa", sum := "d41c8bb9bbc7fb01b945d462c8fe221c3dc881f07047a994e9685f6a829d8c97", func := "leechbook/leechbooklaw04.RatioKinds", spec := "ratioKinds", inPlace := ["math.Float64bits", "math.Float64frombits"], unfollowed := true, recurses := true, apart := false, narrowed := true }
def RatioKindsUptoSaid : Prop := ratioKindsUptoRow.holds Try.pinned (OpenSpec.upto ratioKindsSpec)

/-- 'leechbooklaw04.RatioSorts', WHERE WHAT IT READS IS OF BULK AT MOST 1048576: true; the input reads as it did. -/
def ratioSortsUptoRow : OpenClaim := { program := "ytcfmacpogmkadaa", sum := "d41c8bb9bbc7fb01b945d462c8fe221c3dc881f07047a994e9685f6a829d8c97", func := "leechbook/leechbooklaw04.RatioSorts", spec := "ratioSorts", inPlace := ["math.Float64bits", "math.Float64frombits"], unfollowed := true, recurses := true, apart := false, narrowed := true }
def RatioSortsUptoSaid : Prop := ratioSortsUptoRow.holds Try.pinned (OpenSpec.upto ratioSortsSpec)

/-- 'leechbooklaw04.RatioClamps', WHERE WHAT IT READS IS OF BULK AT MOST 1048576: true; the input reads as it did. -/
def ratioClampsUptoRow : OpenClaim := { program := "ytcfmacpogmkadaa", sum := "d41c8bb9bbc7fb01b945d462c8fe221c3dc881f07047a994e9685f6a829d8c97", func := "leechbook/leechbooklaw04.RatioClamps", spec := "ratioClamps", inPlace := ["math.Float64bits", "math.Float64frombits"], unfollowed := true, recurses := true, apart := false, narrowed := true }
def RatioClampsUptoSaid : Prop := ratioClampsUptoRow.holds Try.pinned (OpenSpec.upto ratioClampsSpec)

/-- 'leechbooklaw04.RatioTotal', WHERE WHAT IT READS IS OF BULK AT MOST 1048576: true; the input reads as it did. -/
def ratioTotalUptoRow : OpenClaim := { program := "ytcfmacpogmkadaa", sum := "d41c8bb9bbc7fb01b945d462c8fe221c3dc881f07047a994e9685f6a829d8c97", func := "leechbook/leechbooklaw04.RatioTotal", spec := "ratioTotal", inPlace := ["math.Float64bits", "math.Float64frombits"], unfollowed := true, recurses := true, apart := false, narrowed := true }
def RatioTotalUptoSaid : Prop := ratioTotalUptoRow.holds Try.pinned (OpenSpec.upto ratioTotalSpec)

/-- 'leechbooklaw04.RatioParts', WHERE WHAT IT READS IS OF BULK AT MOST 1048576: true; the input reads as it did. -/
def ratioPartsUptoRow : OpenClaim := { program := "ytcfmacpogmkadaa", sum := "d41c8bb9bbc7fb01b945d462c8fe221c3dc881f07047a994e9685f6a829d8c97", func := "leechbook/leechbooklaw04.RatioParts", spec := "ratioParts", inPlace := ["math.Float64bits", "math.Float64frombits"], unfollowed := true, recurses := true, apart := false, narrowed := true }
def RatioPartsUptoSaid : Prop := ratioPartsUptoRow.holds Try.pinned (OpenSpec.upto ratioPartsSpec)

end Rows
end Go.Proofs.Ytcfmacpogmkadaa
