/-
  No cell of these rows narrows 'for every input' (looked for: loops, veiled, ifaces, maps, wideKeys, modest, calm, conditions, laid).
  DERIVED. THE GIVEN ROWS OF THIS SEAT. 6 by the template 'for every input the law returns true; each argument reads behind the call as it read before'; 0 by the template 'total and deterministic' (their statements: YtgbfckjmbmmgpaaTotals.lean).
  GIVEN WITH THE SEED: the statements are not yours to turn. If you find one false, say at which input.
  Laid BY PROGRAM, IN A SANDBOX (cutbox-rows.mjs): the forced cells as the released guide's own fill.sh prints them over the translation 6540b5172618e64a… (all of the seat's roots in one cut). By AI agents, Wed Nov 11 2026. No macro, syntax, notation, axiom, sorry.
-/
import Derived.Test.YtgbfckjmbmmgpaaChecked
import GoSem.Claim
import GoSem.ClaimJoined
import GoSem.ClaimMapViews
import Derived.JoinedTies
import Derived.KernelRfl
namespace Go.Proofs.Ytgbfckjmbmmgpaa
/- THE CELL 'sum', in the pinned program and in every row, IS THE sha256 OF THE DUMP (.gsa) THAT YtgbfckjmbmmgpaaProg.lean LOADS. Nothing in Lean hashes anything: it is a label: what it is worth is what the hold of that sum in a sandbox is worth. -/
noncomputable def Try.pinned : Pinned := { name := "ytgbfckjmbmmgpaa", sum := "6540b5172618e64af6bd10ee2bac1bf3807f4e74d7f65d801d76cd8fc306ade0", checked := Try.checked }
namespace Rows
def none {H : Type} : Left H := { results := [], args := [] }

/-- 'leechbooklaw15.ShareBears': WHATEVER THE INPUT: true; the input reads as it did. -/
def shareBearsSpec : ChangeSpec := { name := "shareBears", fn := fun _ => fun
  | [d1, d2, d3, d4, d5] => { results := [.lit (.bool true)], args := [d1, d2, d3, d4, d5] }
  | _ => none }
def shareBearsRow : OpenClaim := { program := "ytgbfckjmbmmgpaa", sum := "6540b5172618e64af6bd10ee2bac1bf3807f4e74d7f65d801d76cd8fc306ade0", func := "leechbook/leechbooklaw15.ShareBears", spec := "shareBears", unfollowed := true, recurses := true, named := ["math/bits.divideError", "math/bits.overflowError"], apart := false }
def ShareBearsSaid : Prop := shareBearsRow.holds Try.pinned (OpenSpec.ofChange shareBearsSpec)

/-- ITS FALSE NEIGHBOUR: 'it returns false'. Refute it at one input. -/
def shareBearsWrong : ChangeSpec := { name := "shareBears", fn := fun _ => fun
  | [d1, d2, d3, d4, d5] => { results := [.lit (.bool false)], args := [d1, d2, d3, d4, d5] }
  | _ => none }
def ShareBearsWrongFalsely : Prop := shareBearsRow.holds Try.pinned (OpenSpec.ofChange shareBearsWrong)

/-- 'leechbooklaw15.ShareSettles': WHATEVER THE INPUT: true; the input reads as it did. -/
def shareSettlesSpec : ChangeSpec := { name := "shareSettles", fn := fun _ => fun
  | [d1, d2] => { results := [.lit (.bool true)], args := [d1, d2] }
  | _ => none }
def shareSettlesRow : OpenClaim := { program := "ytgbfckjmbmmgpaa", sum := "6540b5172618e64af6bd10ee2bac1bf3807f4e74d7f65d801d76cd8fc306ade0", func := "leechbook/leechbooklaw15.ShareSettles", spec := "shareSettles", unfollowed := true, recurses := true, named := ["math/bits.divideError", "math/bits.overflowError"], apart := false }
def ShareSettlesSaid : Prop := shareSettlesRow.holds Try.pinned (OpenSpec.ofChange shareSettlesSpec)

/-- ITS FALSE NEIGHBOUR: 'it returns false'. Refute it at one input. -/
def shareSettlesWrong : ChangeSpec := { name := "shareSettles", fn := fun _ => fun
  | [d1, d2] => { results := [.lit (.bool false)], args := [d1, d2] }
  | _ => none }
def ShareSettlesWrongFalsely : Prop := shareSettlesRow.holds Try.pinned (OpenSpec.ofChange shareSettlesWrong)

/-- 'leechbooklaw15.ShareBalances': WHATEVER THE INPUT: true; the input reads as it did. -/
def shareBalancesSpec : ChangeSpec := { name := "shareBalances", fn := fun _ => fun
  | [d1, d2] => { results := [.lit (.bool true)], args := [d1, d2] }
  | _ => none }
def shareBalancesRow : OpenClaim := { program := "ytgbfckjmbmmgpaa", sum := "6540b5172618e64af6bd10ee2bac1bf3807f4e74d7f65d801d76cd8fc306ade0", func := "leechbook/leechbooklaw15.ShareBalances", spec := "shareBalances", unfollowed := true, recurses := true, named := ["math/bits.divideError", "math/bits.overflowError"], apart := false }
def ShareBalancesSaid : Prop := shareBalancesRow.holds Try.pinned (OpenSpec.ofChange shareBalancesSpec)

/-- ITS FALSE NEIGHBOUR: 'it returns false'. Refute it at one input. -/
def shareBalancesWrong : ChangeSpec := { name := "shareBalances", fn := fun _ => fun
  | [d1, d2] => { results := [.lit (.bool false)], args := [d1, d2] }
  | _ => none }
def ShareBalancesWrongFalsely : Prop := shareBalancesRow.holds Try.pinned (OpenSpec.ofChange shareBalancesWrong)

/-- 'leechbooklaw15.ShareLimits': WHATEVER THE INPUT: true; the input reads as it did. -/
def shareLimitsSpec : ChangeSpec := { name := "shareLimits", fn := fun _ => fun
  | [d1, d2, d3, d4] => { results := [.lit (.bool true)], args := [d1, d2, d3, d4] }
  | _ => none }
def shareLimitsRow : OpenClaim := { program := "ytgbfckjmbmmgpaa", sum := "6540b5172618e64af6bd10ee2bac1bf3807f4e74d7f65d801d76cd8fc306ade0", func := "leechbook/leechbooklaw15.ShareLimits", spec := "shareLimits", unfollowed := true, recurses := true, named := ["math/bits.divideError", "math/bits.overflowError"], apart := false }
def ShareLimitsSaid : Prop := shareLimitsRow.holds Try.pinned (OpenSpec.ofChange shareLimitsSpec)

/-- ITS FALSE NEIGHBOUR: 'it returns false'. Refute it at one input. -/
def shareLimitsWrong : ChangeSpec := { name := "shareLimits", fn := fun _ => fun
  | [d1, d2, d3, d4] => { results := [.lit (.bool false)], args := [d1, d2, d3, d4] }
  | _ => none }
def ShareLimitsWrongFalsely : Prop := shareLimitsRow.holds Try.pinned (OpenSpec.ofChange shareLimitsWrong)

/-- 'leechbooklaw15.ShareOthers': WHATEVER THE INPUT: true; the input reads as it did. -/
def shareOthersSpec : ChangeSpec := { name := "shareOthers", fn := fun _ => fun
  | [d] => { results := [.lit (.bool true)], args := [d] }
  | _ => none }
def shareOthersRow : OpenClaim := { program := "ytgbfckjmbmmgpaa", sum := "6540b5172618e64af6bd10ee2bac1bf3807f4e74d7f65d801d76cd8fc306ade0", func := "leechbook/leechbooklaw15.ShareOthers", spec := "shareOthers", unfollowed := true, recurses := true, named := ["math/bits.divideError", "math/bits.overflowError"], apart := false }
def ShareOthersSaid : Prop := shareOthersRow.holds Try.pinned (OpenSpec.ofChange shareOthersSpec)

/-- ITS FALSE NEIGHBOUR: 'it returns false'. Refute it at one input. -/
def shareOthersWrong : ChangeSpec := { name := "shareOthers", fn := fun _ => fun
  | [d] => { results := [.lit (.bool false)], args := [d] }
  | _ => none }
def ShareOthersWrongFalsely : Prop := shareOthersRow.holds Try.pinned (OpenSpec.ofChange shareOthersWrong)

/-- 'leechbooklaw15.ShareMore': WHATEVER THE INPUT: true; the input reads as it did. -/
def shareMoreSpec : ChangeSpec := { name := "shareMore", fn := fun _ => fun
  | [d1, d2, d3, d4, d5] => { results := [.lit (.bool true)], args := [d1, d2, d3, d4, d5] }
  | _ => none }
def shareMoreRow : OpenClaim := { program := "ytgbfckjmbmmgpaa", sum := "6540b5172618e64af6bd10ee2bac1bf3807f4e74d7f65d801d76cd8fc306ade0", func := "leechbook/leechbooklaw15.ShareMore", spec := "shareMore", unfollowed := true, recurses := true, named := ["math/bits.divideError", "math/bits.overflowError"], apart := false }
def ShareMoreSaid : Prop := shareMoreRow.holds Try.pinned (OpenSpec.ofChange shareMoreSpec)

/-- ITS FALSE NEIGHBOUR: 'it returns false'. Refute it at one input. -/
def shareMoreWrong : ChangeSpec := { name := "shareMore", fn := fun _ => fun
  | [d1, d2, d3, d4, d5] => { results := [.lit (.bool false)], args := [d1, d2, d3, d4, d5] }
  | _ => none }
def ShareMoreWrongFalsely : Prop := shareMoreRow.holds Try.pinned (OpenSpec.ofChange shareMoreWrong)

/- THE SECOND FORM. 'bulk': how many values and letters a reading holds, each counted each time it is reached (what is shared counts as often as it is met; a slice's spare places count too). A statement '..UptoSaid' is the law's where the arguments, and the package variables that the reading takes, are together of bulk at most 1048576: NARROWER than '..Said'. Prove '..Said' where nothing that the law and all that it calls make is longer than what came in: it says more and counts as full. Else prove '..UptoSaid'. A law counts once. -/
mutual
def uptoBulk {H : Type} : DataW H → Nat
  | .lit (.string bytes) => bytes.length + 1
  | .lit _ => 1
  | .nil => 1
  | .ptr d => uptoBulk d + 1
  | .slice elems spare => uptoBulkAll elems + uptoBulkAll spare + 1
  | .agg parts => uptoBulkAll parts + 1
  | .iface _ d => uptoBulk d + 1
  | .map entries => uptoBulkEntries entries + 1
  | .held _ => 1
def uptoBulkAll {H : Type} : List (DataW H) → Nat
  | [] => 0
  | d :: r => uptoBulk d + uptoBulkAll r
def uptoBulkEntries {H : Type} : List (Lit × DataW H) → Nat
  | [] => 0
  | x :: r => uptoBulkEntry x + uptoBulkEntries r
def uptoBulkEntry {H : Type} : Lit × DataW H → Nat
  | (.string bytes, d) => bytes.length + uptoBulk d + 1
  | (_, d) => uptoBulk d + 1
 end
def uptoSmall : (H : Type) → List (DataW H) → Bool := fun _ ds => decide (uptoBulkAll ds ≤ 1048576)
def OpenSpec.upto (s : _root_.Go.ChangeSpec) : _root_.Go.OpenSpec := { _root_.Go.OpenSpec.ofChange s with cond := some uptoSmall }

/-- 'leechbooklaw15.ShareBears', WHERE WHAT IT READS IS OF BULK AT MOST 1048576: true; the input reads as it did. -/
def shareBearsUptoRow : OpenClaim := { program := "ytgbfckjmbmmgpaa", sum := "6540b5172618e64af6bd10ee2bac1bf3807f4e74d7f65d801d76cd8fc306ade0", func := "leechbook/leechbooklaw15.ShareBears", spec := "shareBears", unfollowed := true, recurses := true, named := ["math/bits.divideError", "math/bits.overflowError"], apart := false, narrowed := true }
def ShareBearsUptoSaid : Prop := shareBearsUptoRow.holds Try.pinned (OpenSpec.upto shareBearsSpec)

/-- 'leechbooklaw15.ShareSettles', WHERE WHAT IT READS IS OF BULK AT MOST 1048576: true; the input reads as it did. -/
def shareSettlesUptoRow : OpenClaim := { program := "ytgbfckjmbmmgpaa", sum := "6540b5172618e64af6bd10ee2bac1bf3807f4e74d7f65d801d76cd8fc306ade0", func := "leechbook/leechbooklaw15.ShareSettles", spec := "shareSettles", unfollowed := true, recurses := true, named := ["math/bits.divideError", "math/bits.overflowError"], apart := false, narrowed := true }
def ShareSettlesUptoSaid : Prop := shareSettlesUptoRow.holds Try.pinned (OpenSpec.upto shareSettlesSpec)

/-- 'leechbooklaw15.ShareBalances', WHERE WHAT IT READS IS OF BULK AT MOST 1048576: true; the input reads as it did. -/
def shareBalancesUptoRow : OpenClaim := { program := "ytgbfckjmbmmgpaa", sum := "6540b5172618e64af6bd10ee2bac1bf3807f4e74d7f65d801d76cd8fc306ade0", func := "leechbook/leechbooklaw15.ShareBalances", spec := "shareBalances", unfollowed := true, recurses := true, named := ["math/bits.divideError", "math/bits.overflowError"], apart := false, narrowed := true }
def ShareBalancesUptoSaid : Prop := shareBalancesUptoRow.holds Try.pinned (OpenSpec.upto shareBalancesSpec)

/-- 'leechbooklaw15.ShareLimits', WHERE WHAT IT READS IS OF BULK AT MOST 1048576: true; the input reads as it did. -/
def shareLimitsUptoRow : OpenClaim := { program := "ytgbfckjmbmmgpaa", sum := "6540b5172618e64af6bd10ee2bac1bf3807f4e74d7f65d801d76cd8fc306ade0", func := "leechbook/leechbooklaw15.ShareLimits", spec := "shareLimits", unfollowed := true, recurses := true, named := ["math/bits.divideError", "math/bits.overflowError"], apart := false, narrowed := true }
def ShareLimitsUptoSaid : Prop := shareLimitsUptoRow.holds Try.pinned (OpenSpec.upto shareLimitsSpec)

/-- 'leechbooklaw15.ShareOthers', WHERE WHAT IT READS IS OF BULK AT MOST 1048576: true; the input reads as it did. -/
def shareOthersUptoRow : OpenClaim := { program := "ytgbfckjmbmmgpaa", sum := "6540b5172618e64af6bd10ee2bac1bf3807f4e74d7f65d801d76cd8fc306ade0", func := "leechbook/leechbooklaw15.ShareOthers", spec := "shareOthers", unfollowed := true, recurses := true, named := ["math/bits.divideError", "math/bits.overflowError"], apart := false, narrowed := true }
def ShareOthersUptoSaid : Prop := shareOthersUptoRow.holds Try.pinned (OpenSpec.upto shareOthersSpec)

/-- 'leechbooklaw15.ShareMore', WHERE WHAT IT READS IS OF BULK AT MOST 1048576: true; the input reads as it did. -/
def shareMoreUptoRow : OpenClaim := { program := "ytgbfckjmbmmgpaa", sum := "6540b5172618e64af6bd10ee2bac1bf3807f4e74d7f65d801d76cd8fc306ade0", func := "leechbook/leechbooklaw15.ShareMore", spec := "shareMore", unfollowed := true, recurses := true, named := ["math/bits.divideError", "math/bits.overflowError"], apart := false, narrowed := true }
def ShareMoreUptoSaid : Prop := shareMoreUptoRow.holds Try.pinned (OpenSpec.upto shareMoreSpec)

end Rows
end Go.Proofs.Ytgbfckjmbmmgpaa
