/-
  NARROWER THAN 'FOR EVERY INPUT', by the rows' own cells (each row's printed sentence says how): AccsRooms: loops.
  DERIVED. THE GIVEN ROWS OF THIS SEAT. 6 by the template 'for every input the law returns true; each argument reads behind the call as it read before'; 0 by the template 'total and deterministic' (their statements: YtdppelkfcnbgbaaTotals.lean).
  GIVEN WITH THE SEED: the statements are not yours to turn. If you find one false, say at which input.
  Laid BY PROGRAM, IN A SANDBOX (cutbox-rows.mjs): the forced cells as the released guide's own fill.sh prints them over the translation 30302bb6ca1fa924… (all of the seat's roots in one cut). By AI agents, Wed Nov 11 2026. No macro, syntax, notation, axiom, sorry.
-/
import Derived.Test.YtdppelkfcnbgbaaChecked
import GoSem.Claim
import GoSem.ClaimJoined
import GoSem.ClaimMapViews
import Derived.JoinedTies
import Derived.KernelRfl
namespace Go.Proofs.Ytdppelkfcnbgbaa
/- THE CELL 'sum', in the pinned program and in every row, IS THE sha256 OF THE DUMP (.gsa) THAT YtdppelkfcnbgbaaProg.lean LOADS. Nothing in Lean hashes anything: it is a label: what it is worth is what the hold of that sum in a sandbox is worth. -/
noncomputable def Try.pinned : Pinned := { name := "ytdppelkfcnbgbaa", sum := "30302bb6ca1fa924732255f95b414a5d24b234b4535c7275965044e67a01ad90", checked := Try.checked }
namespace Rows
def none {H : Type} : Left H := { results := [], args := [] }

/-- 'leechbooklaw16.AccsChecks': WHATEVER THE INPUT: true; the input reads as it did. -/
def accsChecksSpec : ChangeSpec := { name := "accsChecks", fn := fun _ => fun
  | [d] => { results := [.lit (.bool true)], args := [d] }
  | _ => none }
def accsChecksRow : OpenClaim := { program := "ytdppelkfcnbgbaa", sum := "30302bb6ca1fa924732255f95b414a5d24b234b4535c7275965044e67a01ad90", func := "leechbook/leechbooklaw16.AccsChecks", spec := "accsChecks", inPlace := ["slices.overlaps[leechbook/api.Acc]"], unfollowed := true, recurses := true, apart := false }
def AccsChecksSaid : Prop := accsChecksRow.holds Try.pinned (OpenSpec.ofChange accsChecksSpec)

/-- ITS FALSE NEIGHBOUR: 'it returns false'. Refute it at one input. -/
def accsChecksWrong : ChangeSpec := { name := "accsChecks", fn := fun _ => fun
  | [d] => { results := [.lit (.bool false)], args := [d] }
  | _ => none }
def AccsChecksWrongFalsely : Prop := accsChecksRow.holds Try.pinned (OpenSpec.ofChange accsChecksWrong)

/-- 'leechbooklaw16.AccsAdds': WHATEVER THE INPUT: true; the input reads as it did. -/
def accsAddsSpec : ChangeSpec := { name := "accsAdds", fn := fun _ => fun
  | [d1, d2, d3, d4, d5, d6] => { results := [.lit (.bool true)], args := [d1, d2, d3, d4, d5, d6] }
  | _ => none }
def accsAddsRow : OpenClaim := { program := "ytdppelkfcnbgbaa", sum := "30302bb6ca1fa924732255f95b414a5d24b234b4535c7275965044e67a01ad90", func := "leechbook/leechbooklaw16.AccsAdds", spec := "accsAdds", inPlace := ["slices.overlaps[leechbook/api.Acc]"], unfollowed := true, recurses := true, apart := false }
def AccsAddsSaid : Prop := accsAddsRow.holds Try.pinned (OpenSpec.ofChange accsAddsSpec)

/-- ITS FALSE NEIGHBOUR: 'it returns false'. Refute it at one input. -/
def accsAddsWrong : ChangeSpec := { name := "accsAdds", fn := fun _ => fun
  | [d1, d2, d3, d4, d5, d6] => { results := [.lit (.bool false)], args := [d1, d2, d3, d4, d5, d6] }
  | _ => none }
def AccsAddsWrongFalsely : Prop := accsAddsRow.holds Try.pinned (OpenSpec.ofChange accsAddsWrong)

/-- 'leechbooklaw16.AccsBoth': WHATEVER THE INPUT: true; the input reads as it did. -/
def accsBothSpec : ChangeSpec := { name := "accsBoth", fn := fun _ => fun
  | [d1, d2, d3, d4, d5] => { results := [.lit (.bool true)], args := [d1, d2, d3, d4, d5] }
  | _ => none }
def accsBothRow : OpenClaim := { program := "ytdppelkfcnbgbaa", sum := "30302bb6ca1fa924732255f95b414a5d24b234b4535c7275965044e67a01ad90", func := "leechbook/leechbooklaw16.AccsBoth", spec := "accsBoth", inPlace := ["slices.overlaps[leechbook/api.Acc]"], unfollowed := true, recurses := true, apart := false }
def AccsBothSaid : Prop := accsBothRow.holds Try.pinned (OpenSpec.ofChange accsBothSpec)

/-- ITS FALSE NEIGHBOUR: 'it returns false'. Refute it at one input. -/
def accsBothWrong : ChangeSpec := { name := "accsBoth", fn := fun _ => fun
  | [d1, d2, d3, d4, d5] => { results := [.lit (.bool false)], args := [d1, d2, d3, d4, d5] }
  | _ => none }
def AccsBothWrongFalsely : Prop := accsBothRow.holds Try.pinned (OpenSpec.ofChange accsBothWrong)

/-- 'leechbooklaw16.AccsRooms': WHATEVER THE INPUT: true; the input reads as it did. -/
def accsRoomsSpec : ChangeSpec := { name := "accsRooms", fn := fun _ => fun
  | [d1, d2, d3, d4, d5] => { results := [.lit (.bool true)], args := [d1, d2, d3, d4, d5] }
  | _ => none }
def accsRoomsRow : OpenClaim := { program := "ytdppelkfcnbgbaa", sum := "30302bb6ca1fa924732255f95b414a5d24b234b4535c7275965044e67a01ad90", func := "leechbook/leechbooklaw16.AccsRooms", spec := "accsRooms", inPlace := ["slices.overlaps[leechbook/api.Acc]"], unfollowed := true, recurses := true, loops := true, apart := false }
def AccsRoomsSaid : Prop := accsRoomsRow.holds Try.pinned (OpenSpec.ofChange accsRoomsSpec)

/-- ITS FALSE NEIGHBOUR: 'it returns false'. Refute it at one input. -/
def accsRoomsWrong : ChangeSpec := { name := "accsRooms", fn := fun _ => fun
  | [d1, d2, d3, d4, d5] => { results := [.lit (.bool false)], args := [d1, d2, d3, d4, d5] }
  | _ => none }
def AccsRoomsWrongFalsely : Prop := accsRoomsRow.holds Try.pinned (OpenSpec.ofChange accsRoomsWrong)

/-- 'leechbooklaw16.AccsMay': WHATEVER THE INPUT: true; the input reads as it did. -/
def accsMaySpec : ChangeSpec := { name := "accsMay", fn := fun _ => fun
  | [d1, d2, d3, d4, d5, d6, d7] => { results := [.lit (.bool true)], args := [d1, d2, d3, d4, d5, d6, d7] }
  | _ => none }
def accsMayRow : OpenClaim := { program := "ytdppelkfcnbgbaa", sum := "30302bb6ca1fa924732255f95b414a5d24b234b4535c7275965044e67a01ad90", func := "leechbook/leechbooklaw16.AccsMay", spec := "accsMay", inPlace := ["slices.overlaps[leechbook/api.Acc]"], unfollowed := true, recurses := true, apart := false }
def AccsMaySaid : Prop := accsMayRow.holds Try.pinned (OpenSpec.ofChange accsMaySpec)

/-- ITS FALSE NEIGHBOUR: 'it returns false'. Refute it at one input. -/
def accsMayWrong : ChangeSpec := { name := "accsMay", fn := fun _ => fun
  | [d1, d2, d3, d4, d5, d6, d7] => { results := [.lit (.bool false)], args := [d1, d2, d3, d4, d5, d6, d7] }
  | _ => none }
def AccsMayWrongFalsely : Prop := accsMayRow.holds Try.pinned (OpenSpec.ofChange accsMayWrong)

/-- 'leechbooklaw16.AccsOrder': WHATEVER THE INPUT: true; the input reads as it did. -/
def accsOrderSpec : ChangeSpec := { name := "accsOrder", fn := fun _ => fun
  | [d1, d2, d3] => { results := [.lit (.bool true)], args := [d1, d2, d3] }
  | _ => none }
def accsOrderRow : OpenClaim := { program := "ytdppelkfcnbgbaa", sum := "30302bb6ca1fa924732255f95b414a5d24b234b4535c7275965044e67a01ad90", func := "leechbook/leechbooklaw16.AccsOrder", spec := "accsOrder", inPlace := ["slices.overlaps[leechbook/api.Acc]"], unfollowed := true, recurses := true, apart := false }
def AccsOrderSaid : Prop := accsOrderRow.holds Try.pinned (OpenSpec.ofChange accsOrderSpec)

/-- ITS FALSE NEIGHBOUR: 'it returns false'. Refute it at one input. -/
def accsOrderWrong : ChangeSpec := { name := "accsOrder", fn := fun _ => fun
  | [d1, d2, d3] => { results := [.lit (.bool false)], args := [d1, d2, d3] }
  | _ => none }
def AccsOrderWrongFalsely : Prop := accsOrderRow.holds Try.pinned (OpenSpec.ofChange accsOrderWrong)

/- THE SECOND FORM. 'bulk': how many values and letters a reading holds, each counted each time it is reached (what is shared counts as often as it is met; a slice's spare places count too). A statement '..UptoSaid' is the law's where the arguments, and the package variables that the reading takes, are together of bulk at most 1048576: NARROWER than '..Said'. Prove '..Said' where nothing that the law and all that it calls make is longer than what came in: it says more and counts as full. Else prove '..UptoSaid'. A law counts once. -/
mutual
def uptoBulk {H : Type} : DataW H → Nat
  | .lit (.string bytes) => bytes.length + 1
  | .lit _ => 1
  | .nil => 1
  | .ptr d => uptoBulk d + 1
  | .slice elems spare => uptoBulkAll elems + uptoBulkAll spare + 1
  | .agg parts => uptoBulkAll parts + 1
  | .iface _ d => uptoBulk d + 1
  | .map entries => uptoBulkEntries entries + 1
  | .held _ => 1
def uptoBulkAll {H : Type} : List (DataW H) → Nat
  | [] => 0
  | d :: r => uptoBulk d + uptoBulkAll r
def uptoBulkEntries {H : Type} : List (Lit × DataW H) → Nat
  | [] => 0
  | x :: r => uptoBulkEntry x + uptoBulkEntries r
def uptoBulkEntry {H : Type} : Lit × DataW H → Nat
  | (.string bytes, d) => bytes.length + uptoBulk d + 1
  | (_, d) => uptoBulk d + 1
 end
def uptoSmall : (H : Type) → List (DataW H) → Bool := fun _ ds => decide (uptoBulkAll ds ≤ 1048576)
def OpenSpec.upto (s : _root_.Go.ChangeSpec) : _root_.Go.OpenSpec := { _root_.Go.OpenSpec.ofChange s with cond := some uptoSmall }

/-- 'leechbooklaw16.AccsChecks', WHERE WHAT IT READS IS OF BULK AT MOST 1048576: true; the input reads as it did. -/
def accsChecksUptoRow : OpenClaim := { program := "ytdppelkfcnbgbaa", sum := "30302bb6ca1fa924732255f95b414a5d24b234b4535c7275965044e67a01ad90", func := "leechbook/leechbooklaw16.AccsChecks", spec := "accsChecks", inPlace := ["slices.overlaps[leechbook/api.Acc]"], unfollowed := true, recurses := true, apart := false, narrowed := true }
def AccsChecksUptoSaid : Prop := accsChecksUptoRow.holds Try.pinned (OpenSpec.upto accsChecksSpec)

/-- 'leechbooklaw16.AccsAdds', WHERE WHAT IT READS IS OF BULK AT MOST 1048576: true; the input reads as it did. -/
def accsAddsUptoRow : OpenClaim := { program := "ytdppelkfcnbgbaa", sum := "30302bb6ca1fa924732255f95b414a5d24b234b4535c7275965044e67a01ad90", func := "leechbook/leechbooklaw16.AccsAdds", spec := "accsAdds", inPlace := ["slices.overlaps[leechbook/api.Acc]"], unfollowed := true, recurses := true, apart := false, narrowed := true }
def AccsAddsUptoSaid : Prop := accsAddsUptoRow.holds Try.pinned (OpenSpec.upto accsAddsSpec)

/-- 'leechbooklaw16.AccsBoth', WHERE WHAT IT READS IS OF BULK AT MOST 1048576: true; the input reads as it did. -/
def accsBothUptoRow : OpenClaim := { program := "ytdppelkfcnbgbaa", sum := "30302bb6ca1fa924732255f95b414a5d24b234b4535c7275965044e67a01ad90", func := "leechbook/leechbooklaw16.AccsBoth", spec := "accsBoth", inPlace := ["slices.overlaps[leechbook/api.Acc]"], unfollowed := true, recurses := true, apart := false, narrowed := true }
def AccsBothUptoSaid : Prop := accsBothUptoRow.holds Try.pinned (OpenSpec.upto accsBothSpec)

/-- 'leechbooklaw16.AccsRooms', WHERE WHAT IT READS IS OF BULK AT MOST 1048576: true; the input reads as it did. -/
def accsRoomsUptoRow : OpenClaim := { program := "ytdppelkfcnbgbaa", sum := "30302bb6ca1fa924732255f95b414a5d24b234b4535c7275965044e67a01ad90", func := "leechbook/leechbooklaw16.AccsRooms", spec := "accsRooms", inPlace := ["slices.overlaps[leechbook/api.Acc]"], unfollowed := true, recurses := true, loops := true, apart := false, narrowed := true }
def AccsRoomsUptoSaid : Prop := accsRoomsUptoRow.holds Try.pinned (OpenSpec.upto accsRoomsSpec)

/-- 'leechbooklaw16.AccsMay', WHERE WHAT IT READS IS OF BULK AT MOST 1048576: true; the input reads as it did. -/
def accsMayUptoRow : OpenClaim := { program := "ytdppelkfcnbgbaa", sum := "30302bb6ca1fa924732255f95b414a5d24b234b4535c7275965044e67a01ad90", func := "leechbook/leechbooklaw16.AccsMay", spec := "accsMay", inPlace := ["slices.overlaps[leechbook/api.Acc]"], unfollowed := true, recurses := true, apart := false, narrowed := true }
def AccsMayUptoSaid : Prop := accsMayUptoRow.holds Try.pinned (OpenSpec.upto accsMaySpec)

/-- 'leechbooklaw16.AccsOrder', WHERE WHAT IT READS IS OF BULK AT MOST 1048576: true; the input reads as it did. -/
def accsOrderUptoRow : OpenClaim := { program := "ytdppelkfcnbgbaa", sum := "30302bb6ca1fa924732255f95b414a5d24b234b4535c7275965044e67a01ad90", func := "leechbook/leechbooklaw16.AccsOrder", spec := "accsOrder", inPlace := ["slices.overlaps[leechbook/api.Acc]"], unfollowed := true, recurses := true, apart := false, narrowed := true }
def AccsOrderUptoSaid : Prop := accsOrderUptoRow.holds Try.pinned (OpenSpec.upto accsOrderSpec)

end Rows
end Go.Proofs.Ytdppelkfcnbgbaa
