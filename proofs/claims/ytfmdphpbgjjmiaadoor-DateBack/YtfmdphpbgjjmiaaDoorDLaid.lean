/-
  What the rows' condition on the listed variable gives the walks: the table of the months' lengths lies where date.length reads it; and that the program's own start meets the condition.
-/
import Derived.Test.YtfmdphpbgjjmiaaDoorRows
import Derived.Test.YtfmdphpbgjjmiaaDoorDDate
import Derived.ProofKit
import Derived.LaidMore
import Derived.OpenShut
import Derived.Stop.Joined
import Derived.Lib.LaidTab
namespace Go.Proofs.YtfmdphpbgjjmiaaDoor
open Go.ChangeShapes Go.WideShapes Go.ChangeAt Go.RowKit

abbrev laidL : List (String × DataW Unit) := [("leechbook/date.lengths", Rows.laid_leechbook_date_lengths)]
theorem gLen : Tryd.prog.globalNamed "leechbook/date.lengths" = some 0 := by kernel_rfl
theorem tLen : (Tryd.prog.globals[0]?).map (·.type) = some 33 := by kernel_rfl
theorem c3 : Tryd.prog.cellsOf 3 = 1 := by kernel_rfl
theorem c33 : Tryd.prog.cellsOf 33 = 12 := by kernel_rfl

/-- The door's own heap meets the condition: closed facts. -/
theorem door_met (os : Os) (args : Array Value) : laidMetH Tryd.prog laidL ((World.doorLaid Tryd.prog 400 os).forCall (fun _ _ => 0) ⟨#[], args, []⟩).memory :=
  laidMetH_of_parts3 (fuel := 8) (laidMet_of_run' 8 (by kernel_rfl) (by kernel_rfl)) (by kernel_rfl) (by kernel_rfl)

theorem of_laid {W : World} (h : laidMetH Tryd.prog laidL W) : Tab W := by
  rw [MakeChecks.laidMetH_plain _ _ _ (by kernel_rfl)] at h
  have t : Lib.TabIs Tryd.prog W "leechbook/date.lengths" .i64 lens := Lib.tabIs_of_head gLen tLen Tryd.underlying33 Tryd.underlying3 c3 c33 (rest := []) h
  exact fun i hi => t.cell gLen i hi
end Go.Proofs.YtfmdphpbgjjmiaaDoor
