/-
  The laws' own example: works returns true.
-/
import Derived.Test.YtfmdphpbgjjmiaaDoorDOf
namespace Go.Proofs.YtfmdphpbgjjmiaaDoor
open Go.RowKit

set_option maxHeartbeats 400000 in
theorem works_any (w : World) (hT : Tab w) :
    Calls Tryd.prog 13 #[] w fun e w' => e = .returned (.bool true) ∧ w' = w := by
  have e1 : daysV 10101 = 0 := by decide
  have e2 : daysE 10101 = 0 := by decide
  have e3 : daysV 20240301 = 738945 := by decide
  have e4 : daysE 20240301 = 0 := by decide
  have e5 : ofV 738944 = 20240229 := of_eq _ _ (by decide) (by decide)
  have e6 : ofE 738944 = 0 := by decide
  have e7 : good 20000229 = true := by decide
  have e8 : good 19000229 = false := by decide
  have e9 : yearV 20240301 = 2024 := by decide
  go_enter Tryd.func13, Tryd.ntmps13
  go_wp2_with (first | (go_at_call 14; refine (days_any _ _ hT (by omega) (by omega)).mono ?_; rintro e w' ⟨rfl, rfl⟩) | (go_at_call 16; refine (of_any _ _ hT (by omega) (by omega)).mono ?_; rintro e w' ⟨rfl, rfl⟩) | (go_at_call 9; refine (good_any _ _ hT (by omega) (by omega)).mono ?_; rintro e w' ⟨rfl, rfl⟩) | (go_at_call 11; refine (year_any _ _ hT (by omega) (by omega)).mono ?_; rintro e w' ⟨rfl, rfl⟩))
  go_ret
  exact ⟨rfl, rfl⟩
end Go.Proofs.YtfmdphpbgjjmiaaDoor
