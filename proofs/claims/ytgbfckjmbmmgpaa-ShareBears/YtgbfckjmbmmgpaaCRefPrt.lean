/-
  What the references' Part answers, as a contract: for every int64.
-/
import Derived.Test.YtgbfckjmbmmgpaaCRefScl
namespace Go.Proofs.Ytgbfckjmbmmgpaa.Ce
open Go.RowKit

theorem rpart_any (a p : Int) (w : World) :
    Calls Try.prog 23 #[.int .i64 a, .int .i64 p] w fun e w' => e = .returned (.tuple #[.int .i64 (partV a p), .int .i64 (partE a p)]) ∧ w' = w := by
  by_cases h0 : p < 0
  · have e1 : partV a p = 0 := by unfold partV; rw [if_neg (by omega)]
    have e2 : partE a p = 1 := by unfold partE; rw [if_neg (by omega)]
    rw [e1, e2]
    go_enter Try.func23, Try.ntmps23
    go_wp2
    go_ret2
    exact ⟨rfl, rfl⟩
  · by_cases h1 : 10000 < p
    · have e1 : partV a p = 0 := by unfold partV; rw [if_neg (by omega)]
      have e2 : partE a p = 1 := by unfold partE; rw [if_neg (by omega)]
      rw [e1, e2]
      go_enter Try.func23, Try.ntmps23
      go_wp2
      go_ret2
      exact ⟨rfl, rfl⟩
    · have e1 : partV a p = scaleV a p 10000 := by unfold partV; rw [if_pos (by omega)]
      have e2 : partE a p = scaleE a p 10000 := by unfold partE; rw [if_pos (by omega)]
      rw [e1, e2]
      have hc := fun w => rscale_any a p 10000 w (by omega) (by omega)
      clear e1 e2
      go_enter Try.func23, Try.ntmps23
      go_wp2_with (go_at_call 28; refine (hc _).mono ?_; rintro e w' ⟨rfl, rfl⟩)
      go_ret2
      exact ⟨rfl, rfl⟩

end Go.Proofs.Ytgbfckjmbmmgpaa.Ce
