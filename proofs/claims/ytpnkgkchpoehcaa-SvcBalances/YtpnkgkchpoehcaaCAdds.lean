/-
  What cents.Good and Add answer, as contracts: for every int64.
-/
import Derived.Test.YtpnkgkchpoehcaaProg
import Derived.Test.YtpnkgkchpoehcaaCMath
import Derived.WalkKit
namespace Go.Proofs.Ytpnkgkchpoehcaa.Ce
open Go.RowKit

theorem good_any (a : Int) (w : World) :
    Calls Try.prog 39 #[.int .i64 a] w fun e w' => e = .returned (.bool (good a)) ∧ w' = w := by
  by_cases h0 : 0 ≤ a
  · by_cases h1 : a ≤ 10000000000000
    · have g : good a = true := (good_iff a).2 ⟨h0, h1⟩
      rw [g]
      go_enter Try.func39, Try.ntmps39
      go_wp2
      go_ret
      exact ⟨rfl, rfl⟩
    · have g : good a = false := (good_not a).2 (by omega)
      rw [g]
      go_enter Try.func39, Try.ntmps39
      go_wp2
      go_ret
      exact ⟨rfl, rfl⟩
  · have g : good a = false := (good_not a).2 (by omega)
    rw [g]
    go_enter Try.func39, Try.ntmps39
    go_wp2
    go_ret
    exact ⟨rfl, rfl⟩

end Go.Proofs.Ytpnkgkchpoehcaa.Ce
