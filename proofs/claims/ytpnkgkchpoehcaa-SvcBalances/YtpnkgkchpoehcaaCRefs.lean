/-
  What the reference's Good answers, as contracts: for every int64.
-/
import Derived.Test.YtpnkgkchpoehcaaCAdds
namespace Go.Proofs.Ytpnkgkchpoehcaa.Ce
open Go.RowKit

theorem rgood_any (a : Int) (w : World) :
    Calls Try.prog 41 #[.int .i64 a] w fun e w' => e = .returned (.bool (good a)) ∧ w' = w := by
  by_cases h0 : a < 0
  · have g : good a = false := (good_not a).2 (by omega)
    rw [g]
    go_enter Try.func41, Try.ntmps41
    go_wp2
    go_ret
    exact ⟨rfl, rfl⟩
  · by_cases h1 : 10000000000000 < a
    · have g : good a = false := (good_not a).2 (by omega)
      rw [g]
      go_enter Try.func41, Try.ntmps41
      go_wp2
      go_ret
      exact ⟨rfl, rfl⟩
    · have g : good a = true := (good_iff a).2 (by omega)
      rw [g]
      go_enter Try.func41, Try.ntmps41
      go_wp2
      go_ret
      exact ⟨rfl, rfl⟩

end Go.Proofs.Ytpnkgkchpoehcaa.Ce
