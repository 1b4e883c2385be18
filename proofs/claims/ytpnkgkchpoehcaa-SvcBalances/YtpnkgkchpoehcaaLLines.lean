/-
  What claim.lines answers, as a contract: the first service's error that may not be beside those ahead of it.
-/
import Derived.Test.YtpnkgkchpoehcaaLLine
set_option linter.unusedSimpArgs false
namespace Go.Proofs.Ytpnkgkchpoehcaa.Cm
open Go.RowKit

theorem yearV_good {n : Int} (h : Da.good n = true) : Da.yearV n = Da.yr n := by simp [Da.yearV, h]

end Go.Proofs.Ytpnkgkchpoehcaa.Cm
