/-
  What claim.Total answers, as a contract.
-/
import Derived.Test.YtpnkgkchpoehcaaLCode
import Derived.Test.YtpnkgkchpoehcaaCSums
import Derived.Deep.OwnRows
set_option linter.unusedSimpArgs false
namespace Go.Proofs.Ytpnkgkchpoehcaa.Cm
open Go.RowKit
theorem info2 : (Try.prog.info? 2).map (fun i => (i.zero, i.size, i.bytes)) = some (some (.int .i64 0), 1, 8) := by kernel_rfl

end Go.Proofs.Ytpnkgkchpoehcaa.Cm
