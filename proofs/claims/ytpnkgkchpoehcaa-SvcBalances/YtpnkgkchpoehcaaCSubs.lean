/-
  What cents.Sub, and the references' Add and Sub, answer, as contracts: for every int64.
-/
import Derived.Test.YtpnkgkchpoehcaaCRefs
namespace Go.Proofs.Ytpnkgkchpoehcaa.Ce
open Go.RowKit

end Go.Proofs.Ytpnkgkchpoehcaa.Ce
