/-
  What cents.Good and Add answer, as contracts: for every int64.
-/
import Derived.Test.YtmgjnjbiljpneaaProg
import Derived.Test.YtmgjnjbiljpneaaCMath
import Derived.WalkKit
namespace Go.Proofs.Ytmgjnjbiljpneaa.Ce
open Go.RowKit

end Go.Proofs.Ytmgjnjbiljpneaa.Ce
