/-
  What the reference's Good answers, as contracts: for every int64.
-/
import Derived.Test.YtgbfckjmbmmgpabCAdds
namespace Go.Proofs.Ytgbfckjmbmmgpab.Ce
open Go.RowKit

end Go.Proofs.Ytgbfckjmbmmgpab.Ce
