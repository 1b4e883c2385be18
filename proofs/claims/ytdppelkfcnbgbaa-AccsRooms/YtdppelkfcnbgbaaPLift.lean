/-
  What the rows' texts lean on. (For the seats of the layers above plan's: plain rows.)
-/
import Derived.Test.YtdppelkfcnbgbaaRows
import Derived.Test.YtdppelkfcnbgbaaPChe
import Derived.Test.YtdppelkfcnbgbaaLMath
import Derived.Lib.LaidTab
import Derived.ProofKit
import Derived.OpenShut
import Derived.Carry
import Derived.Lay
import Derived.LaidOnce
import Derived.LaidMore
import Derived.Stop.Joined
import Derived.Shelf.Vars
import Derived.Deep.Strs
import Derived.Lib.SmallJoins
