/-
  A world behind draws alone has the memory that it had.
-/
import Derived.RowKit3
import Derived.Deep.Draws
namespace Go.Proofs.Ytkliijcfplmdoaa
open Go.RowKit

theorem grown_drewN (w : World) (k : Nat) : Grown w (w.drewN k) := by
  induction k with
  | zero => exact Grown.refl w
  | succ k ih => exact Grown.drew ih

end Go.Proofs.Ytkliijcfplmdoaa
