/-
  What date.leap, length, split, Good and Year answer, as contracts.
-/
import Derived.Test.YtpnkgkchpoehcaaProg
import Derived.Test.YtpnkgkchpoehcaaDMath
import Derived.WalkKit
namespace Go.Proofs.Ytpnkgkchpoehcaa.Da
open Go.RowKit

theorem quo_bd (n k : Int) (h : -9223372036854775808 ≤ n) (h' : n ≤ 9223372036854775807) (hk : 1 ≤ k) : -9223372036854775808 ≤ n.tdiv k ∧ n.tdiv k ≤ 9223372036854775807 := by
  have l : ∀ a : Int, 0 ≤ a → 0 ≤ a.tdiv k ∧ a.tdiv k ≤ a := fun a ha => by
    rw [Int.tdiv_eq_ediv_of_nonneg ha]
    exact ⟨Int.ediv_nonneg ha (by omega), Int.ediv_le_self _ ha⟩
  rcases Int.lt_or_le n 0 with c | c
  · have := l (-n) (by omega)
    rw [Int.neg_tdiv] at this
    omega
  · have := l n c
    omega

def yearV (n : Int) : Int := if good n = true then yr n else 0
end Go.Proofs.Ytpnkgkchpoehcaa.Da
