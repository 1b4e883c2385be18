/-
  What bits.Mul64 and bits.Div64 answer where the product has at most 64 bits, as contracts.
-/
import Derived.Test.YtgbfckjmbmmgpabCAdds
import Derived.Test.YtgbfckjmbmmgpabShelf
import Derived.RegionTactic
import Derived.ChangeAlike
import Derived.Deep.QuietTactic
import Derived.BigQuiet
namespace Go.Proofs.Ytgbfckjmbmmgpab.Ce
open Go.RowKit

theorem mul_any (x y : Int) (w : World) (x0 : 0 ≤ x) (x1 : x < 18446744073709551616) (y0 : 0 ≤ y) (y1 : y < 18446744073709551616) :
    Calls Try.prog 16 #[.int .u64 x, .int .u64 y] w fun e w' => e = .returned (.tuple #[.int .u64 (x * y / 18446744073709551616), .int .u64 (x * y % 18446744073709551616)]) ∧ w' = w := by
  have h := Try.bits_Mul64 x.toNat y.toNat (by omega) (by omega) w
  have ex : ((x.toNat : Nat) : Int) = x := by omega
  have ey : ((y.toNat : Nat) : Int) = y := by omega
  simp only [Int.natCast_ediv, Int.natCast_emod, Int.natCast_mul, ex, ey] at h
  exact h

theorem mul_small (x y p : Int) (w : World) (x0 : 0 ≤ x) (x1 : x < 18446744073709551616) (y0 : 0 ≤ y) (y1 : y < 18446744073709551616) (h : x * y = p) (hp : p < 18446744073709551616) :
    Calls Try.prog 16 #[.int .u64 x, .int .u64 y] w fun e w' => e = .returned (.tuple #[.int .u64 0, .int .u64 p]) ∧ w' = w := by
  refine (mul_any x y w x0 x1 y0 y1).mono ?_
  rintro e w' ⟨rfl, rfl⟩
  have p0 : 0 ≤ p := by rw [← h]; exact Int.mul_nonneg x0 y0
  have e1 : x * y / 18446744073709551616 = 0 := by rw [h]; omega
  have e2 : x * y % 18446744073709551616 = p := by rw [h]; omega
  rw [e1, e2]
  exact ⟨rfl, rfl⟩

theorem div_small (lo d : Int) (w : World) (l0 : 0 ≤ lo) (l1 : lo < 18446744073709551616) (d0 : 1 ≤ d) (d1 : d ≤ 9223372036854775807) :
    Calls Try.prog 17 #[.int .u64 0, .int .u64 lo, .int .u64 d] w fun e w' => e = .returned (.tuple #[.int .u64 (lo / d), .int .u64 (lo % d)]) ∧ ∃ k, w' = w.drewN k := by
  have hd : (d == 0) = false := by simp; omega
  go_enter Try.func17, Try.ntmps17
  go_wp2
  go_quiet (fail)
  go_wp2
  go_ret2
  exact ⟨rfl, _, rfl⟩

end Go.Proofs.Ytgbfckjmbmmgpab.Ce
