/-
  Plain numbers: a quotient found bit by bit: one step, and what follows at the end.
-/
import Derived.Test.YtgbfckjmbmmgpaaCMath
namespace Go.Proofs.Ytgbfckjmbmmgpaa.Ce

/-- One bit more: what is left stays what is left. -/
theorem bit_step (a d N N' one left x y X Y b c1 c2 : Int) (he : x * d + y = a * N) (hN : N' = 2 * N + b) (ha : one * d + left = a)
    (hX : X = 2 * x + c1 + b * one + c2) (hY : Y = 2 * y - c1 * d + b * left - c2 * d) : X * d + Y = a * N' := by
  have e1 : X * d = 2 * (x * d) + c1 * d + b * (one * d) + c2 * d := by
    rw [hX, Int.add_mul, Int.add_mul, Int.add_mul, Int.mul_assoc 2 x d, Int.mul_assoc b one d]
  have e2 : a * N' = 2 * (a * N) + b * (one * d) + b * left := by
    rw [hN, Int.mul_add, ← Int.mul_assoc a 2 N, Int.mul_comm a 2, Int.mul_assoc 2 a N, Int.mul_comm a b, ← ha, Int.mul_add b, ha, Int.add_assoc]
  omega

theorem bit_top (n : Int) (j : Nat) (n0 : 0 ≤ n) : n / 2 ^ j = 2 * (n / 2 ^ (j + 1)) + (n / 2 ^ j).tmod 2 ∧ 0 ≤ (n / 2 ^ j).tmod 2 ∧ (n / 2 ^ j).tmod 2 ≤ 1 := by
  have h0 : 0 ≤ n / 2 ^ j := Int.ediv_nonneg n0 (Int.pow_nonneg (by omega))
  have e : n / 2 ^ (j + 1) = n / 2 ^ j / 2 := by
    rw [Int.pow_succ, ← Int.ediv_ediv_of_nonneg (Int.pow_nonneg (by omega))]
  rw [Int.tmod_eq_emod_of_nonneg h0, e]
  omega

theorem bit_le (n : Int) (j : Nat) (n0 : 0 ≤ n) : n / 2 ^ j ≤ n := Int.ediv_le_self _ n0

/-- More than the greatest amount on the way: more at the end. -/
theorem bit_over (a n d x y : Int) (j : Nat) (ga : good a = true) (n0 : 0 ≤ n) (d0 : 1 ≤ d) (he : x * d + y = a * (n / 2 ^ j)) (y0 : 0 ≤ y) (hx : 10000000000000 < x) :
    scaleV a n d = 0 ∧ scaleE a n d = 2 := by
  have a0 := ((good_iff a).1 ga).1
  have h1 : a * (n / 2 ^ j) ≤ a * n := Int.mul_le_mul_of_nonneg_left (bit_le n j n0) a0
  have h2 : x ≤ a * n / d := by
    rw [Int.le_ediv_iff_mul_le (by omega)]; omega
  have gq : good (a * n / d) = false := (good_not _).2 (by omega)
  constructor
  · unfold scaleV; rw [if_neg]; intro h; rw [gq] at h; simp at h
  · unfold scaleE; rw [if_pos ⟨ga, n0, d0⟩, if_neg]; rw [gq]; simp

theorem bit_end (a n d x y : Int) (ga : good a = true) (n0 : 0 ≤ n) (d0 : 1 ≤ d) (he : x * d + y = a * (n / 2 ^ 0)) (y0 : 0 ≤ y) (y1 : y < d) (x0 : 0 ≤ x) (x1 : x ≤ 10000000000000) :
    scaleV a n d = x ∧ scaleE a n d = 0 := by
  have e : a * n / d = x := by
    have h : a * n = y + x * d := by
      rw [Int.pow_zero, Int.ediv_one] at he; omega
    rw [h, Int.add_mul_ediv_right _ _ (by omega), Int.ediv_eq_zero_of_lt y0 y1]; omega
  have gq : good (a * n / d) = true := (good_iff _).2 (by omega)
  constructor
  · unfold scaleV; rw [if_pos ⟨ga, n0, d0, gq⟩, e]
  · unfold scaleE; rw [if_pos ⟨ga, n0, d0⟩, if_pos gq]

theorem bit_start (a n d : Int) (n0 : 0 ≤ n) (n1 : n ≤ 9223372036854775807) : 0 * d + 0 = a * (n / 2 ^ 63) := by
  have : n / 2 ^ 63 = 0 := Int.ediv_eq_zero_of_lt n0 (by omega)
  rw [this]; omega

end Go.Proofs.Ytgbfckjmbmmgpaa.Ce
