/-
  Numbers of 64 bits: what shifting both sides of a division by s bits makes of them.
-/
import Derived.Test.YtkliijcfplmdoaaCKnuth
import Derived.WalkKit
import Derived.Laws.Bits64b
import Derived.Lib.BitFns
namespace Go.Proofs.Ytkliijcfplmdoaa
open Go.RowKit

theorem pows (s : Nat) (h : s ≤ 64) : (2 : Int) ^ s * 2 ^ (64 - s) = 18446744073709551616 := by
  rw [← Int.pow_add, show s + (64 - s) = 64 by omega]
  rfl

theorem or_split (A B : Int) (s : Nat) (A0 : 0 ≤ A) (B0 : 0 ≤ B) (B1 : B < 2 ^ s) (h : A * 2 ^ s + B < 18446744073709551616) :
    bits .or .u64 (A * 2 ^ s) B = A * 2 ^ s + B := by
  obtain ⟨a, rfl⟩ := Int.eq_ofNat_of_zero_le A0
  obtain ⟨b, rfl⟩ := Int.eq_ofNat_of_zero_le B0
  have hp : ((2 ^ s : Nat) : Int) = (2 : Int) ^ s := by simp
  rw [← hp] at B1 h ⊢
  have hb : b < 2 ^ s := by omega
  have h1 : (a : Int) * ((2 ^ s : Nat) : Int) = ((a * 2 ^ s : Nat) : Int) := (Int.natCast_mul ..).symm
  rw [h1] at h ⊢
  rw [bits_or_u64_nat (a * 2 ^ s) b (by omega) (by omega), ← Nat.shiftLeft_eq, ← Nat.shiftLeft_add_eq_or_of_lt hb, Nat.shiftLeft_eq]
  omega

theorem mask32 (a : Int) (a0 : 0 ≤ a) (a1 : a < 18446744073709551616) : bits .and .u64 a 4294967295 = a % 4294967296 := by
  obtain ⟨n, rfl⟩ := Int.eq_ofNat_of_zero_le a0
  have h := bits_and_u64_nat n 4294967295 (by omega) (by omega)
  have e : n &&& 4294967295 = n % 4294967296 := Nat.and_two_pow_sub_one_eq_mod n 32
  rw [e] at h
  refine Eq.trans h ?_
  omega

/-- The numerator, shifted by s: its high part and its low part. -/
theorem norm (hi lo y : Int) (s : Nat) (s1 : s ≤ 63) (h0 : 0 ≤ hi) (h1 : hi < y) (l0 : 0 ≤ lo) (l1 : lo < 18446744073709551616) (Y1 : y * 2 ^ s < 18446744073709551616) :
    bits .or .u64 (IntKind.u64.wrap (hi * 2 ^ s)) (lo / 2 ^ (64 - s)) = hi * 2 ^ s + lo / 2 ^ (64 - s) ∧ 0 ≤ hi * 2 ^ s + lo / 2 ^ (64 - s) ∧ hi * 2 ^ s + lo / 2 ^ (64 - s) < y * 2 ^ s ∧
    (hi * 2 ^ s + lo / 2 ^ (64 - s)) * 18446744073709551616 + IntKind.u64.wrap (lo * 2 ^ s) = (hi * 18446744073709551616 + lo) * 2 ^ s ∧
    0 ≤ IntKind.u64.wrap (lo * 2 ^ s) ∧ IntKind.u64.wrap (lo * 2 ^ s) < 18446744073709551616 := by
  have hPR := pows s (by omega)
  have P0 : (0 : Int) < 2 ^ s := Int.pow_pos (by omega)
  have R0 : (0 : Int) < 2 ^ (64 - s) := Int.pow_pos (by omega)
  have e := Int.ediv_mul_add_emod lo (2 ^ (64 - s))
  have m0 := Int.emod_nonneg lo (b := 2 ^ (64 - s)) (by omega)
  have m1 := Int.emod_lt_of_pos lo R0
  have q0 : 0 ≤ lo / 2 ^ (64 - s) := Int.ediv_nonneg l0 (by omega)
  have q1 : lo / 2 ^ (64 - s) < 2 ^ s := by
    rw [Int.ediv_lt_iff_lt_mul R0, hPR]; exact l1
  have a0 : 0 ≤ hi * 2 ^ s := Int.mul_nonneg h0 (by omega)
  have a1 : (hi + 1) * 2 ^ s ≤ y * 2 ^ s := Int.mul_le_mul_of_nonneg_right (by omega) (by omega)
  rw [Int.add_mul] at a1
  have hw : IntKind.u64.wrap (hi * 2 ^ s) = hi * 2 ^ s := by rw [IntKind.wrap_u64]; omega
  have hl : lo * 2 ^ s = lo % 2 ^ (64 - s) * 2 ^ s + lo / 2 ^ (64 - s) * 18446744073709551616 := by
    have : lo / 2 ^ (64 - s) * 18446744073709551616 = lo / 2 ^ (64 - s) * 2 ^ (64 - s) * 2 ^ s := by
      rw [Int.mul_assoc, Int.mul_comm (2 ^ (64 - s)), hPR]
    rw [this, ← Int.add_mul]
    congr 1
    omega
  have b0 : 0 ≤ lo % 2 ^ (64 - s) * 2 ^ s := Int.mul_nonneg m0 (by omega)
  have b1 : lo % 2 ^ (64 - s) * 2 ^ s < 18446744073709551616 := by
    have := Int.mul_lt_mul_of_pos_right m1 P0
    rw [Int.mul_comm (2 ^ (64 - s)), hPR] at this
    exact this
  have hL : IntKind.u64.wrap (lo * 2 ^ s) = lo % 2 ^ (64 - s) * 2 ^ s := by
    rw [IntKind.wrap_u64, hl, Int.add_mul_emod_self_right]; omega
  refine ⟨?_, by omega, by omega, ?_, by omega, by omega⟩
  · rw [hw]; exact or_split hi _ s h0 q0 q1 (by omega)
  · rw [hL, Int.add_mul (hi * 18446744073709551616), hl, Int.mul_right_comm hi]
    omega

theorem len_bd : ∀ (f x : Nat), x < 2 ^ f → f ≤ 64 → x ≠ 0 → x < 2 ^ Lib.bitLen x ∧ 2 ^ Lib.bitLen x ≤ 2 * x ∧ 1 ≤ Lib.bitLen x
  | 0, x, h, _, hx => absurd h (by omega)
  | f + 1, x, h, hf, hx => by
    have h64 : x < 2 ^ 64 := Nat.lt_of_lt_of_le h (Nat.pow_le_pow_right (by omega) hf)
    have hb := Lib.bitLen_half x hx h64
    by_cases h1 : x = 1
    · subst h1
      decide
    · have ih := len_bd f (x / 2) (by rw [Nat.pow_succ] at h; omega) (by omega) (by omega)
      rw [hb, Nat.pow_add, Nat.pow_one]
      omega

/-- How many bits y is shifted by. -/
theorem shift_len (y : Int) (y0 : 1 ≤ y) (y1 : y ≤ 9223372036854775807) : ∃ s : Nat, (64 - (Lib.bitLen y.toNat : Int)) = s ∧ 1 ≤ s ∧ s ≤ 63 ∧ 9223372036854775808 ≤ y * 2 ^ s ∧ y * 2 ^ s < 18446744073709551616 := by
  obtain ⟨n, rfl⟩ := Int.eq_ofNat_of_zero_le (show 0 ≤ y by omega)
  have hn : ((n : Int)).toNat = n := by omega
  rw [hn]
  obtain ⟨b1, b2, b3⟩ := len_bd 63 n (by omega) (by omega) (by omega)
  have b4 := Lib.bitLen_le n 63 (by omega) (by omega)
  generalize Lib.bitLen n = b at b1 b2 b3 b4
  refine ⟨64 - b, by omega, by omega, by omega, ?_⟩
  have hp : (2 : Int) ^ b * 2 ^ (64 - b) = 18446744073709551616 := pows b (by omega)
  have hP : ((2 ^ b : Nat) : Int) = (2 : Int) ^ b := by simp
  have R0 : (0 : Int) < 2 ^ (64 - b) := Int.pow_pos (by omega)
  have c1 : (n : Int) < (2 : Int) ^ b := by rw [← hP]; omega
  have c2 : (2 : Int) ^ b ≤ 2 * (n : Int) := by rw [← hP]; omega
  have d1 := Int.mul_lt_mul_of_pos_right c1 R0
  have d2 := Int.mul_le_mul_of_nonneg_right c2 (Int.le_of_lt R0)
  rw [Int.mul_assoc] at d2
  omega

end Go.Proofs.Ytkliijcfplmdoaa
