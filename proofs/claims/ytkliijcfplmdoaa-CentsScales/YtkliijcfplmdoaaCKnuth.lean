/-
  Plain numbers: one digit of a long division (Knuth's algorithm D with digits of 32 bits), and what the two digits make.
-/
namespace Go.Proofs.Ytkliijcfplmdoaa

/-- The digit: how often Y goes into U times 2^32 and u together. -/
def dig (U Y u : Int) : Int := (U * 4294967296 + u) / Y

theorem dig_bd (U Y u : Int) (U0 : 0 ≤ U) (U1 : U < Y) (u0 : 0 ≤ u) (u1 : u < 4294967296) : 0 ≤ dig U Y u ∧ dig U Y u < 4294967296 := by
  unfold dig
  constructor
  · exact Int.ediv_nonneg (by omega) (by omega)
  · rw [Int.ediv_lt_iff_lt_mul (by omega)]
    have h : 4294967296 * Y = Y * 4294967296 := Int.mul_comm ..
    omega

/-- What is left behind the digit. -/
def rest (U Y u : Int) : Int := (U * 4294967296 + u) % Y
theorem rest_bd (U Y u : Int) (hY : 0 < Y) : 0 ≤ rest U Y u ∧ rest U Y u < Y :=
  ⟨Int.emod_nonneg _ (by omega), Int.emod_lt_of_pos _ hY⟩
theorem rest_eq (U Y u : Int) : U * 4294967296 + u - dig U Y u * Y = rest U Y u := by
  unfold dig rest
  have := Int.ediv_mul_add_emod (U * 4294967296 + u) Y
  omega

section
variable (U Y a b u q r : Int)

theorem try_mul (hY : a * 4294967296 + b = Y) (hq : q * a + r = U) : q * Y = U * 4294967296 - r * 4294967296 + q * b := by
  rw [← hY, ← hq, Int.mul_add, ← Int.mul_assoc]
  omega

/-- The trial digit is too great. -/
theorem try_over (hY : a * 4294967296 + b = Y) (hq : q * a + r = U) (Y0 : 0 < Y) (h : 4294967296 * r + u < q * b) : dig U Y u + 1 ≤ q := by
  have h1 := try_mul U Y a b q r hY hq
  have h2 : dig U Y u < q := by
    unfold dig
    rw [Int.ediv_lt_iff_lt_mul Y0]
    omega
  omega

/-- The trial digit is not too great. -/
theorem try_fits (hY : a * 4294967296 + b = Y) (hq : q * a + r = U) (Y0 : 0 < Y) (h : ¬ 4294967296 * r + u < q * b) : q ≤ dig U Y u := by
  have h1 := try_mul U Y a b q r hY hq
  unfold dig
  rw [Int.le_ediv_iff_mul_le Y0]
  omega

theorem try_broke (hY : a * 4294967296 + b = Y) (hq : q * a + r = U) (Y0 : 0 < Y) (b0 : 0 ≤ b) (b1 : b < 4294967296) (u0 : 0 ≤ u) (hr : 4294967296 ≤ r) (q1 : q ≤ 4294967296) : q ≤ dig U Y u := by
  have h : q * b ≤ 4294967296 * b := Int.mul_le_mul_of_nonneg_right q1 b0
  exact try_fits U Y a b u q r hY hq Y0 (by omega)

/-- The first trial digit: no less than the digit, and hardly more than 2^32. -/
theorem try_first (hY : a * 4294967296 + b = Y) (a0 : 2147483648 ≤ a) (b0 : 0 ≤ b) (b1 : b < 4294967296) (U0 : 0 ≤ U) (U1 : U < Y) (u1 : u < 4294967296) :
    dig U Y u ≤ U / a ∧ U / a ≤ 4294967297 ∧ 0 ≤ U / a ∧ U / a * a ≤ U ∧ 0 ≤ U / a * a ∧ U - U / a * a < a ∧ 0 ≤ U - U / a * a := by
  have e := Int.ediv_mul_add_emod U a
  have m0 := Int.emod_nonneg U (b := a) (by omega)
  have m1 := Int.emod_lt_of_pos U (b := a) (by omega)
  have q0 : 0 ≤ U / a := Int.ediv_nonneg U0 (by omega)
  have q1 : U / a ≤ 4294967297 := by
    have : U / a < 4294967298 := by
      rw [Int.ediv_lt_iff_lt_mul (by omega)]
      omega
    omega
  have hd : dig U Y u ≤ U / a := by
    have h1 : dig U Y u < U / a + 1 := by
      unfold dig
      rw [Int.ediv_lt_iff_lt_mul (by omega)]
      have h2 : (U / a + 1) * Y = (U / a * a) * 4294967296 + U / a * b + a * 4294967296 + b := by
        rw [← hY, Int.add_mul, Int.mul_add, ← Int.mul_assoc]; omega
      have h3 : 0 ≤ U / a * b := Int.mul_nonneg q0 b0
      omega
    omega
  have p0 : 0 ≤ U / a * a := Int.mul_nonneg q0 (by omega)
  exact ⟨hd, q1, q0, by omega, p0, by omega, by omega⟩
end

/-- Two digits make the quotient. -/
theorem two_digits (N U Y u1 u0 : Int) (Y0 : 0 < Y) (h : (U * 4294967296 + u1) * 4294967296 + u0 = N) : dig U Y u1 * 4294967296 + dig (rest U Y u1) Y u0 = N / Y := by
  have e1 := rest_eq U Y u1
  have e2 : N = (rest U Y u1 * 4294967296 + u0) + dig U Y u1 * 4294967296 * Y := by
    have : dig U Y u1 * 4294967296 * Y = dig U Y u1 * Y * 4294967296 := Int.mul_right_comm ..
    omega
  rw [e2, Int.add_mul_ediv_right _ _ (by omega)]
  show _ = dig (rest U Y u1) Y u0 + _
  omega

end Go.Proofs.Ytkliijcfplmdoaa
