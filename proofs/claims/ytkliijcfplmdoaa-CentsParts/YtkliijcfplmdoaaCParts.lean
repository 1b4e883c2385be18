/-
  Plain numbers: what follows of parts and of what is cut off.
-/
import Derived.Test.YtkliijcfplmdoaaCMath
namespace Go.Proofs.Ytkliijcfplmdoaa

theorem part_quo (a p : Int) (a0 : 0 ≤ a) (p0 : 0 ≤ p) (p1 : p ≤ 10000) : 0 ≤ a * p / 10000 ∧ a * p / 10000 ≤ a := by
  have h1 : a * p ≤ a * 10000 := Int.mul_le_mul_of_nonneg_left p1 a0
  have h0 : 0 ≤ a * p := Int.mul_nonneg a0 p0
  omega

/-- A part is answered, or an argument is wrong: no third thing. -/
theorem part_cases (a p : Int) : (partE a p = 1 ∧ partV a p = 0 ∧ ¬ (good a = true ∧ 0 ≤ p ∧ p ≤ 10000)) ∨ (partE a p = 0 ∧ partV a p = a * p / 10000 ∧ good a = true ∧ 0 ≤ p ∧ p ≤ 10000 ∧ 0 ≤ partV a p ∧ partV a p ≤ a) := by
  by_cases hp : 0 ≤ p ∧ p ≤ 10000
  · cases ga : good a
    · left
      refine ⟨?_, ?_, by simp⟩
      · unfold partE scaleE; rw [if_pos hp, if_neg (by simp [ga])]
      · unfold partV scaleV; rw [if_pos hp, if_neg (by simp [ga])]
    · right
      have ba := (good_iff a).1 ga
      have q := part_quo a p ba.1 hp.1 hp.2
      have gq : good (a * p / 10000) = true := (good_iff _).2 (by omega)
      have ev : partV a p = a * p / 10000 := by
        unfold partV scaleV; rw [if_pos hp, if_pos ⟨ga, hp.1, by omega, gq⟩]
      refine ⟨?_, ev, rfl, hp.1, hp.2, ?_, ?_⟩
      · unfold partE scaleE; rw [if_pos hp, if_pos ⟨ga, hp.1, by omega⟩, if_pos gq]
      · rw [ev]; exact q.1
      · rw [ev]; exact q.2
  · left
    refine ⟨?_, ?_, fun h => hp h.2⟩
    · unfold partE; rw [if_neg hp]
    · unfold partV; rw [if_neg hp]

theorem part_mono (a b p : Int) (p0 : 0 ≤ p) (h : a ≤ b) : a * p / 10000 ≤ b * p / 10000 := by
  have := Int.mul_le_mul_of_nonneg_right h p0
  omega

/-- A part and the other part make the whole, or a cent less. -/
theorem part_other (a p : Int) : a * p / 10000 + a * (10000 - p) / 10000 = a ∨ a * p / 10000 + a * (10000 - p) / 10000 = a - 1 := by
  have h : a * (10000 - p) = a * 10000 - a * p := Int.mul_sub ..
  rw [h]
  omega

/-- What is cut off is less than d. -/
theorem cut_off (p d : Int) (d0 : 1 ≤ d) (p0 : 0 ≤ p) : 0 ≤ p / d * d ∧ p / d * d ≤ p ∧ p - p / d * d < d := by
  have h1 := Int.mul_ediv_add_emod p d
  have h2 := Int.emod_nonneg p (b := d) (by omega)
  have h3 := Int.emod_lt_of_pos p (b := d) (by omega)
  have h4 : p / d * d = d * (p / d) := Int.mul_comm ..
  have h5 : 0 ≤ d * (p / d) := Int.mul_nonneg (by omega) (Int.ediv_nonneg p0 (by omega))
  omega

end Go.Proofs.Ytkliijcfplmdoaa
