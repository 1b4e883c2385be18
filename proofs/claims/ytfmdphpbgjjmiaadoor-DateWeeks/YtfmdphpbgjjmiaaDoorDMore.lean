/-
  Four hundred years later; the day behind a day, as the law spells it.
-/
import Derived.Test.YtfmdphpbgjjmiaaDoorDMath
namespace Go.Proofs.YtfmdphpbgjjmiaaDoor

theorem lp_400 (y : Int) : leapB (y + 400) = leapB y := by
  cases h : leapB y
  · rw [leap_not] at h ⊢; omega
  · rw [leap_iff] at h ⊢; omega
theorem lenM_400 (y m : Int) : lenM (y + 400) m = lenM y m := by unfold lenM; rw [lp_400]
theorem cum_400 (y m : Int) : cum (y + 400) m = cum y m := by unfold cum lp; rw [lp_400]
theorem ahead_400 (y : Int) : ahead (y + 400) = ahead y + 146097 := by unfold ahead; omega
theorem weeks (n : Int) (h : good n = true) (k : n < 95990101) : good (n + 4000000) = true ∧ dayOf (n + 4000000) = dayOf n + 146097 := by
  have p := parts n (good_pos n h)
  obtain ⟨a, b, c, d, e, f⟩ := (good_iff n).1 h
  have g := made_good (yr n + 400) (mo n) (da n) (by omega) (by omega) c d e (by rw [lenM_400]; exact f)
  have e1 : (yr n + 400) * 10000 + mo n * 100 + da n = n + 4000000 := by omega
  rw [e1, ahead_400, cum_400] at g
  exact ⟨g.1, by rw [g.2]; unfold dayOf; omega⟩
theorem steps (n : Int) (h : good n = true) : (good (n + 1) = true ∧ nxt n = n + 1) ∨ (good (n + 1) = false ∧ (n / 100 % 100 == 12) = true ∧ nxt n = n - n % 10000 + 10101) ∨ (good (n + 1) = false ∧ (n / 100 % 100 == 12) = false ∧ nxt n = n - n % 100 + 101) := by
  have n0 := good_pos n h
  have p := parts n n0
  have my := yr_eq n n0
  have mm := mo_eq n n0
  have md := da_eq n n0
  obtain ⟨a, b, c, d, e, f⟩ := (good_iff n).1 h
  have l := lenM_bd (yr n) (mo n) c d
  obtain ⟨q1, q2, q3⟩ := made (yr n) (mo n) (da n + 1) (by omega) (by omega) (by omega) (by omega) (by omega)
  have e1 : yr n * 10000 + mo n * 100 + (da n + 1) = n + 1 := by omega
  rw [e1] at q1 q2 q3
  by_cases hl : da n < lenM (yr n) (mo n)
  · refine Or.inl ⟨?_, by unfold nxt; rw [if_pos hl]⟩
    rw [good_iff, q1, q2, q3]
    exact ⟨a, b, c, d, by omega, by omega⟩
  · have g : good (n + 1) = false := by
      cases g : good (n + 1)
      · rfl
      · rw [good_iff, q1, q2, q3] at g
        omega
    refine Or.inr ?_
    by_cases m12 : mo n < 12
    · refine Or.inr ⟨g, ?_, ?_⟩
      · rw [← mm]; simp; omega
      · unfold nxt; rw [if_neg hl, if_pos m12]; omega
    · refine Or.inl ⟨g, ?_, ?_⟩
      · rw [← mm]; simp; omega
      · unfold nxt; rw [if_neg hl, if_neg m12]; omega
end Go.Proofs.YtfmdphpbgjjmiaaDoor
