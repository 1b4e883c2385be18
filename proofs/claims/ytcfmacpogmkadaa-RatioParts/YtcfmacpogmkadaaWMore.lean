/-
  The order of floats is one; a part's share lies from 0 to 1: plain facts for the laws.
-/
import Derived.Test.YtcfmacpogmkadaaWWorks
namespace Go.Proofs.Ytcfmacpogmkadaa
open Go.RowKit Go.Sort

theorem cmp_swap (a b : Nat) : cmpV a b = -cmpV b a := by rw [cmp_key, cmp_key]; exact cmpI_swap _ _
theorem cmp_bd (a b : Nat) : -1 ≤ cmpV a b ∧ cmpV a b ≤ 1 := by rw [cmp_key]; unfold cmpI; split; omega; split <;> omega
theorem cmp_chain (a b c : Nat) (h : cmpV a b ≤ 0) (k : cmpV b c ≤ 0) : cmpV a c ≤ 0 := by
  rw [cmp_key, cmpI_le] at *; omega
theorem cmp_zero_kind (a b : Nat) (h : cmpV a b = 0) : kindV a = kindV b := by
  rcases Int.lt_trichotomy (kindV a) (kindV b) with c | c | c
  · rw [cmp_kind_lt c] at h; omega
  · exact c
  · rw [cmp_kind_gt c] at h; omega

theorem part_le (a b : Int) (ha : 0 ≤ a) (hab : a ≤ b) (hb : b ≠ 0) (hb' : b ≤ 9223372036854775807) : divW (ofI a) (ofI b) ≤ ONE := by
  have hf := div_fin (ofI a) (ofI b) (ofI_lt a) (ofI_lt b) (fin_ofI a (by omega) (by omega)) (fin_ofI b (by omega) hb') (rung_ofI_ne b hb (by omega) hb')
  rw [sgn_ofI, sgn_ofI, decide_eq_false (by omega), decide_eq_false (by omega)] at hf
  have hr : rung (ofI a) ≤ rung (ofI b) := by
    rw [rung_ofI, rung_ofI]
    exact nr_int_mono _ _ (by omega) (by omega)
  have hM : mg (rung (ofI a)) * 2 ^ pl (rung (ofI a)) ≤ mg (rung (ofI b)) * 2 ^ pl (rung (ofI b)) := by
    show M (rung (ofI a)) ≤ M (rung (ofI b))
    rcases Nat.lt_or_ge (rung (ofI a)) (rung (ofI b)) with c | c
    · exact Nat.le_of_lt (M_lt c)
    · have : rung (ofI a) = rung (ofI b) := by omega
      rw [this]; exact Nat.le_refl _
  have hq := quo_one (mg (rung (ofI a))) (mg (rung (ofI b))) (pl (rung (ofI a))) (pl (rung (ofI b))) (mg_ne _ (rung_ofI_ne b hb (by omega) hb')) hM
  unfold divW
  rw [hf]
  show wd false _ ≤ ONE
  have e : 1023 * B52 = ONE := by decide
  rw [e] at hq
  exact hq
theorem small_facts (x : Nat) (h : x ≤ ONE) : x < 18446744073709551616 ∧ sgn x = false ∧ rung x = x ∧ isN x = false := by
  have h1 : ONE < INF := by decide
  have h2 := INF_lt
  have h3 : W63 < 18446744073709551616 := by decide
  have hr : rung x = x := Nat.mod_eq_of_lt (by omega)
  refine ⟨by omega, by simp [sgn]; omega, hr, ?_⟩
  unfold isN; rw [hr]; simp; omega
theorem small_ge (x : Nat) (h : x ≤ ONE) : (FloatKind.f64.format.order x 0 == some .gt || FloatKind.f64.format.order x 0 == some .eq) = true := by
  obtain ⟨h1, h2, h3, h4⟩ := small_facts x h
  show (Ieee.double.order x 0 == some .gt || Ieee.double.order x 0 == some .eq) = true
  rw [gt_d x 0 h1 (by decide), eq_d x 0 h1 (by decide), h4, show isN 0 = false by decide, show sr 0 = 0 by decide]
  simp [sr, h2, h3]; omega
theorem small_le (x : Nat) (h : x ≤ ONE) : (FloatKind.f64.format.order x 4607182418800017408 == some .lt || FloatKind.f64.format.order x 4607182418800017408 == some .eq) = true := by
  obtain ⟨h1, h2, h3, h4⟩ := small_facts x h
  have hO : ONE = 4607182418800017408 := rfl
  show (Ieee.double.order x 4607182418800017408 == some .lt || Ieee.double.order x 4607182418800017408 == some .eq) = true
  rw [lt_d x _ h1 (by decide), eq_d x _ h1 (by decide), h4, show isN 4607182418800017408 = false by decide, show sr 4607182418800017408 = 4607182418800017408 by decide]
  simp [sr, h2, h3]; omega
theorem small_cl (x : Nat) (h : x ≤ ONE) : clV x = x := by
  obtain ⟨h1, h2, h3, h4⟩ := small_facts x h
  unfold clV
  rw [h4, if_neg (by simp), h2, h3]
  by_cases z : x = 0
  · rw [if_pos (Or.inr z), z]
  · rw [if_neg (by simp [z]), if_neg (by omega)]
end Go.Proofs.Ytcfmacpogmkadaa
