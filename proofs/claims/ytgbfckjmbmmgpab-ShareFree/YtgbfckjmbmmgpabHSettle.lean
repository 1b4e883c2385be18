/-
  What share.Settle answers, as a contract: for all numbers.
-/
import Derived.Test.YtgbfckjmbmmgpabHSetA
set_option linter.unusedSimpArgs false
set_option linter.unusedVariables false
set_option maxRecDepth 100000
namespace Go.Proofs.Ytgbfckjmbmmgpab.Sh
open Go.RowKit

theorem six (bi al pr de cp cn : Int) : [bi, al, pr, de, cp, cn].all Ce.good = sixB bi al pr de cp cn := by simp [sixB]
theorem six_iff {bi al pr de cp cn : Int} (h : [bi, al, pr, de, cp, cn].all Ce.good = true) : (0 ≤ bi ∧ bi ≤ 10000000000000) ∧ (0 ≤ al ∧ al ≤ 10000000000000) ∧ (0 ≤ pr ∧ pr ≤ 10000000000000) ∧ (0 ≤ de ∧ de ≤ 10000000000000) ∧ (0 ≤ cp ∧ cp ≤ 10000000000000) ∧ (0 ≤ cn ∧ cn ≤ 10000000000000) := by
  simp only [List.all_cons, List.all_nil, Bool.and_true, Bool.and_eq_true, Ce.good_iff] at h
  exact h
theorem set_zero {bi al pr de cp cn E : Int} (h : setE bi al pr de cp cn = E) (hE : E ≠ 0) : setV bi al pr de cp cn = ot0 := by unfold setV; rw [h, if_neg hE]
theorem setE_bad {bi al pr de cp cn : Int} (h : [bi, al, pr, de, cp, cn].all Ce.good = false) : setE bi al pr de cp cn = 1 := by unfold setE; rw [← six, h]; rfl
theorem setE_over {bi al pr de cp cn : Int} (h : [bi, al, pr, de, cp, cn].all Ce.good = true) (h2 : bi < al ∨ bi < pr ∨ al < de + cp + cn) : setE bi al pr de cp cn = 3 := by
  unfold setE
  rw [← six, if_pos h, if_neg]
  simp only [fitB, Bool.and_eq_true, decide_eq_true_eq]
  omega
theorem setE_ok {bi al pr de cp cn : Int} (h : [bi, al, pr, de, cp, cn].all Ce.good = true) (h1 : ¬ bi < al) (h2 : ¬ bi < pr) (h3 : ¬ al < de + cp + cn) : setE bi al pr de cp cn = 0 := by
  unfold setE
  rw [← six, if_pos h, if_pos]
  simp only [fitB, Bool.and_eq_true, decide_eq_true_eq]
  omega
theorem rest_max (al pr : Int) : max (al - pr) 0 = rest al pr := by unfold rest; split <;> omega
theorem settle_any (bi al pr de cp cn : Int) (w : World) :
    Calls Try.prog 9 #[.int .i64 bi, .int .i64 al, .int .i64 pr, .int .i64 de, .int .i64 cp, .int .i64 cn] w fun e w' => e = .returned (.tuple #[.agg #[.int .i64 (setV bi al pr de cp cn).al, .int .i64 (setV bi al pr de cp cn).de, .int .i64 (setV bi al pr de cp cn).cp, .int .i64 (setV bi al pr de cp cn).cn, .int .i64 (setV bi al pr de cp cn).plan, .int .i64 (setV bi al pr de cp cn).wr, .int .i64 (setV bi al pr de cp cn).pr, .int .i64 (setV bi al pr de cp cn).deny], .int .i64 (setE bi al pr de cp cn)]) ∧ Below w.heap.size w w' := by
  cases hAll : [bi, al, pr, de, cp, cn].all Ce.good
  · have e := setE_bad hAll
    rw [set_zero e (by decide), e]
    exact set_bad bi al pr de cp cn w hAll
  obtain ⟨⟨a0, a1⟩, ⟨b0, b1⟩, ⟨c0', c1⟩, ⟨e0, e1⟩, ⟨f0, f1⟩, ⟨g0, g1⟩⟩ := six_iff hAll
  by_cases h1 : bi < al
  · have e := setE_over hAll (Or.inl h1)
    rw [set_zero e (by decide), e]
    exact set_o1 bi al pr de cp cn w a0 a1 b0 b1 c0' c1 e0 e1 f0 f1 g0 g1 hAll h1
  by_cases h2 : bi < pr
  · have e := setE_over hAll (Or.inr (Or.inl h2))
    rw [set_zero e (by decide), e]
    exact set_o2 bi al pr de cp cn w a0 a1 b0 b1 c0' c1 e0 e1 f0 f1 g0 g1 hAll h1 h2
  by_cases h3 : al < de + cp + cn
  · have e := setE_over hAll (Or.inr (Or.inr h3))
    rw [set_zero e (by decide), e]
    exact set_o3 bi al pr de cp cn w a0 a1 b0 b1 c0' c1 e0 e1 f0 f1 g0 g1 hAll h1 h2 h3
  have e := setE_ok hAll h1 h2 h3
  obtain ⟨r0, r1, r2, q0, q1, q2, q3, q4, q5, q6, q7⟩ := set_parts e
  have ev : setV bi al pr de cp cn = ⟨al, sD al pr de cp cn, sC al pr de cp cn, sK al pr de cp cn, sP al pr de cp cn, bi - pr - sP al pr de cp cn - sD al pr de cp cn - sC al pr de cp cn - sK al pr de cp cn, pr, 0⟩ := by unfold setV; rw [if_pos e]
  rw [ev, e]
  have x0 : least (al - de - cp - cn) (rest al pr) = sP al pr de cp cn := rfl
  have x1 : least de (rest al pr - sP al pr de cp cn) = sD al pr de cp cn := rfl
  have x2 : least cp (rest al pr - sP al pr de cp cn - sD al pr de cp cn) = sC al pr de cp cn := rfl
  have x3 : least cn (rest al pr - sP al pr de cp cn - sD al pr de cp cn - sC al pr de cp cn) = sK al pr de cp cn := rfl
  clear ev
  have k1' : sD al pr de cp cn ≤ 10000000000000 := by omega
  have k2' : sC al pr de cp cn ≤ 10000000000000 := by omega
  have k3' : sK al pr de cp cn ≤ 10000000000000 := by omega
  have HR : Hid (max (al - pr) 0 = rest al pr) := rest_max al pr
  have HM : Hid (∀ w : World, Calls Try.prog 11 #[.agg #[.int .i64 al, .int .i64 (sD al pr de cp cn), .int .i64 (sC al pr de cp cn), .int .i64 (sK al pr de cp cn), .int .i64 (sP al pr de cp cn), .int .i64 0, .int .i64 pr, .int .i64 0]] w fun e w' => e = .returned (.int .i64 (sD al pr de cp cn + sC al pr de cp cn + sK al pr de cp cn)) ∧ Below w.heap.size w w') := fun w => member_any ⟨al, sD al pr de cp cn, sC al pr de cp cn, sK al pr de cp cn, sP al pr de cp cn, 0, pr, 0⟩ w q1 k1' q2 k2' q3 k3'
  generalize sP al pr de cp cn = P at *
  generalize sD al pr de cp cn = D at *
  generalize sC al pr de cp cn = C at *
  generalize sK al pr de cp cn = K at *
  generalize rest al pr = R at *
  rw [show bi - pr - P - D - C - K = bi - pr - P - (D + C + K) by omega]
  rw [show al - de - cp - cn = al - (de + cp + cn) by omega] at x0
  exact set_A bi al pr de cp cn w a0 a1 b0 b1 c0' c1 e0 e1 f0 f1 g0 g1 hAll h1 h2 h3 R P D C K (D + C + K) (R - P) (R - P - D) (R - P - D - C) (R - P - D - C - K) HR (Lib.hid ⟨by omega, by omega, by omega, by omega, x0, rfl⟩) (Lib.hid ⟨by omega, by omega, by omega, by omega, x1, rfl⟩) (Lib.hid ⟨by omega, by omega, by omega, by omega, x2, rfl⟩) (Lib.hid ⟨by omega, by omega, by omega, by omega, x3, rfl⟩) HM (by omega) (by omega) (by omega) (by omega)
end Go.Proofs.Ytgbfckjmbmmgpab.Sh
