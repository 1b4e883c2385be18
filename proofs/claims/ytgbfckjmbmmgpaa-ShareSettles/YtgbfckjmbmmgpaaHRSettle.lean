/-
  What the reference's Settle answers, as a contract: for all numbers.
-/
import Derived.Test.YtgbfckjmbmmgpaaHRSetA
import Derived.Test.YtgbfckjmbmmgpaaHRSetB
set_option linter.unusedSimpArgs false
set_option linter.unusedVariables false
set_option maxRecDepth 100000
namespace Go.Proofs.Ytgbfckjmbmmgpaa.Sh
open Go.RowKit

theorem rsettle_any (bi al pr de cp cn : Int) (w : World) :
    Calls Try.prog 13 #[.int .i64 bi, .int .i64 al, .int .i64 pr, .int .i64 de, .int .i64 cp, .int .i64 cn] w fun e w' => e = .returned (.tuple #[.agg #[.int .i64 (setV bi al pr de cp cn).al, .int .i64 (setV bi al pr de cp cn).de, .int .i64 (setV bi al pr de cp cn).cp, .int .i64 (setV bi al pr de cp cn).cn, .int .i64 (setV bi al pr de cp cn).plan, .int .i64 (setV bi al pr de cp cn).wr, .int .i64 (setV bi al pr de cp cn).pr, .int .i64 (setV bi al pr de cp cn).deny], .int .i64 (setE bi al pr de cp cn)]) ∧ Below w.heap.size w w' := by
  cases hAll : [bi, al, pr, de, cp, cn].all Ce.good
  · have e := setE_bad hAll
    rw [set_zero e (by decide), e]
    exact rset_bad bi al pr de cp cn w hAll
  obtain ⟨⟨a0, a1⟩, ⟨b0, b1⟩, ⟨c0', c1⟩, ⟨e0, e1⟩, ⟨f0, f1⟩, ⟨g0, g1⟩⟩ := six_iff hAll
  by_cases h1 : bi < al
  · have e := setE_over hAll (Or.inl h1)
    rw [set_zero e (by decide), e]
    exact rset_o1 bi al pr de cp cn w a0 a1 b0 b1 c0' c1 e0 e1 f0 f1 g0 g1 hAll h1
  by_cases h2 : bi < pr
  · have e := setE_over hAll (Or.inr (Or.inl h2))
    rw [set_zero e (by decide), e]
    exact rset_o2 bi al pr de cp cn w a0 a1 b0 b1 c0' c1 e0 e1 f0 f1 g0 g1 hAll h1 h2
  by_cases h3 : al < de + cp + cn
  · have e := setE_over hAll (Or.inr (Or.inr h3))
    rw [set_zero e (by decide), e]
    exact rset_o3 bi al pr de cp cn w a0 a1 b0 b1 c0' c1 e0 e1 f0 f1 g0 g1 hAll h1 h2 h3
  have e := setE_ok hAll h1 h2 h3
  obtain ⟨r0, r1, r2, q0, q1, q2, q3, q4, q5, q6, q7⟩ := set_parts e
  have ev : setV bi al pr de cp cn = ⟨al, sD al pr de cp cn, sC al pr de cp cn, sK al pr de cp cn, sP al pr de cp cn, bi - pr - sP al pr de cp cn - sD al pr de cp cn - sC al pr de cp cn - sK al pr de cp cn, pr, 0⟩ := by unfold setV; rw [if_pos e]
  rw [ev, e]
  have x0 : least (al - de - cp - cn) (rest al pr) = sP al pr de cp cn := rfl
  have x1 : least de (rest al pr - sP al pr de cp cn) = sD al pr de cp cn := rfl
  have x2 : least cp (rest al pr - sP al pr de cp cn - sD al pr de cp cn) = sC al pr de cp cn := rfl
  have x3 : least cn (rest al pr - sP al pr de cp cn - sD al pr de cp cn - sC al pr de cp cn) = sK al pr de cp cn := rfl
  clear ev
  have k0' : sP al pr de cp cn ≤ 10000000000000 := by omega
  have k1' : sD al pr de cp cn ≤ 10000000000000 := by omega
  have k2' : sC al pr de cp cn ≤ 10000000000000 := by omega
  have k3' : sK al pr de cp cn ≤ 10000000000000 := by omega
  by_cases hr : pr < al
  · have hR : rest al pr = al - pr := by unfold rest; rw [if_pos hr]
    rw [hR] at x0 x1 x2 x3
    exact rset_A bi al pr de cp cn w a0 a1 b0 b1 c0' c1 e0 e1 f0 f1 g0 g1 hAll h1 h2 h3 hr _ _ _ _ q0 k0' q1 k1' q2 k2' q3 k3' (least_to _ _ _ x0) (least_to _ _ _ x1) (least_to _ _ _ x2) (least_to _ _ _ x3)
  · have hR : rest al pr = 0 := by unfold rest; rw [if_neg hr]
    rw [hR] at x0 x1 x2 x3
    rw [hR] at q7
    rw [show sP al pr de cp cn = 0 by omega, show sD al pr de cp cn = 0 by omega, show sC al pr de cp cn = 0 by omega, show sK al pr de cp cn = 0 by omega]
    simp only [Int.sub_zero]
    have lz (x : Int) (h : 0 ≤ x) : least x 0 = 0 := by unfold least; split <;> omega
    exact rset_B bi al pr de cp cn w a0 a1 b0 b1 c0' c1 e0 e1 f0 f1 g0 g1 hAll h1 h2 h3 hr (least_to _ _ _ (lz _ (by omega))) (least_to _ _ _ (lz _ e0)) (least_to _ _ _ (lz _ f0)) (least_to _ _ _ (lz _ g0))
end Go.Proofs.Ytgbfckjmbmmgpaa.Sh
