/-
  What the law's own example answers, as a contract.
-/
import Derived.Test.YtgbfckjmbmmgpabHBear
import Derived.Test.YtgbfckjmbmmgpabHSettle
import Derived.Test.YtgbfckjmbmmgpabHOut
import Derived.Deep.Cut
set_option linter.unusedSimpArgs false
set_option linter.unusedVariables false
set_option maxRecDepth 100000
namespace Go.Proofs.Ytgbfckjmbmmgpab.Sh
open Go.RowKit

theorem wk_bear (w : World) : Calls Try.prog 4 #[.int .i64 10000, .agg #[.bool true, .bool true, .int .i64 2000, .int .i64 2000], .int .i64 3000, .int .i64 9000, .int .i64 0] w fun e w' => e = .returned (.tuple #[.int .i64 3000, .int .i64 2000, .int .i64 1000, .int .i64 0]) ∧ Below w.heap.size w w' := by
  have h := bear_any 10000 true true 2000 2000 3000 9000 0 w
  rw [show bD 10000 true 2000 2000 3000 9000 0 = 3000 by decide +kernel, show bC 10000 true 2000 2000 3000 9000 0 = 2000 by decide +kernel, show bK 10000 true 2000 2000 3000 9000 0 = 1000 by decide +kernel, show bE 10000 2000 2000 3000 9000 = 0 by decide +kernel] at h
  exact h
theorem wk_settle (w : World) : Calls Try.prog 9 #[.int .i64 12000, .int .i64 10000, .int .i64 1000, .int .i64 3000, .int .i64 2000, .int .i64 1000] w fun e w' => e = .returned (.tuple #[.agg #[.int .i64 10000, .int .i64 3000, .int .i64 2000, .int .i64 0, .int .i64 4000, .int .i64 2000, .int .i64 1000, .int .i64 0], .int .i64 0]) ∧ Below w.heap.size w w' := by
  have h := settle_any 12000 10000 1000 3000 2000 1000 w
  rw [show (setV 12000 10000 1000 3000 2000 1000).al = 10000 by decide +kernel, show (setV 12000 10000 1000 3000 2000 1000).de = 3000 by decide +kernel, show (setV 12000 10000 1000 3000 2000 1000).cp = 2000 by decide +kernel, show (setV 12000 10000 1000 3000 2000 1000).cn = 0 by decide +kernel, show (setV 12000 10000 1000 3000 2000 1000).plan = 4000 by decide +kernel, show (setV 12000 10000 1000 3000 2000 1000).wr = 2000 by decide +kernel, show (setV 12000 10000 1000 3000 2000 1000).pr = 1000 by decide +kernel, show (setV 12000 10000 1000 3000 2000 1000).deny = 0 by decide +kernel, show setE 12000 10000 1000 3000 2000 1000 = 0 by decide +kernel] at h
  exact h
theorem wk_refuse (w : World) : Calls Try.prog 10 #[.int .i64 500, .int .i64 100, .int .i64 96] w fun e w' => e = .returned (.tuple #[.agg #[.int .i64 0, .int .i64 0, .int .i64 0, .int .i64 0, .int .i64 0, .int .i64 400, .int .i64 100, .int .i64 96], .int .i64 0]) ∧ Below w.heap.size w w' := by
  have h := refuse_any 500 100 96 w
  rw [show (refV 500 100 96).al = 0 by decide +kernel, show (refV 500 100 96).de = 0 by decide +kernel, show (refV 500 100 96).cp = 0 by decide +kernel, show (refV 500 100 96).cn = 0 by decide +kernel, show (refV 500 100 96).plan = 0 by decide +kernel, show (refV 500 100 96).wr = 400 by decide +kernel, show (refV 500 100 96).pr = 100 by decide +kernel, show (refV 500 100 96).deny = 96 by decide +kernel, show refE 500 100 96 = 0 by decide +kernel] at h
  exact h
theorem wk_member (w : World) : Calls Try.prog 11 #[.agg #[.int .i64 10000, .int .i64 3000, .int .i64 2000, .int .i64 0, .int .i64 4000, .int .i64 2000, .int .i64 1000, .int .i64 0]] w fun e w' => e = .returned (.int .i64 5000) ∧ Below w.heap.size w w' :=
  member_any ⟨10000, 3000, 2000, 0, 4000, 2000, 1000, 0⟩ w (by decide) (by decide) (by decide) (by decide) (by decide) (by decide)
set_option maxHeartbeats 4000000 in
theorem works_any (w : World) : Calls Try.prog 5 #[] w fun e w' => e = .returned (.bool true) ∧ Below w.heap.size w w' := by
  go_enter Try.func5, Try.ntmps5
  go_wp2_with fail
  go_at_call 4
  refine (wk_bear _).mono ?_
  rintro e w1 ⟨rfl, hb1⟩
  go_wp2_with fail
  go_at_call 9
  refine (wk_settle _).mono ?_
  rintro e w2 ⟨rfl, hb2⟩
  have HB2 := Lib.hid (below_trans (below_trans hb1 hb2) (below_alloc w2 (.cells #[.int .i64 10000, .int .i64 3000, .int .i64 2000, .int .i64 0, .int .i64 4000, .int .i64 2000, .int .i64 1000, .int .i64 0] 35)))
  have HO2 := Lib.hid (alloc_new w2 #[.int .i64 10000, .int .i64 3000, .int .i64 2000, .int .i64 0, .int .i64 4000, .int .i64 2000, .int .i64 1000, .int .i64 0] 35)
  clear hb1 hb2
  go_upto_region 3 with fail
  generalize w2.alloc (.cells #[.int .i64 10000, .int .i64 3000, .int .i64 2000, .int .i64 0, .int .i64 4000, .int .i64 2000, .int .i64 1000, .int .i64 0] 35) = W2 at *
  generalize w2.heap.size = q at *
  go_wp2_with fail
  go_at_call 10
  refine (wk_refuse _).mono ?_
  rintro e w3 ⟨rfl, hb3⟩
  have HB3 := Lib.hid (below_trans (below_trans HB2.out hb3) (below_alloc w3 (.cells #[.int .i64 0, .int .i64 0, .int .i64 0, .int .i64 0, .int .i64 0, .int .i64 400, .int .i64 100, .int .i64 96] 35)))
  have HO3 := Lib.hid (keepB (keepB HO2.out hb3) (below_alloc w3 (.cells #[.int .i64 0, .int .i64 0, .int .i64 0, .int .i64 0, .int .i64 0, .int .i64 400, .int .i64 100, .int .i64 96] 35)))
  have HX3 := Lib.hid (alloc_new w3 #[.int .i64 0, .int .i64 0, .int .i64 0, .int .i64 0, .int .i64 0, .int .i64 400, .int .i64 100, .int .i64 96] 35)
  clear hb3 HB2 HO2
  go_upto_region 4 with fail
  generalize w3.alloc (.cells #[.int .i64 0, .int .i64 0, .int .i64 0, .int .i64 0, .int .i64 0, .int .i64 400, .int .i64 100, .int .i64 96] 35) = W3 at *
  generalize w3.heap.size = r at *
  obtain ⟨b0, b1, b2, b3, b4, b5, b6, b7⟩ := eight HO3.out
  obtain ⟨d0, d1, d2, d3, d4, d5, d6, d7⟩ := eight HX3.out
  go_wp2_with fail
  go_at_call 11
  refine (wk_member _).mono ?_
  rintro e w4 ⟨rfl, hb4⟩
  have HB4 := Lib.hid (below_trans HB3.out hb4)
  have HX4 := Lib.hid (keepB HX3.out hb4)
  clear hb4 b0 b1 b2 b3 b4 b5 b6 b7 d0 d1 d2 d3 d4 d5 d6 d7
  obtain ⟨d0, d1, d2, d3, d4, d5, d6, d7⟩ := eight HX4.out
  go_wp2
  go_ret
  exact ⟨rfl, HB4.out⟩
theorem bsix {w : World} {b : Nat} {v0 v1 v2 v3 v4 v5 : Value} {T : TypeId} (h : w.heap[b]? = some (.cells #[v0, v1, v2, v3, v4, v5] T (0, 0))) : w.cell? ⟨b, 0, none⟩ = some v0 ∧ w.cell? ⟨b, 1, none⟩ = some v1 ∧ w.cell? ⟨b, 2, none⟩ = some v2 ∧ w.cell? ⟨b, 3, none⟩ = some v3 ∧ w.cell? ⟨b, 4, none⟩ = some v4 ∧ w.cell? ⟨b, 5, none⟩ = some v5 := by
  refine ⟨?_, ?_, ?_, ?_, ?_, ?_⟩ <;> (rw [cell_of_row w b _ _ T (0, 0) h]; rfl)
theorem bear_al (al cp cn de oo : Int) (h : bE al cp cn de oo = 0) : al ≤ 10000000000000 := by
  have hb : bearB al cp cn de oo = true := by
    cases e : bearB al cp cn de oo with
    | true => rfl
    | false => simp [bE, e] at h
  exact ((bear_iff al cp cn de oo).1 hb).1.2
theorem ref_bd (bi pr why : Int) (h : refE bi pr why = 0) : bi ≤ 10000000000000 ∧ 0 ≤ (refV bi pr why).de ∧ (refV bi pr why).de ≤ 10000000000000 ∧ 0 ≤ (refV bi pr why).cp ∧ (refV bi pr why).cp ≤ 10000000000000 ∧ 0 ≤ (refV bi pr why).cn ∧ (refV bi pr why).cn ≤ 10000000000000 := by
  have hg : Ce.good bi = true := by
    unfold refE at h
    split at h
    case isFalse => simp at h
    case isTrue h1 => exact h1.2.1
  simp only [refV, if_pos h]
  refine ⟨((Ce.good_iff _).1 hg).2, ?_, ?_, ?_, ?_, ?_, ?_⟩ <;> decide
/-- What ShareOthers asks of two outcomes, in one word. -/
theorem set_all (bi al pr de cp cn : Int) (h : setE bi al pr de cp cn = 0) (g : setE bi al 0 de cp cn = 0) : ∃ M N : Int, Hid (∀ w : World, Calls Try.prog 11 #[.agg #[.int .i64 (setV bi al pr de cp cn).al, .int .i64 (setV bi al pr de cp cn).de, .int .i64 (setV bi al pr de cp cn).cp, .int .i64 (setV bi al pr de cp cn).cn, .int .i64 (setV bi al pr de cp cn).plan, .int .i64 (setV bi al pr de cp cn).wr, .int .i64 (setV bi al pr de cp cn).pr, .int .i64 (setV bi al pr de cp cn).deny]] w fun e w' => e = .returned (.int .i64 M) ∧ Below w.heap.size w w') ∧ Hid (∀ w : World, Calls Try.prog 11 #[.agg #[.int .i64 (setV bi al 0 de cp cn).al, .int .i64 (setV bi al 0 de cp cn).de, .int .i64 (setV bi al 0 de cp cn).cp, .int .i64 (setV bi al 0 de cp cn).cn, .int .i64 (setV bi al 0 de cp cn).plan, .int .i64 (setV bi al 0 de cp cn).wr, .int .i64 (setV bi al 0 de cp cn).pr, .int .i64 (setV bi al 0 de cp cn).deny]] w fun e w' => e = .returned (.int .i64 N) ∧ Below w.heap.size w w') ∧ (setV bi al pr de cp cn).plan + M = (if al - pr < 0 then 0 else al - pr) ∧ (setV bi al pr de cp cn).plan ≤ (setV bi al 0 de cp cn).plan ∧ M ≤ N ∧ ((setV bi al pr de cp cn).plan = (setV bi al 0 de cp cn).plan ∨ M = 0) ∧ 0 ≤ (setV bi al pr de cp cn).plan ∧ (setV bi al pr de cp cn).plan ≤ 10000000000000 ∧ 0 ≤ M ∧ M ≤ 10000000000000 ∧ 0 ≤ al ∧ al ≤ 10000000000000 ∧ 0 ≤ pr ∧ pr ≤ 10000000000000 ∧ 0 ≤ (setV bi al 0 de cp cn).plan := by
  have hs := set_parts h
  have gs := set_parts g
  have ho := set_ok h
  have go := set_ok g
  obtain ⟨x1, x2⟩ := set_others bi al pr de cp cn h
  obtain ⟨y1, y2, y3⟩ := x2 g
  have e1 : setV bi al pr de cp cn = ⟨al, sD al pr de cp cn, sC al pr de cp cn, sK al pr de cp cn, sP al pr de cp cn, bi - pr - sP al pr de cp cn - sD al pr de cp cn - sC al pr de cp cn - sK al pr de cp cn, pr, 0⟩ := by unfold setV; rw [if_pos h]
  have e2 : setV bi al 0 de cp cn = ⟨al, sD al 0 de cp cn, sC al 0 de cp cn, sK al 0 de cp cn, sP al 0 de cp cn, bi - 0 - sP al 0 de cp cn - sD al 0 de cp cn - sC al 0 de cp cn - sK al 0 de cp cn, 0, 0⟩ := by unfold setV; rw [if_pos g]
  have d1 : (setV bi al pr de cp cn).de = sD al pr de cp cn := by rw [e1]
  have d2 : (setV bi al pr de cp cn).cp = sC al pr de cp cn := by rw [e1]
  have d3 : (setV bi al pr de cp cn).cn = sK al pr de cp cn := by rw [e1]
  have d4 : (setV bi al pr de cp cn).plan = sP al pr de cp cn := by rw [e1]
  have f1 : (setV bi al 0 de cp cn).de = sD al 0 de cp cn := by rw [e2]
  have f2 : (setV bi al 0 de cp cn).cp = sC al 0 de cp cn := by rw [e2]
  have f3 : (setV bi al 0 de cp cn).cn = sK al 0 de cp cn := by rw [e2]
  have f4 : (setV bi al 0 de cp cn).plan = sP al 0 de cp cn := by rw [e2]
  have m1 : member (setV bi al pr de cp cn) = sD al pr de cp cn + sC al pr de cp cn + sK al pr de cp cn := by unfold member; rw [d1, d2, d3]
  clear e1 e2
  refine ⟨member (setV bi al pr de cp cn), member (setV bi al 0 de cp cn), fun w => member_any (setV bi al pr de cp cn) w ?_ ?_ ?_ ?_ ?_ ?_, fun w => member_any (setV bi al 0 de cp cn) w ?_ ?_ ?_ ?_ ?_ ?_, x1, y1, y2, y3, ?_, ?_, ?_, ?_, ?_, ?_, ?_, ?_, ?_⟩
  all_goals first | (rw [d1]; omega) | (rw [d2]; omega) | (rw [d3]; omega) | (rw [d4]; omega) | (rw [f1]; omega) | (rw [f2]; omega) | (rw [f3]; omega) | (rw [f4]; omega) | (rw [m1]; omega) | omega
end Go.Proofs.Ytgbfckjmbmmgpab.Sh
