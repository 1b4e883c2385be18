/-
  What may and big answer, as contracts.
-/
import Derived.Test.YtdppelkfcnbgbaaYSame
import Derived.Test.YtdppelkfcnbgbaaYRChk
set_option linter.unusedSimpArgs false
set_option linter.unusedVariables false
set_option maxRecDepth 100000
namespace Go.Proofs.Ytdppelkfcnbgbaa.Ac
open Go.RowKit

def mayB (l : List Row) : Bool := lightB l && (checkE l == 0)
theorem may_iff (l : List Row) : mayB l = true ↔ (l.length ≤ 300 ∧ ∀ x ∈ l, x.who.length ≤ 60) ∧ Ok l := by
  unfold mayB
  rw [Bool.and_eq_true, light_iff, beq_iff_eq, check_iff]
set_option maxHeartbeats 2000000 in
theorem may_any (l : List Row) (v : Value) (w : World) (h : RwsAt All w v l) :
    Calls Try.prog 13 #[v] w fun e w' => e = .returned (.bool (mayB l)) ∧ Below w.heap.size w w' := by
  have HL := Lib.hid (light_any l v w h)
  obtain ⟨M, HM⟩ : ∃ M, Hid (mayB l = M) := ⟨_, (rfl : mayB l = _)⟩
  rw [HM.out]
  cases hl : lightB l with
  | false =>
    have HMf : Hid (M = false) := HM.out.symm.trans (by unfold mayB; rw [hl]; rfl)
    rw [hl] at HL
    obtain ⟨fa, fk, rfl, hm1, hm2⟩ := h.form
    clear h hl HM
    go_enter Try.func13, Try.ntmps13
    go_wp2_with (go_at_call 9; refine HL.out.mono ?_; rintro e w' ⟨rfl, hw⟩; rw [hw]; clear hw w')
    go_ret
    exact ⟨by first | (rw [HMf.out]; done) | (rw [HMf.out]; rfl), Below.refl _ _⟩
  | true =>
    have h3 := ((light_iff l).1 hl).1
    have HMf : Hid (M = (checkE l == 0)) := HM.out.symm.trans (by unfold mayB; rw [hl]; rfl)
    have HC := Lib.hid (rcheck_any l v w h (by omega))
    rw [hl] at HL
    obtain ⟨fa, fk, rfl, hm1, hm2⟩ := h.form
    clear h hl HM
    generalize checkE l = C at *
    go_enter Try.func13, Try.ntmps13
    go_wp2_with (first | (go_at_call 9; refine HL.out.mono ?_; rintro e w' ⟨rfl, hw⟩; rw [hw]; clear hw w') | (go_at_call 12; refine HC.out.mono ?_; rintro e w' ⟨rfl, hb1⟩; have HB1 := Lib.hid hb1; clear hb1))
    go_ret
    exact ⟨by first | (rw [HMf.out]; done) | (rw [HMf.out]; rfl), HB1.out⟩
def bigB (n : Int) : Bool := decide (1152921504606846976 < n) || decide (n < -1152921504606846976)
theorem big_not {n : Int} (h : bigB n = false) : -1152921504606846976 ≤ n ∧ n ≤ 1152921504606846976 := by
  simp [bigB] at h; omega
theorem big_any (n : Int) (w : World) : Calls Try.prog 19 #[.int .i64 n] w fun e w' => e = .returned (.bool (bigB n)) ∧ w' = w := by
  by_cases h1 : 1152921504606846976 < n
  · have e : bigB n = true := by simp [bigB, h1]
    rw [e]
    clear e
    go_enter Try.func19, Try.ntmps19
    go_wp2
    go_ret
    exact ⟨rfl, rfl⟩
  · by_cases h2 : n < -1152921504606846976
    · have e : bigB n = true := by simp [bigB, h2]
      rw [e]
      clear e
      go_enter Try.func19, Try.ntmps19
      go_wp2
      go_ret
      exact ⟨rfl, rfl⟩
    · have e : bigB n = false := by simp [bigB, h1, h2]
      rw [e]
      clear e
      go_enter Try.func19, Try.ntmps19
      go_wp2
      go_ret
      exact ⟨rfl, rfl⟩
end Go.Proofs.Ytdppelkfcnbgbaa.Ac
