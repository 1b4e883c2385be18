/-
  Which bytes may be signs: seg.mayBeSign and its reference, as contracts.
-/
import Derived.Test.YtjidoificijcfaaDoorQLib
import Derived.WalkLawsBesides
set_option linter.unusedSimpArgs false
namespace Go.Proofs.YtjidoificijcfaaDoor
open Go.RowKit

abbrev dv (e p s : UInt8) : Value := .agg #[.int .u8 e.toNat, .int .u8 p.toNat, .int .u8 s.toNat]

theorem sign_of (n : Nat) : ∀ c : UInt8, c.toNat = n → (signB c = true ↔ (33 ≤ n ∧ n ≤ 126 ∧ n ≠ 45 ∧ n ≠ 46 ∧ ¬ (48 ≤ n ∧ n ≤ 57) ∧ ¬ (65 ≤ n ∧ n ≤ 90) ∧ ¬ (97 ≤ n ∧ n ≤ 122))) := by
  intro c h
  rw [signB, h]
  simp only [Bool.and_eq_true, decide_eq_true_eq, Bool.not_eq_true', decide_eq_false_iff_not, Bool.and_eq_false_iff]
  omega
set_option maxHeartbeats 2000000 in
theorem mayBe_any (c : UInt8) (w : World) :
    Calls Tryd.prog 38 #[.int .u8 c.toNat] w fun e w' => e = .returned (.bool (signB c)) ∧ w' = w := by
  have hc := c.toNat_lt
  have hs := sign_of c.toNat c rfl
  generalize c.toNat = n at hc hs
  generalize signB c = b at hs
  have HS := Lib.hid hs
  clear hs
  go_enter Tryd.func38, Tryd.ntmps38
  go_wp2
  all_goals (go_ret; refine ⟨congrArg (fun z => Ending.returned (Value.bool z)) ?_, rfl⟩; rw [Bool.eq_iff_iff, HS.out]; (try simp only [beq_iff_eq] at *); (try simp only [Bool.and_eq_true, Bool.or_eq_true, Bool.not_eq_true', decide_eq_true_eq, decide_eq_false_iff_not, Bool.and_eq_false_iff, beq_iff_eq, Bool.false_eq_true, true_iff, false_iff]); first | omega | (intro h; simp_all; done) | (simp_all; done) | (simp_all; omega) | trace_state)
set_option maxHeartbeats 2000000 in
theorem rsign_any (c : UInt8) (w : World) :
    Calls Tryd.prog 48 #[.int .u8 c.toNat] w fun e w' => e = .returned (.bool (signB c)) ∧ w' = w := by
  have hc := c.toNat_lt
  have hs := sign_of c.toNat c rfl
  generalize c.toNat = n at hc hs
  generalize signB c = b at hs
  have HS := Lib.hid hs
  clear hs
  go_enter Tryd.func48, Tryd.ntmps48
  go_wp2
  all_goals (go_ret; refine ⟨congrArg (fun z => Ending.returned (Value.bool z)) ?_, rfl⟩; rw [Bool.eq_iff_iff, HS.out]; (try simp only [beq_iff_eq] at *); (try simp only [Bool.and_eq_true, Bool.or_eq_true, Bool.not_eq_true', decide_eq_true_eq, decide_eq_false_iff_not, Bool.and_eq_false_iff, beq_iff_eq, Bool.false_eq_true, true_iff, false_iff]); first | omega | (intro h; simp_all; done) | (simp_all; done) | (simp_all; omega) | trace_state)
end Go.Proofs.YtjidoificijcfaaDoor
