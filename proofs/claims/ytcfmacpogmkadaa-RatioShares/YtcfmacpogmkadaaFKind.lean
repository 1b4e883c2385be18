/-
  What ratio.Kind and the reference's Kind answer, as contracts: for every float.
-/
import Derived.Test.YtcfmacpogmkadaaFNear
import Derived.Test.YtcfmacpogmkadaaChecked
import Derived.WalkKit
import Derived.WalkLawsBesides
namespace Go.Proofs.Ytcfmacpogmkadaa
open Go.RowKit

theorem bits_run (b : Nat) (w : World) : (callFunc 32 #[.float .f64 b]).run Try.prog w = .ok (.value (.int .u64 b)) w := by
  rw [run_callFunc_extern Try.func32 (by kernel_rfl) (by kernel_rfl) (by kernel_rfl) (e := Extern.MathFloatBits.float64bits) (by kernel_rfl)]
  rfl
theorem frombits_run (n : Int) (w : World) : (callFunc 38 #[.int .u64 n]).run Try.prog w = .ok (.value (.float .f64 n.toNat)) w := by
  rw [run_callFunc_extern Try.func38 (by kernel_rfl) (by kernel_rfl) (by kernel_rfl) (e := Extern.MathFloatBits.float64frombits) (by kernel_rfl)]
  rfl

theorem isNaN_any (b : Nat) (hb : b < 18446744073709551616) (w : World) :
    Calls Try.prog 29 #[.float .f64 b] w fun e w' => e = .returned (.bool (isN b)) ∧ w' = w := by
  have h : (FloatKind.f64.format.order b b != some .eq) = isN b := ne_d b hb
  clear hb
  go_enter Try.func29, Try.ntmps29
  go_wp2
  go_ret
  exact ⟨rfl, rfl⟩

theorem wrap_bits (b : Nat) (hb : b < 18446744073709551616) : decide (wrap64 (b : Int) < 0) = sgn b := by
  unfold sgn wrap64 W63
  rw [decide_eq_decide]; omega
theorem signbit_any (b : Nat) (hb : b < 18446744073709551616) (w : World) :
    Calls Try.prog 31 #[.float .f64 b] w fun e w' => e = .returned (.bool (sgn b)) ∧ w' = w := by
  have hr := bits_run b
  have h := wrap_bits b hb
  clear hb
  generalize sgn b = s at *
  go_enter Try.func31, Try.ntmps31
  go_wp2
  go_ret
  exact ⟨rfl, rfl⟩

/-- The words that the reference's Kind asks of the bits. -/
theorem bits_sgn (b : Nat) (hb : b < 18446744073709551616) : ((b : Int) / 9223372036854775808 == 1) = sgn b := by
  unfold sgn W63
  rw [Bool.eq_iff_iff, beq_iff_eq, decide_eq_true_eq]; omega
theorem bits_exp (b : Nat) : IntKind.u64.wrap ((b : Int) * 2) / 9007199254740992 = ((rung b / 4503599627370496 : Nat) : Int) := by
  rw [IntKind.wrap_u64]; unfold rung W63; omega
theorem bits_rest (b : Nat) : IntKind.u64.wrap ((b : Int) * 4096) = ((4096 * (rung b % 4503599627370496) : Nat) : Int) := by
  rw [IntKind.wrap_u64]; unfold rung W63; omega
theorem bits_place (b : Nat) : IntKind.u64.wrap ((b : Int) * 2) / 2 = (rung b : Int) := by
  rw [IntKind.wrap_u64]; unfold rung W63; omega

theorem kind_nan {b : Nat} (h : INF < rung b) : kindV b = 6 := by simp [kindV, h]
theorem kind_inf {b : Nat} (h : rung b = INF) : kindV b = if sgn b = true then 0 else 5 := by simp [kindV, h]
theorem kind_zero {b : Nat} (h : rung b = 0) : kindV b = if sgn b = true then 2 else 3 := by
  have : 0 < INF := by decide
  have h1 : ¬ INF < rung b := by omega
  have h2 : ¬ rung b = INF := by omega
  unfold kindV
  rw [if_neg h1, if_neg h2, if_pos h]
theorem kind_fin {b : Nat} (h0 : 0 < rung b) (h : rung b < INF) : kindV b = if sgn b = true then 1 else 4 := by
  have h1 : ¬ INF < rung b := by omega
  have h2 : ¬ rung b = INF := by omega
  have h3 : ¬ rung b = 0 := by omega
  simp only [kindV, h1, h2, h3, if_false]

theorem refKind_any (b : Nat) (hb : b < 18446744073709551616) (w : World) :
    Calls Try.prog 14 #[.float .f64 b] w fun e w' => e = .returned (.int .i64 (kindV b)) ∧ w' = w := by
  have hr := bits_run b
  have h1 := bits_sgn b hb
  have e2 := bits_exp b
  have e3 := bits_rest b
  have hw := rung_lt b
  have n1 : INF = 9218868437227405312 := rfl
  have n2 : W63 = 9223372036854775808 := rfl
  rcases Nat.lt_or_ge INF (rung b) with c | c
  · have h2 : (IntKind.u64.wrap ((b : Int) * 2) / 9007199254740992 == 2047) = true := by rw [e2, beq_iff_eq]; omega
    have h3 : (IntKind.u64.wrap ((b : Int) * 4096) != 0) = true := by rw [e3, bne_iff_ne]; omega
    rw [kind_nan c]
    clear e2 e3 hb c hw n1 n2
    go_enter Try.func14, Try.ntmps14
    go_wp2
    go_ret
    exact ⟨rfl, rfl⟩
  rcases Nat.lt_or_ge (rung b) INF with d | d
  · have h2 : (IntKind.u64.wrap ((b : Int) * 2) / 9007199254740992 == 2047) = false := by rw [e2, beq_eq_false_iff_ne]; omega
    rcases Nat.eq_zero_or_pos (rung b) with z | z
    · have h3 : (IntKind.u64.wrap ((b : Int) * 2) / 9007199254740992 == 0) = true := by rw [e2, beq_iff_eq]; omega
      have h4 : (IntKind.u64.wrap ((b : Int) * 4096) == 0) = true := by rw [e3, beq_iff_eq]; omega
      rw [kind_zero z]
      clear e2 e3 hb c hw n1 n2 d z
      cases hs : sgn b
      · rw [hs] at h1
        go_enter Try.func14, Try.ntmps14
        go_wp2
        go_ret
        exact ⟨rfl, rfl⟩
      · rw [hs] at h1
        go_enter Try.func14, Try.ntmps14
        go_wp2
        go_ret
        exact ⟨rfl, rfl⟩
    · rw [kind_fin z d]
      by_cases z1 : rung b / 4503599627370496 = 0
      · have h3 : (IntKind.u64.wrap ((b : Int) * 2) / 9007199254740992 == 0) = true := by rw [e2, beq_iff_eq]; omega
        have h4 : (IntKind.u64.wrap ((b : Int) * 4096) == 0) = false := by rw [e3, beq_eq_false_iff_ne]; omega
        clear e2 e3 hb c hw n1 n2 d z z1
        cases hs : sgn b
        · rw [hs] at h1
          go_enter Try.func14, Try.ntmps14
          go_wp2
          go_ret
          exact ⟨rfl, rfl⟩
        · rw [hs] at h1
          go_enter Try.func14, Try.ntmps14
          go_wp2
          go_ret
          exact ⟨rfl, rfl⟩
      · have h3 : (IntKind.u64.wrap ((b : Int) * 2) / 9007199254740992 == 0) = false := by rw [e2, beq_eq_false_iff_ne]; omega
        clear e2 e3 hb c hw n1 n2 d z z1
        cases hs : sgn b
        · rw [hs] at h1
          go_enter Try.func14, Try.ntmps14
          go_wp2
          go_ret
          exact ⟨rfl, rfl⟩
        · rw [hs] at h1
          go_enter Try.func14, Try.ntmps14
          go_wp2
          go_ret
          exact ⟨rfl, rfl⟩
  · have h2 : (IntKind.u64.wrap ((b : Int) * 2) / 9007199254740992 == 2047) = true := by rw [e2, beq_iff_eq]; omega
    have h3 : (IntKind.u64.wrap ((b : Int) * 4096) != 0) = false := by rw [e3, bne_eq_false_iff_eq]; omega
    rw [kind_inf (by omega)]
    clear e2 e3 hb c hw n1 n2 d
    cases hs : sgn b
    · rw [hs] at h1
      go_enter Try.func14, Try.ntmps14
      go_wp2
      go_ret
      exact ⟨rfl, rfl⟩
    · rw [hs] at h1
      go_enter Try.func14, Try.ntmps14
      go_wp2
      go_ret
      exact ⟨rfl, rfl⟩

theorem refPlace_any (b : Nat) (hb : b < 18446744073709551616) (w : World) :
    Calls Try.prog 35 #[.float .f64 b] w fun e w' => e = .returned (.int .i64 (placeV b)) ∧ w' = w := by
  have hr := bits_run b
  have h1 := bits_sgn b hb
  have e2 := bits_place b
  have hw : rung b < 9223372036854775808 := rung_lt b
  have hb2 := sgn_rung b hb
  cases hs : sgn b
  · rw [hs] at h1 hb2
    have hp : placeV b = (rung b : Int) := by simp [placeV, hs]
    have e3 : wrap64 (b : Int) = (rung b : Int) := by
      have hb3 : b = rung b := by simpa using hb2
      unfold wrap64; omega
    rw [hp]
    generalize rung b = r at *
    clear hb hs hp hb2
    go_enter Try.func35, Try.ntmps35
    go_wp2
    go_ret
    exact ⟨by show Ending.returned (Value.int .i64 (wrap64 (b : Int))) = _; rw [e3], rfl⟩
  · rw [hs] at h1
    have hp : placeV b = -(rung b : Int) - 1 := by simp [placeV, hs]
    rw [hp]
    generalize rung b = r at *
    clear hb hs hp hb2
    go_enter Try.func35, Try.ntmps35
    go_wp2
    go_ret
    exact ⟨rfl, rfl⟩
end Go.Proofs.Ytcfmacpogmkadaa
