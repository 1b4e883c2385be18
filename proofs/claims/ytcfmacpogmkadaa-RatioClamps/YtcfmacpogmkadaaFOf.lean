/-
  What ratio.Of and the reference's Of answer, as contracts: for every two int64.
-/
import Derived.Test.YtcfmacpogmkadaaFCmp
namespace Go.Proofs.Ytcfmacpogmkadaa
open Go.RowKit

theorem nan_any (w : World) : Calls Try.prog 26 #[] w fun e w' => e = .returned (.float .f64 9221120237041090561) ∧ w' = w := by
  have hr := frombits_run 9221120237041090561
  go_enter Try.func26, Try.ntmps26
  go_wp2
  go_ret
  exact ⟨rfl, rfl⟩
theorem infP_call (w : World) : Calls Try.prog 27 #[.int .i64 1] w fun e w' => e = .returned (.float .f64 9218868437227405312) ∧ w' = w := by
  have hr := frombits_run 9218868437227405312
  go_enter Try.func27, Try.ntmps27
  go_wp2
  go_ret
  exact ⟨rfl, rfl⟩
theorem infM_call (w : World) : Calls Try.prog 27 #[.int .i64 (-1)] w fun e w' => e = .returned (.float .f64 18442240474082181120) ∧ w' = w := by
  have hr := frombits_run 18442240474082181120
  go_enter Try.func27, Try.ntmps27
  go_wp2
  go_ret
  exact ⟨rfl, rfl⟩
theorem copysign_call (w : World) : Calls Try.prog 28 #[.float .f64 0, .float .f64 13830554455654793216] w fun e w' => e = .returned (.float .f64 9223372036854775808) ∧ w' = w := by
  have hr := frombits_run 9223372036854775808
  have h0 := bits_run 0
  have h1 := bits_run 13830554455654793216
  have b1 : bits .andNot .u64 0 9223372036854775808 = 0 := by kernel_rfl
  have b2 : bits .and .u64 13830554455654793216 9223372036854775808 = 9223372036854775808 := by kernel_rfl
  have b3 : bits .or .u64 0 9223372036854775808 = 9223372036854775808 := by kernel_rfl
  go_enter Try.func28, Try.ntmps28
  go_wp2
  go_ret
  exact ⟨rfl, rfl⟩

def divW (x y : Nat) : Nat := (Ieee.double.div x y).getD 0

/-- A quotient, as the machine does it. -/
theorem run_quo (x y r : Nat) (h : Ieee.double.div x y = some r) (w : World) : (binOp .quo 23 (.float .f64 x) (.float .f64 y)).run Try.prog w = .ok (.float .f64 r) w :=
  run_float_arith w .quo 23 .f64 x y r h
theorem nan_cut (t : Nat) (q : Question) (x y : Nat) (hq : q = .nanBits .f64 x y) : q.cut t < 18446744073709551616 ∧ INF < rung (q.cut t) := by
  subst hq
  show (t % 2) * 2 ^ 63 + 0x7ff0000000000000 + 1 + (t / 2) % (2 ^ 52 - 1) < 18446744073709551616 ∧ INF < rung ((t % 2) * 2 ^ 63 + 0x7ff0000000000000 + 1 + (t / 2) % (2 ^ 52 - 1))
  have h1 : t / 2 % (2 ^ 52 - 1) < 2 ^ 52 - 1 := Nat.mod_lt _ (by decide)
  unfold rung INF W63
  generalize t / 2 % (2 ^ 52 - 1) = u at *
  have h2 : (2 : Nat) ^ 52 - 1 = 4503599627370495 := by decide
  have h3 : (2 : Nat) ^ 63 = 9223372036854775808 := by decide
  rw [h2] at h1
  rw [h3]
  omega
theorem run_quo_none (x y : Nat) (h : Ieee.double.div x y = none) (w : World) : ∃ r, r < 18446744073709551616 ∧ INF < rung r ∧ (binOp .quo 23 (.float .f64 x) (.float .f64 y)).run Try.prog w = .ok (.float .f64 r) w.drew := by
  obtain ⟨h1, h2⟩ := nan_cut (w.tape w.drawn (.nanBits .f64 x y)) (.nanBits .f64 x y) x y rfl
  refine ⟨_, h1, h2, ?_⟩
  have e : FloatKind.f64.format.div x y = none := h
  simp [binOp, Op.floatArith, e, Question.forced]

theorem ofI_lt (n : Int) : ofI n < 18446744073709551616 := wd_lt _ _ (Nat.lt_of_le_of_lt (nr_le _ _) INF_lt)
theorem rung_ofI (n : Int) : rung (ofI n) = nr n.natAbs 0 := rung_wd _ _ (Nat.lt_of_le_of_lt (nr_le _ _) INF_lt)
theorem sgn_ofI (n : Int) : sgn (ofI n) = decide (n < 0) := sgn_wd _ _ (Nat.lt_of_le_of_lt (nr_le _ _) INF_lt)
theorem fin_ofI (n : Int) (h : -9223372036854775808 ≤ n) (h' : n ≤ 9223372036854775807) : rung (ofI n) < INF := by rw [rung_ofI]; exact nr_int_lt _ (by omega)
theorem rung_ofI_zero : rung (ofI 0) = 0 := by rw [rung_ofI]; exact nr_zero 0
theorem rung_ofI_ne (n : Int) (hn : n ≠ 0) (h : -9223372036854775808 ≤ n) (h' : n ≤ 9223372036854775807) : rung (ofI n) ≠ 0 := by
  rw [rung_ofI]
  have := nr_int_pos n.natAbs (by omega) (by omega)
  omega

/-- What a by b is, where b is not 0. -/
theorem div_of (a b : Int) (ha : -9223372036854775808 ≤ a) (ha' : a ≤ 9223372036854775807) (hb : -9223372036854775808 ≤ b) (hb' : b ≤ 9223372036854775807) (h : b ≠ 0) :
    Ieee.double.div (ofI a) (ofI b) = some (divW (ofI a) (ofI b)) ∧ divW (ofI a) (ofI b) < 18446744073709551616 := by
  have e := div_fin (ofI a) (ofI b) (ofI_lt a) (ofI_lt b) (fin_ofI a ha ha') (fin_ofI b hb hb') (rung_ofI_ne b h hb hb')
  unfold divW
  rw [e]
  exact ⟨rfl, wd_lt _ _ (Nat.lt_of_le_of_lt (nr_le _ _) INF_lt)⟩

/-- What ratio.Of answers. -/
def ofP (a b : Int) (r : Nat) : Prop :=
  r < 18446744073709551616 ∧ (b = 0 → a = 0 → INF < rung r) ∧ (b = 0 → a ≠ 0 → r = wd (decide (a < 0)) INF) ∧ (b ≠ 0 → r = divW (ofI a) (ofI b))
theorem of_any (a b : Int) (ha : -9223372036854775808 ≤ a) (ha' : a ≤ 9223372036854775807) (hb : -9223372036854775808 ≤ b) (hb' : b ≤ 9223372036854775807) (w : World) :
    Calls Try.prog 10 #[.int .i64 a, .int .i64 b] w fun e w' => (∃ r, e = .returned (.float .f64 r) ∧ ofP a b r) ∧ ∃ q, w' = w.drewN q := by
  have ea := floatOfInt_d a
  have eb := floatOfInt_d b
  by_cases h : b = 0
  · by_cases h2 : a = 0
    · obtain ⟨r, r1, r2, hq⟩ := run_quo_none (ofI a) (ofI b) (div_none _ _ (ofI_lt a) (ofI_lt b) (by rw [h2]; exact rung_ofI_zero) (by rw [h]; exact rung_ofI_zero)) w
      have hp : ofP a b r := ⟨r1, fun _ _ => r2, fun _ c => absurd h2 c, fun c => absurd h c⟩
      have HP : Hid (ofP a b r) := hp
      clear hp r1 r2 ha ha' hb hb' h h2
      go_enter Try.func10, Try.ntmps10
      go_wp2
      go_ret
      exact ⟨⟨r, rfl, HP.out⟩, 1, rfl⟩
    · have e := div_zero (ofI a) (ofI b) (ofI_lt a) (ofI_lt b) (fin_ofI a ha ha') (rung_ofI_ne a h2 ha ha') (by rw [h]; exact rung_ofI_zero)
      have hb0 : decide (b < 0) = false := by rw [h]; decide
      rw [sgn_ofI, sgn_ofI, hb0, Bool.xor_false] at e
      clear hb0
      have hp : ofP a b (wd (decide (a < 0)) INF) := ⟨wd_lt _ _ INF_lt, fun _ c => absurd c h2, fun _ _ => rfl, fun c => absurd h c⟩
      have hq := run_quo _ _ _ e
      generalize wd (decide (a < 0)) INF = r at *
      have HP : Hid (ofP a b r) := hp
      clear hp e ha ha' hb hb' h h2
      go_enter Try.func10, Try.ntmps10
      go_wp2
      go_ret
      exact ⟨⟨r, rfl, HP.out⟩, 0, rfl⟩
  · obtain ⟨e, r1⟩ := div_of a b ha ha' hb hb' h
    have hp : ofP a b (divW (ofI a) (ofI b)) := ⟨r1, fun c => absurd c h, fun c => absurd c h, fun _ => rfl⟩
    have hq := run_quo _ _ _ e
    generalize divW (ofI a) (ofI b) = r at *
    have HP : Hid (ofP a b r) := hp
    clear hp e ha ha' hb hb' h r1
    go_enter Try.func10, Try.ntmps10
    go_wp2
    go_ret
    exact ⟨⟨r, rfl, HP.out⟩, 0, rfl⟩

def rOf (a b : Int) : Nat :=
  if b = 0 then (if a = 0 then 9221120237041090561 else if a < 0 then 18442240474082181120 else 9218868437227405312)
  else if a = 0 then (if b < 0 then 9223372036854775808 else 0) else divW (ofI a) (ofI b)
theorem refOf_any (a b : Int) (ha : -9223372036854775808 ≤ a) (ha' : a ≤ 9223372036854775807) (hb : -9223372036854775808 ≤ b) (hb' : b ≤ 9223372036854775807) (w : World) :
    Calls Try.prog 11 #[.int .i64 a, .int .i64 b] w fun e w' => e = .returned (.float .f64 (rOf a b)) ∧ w' = w := by
  have h1 := nan_any
  have h2 := infP_call
  have h3 := infM_call
  have h4 := copysign_call
  unfold rOf
  by_cases c : b = 0
  · subst c
    by_cases d : a = 0
    · subst d
      rw [if_pos rfl, if_pos rfl]
      go_enter Try.func11, Try.ntmps11
      go_wp2_with fail
      refine (h1 _).mono ?_
      rintro e w' ⟨rfl, rfl⟩
      go_wp2
      go_ret
      exact ⟨rfl, rfl⟩
    · have g : (a == 0) = false := by rw [beq_eq_false_iff_ne]; exact d
      by_cases l : a < 0
      · rw [if_pos rfl, if_neg d, if_pos l]
        clear ha ha' hb hb' d
        go_enter Try.func11, Try.ntmps11
        go_wp2_with fail
        refine (h3 _).mono ?_
        rintro e w' ⟨rfl, rfl⟩
        go_wp2
        go_ret
        exact ⟨rfl, rfl⟩
      · rw [if_pos rfl, if_neg d, if_neg l]
        clear ha ha' hb hb' d
        go_enter Try.func11, Try.ntmps11
        go_wp2_with fail
        refine (h2 _).mono ?_
        rintro e w' ⟨rfl, rfl⟩
        go_wp2
        go_ret
        exact ⟨rfl, rfl⟩
  · have g : (b == 0) = false := by rw [beq_eq_false_iff_ne]; exact c
    by_cases d : a = 0
    · subst d
      by_cases l : b < 0
      · rw [if_neg c, if_pos rfl, if_pos l]
        clear ha ha' hb hb' c
        go_enter Try.func11, Try.ntmps11
        go_wp2_with fail
        refine (h4 _).mono ?_
        rintro e w' ⟨rfl, rfl⟩
        go_wp2
        go_ret
        exact ⟨rfl, rfl⟩
      · rw [if_neg c, if_pos rfl, if_neg l]
        clear ha ha' hb hb' c
        go_enter Try.func11, Try.ntmps11
        go_wp2
        go_ret
        exact ⟨rfl, rfl⟩
    · have g2 : (a == 0) = false := by rw [beq_eq_false_iff_ne]; exact d
      rw [if_neg c, if_neg d]
      have ea := floatOfInt_d a
      have eb := floatOfInt_d b
      have hq := run_quo _ _ _ (div_of a b ha ha' hb hb' c).1
      generalize divW (ofI a) (ofI b) = r at *
      clear ha ha' hb hb' c d
      go_enter Try.func11, Try.ntmps11
      go_wp2
      go_ret
      exact ⟨rfl, rfl⟩

theorem cmpV_self (x : Nat) : cmpV x x = 0 := by
  by_cases h : kindV x = 6
  · exact cmp_nn h h
  · rw [cmp_11 h h, if_neg (by omega), if_neg (by omega)]
theorem same_nan (x y : Nat) (hx : INF < rung x) (hy : INF < rung y) : sameV x y = true := by simp [sameV, cmp_nn (kind_nan hx) (kind_nan hy)]
theorem same_self (x : Nat) : sameV x x = true := by simp [sameV, cmpV_self]
theorem rOf_lt (a b : Int) (ha : -9223372036854775808 ≤ a) (ha' : a ≤ 9223372036854775807) (hb : -9223372036854775808 ≤ b) (hb' : b ≤ 9223372036854775807) : rOf a b < 18446744073709551616 := by
  unfold rOf
  split
  · split; omega; split <;> omega
  · split; split <;> omega; exact (div_of a b ha ha' hb hb' (by assumption)).2
theorem same_of (a b : Int) (ha : -9223372036854775808 ≤ a) (ha' : a ≤ 9223372036854775807) (hb : -9223372036854775808 ≤ b) (hb' : b ≤ 9223372036854775807) (r : Nat) (h : ofP a b r) : sameV r (rOf a b) = true := by
  obtain ⟨h0, h1, h2, h3⟩ := h
  unfold rOf
  by_cases c : b = 0
  · rw [if_pos c]
    by_cases d : a = 0
    · rw [if_pos d]
      exact same_nan _ _ (h1 c d) (by decide)
    · rw [if_neg d, h2 c d]
      have e1 : wd true INF = 18442240474082181120 := by decide
      have e2 : wd false INF = 9218868437227405312 := by decide
      by_cases l : a < 0
      · rw [if_pos l, decide_eq_true l, e1]; exact same_self _
      · rw [if_neg l, decide_eq_false l, e2]; exact same_self _
  · rw [if_neg c, h3 c]
    by_cases d : a = 0
    · rw [if_pos d]
      have e := div_fin (ofI a) (ofI b) (ofI_lt a) (ofI_lt b) (fin_ofI a ha ha') (fin_ofI b hb hb') (rung_ofI_ne b c hb hb')
      rw [show rung (ofI a) = 0 by rw [d]; exact rung_ofI_zero, mg_zero, qm_zero, nr_zero, sgn_ofI, sgn_ofI, d, show (decide ((0 : Int) < 0)) = false by decide, Bool.false_xor] at e
      have ev : divW (ofI 0) (ofI b) = wd (decide (b < 0)) 0 := by unfold divW; rw [e]; rfl
      rw [d, ev]
      have e1 : wd true 0 = 9223372036854775808 := by decide
      have e2 : wd false 0 = 0 := by decide
      by_cases l : b < 0
      · rw [if_pos l, decide_eq_true l, e1]; exact same_self _
      · rw [if_neg l, decide_eq_false l, e2]; exact same_self _
    · rw [if_neg d]; exact same_self _
end Go.Proofs.Ytcfmacpogmkadaa
