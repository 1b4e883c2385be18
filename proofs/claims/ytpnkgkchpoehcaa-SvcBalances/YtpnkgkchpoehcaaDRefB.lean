/-
  What the reference's long and Good answer, as contracts over 'Below' (DRef has them over 'Grown').
-/
import Derived.Test.YtpnkgkchpoehcaaDRef
import Derived.Below
namespace Go.Proofs.Ytpnkgkchpoehcaa.Da
open Go.RowKit

set_option maxHeartbeats 1000000 in
theorem long_b (y m : Int) (w : World) (h : 0 ≤ y) (h1 : 1 ≤ m) (h2 : m ≤ 12) :
    Calls Try.prog 49 #[.int .i64 y, .int .i64 m] w fun e w' => e = .returned (.int .i64 (lenM y m)) ∧ Below w.heap.size w w' := by
  rcases month_cases m h1 h2 with rfl | rfl | rfl | rfl | rfl | rfl | rfl | rfl | rfl | rfl | rfl | rfl
  case inr.inl =>
    cases b : leapB y
    · go_enter Try.func49, Try.ntmps49
      go_wp2_with (go_at_call 50; refine (rleap_any _ _ h).mono ?_; rintro e w' ⟨rfl, rfl⟩)
      go_ret
      exact ⟨by simp [lenM, b, lenT, lens], (Below.refl _ _).alloc (Nat.le_refl _) _⟩
    · go_enter Try.func49, Try.ntmps49
      go_wp2_with (go_at_call 50; refine (rleap_any _ _ h).mono ?_; rintro e w' ⟨rfl, rfl⟩)
      go_ret
      exact ⟨by simp [lenM, b], (Below.refl _ _).alloc (Nat.le_refl _) _⟩
  all_goals
    go_enter Try.func49, Try.ntmps49
    go_wp2
    go_ret
    exact ⟨rfl, (Below.refl _ _).alloc (Nat.le_refl _) _⟩

set_option maxHeartbeats 400000 in
theorem rgood_b (n : Int) (w : World) :
    Calls Try.prog 47 #[.int .i64 n] w fun e w' => e = .returned (.bool (good n)) ∧ Below w.heap.size w w' := by
  by_cases c1 : n < 10101
  · have g : good n = false := by
      cases g : good n
      · rfl
      · have := good_bd n g; omega
    rw [g]
    go_enter Try.func47, Try.ntmps47
    go_wp2
    go_ret
    exact ⟨rfl, Below.refl _ _⟩
  by_cases c2 : n > 99991231
  · have g : good n = false := by
      cases g : good n
      · rfl
      · have := good_bd n g; omega
    rw [g]
    go_enter Try.func47, Try.ntmps47
    go_wp2
    go_ret
    exact ⟨rfl, Below.refl _ _⟩
  have G := good_refn n (by omega) (by omega)
  by_cases c3 : n / 100 % 100 < 1
  · have g : good n = false := G (by omega)
    rw [g]
    clear G
    go_enter Try.func47, Try.ntmps47
    go_wp2
    go_ret
    exact ⟨rfl, Below.refl _ _⟩
  by_cases c4 : n / 100 % 100 > 12
  · have g : good n = false := G (by omega)
    rw [g]
    clear G
    go_enter Try.func47, Try.ntmps47
    go_wp2
    go_ret
    exact ⟨rfl, Below.refl _ _⟩
  by_cases c5 : n % 100 ≥ 1
  · by_cases c6 : n % 100 ≤ lenM (n / 10000) (n / 100 % 100)
    · have g : good n = true := (good_ref n (by omega) (by omega)).2 (by omega)
      have d6 : decide (n % 100 ≤ lenM (n / 10000) (n / 100 % 100)) = true := by simpa using c6
      rw [g]
      clear G
      go_enter Try.func47, Try.ntmps47
      go_wp2_with (go_at_call 49; refine (long_b _ _ _ (by omega) (by omega) (by omega)).mono ?_; rintro e w' ⟨rfl, hg⟩)
      go_ret
      exact ⟨rfl, hg⟩
    · have g : good n = false := G (by omega)
      have d6 : decide (n % 100 ≤ lenM (n / 10000) (n / 100 % 100)) = false := by simpa using c6
      rw [g]
      clear G
      go_enter Try.func47, Try.ntmps47
      go_wp2_with (go_at_call 49; refine (long_b _ _ _ (by omega) (by omega) (by omega)).mono ?_; rintro e w' ⟨rfl, hg⟩)
      go_ret
      exact ⟨rfl, hg⟩
  · have g : good n = false := G (by omega)
    rw [g]
    clear G
    go_enter Try.func47, Try.ntmps47
    go_wp2
    go_ret
    exact ⟨rfl, Below.refl _ _⟩

end Go.Proofs.Ytpnkgkchpoehcaa.Da
