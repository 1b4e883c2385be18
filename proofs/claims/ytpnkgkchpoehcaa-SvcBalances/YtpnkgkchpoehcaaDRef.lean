/-
  What the reference's leap, long and Good answer, as contracts. long lays a new table each time: the world grows.
-/
import Derived.Test.YtpnkgkchpoehcaaDDate
import Derived.RowKit3
namespace Go.Proofs.Ytpnkgkchpoehcaa.Da
open Go.RowKit

theorem grown_trans {a b c : World} (h : Grown a b) (k : Grown b c) : Grown a c :=
  ⟨World.keptBut_trans h.1 (World.keptBut_mono (fun _ f => f.elim) k.1), fun x => (k.2.1 x).trans (h.2.1 x), Nat.le_trans h.2.2 k.2.2⟩
theorem rleap_any (y : Int) (w : World) (h : 0 ≤ y) :
    Calls Try.prog 50 #[.int .i64 y] w fun e w' => e = .returned (.bool (leapB y)) ∧ w' = w := by
  cases h3 : (y % 400 == 0)
  · cases h2 : (y % 100 == 0)
    · have e : leapB y = (y % 4 == 0) := by simp [leapB, h3, bne, h2]
      go_enter Try.func50, Try.ntmps50
      go_wp2
      go_ret
      exact ⟨by rw [e]; rfl, rfl⟩
    · have e : leapB y = false := by simp [leapB, h3, bne, h2]
      go_enter Try.func50, Try.ntmps50
      go_wp2
      go_ret
      exact ⟨by rw [e]; rfl, rfl⟩
  · have e : leapB y = true := by simp [leapB, h3]
    go_enter Try.func50, Try.ntmps50
    go_wp2
    go_ret
    exact ⟨by rw [e]; rfl, rfl⟩

set_option maxHeartbeats 1000000 in
theorem long_any (y m : Int) (w : World) (h : 0 ≤ y) (h1 : 1 ≤ m) (h2 : m ≤ 12) :
    Calls Try.prog 49 #[.int .i64 y, .int .i64 m] w fun e w' => e = .returned (.int .i64 (lenM y m)) ∧ Grown w w' := by
  rcases month_cases m h1 h2 with rfl | rfl | rfl | rfl | rfl | rfl | rfl | rfl | rfl | rfl | rfl | rfl
  case inr.inl =>
    cases b : leapB y
    · go_enter Try.func49, Try.ntmps49
      go_wp2_with (go_at_call 50; refine (rleap_any _ _ h).mono ?_; rintro e w' ⟨rfl, rfl⟩)
      go_ret
      exact ⟨by simp [lenM, b, lenT, lens], (Grown.refl _).alloc _ _⟩
    · go_enter Try.func49, Try.ntmps49
      go_wp2_with (go_at_call 50; refine (rleap_any _ _ h).mono ?_; rintro e w' ⟨rfl, rfl⟩)
      go_ret
      exact ⟨by simp [lenM, b], (Grown.refl _).alloc _ _⟩
  all_goals
    go_enter Try.func49, Try.ntmps49
    go_wp2
    go_ret
    exact ⟨rfl, (Grown.refl _).alloc _ _⟩

theorem good_ref (n : Int) (h1 : 10101 ≤ n) (h2 : n ≤ 99991231) : good n = true ↔ (1 ≤ n / 100 % 100 ∧ n / 100 % 100 ≤ 12 ∧ 1 ≤ n % 100 ∧ n % 100 ≤ lenM (n / 10000) (n / 100 % 100)) := by
  rw [good_iff, yr_eq n (by omega), mo_eq n (by omega), da_eq n (by omega)]
  constructor
  · exact fun h => h.2.2
  · exact fun h => ⟨by omega, by omega, h⟩
theorem good_refn (n : Int) (h1 : 10101 ≤ n) (h2 : n ≤ 99991231) (h : ¬ (1 ≤ n / 100 % 100 ∧ n / 100 % 100 ≤ 12 ∧ 1 ≤ n % 100 ∧ n % 100 ≤ lenM (n / 10000) (n / 100 % 100))) : good n = false := by
  rw [← good_ref n h1 h2] at h
  simpa using h

set_option maxHeartbeats 400000 in
theorem rgood_any (n : Int) (w : World) :
    Calls Try.prog 47 #[.int .i64 n] w fun e w' => e = .returned (.bool (good n)) ∧ Grown w w' := by
  by_cases c1 : n < 10101
  · have g : good n = false := by
      cases g : good n
      · rfl
      · have := good_bd n g; omega
    rw [g]
    go_enter Try.func47, Try.ntmps47
    go_wp2
    go_ret
    exact ⟨rfl, Grown.refl _⟩
  by_cases c2 : n > 99991231
  · have g : good n = false := by
      cases g : good n
      · rfl
      · have := good_bd n g; omega
    rw [g]
    go_enter Try.func47, Try.ntmps47
    go_wp2
    go_ret
    exact ⟨rfl, Grown.refl _⟩
  have G := good_refn n (by omega) (by omega)
  by_cases c3 : n / 100 % 100 < 1
  · have g : good n = false := G (by omega)
    rw [g]
    clear G
    go_enter Try.func47, Try.ntmps47
    go_wp2
    go_ret
    exact ⟨rfl, Grown.refl _⟩
  by_cases c4 : n / 100 % 100 > 12
  · have g : good n = false := G (by omega)
    rw [g]
    clear G
    go_enter Try.func47, Try.ntmps47
    go_wp2
    go_ret
    exact ⟨rfl, Grown.refl _⟩
  by_cases c5 : n % 100 ≥ 1
  · by_cases c6 : n % 100 ≤ lenM (n / 10000) (n / 100 % 100)
    · have g : good n = true := (good_ref n (by omega) (by omega)).2 (by omega)
      have d6 : decide (n % 100 ≤ lenM (n / 10000) (n / 100 % 100)) = true := by simpa using c6
      rw [g]
      clear G
      go_enter Try.func47, Try.ntmps47
      go_wp2_with (go_at_call 49; refine (long_any _ _ _ (by omega) (by omega) (by omega)).mono ?_; rintro e w' ⟨rfl, hg⟩)
      go_ret
      exact ⟨rfl, hg⟩
    · have g : good n = false := G (by omega)
      have d6 : decide (n % 100 ≤ lenM (n / 10000) (n / 100 % 100)) = false := by simpa using c6
      rw [g]
      clear G
      go_enter Try.func47, Try.ntmps47
      go_wp2_with (go_at_call 49; refine (long_any _ _ _ (by omega) (by omega) (by omega)).mono ?_; rintro e w' ⟨rfl, hg⟩)
      go_ret
      exact ⟨rfl, hg⟩
  · have g : good n = false := G (by omega)
    rw [g]
    clear G
    go_enter Try.func47, Try.ntmps47
    go_wp2
    go_ret
    exact ⟨rfl, Grown.refl _⟩

end Go.Proofs.Ytpnkgkchpoehcaa.Da
