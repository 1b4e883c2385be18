/-
  What date.leap, length, split, Good and Year answer, as contracts.
-/
import Derived.Test.YtpmlmoclocccoaaDoorProg
import Derived.Test.YtpmlmoclocccoaaDoorDMath
import Derived.WalkKit
namespace Go.Proofs.YtpmlmoclocccoaaDoor.Da
open Go.RowKit

/-- The table of the months' lengths lies in the program's first variable. -/
def Tab (w : World) : Prop := ∀ i : Nat, i < 12 → w.cell? ⟨0, i, none⟩ = some (.int .i64 (lens.getD i 0))

theorem leap_any (y : Int) (w : World) (h : 0 ≤ y) :
    Calls Tryd.prog 51 #[.int .i64 y] w fun e w' => e = .returned (.bool (leapB y)) ∧ w' = w := by
  unfold leapB
  cases h1 : (y % 4 == 0) <;> cases h2 : (y % 100 != 0) <;> cases h3 : (y % 400 == 0) <;>
  · go_enter Tryd.func51, Tryd.ntmps51
    go_wp2
    go_ret
    exact ⟨by first | rfl | simp [h1, h2, h3], rfl⟩

theorem tab_cells {w : World} (hT : Tab w) : w.cell? ⟨0, 0, none⟩ = some (.int .i64 31) ∧ w.cell? ⟨0, 1, none⟩ = some (.int .i64 28) ∧ w.cell? ⟨0, 2, none⟩ = some (.int .i64 31) ∧ w.cell? ⟨0, 3, none⟩ = some (.int .i64 30) ∧ w.cell? ⟨0, 4, none⟩ = some (.int .i64 31) ∧ w.cell? ⟨0, 5, none⟩ = some (.int .i64 30) ∧
    w.cell? ⟨0, 6, none⟩ = some (.int .i64 31) ∧ w.cell? ⟨0, 7, none⟩ = some (.int .i64 31) ∧ w.cell? ⟨0, 8, none⟩ = some (.int .i64 30) ∧ w.cell? ⟨0, 9, none⟩ = some (.int .i64 31) ∧ w.cell? ⟨0, 10, none⟩ = some (.int .i64 30) ∧ w.cell? ⟨0, 11, none⟩ = some (.int .i64 31) :=
  ⟨hT 0 (by decide), hT 1 (by decide), hT 2 (by decide), hT 3 (by decide), hT 4 (by decide), hT 5 (by decide), hT 6 (by decide), hT 7 (by decide), hT 8 (by decide), hT 9 (by decide), hT 10 (by decide), hT 11 (by decide)⟩

set_option maxHeartbeats 1000000 in
theorem length_any (y m : Int) (w : World) (hT : Tab w) (h : 0 ≤ y) (h1 : 1 ≤ m) (h2 : m ≤ 12) :
    Calls Tryd.prog 46 #[.int .i64 y, .int .i64 m] w fun e w' => e = .returned (.int .i64 (lenM y m)) ∧ w' = w := by
  obtain ⟨c0, c1, c2, c3, c4, c5, c6, c7, c8, c9, c10, c11⟩ := tab_cells hT
  clear hT
  rcases month_cases m h1 h2 with rfl | rfl | rfl | rfl | rfl | rfl | rfl | rfl | rfl | rfl | rfl | rfl
  case inr.inl =>
    cases b : leapB y
    · go_enter Tryd.func46, Tryd.ntmps46
      go_wp2_with (go_at_call 51; refine (leap_any _ _ h).mono ?_; rintro e w' ⟨rfl, rfl⟩)
      go_ret
      exact ⟨by simp [lenM, b, lenT, lens], rfl⟩
    · go_enter Tryd.func46, Tryd.ntmps46
      go_wp2_with (go_at_call 51; refine (leap_any _ _ h).mono ?_; rintro e w' ⟨rfl, rfl⟩)
      go_ret
      exact ⟨by simp [lenM, b], rfl⟩
  all_goals
    go_enter Tryd.func46, Tryd.ntmps46
    go_wp2
    go_ret
    exact ⟨rfl, rfl⟩

theorem quo_bd (n k : Int) (h : -9223372036854775808 ≤ n) (h' : n ≤ 9223372036854775807) (hk : 1 ≤ k) : -9223372036854775808 ≤ n.tdiv k ∧ n.tdiv k ≤ 9223372036854775807 := by
  have l : ∀ a : Int, 0 ≤ a → 0 ≤ a.tdiv k ∧ a.tdiv k ≤ a := fun a ha => by
    rw [Int.tdiv_eq_ediv_of_nonneg ha]
    exact ⟨Int.ediv_nonneg ha (by omega), Int.ediv_le_self _ ha⟩
  rcases Int.lt_or_le n 0 with c | c
  · have := l (-n) (by omega)
    rw [Int.neg_tdiv] at this
    omega
  · have := l n c
    omega

theorem split_any (n : Int) (w : World) (h : -9223372036854775808 ≤ n) (h' : n ≤ 9223372036854775807) :
    Calls Tryd.prog 45 #[.int .i64 n] w fun e w' => e = .returned (.tuple #[.int .i64 (yr n), .int .i64 (mo n), .int .i64 (da n)]) ∧ w' = w := by
  unfold yr mo da
  obtain ⟨b1, b2⟩ := quo_bd n 10000 h h' (by omega)
  obtain ⟨b3, b4⟩ := quo_bd n 100 h h' (by omega)
  go_enter Tryd.func45, Tryd.ntmps45
  go_wp2
  exact bodyPost_ret (v := .tuple #[.int .i64 (n.tdiv 10000), .int .i64 ((n.tdiv 100).tmod 100), .int .i64 (n.tmod 100)]) (by simp [results, Tryd.results45, go_sem]) rfl ⟨rfl, rfl⟩

theorem good_any (n : Int) (w : World) (hT : Tab w) (h : -9223372036854775808 ≤ n) (h' : n ≤ 9223372036854775807) :
    Calls Tryd.prog 31 #[.int .i64 n] w fun e w' => e = .returned (.bool (good n)) ∧ w' = w := by
  by_cases c1 : yr n < 1
  · have g : good n = false := by simp [good]; omega
    rw [g]
    go_enter Tryd.func31, Tryd.ntmps31
    go_wp2_with (go_at_call 45; refine (split_any _ _ h h').mono ?_; rintro e w' ⟨rfl, rfl⟩)
    go_ret
    exact ⟨rfl, rfl⟩
  by_cases c2 : yr n > 9999
  · have g : good n = false := by simp [good]; omega
    rw [g]
    go_enter Tryd.func31, Tryd.ntmps31
    go_wp2_with (go_at_call 45; refine (split_any _ _ h h').mono ?_; rintro e w' ⟨rfl, rfl⟩)
    go_ret
    exact ⟨rfl, rfl⟩
  by_cases c3 : mo n < 1
  · have g : good n = false := by simp [good]; omega
    rw [g]
    go_enter Tryd.func31, Tryd.ntmps31
    go_wp2_with (go_at_call 45; refine (split_any _ _ h h').mono ?_; rintro e w' ⟨rfl, rfl⟩)
    go_ret
    exact ⟨rfl, rfl⟩
  by_cases c4 : mo n > 12
  · have g : good n = false := by simp [good]; omega
    rw [g]
    go_enter Tryd.func31, Tryd.ntmps31
    go_wp2_with (go_at_call 45; refine (split_any _ _ h h').mono ?_; rintro e w' ⟨rfl, rfl⟩)
    go_ret
    exact ⟨rfl, rfl⟩
  by_cases c5 : 1 ≤ da n
  · by_cases c6 : da n ≤ lenM (yr n) (mo n)
    · have g : good n = true := by simp [good]; omega
      rw [g]
      go_enter Tryd.func31, Tryd.ntmps31
      go_wp2_with (first | (go_at_call 45; refine (split_any _ _ h h').mono ?_; rintro e w' ⟨rfl, rfl⟩) | (go_at_call 46; refine (length_any _ _ _ hT (by omega) (by omega) (by omega)).mono ?_; rintro e w' ⟨rfl, rfl⟩))
      go_ret
      exact ⟨rfl, rfl⟩
    · have g : good n = false := by simp [good]; omega
      have d6 : decide (da n ≤ lenM (yr n) (mo n)) = false := by simpa using c6
      rw [g]
      go_enter Tryd.func31, Tryd.ntmps31
      go_wp2_with (first | (go_at_call 45; refine (split_any _ _ h h').mono ?_; rintro e w' ⟨rfl, rfl⟩) | (go_at_call 46; refine (length_any _ _ _ hT (by omega) (by omega) (by omega)).mono ?_; rintro e w' ⟨rfl, rfl⟩))
      go_ret
      exact ⟨rfl, rfl⟩
  · have g : good n = false := by simp [good]; omega
    rw [g]
    go_enter Tryd.func31, Tryd.ntmps31
    go_wp2_with (go_at_call 45; refine (split_any _ _ h h').mono ?_; rintro e w' ⟨rfl, rfl⟩)
    go_ret
    exact ⟨rfl, rfl⟩

def yearV (n : Int) : Int := if good n = true then yr n else 0
theorem year_any (n : Int) (w : World) (hT : Tab w) (h : -9223372036854775808 ≤ n) (h' : n ≤ 9223372036854775807) :
    Calls Tryd.prog 44 #[.int .i64 n] w fun e w' => e = .returned (.int .i64 (yearV n)) ∧ w' = w := by
  cases g : good n
  · have e : yearV n = 0 := by simp [yearV, g]
    go_enter Tryd.func44, Tryd.ntmps44
    go_wp2_with (go_at_call 31; refine (good_any _ _ hT h h').mono ?_; rintro e w' ⟨rfl, rfl⟩)
    go_ret
    exact ⟨by rw [e]; rfl, rfl⟩
  · have e : yearV n = yr n := by simp [yearV, g]
    go_enter Tryd.func44, Tryd.ntmps44
    go_wp2_with (first | (go_at_call 31; refine (good_any _ _ hT h h').mono ?_; rintro e w' ⟨rfl, rfl⟩) | (go_at_call 45; refine (split_any _ _ h h').mono ?_; rintro e w' ⟨rfl, rfl⟩))
    go_ret
    exact ⟨by rw [e]; rfl, rfl⟩
end Go.Proofs.YtpmlmoclocccoaaDoor.Da
