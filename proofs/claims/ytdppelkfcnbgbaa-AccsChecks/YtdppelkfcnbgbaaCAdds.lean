/-
  What cents.Good and Add answer, as contracts: for every int64.
-/
import Derived.Test.YtdppelkfcnbgbaaProg
import Derived.Test.YtdppelkfcnbgbaaCMath
import Derived.WalkKit
namespace Go.Proofs.Ytdppelkfcnbgbaa.Ce
open Go.RowKit

theorem good_any (a : Int) (w : World) :
    Calls Try.prog 40 #[.int .i64 a] w fun e w' => e = .returned (.bool (good a)) ∧ w' = w := by
  by_cases h0 : 0 ≤ a
  · by_cases h1 : a ≤ 10000000000000
    · have g : good a = true := (good_iff a).2 ⟨h0, h1⟩
      rw [g]
      go_enter Try.func40, Try.ntmps40
      go_wp2
      go_ret
      exact ⟨rfl, rfl⟩
    · have g : good a = false := (good_not a).2 (by omega)
      rw [g]
      go_enter Try.func40, Try.ntmps40
      go_wp2
      go_ret
      exact ⟨rfl, rfl⟩
  · have g : good a = false := (good_not a).2 (by omega)
    rw [g]
    go_enter Try.func40, Try.ntmps40
    go_wp2
    go_ret
    exact ⟨rfl, rfl⟩

theorem add_any (a b : Int) (w : World) :
    Calls Try.prog 30 #[.int .i64 a, .int .i64 b] w fun e w' => e = .returned (.tuple #[.int .i64 (addV a b), .int .i64 (addE a b)]) ∧ w' = w := by
  cases ga : good a
  · have e1 : addV a b = 0 := by simp [addV, ga]
    have e2 : addE a b = 1 := by simp [addE, ga]
    rw [e1, e2]
    go_enter Try.func30, Try.ntmps30
    go_wp2_with (go_at_call 40; refine (good_any _ _).mono ?_; rintro e w' ⟨rfl, rfl⟩)
    go_ret2
    exact ⟨rfl, rfl⟩
  · cases gb : good b
    · have e1 : addV a b = 0 := by simp [addV, gb]
      have e2 : addE a b = 1 := by simp [addE, gb]
      rw [e1, e2]
      go_enter Try.func30, Try.ntmps30
      go_wp2_with (go_at_call 40; refine (good_any _ _).mono ?_; rintro e w' ⟨rfl, rfl⟩)
      go_ret2
      exact ⟨rfl, rfl⟩
    · have ba := (good_iff a).1 ga
      have bb := (good_iff b).1 gb
      obtain ⟨a0, a1⟩ := ba
      obtain ⟨b0, b1⟩ := bb
      cases gc : good (a + b)
      · have e1 : addV a b = 0 := by simp [addV, gc]
        have e2 : addE a b = 2 := by simp [addE, ga, gb, gc]
        rw [e1, e2]
        go_enter Try.func30, Try.ntmps30
        go_wp2_with (go_at_call 40; refine (good_any _ _).mono ?_; rintro e w' ⟨rfl, rfl⟩)
        go_ret2
        exact ⟨rfl, rfl⟩
      · have e1 : addV a b = a + b := by simp [addV, ga, gb, gc]
        have e2 : addE a b = 0 := by simp [addE, ga, gb, gc]
        rw [e1, e2]
        go_enter Try.func30, Try.ntmps30
        go_wp2_with (go_at_call 40; refine (good_any _ _).mono ?_; rintro e w' ⟨rfl, rfl⟩)
        go_ret2
        exact ⟨rfl, rfl⟩

end Go.Proofs.Ytdppelkfcnbgbaa.Ce
