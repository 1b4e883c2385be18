/-
  What cents.Sub, and the references' Add and Sub, answer, as contracts: for every int64.
-/
import Derived.Test.YtdppelkfcnbgbaaCRefs
namespace Go.Proofs.Ytdppelkfcnbgbaa.Ce
open Go.RowKit

theorem sub_any (a b : Int) (w : World) :
    Calls Try.prog 38 #[.int .i64 a, .int .i64 b] w fun e w' => e = .returned (.tuple #[.int .i64 (subV a b), .int .i64 (subE a b)]) ∧ w' = w := by
  cases ga : good a
  · have e1 : subV a b = 0 := by simp [subV, ga]
    have e2 : subE a b = 1 := by simp [subE, ga]
    rw [e1, e2]
    go_enter Try.func38, Try.ntmps38
    go_wp2_with (go_at_call 40; refine (good_any _ _).mono ?_; rintro e w' ⟨rfl, rfl⟩)
    go_ret2
    exact ⟨rfl, rfl⟩
  · cases gb : good b
    · have e1 : subV a b = 0 := by simp [subV, gb]
      have e2 : subE a b = 1 := by simp [subE, gb]
      rw [e1, e2]
      go_enter Try.func38, Try.ntmps38
      go_wp2_with (go_at_call 40; refine (good_any _ _).mono ?_; rintro e w' ⟨rfl, rfl⟩)
      go_ret2
      exact ⟨rfl, rfl⟩
    · have ba := (good_iff a).1 ga
      have bb := (good_iff b).1 gb
      obtain ⟨a0, a1⟩ := ba
      obtain ⟨b0, b1⟩ := bb
      by_cases gc : a < b
      · have nb : ¬ b ≤ a := by omega
        have e1 : subV a b = 0 := by simp [subV, nb]
        have e2 : subE a b = 3 := by simp [subE, ga, gb, nb]
        rw [e1, e2]
        go_enter Try.func38, Try.ntmps38
        go_wp2_with (go_at_call 40; refine (good_any _ _).mono ?_; rintro e w' ⟨rfl, rfl⟩)
        go_ret2
        exact ⟨rfl, rfl⟩
      · have nb : b ≤ a := by omega
        have e1 : subV a b = a - b := by simp [subV, ga, gb, nb]
        have e2 : subE a b = 0 := by simp [subE, ga, gb, nb]
        rw [e1, e2]
        go_enter Try.func38, Try.ntmps38
        go_wp2_with (go_at_call 40; refine (good_any _ _).mono ?_; rintro e w' ⟨rfl, rfl⟩)
        go_ret2
        exact ⟨rfl, rfl⟩

theorem radd_any (a b : Int) (w : World) :
    Calls Try.prog 32 #[.int .i64 a, .int .i64 b] w fun e w' => e = .returned (.tuple #[.int .i64 (addV a b), .int .i64 (addE a b)]) ∧ w' = w := by
  cases ga : good a
  · have e1 : addV a b = 0 := by simp [addV, ga]
    have e2 : addE a b = 1 := by simp [addE, ga]
    rw [e1, e2]
    go_enter Try.func32, Try.ntmps32
    go_wp2_with (go_at_call 28; refine (rgood_any _ _).mono ?_; rintro e w' ⟨rfl, rfl⟩)
    go_ret2
    exact ⟨rfl, rfl⟩
  · cases gb : good b
    · have e1 : addV a b = 0 := by simp [addV, gb]
      have e2 : addE a b = 1 := by simp [addE, gb]
      rw [e1, e2]
      go_enter Try.func32, Try.ntmps32
      go_wp2_with (go_at_call 28; refine (rgood_any _ _).mono ?_; rintro e w' ⟨rfl, rfl⟩)
      go_ret2
      exact ⟨rfl, rfl⟩
    · have ba := (good_iff a).1 ga
      have bb := (good_iff b).1 gb
      obtain ⟨a0, a1⟩ := ba
      obtain ⟨b0, b1⟩ := bb
      cases gc : good (a + b)
      · have e1 : addV a b = 0 := by simp [addV, gc]
        have e2 : addE a b = 2 := by simp [addE, ga, gb, gc]
        rw [e1, e2]
        go_enter Try.func32, Try.ntmps32
        go_wp2_with (go_at_call 28; refine (rgood_any _ _).mono ?_; rintro e w' ⟨rfl, rfl⟩)
        go_ret2
        exact ⟨rfl, rfl⟩
      · have e1 : addV a b = a + b := by simp [addV, ga, gb, gc]
        have e2 : addE a b = 0 := by simp [addE, ga, gb, gc]
        rw [e1, e2]
        go_enter Try.func32, Try.ntmps32
        go_wp2_with (go_at_call 28; refine (rgood_any _ _).mono ?_; rintro e w' ⟨rfl, rfl⟩)
        go_ret2
        exact ⟨rfl, rfl⟩

end Go.Proofs.Ytdppelkfcnbgbaa.Ce
