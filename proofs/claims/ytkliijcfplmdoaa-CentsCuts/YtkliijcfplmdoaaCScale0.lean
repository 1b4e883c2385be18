/-
  What cents.Scale and cents.Part answer where the product has at most 64 bits (so for every part, and wherever an argument is wrong), and what the law's own example 'works' answers, as contracts.
-/
import Derived.Test.YtkliijcfplmdoaaCDiv0
namespace Go.Proofs.Ytkliijcfplmdoaa
open Go.RowKit

/-- A wrong argument: answered at once. -/
theorem scale_arg (a n d : Int) (w : World) (h : ¬ (good a = true ∧ 0 ≤ n ∧ 1 ≤ d)) :
    Calls Try.prog 18 #[.int .i64 a, .int .i64 n, .int .i64 d] w fun e w' => e = .returned (.tuple #[.int .i64 (scaleV a n d), .int .i64 (scaleE a n d)]) ∧ w' = w := by
  have e1 : scaleV a n d = 0 := by unfold scaleV; rw [if_neg]; intro hh; exact h ⟨hh.1, hh.2.1, hh.2.2.1⟩
  have e2 : scaleE a n d = 1 := by unfold scaleE; rw [if_neg h]
  rw [e1, e2]
  cases ga : good a
  · clear h
    go_enter Try.func18, Try.ntmps18
    go_wp2_with (go_at_call 13; refine (good_any _ _).mono ?_; rintro e w' ⟨rfl, rfl⟩)
    go_ret2
    exact ⟨rfl, rfl⟩
  · by_cases hn : n < 0
    · clear h
      go_enter Try.func18, Try.ntmps18
      go_wp2_with (go_at_call 13; refine (good_any _ _).mono ?_; rintro e w' ⟨rfl, rfl⟩)
      go_ret2
      exact ⟨rfl, rfl⟩
    · have hd : d < 1 := by
        refine Int.not_le.1 fun hh => h ⟨ga, by omega, by omega⟩
      clear h
      go_enter Try.func18, Try.ntmps18
      go_wp2_with (go_at_call 13; refine (good_any _ _).mono ?_; rintro e w' ⟨rfl, rfl⟩)
      go_ret2
      exact ⟨rfl, rfl⟩

/-- The product has at most 64 bits. -/
theorem scale_small (a n d p : Int) (w : World) (ga : good a = true) (n0 : 0 ≤ n) (n1 : n ≤ 9223372036854775807) (d0 : 1 ≤ d) (d1 : d ≤ 9223372036854775807) (hp : a * n = p) (hs : p < 18446744073709551616) :
    Calls Try.prog 18 #[.int .i64 a, .int .i64 n, .int .i64 d] w fun e w' => e = .returned (.tuple #[.int .i64 (scaleV a n d), .int .i64 (scaleE a n d)]) ∧ ∃ k, w' = w.drewN k := by
  obtain ⟨a0, a1⟩ := (good_iff a).1 ga
  have p0 : 0 ≤ p := by rw [← hp]; exact Int.mul_nonneg a0 n0
  have q0 : 0 ≤ p / d := Int.ediv_nonneg p0 (by omega)
  have q1 : p / d ≤ p := Int.ediv_le_self d p0
  by_cases hq : 10000000000000 < p / d
  · have gq : good (a * n / d) = false := (good_not _).2 (by rw [hp]; omega)
    have e1 : scaleV a n d = 0 := by simp [scaleV, gq]
    have e2 : scaleE a n d = 2 := by unfold scaleE; rw [if_pos ⟨ga, n0, d0⟩, if_neg (by simp [gq])]
    rw [e1, e2]
    clear gq e1 e2
    have H : Hid (a * n = p) := hp
    clear hp
    go_enter Try.func18, Try.ntmps18
    go_wp2_with (first | (go_at_call 13; refine (good_any _ _).mono ?_; rintro e w' ⟨rfl, rfl⟩) | (go_at_call 23; refine (mul_small _ _ p _ (by omega) (by omega) (by omega) (by omega) H.out hs).mono ?_; rintro e w' ⟨rfl, rfl⟩) | (go_at_call 24; refine (div_small _ _ _ (by omega) (by omega) (by omega) (by omega)).mono ?_; rintro e w' ⟨rfl, k, rfl⟩))
    go_ret2
    exact ⟨rfl, _, rfl⟩
  · have gq : good (a * n / d) = true := (good_iff _).2 (by rw [hp]; omega)
    have e1 : scaleV a n d = p / d := by unfold scaleV; rw [if_pos ⟨ga, n0, d0, gq⟩, hp]
    have e2 : scaleE a n d = 0 := by unfold scaleE; rw [if_pos ⟨ga, n0, d0⟩, if_pos gq]
    rw [e1, e2]
    clear gq e1 e2
    have H : Hid (a * n = p) := hp
    clear hp
    go_enter Try.func18, Try.ntmps18
    go_wp2_with (first | (go_at_call 13; refine (good_any _ _).mono ?_; rintro e w' ⟨rfl, rfl⟩) | (go_at_call 23; refine (mul_small _ _ p _ (by omega) (by omega) (by omega) (by omega) H.out hs).mono ?_; rintro e w' ⟨rfl, rfl⟩) | (go_at_call 24; refine (div_small _ _ _ (by omega) (by omega) (by omega) (by omega)).mono ?_; rintro e w' ⟨rfl, k, rfl⟩))
    go_ret2
    exact ⟨rfl, _, rfl⟩

theorem part_any (a p : Int) (w : World) :
    Calls Try.prog 20 #[.int .i64 a, .int .i64 p] w fun e w' => e = .returned (.tuple #[.int .i64 (partV a p), .int .i64 (partE a p)]) ∧ ∃ k, w' = w.drewN k := by
  by_cases h0 : p < 0
  · have e1 : partV a p = 0 := by unfold partV; rw [if_neg (by omega)]
    have e2 : partE a p = 1 := by unfold partE; rw [if_neg (by omega)]
    rw [e1, e2]
    go_enter Try.func20, Try.ntmps20
    go_wp2
    go_ret2
    exact ⟨rfl, 0, rfl⟩
  · by_cases h1 : 10000 < p
    · have e1 : partV a p = 0 := by unfold partV; rw [if_neg (by omega)]
      have e2 : partE a p = 1 := by unfold partE; rw [if_neg (by omega)]
      rw [e1, e2]
      go_enter Try.func20, Try.ntmps20
      go_wp2
      go_ret2
      exact ⟨rfl, 0, rfl⟩
    · have e1 : partV a p = scaleV a p 10000 := by unfold partV; rw [if_pos (by omega)]
      have e2 : partE a p = scaleE a p 10000 := by unfold partE; rw [if_pos (by omega)]
      rw [e1, e2]
      have hc : ∀ w, Calls Try.prog 18 #[.int .i64 a, .int .i64 p, .int .i64 10000] w fun e w' => e = .returned (.tuple #[.int .i64 (scaleV a p 10000), .int .i64 (scaleE a p 10000)]) ∧ ∃ k, w' = w.drewN k := by
        intro w
        cases ga : good a
        · refine (scale_arg a p 10000 w (by simp [ga])).mono ?_
          rintro e w' ⟨rfl, rfl⟩
          exact ⟨rfl, 0, rfl⟩
        · obtain ⟨a0, a1⟩ := (good_iff a).1 ga
          have hb : a * p ≤ 10000000000000 * 10000 := Int.mul_le_mul a1 (by omega) (by omega) (by omega)
          exact scale_small a p 10000 (a * p) w ga (by omega) (by omega) (by omega) (by omega) rfl (by omega)
      clear e1 e2
      go_enter Try.func20, Try.ntmps20
      go_wp2_with (go_at_call 18; refine (hc _).mono ?_; rintro e w' ⟨rfl, k, rfl⟩)
      go_ret2
      exact ⟨rfl, _, rfl⟩

theorem works_any (w : World) :
    Calls Try.prog 15 #[] w fun e w' => e = .returned (.bool true) ∧ ∃ k, w' = w.drewN k := by
  have a1 : addV 2 3 = 5 := by decide
  have a2 : addE 2 3 = 0 := by decide
  have a3 : subV 2 3 = 0 := by decide
  have a4 : subE 2 3 = 3 := by decide
  have a5 : scaleV 1001 3 2 = 1501 := by decide
  have a6 : scaleE 1001 3 2 = 0 := by decide
  have a7 : partV 199 5000 = 99 := by decide
  have a8 : partE 199 5000 = 0 := by decide
  have g1 : good 0 = true := by decide
  have g2 : good (-1) = false := by decide
  have hs : ∀ w, Calls Try.prog 18 #[.int .i64 1001, .int .i64 3, .int .i64 2] w fun e w' => e = .returned (.tuple #[.int .i64 1501, .int .i64 0]) ∧ ∃ k, w' = w.drewN k := by
    intro w
    have h := scale_small 1001 3 2 3003 w (by decide) (by omega) (by omega) (by omega) (by omega) (by omega) (by omega)
    rw [a5, a6] at h
    exact h
  go_enter Try.func15, Try.ntmps15
  go_wp2_with (first | (go_at_call 13; refine (good_any _ _).mono ?_; rintro e w' ⟨rfl, rfl⟩) | (go_at_call 9; refine (add_any _ _ _).mono ?_; rintro e w' ⟨rfl, rfl⟩) | (go_at_call 11; refine (sub_any _ _ _).mono ?_; rintro e w' ⟨rfl, rfl⟩) | (go_at_call 18; refine (hs _).mono ?_; rintro e w' ⟨rfl, k, rfl⟩) | (go_at_call 20; refine (part_any _ _ _).mono ?_; rintro e w' ⟨rfl, k, rfl⟩))
  go_ret
  exact ⟨rfl, _, rfl⟩

end Go.Proofs.Ytkliijcfplmdoaa
