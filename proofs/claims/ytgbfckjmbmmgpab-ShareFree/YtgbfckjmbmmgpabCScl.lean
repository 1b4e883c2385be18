/-
  What cents.Scale and cents.Part answer where the product has at most 64 bits (so for every part, and wherever an argument is wrong), and what the law's own example 'works' answers, as contracts.
-/
import Derived.Test.YtgbfckjmbmmgpabCDiv0
namespace Go.Proofs.Ytgbfckjmbmmgpab.Ce
open Go.RowKit

/-- A wrong argument: answered at once. -/
theorem scale_arg (a n d : Int) (w : World) (h : ¬ (good a = true ∧ 0 ≤ n ∧ 1 ≤ d)) :
    Calls Try.prog 14 #[.int .i64 a, .int .i64 n, .int .i64 d] w fun e w' => e = .returned (.tuple #[.int .i64 (scaleV a n d), .int .i64 (scaleE a n d)]) ∧ w' = w := by
  have e1 : scaleV a n d = 0 := by unfold scaleV; rw [if_neg]; intro hh; exact h ⟨hh.1, hh.2.1, hh.2.2.1⟩
  have e2 : scaleE a n d = 1 := by unfold scaleE; rw [if_neg h]
  rw [e1, e2]
  cases ga : good a
  · clear h
    go_enter Try.func14, Try.ntmps14
    go_wp2_with (go_at_call 12; refine (good_any _ _).mono ?_; rintro e w' ⟨rfl, rfl⟩)
    go_ret2
    exact ⟨rfl, rfl⟩
  · by_cases hn : n < 0
    · clear h
      go_enter Try.func14, Try.ntmps14
      go_wp2_with (go_at_call 12; refine (good_any _ _).mono ?_; rintro e w' ⟨rfl, rfl⟩)
      go_ret2
      exact ⟨rfl, rfl⟩
    · have hd : d < 1 := by
        refine Int.not_le.1 fun hh => h ⟨ga, by omega, by omega⟩
      clear h
      go_enter Try.func14, Try.ntmps14
      go_wp2_with (go_at_call 12; refine (good_any _ _).mono ?_; rintro e w' ⟨rfl, rfl⟩)
      go_ret2
      exact ⟨rfl, rfl⟩

/-- The product has at most 64 bits. -/
theorem scale_small (a n d p : Int) (w : World) (ga : good a = true) (n0 : 0 ≤ n) (n1 : n ≤ 9223372036854775807) (d0 : 1 ≤ d) (d1 : d ≤ 9223372036854775807) (hp : a * n = p) (hs : p < 18446744073709551616) :
    Calls Try.prog 14 #[.int .i64 a, .int .i64 n, .int .i64 d] w fun e w' => e = .returned (.tuple #[.int .i64 (scaleV a n d), .int .i64 (scaleE a n d)]) ∧ ∃ k, w' = w.drewN k := by
  obtain ⟨a0, a1⟩ := (good_iff a).1 ga
  have p0 : 0 ≤ p := by rw [← hp]; exact Int.mul_nonneg a0 n0
  have q0 : 0 ≤ p / d := Int.ediv_nonneg p0 (by omega)
  have q1 : p / d ≤ p := Int.ediv_le_self d p0
  by_cases hq : 10000000000000 < p / d
  · have gq : good (a * n / d) = false := (good_not _).2 (by rw [hp]; omega)
    have e1 : scaleV a n d = 0 := by simp [scaleV, gq]
    have e2 : scaleE a n d = 2 := by unfold scaleE; rw [if_pos ⟨ga, n0, d0⟩, if_neg (by simp [gq])]
    rw [e1, e2]
    clear gq e1 e2
    have H : Hid (a * n = p) := hp
    clear hp
    go_enter Try.func14, Try.ntmps14
    go_wp2_with (first | (go_at_call 12; refine (good_any _ _).mono ?_; rintro e w' ⟨rfl, rfl⟩) | (go_at_call 16; refine (mul_small _ _ p _ (by omega) (by omega) (by omega) (by omega) H.out hs).mono ?_; rintro e w' ⟨rfl, rfl⟩) | (go_at_call 17; refine (div_small _ _ _ (by omega) (by omega) (by omega) (by omega)).mono ?_; rintro e w' ⟨rfl, k, rfl⟩))
    go_ret2
    exact ⟨rfl, _, rfl⟩
  · have gq : good (a * n / d) = true := (good_iff _).2 (by rw [hp]; omega)
    have e1 : scaleV a n d = p / d := by unfold scaleV; rw [if_pos ⟨ga, n0, d0, gq⟩, hp]
    have e2 : scaleE a n d = 0 := by unfold scaleE; rw [if_pos ⟨ga, n0, d0⟩, if_pos gq]
    rw [e1, e2]
    clear gq e1 e2
    have H : Hid (a * n = p) := hp
    clear hp
    go_enter Try.func14, Try.ntmps14
    go_wp2_with (first | (go_at_call 12; refine (good_any _ _).mono ?_; rintro e w' ⟨rfl, rfl⟩) | (go_at_call 16; refine (mul_small _ _ p _ (by omega) (by omega) (by omega) (by omega) H.out hs).mono ?_; rintro e w' ⟨rfl, rfl⟩) | (go_at_call 17; refine (div_small _ _ _ (by omega) (by omega) (by omega) (by omega)).mono ?_; rintro e w' ⟨rfl, k, rfl⟩))
    go_ret2
    exact ⟨rfl, _, rfl⟩

theorem part_any (a p : Int) (w : World) :
    Calls Try.prog 8 #[.int .i64 a, .int .i64 p] w fun e w' => e = .returned (.tuple #[.int .i64 (partV a p), .int .i64 (partE a p)]) ∧ ∃ k, w' = w.drewN k := by
  by_cases h0 : p < 0
  · have e1 : partV a p = 0 := by unfold partV; rw [if_neg (by omega)]
    have e2 : partE a p = 1 := by unfold partE; rw [if_neg (by omega)]
    rw [e1, e2]
    go_enter Try.func8, Try.ntmps8
    go_wp2
    go_ret2
    exact ⟨rfl, 0, rfl⟩
  · by_cases h1 : 10000 < p
    · have e1 : partV a p = 0 := by unfold partV; rw [if_neg (by omega)]
      have e2 : partE a p = 1 := by unfold partE; rw [if_neg (by omega)]
      rw [e1, e2]
      go_enter Try.func8, Try.ntmps8
      go_wp2
      go_ret2
      exact ⟨rfl, 0, rfl⟩
    · have e1 : partV a p = scaleV a p 10000 := by unfold partV; rw [if_pos (by omega)]
      have e2 : partE a p = scaleE a p 10000 := by unfold partE; rw [if_pos (by omega)]
      rw [e1, e2]
      have hc : ∀ w, Calls Try.prog 14 #[.int .i64 a, .int .i64 p, .int .i64 10000] w fun e w' => e = .returned (.tuple #[.int .i64 (scaleV a p 10000), .int .i64 (scaleE a p 10000)]) ∧ ∃ k, w' = w.drewN k := by
        intro w
        cases ga : good a
        · refine (scale_arg a p 10000 w (by simp [ga])).mono ?_
          rintro e w' ⟨rfl, rfl⟩
          exact ⟨rfl, 0, rfl⟩
        · obtain ⟨a0, a1⟩ := (good_iff a).1 ga
          have hb : a * p ≤ 10000000000000 * 10000 := Int.mul_le_mul a1 (by omega) (by omega) (by omega)
          exact scale_small a p 10000 (a * p) w ga (by omega) (by omega) (by omega) (by omega) rfl (by omega)
      clear e1 e2
      go_enter Try.func8, Try.ntmps8
      go_wp2_with (go_at_call 14; refine (hc _).mono ?_; rintro e w' ⟨rfl, k, rfl⟩)
      go_ret2
      exact ⟨rfl, _, rfl⟩

/-- By 1, whatever comes in. -/
theorem scale_one (a n : Int) (w : World) (n1 : n ≤ 9223372036854775807) :
    Calls Try.prog 14 #[.int .i64 a, .int .i64 n, .int .i64 1] w fun e w' => e = .returned (.tuple #[.int .i64 (scaleV a n 1), .int .i64 (scaleE a n 1)]) ∧ ∃ k, w' = w.drewN k := by
  by_cases h : good a = true ∧ 0 ≤ n ∧ (1 : Int) ≤ 1
  · obtain ⟨ga, n0, -⟩ := h
    obtain ⟨a0, a1⟩ := (good_iff a).1 ga
    have p0 : 0 ≤ a * n := Int.mul_nonneg a0 n0
    by_cases hs : a * n < 18446744073709551616
    · exact scale_small a n 1 (a * n) w ga n0 n1 (by omega) (by omega) rfl hs
    · have gq : good (a * n / 1) = false := (good_not _).2 (by rw [Int.ediv_one]; omega)
      have e1 : scaleV a n 1 = 0 := by unfold scaleV; rw [if_neg]; intro h; rw [gq] at h; exact absurd h.2.2.2 (by decide)
      have e2 : scaleE a n 1 = 2 := by unfold scaleE; rw [if_pos ⟨ga, n0, by omega⟩, if_neg (by rw [gq]; decide)]
      rw [e1, e2]
      have hm := fun w => mul_any a n w a0 (by omega) n0 (by omega)
      obtain ⟨p, hp⟩ : ∃ p, Hid (a * n = p) := ⟨_, rfl⟩
      rw [hp.out] at p0 hm hs
      obtain ⟨hi, eh⟩ : ∃ hi, p / 18446744073709551616 = hi := ⟨_, rfl⟩
      obtain ⟨lo, el⟩ : ∃ lo, p % 18446744073709551616 = lo := ⟨_, rfl⟩
      rw [eh, el] at hm
      have h0 : 1 ≤ hi := by omega
      clear gq e1 e2 eh el
      go_enter Try.func14, Try.ntmps14
      go_wp2_with (first | (go_at_call 12; refine (good_any _ _).mono ?_; rintro e w' ⟨rfl, rfl⟩) | (go_at_call 16; refine (hm _).mono ?_; rintro e w' ⟨rfl, rfl⟩))
      go_ret2
      exact ⟨rfl, 0, rfl⟩
  · refine (scale_arg a n 1 w h).mono ?_
    rintro e w' ⟨rfl, rfl⟩
    exact ⟨rfl, 0, rfl⟩
end Go.Proofs.Ytgbfckjmbmmgpab.Ce
