/-
  What the references' Scale and Part answer, as contracts: for every int64: the quotient that is found bit by bit is a * n / d.
-/
import Derived.Test.YtgbfckjmbmmgpaaCRefs
import Derived.Test.YtgbfckjmbmmgpaaCBits
namespace Go.Proofs.Ytgbfckjmbmmgpaa.Ce
open Go.RowKit

theorem rscale_arg (a n d : Int) (w : World) (h : ¬ (good a = true ∧ 0 ≤ n ∧ 1 ≤ d)) :
    Calls Try.prog 28 #[.int .i64 a, .int .i64 n, .int .i64 d] w fun e w' => e = .returned (.tuple #[.int .i64 (scaleV a n d), .int .i64 (scaleE a n d)]) ∧ w' = w := by
  have e1 : scaleV a n d = 0 := by unfold scaleV; rw [if_neg]; intro hh; exact h ⟨hh.1, hh.2.1, hh.2.2.1⟩
  have e2 : scaleE a n d = 1 := by unfold scaleE; rw [if_neg h]
  rw [e1, e2]
  cases ga : good a
  · clear h
    go_enter Try.func28, Try.ntmps28
    go_wp2_with (go_at_call 21; refine (rgood_any _ _).mono ?_; rintro e w' ⟨rfl, rfl⟩)
    go_ret2
    exact ⟨rfl, rfl⟩
  · by_cases hn : n < 0
    · clear h
      go_enter Try.func28, Try.ntmps28
      go_wp2_with (go_at_call 21; refine (rgood_any _ _).mono ?_; rintro e w' ⟨rfl, rfl⟩)
      go_ret2
      exact ⟨rfl, rfl⟩
    · have hd : d < 1 := by
        refine Int.not_le.1 fun hh => h ⟨ga, by omega, by omega⟩
      clear h
      go_enter Try.func28, Try.ntmps28
      go_wp2_with (go_at_call 21; refine (rgood_any _ _).mono ?_; rintro e w' ⟨rfl, rfl⟩)
      go_ret2
      exact ⟨rfl, rfl⟩

set_option maxHeartbeats 1000000 in
theorem rscale_ok (a n d : Int) (w : World) (ga : good a = true) (n0 : 0 ≤ n) (n1 : n ≤ 9223372036854775807) (d0 : 1 ≤ d) (d1 : d ≤ 9223372036854775807) :
    Calls Try.prog 28 #[.int .i64 a, .int .i64 n, .int .i64 d] w fun e w' => e = .returned (.tuple #[.int .i64 (scaleV a n d), .int .i64 (scaleE a n d)]) ∧ w' = w := by
  obtain ⟨a0, a1⟩ := (good_iff a).1 ga
  have hd : (d == 0) = false := by simp; omega
  have o0 : 0 ≤ a / d := Int.ediv_nonneg a0 (by omega)
  have o1 : a / d ≤ a := Int.ediv_le_self d a0
  have l0 : 0 ≤ a % d := Int.emod_nonneg a (by omega)
  have l1 : a % d < d := Int.emod_lt_of_pos a (by omega)
  have ho : Hid (a / d * d + a % d = a) := Int.ediv_mul_add_emod a d
  go_enter Try.func28, Try.ntmps28
  go_wp2_with (go_at_call 21; refine (rgood_any _ _).mono ?_; rintro e w' ⟨rfl, rfl⟩)
  go_loop [8, 9, 12] (fun q r t => ∃ (k : Nat) (x y : Int), k ≤ 63 ∧ t = .int .i64 ((k : Int) - 1) ∧ q = .int .i64 x ∧ r = .int .i64 y ∧ 0 ≤ x ∧ x ≤ 10000000000000 ∧ 0 ≤ y ∧ y < d ∧ Hid (x * d + y = a * (n / 2 ^ k))) (fun _ _ t => (intOf t + 1).toNat)
  case atStart => exact ⟨63, 0, 0, by omega, rfl, rfl, rfl, by omega, by omega, by omega, by omega, bit_start a n d n0 n1⟩
  case round =>
    obtain ⟨k, x, y, hk, rfl, rfl, rfl, x0, x1, y0, y1, he⟩ := hrel
    cases k with
    | zero =>
      go_wp2
      go_ret2
      have hs := bit_end a n d x y ga n0 d0 he.out y0 y1 x0 x1
      rw [hs.1, hs.2]
      exact ⟨rfl, rfl⟩
    | succ j =>
      have ej : ((j + 1 : Nat) : Int) - 1 = (j : Int) := by omega
      rw [ej]
      obtain ⟨t0, t1, t2⟩ := bit_top n j n0
      rcases (by omega : (n / 2 ^ j).tmod 2 = 0 ∨ (n / 2 ^ j).tmod 2 = 1) with hb | hb
      · have hN : Hid (n / 2 ^ j = 2 * (n / 2 ^ (j + 1)) + 0) := by rw [hb] at t0; exact t0
        have hbt : ((n / 2 ^ j).tmod 2 == 1) = false := by rw [hb]; rfl
        clear t0 t1 t2 hb
        go_wp2
        all_goals first
          | (go_ret2
             have hs := bit_over a n d _ _ j ga n0 d0 (bit_step a d _ _ _ _ x y _ _ 0 1 0 he.out hN.out ho.out rfl rfl) (by omega) (by omega)
             rw [hs.1, hs.2]
             exact ⟨rfl, rfl⟩)
          | (go_ret2
             have hs := bit_over a n d _ _ j ga n0 d0 (bit_step a d _ _ _ _ x y _ _ 0 0 0 he.out hN.out ho.out rfl rfl) (by omega) (by omega)
             rw [hs.1, hs.2]
             exact ⟨rfl, rfl⟩)
          | (go_round
             case rel => exact ⟨j, _, _, by omega, by go_num, rfl, rfl, by omega, by omega, by omega, by omega, bit_step a d _ _ _ _ x y _ _ 0 1 0 he.out hN.out ho.out (by omega) (by omega)⟩
             case measure => simp [intOf])
          | (go_round
             case rel => exact ⟨j, _, _, by omega, by go_num, rfl, rfl, by omega, by omega, by omega, by omega, bit_step a d _ _ _ _ x y _ _ 0 0 0 he.out hN.out ho.out (by omega) (by omega)⟩
             case measure => simp [intOf])
      · have hN : Hid (n / 2 ^ j = 2 * (n / 2 ^ (j + 1)) + 1) := by rw [hb] at t0; exact t0
        have hbt : ((n / 2 ^ j).tmod 2 == 1) = true := by rw [hb]; rfl
        clear t0 t1 t2 hb
        go_wp2
        all_goals first
          | (go_ret2
             have hs := bit_over a n d _ _ j ga n0 d0 (bit_step a d _ _ _ _ x y _ _ 1 1 1 he.out hN.out ho.out rfl rfl) (by omega) (by omega)
             rw [hs.1, hs.2]
             exact ⟨rfl, rfl⟩)
          | (go_ret2
             have hs := bit_over a n d _ _ j ga n0 d0 (bit_step a d _ _ _ _ x y _ _ 1 1 0 he.out hN.out ho.out rfl rfl) (by omega) (by omega)
             rw [hs.1, hs.2]
             exact ⟨rfl, rfl⟩)
          | (go_ret2
             have hs := bit_over a n d _ _ j ga n0 d0 (bit_step a d _ _ _ _ x y _ _ 1 0 1 he.out hN.out ho.out rfl rfl) (by omega) (by omega)
             rw [hs.1, hs.2]
             exact ⟨rfl, rfl⟩)
          | (go_ret2
             have hs := bit_over a n d _ _ j ga n0 d0 (bit_step a d _ _ _ _ x y _ _ 1 0 0 he.out hN.out ho.out rfl rfl) (by omega) (by omega)
             rw [hs.1, hs.2]
             exact ⟨rfl, rfl⟩)
          | (go_round
             case rel => exact ⟨j, _, _, by omega, by go_num, rfl, rfl, by omega, by omega, by omega, by omega, bit_step a d _ _ _ _ x y _ _ 1 1 1 he.out hN.out ho.out (by omega) (by omega)⟩
             case measure => simp [intOf])
          | (go_round
             case rel => exact ⟨j, _, _, by omega, by go_num, rfl, rfl, by omega, by omega, by omega, by omega, bit_step a d _ _ _ _ x y _ _ 1 1 0 he.out hN.out ho.out (by omega) (by omega)⟩
             case measure => simp [intOf])
          | (go_round
             case rel => exact ⟨j, _, _, by omega, by go_num, rfl, rfl, by omega, by omega, by omega, by omega, bit_step a d _ _ _ _ x y _ _ 1 0 1 he.out hN.out ho.out (by omega) (by omega)⟩
             case measure => simp [intOf])
          | (go_round
             case rel => exact ⟨j, _, _, by omega, by go_num, rfl, rfl, by omega, by omega, by omega, by omega, bit_step a d _ _ _ _ x y _ _ 1 0 0 he.out hN.out ho.out (by omega) (by omega)⟩
             case measure => simp [intOf])

theorem rscale_any (a n d : Int) (w : World) (n1 : n ≤ 9223372036854775807) (d1 : d ≤ 9223372036854775807) :
    Calls Try.prog 28 #[.int .i64 a, .int .i64 n, .int .i64 d] w fun e w' => e = .returned (.tuple #[.int .i64 (scaleV a n d), .int .i64 (scaleE a n d)]) ∧ w' = w := by
  by_cases h : good a = true ∧ 0 ≤ n ∧ 1 ≤ d
  · exact rscale_ok a n d w h.1 h.2.1 n1 h.2.2 d1
  · exact rscale_arg a n d w h

end Go.Proofs.Ytgbfckjmbmmgpaa.Ce
