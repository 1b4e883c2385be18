/-
  What cents.Scale answers, as a contract: for every int64.
-/
import Derived.Test.YtkliijcfplmdoaaCScale0
import Derived.Test.YtkliijcfplmdoaaCDiv
namespace Go.Proofs.Ytkliijcfplmdoaa
open Go.RowKit

theorem scale_ok (a n d : Int) (w : World) (ga : good a = true) (n0 : 0 ≤ n) (n1 : n ≤ 9223372036854775807) (d0 : 1 ≤ d) (d1 : d ≤ 9223372036854775807) :
    Calls Try.prog 18 #[.int .i64 a, .int .i64 n, .int .i64 d] w fun e w' => e = .returned (.tuple #[.int .i64 (scaleV a n d), .int .i64 (scaleE a n d)]) ∧ ∃ k, w' = w.drewN k := by
  obtain ⟨a0, a1⟩ := (good_iff a).1 ga
  have p0 : 0 ≤ a * n := Int.mul_nonneg a0 n0
  have hm := fun w => mul_any a n w a0 (by omega) n0 (by omega)
  obtain ⟨p, hp⟩ : ∃ p, Hid (a * n = p) := ⟨_, rfl⟩
  rw [hp.out] at p0 hm
  obtain ⟨hi, eh⟩ : ∃ hi, p / 18446744073709551616 = hi := ⟨_, rfl⟩
  obtain ⟨lo, el⟩ : ∃ lo, p % 18446744073709551616 = lo := ⟨_, rfl⟩
  rw [eh, el] at hm
  have h0 : 0 ≤ hi := by omega
  have l0 : 0 ≤ lo := by omega
  have l1 : lo < 18446744073709551616 := by omega
  have hN : Hid (hi * 18446744073709551616 + lo = p) := by show _ = _; omega
  by_cases hd : d ≤ hi
  · have gq : good (a * n / d) = false := by
      have : 18446744073709551616 ≤ p / d := by
        rw [Int.le_ediv_iff_mul_le (by omega)]; omega
      refine (good_not _).2 ?_
      rw [hp.out]; omega
    have e1 : scaleV a n d = 0 := by simp [scaleV, gq]
    have e2 : scaleE a n d = 2 := by unfold scaleE; rw [if_pos ⟨ga, n0, d0⟩, if_neg (by simp [gq])]
    rw [e1, e2]
    clear gq e1 e2 eh el
    go_enter Try.func18, Try.ntmps18
    go_wp2_with (first | (go_at_call 13; refine (good_any _ _).mono ?_; rintro e w' ⟨rfl, rfl⟩) | (go_at_call 23; refine (hm _).mono ?_; rintro e w' ⟨rfl, rfl⟩))
    go_ret2
    exact ⟨rfl, 0, rfl⟩
  · have hv := fun w => div_any hi lo d w h0 (by omega) l0 l1 d1
    rw [hN.out] at hv
    have q0 : 0 ≤ p / d := Int.ediv_nonneg p0 (by omega)
    by_cases hq : 10000000000000 < p / d
    · have gq : good (a * n / d) = false := (good_not _).2 (by rw [hp.out]; omega)
      have e1 : scaleV a n d = 0 := by simp [scaleV, gq]
      have e2 : scaleE a n d = 2 := by unfold scaleE; rw [if_pos ⟨ga, n0, d0⟩, if_neg (by simp [gq])]
      rw [e1, e2]
      clear gq e1 e2 eh el
      go_enter Try.func18, Try.ntmps18
      go_wp2_with (first | (go_at_call 13; refine (good_any _ _).mono ?_; rintro e w' ⟨rfl, rfl⟩) | (go_at_call 23; refine (hm _).mono ?_; rintro e w' ⟨rfl, rfl⟩) | (go_at_call 24; refine (hv _).mono ?_; rintro e w' ⟨⟨r, rfl⟩, k, rfl⟩))
      go_ret2
      exact ⟨rfl, _, rfl⟩
    · have gq : good (a * n / d) = true := (good_iff _).2 (by rw [hp.out]; omega)
      have e1 : scaleV a n d = p / d := by unfold scaleV; rw [if_pos ⟨ga, n0, d0, gq⟩, hp.out]
      have e2 : scaleE a n d = 0 := by unfold scaleE; rw [if_pos ⟨ga, n0, d0⟩, if_pos gq]
      rw [e1, e2]
      clear gq e1 e2 eh el
      go_enter Try.func18, Try.ntmps18
      go_wp2_with (first | (go_at_call 13; refine (good_any _ _).mono ?_; rintro e w' ⟨rfl, rfl⟩) | (go_at_call 23; refine (hm _).mono ?_; rintro e w' ⟨rfl, rfl⟩) | (go_at_call 24; refine (hv _).mono ?_; rintro e w' ⟨⟨r, rfl⟩, k, rfl⟩))
      go_ret2
      exact ⟨rfl, _, rfl⟩

theorem scale_any (a n d : Int) (w : World) (n1 : n ≤ 9223372036854775807) (d1 : d ≤ 9223372036854775807) :
    Calls Try.prog 18 #[.int .i64 a, .int .i64 n, .int .i64 d] w fun e w' => e = .returned (.tuple #[.int .i64 (scaleV a n d), .int .i64 (scaleE a n d)]) ∧ ∃ k, w' = w.drewN k := by
  by_cases h : good a = true ∧ 0 ≤ n ∧ 1 ≤ d
  · exact scale_ok a n d w h.1 h.2.1 n1 h.2.2 d1
  · refine (scale_arg a n d w h).mono ?_
    rintro e w' ⟨rfl, rfl⟩
    exact ⟨rfl, 0, rfl⟩

end Go.Proofs.Ytkliijcfplmdoaa
