/-
  What date.Of answers, as a contract: for every int64.
-/
import Derived.Test.YtfmdphpbgjjmiaaDoorDDays
import Derived.Deep.LoopGhost
import Derived.WalkMore
namespace Go.Proofs.YtfmdphpbgjjmiaaDoor
open Go.RowKit

theorem of_here (d y m r : Int) (hy : 1 ≤ y) (hy' : y ≤ 9999) (hm : 1 ≤ m) (hm' : m ≤ 12) (hr : 0 ≤ r) (hr' : r < lenM y m) (h : ahead y + cum y m + r = d) : ofV d = y * 10000 + m * 100 + (r + 1) := by
  obtain ⟨g, e⟩ := made_good y m (r + 1) hy hy' hm hm' (by omega) (by omega)
  exact of_eq d _ g (by omega)

set_option maxHeartbeats 1000000 in
theorem of_any (d : Int) (w : World) (hT : Tab w) (h : -9223372036854775808 ≤ d) (h' : d ≤ 9223372036854775807) :
    Calls Tryd.prog 16 #[.int .i64 d] w fun e w' => e = .returned (.tuple #[.int .i64 (ofV d), .int .i64 (ofE d)]) ∧ w' = w := by
  have ae := ahead_end
  by_cases c0 : d < 0
  · obtain ⟨e1, e2⟩ := of_out d (by omega)
    rw [e1, e2]
    go_enter Tryd.func16, Tryd.ntmps16
    go_wp2
    go_step3
    go_wp2
    rw [Exit.noGoto_ret]
    go_ret2
    exact ⟨rfl, rfl⟩
  by_cases c1 : 3652059 ≤ d
  · obtain ⟨e1, e2⟩ := of_out d (by omega)
    rw [e1, e2]
    go_enter Tryd.func16, Tryd.ntmps16
    go_wp2
    go_step3
    go_wp2_with (go_at_call 21; refine (ahead_any _ _ (by omega) (by omega)).mono ?_; rintro e w' ⟨rfl, rfl⟩)
    rw [Exit.noGoto_ret]
    go_ret2
    exact ⟨rfl, rfl⟩
  have e2 := of_in d (by omega) (by omega)
  have E2 : Hid (ofE d = 0) := e2
  clear e2
  have g0 := ahead_guess d (by omega)
  have y0 : 1 ≤ d / 366 + 1 ∧ d / 366 + 1 ≤ 9999 := by omega
  have a0 := ahead_bd (d / 366 + 1) (by omega) (by omega)
  go_enter Tryd.func16, Tryd.ntmps16
  go_wp2
  go_step3
  go_wp2_with (go_at_call 21; refine (ahead_any _ _ (by omega) (by omega)).mono ?_; rintro e w' ⟨rfl, rfl⟩)
  go_step3
  go_wp2
  go_loopg [4, 6] (9999 - (d / 366)).toNat (fun g s4 s6 wx => ∃ y r : Int, 1 ≤ y ∧ y ≤ 9999 ∧ y + g = 10000 ∧ 0 ≤ r ∧ r ≤ 3652059 ∧ s4 = .int .i64 y ∧ s6 = .int .i64 r ∧ Hid (ahead y + r = d) ∧ wx = w')
  case atStart => exact ⟨d / 366 + 1, d - ahead (d / 366 + 1), by omega, by omega, by omega, by omega, by omega, by go_num, by go_num, by show _ = _; omega, rfl⟩
  case round =>
    obtain ⟨y, r, hy, hy', hg, hr, hr', rfl, rfl, H, rfl⟩ := hrel
    clear g0 y0 a0
    obtain ⟨ga, rfl⟩ : ∃ ga : Nat, ga = gk := ⟨_, rfl⟩
    obtain ⟨wo, rfl⟩ : ∃ wo : World, wo = wr := ⟨_, rfl⟩
    go_wp2
    go_loopg [5, 6] 12 (fun g2 s5 s6 wy => ∃ m t : Int, 1 ≤ m ∧ m + g2 = 13 ∧ 0 ≤ t ∧ t ≤ 3652059 ∧ s5 = .int .i64 m ∧ s6 = .int .i64 t ∧ Hid (ahead y + cum y m + t = d) ∧ wy = wo)
    case atStart => exact ⟨1, r, by omega, by omega, hr, hr', rfl, rfl, by show _ = _; rw [cum_one]; have := H.out; omega, rfl⟩
    case round =>
      obtain ⟨m, t, hm, hmg, ht, ht', rfl, rfl, I, rfl⟩ := hrel
      by_cases hm12 : m ≤ 12
      · have lb := lenM_bd y m hm hm12
        by_cases hlt : t < lenM y m
        · go_wp2_with (first | (go_at_call 19; refine (length_any _ _ _ hT (by omega) hm hm12).mono ?_; rintro e w' ⟨rfl, rfl⟩) | (go_at_call 23; refine (join_any _ _ _ _ (by omega) (by omega) (by omega) (by omega) (by omega) (by omega)).mono ?_; rintro e w' ⟨rfl, rfl⟩))
          rw [Exit.noGoto_ret]
          go_ret2
          exact ⟨by rw [of_here d y m t hy hy' hm hm12 ht hlt I.out, E2.out]; rfl, rfl⟩
        · go_wp2_with (go_at_call 19; refine (length_any _ _ _ hT (by omega) hm hm12).mono ?_; rintro e w' ⟨rfl, rfl⟩)
          go_roundg (gk - 1)
          case measure => omega
          case rel => exact ⟨m + 1, t - lenM y m, by omega, by omega, by omega, by omega, by go_num, by go_num, by show _ = _; rw [cum_succ y m hm hm12]; have := I.out; omega, rfl⟩
      · obtain rfl : m = 13 := by omega
        have i := I.out
        rw [cum_end] at i
        have a1 := ahead_succ y hy
        have y9 : y ≤ 9998 := by
          by_cases e : y = 9999
          · subst e
            have : (9999 : Int) + 1 = 10000 := rfl
            rw [this] at a1
            omega
          · omega
        have I' : Hid (ahead (y + 1) + t = d) := by show _ = _; omega
        clear i a1 I
        go_wp2
        go_roundg (ga - 1)
        case measure => omega
        case rel => exact ⟨y + 1, t, by omega, by omega, by omega, by omega, by omega, by go_num, by go_num, I', rfl⟩
end Go.Proofs.YtfmdphpbgjjmiaaDoor
