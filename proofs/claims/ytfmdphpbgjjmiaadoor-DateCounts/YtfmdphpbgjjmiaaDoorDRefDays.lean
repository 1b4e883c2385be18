/-
  What the reference's Days and Of answer, as contracts: for every int64.
-/
import Derived.Test.YtfmdphpbgjjmiaaDoorDRef
import Derived.Deep.LoopGhost
namespace Go.Proofs.YtfmdphpbgjjmiaaDoor
open Go.RowKit

set_option maxHeartbeats 1000000 in
theorem rdays_any (n : Int) (w : World) :
    Calls Tryd.prog 15 #[.int .i64 n] w fun e w' => e = .returned (.tuple #[.int .i64 (daysV n), .int .i64 (daysE n)]) ∧ Grown w w' := by
  cases g : good n
  · obtain ⟨e1, e2⟩ := days_out n g
    go_enter Tryd.func15, Tryd.ntmps15
    go_wp2_with (go_at_call 10; refine (rgood_any _ _).mono ?_; rintro e w' ⟨rfl, hg⟩)
    go_ret2
    exact ⟨by rw [e1, e2]; rfl, hg⟩
  · have b := good_bd n g
    obtain ⟨m1, m2, d1, d2⟩ := (good_ref n b.1 b.2).1 g
    have l := lenM_bd (n / 10000) (n / 100 % 100) m1 m2
    have p := lp_01 (n / 10000)
    have ab := ahead_bd (n / 10000) (by omega) (by omega)
    have E : Hid (daysV n = ahead (n / 10000) + cum (n / 10000) (n / 100 % 100) + n % 100 - 1 ∧ daysE n = 0) := by
      refine ⟨?_, (days_in n g).2⟩
      rw [(days_in n g).1]
      unfold dayOf
      rw [yr_eq n (by omega), mo_eq n (by omega), da_eq n (by omega)]
    go_enter Tryd.func15, Tryd.ntmps15
    go_wp2_with (go_at_call 10; refine (rgood_any _ _).mono ?_; rintro e w' ⟨rfl, hg⟩)
    go_loop [4, 5] (fun t i => ∃ y : Int, 1 ≤ y ∧ y ≤ n / 10000 ∧ i = .int .i64 y ∧ t = .int .i64 (ahead y)) (fun _ i => (n / 10000 - intOf i).toNat)
    case atStart => exact ⟨1, by omega, by omega, rfl, rfl⟩
    case round =>
      obtain ⟨y, hy, hy', rfl, rfl⟩ := hrel
      have a := ahead_bd y hy (by omega)
      by_cases hlt : y < n / 10000
      · rcases lp_cases y with ⟨q, lb⟩ | ⟨q, lb⟩
        · have hs := ahead_succ y hy
          rw [q] at hs
          have AS : Hid (ahead (y + 1) = ahead y + 365 + 1) := hs
          clear hs
          go_wp2_with (go_at_call 22; refine (rleap_any _ _ (by omega)).mono ?_; rintro e w' ⟨rfl, rfl⟩)
          go_round
          case rel => exact ⟨y + 1, by omega, by omega, rfl, by rw [AS.out]⟩
          case measure => simp [intOf]; omega
        · have hs := ahead_succ y hy
          rw [q] at hs
          have AS : Hid (ahead (y + 1) = ahead y + 365 + 0) := hs
          clear hs
          go_wp2_with (go_at_call 22; refine (rleap_any _ _ (by omega)).mono ?_; rintro e w' ⟨rfl, rfl⟩)
          go_round
          case rel => exact ⟨y + 1, by omega, by omega, rfl, by rw [AS.out]; go_num⟩
          case measure => simp [intOf]; omega
      · have hy2 : y = n / 10000 := by omega
        subst hy2
        go_wp2
        go_loopg [4, 6] 12 (fun k t i wx => ∃ m : Int, 1 ≤ m ∧ m ≤ n / 100 % 100 ∧ m + k = 13 ∧ i = .int .i64 m ∧ t = .int .i64 (ahead (n / 10000) + cum (n / 10000) m) ∧ Grown w wx)
        case atStart => exact ⟨1, by omega, by omega, by omega, rfl, by rw [cum_one]; go_num, hg⟩
        case round =>
          obtain ⟨m, hm, hm', hk, rfl, rfl, hw⟩ := hrel
          have cb := cum_bd (n / 10000) m hm (by omega)
          have lb := lenM_bd (n / 10000) m hm (by omega)
          by_cases hlt : m < n / 100 % 100
          · have CS : Hid (cum (n / 10000) (m + 1) = cum (n / 10000) m + lenM (n / 10000) m) := cum_succ _ m hm (by omega)
            go_wp2_with (go_at_call 20; refine (long_any _ _ _ (by omega) hm (by omega)).mono ?_; rintro e w' ⟨rfl, hg2⟩)
            go_roundg (gk - 1)
            case measure => omega
            case rel => exact ⟨m + 1, by omega, by omega, by omega, rfl, by rw [CS.out]; go_num, grown_trans hw hg2⟩
          · have e : m = n / 100 % 100 := by omega
            have C : Hid (cum (n / 10000) m = cum (n / 10000) (n / 100 % 100)) := by show _ = _; rw [e]
            clear e
            go_wp2
            go_ret2
            exact ⟨by rw [E.out.1, E.out.2, ← C.out]; rfl, hw⟩

theorem rof_here (d y m r : Int) (hy : 1 ≤ y) (hy' : y ≤ 9999) (hm : 1 ≤ m) (hm' : m ≤ 12) (hr : 0 ≤ r) (hr' : r < lenM y m) (h : ahead y + cum y m + r = d) : ofV d = y * 10000 + m * 100 + r + 1 ∧ ofE d = 0 := by
  obtain ⟨g, e⟩ := made_good y m (r + 1) hy hy' hm hm' (by omega) (by omega)
  have e' : dayOf (y * 10000 + m * 100 + (r + 1)) = d := by omega
  have b := dayOf_bd _ g
  refine ⟨?_, of_in d (by omega) (by omega)⟩
  rw [of_eq d _ g e']
  omega

set_option maxHeartbeats 1000000 in
theorem rof_any (d : Int) (w : World) (h : -9223372036854775808 ≤ d) (h' : d ≤ 9223372036854775807) :
    Calls Tryd.prog 17 #[.int .i64 d] w fun e w' => e = .returned (.tuple #[.int .i64 (ofV d), .int .i64 (ofE d)]) ∧ Grown w w' := by
  by_cases c0 : d < 0
  · obtain ⟨e1, e2⟩ := of_out d (by omega)
    rw [e1, e2]
    go_enter Tryd.func17, Tryd.ntmps17
    go_wp2
    go_ret2
    exact ⟨rfl, Grown.refl _⟩
  go_enter Tryd.func17, Tryd.ntmps17
  go_wp2
  go_loopg [4, 5] 9999 (fun g s4 s5 wx => ∃ y r : Int, 1 ≤ y ∧ y + g = 10000 ∧ 0 ≤ r ∧ r ≤ d ∧ s5 = .int .i64 y ∧ s4 = .int .i64 r ∧ Hid (ahead y + r = d) ∧ wx = w)
  case atStart => exact ⟨1, d, by omega, by omega, by omega, by omega, rfl, rfl, by show _ = _; simp [ahead], rfl⟩
  case round =>
    obtain ⟨y, r, hy, hg, hr, hr', rfl, rfl, H, rfl⟩ := hrel
    by_cases hy' : y < 10000
    · have p := lp_01 y
      by_cases hk : 365 + lp y ≤ r
      · have H' : Hid (ahead (y + 1) + (r - (365 + lp y)) = d) := by
          show _ = _
          have := H.out
          rw [ahead_succ y hy]
          omega
        rcases lp_cases y with ⟨q, lb⟩ | ⟨q, lb⟩
        · rw [q] at H' hk
          clear p q
          go_wp2_with (go_at_call 22; refine (rleap_any _ _ (by omega)).mono ?_; rintro e w' ⟨rfl, rfl⟩)
          go_roundg (gk - 1)
          case measure => omega
          case rel => exact ⟨y + 1, r - (365 + 1), by omega, by omega, by omega, by omega, by go_num, by go_num, H', rfl⟩
        · rw [q] at H' hk
          clear p q
          go_wp2_with (go_at_call 22; refine (rleap_any _ _ (by omega)).mono ?_; rintro e w' ⟨rfl, rfl⟩)
          go_roundg (gk - 1)
          case measure => omega
          case rel => exact ⟨y + 1, r - (365 + 0), by omega, by omega, by omega, by omega, by go_num, by go_num, H', rfl⟩
      · obtain ⟨wo, rfl⟩ : ∃ wo : World, wo = wr := ⟨_, rfl⟩
        have A0 : Hid (ahead y + cum y 1 + r = d ∧ cum y 1 + r < 365 + lp y) := by
          show _ ∧ _
          have := H.out
          rw [cum_one]
          omega
        rcases lp_cases y with ⟨q, lb⟩ | ⟨q, lb⟩
        all_goals
          have hk' := hk
          rw [q] at hk'
          clear hk H p q
          go_wp2_with (go_at_call 22; refine (rleap_any _ _ (by omega)).mono ?_; rintro e w' ⟨rfl, rfl⟩)
          go_loopg [4, 7] 12 (fun g2 s4 s7 wy => ∃ m t : Int, 1 ≤ m ∧ m ≤ 12 ∧ m + g2 = 13 ∧ 0 ≤ t ∧ t ≤ 366 ∧ s7 = .int .i64 m ∧ s4 = .int .i64 t ∧ Hid (ahead y + cum y m + t = d ∧ cum y m + t < 365 + lp y) ∧ Grown w' wy)
          case atStart => exact ⟨1, r, by omega, by omega, by omega, by omega, by omega, rfl, rfl, A0, Grown.refl _⟩
          case round =>
            obtain ⟨m, t, hm, hm', hmg, ht, ht', rfl, rfl, I, hw⟩ := hrel
            have lm := lenM_bd y m hm hm'
            by_cases hlt : lenM y m ≤ t
            · have I2 : Hid ((ahead y + cum y (m + 1) + (t - lenM y m) = d ∧ cum y (m + 1) + (t - lenM y m) < 365 + lp y) ∧ m + 1 ≤ 12) := by
                show _ ∧ _
                obtain ⟨i1, i2⟩ := I.out
                have cs := cum_succ y m hm hm'
                have ce := cum_end y
                refine ⟨by omega, ?_⟩
                by_cases e : m = 12
                · subst e
                  have : (12 : Int) + 1 = 13 := rfl
                  rw [this] at cs
                  omega
                · omega
              clear I A0
              go_wp2_with (go_at_call 20; refine (long_any _ _ _ (by omega) hm hm').mono ?_; rintro e w1 ⟨rfl, hg1⟩; replace hw := grown_trans hw hg1; clear hg1)
              go_roundg (gk - 1)
              case measure => omega
              case rel => exact ⟨m + 1, t - lenM y m, by omega, I2.out.2, by omega, by omega, by omega, by go_num, by go_num, I2.out.1, hw⟩
            · obtain ⟨i1, i2⟩ := I.out
              clear I A0
              have R := rof_here d y m t hy (by omega) hm hm' ht (by omega) i1
              have R' : Hid (ofV d = y * 10000 + m * 100 + t + 1 ∧ ofE d = 0) := R
              clear i1 i2 R
              go_wp2_with (go_at_call 20; refine (long_any _ _ _ (by omega) hm hm').mono ?_; rintro e w1 ⟨rfl, hg1⟩; replace hw := grown_trans hw hg1; clear hg1)
              go_ret2
              exact ⟨by rw [R'.out.1, R'.out.2]; rfl, hw⟩
    · have hh := H.out
      have e : y = 10000 := by omega
      rw [e, ahead_end] at hh
      obtain ⟨e1, e2⟩ := of_out d (by omega)
      clear hh e
      go_wp2
      go_ret2
      exact ⟨rfl, Grown.refl _⟩
end Go.Proofs.YtfmdphpbgjjmiaaDoor
