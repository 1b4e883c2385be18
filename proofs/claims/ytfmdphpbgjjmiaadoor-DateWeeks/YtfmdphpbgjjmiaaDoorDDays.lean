/-
  What date.Days and date.Of answer, as contracts: for every int64.
-/
import Derived.Test.YtfmdphpbgjjmiaaDoorDDate
import Derived.Deep.LoopGhost
import Derived.WalkMore
namespace Go.Proofs.YtfmdphpbgjjmiaaDoor
open Go.RowKit

set_option maxHeartbeats 400000 in
theorem days_any (n : Int) (w : World) (hT : Tab w) (h : -9223372036854775808 ≤ n) (h' : n ≤ 9223372036854775807) :
    Calls Tryd.prog 14 #[.int .i64 n] w fun e w' => e = .returned (.tuple #[.int .i64 (daysV n), .int .i64 (daysE n)]) ∧ w' = w := by
  cases g : good n
  · obtain ⟨e1, e2⟩ := days_out n g
    go_enter Tryd.func14, Tryd.ntmps14
    go_wp2_with (go_at_call 9; refine (good_any _ _ hT h h').mono ?_; rintro e w' ⟨rfl, rfl⟩)
    go_ret2
    exact ⟨by rw [e1, e2]; rfl, rfl⟩
  · obtain ⟨e1, e2⟩ := days_in n g
    obtain ⟨y1, y2, m1, m2, d1, d2⟩ := (good_iff n).1 g
    have l := lenM_bd (yr n) (mo n) m1 m2
    have a := ahead_bd (yr n) y1 (by omega)
    have p := lp_01 (yr n)
    have E : Hid (daysV n = dayOf n ∧ daysE n = 0) := ⟨e1, e2⟩
    have D : dayOf n = ahead (yr n) + cum (yr n) (mo n) + da n - 1 := rfl
    have D' : Hid (dayOf n = ahead (yr n) + cum (yr n) (mo n) + da n - 1) := D
    clear e1 e2 D
    go_enter Tryd.func14, Tryd.ntmps14
    go_wp2_with (first | (go_at_call 9; refine (good_any _ _ hT h h').mono ?_; rintro e w' ⟨rfl, rfl⟩) | (go_at_call 18; refine (split_any _ _ h h').mono ?_; rintro e w' ⟨rfl, rfl⟩) | (go_at_call 21; refine (ahead_any _ _ y1 (by omega)).mono ?_; rintro e w' ⟨rfl, rfl⟩))
    go_loop [7, 8] (fun t i => ∃ m : Int, 1 ≤ m ∧ m ≤ mo n ∧ i = .int .i64 m ∧ t = .int .i64 (ahead (yr n) + da n - 1 + cum (yr n) m)) (fun _ i => (mo n - intOf i).toNat)
    case atStart => exact ⟨1, by omega, by omega, rfl, by rw [cum_one]; go_num⟩
    case round =>
      obtain ⟨m, hm1, hm2, rfl, rfl⟩ := hrel
      have cb := cum_bd (yr n) m hm1 (by omega)
      have lb := lenM_bd (yr n) m hm1 (by omega)
      have cs := cum_succ (yr n) m hm1 (by omega)
      by_cases hlt : m < mo n
      · have CS : Hid (cum (yr n) (m + 1) = cum (yr n) m + lenM (yr n) m) := cs
        clear cs
        go_wp2_with (go_at_call 19; refine (length_any _ _ _ hT (by omega) hm1 (by omega)).mono ?_; rintro e w' ⟨rfl, rfl⟩)
        go_round
        case rel => exact ⟨m + 1, by omega, by omega, rfl, by rw [CS.out]; go_num⟩
        case measure => simp [intOf]; omega
      · have : m = mo n := by omega
        subst this
        clear cs
        go_wp2
        go_ret2
        exact ⟨by rw [E.out.1, E.out.2, D'.out]; simp; omega, rfl⟩
end Go.Proofs.YtfmdphpbgjjmiaaDoor
