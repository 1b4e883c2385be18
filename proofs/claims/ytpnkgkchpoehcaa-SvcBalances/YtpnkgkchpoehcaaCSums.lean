/-
  What cents.Sum and its reference answer, as contracts: for every list of int64.
-/
import Derived.Test.YtpnkgkchpoehcaaCSumMath
import Derived.Test.YtpnkgkchpoehcaaCRefs
namespace Go.Proofs.Ytpnkgkchpoehcaa.Ce
open Go.RowKit

set_option maxHeartbeats 400000 in
theorem rsum_row (a : Option Addr) (len cap : Nat) (f : Nat → Int) (w : World) (hm : len ≤ 9223372036854775807) (hc : ∀ i, i < len → ∃ b off, a = some ⟨b, off, none⟩ ∧ w.cell? ⟨b, off + i, none⟩ = some (.int .i64 (f i))) :
    Calls Try.prog 48 #[.slice a len cap] w fun e w' => e = .returned (.tuple #[.int .i64 (sumV f len), .int .i64 (sumE f len)]) ∧ w' = w := by
  go_enter Try.func48, Try.ntmps48
  go_wp2
  go_loop [4] (fun i => ∃ k : Nat, k ≤ len ∧ i = .int .i64 k ∧ Hid (allG f k = true)) (fun i => len - (intOf i).toNat)
  case atStart => exact ⟨0, Nat.zero_le _, rfl, rfl⟩
  case round =>
    obtain ⟨k, hk, rfl, hg⟩ := hrel
    by_cases hlt : k < len
    · obtain ⟨b, off, rfl, hcell⟩ := hc k hlt
      cases gk : good (f k)
      · go_wp2_with (go_at_call 41; refine (rgood_any _ _).mono ?_; rintro e w' ⟨rfl, rfl⟩)
        go_ret2
        have g := allG_not f len k hlt gk
        exact ⟨by rw [(sum_arg f len g).1, (sum_arg f len g).2]; rfl, rfl⟩
      · go_wp2_with (go_at_call 41; refine (rgood_any _ _).mono ?_; rintro e w' ⟨rfl, rfl⟩)
        go_round
        case rel => exact ⟨k + 1, by omega, by go_num, allG_more f k hg.out gk⟩
        case measure => simp [intOf]; omega
    · have : k = len := by omega
      subst this
      have g := hg.out
      clear hg
      go_wp2
      go_loop [5, 6] (fun t i => ∃ j : Nat, j ≤ k ∧ i = .int .i64 j ∧ t = .int .i64 (tot f j) ∧ tot f j ≤ 10000000000000) (fun _ i => k - (intOf i).toNat)
      case atStart => exact ⟨0, Nat.zero_le _, rfl, rfl, by simp [tot]⟩
      case round =>
        obtain ⟨j, hj, rfl, rfl, ht⟩ := hrel
        have t0 := tot_nonneg f k g j hj
        by_cases hlt : j < k
        · obtain ⟨b, off, rfl, hcell⟩ := hc j hlt
          have gk := allG_at f k j hlt g
          obtain ⟨f0, f1⟩ := (good_iff _).1 gk
          by_cases ho : 10000000000000 < tot f j + f j
          · go_wp2
            go_ret2
            exact ⟨by rw [(sum_over f k j g hlt ho).1, (sum_over f k j g hlt ho).2]; rfl, rfl⟩
          · go_wp2
            go_round
            case rel => exact ⟨j + 1, by omega, by go_num, rfl, by simp only [tot]; omega⟩
            case measure => simp [intOf]; omega
        · have : j = k := by omega
          subst this
          go_wp2
          go_ret2
          exact ⟨by rw [(sum_end f j g ht).1, (sum_end f j g ht).2]; rfl, rfl⟩

end Go.Proofs.Ytpnkgkchpoehcaa.Ce
