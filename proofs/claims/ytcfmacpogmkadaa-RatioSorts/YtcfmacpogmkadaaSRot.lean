/-
  What slices.rotateCmpFunc leaves, as a contract: from a world of the sort's to a world of the sort's.
-/
import Derived.Test.YtcfmacpogmkadaaSSwap
namespace Go.Proofs.Ytcfmacpogmkadaa
open Go.Shelf Go.RowKit Go.Lib Go.Sort
variable {α : Type} [Inhabited α]

set_option maxHeartbeats 1000000 in
set_option maxRecDepth 1000000 in
theorem rotate_s (enc : α → Value) (g : Nat) (cb : Array Value) (blk off cap a m b : Nat) (d0 d : Array α) (w0 w : World)
    (R : Row1 enc w0 blk off d0) (hs : d0.size = d.size) (S : SW enc w0 blk off d w) (ham : a < m) (hmb : m < b) (hb : b ≤ d.size) (hsz : d.size < 1152921504606846976) :
    Calls Try.prog 45 #[.slice (some ⟨blk, off, none⟩) d.size cap, .int .i64 a, .int .i64 m, .int .i64 b, .func (.func g) #[] cb] w fun e w' => e = .returned (.tuple #[]) ∧ ∃ d', PermIn a b d d' ∧ (∀ p, d'[p]! = d[rotIdx a m b p]!) ∧ SW enc w0 blk off d' w' := by
  have mixed : Try.prog.follows .mixedOrders = true := by kernel_rfl
  have HR : Aside (Row1 enc w0 blk off d0) := R
  have S0 : Aside (SW enc w0 blk off d w) := S
  clear S R
  go_enter Try.func45, Try.ntmps45
  go_wp2
  go_loopg [10, 11] (b - a) (fun k vi vj wr => ∃ (i j : Nat) (dk : Array α), vi = .int .i64 i ∧ vj = .int .i64 j ∧ 1 ≤ i ∧ 1 ≤ j ∧ a + i ≤ m ∧ m + j ≤ b ∧ i + j ≤ k ∧ dk.size = d.size ∧ Aside (PermIn a b d dk) ∧ Aside (∀ p, dk[rotIdx (m - i) m (m + j) p]! = d[rotIdx a m b p]!) ∧ Aside (SW enc w0 blk off dk wr))
  case atStart => exact ⟨m - a, b - m, d, by congr 1; omega, by congr 1; omega, by omega, by omega, by omega, by omega, by omega, rfl, permIn_refl _ _ _, fun p => by rw [show m - (m - a) = a by omega, show m + (b - m) = b by omega], S0⟩
  case round =>
    clear S0
    obtain ⟨i, j, dk, rfl, rfl, hi, hj, hai, hjb, hk, hsk, P1, Q1, S1⟩ := hrel
    have zi : (m : Int) - (i : Int) = ((m - i : Nat) : Int) := by omega
    rcases Nat.lt_trichotomy i j with c | c | c
    · have h1 : ((i : Int) != (j : Int)) = true := by rw [bne_iff_ne]; omega
      have h2 : ¬ (j : Int) < (i : Int) := by omega
      have zj : (m : Int) + (j : Int) - (i : Int) = ((m + j - i : Nat) : Int) := by omega
      have hc := swapRange_s enc g cb blk off cap (m - i) (m + j - i) i d0 dk w0 wr HR.out (by omega) S1.out (by omega) (by omega) (by omega)
      rw [hsk] at hc
      clear S1
      go_wp2_with fail
      refine hc.mono ?_
      rintro e w' ⟨rfl, S2⟩
      have S3 : Aside (SW enc w0 blk off (swr dk (m - i) (m + j - i) i) w') := S2
      clear S2 hc
      go_wp2
      go_roundg (gk - 1)
      case measure => omega
      case rel =>
        refine ⟨i, j - i, swr dk (m - i) (m + j - i) i, rfl, by first | go_num | (congr 1; omega), hi, by omega, hai, by omega, by omega, by rw [size_swr]; exact hsk, ?_, ?_, S3⟩
        · exact permIn_trans _ _ _ _ _ P1.out (swr_perm dk _ _ _ a b (by omega) (by omega) (by omega) (by omega))
        · show ∀ p, _
          intro p
          rw [swr_get dk _ _ _ (by omega) (by omega), rot_step2 m i j p c (by omega)]
          exact Q1.out p
    · obtain rfl := c
      have h1 : ((i : Int) != (i : Int)) = false := by simp
      have hc := swapRange_s enc g cb blk off cap (m - i) m i d0 dk w0 wr HR.out (by omega) S1.out (by omega) (by omega) (by omega)
      rw [hsk] at hc
      clear S1
      go_wp2_with fail
      refine hc.mono ?_
      rintro e w' ⟨rfl, S2⟩
      have S3 : Aside (SW enc w0 blk off (swr dk (m - i) m i) w') := S2
      clear S2 hc
      go_wp2
      go_end0
      refine ⟨rfl, swr dk (m - i) m i, ?_, ?_, S3.out⟩
      · exact permIn_trans _ _ _ _ _ P1.out (swr_perm dk _ _ _ a b (by omega) (by omega) (by omega) (by omega))
      · intro p
        rw [swr_get dk _ _ _ (by omega) (by omega), rot_end m i p (by omega)]
        exact Q1.out p
    · have h1 : ((i : Int) != (j : Int)) = true := by rw [bne_iff_ne]; omega
      have h2 : (j : Int) < (i : Int) := by omega
      have hc := swapRange_s enc g cb blk off cap (m - i) m j d0 dk w0 wr HR.out (by omega) S1.out (by omega) (by omega) (by omega)
      rw [hsk] at hc
      clear S1
      go_wp2_with fail
      refine hc.mono ?_
      rintro e w' ⟨rfl, S2⟩
      have S3 : Aside (SW enc w0 blk off (swr dk (m - i) m j) w') := S2
      clear S2 hc
      go_wp2
      go_roundg (gk - 1)
      case measure => omega
      case rel =>
        refine ⟨i - j, j, swr dk (m - i) m j, by first | go_num | (congr 1; omega), rfl, by omega, hj, by omega, hjb, by omega, by rw [size_swr]; exact hsk, ?_, ?_, S3⟩
        · exact permIn_trans _ _ _ _ _ P1.out (swr_perm dk _ _ _ a b (by omega) (by omega) (by omega) (by omega))
        · show ∀ p, _
          intro p
          rw [swr_get dk _ _ _ (by omega) (by omega), rot_step1 m i j p c (by omega)]
          exact Q1.out p
end Go.Proofs.Ytcfmacpogmkadaa
