/-
  What seg.Find answers, as a contract: for every text.
-/
import Derived.Test.YtjidoificijcfaaDoorQHead
set_option linter.unusedSimpArgs false
namespace Go.Proofs.YtjidoificijcfaaDoor
open Go.RowKit

set_option maxHeartbeats 1000000 in
theorem find_any (t : ByteArray) (w : World) (hs : t.size ≤ maxLen) :
    Calls Tryd.prog 31 #[.string t] w fun x w' => x = .returned (.tuple #[fdV (findO t.data.toList), .int .i64 (fdE (findO t.data.toList))]) ∧ Below w.heap.size w w' := by
  unfold maxLen at hs
  have HB := Lib.hid fun o1 => below_alloc w o1
  by_cases h6 : t.size < 6
  · have HN := Lib.hid (find_short t.data.toList (by rw [← Lib.size_eq]; exact h6))
    have h6' : (t.size : Int) < 6 := by omega
    clear h6
    go_enter Tryd.func31, Tryd.ntmps31
    go_wp2
    refine bodyPost_ret (v := .tuple #[.agg #[.int .u8 0, .int .u8 0, .int .u8 0], .int .i64 5]) (by simp [results, Tryd.results31, go_sem]) rfl ?_
    exact ⟨by rw [HN.out]; rfl, HB.out _⟩
  have h6' : ¬ (t.size : Int) < 6 := by omega
  have h3 : 3 < t.size := by omega
  have h4 : 4 < t.size := by omega
  have h5 : 5 < t.size := by omega
  obtain ⟨f1, f2, f3, -⟩ := find_at t h3 h4 h5
  have HP := Lib.hid (Tryd.strings_HasPrefix t ⟨#[73, 83, 65]⟩)
  have e65 : (⟨#[73, 83, 65]⟩ : ByteArray).data.toList = [73, 83, 65] := rfl
  rw [e65] at HP
  clear e65
  cases hp : Lib.hasPrefix t.data.toList [73, 83, 65]
  · have HN := Lib.hid (f1 hp)
    rw [hp] at HP
    clear f1 f2 f3 hp h6
    go_enter Tryd.func31, Tryd.ntmps31
    go_wp2_with (go_at_call 51; refine (HP.out _).mono ?_; rintro x w' ⟨rfl, rfl⟩)
    refine bodyPost_ret (v := .tuple #[.agg #[.int .u8 0, .int .u8 0, .int .u8 0], .int .i64 5]) (by simp [results, Tryd.results31, go_sem]) rfl ?_
    exact ⟨by rw [HN.out]; rfl, HB.out _⟩
  rw [hp] at HP
  have hS : (t.extract 3 6).size = 3 := by rw [ByteArray.size_extract]; omega
  generalize hSe : t.extract 3 6 = S at hS
  have k0 : 0 < S.size := by omega
  have k1 : 1 < S.size := by omega
  have k2 : 2 < S.size := by omega
  obtain ⟨s0, s1, s2⟩ := sub_at t h3 h4 h5 S hSe k0 k1 k2
  rw [← s0, ← s1, ← s2] at f2 f3
  have HG := Lib.hid fun W => good_ex S[0] S[1] S[2] W
  have HB3 := Lib.hid fun o1 o2 o3 => Below.drew (below_trans (below_trans (below_alloc w o1) (below_alloc _ o2)) (below_alloc _ o3))
  cases hg : goodB S[0] S[1] S[2]
  · have HN := Lib.hid (f2 hg)
    rw [hg] at HG
    clear f1 f2 f3 hp h6 s0 s1 s2 hg
    go_enter Tryd.func31, Tryd.ntmps31
    go_wp2_with (go_at_call 51; refine (HP.out _).mono ?_; rintro x w' ⟨rfl, rfl⟩)
    go_region
    go_wp2_with (go_at_call 20; refine (HG.out _).mono ?_; rintro x w1 ⟨rfl, rfl⟩)
    refine bodyPost_ret (v := .tuple #[.agg #[.int .u8 0, .int .u8 0, .int .u8 0], .int .i64 5]) (by simp [results, Tryd.results31, go_sem]) rfl ?_
    exact ⟨by rw [HN.out]; rfl, HB3.out _ _ _⟩
  · have HN := Lib.hid (f3 hp hg)
    rw [hg] at HG
    clear f1 f2 f3 hp h6 s0 s1 s2 hg
    go_enter Tryd.func31, Tryd.ntmps31
    go_wp2_with (go_at_call 51; refine (HP.out _).mono ?_; rintro x w' ⟨rfl, rfl⟩)
    go_region
    go_wp2_with (go_at_call 20; refine (HG.out _).mono ?_; rintro x w1 ⟨rfl, rfl⟩)
    refine bodyPost_ret (v := .tuple #[dv S[0] S[1] S[2], .int .i64 0]) (by simp [results, Tryd.results31, go_sem]) rfl ?_
    exact ⟨by rw [HN.out]; rfl, HB3.out _ _ _⟩
end Go.Proofs.YtjidoificijcfaaDoor
