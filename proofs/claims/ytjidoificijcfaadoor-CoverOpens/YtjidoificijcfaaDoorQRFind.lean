/-
  What the reference's Find answers, as a contract: for every text.
-/
import Derived.Test.YtjidoificijcfaaDoorQHead
import Derived.Deep.RegionWith
set_option linter.unusedSimpArgs false
namespace Go.Proofs.YtjidoificijcfaaDoor
open Go.RowKit
attribute [local go_sem ↓] Go.wp_at_zero Go.wp_at_succ

set_option maxHeartbeats 1000000 in
theorem rfind_any (t : ByteArray) (w : World) (hs : t.size ≤ maxLen) :
    Calls Tryd.prog 34 #[.string t] w fun x w' => x = .returned (.tuple #[fdV (findO t.data.toList), .int .i64 (fdE (findO t.data.toList))]) ∧ Below w.heap.size w w' := by
  unfold maxLen at hs
  have HB := Lib.hid fun o1 => below_alloc w o1
  by_cases h6 : t.size < 6
  · have HN := Lib.hid (find_short t.data.toList (by rw [← Lib.size_eq]; exact h6))
    have h6' : (t.size : Int) < 6 := by omega
    clear h6
    go_enter Tryd.func34, Tryd.ntmps34
    go_wp2
    refine bodyPost_ret (v := .tuple #[.agg #[.int .u8 0, .int .u8 0, .int .u8 0], .int .i64 5]) (by simp [results, Tryd.results34, go_sem]) rfl ?_
    exact ⟨by rw [HN.out]; rfl, HB.out _⟩
  have h6' : ¬ (t.size : Int) < 6 := by omega
  have h3 : 3 < t.size := by omega
  have h4 : 4 < t.size := by omega
  have h5 : 5 < t.size := by omega
  have i3 : (3 : Int) < (t.size : Int) := by omega
  have i4 : (4 : Int) < (t.size : Int) := by omega
  have i5 : (5 : Int) < (t.size : Int) := by omega
  have i6 : (6 : Int) ≤ (t.size : Int) := by omega
  obtain ⟨f1, f2, f3, f4⟩ := find_at t h3 h4 h5
  have HH := Lib.hid fun W => rhead_any t[3] t[4] t[5] W
  have hne : ((mk (headL t[3] t[4] t[5])).toList == (t.extract 0 6).toList) = Lib.hasPrefix t.data.toList [73, 83, 65] := by
    rw [Lib.toList_data, Lib.toList_data, mk_list, Bool.eq_iff_iff, ← f4, beq_iff_eq]
    exact eq_comm
  have HB4 := Lib.hid fun o1 o2 o3 o4 => below_trans (below_trans (below_trans (below_alloc w o1) (below_alloc _ o2)) (below_alloc _ o3)) (below_alloc _ o4)
  have HB4d := Lib.hid fun o1 o2 o3 o4 => Below.drew (Below.drew (HB4.out o1 o2 o3 o4))
  have HB5 := Lib.hid fun o1 o2 o3 o4 o5 => below_trans (HB4.out o1 o2 o3 o4) (below_alloc _ o5)
  have HB5d := Lib.hid fun o1 o2 o3 o4 o5 => Below.drew (Below.drew (HB5.out o1 o2 o3 o4 o5))
  generalize mk (headL t[3] t[4] t[5]) = M at *
  generalize hX : t.extract 0 6 = X at hne
  have HG := Lib.hid fun W => rgood_ex t[3] t[4] t[5] W
  clear h6 f4
  cases hp : Lib.hasPrefix t.data.toList [73, 83, 65]
  · have HN := Lib.hid (f1 hp)
    rw [hp] at hne
    clear f1 f2 f3 hp
    go_enter Tryd.func34, Tryd.ntmps34
    go_wp2
    go_region
    go_wp2_with fail
    go_region_with (first | (go_at_call 30; refine (HH.out _).mono ?_; rintro x w1 ⟨rfl, rfl⟩) | (go_at_call 27; refine (HG.out _).mono ?_; rintro x w1 ⟨rfl, rfl⟩))
    all_goals
      go_wp2
      refine bodyPost_ret (v := .tuple #[.agg #[.int .u8 0, .int .u8 0, .int .u8 0], .int .i64 5]) (by simp [results, Tryd.results34, go_sem]) rfl ?_
      exact ⟨by rw [HN.out]; rfl, HB4d.out _ _ _ _⟩
  rw [hp] at hne
  cases hg : goodB t[3] t[4] t[5]
  · have HN := Lib.hid (f2 hg)
    rw [hg] at HG
    clear f1 f2 f3 hp hg
    go_enter Tryd.func34, Tryd.ntmps34
    go_wp2
    go_region
    go_wp2_with fail
    go_region_with (first | (go_at_call 30; refine (HH.out _).mono ?_; rintro x w1 ⟨rfl, rfl⟩) | (go_at_call 27; refine (HG.out _).mono ?_; rintro x w1 ⟨rfl, rfl⟩))
    all_goals
      go_wp2
      refine bodyPost_ret (v := .tuple #[.agg #[.int .u8 0, .int .u8 0, .int .u8 0], .int .i64 5]) (by simp [results, Tryd.results34, go_sem]) rfl ?_
      exact ⟨by rw [HN.out]; rfl, HB5d.out _ _ _ _ _⟩
  · have HN := Lib.hid (f3 hp hg)
    rw [hg] at HG
    clear f1 f2 f3 hp hg
    go_enter Tryd.func34, Tryd.ntmps34
    go_wp2
    go_region
    go_wp2_with fail
    go_region_with (first | (go_at_call 30; refine (HH.out _).mono ?_; rintro x w1 ⟨rfl, rfl⟩) | (go_at_call 27; refine (HG.out _).mono ?_; rintro x w1 ⟨rfl, rfl⟩))
    all_goals
      go_wp2
      refine bodyPost_ret (v := .tuple #[dv t[3] t[4] t[5], .int .i64 0]) (by simp [results, Tryd.results34, go_sem]) rfl ?_
      exact ⟨by rw [HN.out]; rfl, HB5d.out _ _ _ _ _⟩
end Go.Proofs.YtjidoificijcfaaDoor
