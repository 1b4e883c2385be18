/-
  What cover.Kind and its reference answer, as contracts: for every text.
-/
import Derived.Test.YtjidoificijcfaaDoorKMath
import Derived.Test.YtjidoificijcfaaDoorNRead
set_option linter.unusedSimpArgs false
namespace Go.Proofs.YtjidoificijcfaaDoor
open Go.RowKit

set_option maxHeartbeats 800000 in
theorem kind_any (s : ByteArray) (w : World) :
    Calls Tryd.prog 12 #[.string s] w fun e w' => e = .returned (.bool (kindB s.data.toList)) ∧ w' = w := by
  by_cases h3 : s.size = 3
  · have h3b : ((s.size : Int) != 3) = false := by simp [h3]
    have HK : Hid (kindB s.data.toList = Nu.allD s.data.toList) := by
      show (decide (s.data.toList.length = 3) && _) = _
      rw [← Lib.size_eq, h3]; exact Bool.true_and _
    go_enter Tryd.func12, Tryd.ntmps12
    go_wp2
    go_loop [9] (fun i => ∃ k : Nat, k ≤ s.size ∧ i = .int .i64 k ∧ Nu.allD (s.data.toList.take k) = true) (fun i => s.size - (intOf i).toNat)
    case atStart => exact ⟨0, Nat.zero_le _, rfl, rfl⟩
    case round =>
      obtain ⟨k, hk, rfl, ha⟩ := hrel
      have HA : Hid (Nu.allD (s.data.toList.take k) = true) := ha
      clear ha
      by_cases hlt : k < s.size
      · have HS : Hid (Nu.allD (s.data.toList.take (k + 1)) = Nu.isD s[k]) := by
          show Nu.allD (s.data.toList.take (k + 1)) = Nu.isD s[k]
          rw [Nu.take_snoc s k hlt, Nu.allD_snoc, HA.out]; simp
        by_cases h1 : (s[k].toNat : Int) < 48
        · have HF : Hid (Nu.allD s.data.toList = false) := by
            cases e : Nu.allD s.data.toList
            · rfl
            · have := (Nu.isD_iff _).1 (Nu.isD_mem s k hlt e); omega
          go_wp2
          go_ret
          exact ⟨by rw [HK.out, HF.out]; rfl, rfl⟩
        · by_cases h2 : 57 < (s[k].toNat : Int)
          · have HF : Hid (Nu.allD s.data.toList = false) := by
              cases e : Nu.allD s.data.toList
              · rfl
              · have := (Nu.isD_iff _).1 (Nu.isD_mem s k hlt e); omega
            go_wp2
            go_ret
            exact ⟨by rw [HK.out, HF.out]; rfl, rfl⟩
          · go_wp2
            go_round
            case rel => exact ⟨k + 1, by omega, by go_num, by rw [HS.out, Nu.isD_iff]; omega⟩
            case measure => simp [intOf]; omega
      · go_wp2
        go_ret
        exact ⟨by rw [HK.out, ← Nu.take_all s k (by omega), HA.out]; rfl, rfl⟩
  · have h3b : ((s.size : Int) != 3) = true := by simp; omega
    have HK : Hid (kindB s.data.toList = false) := by
      show (decide (s.data.toList.length = 3) && _) = _
      rw [← Lib.size_eq, decide_eq_false h3]; rfl
    clear h3
    go_enter Tryd.func12, Tryd.ntmps12
    go_wp2
    go_ret
    exact ⟨by rw [HK.out]; rfl, rfl⟩

set_option maxHeartbeats 800000 in
theorem rkind_any (s : ByteArray) (w : World) :
    Calls Tryd.prog 13 #[.string s] w fun e w' => e = .returned (.bool (kindB s.data.toList)) ∧ w' = w := by
  by_cases h3 : s.size = 3
  · have h3b : ((s.size : Int) != 3) = false := by simp [h3]
    have HK : Hid (kindB s.data.toList = Nu.allD s.data.toList) := by
      show (decide (s.data.toList.length = 3) && _) = _
      rw [← Lib.size_eq, h3]; exact Bool.true_and _
    go_enter Tryd.func13, Tryd.ntmps13
    go_wp2
    go_loop [3] (fun i => ∃ k : Nat, k ≤ s.size ∧ i = .int .i64 k ∧ Nu.allD (s.data.toList.take k) = true) (fun i => s.size - (intOf i).toNat)
    case atStart => exact ⟨0, Nat.zero_le _, rfl, rfl⟩
    case round =>
      obtain ⟨k, hk, rfl, ha⟩ := hrel
      have HA : Hid (Nu.allD (s.data.toList.take k) = true) := ha
      clear ha
      by_cases hlt : k < s.size
      · have HS : Hid (Nu.allD (s.data.toList.take (k + 1)) = Nu.isD s[k]) := by
          show Nu.allD (s.data.toList.take (k + 1)) = Nu.isD s[k]
          rw [Nu.take_snoc s k hlt, Nu.allD_snoc, HA.out]; simp
        by_cases h1 : (s[k].toNat : Int) < 48
        · have HF : Hid (Nu.allD s.data.toList = false) := by
            cases e : Nu.allD s.data.toList
            · rfl
            · have := (Nu.isD_iff _).1 (Nu.isD_mem s k hlt e); omega
          go_wp2
          go_ret
          exact ⟨by rw [HK.out, HF.out]; rfl, rfl⟩
        · by_cases h2 : 57 < (s[k].toNat : Int)
          · have HF : Hid (Nu.allD s.data.toList = false) := by
              cases e : Nu.allD s.data.toList
              · rfl
              · have := (Nu.isD_iff _).1 (Nu.isD_mem s k hlt e); omega
            go_wp2
            go_ret
            exact ⟨by rw [HK.out, HF.out]; rfl, rfl⟩
          · go_wp2
            go_round
            case rel => exact ⟨k + 1, by omega, by go_num, by rw [HS.out, Nu.isD_iff]; omega⟩
            case measure => simp [intOf]; omega
      · go_wp2
        go_ret
        exact ⟨by rw [HK.out, ← Nu.take_all s k (by omega), HA.out]; rfl, rfl⟩
  · have h3b : ((s.size : Int) != 3) = true := by simp; omega
    have HK : Hid (kindB s.data.toList = false) := by
      show (decide (s.data.toList.length = 3) && _) = _
      rw [← Lib.size_eq, decide_eq_false h3]; rfl
    clear h3
    go_enter Tryd.func13, Tryd.ntmps13
    go_wp2
    go_ret
    exact ⟨by rw [HK.out]; rfl, rfl⟩
end Go.Proofs.YtjidoificijcfaaDoor
