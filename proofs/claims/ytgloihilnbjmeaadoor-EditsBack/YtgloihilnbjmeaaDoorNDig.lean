/-
  What digits.allDigits and digits.number answer, as contracts.
-/
import Derived.Test.YtgloihilnbjmeaaDoorProg
import Derived.Test.YtgloihilnbjmeaaDoorNMath
import Derived.WalkKit
import Derived.WalkMore
namespace Go.Proofs.YtgloihilnbjmeaaDoor.Nu
open Go.RowKit

theorem ret_int {k : IntKind} {a b : Int} (h : a = b) : Ending.returned (.int k a) = .returned (.int k b) := by rw [h]
theorem take_snoc (s : ByteArray) (k : Nat) (h : k < s.size) : s.data.toList.take (k + 1) = s.data.toList.take k ++ [s[k]] := by
  rw [List.take_succ_eq_append_getElem (by simpa using h)]; rfl
theorem take_all (s : ByteArray) (k : Nat) (h : s.size ≤ k) : s.data.toList.take k = s.data.toList := List.take_of_length_le (by simpa using h)
theorem isD_mem (s : ByteArray) (k : Nat) (h : k < s.size) (hd : allD s.data.toList = true) : isD s[k] = true := by
  unfold allD at hd
  rw [List.all_eq_true] at hd
  refine hd _ ?_
  have : s[k] = s.data.toList[k]'(by simpa using h) := by rfl
  rw [this]
  exact List.getElem_mem _

set_option maxHeartbeats 400000 in
theorem allD_any (s : ByteArray) (w : World) (hs : s.size ≤ maxLen) :
    Calls Tryd.prog 81 #[.string s] w fun e w' => e = .returned (.bool (allD s.data.toList)) ∧ w' = w := by
  unfold maxLen at hs
  go_enter Tryd.func81, Tryd.ntmps81
  go_wp2
  go_loop [6] (fun i => ∃ k : Nat, k ≤ s.size ∧ i = .int .i64 k ∧ allD (s.data.toList.take k) = true) (fun i => s.size - (intOf i).toNat)
  case atStart => exact ⟨0, Nat.zero_le _, rfl, rfl⟩
  case round =>
    obtain ⟨k, hk, rfl, ha⟩ := hrel
    have HA : Hid (allD (s.data.toList.take k) = true) := ha
    clear ha
    by_cases hlt : k < s.size
    · have HS : Hid (allD (s.data.toList.take (k + 1)) = isD s[k]) := by
        show allD (s.data.toList.take (k + 1)) = isD s[k]
        rw [take_snoc s k hlt, allD_snoc, HA.out]; simp
      by_cases h1 : (s[k].toNat : Int) < 48
      · have HF : Hid (allD s.data.toList = false) := by
          cases e : allD s.data.toList
          · rfl
          · have := (isD_iff _).1 (isD_mem s k hlt e); omega
        go_wp2
        go_ret
        exact ⟨by rw [HF.out]; rfl, rfl⟩
      · by_cases h2 : 57 < (s[k].toNat : Int)
        · have HF : Hid (allD s.data.toList = false) := by
            cases e : allD s.data.toList
            · rfl
            · have := (isD_iff _).1 (isD_mem s k hlt e); omega
          go_wp2
          go_ret
          exact ⟨by rw [HF.out]; rfl, rfl⟩
        · go_wp2
          go_round
          case rel => exact ⟨k + 1, by omega, by go_num, by rw [HS.out, isD_iff]; omega⟩
          case measure => simp [intOf]; omega
    · go_wp2
      go_ret
      exact ⟨by rw [← take_all s k (by omega), HA.out]; rfl, rfl⟩

set_option maxHeartbeats 400000 in
theorem number_any (s : ByteArray) (w : World) (hs : s.size ≤ 18) (hd : allD s.data.toList = true) :
    Calls Tryd.prog 82 #[.string s] w fun e w' => e = .returned (.int .i64 (numL s.data.toList)) ∧ w' = w := by
  have HD : Hid (allD s.data.toList = true) := hd
  clear hd
  go_enter Tryd.func82, Tryd.ntmps82
  go_wp2
  go_loop [3, 7] (fun n i => ∃ k : Nat, k ≤ s.size ∧ i = .int .i64 k ∧ n = .int .i64 (numL (s.data.toList.take k))) (fun _ i => s.size - (intOf i).toNat)
  case atStart => exact ⟨0, Nat.zero_le _, rfl, rfl⟩
  case round =>
    obtain ⟨k, hk, rfl, rfl⟩ := hrel
    by_cases hlt : k < s.size
    · have hdk := (isD_iff _).1 (isD_mem s k hlt HD.out)
      have HS : Hid (numL (s.data.toList.take (k + 1)) = numL (s.data.toList.take k) * 10 + (s[k].toNat - 48)) := by
        show numL (s.data.toList.take (k + 1)) = _
        rw [take_snoc s k hlt, numL_snoc]
      have hb : numL (s.data.toList.take k) < 100000000000000000 := by
        have h1 := numL_lt (s.data.toList.take k) (by
          have := HD.out
          unfold allD at this ⊢
          rw [List.all_eq_true] at this ⊢
          exact fun x hx => this x (List.mem_of_mem_take hx))
        have h2 : (s.data.toList.take k).length ≤ 17 := by simp; omega
        have h3 : 10 ^ (s.data.toList.take k).length ≤ 10 ^ 17 := Nat.pow_le_pow_right (by omega) h2
        have h4 : (10 : Nat) ^ 17 = 100000000000000000 := rfl
        omega
      go_wp2
      go_round
      case rel => exact ⟨k + 1, by omega, by go_num, by rw [HS.out]; go_num⟩
      case measure => simp [intOf]; omega
    · go_wp2
      go_ret
      exact ⟨ret_int (by rw [take_all s k (by omega)]), rfl⟩
end Go.Proofs.YtgloihilnbjmeaaDoor.Nu
