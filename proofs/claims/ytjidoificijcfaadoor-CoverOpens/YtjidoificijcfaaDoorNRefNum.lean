/-
  What the reference's number answers, as a contract: of a text of at most 18 letters.
-/
import Derived.Test.YtjidoificijcfaaDoorNRead
namespace Go.Proofs.YtjidoificijcfaaDoor.Nu
open Go.RowKit

def rnum (l : List UInt8) : Int := if (!l.isEmpty && allD l) = true then (numL l : Int) else -1
theorem rnum_some (l : List UInt8) (h1 : l ≠ []) (h2 : allD l = true) : rnum l = numL l := by
  unfold rnum
  cases l with
  | nil => exact absurd rfl h1
  | cons a t => simp [h2]
theorem rnum_none (l : List UInt8) (h : l = [] ∨ allD l = false) : rnum l = -1 := by
  unfold rnum
  rcases h with h | h <;> simp [h]

set_option maxHeartbeats 1000000 in
theorem rnumber_any (s : ByteArray) (w : World) (hs : s.size ≤ 18) :
    Calls Tryd.prog 57 #[.string s] w fun e w' => e = .returned (.int .i64 (rnum s.data.toList)) ∧ w' = w := by
  have el : s.data.toList.length = s.size := (Lib.size_eq s).symm
  have HT := Lib.hid (Lib.toList_data s)
  have HL := Lib.hid el
  clear el
  by_cases h0 : s.toList = []
  · have H1 := Lib.hid (rnum_none s.data.toList (Or.inl (by rw [← HT.out]; exact h0)))
    go_enter Tryd.func57, Tryd.ntmps57
    go_wp2
    go_ret
    exact ⟨by rw [H1.out]; rfl, rfl⟩
  · have hie : s.toList.isEmpty = false := by cases e : s.toList with
      | nil => exact absurd e h0
      | cons a t => rfl
    have HN := Lib.hid (show s.data.toList ≠ [] by rw [← HT.out]; exact h0)
    go_enter Tryd.func57, Tryd.ntmps57
    go_wp2
    go_loop [3, 4] (fun n i => ∃ k : Nat, k ≤ s.size ∧ i = .int .i64 k ∧ n = .int .i64 (numL (s.data.toList.take k)) ∧ allD (s.data.toList.take k) = true) (fun _ i => s.size - (intOf i).toNat)
    case atStart => exact ⟨0, Nat.zero_le _, rfl, rfl, rfl⟩
    case round =>
      obtain ⟨k, hk, rfl, rfl, ha⟩ := hrel
      have HA := Lib.hid ha
      clear ha
      by_cases hlt : k < s.size
      · have HS : Hid (numL (s.data.toList.take (k + 1)) = numL (s.data.toList.take k) * 10 + (s[k].toNat - 48)) := by
          show numL (s.data.toList.take (k + 1)) = _
          rw [take_snoc s k hlt, numL_snoc]
        have HD : Hid (allD (s.data.toList.take (k + 1)) = isD s[k]) := by
          show allD (s.data.toList.take (k + 1)) = isD s[k]
          rw [take_snoc s k hlt, allD_snoc, HA.out]; simp
        have hb : numL (s.data.toList.take k) < 100000000000000000 := by
          have h1 := numL_lt (s.data.toList.take k) HA.out
          have h2 : (s.data.toList.take k).length ≤ 17 := by simp; omega
          have h3 : 10 ^ (s.data.toList.take k).length ≤ 10 ^ 17 := Nat.pow_le_pow_right (by omega) h2
          have h4 : (10 : Nat) ^ 17 = 100000000000000000 := rfl
          omega
        by_cases h1 : (s[k].toNat : Int) < 48
        · have HF : Hid (rnum s.data.toList = -1) := by
            refine rnum_none _ (Or.inr ?_)
            cases e : allD s.data.toList
            · rfl
            · have := (isD_iff _).1 (isD_mem s k hlt e); omega
          go_wp2
          go_ret
          exact ⟨by rw [HF.out]; rfl, rfl⟩
        · by_cases h2 : 57 < (s[k].toNat : Int)
          · have HF : Hid (rnum s.data.toList = -1) := by
              refine rnum_none _ (Or.inr ?_)
              cases e : allD s.data.toList
              · rfl
              · have := (isD_iff _).1 (isD_mem s k hlt e); omega
            go_wp2
            go_ret
            exact ⟨by rw [HF.out]; rfl, rfl⟩
          · go_wp2
            go_round
            case rel => exact ⟨k + 1, by omega, by go_num, by rw [HS.out]; go_num, by rw [HD.out, isD_iff]; omega⟩
            case measure => simp [intOf]; omega
      · have HF : Hid (rnum s.data.toList = numL (s.data.toList.take k)) := by
          show rnum s.data.toList = _
          rw [take_all s k (by omega)]
          exact rnum_some _ HN.out (by rw [← take_all s k (by omega)]; exact HA.out)
        go_wp2
        go_ret
        exact ⟨by rw [HF.out]; rfl, rfl⟩
end Go.Proofs.YtjidoificijcfaaDoor.Nu
