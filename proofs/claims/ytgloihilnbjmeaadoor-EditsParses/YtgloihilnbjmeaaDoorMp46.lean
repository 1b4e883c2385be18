/-
  Texts put together (merge.py): NRefNum, NRefRead.
-/
import Derived.Test.YtgloihilnbjmeaaDoorMp25
import Derived.Test.YtgloihilnbjmeaaDoorMp45
/-
  What the reference's number answers, as a contract: of a text of at most 18 letters.
-/
section
namespace Go.Proofs.YtgloihilnbjmeaaDoor.Nu
open Go.RowKit

def rnum (l : List UInt8) : Int := if (!l.isEmpty && allD l) = true then (numL l : Int) else -1
theorem rnum_some (l : List UInt8) (h1 : l ≠ []) (h2 : allD l = true) : rnum l = numL l := by
  unfold rnum
  cases l with
  | nil => exact absurd rfl h1
  | cons a t => simp [h2]
theorem rnum_none (l : List UInt8) (h : l = [] ∨ allD l = false) : rnum l = -1 := by
  unfold rnum
  rcases h with h | h <;> simp [h]

set_option maxHeartbeats 1000000 in
theorem rnumber_any (s : ByteArray) (w : World) (hs : s.size ≤ 18) :
    Calls Tryd.prog 64 #[.string s] w fun e w' => e = .returned (.int .i64 (rnum s.data.toList)) ∧ w' = w := by
  have el : s.data.toList.length = s.size := (Lib.size_eq s).symm
  have HT := Lib.hid (Lib.toList_data s)
  have HL := Lib.hid el
  clear el
  by_cases h0 : s.toList = []
  · have H1 := Lib.hid (rnum_none s.data.toList (Or.inl (by rw [← HT.out]; exact h0)))
    go_enter Tryd.func64, Tryd.ntmps64
    go_wp2
    go_ret
    exact ⟨by rw [H1.out]; rfl, rfl⟩
  · have hie : s.toList.isEmpty = false := by cases e : s.toList with
      | nil => exact absurd e h0
      | cons a t => rfl
    have HN := Lib.hid (show s.data.toList ≠ [] by rw [← HT.out]; exact h0)
    go_enter Tryd.func64, Tryd.ntmps64
    go_wp2
    go_loop [3, 4] (fun n i => ∃ k : Nat, k ≤ s.size ∧ i = .int .i64 k ∧ n = .int .i64 (numL (s.data.toList.take k)) ∧ allD (s.data.toList.take k) = true) (fun _ i => s.size - (intOf i).toNat)
    case atStart => exact ⟨0, Nat.zero_le _, rfl, rfl, rfl⟩
    case round =>
      obtain ⟨k, hk, rfl, rfl, ha⟩ := hrel
      have HA := Lib.hid ha
      clear ha
      by_cases hlt : k < s.size
      · have HS : Hid (numL (s.data.toList.take (k + 1)) = numL (s.data.toList.take k) * 10 + (s[k].toNat - 48)) := by
          show numL (s.data.toList.take (k + 1)) = _
          rw [take_snoc s k hlt, numL_snoc]
        have HD : Hid (allD (s.data.toList.take (k + 1)) = isD s[k]) := by
          show allD (s.data.toList.take (k + 1)) = isD s[k]
          rw [take_snoc s k hlt, allD_snoc, HA.out]; simp
        have hb : numL (s.data.toList.take k) < 100000000000000000 := by
          have h1 := numL_lt (s.data.toList.take k) HA.out
          have h2 : (s.data.toList.take k).length ≤ 17 := by simp; omega
          have h3 : 10 ^ (s.data.toList.take k).length ≤ 10 ^ 17 := Nat.pow_le_pow_right (by omega) h2
          have h4 : (10 : Nat) ^ 17 = 100000000000000000 := rfl
          omega
        by_cases h1 : (s[k].toNat : Int) < 48
        · have HF : Hid (rnum s.data.toList = -1) := by
            refine rnum_none _ (Or.inr ?_)
            cases e : allD s.data.toList
            · rfl
            · have := (isD_iff _).1 (isD_mem s k hlt e); omega
          go_wp2
          go_ret
          exact ⟨by rw [HF.out]; rfl, rfl⟩
        · by_cases h2 : 57 < (s[k].toNat : Int)
          · have HF : Hid (rnum s.data.toList = -1) := by
              refine rnum_none _ (Or.inr ?_)
              cases e : allD s.data.toList
              · rfl
              · have := (isD_iff _).1 (isD_mem s k hlt e); omega
            go_wp2
            go_ret
            exact ⟨by rw [HF.out]; rfl, rfl⟩
          · go_wp2
            go_round
            case rel => exact ⟨k + 1, by omega, by go_num, by rw [HS.out]; go_num, by rw [HD.out, isD_iff]; omega⟩
            case measure => simp [intOf]; omega
      · have HF : Hid (rnum s.data.toList = numL (s.data.toList.take k)) := by
          show rnum s.data.toList = _
          rw [take_all s k (by omega)]
          exact rnum_some _ HN.out (by rw [← take_all s k (by omega)]; exact HA.out)
        go_wp2
        go_ret
        exact ⟨by rw [HF.out]; rfl, rfl⟩
end Go.Proofs.YtgloihilnbjmeaaDoor.Nu
end

/-
  What the reference's ReadInt answers, as a contract: of every text and every int.
-/
section
namespace Go.Proofs.YtgloihilnbjmeaaDoor.Nu
open Go.RowKit Go.Sort Go.Lib

theorem canon_num (l : List UInt8) : (decDigits (numL l) == l) = canon l := by
  rw [Bool.eq_iff_iff, beq_iff_eq]
  exact canon_iff l
theorem itoa_num (l : List UInt8) : Lib.itoa (numL l : Int) = decDigits (numL l) := Lib.itoa_nonneg _

set_option maxHeartbeats 1000000 in
theorem rreadInt_any (s : ByteArray) (most : Int) (w : World) :
    Calls Tryd.prog 52 #[.string s, .int .i64 most] w fun e w' => e = .returned (.tuple #[.int .i64 (riV s.data.toList most), .int .i64 (riE s.data.toList most)]) ∧ Grw w w' := by
  have el : s.data.toList.length = s.size := (Lib.size_eq s).symm
  have HT := Lib.hid (Lib.toList_data s)
  have hw : Grw w w := grw_refl w
  by_cases hlen : (s.size : Int) ≤ most ∧ s.size ≤ 18
  · have HR := Lib.hid (ri_short s.data.toList most (by rw [el]; exact hlen))
    obtain ⟨hl1, hl2⟩ := hlen
    have d1 : decide (18 < (s.size : Int)) = false := by rw [decide_eq_false_iff_not]; omega
    have d2 : decide (most < (s.size : Int)) = false := by rw [decide_eq_false_iff_not]; omega
    by_cases hok : s.data.toList = [] ∨ allD s.data.toList = false
    · have hv := rnum_none _ hok
      obtain ⟨e1, e2⟩ := ri_none s.data.toList most (by
        rcases hok with h | h
        · rw [h]; exact ri_nil _
        · exact ri_notD _ _ h)
      have H1 := Lib.hid e1
      have H2 := Lib.hid e2
      clear e1 e2 hok el
      go_enter Tryd.func52, Tryd.ntmps52
      go_wp2_with (first | (go_at_call 64; refine (rnumber_any s _ hl2).mono ?_; rintro e w' ⟨rfl, rfl⟩))
      go_ret2
      exact ⟨by rw [H1.out, H2.out]; rfl, hw⟩
    · have hne : s.data.toList ≠ [] := fun e => hok (Or.inl e)
      have ha : allD s.data.toList = true := by
        cases e : allD s.data.toList
        · exact absurd (Or.inr e) hok
        · rfl
      have hv := rnum_some _ hne ha
      have hb : numL s.data.toList < 1000000000000000000 := by
        have h1 := numL_lt _ ha
        have h2 : 10 ^ s.data.toList.length ≤ 10 ^ 18 := Nat.pow_le_pow_right (by omega) (by omega)
        have h3 : (10 : Nat) ^ 18 = 1000000000000000000 := rfl
        omega
      have HC := Lib.hid (canon_num s.data.toList)
      have HL := Lib.hid (itoa_num s.data.toList)
      have dn : decide ((numL s.data.toList : Int) < 0) = false := by rw [decide_eq_false_iff_not]; omega
      clear hok el hne ha
      cases hc : canon s.data.toList
      · obtain ⟨e1, e2⟩ := ri_none s.data.toList most (by rw [HR.out]; exact hc)
        have H1 := Lib.hid e1
        have H2 := Lib.hid e2
        have hq : (Lib.itoa (numL s.data.toList : Int) == s.toList) = false := by rw [HL.out, HT.out, HC.out]; exact hc
        clear e1 e2 hc
        go_enter Tryd.func52, Tryd.ntmps52
        go_wp2_with (first | (go_at_call 64; refine (rnumber_any s _ hl2).mono ?_; rintro e w' ⟨rfl, rfl⟩) | (go_at_call 23; refine (rint_any _ (by omega) (by omega) _).mono ?_; rintro e w1 ⟨rfl, g1⟩; replace hw := grw_trans hw g1; clear g1))
        go_ret2
        exact ⟨by rw [H1.out, H2.out]; rfl, hw⟩
      · obtain ⟨e1, e2⟩ := ri_some s.data.toList most (by rw [HR.out]; exact hc)
        have H1 := Lib.hid e1
        have H2 := Lib.hid e2
        have hq : (Lib.itoa (numL s.data.toList : Int) == s.toList) = true := by rw [HL.out, HT.out, HC.out]; exact hc
        clear e1 e2 hc
        go_enter Tryd.func52, Tryd.ntmps52
        go_wp2_with (first | (go_at_call 64; refine (rnumber_any s _ hl2).mono ?_; rintro e w' ⟨rfl, rfl⟩) | (go_at_call 23; refine (rint_any _ (by omega) (by omega) _).mono ?_; rintro e w1 ⟨rfl, g1⟩; replace hw := grw_trans hw g1; clear g1))
        go_ret2
        exact ⟨by rw [H1.out, H2.out]; rfl, hw⟩
  · obtain ⟨e1, e2⟩ := ri_none _ _ (ri_long s.data.toList most (by rw [el]; exact hlen))
    have H1 := Lib.hid e1
    have H2 := Lib.hid e2
    clear e1 e2 el
    by_cases h18 : 18 < (s.size : Int)
    · clear hlen
      go_enter Tryd.func52, Tryd.ntmps52
      go_wp2
      go_ret2
      exact ⟨by rw [H1.out, H2.out]; rfl, hw⟩
    · have hm : most < (s.size : Int) := by omega
      clear hlen
      go_enter Tryd.func52, Tryd.ntmps52
      go_wp2
      go_ret2
      exact ⟨by rw [H1.out, H2.out]; rfl, hw⟩
end Go.Proofs.YtgloihilnbjmeaaDoor.Nu
end
