/-
  What the reference's ReadInt answers, as a contract: of every text and every int.
-/
import Derived.Test.YtjidoificijcfaaDoorNRefInt
import Derived.Test.YtjidoificijcfaaDoorNRefNum
namespace Go.Proofs.YtjidoificijcfaaDoor.Nu
open Go.RowKit Go.Sort Go.Lib

theorem canon_num (l : List UInt8) : (decDigits (numL l) == l) = canon l := by
  rw [Bool.eq_iff_iff, beq_iff_eq]
  exact canon_iff l
theorem itoa_num (l : List UInt8) : Lib.itoa (numL l : Int) = decDigits (numL l) := Lib.itoa_nonneg _

set_option maxHeartbeats 1000000 in
theorem rreadInt_any (s : ByteArray) (most : Int) (w : World) :
    Calls Tryd.prog 36 #[.string s, .int .i64 most] w fun e w' => e = .returned (.tuple #[.int .i64 (riV s.data.toList most), .int .i64 (riE s.data.toList most)]) ∧ Grw w w' := by
  have el : s.data.toList.length = s.size := (Lib.size_eq s).symm
  have HT := Lib.hid (Lib.toList_data s)
  have hw : Grw w w := grw_refl w
  by_cases hlen : (s.size : Int) ≤ most ∧ s.size ≤ 18
  · have HR := Lib.hid (ri_short s.data.toList most (by rw [el]; exact hlen))
    obtain ⟨hl1, hl2⟩ := hlen
    have d1 : decide (18 < (s.size : Int)) = false := by rw [decide_eq_false_iff_not]; omega
    have d2 : decide (most < (s.size : Int)) = false := by rw [decide_eq_false_iff_not]; omega
    by_cases hok : s.data.toList = [] ∨ allD s.data.toList = false
    · have hv := rnum_none _ hok
      obtain ⟨e1, e2⟩ := ri_none s.data.toList most (by
        rcases hok with h | h
        · rw [h]; exact ri_nil _
        · exact ri_notD _ _ h)
      have H1 := Lib.hid e1
      have H2 := Lib.hid e2
      clear e1 e2 hok el
      go_enter Tryd.func36, Tryd.ntmps36
      go_wp2_with (first | (go_at_call 57; refine (rnumber_any s _ hl2).mono ?_; rintro e w' ⟨rfl, rfl⟩))
      go_ret2
      exact ⟨by rw [H1.out, H2.out]; rfl, hw⟩
    · have hne : s.data.toList ≠ [] := fun e => hok (Or.inl e)
      have ha : allD s.data.toList = true := by
        cases e : allD s.data.toList
        · exact absurd (Or.inr e) hok
        · rfl
      have hv := rnum_some _ hne ha
      have hb : numL s.data.toList < 1000000000000000000 := by
        have h1 := numL_lt _ ha
        have h2 : 10 ^ s.data.toList.length ≤ 10 ^ 18 := Nat.pow_le_pow_right (by omega) (by omega)
        have h3 : (10 : Nat) ^ 18 = 1000000000000000000 := rfl
        omega
      have HC := Lib.hid (canon_num s.data.toList)
      have HL := Lib.hid (itoa_num s.data.toList)
      have dn : decide ((numL s.data.toList : Int) < 0) = false := by rw [decide_eq_false_iff_not]; omega
      clear hok el hne ha
      cases hc : canon s.data.toList
      · obtain ⟨e1, e2⟩ := ri_none s.data.toList most (by rw [HR.out]; exact hc)
        have H1 := Lib.hid e1
        have H2 := Lib.hid e2
        have hq : (Lib.itoa (numL s.data.toList : Int) == s.toList) = false := by rw [HL.out, HT.out, HC.out]; exact hc
        clear e1 e2 hc
        go_enter Tryd.func36, Tryd.ntmps36
        go_wp2_with (first | (go_at_call 57; refine (rnumber_any s _ hl2).mono ?_; rintro e w' ⟨rfl, rfl⟩) | (go_at_call 50; refine (rint_any _ (by omega) (by omega) _).mono ?_; rintro e w1 ⟨rfl, g1⟩; replace hw := grw_trans hw g1; clear g1))
        go_ret2
        exact ⟨by rw [H1.out, H2.out]; rfl, hw⟩
      · obtain ⟨e1, e2⟩ := ri_some s.data.toList most (by rw [HR.out]; exact hc)
        have H1 := Lib.hid e1
        have H2 := Lib.hid e2
        have hq : (Lib.itoa (numL s.data.toList : Int) == s.toList) = true := by rw [HL.out, HT.out, HC.out]; exact hc
        clear e1 e2 hc
        go_enter Tryd.func36, Tryd.ntmps36
        go_wp2_with (first | (go_at_call 57; refine (rnumber_any s _ hl2).mono ?_; rintro e w' ⟨rfl, rfl⟩) | (go_at_call 50; refine (rint_any _ (by omega) (by omega) _).mono ?_; rintro e w1 ⟨rfl, g1⟩; replace hw := grw_trans hw g1; clear g1))
        go_ret2
        exact ⟨by rw [H1.out, H2.out]; rfl, hw⟩
  · obtain ⟨e1, e2⟩ := ri_none _ _ (ri_long s.data.toList most (by rw [el]; exact hlen))
    have H1 := Lib.hid e1
    have H2 := Lib.hid e2
    clear e1 e2 el
    by_cases h18 : 18 < (s.size : Int)
    · clear hlen
      go_enter Tryd.func36, Tryd.ntmps36
      go_wp2
      go_ret2
      exact ⟨by rw [H1.out, H2.out]; rfl, hw⟩
    · have hm : most < (s.size : Int) := by omega
      clear hlen
      go_enter Tryd.func36, Tryd.ntmps36
      go_wp2
      go_ret2
      exact ⟨by rw [H1.out, H2.out]; rfl, hw⟩
end Go.Proofs.YtjidoificijcfaaDoor.Nu
