/-
  What digits.ReadMoney and digits.ReadSigned answer, as contracts: of every text.
-/
import Derived.Test.YtollmclcogmlbaaDoorNCut
namespace Go.Proofs.YtollmclcogmlbaaDoor
open Go.RowKit Go.Sort Go.Lib

theorem readInt_list (l : List UInt8) (most : Int) (w : World) (h : l.length ≤ maxLen) :
    Calls Tryd.prog 14 #[.string ⟨l.toArray⟩, .int .i64 most] w fun e w' => e = .returned (.tuple #[.int .i64 (riV l most), .int .i64 (riE l most)]) ∧ w' = w :=
  readInt_any ⟨l.toArray⟩ most w (by rw [Lib.size_eq]; exact h)
theorem readCents_list (l : List UInt8) (w : World) (h : l.length ≤ maxLen) :
    Calls Tryd.prog 26 #[.string ⟨l.toArray⟩] w fun e w' => e = .returned (.tuple #[.int .i64 (ctR l), .bool (ctOk l)]) ∧ w' = w :=
  readCents_any ⟨l.toArray⟩ w (by rw [Lib.size_eq]; exact h)
theorem behind_le (l : List UInt8) : (behind l).length ≤ l.length := by unfold behind; rw [List.length_drop]; omega
theorem mn_none (l : List UInt8) (h : mnOk l = false) : mnV l = 0 ∧ mnE l = 8 := by simp [mnV, mnE, h]
theorem mn_some (l : List UInt8) (h : mnOk l = true) : mnV l = (mnRaw l : Int) ∧ mnE l = 0 := by simp [mnV, mnE, h]
theorem ri12 (l : List UInt8) (h : riOk l 12 = true) : numL l < 1000000000000 := by
  have := ri_bd12 l
  rw [(ri_some l 12 h).1] at this
  omega

set_option maxHeartbeats 2000000 in
theorem readMoney_any (s : ByteArray) (w : World) (hs : s.size ≤ maxLen) :
    Calls Tryd.prog 16 #[.string s] w fun e w' => e = .returned (.tuple #[.int .i64 (mnV s.data.toList), .int .i64 (mnE s.data.toList)]) ∧ Grw w w' := by
  have el : s.data.toList.length = s.size := (Lib.size_eq s).symm
  have hw1 : (whole s.data.toList).length ≤ maxLen := by have := whole_le s.data.toList; omega
  have hw2 : (behind s.data.toList).length ≤ maxLen := by have := behind_le s.data.toList; omega
  have HW1 := Lib.hid hw1
  have HW2 := Lib.hid hw2
  have hw : Grw w w := grw_refl w
  clear el hw1 hw2
  cases hr : riOk (whole s.data.toList) 12
  · obtain ⟨v1, v2⟩ := ri_none _ _ hr
    obtain ⟨e1, e2⟩ := mn_none s.data.toList (by simp [mnOk, hr])
    have H1 := Lib.hid e1
    have H2 := Lib.hid e2
    clear e1 e2 hr
    go_enter Tryd.func16, Tryd.ntmps16
    go_wp2_with (first | (go_at_call 25; refine (cut_any s _ hs).mono ?_; rintro e w1 ⟨rfl, g1⟩; replace hw := grw_trans hw g1; clear g1) | (go_at_call 14; refine (readInt_list _ 12 _ HW1.out).mono ?_; rintro e w' ⟨rfl, rfl⟩))
    go_ret2
    exact ⟨by rw [H1.out, H2.out]; rfl, hw⟩
  · obtain ⟨v1, v2⟩ := ri_some _ _ hr
    have hN := ri12 _ hr
    cases hd : hasDot s.data.toList
    · by_cases hb : numL (whole s.data.toList) * 100 ≤ 10000000000000
      · obtain ⟨e1, e2⟩ := mn_some s.data.toList (by simp [mnOk, hr, hd, mnRaw, hb])
        have H1 : Hid (mnV s.data.toList = (numL (whole s.data.toList) : Int) * 100) := by
          show mnV s.data.toList = _
          rw [e1]; simp [mnRaw, hd]
        have H2 := Lib.hid e2
        clear e1 e2 hr
        go_enter Tryd.func16, Tryd.ntmps16
        go_wp2_with (first | (go_at_call 25; refine (cut_any s _ hs).mono ?_; rintro e w1 ⟨rfl, g1⟩; replace hw := grw_trans hw g1; clear g1) | (go_at_call 14; refine (readInt_list _ 12 _ HW1.out).mono ?_; rintro e w' ⟨rfl, rfl⟩))
        go_ret2
        exact ⟨by rw [H1.out, H2.out]; rfl, hw⟩
      · obtain ⟨e1, e2⟩ := mn_none s.data.toList (by simp [mnOk, hr, hd, mnRaw]; omega)
        have H1 := Lib.hid e1
        have H2 := Lib.hid e2
        clear e1 e2 hr
        go_enter Tryd.func16, Tryd.ntmps16
        go_wp2_with (first | (go_at_call 25; refine (cut_any s _ hs).mono ?_; rintro e w1 ⟨rfl, g1⟩; replace hw := grw_trans hw g1; clear g1) | (go_at_call 14; refine (readInt_list _ 12 _ HW1.out).mono ?_; rintro e w' ⟨rfl, rfl⟩))
        go_ret2
        exact ⟨by rw [H1.out, H2.out]; rfl, hw⟩
    · cases hc : ctOk (behind s.data.toList)
      · obtain ⟨e1, e2⟩ := mn_none s.data.toList (by simp [mnOk, hd, hc])
        have H1 := Lib.hid e1
        have H2 := Lib.hid e2
        clear e1 e2 hr
        go_enter Tryd.func16, Tryd.ntmps16
        go_wp2_with (first | (go_at_call 25; refine (cut_any s _ hs).mono ?_; rintro e w1 ⟨rfl, g1⟩; replace hw := grw_trans hw g1; clear g1) | (go_at_call 14; refine (readInt_list _ 12 _ HW1.out).mono ?_; rintro e w' ⟨rfl, rfl⟩) | (go_at_call 26; refine (readCents_list _ _ HW2.out).mono ?_; rintro e w' ⟨rfl, rfl⟩))
        go_ret2
        exact ⟨by rw [H1.out, H2.out]; rfl, hw⟩
      · have hcv := ct_some _ hc
        have hcb := ct_bd _ hc
        by_cases hb : numL (whole s.data.toList) * 100 + ctV (behind s.data.toList) ≤ 10000000000000
        · obtain ⟨e1, e2⟩ := mn_some s.data.toList (by simp [mnOk, hr, hd, hc, mnRaw, hb])
          have H1 : Hid (mnV s.data.toList = (numL (whole s.data.toList) : Int) * 100 + (ctV (behind s.data.toList) : Int)) := by
            show mnV s.data.toList = _
            rw [e1]; simp [mnRaw, hd]
          have H2 := Lib.hid e2
          clear e1 e2 hr
          go_enter Tryd.func16, Tryd.ntmps16
          go_wp2_with (first | (go_at_call 25; refine (cut_any s _ hs).mono ?_; rintro e w1 ⟨rfl, g1⟩; replace hw := grw_trans hw g1; clear g1) | (go_at_call 14; refine (readInt_list _ 12 _ HW1.out).mono ?_; rintro e w' ⟨rfl, rfl⟩) | (go_at_call 26; refine (readCents_list _ _ HW2.out).mono ?_; rintro e w' ⟨rfl, rfl⟩))
          go_ret2
          exact ⟨by rw [H1.out, H2.out]; rfl, hw⟩
        · obtain ⟨e1, e2⟩ := mn_none s.data.toList (by simp [mnOk, hr, hd, hc, mnRaw]; omega)
          have H1 := Lib.hid e1
          have H2 := Lib.hid e2
          clear e1 e2 hr
          go_enter Tryd.func16, Tryd.ntmps16
          go_wp2_with (first | (go_at_call 25; refine (cut_any s _ hs).mono ?_; rintro e w1 ⟨rfl, g1⟩; replace hw := grw_trans hw g1; clear g1) | (go_at_call 14; refine (readInt_list _ 12 _ HW1.out).mono ?_; rintro e w' ⟨rfl, rfl⟩) | (go_at_call 26; refine (readCents_list _ _ HW2.out).mono ?_; rintro e w' ⟨rfl, rfl⟩))
          go_ret2
          exact ⟨by rw [H1.out, H2.out]; rfl, hw⟩
end Go.Proofs.YtollmclcogmlbaaDoor
