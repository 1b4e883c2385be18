/-
  What the reference's ReadSigned answers, as a contract: of every text.
-/
import Derived.Test.YtollmclcogmlbaaDoorNRefRM
namespace Go.Proofs.YtollmclcogmlbaaDoor
open Go.RowKit Go.Sort Go.Lib

theorem rreadMoney_str (s : ByteArray) (w : World) (l : List UInt8) (hl : s.data.toList = l) (hs : l.length ≤ maxLen) :
    Calls Tryd.prog 17 #[.string s] w fun e w' => e = .returned (.tuple #[.int .i64 (mnV l), .int .i64 (mnE l)]) ∧ Grw w w' := by
  subst hl; exact rreadMoney_any s w (by rw [Lib.size_eq]; exact hs)

set_option maxHeartbeats 2000000 in
theorem rreadSigned_any (s : ByteArray) (w : World) (hs : s.size ≤ maxLen) :
    Calls Tryd.prog 19 #[.string s] w fun e w' => e = .returned (.tuple #[.int .i64 (sgV s.data.toList), .int .i64 (sgE s.data.toList)]) ∧ Grw w w' := by
  have el : s.data.toList.length = s.size := (Lib.size_eq s).symm
  have HW := Lib.hid (show s.data.toList.tail.length ≤ maxLen by rw [List.length_tail]; omega)
  have hw : Grw w w := grw_refl w
  by_cases hz : s.size = 0
  · have hb : below s.data.toList = false := by
      have : s.data.toList = [] := List.length_eq_zero_iff.1 (by omega)
      rw [this]; rfl
    have H1 : Hid (sgV s.data.toList = mnV s.data.toList) := by show sgV s.data.toList = _; simp [sgV, hb]
    have H2 : Hid (sgE s.data.toList = mnE s.data.toList) := by show sgE s.data.toList = _; simp [sgE, sgOk, hb, mnE]
    clear hb el
    go_enter Tryd.func19, Tryd.ntmps19
    go_wp2_with (first | (go_at_call 17; refine (rreadMoney_any s _ hs).mono ?_; rintro e w1 ⟨rfl, g1⟩; replace hw := grw_trans hw g1; clear g1))
    go_ret2
    exact ⟨by rw [H1.out, H2.out]; rfl, hw⟩
  · have hp : 0 < s.size := by omega
    have hz1 : ((s.size : Int) == 0) = false := by rw [beq_eq_false_iff_ne]; omega
    have hhd := head_zero s hp
    by_cases hc : s[0] = 45
    · have hb : below s.data.toList = true := by unfold below; rw [hhd, hc]; rfl
      have hct : ((s[0].toNat : Int) != 45) = false := by rw [hc]; rfl
      have HE : Hid ((s.extract 1 s.size).data.toList = s.data.toList.tail) := by
        show _ = _
        rw [Lib.extract_data, List.take_of_length_le (by rw [List.length_drop]; omega), List.drop_one]
      have hm := mn_bd s.data.toList.tail
      have h1s : (1 : Int) ≤ s.size := by omega
      clear hhd hc el
      cases ho : mnOk s.data.toList.tail
      · obtain ⟨e1, e2⟩ := mn_none _ ho
        have H1 : Hid (sgV s.data.toList = 0) := by show sgV s.data.toList = _; simp only [sgV, hb, e1]; rfl
        have H2 : Hid (sgE s.data.toList = 8) := by show sgE s.data.toList = _; simp only [sgE, sgOk, hb, ho]; rfl
        clear hb ho
        go_enter Tryd.func19, Tryd.ntmps19
        go_wp2_with (first | (go_at_call 17; refine (rreadMoney_str _ _ _ HE.out HW.out).mono ?_; rintro e w1 ⟨rfl, g1⟩; replace hw := grw_trans hw g1; clear g1))
        go_ret2
        exact ⟨by rw [H1.out, H2.out]; rfl, hw⟩
      · obtain ⟨-, e2⟩ := mn_some _ ho
        cases hv : (mnV s.data.toList.tail == 0)
        · have H1 : Hid (sgV s.data.toList = -mnV s.data.toList.tail) := by show sgV s.data.toList = _; simp only [sgV, hb]; rfl
          have H2 : Hid (sgE s.data.toList = 0) := by show sgE s.data.toList = _; simp only [sgE, sgOk, hb, ho, bne, hv]; rfl
          clear hb ho
          go_enter Tryd.func19, Tryd.ntmps19
          go_wp2_with (first | (go_at_call 17; refine (rreadMoney_str _ _ _ HE.out HW.out).mono ?_; rintro e w1 ⟨rfl, g1⟩; replace hw := grw_trans hw g1; clear g1))
          go_ret2
          exact ⟨by rw [H1.out, H2.out]; rfl, hw⟩
        · have H1 : Hid (sgV s.data.toList = 0) := by
            show sgV s.data.toList = _
            have := beq_iff_eq.1 hv
            simp only [sgV, hb, this]; rfl
          have H2 : Hid (sgE s.data.toList = 8) := by show sgE s.data.toList = _; simp only [sgE, sgOk, hb, ho, bne, hv]; rfl
          clear hb ho
          go_enter Tryd.func19, Tryd.ntmps19
          go_wp2_with (first | (go_at_call 17; refine (rreadMoney_str _ _ _ HE.out HW.out).mono ?_; rintro e w1 ⟨rfl, g1⟩; replace hw := grw_trans hw g1; clear g1))
          go_ret2
          exact ⟨by rw [H1.out, H2.out]; rfl, hw⟩
    · have hb : below s.data.toList = false := by
        unfold below; rw [hhd, beq_eq_false_iff_ne]; intro e; exact hc (by simpa using e)
      have hct : ((s[0].toNat : Int) != 45) = true := by
        rw [bne_iff_ne]; intro e
        exact hc (UInt8.toNat_inj.1 (by simp; omega))
      have H1 : Hid (sgV s.data.toList = mnV s.data.toList) := by show sgV s.data.toList = _; simp [sgV, hb]
      have H2 : Hid (sgE s.data.toList = mnE s.data.toList) := by show sgE s.data.toList = _; simp [sgE, sgOk, hb, mnE]
      clear hb el hhd hc
      go_enter Tryd.func19, Tryd.ntmps19
      go_wp2_with (first | (go_at_call 17; refine (rreadMoney_any s _ hs).mono ?_; rintro e w1 ⟨rfl, g1⟩; replace hw := grw_trans hw g1; clear g1))
      go_ret2
      exact ⟨by rw [H1.out, H2.out]; rfl, hw⟩
end Go.Proofs.YtollmclcogmlbaaDoor
