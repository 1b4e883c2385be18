/-
  What digits.ReadSigned answers, as a contract: of every text.
-/
import Derived.Test.YtollmclcogmlbaaDoorNRM
namespace Go.Proofs.YtollmclcogmlbaaDoor
open Go.RowKit Go.Sort Go.Lib

theorem readMoney_list (l : List UInt8) (w : World) (h : l.length ≤ maxLen) :
    Calls Tryd.prog 16 #[.string ⟨l.toArray⟩] w fun e w' => e = .returned (.tuple #[.int .i64 (mnV l), .int .i64 (mnE l)]) ∧ Grw w w' :=
  readMoney_any ⟨l.toArray⟩ w (by rw [Lib.size_eq]; exact h)
theorem has_below (l : List UInt8) : Lib.hasPrefix l [45] = below l := by
  unfold Lib.hasPrefix below
  cases l with
  | nil => rfl
  | cons a t =>
    show ((45 == a) && true) = (some a == some 45)
    by_cases h : a = 45
    · subst h; rfl
    · have h1 : ((45 : UInt8) == a) = false := by rw [beq_eq_false_iff_ne]; exact fun e => h e.symm
      have h2 : (some a == some (45 : UInt8)) = false := by rw [beq_eq_false_iff_ne]; intro e; exact h (by simpa using e)
      rw [h1, h2]; rfl
theorem cutm_any (s : ByteArray) (w : World) (hb : below s.data.toList = true) :
    Calls Tryd.prog 27 #[.string s, .string ⟨#[45]⟩] w fun e w' => e = .returned (.tuple #[.string ⟨s.data.toList.tail.toArray⟩, .bool true]) ∧ w' = w := by
  refine (Tryd.strings_CutPrefix s ⟨#[45]⟩ w).mono ?_
  rintro e w' ⟨rfl, rfl⟩
  have h : Lib.hasPrefix s.data.toList (⟨#[45]⟩ : ByteArray).data.toList = true := (has_below _).trans hb
  refine ⟨?_, rfl⟩
  rw [h]
  unfold Lib.trimPrefix
  rw [if_pos h, ← List.drop_one]
  rfl
theorem cutp_any (s : ByteArray) (w : World) (hb : below s.data.toList = false) :
    Calls Tryd.prog 27 #[.string s, .string ⟨#[45]⟩] w fun e w' => e = .returned (.tuple #[.string s, .bool false]) ∧ w' = w := by
  refine (Tryd.strings_CutPrefix s ⟨#[45]⟩ w).mono ?_
  rintro e w' ⟨rfl, rfl⟩
  have h : Lib.hasPrefix s.data.toList (⟨#[45]⟩ : ByteArray).data.toList = false := (has_below _).trans hb
  refine ⟨?_, rfl⟩
  rw [h]
  unfold Lib.trimPrefix
  rw [if_neg (by rw [h]; decide), Lib.mk_data]

set_option maxHeartbeats 2000000 in
theorem readSigned_any (s : ByteArray) (w : World) (hs : s.size ≤ maxLen) :
    Calls Tryd.prog 18 #[.string s] w fun e w' => e = .returned (.tuple #[.int .i64 (sgV s.data.toList), .int .i64 (sgE s.data.toList)]) ∧ Grw w w' := by
  have el : s.data.toList.length = s.size := (Lib.size_eq s).symm
  have HW := Lib.hid (show s.data.toList.tail.length ≤ maxLen by rw [List.length_tail]; omega)
  have hw : Grw w w := grw_refl w
  clear el
  cases hb : below s.data.toList
  · have H1 : Hid (sgV s.data.toList = mnV s.data.toList) := by show sgV s.data.toList = _; simp [sgV, hb]
    have H2 : Hid (sgE s.data.toList = mnE s.data.toList) := by show sgE s.data.toList = _; simp [sgE, sgOk, hb, mnE]
    have HB := Lib.hid hb
    clear hb
    go_enter Tryd.func18, Tryd.ntmps18
    go_wp2_with (first | (go_at_call 27; refine (cutp_any s _ HB.out).mono ?_; rintro e w' ⟨rfl, rfl⟩) | (go_at_call 16; refine (readMoney_any s _ hs).mono ?_; rintro e w1 ⟨rfl, g1⟩; replace hw := grw_trans hw g1; clear g1))
    go_ret2
    exact ⟨by rw [H1.out, H2.out]; rfl, hw⟩
  · have HB := Lib.hid hb
    have hm := mn_bd s.data.toList.tail
    cases ho : mnOk s.data.toList.tail
    · obtain ⟨e1, e2⟩ := mn_none _ ho
      have H1 : Hid (sgV s.data.toList = 0) := by show sgV s.data.toList = _; simp only [sgV, hb, e1]; rfl
      have H2 : Hid (sgE s.data.toList = 8) := by show sgE s.data.toList = _; simp only [sgE, sgOk, hb, ho]; rfl
      clear hb ho
      go_enter Tryd.func18, Tryd.ntmps18
      go_wp2_with (first | (go_at_call 27; refine (cutm_any s _ HB.out).mono ?_; rintro e w' ⟨rfl, rfl⟩) | (go_at_call 16; refine (readMoney_list _ _ HW.out).mono ?_; rintro e w1 ⟨rfl, g1⟩; replace hw := grw_trans hw g1; clear g1))
      go_ret2
      exact ⟨by rw [H1.out, H2.out]; rfl, hw⟩
    · obtain ⟨-, e2⟩ := mn_some _ ho
      cases hz : (mnV s.data.toList.tail == 0)
      · have H1 : Hid (sgV s.data.toList = -mnV s.data.toList.tail) := by show sgV s.data.toList = _; simp only [sgV, hb]; rfl
        have H2 : Hid (sgE s.data.toList = 0) := by show sgE s.data.toList = _; simp only [sgE, sgOk, hb, ho, bne, hz]; rfl
        clear hb ho
        go_enter Tryd.func18, Tryd.ntmps18
        go_wp2_with (first | (go_at_call 27; refine (cutm_any s _ HB.out).mono ?_; rintro e w' ⟨rfl, rfl⟩) | (go_at_call 16; refine (readMoney_list _ _ HW.out).mono ?_; rintro e w1 ⟨rfl, g1⟩; replace hw := grw_trans hw g1; clear g1))
        go_ret2
        exact ⟨by rw [H1.out, H2.out]; rfl, hw⟩
      · have H1 : Hid (sgV s.data.toList = 0) := by
          show sgV s.data.toList = _
          have := beq_iff_eq.1 hz
          simp only [sgV, hb, this]; rfl
        have H2 : Hid (sgE s.data.toList = 8) := by show sgE s.data.toList = _; simp only [sgE, sgOk, hb, ho, bne, hz]; rfl
        clear hb ho
        go_enter Tryd.func18, Tryd.ntmps18
        go_wp2_with (first | (go_at_call 27; refine (cutm_any s _ HB.out).mono ?_; rintro e w' ⟨rfl, rfl⟩) | (go_at_call 16; refine (readMoney_list _ _ HW.out).mono ?_; rintro e w1 ⟨rfl, g1⟩; replace hw := grw_trans hw g1; clear g1))
        go_ret2
        exact ⟨by rw [H1.out, H2.out]; rfl, hw⟩
end Go.Proofs.YtollmclcogmlbaaDoor
