/-
  Texts put together (merge.py): NRM, PRf.
-/
import Derived.Test.YtoibhgoaibjopaaGreatDoorMj15
/-
  What digits.ReadMoney and digits.ReadSigned answer, as contracts: of every text.
-/
section
namespace Go.Proofs.YtoibhgoaibjopaaGreatDoor.Nu
open Go.RowKit Go.Sort Go.Lib

theorem readInt_list (l : List UInt8) (most : Int) (w : World) (h : l.length ≤ maxLen) :
    Calls Tryz.prog 77 #[.string ⟨l.toArray⟩, .int .i64 most] w fun e w' => e = .returned (.tuple #[.int .i64 (riV l most), .int .i64 (riE l most)]) ∧ w' = w :=
  readInt_any ⟨l.toArray⟩ most w (by rw [Lib.size_eq]; exact h)
theorem readCents_list (l : List UInt8) (w : World) (h : l.length ≤ maxLen) :
    Calls Tryz.prog 78 #[.string ⟨l.toArray⟩] w fun e w' => e = .returned (.tuple #[.int .i64 (ctR l), .bool (ctOk l)]) ∧ w' = w :=
  readCents_any ⟨l.toArray⟩ w (by rw [Lib.size_eq]; exact h)
theorem behind_le (l : List UInt8) : (behind l).length ≤ l.length := by unfold behind; rw [List.length_drop]; omega
theorem mn_none (l : List UInt8) (h : mnOk l = false) : mnV l = 0 ∧ mnE l = 8 := by simp [mnV, mnE, h]
theorem mn_some (l : List UInt8) (h : mnOk l = true) : mnV l = (mnRaw l : Int) ∧ mnE l = 0 := by simp [mnV, mnE, h]
theorem ri12 (l : List UInt8) (h : riOk l 12 = true) : numL l < 1000000000000 := by
  have := ri_bd12 l
  rw [(ri_some l 12 h).1] at this
  omega

set_option maxHeartbeats 2000000 in
theorem readMoney_any (s : ByteArray) (w : World) (hs : s.size ≤ maxLen) :
    Calls Tryz.prog 66 #[.string s] w fun e w' => e = .returned (.tuple #[.int .i64 (mnV s.data.toList), .int .i64 (mnE s.data.toList)]) ∧ Grw w w' := by
  have el : s.data.toList.length = s.size := (Lib.size_eq s).symm
  have hw1 : (whole s.data.toList).length ≤ maxLen := by have := whole_le s.data.toList; omega
  have hw2 : (behind s.data.toList).length ≤ maxLen := by have := behind_le s.data.toList; omega
  have HW1 := Lib.hid hw1
  have HW2 := Lib.hid hw2
  have hw : Grw w w := grw_refl w
  clear el hw1 hw2
  cases hr : riOk (whole s.data.toList) 12
  · obtain ⟨v1, v2⟩ := ri_none _ _ hr
    obtain ⟨e1, e2⟩ := mn_none s.data.toList (by simp [mnOk, hr])
    have H1 := Lib.hid e1
    have H2 := Lib.hid e2
    clear e1 e2 hr
    go_enter Tryz.func66, Tryz.ntmps66
    go_wp2_with (first | (go_at_call 76; refine (cut_any s _ hs).mono ?_; rintro e w1 ⟨rfl, g1⟩; replace hw := grw_trans hw g1; clear g1) | (go_at_call 77; refine (readInt_list _ 12 _ HW1.out).mono ?_; rintro e w' ⟨rfl, rfl⟩))
    go_ret2
    exact ⟨by rw [H1.out, H2.out]; rfl, hw⟩
  · obtain ⟨v1, v2⟩ := ri_some _ _ hr
    have hN := ri12 _ hr
    cases hd : hasDot s.data.toList
    · by_cases hb : numL (whole s.data.toList) * 100 ≤ 10000000000000
      · obtain ⟨e1, e2⟩ := mn_some s.data.toList (by simp [mnOk, hr, hd, mnRaw, hb])
        have H1 : Hid (mnV s.data.toList = (numL (whole s.data.toList) : Int) * 100) := by
          show mnV s.data.toList = _
          rw [e1]; simp [mnRaw, hd]
        have H2 := Lib.hid e2
        clear e1 e2 hr
        go_enter Tryz.func66, Tryz.ntmps66
        go_wp2_with (first | (go_at_call 76; refine (cut_any s _ hs).mono ?_; rintro e w1 ⟨rfl, g1⟩; replace hw := grw_trans hw g1; clear g1) | (go_at_call 77; refine (readInt_list _ 12 _ HW1.out).mono ?_; rintro e w' ⟨rfl, rfl⟩))
        go_ret2
        exact ⟨by rw [H1.out, H2.out]; rfl, hw⟩
      · obtain ⟨e1, e2⟩ := mn_none s.data.toList (by simp [mnOk, hr, hd, mnRaw]; omega)
        have H1 := Lib.hid e1
        have H2 := Lib.hid e2
        clear e1 e2 hr
        go_enter Tryz.func66, Tryz.ntmps66
        go_wp2_with (first | (go_at_call 76; refine (cut_any s _ hs).mono ?_; rintro e w1 ⟨rfl, g1⟩; replace hw := grw_trans hw g1; clear g1) | (go_at_call 77; refine (readInt_list _ 12 _ HW1.out).mono ?_; rintro e w' ⟨rfl, rfl⟩))
        go_ret2
        exact ⟨by rw [H1.out, H2.out]; rfl, hw⟩
    · cases hc : ctOk (behind s.data.toList)
      · obtain ⟨e1, e2⟩ := mn_none s.data.toList (by simp [mnOk, hd, hc])
        have H1 := Lib.hid e1
        have H2 := Lib.hid e2
        clear e1 e2 hr
        go_enter Tryz.func66, Tryz.ntmps66
        go_wp2_with (first | (go_at_call 76; refine (cut_any s _ hs).mono ?_; rintro e w1 ⟨rfl, g1⟩; replace hw := grw_trans hw g1; clear g1) | (go_at_call 77; refine (readInt_list _ 12 _ HW1.out).mono ?_; rintro e w' ⟨rfl, rfl⟩) | (go_at_call 78; refine (readCents_list _ _ HW2.out).mono ?_; rintro e w' ⟨rfl, rfl⟩))
        go_ret2
        exact ⟨by rw [H1.out, H2.out]; rfl, hw⟩
      · have hcv := ct_some _ hc
        have hcb := ct_bd _ hc
        by_cases hb : numL (whole s.data.toList) * 100 + ctV (behind s.data.toList) ≤ 10000000000000
        · obtain ⟨e1, e2⟩ := mn_some s.data.toList (by simp [mnOk, hr, hd, hc, mnRaw, hb])
          have H1 : Hid (mnV s.data.toList = (numL (whole s.data.toList) : Int) * 100 + (ctV (behind s.data.toList) : Int)) := by
            show mnV s.data.toList = _
            rw [e1]; simp [mnRaw, hd]
          have H2 := Lib.hid e2
          clear e1 e2 hr
          go_enter Tryz.func66, Tryz.ntmps66
          go_wp2_with (first | (go_at_call 76; refine (cut_any s _ hs).mono ?_; rintro e w1 ⟨rfl, g1⟩; replace hw := grw_trans hw g1; clear g1) | (go_at_call 77; refine (readInt_list _ 12 _ HW1.out).mono ?_; rintro e w' ⟨rfl, rfl⟩) | (go_at_call 78; refine (readCents_list _ _ HW2.out).mono ?_; rintro e w' ⟨rfl, rfl⟩))
          go_ret2
          exact ⟨by rw [H1.out, H2.out]; rfl, hw⟩
        · obtain ⟨e1, e2⟩ := mn_none s.data.toList (by simp [mnOk, hr, hd, hc, mnRaw]; omega)
          have H1 := Lib.hid e1
          have H2 := Lib.hid e2
          clear e1 e2 hr
          go_enter Tryz.func66, Tryz.ntmps66
          go_wp2_with (first | (go_at_call 76; refine (cut_any s _ hs).mono ?_; rintro e w1 ⟨rfl, g1⟩; replace hw := grw_trans hw g1; clear g1) | (go_at_call 77; refine (readInt_list _ 12 _ HW1.out).mono ?_; rintro e w' ⟨rfl, rfl⟩) | (go_at_call 78; refine (readCents_list _ _ HW2.out).mono ?_; rintro e w' ⟨rfl, rfl⟩))
          go_ret2
          exact ⟨by rw [H1.out, H2.out]; rfl, hw⟩
end Go.Proofs.YtoibhgoaibjopaaGreatDoor.Nu
end

/-
  What the reader's amount and answer do, as contracts.
-/
section
set_option linter.unusedSimpArgs false
set_option linter.unusedVariables false
set_option maxRecDepth 100000
namespace Go.Proofs.YtoibhgoaibjopaaGreatDoor.Pl
open Go.RowKit
open Wo (Wd WdsAt box_cell box_two keepB heap_far)

theorem mny_cases (E : Nat) (l : List Wd) : (Nu.mnE (tkW E l).1 = 0 ∧ pMoney E l = .ok (Nu.mnV (tkW E l).1, l.tail)) ∨ (¬ Nu.mnE (tkW E l).1 = 0 ∧ pMoney E l = .error (Nu.mnE (tkW E l).1, (tkW E l).2)) := by
  cases l with
  | nil => exact Or.inr ⟨by show ¬ Nu.mnE [] = 0; decide, rfl⟩
  | cons x r =>
    obtain ⟨t, a⟩ := x
    show (Nu.mnE t = 0 ∧ pMoney E ((t, a) :: r) = .ok (Nu.mnV t, r)) ∨ (¬ Nu.mnE t = 0 ∧ pMoney E ((t, a) :: r) = .error (Nu.mnE t, a))
    by_cases h1 : Nu.mnE t = 0
    · exact Or.inl ⟨h1, by simp [pMoney, h1]⟩
    · exact Or.inr ⟨h1, by simp [pMoney, h1]⟩
set_option maxHeartbeats 4000000 in
theorem amount_any (q E : Nat) (l : List Wd) (w : World) (h : RdAt q E l w) :
    Calls Tryz.prog 47 #[.pointer (some ⟨q, 0, none⟩)] w fun e w' => Ans q E w Num (pMoney E l) e w' := by
  have HT := Lib.hid (take_any q E l w h)
  have HI : Hid (∀ W : World, Calls Tryz.prog 66 #[.string (mk (tkW E l).1)] W fun e w' => e = .returned (.tuple #[.int .i64 (Nu.mnV (tkW E l).1), .int .i64 (Nu.mnE (tkW E l).1)]) ∧ Below W.heap.size W w') := fun W => by
    have := Nu.readMoney_any (mk (tkW E l).1) W (by rw [mk_size]; have := tk_len h; unfold maxLen; omega)
    rw [mk_list] at this
    exact this
  have HF := Lib.hid fun W => fault_any (Nu.mnE (tkW E l).1) (tkW E l) W
  have hP := mny_cases E l
  generalize pMoney E l = RR at *
  generalize tkW E l = x at *
  generalize Nu.mnV x.1 = nv at *
  generalize Nu.mnE x.1 = ne at *
  have HP := Lib.hid hP
  clear h hP
  go_enter Tryz.func47, Tryz.ntmps47
  go_wp2_with fail
  go_at_call 63
  refine HT.out.mono ?_
  rintro e w1 ⟨rfl, hr, hg⟩
  have hb := below_alloc w1 (.cells #[.string (mk x.1), .int .i64 (x.2 : Nat)] 73)
  have HR1 := Lib.hid (hr.grw hb)
  have HG1 := Lib.hid (grown_alloc hg (.cells #[.string (mk x.1), .int .i64 (x.2 : Nat)] 73))
  have HX := Lib.hid (heap_alloc_new w1 (.cells #[.string (mk x.1), .int .i64 (x.2 : Nat)] 73))
  obtain ⟨d0, d1, -, -⟩ := box_two HX.out
  clear hr hg hb HT
  go_upto_region 2 with fail
  generalize w1.alloc (.cells #[.string (mk x.1), .int .i64 (x.2 : Nat)] 73) = W at *
  generalize w1.heap.size = p at *
  rcases HP.out with ⟨h1, hres⟩ | ⟨h1, hres⟩
  · subst h1
    have HRES := Lib.hid hres
    clear HP hres
    go_wp2_with (first | (go_at_call 66; refine (HI.out _).mono ?_; rintro e w2 ⟨rfl, hb2⟩; have HB2 := Lib.hid hb2; clear hb2))
    go_ret
    refine ⟨grown_tr HG1.out (grown_of HB2.out), ?_⟩
    rw [HRES.out]
    exact ⟨⟨_, rfl, rfl⟩, HR1.out.grw HB2.out⟩
  · have HRES := Lib.hid hres
    clear HP hres
    have h1 : (ne != 0) = true := by simpa using h1
    go_wp2_with fail
    go_at_call 66
    refine (HI.out _).mono ?_
    rintro e w2 ⟨rfl, hb2⟩
    have HB2 := Lib.hid hb2
    obtain ⟨d0, d1, -, -⟩ := box_two (keepB HX.out hb2)
    clear hb2
    go_wp2_with (first | (go_at_call 65; refine (HF.out _).mono ?_; rintro e w3 ⟨rfl, hb3⟩; have HB3 := Lib.hid hb3; clear hb3))
    refine ⟨rfl, grown_tr HG1.out (grown_of (below_trans HB2.out HB3.out)), ?_⟩
    rw [HRES.out]
theorem truth_none {E : Nat} {l : List Wd} (h : ∀ x, l.head? = some x → x.1 ≠ tYes ∧ x.1 ≠ tNo) : pTruth E l = .error (4, pos E l) := by
  cases l with
  | nil => rfl
  | cons x r =>
    obtain ⟨x, a⟩ := x
    obtain ⟨h1, h2⟩ := h (x, a) rfl
    simp only [pTruth]
    rw [if_neg h1, if_neg h2]; rfl
set_option maxHeartbeats 4000000 in
theorem answer_any (q E : Nat) (l : List Wd) (w : World) (h : RdAt q E l w) :
    Calls Tryz.prog 107 #[.pointer (some ⟨q, 0, none⟩)] w fun e w' => Ans q E w Num (pTruth E l) e w' := by
  have HC := Lib.hid (one_any q E l tYes tNo w h (by decide) (by decide) (by decide))
  clear h
  go_enter Tryz.func107, Tryz.ntmps107
  go_wp2_with fail
  go_at_call 46
  refine HC.out.mono ?_
  rintro e w1 ⟨hg, ⟨r, ⟨a, rfl⟩, rfl, hr⟩ | ⟨r, ⟨a, rfl⟩, rfl, hr⟩ | ⟨hn, rfl⟩⟩
  case inr.inr =>
    refine thrown rfl ⟨hg, ?_⟩
    rw [truth_none hn]
  all_goals
    have HG := Lib.hid hg
    have HR := Lib.hid hr
    clear hg hr HC
    go_wp2
    go_ret
    exact ⟨HG.out, ⟨_, rfl, rfl⟩, HR.out⟩
end Go.Proofs.YtoibhgoaibjopaaGreatDoor.Pl
end
