/-
  Texts put together (merge.py): NRead, PRe, CAdds.
-/
import Derived.Lib.Strings
import Derived.WalkLawsBesides
import Derived.Lib.Hide
import Derived.WalkKit
import Derived.Test.YtoibhgoaibjopaaGreatDoorMj10
import Derived.Test.YtoibhgoaibjopaaGreatDoorProg
import Derived.Test.YtoibhgoaibjopaaGreatDoorMj2
/-
  What digits.ReadInt and digits.readCents answer, as contracts: for every text and every int.
-/
section
namespace Go.Proofs.YtoibhgoaibjopaaGreatDoor.Nu
open Go.RowKit

theorem ri_none (l : List UInt8) (m : Int) (h : riOk l m = false) : riV l m = 0 ∧ riE l m = 4 := by simp [riV, riE, h]
theorem ri_some (l : List UInt8) (m : Int) (h : riOk l m = true) : riV l m = numL l ∧ riE l m = 0 := by simp [riV, riE, h]
theorem ri_long (l : List UInt8) (m : Int) (h : ¬ ((l.length : Int) ≤ m ∧ l.length ≤ 18)) : riOk l m = false := by
  cases e : riOk l m
  · rfl
  · unfold riOk at e
    simp only [Bool.and_eq_true, decide_eq_true_eq] at e
    omega
theorem ri_short (l : List UInt8) (m : Int) (h : (l.length : Int) ≤ m ∧ l.length ≤ 18) : riOk l m = canon l := by
  unfold riOk
  rw [decide_eq_true h.1, decide_eq_true h.2]
  simp
theorem ri_notD (l : List UInt8) (m : Int) (h : allD l = false) : riOk l m = false := by simp [riOk, canon, h]
theorem ri_nil (m : Int) : riOk [] m = false := by simp [riOk, canon]
theorem head_zero (s : ByteArray) (h : 0 < s.size) : s.data.toList.head? = some s[0] := by
  rw [List.head?_eq_getElem?, List.getElem?_eq_getElem (by simpa using h)]; rfl
theorem canon_zero (l : List UInt8) (h : l.head? = some 48) (h2 : (l == [48]) = false) : canon l = false := by
  unfold canon
  rw [h, h2]
  simp
theorem canon_of (l : List UInt8) (hne : l ≠ []) (hd : allD l = true) (h : l.head? ≠ some 48 ∨ l = [48]) : canon l = true := by
  unfold canon
  have e : l.isEmpty = false := by cases l with
    | nil => exact absurd rfl hne
    | cons a t => rfl
  rw [e, hd]
  rcases h with h | h
  · simp [h]
  · subst h; rfl

set_option maxHeartbeats 1000000 in
theorem readInt_any (s : ByteArray) (most : Int) (w : World) (hs : s.size ≤ maxLen) :
    Calls Tryz.prog 77 #[.string s, .int .i64 most] w fun e w' => e = .returned (.tuple #[.int .i64 (riV s.data.toList most), .int .i64 (riE s.data.toList most)]) ∧ w' = w := by
  have el : s.data.toList.length = s.size := (Lib.size_eq s).symm
  have et := Lib.toList_data s
  have HL := Lib.hid el
  have HT := Lib.hid et
  clear el et
  by_cases h0 : s.toList = []
  · have hn : riOk s.data.toList most = false := by rw [← HT.out, h0]; exact ri_nil _
    obtain ⟨e1, e2⟩ := ri_none _ _ hn
    have H1 := Lib.hid e1
    have H2 := Lib.hid e2
    clear e1 e2 hn
    go_enter Tryz.func77, Tryz.ntmps77
    go_wp2
    go_ret2
    exact ⟨by rw [H1.out, H2.out]; rfl, rfl⟩
  · have hsz : 0 < s.size := by
      rcases Nat.eq_zero_or_pos s.size with e | e
      · exfalso; apply h0; rw [HT.out]; exact List.length_eq_zero_iff.1 (by rw [HL.out]; exact e)
      · exact e
    have hne : s.data.toList ≠ [] := by rw [← HT.out]; exact h0
    have HN := Lib.hid hne
    clear hne
    by_cases hlen : (s.size : Int) ≤ most ∧ s.size ≤ 18
    · have hR := ri_short s.data.toList most (by rw [HL.out]; exact hlen)
      have HR := Lib.hid hR
      clear hR
      obtain ⟨hl1, hl2⟩ := hlen
      have hie : s.toList.isEmpty = false := by cases e : s.toList with
        | nil => exact absurd e h0
        | cons a t => rfl
      have d1 : decide (18 < (s.size : Int)) = false := by rw [decide_eq_false_iff_not]; omega
      have d2 : decide (most < (s.size : Int)) = false := by rw [decide_eq_false_iff_not]; omega
      cases ha : allD s.data.toList
      · have hn := ri_notD _ most ha
        obtain ⟨e1, e2⟩ := ri_none _ _ hn
        have H1 := Lib.hid e1
        have H2 := Lib.hid e2
        clear e1 e2 hn
        go_enter Tryz.func77, Tryz.ntmps77
        go_wp2_with (go_at_call 93; refine (allD_any _ _ hs).mono ?_; rintro e w' ⟨rfl, rfl⟩)
        all_goals
          go_ret2
          exact ⟨by rw [H1.out, H2.out]; rfl, rfl⟩
      · have HA := Lib.hid ha
        cases hz : ((s[0].toNat : Int) == 48)
        · have hc : canon s.data.toList = true := canon_of _ HN.out ha (Or.inl (by rw [head_zero s hsz]; intro e; have e2 : s[0] = 48 := by simpa using e
                                                                                   rw [e2] at hz; simp at hz))
          obtain ⟨e1, e2⟩ := ri_some _ most (by rw [HR.out]; exact hc)
          have H1 := Lib.hid e1
          have H2 := Lib.hid e2
          clear e1 e2 hc
          go_enter Tryz.func77, Tryz.ntmps77
          go_wp2_with (first | (go_at_call 93; refine (allD_any _ _ hs).mono ?_; rintro e w' ⟨rfl, rfl⟩) | (go_at_call 94; refine (number_any _ _ hl2 HA.out).mono ?_; rintro e w' ⟨rfl, rfl⟩))
          all_goals
            go_ret2
            exact ⟨by rw [H1.out, H2.out]; rfl, rfl⟩
        · have h48 : s[0] = 48 := by
            have := beq_iff_eq.1 hz
            exact UInt8.toNat_inj.1 (by simp; omega)
          cases hq : (s.toList == [48])
          rotate_left
          · have hc : canon s.data.toList = true := canon_of _ HN.out ha (Or.inr (by rw [← HT.out]; simpa using hq))
            obtain ⟨e1, e2⟩ := ri_some _ most (by rw [HR.out]; exact hc)
            have H1 := Lib.hid e1
            have H2 := Lib.hid e2
            clear e1 e2 hc h48
            go_enter Tryz.func77, Tryz.ntmps77
            go_wp2_with (first | (go_at_call 93; refine (allD_any _ _ hs).mono ?_; rintro e w' ⟨rfl, rfl⟩) | (go_at_call 94; refine (number_any _ _ hl2 HA.out).mono ?_; rintro e w' ⟨rfl, rfl⟩))
            all_goals
              go_ret2
              exact ⟨by rw [H1.out, H2.out]; rfl, rfl⟩
          · have hc : canon s.data.toList = false := canon_zero _ (by rw [head_zero s hsz, h48]) (by rw [← HT.out]; exact hq)
            obtain ⟨e1, e2⟩ := ri_none _ most (by rw [HR.out]; exact hc)
            have H1 := Lib.hid e1
            have H2 := Lib.hid e2
            clear e1 e2 hc h48
            go_enter Tryz.func77, Tryz.ntmps77
            go_wp2_with (first | (go_at_call 93; refine (allD_any _ _ hs).mono ?_; rintro e w' ⟨rfl, rfl⟩) | (go_at_call 94; refine (number_any _ _ hl2 HA.out).mono ?_; rintro e w' ⟨rfl, rfl⟩))
            all_goals
              go_ret2
              exact ⟨by rw [H1.out, H2.out]; rfl, rfl⟩
    · have hn := ri_long s.data.toList most (by rw [HL.out]; exact hlen)
      obtain ⟨e1, e2⟩ := ri_none _ _ hn
      have H1 := Lib.hid e1
      have H2 := Lib.hid e2
      clear e1 e2 hn
      by_cases hm : 18 < most
      · have hl : ¬ (s.size : Int) ≤ 18 := by omega
        clear hlen
        go_enter Tryz.func77, Tryz.ntmps77
        go_wp2
        go_ret2
        exact ⟨by rw [H1.out, H2.out]; rfl, rfl⟩
      · have hl : ¬ (s.size : Int) ≤ most := by omega
        clear hlen
        go_enter Tryz.func77, Tryz.ntmps77
        go_wp2
        go_ret2
        exact ⟨by rw [H1.out, H2.out]; rfl, rfl⟩

theorem app_data (a b : ByteArray) : (a ++ b).data.toList = a.data.toList ++ b.data.toList := by simp
theorem app_size (a b : ByteArray) : (a ++ b).size = a.size + b.size := ByteArray.size_append
def ctR (l : List UInt8) : Int := if ctOk l = true then (ctV l : Int) else 0
theorem ct_none (l : List UInt8) (h : ctOk l = false) : ctR l = 0 := by simp [ctR, h]
theorem ct_some (l : List UInt8) (h : ctOk l = true) : ctR l = ctV l := by simp [ctR, h]

set_option maxHeartbeats 1000000 in
theorem readCents_any (s : ByteArray) (w : World) (hs : s.size ≤ maxLen) :
    Calls Tryz.prog 78 #[.string s] w fun e w' => e = .returned (.tuple #[.int .i64 (ctR s.data.toList), .bool (ctOk s.data.toList)]) ∧ w' = w := by
  have el : s.data.toList.length = s.size := (Lib.size_eq s).symm
  by_cases h1 : s.size = 1
  · have ok : ctOk s.data.toList = allD s.data.toList := by simp only [ctOk, el, h1]; simp
    have vv : allD s.data.toList = true → ctR s.data.toList = numL (s ++ (⟨#[48]⟩ : ByteArray)).data.toList := fun h => by
      rw [ct_some _ (by rw [ok]; exact h), app_data, show (⟨#[48]⟩ : ByteArray).data.toList = [48] from rfl, numL_snoc]
      unfold ctV
      rw [if_pos (by rw [el, h1])]
      simp
    have hsz : (s ++ (⟨#[48]⟩ : ByteArray)).size = 2 := by rw [app_size, h1]; rfl
    have had : allD (s ++ (⟨#[48]⟩ : ByteArray)).data.toList = allD s.data.toList := by
      rw [app_data, allD_app]; simp [allD, isD]
    have HO := Lib.hid ok
    have HE := Lib.hid had
    have HZ := Lib.hid hsz
    clear ok had hsz el
    cases ha : allD s.data.toList
    · have hb : allD (s ++ (⟨#[48]⟩ : ByteArray)).data.toList = false := by rw [HE.out]; exact ha
      have H1 := Lib.hid (ct_none s.data.toList (by rw [HO.out]; exact ha))
      clear vv
      go_enter Tryz.func78, Tryz.ntmps78
      go_wp2_with (first | (go_at_call 93; refine (allD_any _ _ (by rw [HZ.out]; unfold maxLen; omega)).mono ?_; rintro e w' ⟨rfl, rfl⟩; rw [hb]))
      go_ret2
      exact ⟨by rw [H1.out, HO.out, ha]; rfl, rfl⟩
    · have hb : allD (s ++ (⟨#[48]⟩ : ByteArray)).data.toList = true := by rw [HE.out]; exact ha
      have H1 := Lib.hid (vv ha)
      clear vv
      go_enter Tryz.func78, Tryz.ntmps78
      go_wp2_with (first | (go_at_call 93; refine (allD_any _ _ (by rw [HZ.out]; unfold maxLen; omega)).mono ?_; rintro e w' ⟨rfl, rfl⟩; rw [hb]) | (go_at_call 94; refine (number_any _ _ (by rw [HZ.out]; omega) hb).mono ?_; rintro e w' ⟨rfl, rfl⟩))
      go_ret2
      exact ⟨by rw [H1.out, HO.out, ha]; rfl, rfl⟩
  · by_cases h2 : s.size = 2
    · have ok : ctOk s.data.toList = allD s.data.toList := by simp only [ctOk, el, h2]; simp
      have vv : allD s.data.toList = true → ctR s.data.toList = numL s.data.toList := fun h => by
        rw [ct_some _ (by rw [ok]; exact h)]
        unfold ctV
        rw [if_neg (by rw [el, h2]; omega)]
      have HO := Lib.hid ok
      clear ok el
      cases ha : allD s.data.toList
      · have H1 := Lib.hid (ct_none s.data.toList (by rw [HO.out]; exact ha))
        clear vv
        go_enter Tryz.func78, Tryz.ntmps78
        go_wp2_with (first | (go_at_call 93; refine (allD_any _ _ hs).mono ?_; rintro e w' ⟨rfl, rfl⟩))
        go_ret2
        exact ⟨by rw [H1.out, HO.out, ha]; rfl, rfl⟩
      · have H1 := Lib.hid (vv ha)
        have HA := Lib.hid ha
        clear vv
        go_enter Tryz.func78, Tryz.ntmps78
        go_wp2_with (first | (go_at_call 93; refine (allD_any _ _ hs).mono ?_; rintro e w' ⟨rfl, rfl⟩) | (go_at_call 94; refine (number_any _ _ (by omega) HA.out).mono ?_; rintro e w' ⟨rfl, rfl⟩))
        go_ret2
        exact ⟨by rw [H1.out, HO.out, HA.out]; rfl, rfl⟩
    · have ok : ctOk s.data.toList = false := by
        have a1 : (s.data.toList.length == 1) = false := by rw [el]; simpa using h1
        have a2 : (s.data.toList.length == 2) = false := by rw [el]; simpa using h2
        unfold ctOk; rw [a1, a2]; rfl
      have H1 := Lib.hid (ct_none s.data.toList ok)
      have HO := Lib.hid ok
      have b1 : ((s.size : Int) == 1) = false := by rw [beq_eq_false_iff_ne]; omega
      have b2 : ((s.size : Int) == 2) = false := by rw [beq_eq_false_iff_ne]; omega
      clear ok el
      go_enter Tryz.func78, Tryz.ntmps78
      go_wp2
      go_ret2
      exact ⟨by rw [H1.out, HO.out]; rfl, rfl⟩
end Go.Proofs.YtoibhgoaibjopaaGreatDoor.Nu
end

/-
  What the reader's number, code, answer and kindOf do, as contracts.
-/
section
set_option linter.unusedSimpArgs false
set_option linter.unusedVariables false
set_option maxRecDepth 100000
namespace Go.Proofs.YtoibhgoaibjopaaGreatDoor.Pl
open Go.RowKit
open Wo (Wd WdsAt box_cell box_two keepB heap_far)

theorem tk_len {q E : Nat} {l : List Wd} {w : World} (h : RdAt q E l w) : (tkW E l).1.length ≤ 65536 := by
  cases l with
  | nil => simp [tkW]
  | cons x r => exact h.len x List.mem_cons_self
theorem num_cases (E : Nat) (most : Int) (l : List Wd) : (Nu.riE (tkW E l).1 5 = 0 ∧ Nu.riV (tkW E l).1 5 ≤ most ∧ pNum E most l = .ok (Nu.riV (tkW E l).1 5, l.tail)) ∨ ((¬ Nu.riE (tkW E l).1 5 = 0 ∨ (Nu.riE (tkW E l).1 5 = 0 ∧ ¬ Nu.riV (tkW E l).1 5 ≤ most)) ∧ pNum E most l = .error (4, (tkW E l).2)) := by
  cases l with
  | nil => exact Or.inr ⟨Or.inl (by show ¬ Nu.riE [] 5 = 0; decide), rfl⟩
  | cons x r =>
    obtain ⟨t, a⟩ := x
    show (Nu.riE t 5 = 0 ∧ Nu.riV t 5 ≤ most ∧ pNum E most ((t, a) :: r) = .ok (Nu.riV t 5, r)) ∨ ((¬ Nu.riE t 5 = 0 ∨ (Nu.riE t 5 = 0 ∧ ¬ Nu.riV t 5 ≤ most)) ∧ pNum E most ((t, a) :: r) = .error (4, a))
    by_cases h1 : Nu.riE t 5 = 0
    · by_cases h2 : Nu.riV t 5 ≤ most
      · exact Or.inl ⟨h1, h2, by simp [pNum, h1, h2]⟩
      · exact Or.inr ⟨Or.inr ⟨h1, h2⟩, by simp [pNum, h1, h2]⟩
    · exact Or.inr ⟨Or.inl h1, by simp [pNum, h1]⟩
set_option maxHeartbeats 4000000 in
theorem number_any (q E : Nat) (most : Int) (l : List Wd) (w : World) (h : RdAt q E l w) :
    Calls Tryz.prog 79 #[.pointer (some ⟨q, 0, none⟩), .int .i64 most] w fun e w' => Ans q E w Num (pNum E most l) e w' := by
  have HT := Lib.hid (take_any q E l w h)
  have HI := Lib.hid fun W => Nu.readInt_any (mk (tkW E l).1) 5 W (by rw [mk_size]; have := tk_len h; unfold maxLen; omega)
  rw [mk_list] at HI
  have HF := Lib.hid fun W => fault_any 4 (tkW E l) W
  have hP := num_cases E most l
  have hb := (Nu.ri_bd (tkW E l).1 5)
  generalize pNum E most l = RR at *
  generalize tkW E l = x at *
  generalize Nu.riV x.1 5 = nv at *
  generalize Nu.riE x.1 5 = ne at *
  have HP := Lib.hid hP
  clear h hP
  obtain ⟨hb0, hb1⟩ := hb
  go_enter Tryz.func79, Tryz.ntmps79
  go_wp2_with fail
  go_at_call 63
  refine HT.out.mono ?_
  rintro e w1 ⟨rfl, hr, hg⟩
  have hb := below_alloc w1 (.cells #[.string (mk x.1), .int .i64 (x.2 : Nat)] 73)
  have HR1 := Lib.hid (hr.grw hb)
  have HG1 := Lib.hid (grown_alloc hg (.cells #[.string (mk x.1), .int .i64 (x.2 : Nat)] 73))
  have HX := Lib.hid (heap_alloc_new w1 (.cells #[.string (mk x.1), .int .i64 (x.2 : Nat)] 73))
  obtain ⟨d0, d1, -, -⟩ := box_two HX.out
  clear hr hg hb HT
  go_upto_region 2 with fail
  generalize w1.alloc (.cells #[.string (mk x.1), .int .i64 (x.2 : Nat)] 73) = W at *
  generalize w1.heap.size = p at *
  rcases HP.out with ⟨h1, h2, hres⟩ | ⟨h1, hres⟩
  · subst h1
    have HRES := Lib.hid hres
    clear HP hres
    go_wp2_with (first | (go_at_call 77; refine (HI.out _).mono ?_; rintro e w2 ⟨rfl, rfl⟩))
    go_ret
    refine ⟨HG1.out, ?_⟩
    rw [HRES.out]
    exact ⟨⟨_, rfl, rfl⟩, HR1.out⟩
  · have HRES := Lib.hid hres
    clear HP hres
    rcases h1 with h1 | ⟨h1, h2⟩
    · have h1 : (ne != 0) = true := by simpa using h1
      go_wp2_with (first | (go_at_call 77; refine (HI.out _).mono ?_; rintro e w2 ⟨rfl, rfl⟩) | (go_at_call 65; refine (HF.out _).mono ?_; rintro e w2 ⟨rfl, hb2⟩; have HB2 := Lib.hid hb2; clear hb2))
      refine ⟨rfl, grown_tr HG1.out (grown_of HB2.out), ?_⟩
      rw [HRES.out]
    · subst h1
      have h2 : most < nv := by omega
      go_wp2_with (first | (go_at_call 77; refine (HI.out _).mono ?_; rintro e w2 ⟨rfl, rfl⟩) | (go_at_call 65; refine (HF.out _).mono ?_; rintro e w2 ⟨rfl, hb2⟩; have HB2 := Lib.hid hb2; clear hb2))
      refine ⟨rfl, grown_tr HG1.out (grown_of HB2.out), ?_⟩
      rw [HRES.out]
theorem proc_any (s : Tx) (w : World) (hs : s.length ≤ 9223372036854775807) :
    Calls Tryz.prog 82 #[.string (mk s)] w fun e w' => e = .returned (.bool (Cm.codeB s 5 5)) ∧ w' = w := by
  have HC := Lib.hid fun w => Cm.code_any s 5 5 w hs
  generalize Cm.codeB s 5 5 = R at *
  go_enter Tryz.func82, Tryz.ntmps82
  go_wp2_with (go_at_call 99; refine (HC.out _).mono ?_; rintro e w' ⟨rfl, rfl⟩)
  go_ret
  exact ⟨rfl, rfl⟩
theorem mod_any (s : Tx) (w : World) (hs : s.length ≤ 9223372036854775807) :
    Calls Tryz.prog 83 #[.string (mk s)] w fun e w' => e = .returned (.bool (Cm.codeB s 2 2)) ∧ w' = w := by
  have HC := Lib.hid fun w => Cm.code_any s 2 2 w hs
  generalize Cm.codeB s 2 2 = R at *
  go_enter Tryz.func83, Tryz.ntmps83
  go_wp2_with (go_at_call 99; refine (HC.out _).mono ?_; rintro e w' ⟨rfl, rfl⟩)
  go_ret
  exact ⟨rfl, rfl⟩
theorem code_cases (E : Nat) (n : Int) (l : List Wd) (hn : 1 ≤ n) : (Cm.codeB (tkW E l).1 n n = true ∧ pCode E n l = .ok ((tkW E l).1, l.tail)) ∨ (Cm.codeB (tkW E l).1 n n = false ∧ pCode E n l = .error (9, (tkW E l).2)) := by
  cases l with
  | nil => exact Or.inr ⟨by show Cm.codeB [] n n = false; simp [Cm.codeB]; omega, rfl⟩
  | cons x r =>
    obtain ⟨t, a⟩ := x
    show (Cm.codeB t n n = true ∧ pCode E n ((t, a) :: r) = .ok (t, r)) ∨ (Cm.codeB t n n = false ∧ pCode E n ((t, a) :: r) = .error (9, a))
    cases h : Cm.codeB t n n
    · exact Or.inr ⟨rfl, by simp [pCode, h]⟩
    · exact Or.inl ⟨rfl, by simp [pCode, h]⟩
set_option maxHeartbeats 4000000 in
theorem code5_any (q E : Nat) (l : List Wd) (w : World) (h : RdAt q E l w) :
    Calls Tryz.prog 96 #[.pointer (some ⟨q, 0, none⟩), .func (.func 82) #[] #[]] w fun e w' => Ans q E w Str (pCode E 5 l) e w' := by
  have HT := Lib.hid (take_any q E l w h)
  have HI := Lib.hid fun W => proc_any (tkW E l).1 W (by have := tk_len h; omega)
  have HF := Lib.hid fun W => fault_any 9 (tkW E l) W
  have hP := code_cases E 5 l (by decide)
  generalize pCode E 5 l = RR at *
  generalize tkW E l = x at *
  generalize Cm.codeB x.1 5 5 = nv at *
  have HP := Lib.hid hP
  clear h hP
  go_enter Tryz.func96, Tryz.ntmps96
  go_wp2_with fail
  go_at_call 63
  refine HT.out.mono ?_
  rintro e w1 ⟨rfl, hr, hg⟩
  have hb := below_alloc w1 (.cells #[.string (mk x.1), .int .i64 (x.2 : Nat)] 73)
  have HR1 := Lib.hid (hr.grw hb)
  have HG1 := Lib.hid (grown_alloc hg (.cells #[.string (mk x.1), .int .i64 (x.2 : Nat)] 73))
  have HX := Lib.hid (heap_alloc_new w1 (.cells #[.string (mk x.1), .int .i64 (x.2 : Nat)] 73))
  obtain ⟨d0, d1, -, -⟩ := box_two HX.out
  clear hr hg hb HT
  go_upto_region 2 with fail
  generalize w1.alloc (.cells #[.string (mk x.1), .int .i64 (x.2 : Nat)] 73) = W at *
  generalize w1.heap.size = p at *
  rcases HP.out with ⟨rfl, hres⟩ | ⟨rfl, hres⟩
  · have HRES := Lib.hid hres
    clear HP hres
    go_wp2_with (first | (go_at_call 82; refine (HI.out _).mono ?_; rintro e w2 ⟨rfl, rfl⟩))
    go_ret
    refine ⟨HG1.out, ?_⟩
    rw [HRES.out]
    exact ⟨⟨_, rfl, rfl⟩, HR1.out⟩
  · have HRES := Lib.hid hres
    clear HP hres
    go_wp2_with (first | (go_at_call 82; refine (HI.out _).mono ?_; rintro e w2 ⟨rfl, rfl⟩) | (go_at_call 65; refine (HF.out _).mono ?_; rintro e w2 ⟨rfl, hb2⟩; have HB2 := Lib.hid hb2; clear hb2))
    refine ⟨rfl, grown_tr HG1.out (grown_of HB2.out), ?_⟩
    rw [HRES.out]
set_option maxHeartbeats 4000000 in
theorem code2_any (q E : Nat) (l : List Wd) (w : World) (h : RdAt q E l w) :
    Calls Tryz.prog 96 #[.pointer (some ⟨q, 0, none⟩), .func (.func 83) #[] #[]] w fun e w' => Ans q E w Str (pCode E 2 l) e w' := by
  have HT := Lib.hid (take_any q E l w h)
  have HI := Lib.hid fun W => mod_any (tkW E l).1 W (by have := tk_len h; omega)
  have HF := Lib.hid fun W => fault_any 9 (tkW E l) W
  have hP := code_cases E 2 l (by decide)
  generalize pCode E 2 l = RR at *
  generalize tkW E l = x at *
  generalize Cm.codeB x.1 2 2 = nv at *
  have HP := Lib.hid hP
  clear h hP
  go_enter Tryz.func96, Tryz.ntmps96
  go_wp2_with fail
  go_at_call 63
  refine HT.out.mono ?_
  rintro e w1 ⟨rfl, hr, hg⟩
  have hb := below_alloc w1 (.cells #[.string (mk x.1), .int .i64 (x.2 : Nat)] 73)
  have HR1 := Lib.hid (hr.grw hb)
  have HG1 := Lib.hid (grown_alloc hg (.cells #[.string (mk x.1), .int .i64 (x.2 : Nat)] 73))
  have HX := Lib.hid (heap_alloc_new w1 (.cells #[.string (mk x.1), .int .i64 (x.2 : Nat)] 73))
  obtain ⟨d0, d1, -, -⟩ := box_two HX.out
  clear hr hg hb HT
  go_upto_region 2 with fail
  generalize w1.alloc (.cells #[.string (mk x.1), .int .i64 (x.2 : Nat)] 73) = W at *
  generalize w1.heap.size = p at *
  rcases HP.out with ⟨rfl, hres⟩ | ⟨rfl, hres⟩
  · have HRES := Lib.hid hres
    clear HP hres
    go_wp2_with (first | (go_at_call 83; refine (HI.out _).mono ?_; rintro e w2 ⟨rfl, rfl⟩))
    go_ret
    refine ⟨HG1.out, ?_⟩
    rw [HRES.out]
    exact ⟨⟨_, rfl, rfl⟩, HR1.out⟩
  · have HRES := Lib.hid hres
    clear HP hres
    go_wp2_with (first | (go_at_call 83; refine (HI.out _).mono ?_; rintro e w2 ⟨rfl, rfl⟩) | (go_at_call 65; refine (HF.out _).mono ?_; rintro e w2 ⟨rfl, hb2⟩; have HB2 := Lib.hid hb2; clear hb2))
    refine ⟨rfl, grown_tr HG1.out (grown_of HB2.out), ?_⟩
    rw [HRES.out]

/-- Which kind begins with a word. -/
def kdW (x : Tx) : Option Int := if x = tAll then some 0 else if x = tProc then some 1 else if x = tMod then some 2 else if x = tUnits then some 3 else if x = tBilled then some 4 else if x = tOut then some 5 else if x = tNot then some 6 else if x = tO then some 7 else none
abbrev kdV (o : Option Int) : Value := match o with | some k => .tuple #[.int .i64 k, .bool true] | none => .tuple #[.int .i64 0, .bool false]
theorem eq_lit (x t : Tx) : ((mk x).toList == t) = decide (x = t) := by
  rw [Lib.toList_data, mk_list, Bool.eq_iff_iff]
  simp
theorem lit_t {x t : Tx} (h : x = t) : ((mk x).toList == t) = true := by rw [eq_lit]; exact decide_eq_true h
theorem lit_f {x t : Tx} (h : ¬ x = t) : ((mk x).toList == t) = false := by rw [eq_lit]; exact decide_eq_false h
set_option maxHeartbeats 4000000 in
theorem kindOf_any (x : Tx) (w : World) :
    Calls Tryz.prog 95 #[.string (mk x)] w fun e w' => e = .returned (kdV (kdW x)) ∧ w' = w := by
  by_cases h0 : x = tAll
  · have HK : Hid (kdW x = some 0) := by show _ = _; unfold kdW; rw [if_pos h0]
    have b0 : ((mk x).toList == [97, 108, 108]) = true := lit_t h0
    clear h0
    generalize mk x = X at *
    go_enter Tryz.func95, Tryz.ntmps95
    go_wp2
    go_ret2
    exact ⟨by rw [HK.out]; rfl, rfl⟩
  by_cases h1 : x = tProc
  · have HK : Hid (kdW x = some 1) := by show _ = _; unfold kdW; rw [if_neg h0, if_pos h1]
    have b0 : ((mk x).toList == [97, 108, 108]) = false := lit_f h0
    have b1 : ((mk x).toList == [112, 114, 111, 99]) = true := lit_t h1
    clear h0 h1
    generalize mk x = X at *
    go_enter Tryz.func95, Tryz.ntmps95
    go_wp2
    go_ret2
    exact ⟨by rw [HK.out]; rfl, rfl⟩
  by_cases h2 : x = tMod
  · have HK : Hid (kdW x = some 2) := by show _ = _; unfold kdW; rw [if_neg h0, if_neg h1, if_pos h2]
    have b0 : ((mk x).toList == [97, 108, 108]) = false := lit_f h0
    have b1 : ((mk x).toList == [112, 114, 111, 99]) = false := lit_f h1
    have b2 : ((mk x).toList == [109, 111, 100]) = true := lit_t h2
    clear h0 h1 h2
    generalize mk x = X at *
    go_enter Tryz.func95, Tryz.ntmps95
    go_wp2
    go_ret2
    exact ⟨by rw [HK.out]; rfl, rfl⟩
  by_cases h3 : x = tUnits
  · have HK : Hid (kdW x = some 3) := by show _ = _; unfold kdW; rw [if_neg h0, if_neg h1, if_neg h2, if_pos h3]
    have b0 : ((mk x).toList == [97, 108, 108]) = false := lit_f h0
    have b1 : ((mk x).toList == [112, 114, 111, 99]) = false := lit_f h1
    have b2 : ((mk x).toList == [109, 111, 100]) = false := lit_f h2
    have b3 : ((mk x).toList == [117, 110, 105, 116, 115]) = true := lit_t h3
    clear h0 h1 h2 h3
    generalize mk x = X at *
    go_enter Tryz.func95, Tryz.ntmps95
    go_wp2
    go_ret2
    exact ⟨by rw [HK.out]; rfl, rfl⟩
  by_cases h4 : x = tBilled
  · have HK : Hid (kdW x = some 4) := by show _ = _; unfold kdW; rw [if_neg h0, if_neg h1, if_neg h2, if_neg h3, if_pos h4]
    have b0 : ((mk x).toList == [97, 108, 108]) = false := lit_f h0
    have b1 : ((mk x).toList == [112, 114, 111, 99]) = false := lit_f h1
    have b2 : ((mk x).toList == [109, 111, 100]) = false := lit_f h2
    have b3 : ((mk x).toList == [117, 110, 105, 116, 115]) = false := lit_f h3
    have b4 : ((mk x).toList == [98, 105, 108, 108, 101, 100]) = true := lit_t h4
    clear h0 h1 h2 h3 h4
    generalize mk x = X at *
    go_enter Tryz.func95, Tryz.ntmps95
    go_wp2
    go_ret2
    exact ⟨by rw [HK.out]; rfl, rfl⟩
  by_cases h5 : x = tOut
  · have HK : Hid (kdW x = some 5) := by show _ = _; unfold kdW; rw [if_neg h0, if_neg h1, if_neg h2, if_neg h3, if_neg h4, if_pos h5]
    have b0 : ((mk x).toList == [97, 108, 108]) = false := lit_f h0
    have b1 : ((mk x).toList == [112, 114, 111, 99]) = false := lit_f h1
    have b2 : ((mk x).toList == [109, 111, 100]) = false := lit_f h2
    have b3 : ((mk x).toList == [117, 110, 105, 116, 115]) = false := lit_f h3
    have b4 : ((mk x).toList == [98, 105, 108, 108, 101, 100]) = false := lit_f h4
    have b5 : ((mk x).toList == [111, 117, 116]) = true := lit_t h5
    clear h0 h1 h2 h3 h4 h5
    generalize mk x = X at *
    go_enter Tryz.func95, Tryz.ntmps95
    go_wp2
    go_ret2
    exact ⟨by rw [HK.out]; rfl, rfl⟩
  by_cases h6 : x = tNot
  · have HK : Hid (kdW x = some 6) := by show _ = _; unfold kdW; rw [if_neg h0, if_neg h1, if_neg h2, if_neg h3, if_neg h4, if_neg h5, if_pos h6]
    have b0 : ((mk x).toList == [97, 108, 108]) = false := lit_f h0
    have b1 : ((mk x).toList == [112, 114, 111, 99]) = false := lit_f h1
    have b2 : ((mk x).toList == [109, 111, 100]) = false := lit_f h2
    have b3 : ((mk x).toList == [117, 110, 105, 116, 115]) = false := lit_f h3
    have b4 : ((mk x).toList == [98, 105, 108, 108, 101, 100]) = false := lit_f h4
    have b5 : ((mk x).toList == [111, 117, 116]) = false := lit_f h5
    have b6 : ((mk x).toList == [110, 111, 116]) = true := lit_t h6
    clear h0 h1 h2 h3 h4 h5 h6
    generalize mk x = X at *
    go_enter Tryz.func95, Tryz.ntmps95
    go_wp2
    go_ret2
    exact ⟨by rw [HK.out]; rfl, rfl⟩
  by_cases h7 : x = tO
  · have HK : Hid (kdW x = some 7) := by show _ = _; unfold kdW; rw [if_neg h0, if_neg h1, if_neg h2, if_neg h3, if_neg h4, if_neg h5, if_neg h6, if_pos h7]
    have b0 : ((mk x).toList == [97, 108, 108]) = false := lit_f h0
    have b1 : ((mk x).toList == [112, 114, 111, 99]) = false := lit_f h1
    have b2 : ((mk x).toList == [109, 111, 100]) = false := lit_f h2
    have b3 : ((mk x).toList == [117, 110, 105, 116, 115]) = false := lit_f h3
    have b4 : ((mk x).toList == [98, 105, 108, 108, 101, 100]) = false := lit_f h4
    have b5 : ((mk x).toList == [111, 117, 116]) = false := lit_f h5
    have b6 : ((mk x).toList == [110, 111, 116]) = false := lit_f h6
    have b7 : ((mk x).toList == [40]) = true := lit_t h7
    clear h0 h1 h2 h3 h4 h5 h6 h7
    generalize mk x = X at *
    go_enter Tryz.func95, Tryz.ntmps95
    go_wp2
    go_ret2
    exact ⟨by rw [HK.out]; rfl, rfl⟩
  · have HK : Hid (kdW x = none) := by show _ = _; unfold kdW; rw [if_neg h0, if_neg h1, if_neg h2, if_neg h3, if_neg h4, if_neg h5, if_neg h6, if_neg h7]
    have b0 : ((mk x).toList == [97, 108, 108]) = false := lit_f h0
    have b1 : ((mk x).toList == [112, 114, 111, 99]) = false := lit_f h1
    have b2 : ((mk x).toList == [109, 111, 100]) = false := lit_f h2
    have b3 : ((mk x).toList == [117, 110, 105, 116, 115]) = false := lit_f h3
    have b4 : ((mk x).toList == [98, 105, 108, 108, 101, 100]) = false := lit_f h4
    have b5 : ((mk x).toList == [111, 117, 116]) = false := lit_f h5
    have b6 : ((mk x).toList == [110, 111, 116]) = false := lit_f h6
    have b7 : ((mk x).toList == [40]) = false := lit_f h7
    clear h0 h1 h2 h3 h4 h5 h6 h7
    generalize mk x = X at *
    go_enter Tryz.func95, Tryz.ntmps95
    go_wp2
    go_ret2
    exact ⟨by rw [HK.out]; rfl, rfl⟩

end Go.Proofs.YtoibhgoaibjopaaGreatDoor.Pl
end

/-
  What cents.Good and Add answer, as contracts: for every int64.
-/
section
namespace Go.Proofs.YtoibhgoaibjopaaGreatDoor.Ce
open Go.RowKit

theorem good_any (a : Int) (w : World) :
    Calls Tryz.prog 50 #[.int .i64 a] w fun e w' => e = .returned (.bool (good a)) ∧ w' = w := by
  by_cases h0 : 0 ≤ a
  · by_cases h1 : a ≤ 10000000000000
    · have g : good a = true := (good_iff a).2 ⟨h0, h1⟩
      rw [g]
      go_enter Tryz.func50, Tryz.ntmps50
      go_wp2
      go_ret
      exact ⟨rfl, rfl⟩
    · have g : good a = false := (good_not a).2 (by omega)
      rw [g]
      go_enter Tryz.func50, Tryz.ntmps50
      go_wp2
      go_ret
      exact ⟨rfl, rfl⟩
  · have g : good a = false := (good_not a).2 (by omega)
    rw [g]
    go_enter Tryz.func50, Tryz.ntmps50
    go_wp2
    go_ret
    exact ⟨rfl, rfl⟩

end Go.Proofs.YtoibhgoaibjopaaGreatDoor.Ce
end
