/-
  Texts put together (merge.py): NRefRM.
-/
import Derived.Test.YtmoldgmfhcmceaaGreatDoorMp35
import Derived.Test.YtmoldgmfhcmceaaGreatDoorMp18
/-
  What the reference's ReadMoney and ReadSigned answer, as contracts: of every text.
-/
section
namespace Go.Proofs.YtmoldgmfhcmceaaGreatDoor.Nu
open Go.RowKit Go.Sort Go.Lib

def dotAt (l : List UInt8) (k : Nat) : Nat := k + (whole (l.drop k)).length
theorem dot_end (l : List UInt8) : dotAt l l.length = l.length := by simp [dotAt, whole]
theorem dot_zero (l : List UInt8) : dotAt l 0 = (whole l).length := by simp [dotAt]
theorem drop_get (s : ByteArray) (k : Nat) (h : k < s.size) : s.data.toList.drop k = s[k] :: s.data.toList.drop (k + 1) := by
  rw [List.drop_eq_getElem_cons (by simpa using h)]; rfl
theorem dot_hit (s : ByteArray) (k : Nat) (h : k < s.size) (hc : s[k] = 46) : dotAt s.data.toList k = k := by
  unfold dotAt
  rw [drop_get s k h, hc]
  rfl
theorem dot_miss (s : ByteArray) (k : Nat) (h : k < s.size) (hc : s[k] ≠ 46) : dotAt s.data.toList k = dotAt s.data.toList (k + 1) := by
  unfold dotAt
  rw [drop_get s k h]
  unfold whole
  rw [List.takeWhile_cons, if_pos (by simpa using hc), List.length_cons]
  omega

theorem rreadInt_str (s : ByteArray) (most : Int) (w : World) (l : List UInt8) (hl : s.data.toList = l) :
    Calls Tryz.prog 67 #[.string s, .int .i64 most] w fun e w' => e = .returned (.tuple #[.int .i64 (riV l most), .int .i64 (riE l most)]) ∧ Grw w w' := by
  subst hl; exact rreadInt_any s most w
theorem rnumber_str (s : ByteArray) (w : World) (l : List UInt8) (hl : s.data.toList = l) (hs : l.length ≤ 18) :
    Calls Tryz.prog 87 #[.string s] w fun e w' => e = .returned (.int .i64 (rnum l)) ∧ w' = w := by
  subst hl; exact rnumber_any s w (by rw [Lib.size_eq]; exact hs)

set_option maxHeartbeats 4000000 in
theorem rreadMoney_any (s : ByteArray) (w : World) (hs : s.size ≤ maxLen) :
    Calls Tryz.prog 68 #[.string s] w fun e w' => e = .returned (.tuple #[.int .i64 (mnV s.data.toList), .int .i64 (mnE s.data.toList)]) ∧ Grw w w' := by
  unfold maxLen at hs
  have el : s.data.toList.length = s.size := (Lib.size_eq s).symm
  have HL := Lib.hid el
  have hw : Grw w w := grw_refl w
  clear el
  go_enter Tryz.func68, Tryz.ntmps68
  go_wp2
  go_loopg [4, 5] s.size (fun g d i wx => g ≤ s.size ∧ i = .int .i64 ((g : Int) - 1) ∧ Hid (d = .int .i64 (dotAt s.data.toList g : Int)) ∧ wx = w)
  case atStart => exact ⟨Nat.le_refl _, by go_num, by show _ = _; rw [← HL.out, dot_end], rfl⟩
  case round =>
    obtain ⟨hg, rfl, HD, rfl⟩ := hrel
    obtain ⟨ga, rfl⟩ : ∃ ga : Nat, ga = gk := ⟨_, rfl⟩
    cases ga with
    | succ k =>
      have hlt : k < s.size := by omega
      by_cases hc : s[k] = 46
      · have hct : ((s[k].toNat : Int) == 46) = true := by rw [hc]; rfl
        have HH := Lib.hid (dot_hit s k hlt hc)
        clear hc
        go_wp2
        go_roundg k
        case measure => omega
        case rel => exact ⟨by omega, by go_num, by show _ = _; rw [HH.out]; go_num, rfl⟩
      · have hct : ((s[k].toNat : Int) == 46) = false := by
          rw [beq_eq_false_iff_ne]; intro e
          exact hc (UInt8.toNat_inj.1 (by simp; omega))
        have HH := Lib.hid (dot_miss s k hlt hc)
        clear hc
        go_wp2
        go_roundg k
        case measure => omega
        case rel => exact ⟨by omega, by go_num, by show _ = _; rw [HH.out]; exact HD.out, rfl⟩
    | zero =>
      have hd0 := HD.out
      rw [dot_zero] at hd0
      subst hd0
      clear HD
      have hle := whole_le s.data.toList
      rw [HL.out] at hle
      have e1 : (s.extract 0 (whole s.data.toList).length).data.toList = whole s.data.toList := by
        rw [Lib.extract_data]; simp only [List.drop_zero, Nat.sub_zero]; rw [← whole_take]
      have e2 : (s.extract ((whole s.data.toList).length + 1) s.size).data.toList = behind s.data.toList := by
        rw [Lib.extract_data, List.take_of_length_le (by rw [List.length_drop, HL.out]; omega)]; rfl
      have hdd : hasDot s.data.toList = decide ((whole s.data.toList).length < s.size) := by unfold hasDot; rw [HL.out]
      have hbl : (behind s.data.toList).length = s.size - ((whole s.data.toList).length + 1) := by unfold behind; rw [List.length_drop, HL.out]
      have E1 := Lib.hid e1
      have E2 := Lib.hid e2
      clear e1 e2
      generalize (whole s.data.toList).length = i at hle E1 E2 hdd hbl ⊢
      have hi1 : (0 : Int) ≤ (i : Int) := by omega
      have hi2 : (i : Int) ≤ s.size := by omega
      cases hr : riOk (whole s.data.toList) 12
      · obtain ⟨v1, v2⟩ := ri_none _ _ hr
        obtain ⟨e1, e2⟩ := mn_none s.data.toList (by simp [mnOk, hr])
        have H1 := Lib.hid e1
        have H2 := Lib.hid e2
        clear e1 e2
        clear hr hdd
        go_wp2_with (first | (go_at_call 67; refine (rreadInt_str _ 12 _ _ E1.out).mono ?_; rintro e w1 ⟨rfl, g1⟩; replace hw := grw_trans hw g1; clear g1) | (go_at_call 87; refine (rnumber_str _ _ _ E2.out (by omega)).mono ?_; rintro e w' ⟨rfl, rfl⟩))
        go_ret2
        exact ⟨by rw [H1.out, H2.out]; rfl, hw⟩
      · obtain ⟨v1, v2⟩ := ri_some _ _ hr
        have hN := ri12 _ hr
        by_cases hlt : i < s.size
        · have hd : hasDot s.data.toList = true := by rw [hdd]; exact decide_eq_true hlt
          have hi3 : (0 : Int) ≤ (i : Int) + 1 := by omega
          have hi4 : (i : Int) + 1 ≤ s.size := by omega
          clear hdd
          by_cases n1 : (behind s.data.toList).length = 1
          · have hz : s.size = i + 2 := by omega
            replace E2 := Lib.hid (by have := E2.out; rw [hz] at this; exact this : (s.extract (i + 1) (i + 2)).data.toList = behind s.data.toList)
            cases ha : allD (behind s.data.toList)
            · have ev := rnum_none (behind s.data.toList) (Or.inr ha)
              obtain ⟨e1, e2⟩ := mn_none s.data.toList (by simp [mnOk, hd, ctOk, ha])
              have H1 := Lib.hid e1
              have H2 := Lib.hid e2
              clear e1 e2
              clear hr hd ha hbl
              go_wp2_with (first | (go_at_call 67; refine (rreadInt_str _ 12 _ _ E1.out).mono ?_; rintro e w1 ⟨rfl, g1⟩; replace hw := grw_trans hw g1; clear g1) | (go_at_call 87; refine (rnumber_str _ _ _ E2.out (by omega)).mono ?_; rintro e w' ⟨rfl, rfl⟩))
              go_ret2
              exact ⟨by rw [H1.out, H2.out]; rfl, hw⟩
            · have ev0 := rnum_some (behind s.data.toList) (by intro e; rw [e] at n1; simp at n1) ha
              have ev : ctV (behind s.data.toList) = numL (behind s.data.toList) * 10 := by unfold ctV; rw [if_pos n1]
              have hok : ctOk (behind s.data.toList) = true := by unfold ctOk; rw [n1, ha]; rfl
              have hcb := ct_bd _ hok
              by_cases hb : numL (whole s.data.toList) * 100 + numL (behind s.data.toList) * 10 ≤ 10000000000000
              · obtain ⟨e1, e2⟩ := mn_some s.data.toList (by simp [mnOk, hr, hd, hok, mnRaw, ev, hb])
                have H1 : Hid (mnV s.data.toList = (numL (whole s.data.toList) : Int) * 100 + (numL (behind s.data.toList) : Int) * 10) := by
                  show mnV s.data.toList = _
                  rw [e1]; simp only [mnRaw, hd]; first | rfl | (simp; done) | (rw [ev]; simp; done) | (rw [ev]; push_cast; rfl)
                have H2 := Lib.hid e2
                clear e1 e2
                rw [ev] at hcb
                clear hr hd ha hok ev hbl
                go_wp2_with (first | (go_at_call 67; refine (rreadInt_str _ 12 _ _ E1.out).mono ?_; rintro e w1 ⟨rfl, g1⟩; replace hw := grw_trans hw g1; clear g1) | (go_at_call 87; refine (rnumber_str _ _ _ E2.out (by omega)).mono ?_; rintro e w' ⟨rfl, rfl⟩))
                go_ret2
                exact ⟨by rw [H1.out, H2.out]; rfl, hw⟩
              · obtain ⟨e1, e2⟩ := mn_none s.data.toList (by simp [mnOk, hr, hd, hok, mnRaw, ev]; omega)
                have H1 := Lib.hid e1
                have H2 := Lib.hid e2
                clear e1 e2
                rw [ev] at hcb
                clear hr hd ha hok ev hbl
                go_wp2_with (first | (go_at_call 67; refine (rreadInt_str _ 12 _ _ E1.out).mono ?_; rintro e w1 ⟨rfl, g1⟩; replace hw := grw_trans hw g1; clear g1) | (go_at_call 87; refine (rnumber_str _ _ _ E2.out (by omega)).mono ?_; rintro e w' ⟨rfl, rfl⟩))
                go_ret2
                exact ⟨by rw [H1.out, H2.out]; rfl, hw⟩
          · by_cases n2 : (behind s.data.toList).length = 2
            · have hz : s.size = i + 3 := by omega
              replace E2 := Lib.hid (by have := E2.out; rw [hz] at this; exact this : (s.extract (i + 1) (i + 3)).data.toList = behind s.data.toList)
              cases ha : allD (behind s.data.toList)
              · have ev := rnum_none (behind s.data.toList) (Or.inr ha)
                obtain ⟨e1, e2⟩ := mn_none s.data.toList (by simp [mnOk, hd, ctOk, ha])
                have H1 := Lib.hid e1
                have H2 := Lib.hid e2
                clear e1 e2
                clear hr hd ha hbl
                go_wp2_with (first | (go_at_call 67; refine (rreadInt_str _ 12 _ _ E1.out).mono ?_; rintro e w1 ⟨rfl, g1⟩; replace hw := grw_trans hw g1; clear g1) | (go_at_call 87; refine (rnumber_str _ _ _ E2.out (by omega)).mono ?_; rintro e w' ⟨rfl, rfl⟩))
                go_ret2
                exact ⟨by rw [H1.out, H2.out]; rfl, hw⟩
              · have ev0 := rnum_some (behind s.data.toList) (by intro e; rw [e] at n2; simp at n2) ha
                have ev : ctV (behind s.data.toList) = numL (behind s.data.toList) := by unfold ctV; rw [if_neg n1]
                have hok : ctOk (behind s.data.toList) = true := by unfold ctOk; rw [n2, ha]; rfl
                have hcb := ct_bd _ hok
                by_cases hb : numL (whole s.data.toList) * 100 + numL (behind s.data.toList) ≤ 10000000000000
                · obtain ⟨e1, e2⟩ := mn_some s.data.toList (by simp [mnOk, hr, hd, hok, mnRaw, ev, hb])
                  have H1 : Hid (mnV s.data.toList = (numL (whole s.data.toList) : Int) * 100 + (numL (behind s.data.toList) : Int)) := by
                    show mnV s.data.toList = _
                    rw [e1]; simp only [mnRaw, hd]; first | rfl | (simp; done) | (rw [ev]; simp; done) | (rw [ev]; push_cast; rfl)
                  have H2 := Lib.hid e2
                  clear e1 e2
                  rw [ev] at hcb
                  clear hr hd ha hok ev hbl
                  go_wp2_with (first | (go_at_call 67; refine (rreadInt_str _ 12 _ _ E1.out).mono ?_; rintro e w1 ⟨rfl, g1⟩; replace hw := grw_trans hw g1; clear g1) | (go_at_call 87; refine (rnumber_str _ _ _ E2.out (by omega)).mono ?_; rintro e w' ⟨rfl, rfl⟩))
                  go_ret2
                  exact ⟨by rw [H1.out, H2.out]; rfl, hw⟩
                · obtain ⟨e1, e2⟩ := mn_none s.data.toList (by simp [mnOk, hr, hd, hok, mnRaw, ev]; omega)
                  have H1 := Lib.hid e1
                  have H2 := Lib.hid e2
                  clear e1 e2
                  rw [ev] at hcb
                  clear hr hd ha hok ev hbl
                  go_wp2_with (first | (go_at_call 67; refine (rreadInt_str _ 12 _ _ E1.out).mono ?_; rintro e w1 ⟨rfl, g1⟩; replace hw := grw_trans hw g1; clear g1) | (go_at_call 87; refine (rnumber_str _ _ _ E2.out (by omega)).mono ?_; rintro e w' ⟨rfl, rfl⟩))
                  go_ret2
                  exact ⟨by rw [H1.out, H2.out]; rfl, hw⟩
            · have hok : ctOk (behind s.data.toList) = false := by
                have a1 : ((behind s.data.toList).length == 1) = false := by simpa using n1
                have a2 : ((behind s.data.toList).length == 2) = false := by simpa using n2
                unfold ctOk; rw [a1, a2]; rfl
              obtain ⟨e1, e2⟩ := mn_none s.data.toList (by simp [mnOk, hd, hok])
              have H1 := Lib.hid e1
              have H2 := Lib.hid e2
              clear e1 e2
              obtain ⟨r, hz⟩ : ∃ r, s.size = i + 1 + r := ⟨s.size - (i + 1), by omega⟩
              have hr0 : ¬ (r : Int) = 1 := by omega
              have hr1 : ((r : Int) != 1) = true := by rw [bne_iff_ne]; omega
              have hr2 : ((r : Int) != 2) = true := by rw [bne_iff_ne]; omega
              clear hr hd hok hbl n1 n2
              go_wp2_with (first | (go_at_call 67; refine (rreadInt_str _ 12 _ _ E1.out).mono ?_; rintro e w1 ⟨rfl, g1⟩; replace hw := grw_trans hw g1; clear g1) | (go_at_call 87; refine (rnumber_str _ _ _ E2.out (by omega)).mono ?_; rintro e w' ⟨rfl, rfl⟩))
              go_ret2
              exact ⟨by rw [H1.out, H2.out]; rfl, hw⟩
        · have hd : hasDot s.data.toList = false := by rw [hdd]; exact decide_eq_false hlt
          have ev : True := trivial
          clear hdd
          by_cases hb : numL (whole s.data.toList) * 100 ≤ 10000000000000
          · obtain ⟨e1, e2⟩ := mn_some s.data.toList (by simp [mnOk, hr, hd, mnRaw, hb])
            have H1 : Hid (mnV s.data.toList = (numL (whole s.data.toList) : Int) * 100) := by
              show mnV s.data.toList = _
              rw [e1]; simp only [mnRaw, hd]; first | rfl | (simp; done) | (rw [ev]; simp; done) | (rw [ev]; push_cast; rfl)
            have H2 := Lib.hid e2
            clear e1 e2
            clear hr hd hbl ev
            go_wp2_with (first | (go_at_call 67; refine (rreadInt_str _ 12 _ _ E1.out).mono ?_; rintro e w1 ⟨rfl, g1⟩; replace hw := grw_trans hw g1; clear g1) | (go_at_call 87; refine (rnumber_str _ _ _ E2.out (by omega)).mono ?_; rintro e w' ⟨rfl, rfl⟩))
            go_ret2
            exact ⟨by rw [H1.out, H2.out]; rfl, hw⟩
          · obtain ⟨e1, e2⟩ := mn_none s.data.toList (by simp [mnOk, hr, hd, mnRaw]; omega)
            have H1 := Lib.hid e1
            have H2 := Lib.hid e2
            clear e1 e2
            clear hr hd hbl ev
            go_wp2_with (first | (go_at_call 67; refine (rreadInt_str _ 12 _ _ E1.out).mono ?_; rintro e w1 ⟨rfl, g1⟩; replace hw := grw_trans hw g1; clear g1) | (go_at_call 87; refine (rnumber_str _ _ _ E2.out (by omega)).mono ?_; rintro e w' ⟨rfl, rfl⟩))
            go_ret2
            exact ⟨by rw [H1.out, H2.out]; rfl, hw⟩
end Go.Proofs.YtmoldgmfhcmceaaGreatDoor.Nu
end
