/-
  Texts put together (merge.py): NDig, NRead.
-/
import Derived.WalkKit
import Derived.WalkMore
import Derived.Lib.Strings
import Derived.WalkLawsBesides
import Derived.Lib.Hide
import Derived.Test.YtgloihilnbjmeaaDoorProg
import Derived.Test.YtgloihilnbjmeaaDoorMc7
/-
  What digits.allDigits and digits.number answer, as contracts.
-/
section
namespace Go.Proofs.YtgloihilnbjmeaaDoor.Nu
open Go.RowKit

theorem ret_int {k : IntKind} {a b : Int} (h : a = b) : Ending.returned (.int k a) = .returned (.int k b) := by rw [h]
theorem take_snoc (s : ByteArray) (k : Nat) (h : k < s.size) : s.data.toList.take (k + 1) = s.data.toList.take k ++ [s[k]] := by
  rw [List.take_succ_eq_append_getElem (by simpa using h)]; rfl
theorem take_all (s : ByteArray) (k : Nat) (h : s.size ≤ k) : s.data.toList.take k = s.data.toList := List.take_of_length_le (by simpa using h)
theorem isD_mem (s : ByteArray) (k : Nat) (h : k < s.size) (hd : allD s.data.toList = true) : isD s[k] = true := by
  unfold allD at hd
  rw [List.all_eq_true] at hd
  refine hd _ ?_
  have : s[k] = s.data.toList[k]'(by simpa using h) := by rfl
  rw [this]
  exact List.getElem_mem _

set_option maxHeartbeats 400000 in
theorem allD_any (s : ByteArray) (w : World) (hs : s.size ≤ maxLen) :
    Calls Tryd.prog 81 #[.string s] w fun e w' => e = .returned (.bool (allD s.data.toList)) ∧ w' = w := by
  unfold maxLen at hs
  go_enter Tryd.func81, Tryd.ntmps81
  go_wp2
  go_loop [6] (fun i => ∃ k : Nat, k ≤ s.size ∧ i = .int .i64 k ∧ allD (s.data.toList.take k) = true) (fun i => s.size - (intOf i).toNat)
  case atStart => exact ⟨0, Nat.zero_le _, rfl, rfl⟩
  case round =>
    obtain ⟨k, hk, rfl, ha⟩ := hrel
    have HA : Hid (allD (s.data.toList.take k) = true) := ha
    clear ha
    by_cases hlt : k < s.size
    · have HS : Hid (allD (s.data.toList.take (k + 1)) = isD s[k]) := by
        show allD (s.data.toList.take (k + 1)) = isD s[k]
        rw [take_snoc s k hlt, allD_snoc, HA.out]; simp
      by_cases h1 : (s[k].toNat : Int) < 48
      · have HF : Hid (allD s.data.toList = false) := by
          cases e : allD s.data.toList
          · rfl
          · have := (isD_iff _).1 (isD_mem s k hlt e); omega
        go_wp2
        go_ret
        exact ⟨by rw [HF.out]; rfl, rfl⟩
      · by_cases h2 : 57 < (s[k].toNat : Int)
        · have HF : Hid (allD s.data.toList = false) := by
            cases e : allD s.data.toList
            · rfl
            · have := (isD_iff _).1 (isD_mem s k hlt e); omega
          go_wp2
          go_ret
          exact ⟨by rw [HF.out]; rfl, rfl⟩
        · go_wp2
          go_round
          case rel => exact ⟨k + 1, by omega, by go_num, by rw [HS.out, isD_iff]; omega⟩
          case measure => simp [intOf]; omega
    · go_wp2
      go_ret
      exact ⟨by rw [← take_all s k (by omega), HA.out]; rfl, rfl⟩

set_option maxHeartbeats 400000 in
theorem number_any (s : ByteArray) (w : World) (hs : s.size ≤ 18) (hd : allD s.data.toList = true) :
    Calls Tryd.prog 82 #[.string s] w fun e w' => e = .returned (.int .i64 (numL s.data.toList)) ∧ w' = w := by
  have HD : Hid (allD s.data.toList = true) := hd
  clear hd
  go_enter Tryd.func82, Tryd.ntmps82
  go_wp2
  go_loop [3, 7] (fun n i => ∃ k : Nat, k ≤ s.size ∧ i = .int .i64 k ∧ n = .int .i64 (numL (s.data.toList.take k))) (fun _ i => s.size - (intOf i).toNat)
  case atStart => exact ⟨0, Nat.zero_le _, rfl, rfl⟩
  case round =>
    obtain ⟨k, hk, rfl, rfl⟩ := hrel
    by_cases hlt : k < s.size
    · have hdk := (isD_iff _).1 (isD_mem s k hlt HD.out)
      have HS : Hid (numL (s.data.toList.take (k + 1)) = numL (s.data.toList.take k) * 10 + (s[k].toNat - 48)) := by
        show numL (s.data.toList.take (k + 1)) = _
        rw [take_snoc s k hlt, numL_snoc]
      have hb : numL (s.data.toList.take k) < 100000000000000000 := by
        have h1 := numL_lt (s.data.toList.take k) (by
          have := HD.out
          unfold allD at this ⊢
          rw [List.all_eq_true] at this ⊢
          exact fun x hx => this x (List.mem_of_mem_take hx))
        have h2 : (s.data.toList.take k).length ≤ 17 := by simp; omega
        have h3 : 10 ^ (s.data.toList.take k).length ≤ 10 ^ 17 := Nat.pow_le_pow_right (by omega) h2
        have h4 : (10 : Nat) ^ 17 = 100000000000000000 := rfl
        omega
      go_wp2
      go_round
      case rel => exact ⟨k + 1, by omega, by go_num, by rw [HS.out]; go_num⟩
      case measure => simp [intOf]; omega
    · go_wp2
      go_ret
      exact ⟨ret_int (by rw [take_all s k (by omega)]), rfl⟩
end Go.Proofs.YtgloihilnbjmeaaDoor.Nu
end

/-
  What digits.ReadInt and digits.readCents answer, as contracts: for every text and every int.
-/
section
namespace Go.Proofs.YtgloihilnbjmeaaDoor.Nu
open Go.RowKit

theorem ri_none (l : List UInt8) (m : Int) (h : riOk l m = false) : riV l m = 0 ∧ riE l m = 4 := by simp [riV, riE, h]
theorem ri_some (l : List UInt8) (m : Int) (h : riOk l m = true) : riV l m = numL l ∧ riE l m = 0 := by simp [riV, riE, h]
theorem ri_long (l : List UInt8) (m : Int) (h : ¬ ((l.length : Int) ≤ m ∧ l.length ≤ 18)) : riOk l m = false := by
  cases e : riOk l m
  · rfl
  · unfold riOk at e
    simp only [Bool.and_eq_true, decide_eq_true_eq] at e
    omega
theorem ri_short (l : List UInt8) (m : Int) (h : (l.length : Int) ≤ m ∧ l.length ≤ 18) : riOk l m = canon l := by
  unfold riOk
  rw [decide_eq_true h.1, decide_eq_true h.2]
  simp
theorem ri_notD (l : List UInt8) (m : Int) (h : allD l = false) : riOk l m = false := by simp [riOk, canon, h]
theorem ri_nil (m : Int) : riOk [] m = false := by simp [riOk, canon]
theorem head_zero (s : ByteArray) (h : 0 < s.size) : s.data.toList.head? = some s[0] := by
  rw [List.head?_eq_getElem?, List.getElem?_eq_getElem (by simpa using h)]; rfl
theorem canon_zero (l : List UInt8) (h : l.head? = some 48) (h2 : (l == [48]) = false) : canon l = false := by
  unfold canon
  rw [h, h2]
  simp
theorem canon_of (l : List UInt8) (hne : l ≠ []) (hd : allD l = true) (h : l.head? ≠ some 48 ∨ l = [48]) : canon l = true := by
  unfold canon
  have e : l.isEmpty = false := by cases l with
    | nil => exact absurd rfl hne
    | cons a t => rfl
  rw [e, hd]
  rcases h with h | h
  · simp [h]
  · subst h; rfl

set_option maxHeartbeats 1000000 in
theorem readInt_any (s : ByteArray) (most : Int) (w : World) (hs : s.size ≤ maxLen) :
    Calls Tryd.prog 71 #[.string s, .int .i64 most] w fun e w' => e = .returned (.tuple #[.int .i64 (riV s.data.toList most), .int .i64 (riE s.data.toList most)]) ∧ w' = w := by
  have el : s.data.toList.length = s.size := (Lib.size_eq s).symm
  have et := Lib.toList_data s
  have HL := Lib.hid el
  have HT := Lib.hid et
  clear el et
  by_cases h0 : s.toList = []
  · have hn : riOk s.data.toList most = false := by rw [← HT.out, h0]; exact ri_nil _
    obtain ⟨e1, e2⟩ := ri_none _ _ hn
    have H1 := Lib.hid e1
    have H2 := Lib.hid e2
    clear e1 e2 hn
    go_enter Tryd.func71, Tryd.ntmps71
    go_wp2
    go_ret2
    exact ⟨by rw [H1.out, H2.out]; rfl, rfl⟩
  · have hsz : 0 < s.size := by
      rcases Nat.eq_zero_or_pos s.size with e | e
      · exfalso; apply h0; rw [HT.out]; exact List.length_eq_zero_iff.1 (by rw [HL.out]; exact e)
      · exact e
    have hne : s.data.toList ≠ [] := by rw [← HT.out]; exact h0
    have HN := Lib.hid hne
    clear hne
    by_cases hlen : (s.size : Int) ≤ most ∧ s.size ≤ 18
    · have hR := ri_short s.data.toList most (by rw [HL.out]; exact hlen)
      have HR := Lib.hid hR
      clear hR
      obtain ⟨hl1, hl2⟩ := hlen
      have hie : s.toList.isEmpty = false := by cases e : s.toList with
        | nil => exact absurd e h0
        | cons a t => rfl
      have d1 : decide (18 < (s.size : Int)) = false := by rw [decide_eq_false_iff_not]; omega
      have d2 : decide (most < (s.size : Int)) = false := by rw [decide_eq_false_iff_not]; omega
      cases ha : allD s.data.toList
      · have hn := ri_notD _ most ha
        obtain ⟨e1, e2⟩ := ri_none _ _ hn
        have H1 := Lib.hid e1
        have H2 := Lib.hid e2
        clear e1 e2 hn
        go_enter Tryd.func71, Tryd.ntmps71
        go_wp2_with (go_at_call 81; refine (allD_any _ _ hs).mono ?_; rintro e w' ⟨rfl, rfl⟩)
        all_goals
          go_ret2
          exact ⟨by rw [H1.out, H2.out]; rfl, rfl⟩
      · have HA := Lib.hid ha
        cases hz : ((s[0].toNat : Int) == 48)
        · have hc : canon s.data.toList = true := canon_of _ HN.out ha (Or.inl (by rw [head_zero s hsz]; intro e; have e2 : s[0] = 48 := by simpa using e
                                                                                   rw [e2] at hz; simp at hz))
          obtain ⟨e1, e2⟩ := ri_some _ most (by rw [HR.out]; exact hc)
          have H1 := Lib.hid e1
          have H2 := Lib.hid e2
          clear e1 e2 hc
          go_enter Tryd.func71, Tryd.ntmps71
          go_wp2_with (first | (go_at_call 81; refine (allD_any _ _ hs).mono ?_; rintro e w' ⟨rfl, rfl⟩) | (go_at_call 82; refine (number_any _ _ hl2 HA.out).mono ?_; rintro e w' ⟨rfl, rfl⟩))
          all_goals
            go_ret2
            exact ⟨by rw [H1.out, H2.out]; rfl, rfl⟩
        · have h48 : s[0] = 48 := by
            have := beq_iff_eq.1 hz
            exact UInt8.toNat_inj.1 (by simp; omega)
          cases hq : (s.toList == [48])
          rotate_left
          · have hc : canon s.data.toList = true := canon_of _ HN.out ha (Or.inr (by rw [← HT.out]; simpa using hq))
            obtain ⟨e1, e2⟩ := ri_some _ most (by rw [HR.out]; exact hc)
            have H1 := Lib.hid e1
            have H2 := Lib.hid e2
            clear e1 e2 hc h48
            go_enter Tryd.func71, Tryd.ntmps71
            go_wp2_with (first | (go_at_call 81; refine (allD_any _ _ hs).mono ?_; rintro e w' ⟨rfl, rfl⟩) | (go_at_call 82; refine (number_any _ _ hl2 HA.out).mono ?_; rintro e w' ⟨rfl, rfl⟩))
            all_goals
              go_ret2
              exact ⟨by rw [H1.out, H2.out]; rfl, rfl⟩
          · have hc : canon s.data.toList = false := canon_zero _ (by rw [head_zero s hsz, h48]) (by rw [← HT.out]; exact hq)
            obtain ⟨e1, e2⟩ := ri_none _ most (by rw [HR.out]; exact hc)
            have H1 := Lib.hid e1
            have H2 := Lib.hid e2
            clear e1 e2 hc h48
            go_enter Tryd.func71, Tryd.ntmps71
            go_wp2_with (first | (go_at_call 81; refine (allD_any _ _ hs).mono ?_; rintro e w' ⟨rfl, rfl⟩) | (go_at_call 82; refine (number_any _ _ hl2 HA.out).mono ?_; rintro e w' ⟨rfl, rfl⟩))
            all_goals
              go_ret2
              exact ⟨by rw [H1.out, H2.out]; rfl, rfl⟩
    · have hn := ri_long s.data.toList most (by rw [HL.out]; exact hlen)
      obtain ⟨e1, e2⟩ := ri_none _ _ hn
      have H1 := Lib.hid e1
      have H2 := Lib.hid e2
      clear e1 e2 hn
      by_cases hm : 18 < most
      · have hl : ¬ (s.size : Int) ≤ 18 := by omega
        clear hlen
        go_enter Tryd.func71, Tryd.ntmps71
        go_wp2
        go_ret2
        exact ⟨by rw [H1.out, H2.out]; rfl, rfl⟩
      · have hl : ¬ (s.size : Int) ≤ most := by omega
        clear hlen
        go_enter Tryd.func71, Tryd.ntmps71
        go_wp2
        go_ret2
        exact ⟨by rw [H1.out, H2.out]; rfl, rfl⟩

theorem app_data (a b : ByteArray) : (a ++ b).data.toList = a.data.toList ++ b.data.toList := by simp
theorem app_size (a b : ByteArray) : (a ++ b).size = a.size + b.size := ByteArray.size_append
def ctR (l : List UInt8) : Int := if ctOk l = true then (ctV l : Int) else 0
theorem ct_none (l : List UInt8) (h : ctOk l = false) : ctR l = 0 := by simp [ctR, h]
theorem ct_some (l : List UInt8) (h : ctOk l = true) : ctR l = ctV l := by simp [ctR, h]

end Go.Proofs.YtgloihilnbjmeaaDoor.Nu
end
