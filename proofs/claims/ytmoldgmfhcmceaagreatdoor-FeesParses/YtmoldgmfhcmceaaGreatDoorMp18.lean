/-
  Texts put together (merge.py): NDig, NRead, NLib, NCut, NRM.
-/
import Derived.WalkKit
import Derived.WalkMore
import Derived.Lib.Strings
import Derived.WalkLawsBesides
import Derived.Lib.Hide
import Derived.Lib.ItoaMem
import Derived.Below
import Derived.Deep.QuietTactic
import Derived.BigQuiet
import Derived.RegionTactic
import Derived.ChangeAlike
import Derived.Lib.IndexBytes
import Derived.Shelf.RegionOpenPlain
import Derived.Test.YtmoldgmfhcmceaaGreatDoorProg
import Derived.Test.YtmoldgmfhcmceaaGreatDoorMp3
import Derived.Test.YtmoldgmfhcmceaaGreatDoorShelf
/-
  What digits.allDigits and digits.number answer, as contracts.
-/
section
namespace Go.Proofs.YtmoldgmfhcmceaaGreatDoor.Nu
open Go.RowKit

theorem ret_int {k : IntKind} {a b : Int} (h : a = b) : Ending.returned (.int k a) = .returned (.int k b) := by rw [h]
theorem take_snoc (s : ByteArray) (k : Nat) (h : k < s.size) : s.data.toList.take (k + 1) = s.data.toList.take k ++ [s[k]] := by
  rw [List.take_succ_eq_append_getElem (by simpa using h)]; rfl
theorem take_all (s : ByteArray) (k : Nat) (h : s.size ≤ k) : s.data.toList.take k = s.data.toList := List.take_of_length_le (by simpa using h)
theorem isD_mem (s : ByteArray) (k : Nat) (h : k < s.size) (hd : allD s.data.toList = true) : isD s[k] = true := by
  unfold allD at hd
  rw [List.all_eq_true] at hd
  refine hd _ ?_
  have : s[k] = s.data.toList[k]'(by simpa using h) := by rfl
  rw [this]
  exact List.getElem_mem _

set_option maxHeartbeats 400000 in
theorem allD_any (s : ByteArray) (w : World) (hs : s.size ≤ maxLen) :
    Calls Tryz.prog 109 #[.string s] w fun e w' => e = .returned (.bool (allD s.data.toList)) ∧ w' = w := by
  unfold maxLen at hs
  go_enter Tryz.func109, Tryz.ntmps109
  go_wp2
  go_loop [6] (fun i => ∃ k : Nat, k ≤ s.size ∧ i = .int .i64 k ∧ allD (s.data.toList.take k) = true) (fun i => s.size - (intOf i).toNat)
  case atStart => exact ⟨0, Nat.zero_le _, rfl, rfl⟩
  case round =>
    obtain ⟨k, hk, rfl, ha⟩ := hrel
    have HA : Hid (allD (s.data.toList.take k) = true) := ha
    clear ha
    by_cases hlt : k < s.size
    · have HS : Hid (allD (s.data.toList.take (k + 1)) = isD s[k]) := by
        show allD (s.data.toList.take (k + 1)) = isD s[k]
        rw [take_snoc s k hlt, allD_snoc, HA.out]; simp
      by_cases h1 : (s[k].toNat : Int) < 48
      · have HF : Hid (allD s.data.toList = false) := by
          cases e : allD s.data.toList
          · rfl
          · have := (isD_iff _).1 (isD_mem s k hlt e); omega
        go_wp2
        go_ret
        exact ⟨by rw [HF.out]; rfl, rfl⟩
      · by_cases h2 : 57 < (s[k].toNat : Int)
        · have HF : Hid (allD s.data.toList = false) := by
            cases e : allD s.data.toList
            · rfl
            · have := (isD_iff _).1 (isD_mem s k hlt e); omega
          go_wp2
          go_ret
          exact ⟨by rw [HF.out]; rfl, rfl⟩
        · go_wp2
          go_round
          case rel => exact ⟨k + 1, by omega, by go_num, by rw [HS.out, isD_iff]; omega⟩
          case measure => simp [intOf]; omega
    · go_wp2
      go_ret
      exact ⟨by rw [← take_all s k (by omega), HA.out]; rfl, rfl⟩

set_option maxHeartbeats 400000 in
theorem number_any (s : ByteArray) (w : World) (hs : s.size ≤ 18) (hd : allD s.data.toList = true) :
    Calls Tryz.prog 110 #[.string s] w fun e w' => e = .returned (.int .i64 (numL s.data.toList)) ∧ w' = w := by
  have HD : Hid (allD s.data.toList = true) := hd
  clear hd
  go_enter Tryz.func110, Tryz.ntmps110
  go_wp2
  go_loop [3, 7] (fun n i => ∃ k : Nat, k ≤ s.size ∧ i = .int .i64 k ∧ n = .int .i64 (numL (s.data.toList.take k))) (fun _ i => s.size - (intOf i).toNat)
  case atStart => exact ⟨0, Nat.zero_le _, rfl, rfl⟩
  case round =>
    obtain ⟨k, hk, rfl, rfl⟩ := hrel
    by_cases hlt : k < s.size
    · have hdk := (isD_iff _).1 (isD_mem s k hlt HD.out)
      have HS : Hid (numL (s.data.toList.take (k + 1)) = numL (s.data.toList.take k) * 10 + (s[k].toNat - 48)) := by
        show numL (s.data.toList.take (k + 1)) = _
        rw [take_snoc s k hlt, numL_snoc]
      have hb : numL (s.data.toList.take k) < 100000000000000000 := by
        have h1 := numL_lt (s.data.toList.take k) (by
          have := HD.out
          unfold allD at this ⊢
          rw [List.all_eq_true] at this ⊢
          exact fun x hx => this x (List.mem_of_mem_take hx))
        have h2 : (s.data.toList.take k).length ≤ 17 := by simp; omega
        have h3 : 10 ^ (s.data.toList.take k).length ≤ 10 ^ 17 := Nat.pow_le_pow_right (by omega) h2
        have h4 : (10 : Nat) ^ 17 = 100000000000000000 := rfl
        omega
      go_wp2
      go_round
      case rel => exact ⟨k + 1, by omega, by go_num, by rw [HS.out]; go_num⟩
      case measure => simp [intOf]; omega
    · go_wp2
      go_ret
      exact ⟨ret_int (by rw [take_all s k (by omega)]), rfl⟩
end Go.Proofs.YtmoldgmfhcmceaaGreatDoor.Nu
end

/-
  What digits.ReadInt and digits.readCents answer, as contracts: for every text and every int.
-/
section
namespace Go.Proofs.YtmoldgmfhcmceaaGreatDoor.Nu
open Go.RowKit

theorem ri_none (l : List UInt8) (m : Int) (h : riOk l m = false) : riV l m = 0 ∧ riE l m = 4 := by simp [riV, riE, h]
theorem ri_some (l : List UInt8) (m : Int) (h : riOk l m = true) : riV l m = numL l ∧ riE l m = 0 := by simp [riV, riE, h]
theorem ri_long (l : List UInt8) (m : Int) (h : ¬ ((l.length : Int) ≤ m ∧ l.length ≤ 18)) : riOk l m = false := by
  cases e : riOk l m
  · rfl
  · unfold riOk at e
    simp only [Bool.and_eq_true, decide_eq_true_eq] at e
    omega
theorem ri_short (l : List UInt8) (m : Int) (h : (l.length : Int) ≤ m ∧ l.length ≤ 18) : riOk l m = canon l := by
  unfold riOk
  rw [decide_eq_true h.1, decide_eq_true h.2]
  simp
theorem ri_notD (l : List UInt8) (m : Int) (h : allD l = false) : riOk l m = false := by simp [riOk, canon, h]
theorem ri_nil (m : Int) : riOk [] m = false := by simp [riOk, canon]
theorem head_zero (s : ByteArray) (h : 0 < s.size) : s.data.toList.head? = some s[0] := by
  rw [List.head?_eq_getElem?, List.getElem?_eq_getElem (by simpa using h)]; rfl
theorem canon_zero (l : List UInt8) (h : l.head? = some 48) (h2 : (l == [48]) = false) : canon l = false := by
  unfold canon
  rw [h, h2]
  simp
theorem canon_of (l : List UInt8) (hne : l ≠ []) (hd : allD l = true) (h : l.head? ≠ some 48 ∨ l = [48]) : canon l = true := by
  unfold canon
  have e : l.isEmpty = false := by cases l with
    | nil => exact absurd rfl hne
    | cons a t => rfl
  rw [e, hd]
  rcases h with h | h
  · simp [h]
  · subst h; rfl

set_option maxHeartbeats 1000000 in
theorem readInt_any (s : ByteArray) (most : Int) (w : World) (hs : s.size ≤ maxLen) :
    Calls Tryz.prog 98 #[.string s, .int .i64 most] w fun e w' => e = .returned (.tuple #[.int .i64 (riV s.data.toList most), .int .i64 (riE s.data.toList most)]) ∧ w' = w := by
  have el : s.data.toList.length = s.size := (Lib.size_eq s).symm
  have et := Lib.toList_data s
  have HL := Lib.hid el
  have HT := Lib.hid et
  clear el et
  by_cases h0 : s.toList = []
  · have hn : riOk s.data.toList most = false := by rw [← HT.out, h0]; exact ri_nil _
    obtain ⟨e1, e2⟩ := ri_none _ _ hn
    have H1 := Lib.hid e1
    have H2 := Lib.hid e2
    clear e1 e2 hn
    go_enter Tryz.func98, Tryz.ntmps98
    go_wp2
    go_ret2
    exact ⟨by rw [H1.out, H2.out]; rfl, rfl⟩
  · have hsz : 0 < s.size := by
      rcases Nat.eq_zero_or_pos s.size with e | e
      · exfalso; apply h0; rw [HT.out]; exact List.length_eq_zero_iff.1 (by rw [HL.out]; exact e)
      · exact e
    have hne : s.data.toList ≠ [] := by rw [← HT.out]; exact h0
    have HN := Lib.hid hne
    clear hne
    by_cases hlen : (s.size : Int) ≤ most ∧ s.size ≤ 18
    · have hR := ri_short s.data.toList most (by rw [HL.out]; exact hlen)
      have HR := Lib.hid hR
      clear hR
      obtain ⟨hl1, hl2⟩ := hlen
      have hie : s.toList.isEmpty = false := by cases e : s.toList with
        | nil => exact absurd e h0
        | cons a t => rfl
      have d1 : decide (18 < (s.size : Int)) = false := by rw [decide_eq_false_iff_not]; omega
      have d2 : decide (most < (s.size : Int)) = false := by rw [decide_eq_false_iff_not]; omega
      cases ha : allD s.data.toList
      · have hn := ri_notD _ most ha
        obtain ⟨e1, e2⟩ := ri_none _ _ hn
        have H1 := Lib.hid e1
        have H2 := Lib.hid e2
        clear e1 e2 hn
        go_enter Tryz.func98, Tryz.ntmps98
        go_wp2_with (go_at_call 109; refine (allD_any _ _ hs).mono ?_; rintro e w' ⟨rfl, rfl⟩)
        all_goals
          go_ret2
          exact ⟨by rw [H1.out, H2.out]; rfl, rfl⟩
      · have HA := Lib.hid ha
        cases hz : ((s[0].toNat : Int) == 48)
        · have hc : canon s.data.toList = true := canon_of _ HN.out ha (Or.inl (by rw [head_zero s hsz]; intro e; have e2 : s[0] = 48 := by simpa using e
                                                                                   rw [e2] at hz; simp at hz))
          obtain ⟨e1, e2⟩ := ri_some _ most (by rw [HR.out]; exact hc)
          have H1 := Lib.hid e1
          have H2 := Lib.hid e2
          clear e1 e2 hc
          go_enter Tryz.func98, Tryz.ntmps98
          go_wp2_with (first | (go_at_call 109; refine (allD_any _ _ hs).mono ?_; rintro e w' ⟨rfl, rfl⟩) | (go_at_call 110; refine (number_any _ _ hl2 HA.out).mono ?_; rintro e w' ⟨rfl, rfl⟩))
          all_goals
            go_ret2
            exact ⟨by rw [H1.out, H2.out]; rfl, rfl⟩
        · have h48 : s[0] = 48 := by
            have := beq_iff_eq.1 hz
            exact UInt8.toNat_inj.1 (by simp; omega)
          cases hq : (s.toList == [48])
          rotate_left
          · have hc : canon s.data.toList = true := canon_of _ HN.out ha (Or.inr (by rw [← HT.out]; simpa using hq))
            obtain ⟨e1, e2⟩ := ri_some _ most (by rw [HR.out]; exact hc)
            have H1 := Lib.hid e1
            have H2 := Lib.hid e2
            clear e1 e2 hc h48
            go_enter Tryz.func98, Tryz.ntmps98
            go_wp2_with (first | (go_at_call 109; refine (allD_any _ _ hs).mono ?_; rintro e w' ⟨rfl, rfl⟩) | (go_at_call 110; refine (number_any _ _ hl2 HA.out).mono ?_; rintro e w' ⟨rfl, rfl⟩))
            all_goals
              go_ret2
              exact ⟨by rw [H1.out, H2.out]; rfl, rfl⟩
          · have hc : canon s.data.toList = false := canon_zero _ (by rw [head_zero s hsz, h48]) (by rw [← HT.out]; exact hq)
            obtain ⟨e1, e2⟩ := ri_none _ most (by rw [HR.out]; exact hc)
            have H1 := Lib.hid e1
            have H2 := Lib.hid e2
            clear e1 e2 hc h48
            go_enter Tryz.func98, Tryz.ntmps98
            go_wp2_with (first | (go_at_call 109; refine (allD_any _ _ hs).mono ?_; rintro e w' ⟨rfl, rfl⟩) | (go_at_call 110; refine (number_any _ _ hl2 HA.out).mono ?_; rintro e w' ⟨rfl, rfl⟩))
            all_goals
              go_ret2
              exact ⟨by rw [H1.out, H2.out]; rfl, rfl⟩
    · have hn := ri_long s.data.toList most (by rw [HL.out]; exact hlen)
      obtain ⟨e1, e2⟩ := ri_none _ _ hn
      have H1 := Lib.hid e1
      have H2 := Lib.hid e2
      clear e1 e2 hn
      by_cases hm : 18 < most
      · have hl : ¬ (s.size : Int) ≤ 18 := by omega
        clear hlen
        go_enter Tryz.func98, Tryz.ntmps98
        go_wp2
        go_ret2
        exact ⟨by rw [H1.out, H2.out]; rfl, rfl⟩
      · have hl : ¬ (s.size : Int) ≤ most := by omega
        clear hlen
        go_enter Tryz.func98, Tryz.ntmps98
        go_wp2
        go_ret2
        exact ⟨by rw [H1.out, H2.out]; rfl, rfl⟩

theorem app_data (a b : ByteArray) : (a ++ b).data.toList = a.data.toList ++ b.data.toList := by simp
theorem app_size (a b : ByteArray) : (a ++ b).size = a.size + b.size := ByteArray.size_append
def ctR (l : List UInt8) : Int := if ctOk l = true then (ctV l : Int) else 0
theorem ct_none (l : List UInt8) (h : ctOk l = false) : ctR l = 0 := by simp [ctR, h]
theorem ct_some (l : List UInt8) (h : ctOk l = true) : ctR l = ctV l := by simp [ctR, h]

set_option maxHeartbeats 1000000 in
theorem readCents_any (s : ByteArray) (w : World) (hs : s.size ≤ maxLen) :
    Calls Tryz.prog 100 #[.string s] w fun e w' => e = .returned (.tuple #[.int .i64 (ctR s.data.toList), .bool (ctOk s.data.toList)]) ∧ w' = w := by
  have el : s.data.toList.length = s.size := (Lib.size_eq s).symm
  by_cases h1 : s.size = 1
  · have ok : ctOk s.data.toList = allD s.data.toList := by simp only [ctOk, el, h1]; simp
    have vv : allD s.data.toList = true → ctR s.data.toList = numL (s ++ (⟨#[48]⟩ : ByteArray)).data.toList := fun h => by
      rw [ct_some _ (by rw [ok]; exact h), app_data, show (⟨#[48]⟩ : ByteArray).data.toList = [48] from rfl, numL_snoc]
      unfold ctV
      rw [if_pos (by rw [el, h1])]
      simp
    have hsz : (s ++ (⟨#[48]⟩ : ByteArray)).size = 2 := by rw [app_size, h1]; rfl
    have had : allD (s ++ (⟨#[48]⟩ : ByteArray)).data.toList = allD s.data.toList := by
      rw [app_data, allD_app]; simp [allD, isD]
    have HO := Lib.hid ok
    have HE := Lib.hid had
    have HZ := Lib.hid hsz
    clear ok had hsz el
    cases ha : allD s.data.toList
    · have hb : allD (s ++ (⟨#[48]⟩ : ByteArray)).data.toList = false := by rw [HE.out]; exact ha
      have H1 := Lib.hid (ct_none s.data.toList (by rw [HO.out]; exact ha))
      clear vv
      go_enter Tryz.func100, Tryz.ntmps100
      go_wp2_with (first | (go_at_call 109; refine (allD_any _ _ (by rw [HZ.out]; unfold maxLen; omega)).mono ?_; rintro e w' ⟨rfl, rfl⟩; rw [hb]))
      go_ret2
      exact ⟨by rw [H1.out, HO.out, ha]; rfl, rfl⟩
    · have hb : allD (s ++ (⟨#[48]⟩ : ByteArray)).data.toList = true := by rw [HE.out]; exact ha
      have H1 := Lib.hid (vv ha)
      clear vv
      go_enter Tryz.func100, Tryz.ntmps100
      go_wp2_with (first | (go_at_call 109; refine (allD_any _ _ (by rw [HZ.out]; unfold maxLen; omega)).mono ?_; rintro e w' ⟨rfl, rfl⟩; rw [hb]) | (go_at_call 110; refine (number_any _ _ (by rw [HZ.out]; omega) hb).mono ?_; rintro e w' ⟨rfl, rfl⟩))
      go_ret2
      exact ⟨by rw [H1.out, HO.out, ha]; rfl, rfl⟩
  · by_cases h2 : s.size = 2
    · have ok : ctOk s.data.toList = allD s.data.toList := by simp only [ctOk, el, h2]; simp
      have vv : allD s.data.toList = true → ctR s.data.toList = numL s.data.toList := fun h => by
        rw [ct_some _ (by rw [ok]; exact h)]
        unfold ctV
        rw [if_neg (by rw [el, h2]; omega)]
      have HO := Lib.hid ok
      clear ok el
      cases ha : allD s.data.toList
      · have H1 := Lib.hid (ct_none s.data.toList (by rw [HO.out]; exact ha))
        clear vv
        go_enter Tryz.func100, Tryz.ntmps100
        go_wp2_with (first | (go_at_call 109; refine (allD_any _ _ hs).mono ?_; rintro e w' ⟨rfl, rfl⟩))
        go_ret2
        exact ⟨by rw [H1.out, HO.out, ha]; rfl, rfl⟩
      · have H1 := Lib.hid (vv ha)
        have HA := Lib.hid ha
        clear vv
        go_enter Tryz.func100, Tryz.ntmps100
        go_wp2_with (first | (go_at_call 109; refine (allD_any _ _ hs).mono ?_; rintro e w' ⟨rfl, rfl⟩) | (go_at_call 110; refine (number_any _ _ (by omega) HA.out).mono ?_; rintro e w' ⟨rfl, rfl⟩))
        go_ret2
        exact ⟨by rw [H1.out, HO.out, HA.out]; rfl, rfl⟩
    · have ok : ctOk s.data.toList = false := by
        have a1 : (s.data.toList.length == 1) = false := by rw [el]; simpa using h1
        have a2 : (s.data.toList.length == 2) = false := by rw [el]; simpa using h2
        unfold ctOk; rw [a1, a2]; rfl
      have H1 := Lib.hid (ct_none s.data.toList ok)
      have HO := Lib.hid ok
      have b1 : ((s.size : Int) == 1) = false := by rw [beq_eq_false_iff_ne]; omega
      have b2 : ((s.size : Int) == 2) = false := by rw [beq_eq_false_iff_ne]; omega
      clear ok el
      go_enter Tryz.func100, Tryz.ntmps100
      go_wp2
      go_ret2
      exact ⟨by rw [H1.out, HO.out]; rfl, rfl⟩
end Go.Proofs.YtmoldgmfhcmceaaGreatDoor.Nu
end

/-
  What strconv.FormatInt and FormatUint (at base 10), strings.Cut (at a dot) and strings.CutPrefix (at a -) answer at this program, as contracts; the world behind: as it was, or grown.
-/
section
namespace Go.Proofs.YtmoldgmfhcmceaaGreatDoor.Nu
open Go.RowKit Go.Sort Go.Lib

def Tab (w : World) : Prop := Lib.TabIs Tryz.prog w "internal/strconv.uint64pow10" .u64 Lib.pow10Tab
def Grw (w w' : World) : Prop := Below w.heap.size w w'
theorem grw_refl (w : World) : Grw w w := Below.refl _ _
theorem grw_trans {a b c : World} (h : Grw a b) (k : Grw b c) : Grw a c := Below.trans h (Below.mono k h.size)
theorem grw_drewN (w : World) (k : Nat) : Grw w (w.drewN k) := ⟨rfl, rfl, rfl, Nat.le_refl _, fun _ _ => rfl⟩
theorem grw_grow (w : World) (k : Nat) (os : Array Obj) : Grw w (grow (w.drewN k) os) :=
  ⟨rfl, rfl, rfl, by simp [grow, World.drewN], fun _ hi => heap_grow_old (w.drewN k) os hi⟩
theorem tab_grw {w w' : World} (h : Tab w) (b : Grw w w') : Tab w' := by
  unfold Tab Lib.TabIs World.var? at *
  cases hg : Tryz.prog.globalNamed "internal/strconv.uint64pow10" with
  | none => simp [hg] at h
  | some g =>
    simp only [hg, Option.bind_some] at h ⊢
    have hlt : g < w.heap.size := by
      rcases Nat.lt_or_ge g w.heap.size with h' | h'
      · exact h'
      · rw [Array.getElem?_eq_none h'] at h; simp at h
    rw [b.block g hlt]
    exact h

theorem tab_below {B : Nat} {w w' : World} (h : Tab w) (b : Below B w w') (hB : 3 < B) : Tab w' := by
  unfold Tab Lib.TabIs World.var? at *
  have hg : Tryz.prog.globalNamed "internal/strconv.uint64pow10" = some 3 := by kernel_rfl
  simp only [hg, Option.bind_some] at h ⊢
  rw [b.block 3 hB]
  exact h
theorem int_any (n : Int) (h0 : -9223372036854775808 ≤ n) (h1 : n ≤ 9223372036854775807) (w : World) (hT : Tab w) :
    Calls Tryz.prog 23 #[.int .i64 n] w fun e w' => e = .returned (.string ⟨(Lib.itoa n).toArray⟩) ∧ Grw w w' := by
  go_enter Tryz.func23, Tryz.ntmps23
  go_wp2_with (go_at_call 49; refine (Tryz.strconv_FormatInt_10 n h0 h1 _ hT).mono ?_; rintro e w1 ⟨rfl, k, os, rfl⟩)
  go_ret
  exact ⟨rfl, grw_grow _ _ _⟩
end Go.Proofs.YtmoldgmfhcmceaaGreatDoor.Nu
end

/-
  What strings.Cut at a dot answers at this program, of every text; digits.ReadMoney and digits.ReadSigned, as contracts: of every text.
-/
section
namespace Go.Proofs.YtmoldgmfhcmceaaGreatDoor.Nu
open Go.RowKit Go.Sort Go.Lib

theorem whole_le (l : List UInt8) : (whole l).length ≤ l.length := by unfold whole; exact (List.takeWhile_sublist _).length_le
theorem whole_take (l : List UInt8) : whole l = l.take (whole l).length := by
  unfold whole
  induction l with
  | nil => rfl
  | cons a t ih =>
    by_cases h : (a != 46) = true
    · rw [List.takeWhile_cons, if_pos h, List.length_cons, List.take_succ_cons, ← ih]
    · rw [List.takeWhile_cons, if_neg h]; rfl
theorem index_dot (l : List UInt8) : indexByte l 46 = if hasDot l = true then ((whole l).length : Int) else -1 := by
  unfold hasDot
  induction l with
  | nil => rfl
  | cons a t ih =>
    unfold indexByte
    by_cases h : a = 46
    · subst h
      have e : whole (46 :: t) = [] := rfl
      rw [e]; rfl
    · have hb : (a == 46) = false := by simpa using h
      have e : whole (a :: t) = a :: whole t := by
        unfold whole
        rw [List.takeWhile_cons, if_pos (by simpa using h)]
      rw [if_neg (by rw [hb]; decide), e, ih]
      simp only [List.length_cons, Nat.add_lt_add_iff_right]
      by_cases hd : (whole t).length < t.length
      · have hn : (((whole t).length : Int) == -1) = false := by rw [beq_eq_false_iff_ne]; omega
        simp [hd, hn]
      · simp [hd]

set_option maxHeartbeats 2000000 in
theorem cutIn_any (s : ByteArray) (w : World) (hs : s.size ≤ maxLen) :
    Calls Tryz.prog 111 #[.string s, .string ⟨#[46]⟩] w fun e w' => e = .returned (.tuple #[.string ⟨(whole s.data.toList).toArray⟩, .string ⟨(behind s.data.toList).toArray⟩, .bool (hasDot s.data.toList)]) ∧ Grw w w' := by
  unfold maxLen at hs
  have el : s.data.toList.length = s.size := (Lib.size_eq s).symm
  have hix := index_dot s.data.toList
  have hle := whole_le s.data.toList
  cases hd : hasDot s.data.toList
  · have e0 : (whole s.data.toList).length = s.data.toList.length := by
      unfold hasDot at hd
      rw [decide_eq_false_iff_not] at hd
      omega
    have e1 : (⟨(whole s.data.toList).toArray⟩ : ByteArray) = s := by
      rw [whole_take, e0, List.take_length]
    have e2 : (⟨(behind s.data.toList).toArray⟩ : ByteArray) = ByteArray.empty := by
      unfold behind; rw [e0, List.drop_of_length_le (by omega)]; rfl
    rw [hd] at hix
    rw [e1, e2]
    have hix' : indexByte s.data.toList 46 = -1 := hix
    clear hix e0 e1 e2 hle el
    go_enter Tryz.func111, Tryz.ntmps111
    go_wp2_with (go_at_call 115; refine (Tryz.stringslite_Index_one s 46 _).mono ?_; rintro e w' ⟨rfl, rfl⟩; rw [hix'])
    go_ret3
    exact ⟨rfl, grw_refl _⟩
  · have hlt : (whole s.data.toList).length < s.data.toList.length := by
      unfold hasDot at hd
      exact of_decide_eq_true hd
    have e1 : (⟨(whole s.data.toList).toArray⟩ : ByteArray) = s.extract 0 (whole s.data.toList).length := by
      rw [Lib.extract_eq]; simp only [List.drop_zero, Nat.sub_zero]; rw [← whole_take]
    have e2 : (⟨(behind s.data.toList).toArray⟩ : ByteArray) = s.extract ((whole s.data.toList).length + 1) s.size := by
      rw [Lib.extract_eq, List.take_of_length_le (by rw [List.length_drop]; omega)]; rfl
    rw [hd] at hix
    have hix' : indexByte s.data.toList 46 = ((whole s.data.toList).length : Int) := hix
    rw [e1, e2]
    have hlt' : (whole s.data.toList).length < s.size := by omega
    clear hix e1 e2 hle el hlt
    generalize (whole s.data.toList).length = i at hix' hlt' ⊢
    have c1 : (0 : Int) ≤ ↑i := by omega
    have c2 : (↑i : Int) ≤ ↑s.size := by omega
    have c3 : (0 : Int) ≤ ↑i + 1 := by omega
    have c4 : (↑i + 1 : Int) ≤ ↑s.size := by omega
    go_enter Tryz.func111, Tryz.ntmps111
    go_wp2_with (go_at_call 115; refine (Tryz.stringslite_Index_one s 46 _).mono ?_; rintro e w' ⟨rfl, rfl⟩; rw [hix'])
    go_quiet (fail)
    go_wp2
    go_ret3
    exact ⟨rfl, grw_drewN _ _⟩

theorem cut_any (s : ByteArray) (w : World) (hs : s.size ≤ maxLen) :
    Calls Tryz.prog 99 #[.string s, .string ⟨#[46]⟩] w fun e w' => e = .returned (.tuple #[.string ⟨(whole s.data.toList).toArray⟩, .string ⟨(behind s.data.toList).toArray⟩, .bool (hasDot s.data.toList)]) ∧ Grw w w' := by
  go_enter Tryz.func99, Tryz.ntmps99
  go_wp2_with (go_at_call 111; refine (cutIn_any s _ hs).mono ?_; rintro e w1 ⟨rfl, g1⟩)
  go_ret3
  exact ⟨rfl, g1⟩
end Go.Proofs.YtmoldgmfhcmceaaGreatDoor.Nu
end

/-
  What digits.ReadMoney and digits.ReadSigned answer, as contracts: of every text.
-/
section
namespace Go.Proofs.YtmoldgmfhcmceaaGreatDoor.Nu
open Go.RowKit Go.Sort Go.Lib

theorem readInt_list (l : List UInt8) (most : Int) (w : World) (h : l.length ≤ maxLen) :
    Calls Tryz.prog 98 #[.string ⟨l.toArray⟩, .int .i64 most] w fun e w' => e = .returned (.tuple #[.int .i64 (riV l most), .int .i64 (riE l most)]) ∧ w' = w :=
  readInt_any ⟨l.toArray⟩ most w (by rw [Lib.size_eq]; exact h)
theorem readCents_list (l : List UInt8) (w : World) (h : l.length ≤ maxLen) :
    Calls Tryz.prog 100 #[.string ⟨l.toArray⟩] w fun e w' => e = .returned (.tuple #[.int .i64 (ctR l), .bool (ctOk l)]) ∧ w' = w :=
  readCents_any ⟨l.toArray⟩ w (by rw [Lib.size_eq]; exact h)
theorem behind_le (l : List UInt8) : (behind l).length ≤ l.length := by unfold behind; rw [List.length_drop]; omega
theorem mn_none (l : List UInt8) (h : mnOk l = false) : mnV l = 0 ∧ mnE l = 8 := by simp [mnV, mnE, h]
theorem mn_some (l : List UInt8) (h : mnOk l = true) : mnV l = (mnRaw l : Int) ∧ mnE l = 0 := by simp [mnV, mnE, h]
theorem ri12 (l : List UInt8) (h : riOk l 12 = true) : numL l < 1000000000000 := by
  have := ri_bd12 l
  rw [(ri_some l 12 h).1] at this
  omega

set_option maxHeartbeats 2000000 in
theorem readMoney_any (s : ByteArray) (w : World) (hs : s.size ≤ maxLen) :
    Calls Tryz.prog 83 #[.string s] w fun e w' => e = .returned (.tuple #[.int .i64 (mnV s.data.toList), .int .i64 (mnE s.data.toList)]) ∧ Grw w w' := by
  have el : s.data.toList.length = s.size := (Lib.size_eq s).symm
  have hw1 : (whole s.data.toList).length ≤ maxLen := by have := whole_le s.data.toList; omega
  have hw2 : (behind s.data.toList).length ≤ maxLen := by have := behind_le s.data.toList; omega
  have HW1 := Lib.hid hw1
  have HW2 := Lib.hid hw2
  have hw : Grw w w := grw_refl w
  clear el hw1 hw2
  cases hr : riOk (whole s.data.toList) 12
  · obtain ⟨v1, v2⟩ := ri_none _ _ hr
    obtain ⟨e1, e2⟩ := mn_none s.data.toList (by simp [mnOk, hr])
    have H1 := Lib.hid e1
    have H2 := Lib.hid e2
    clear e1 e2 hr
    go_enter Tryz.func83, Tryz.ntmps83
    go_wp2_with (first | (go_at_call 99; refine (cut_any s _ hs).mono ?_; rintro e w1 ⟨rfl, g1⟩; replace hw := grw_trans hw g1; clear g1) | (go_at_call 98; refine (readInt_list _ 12 _ HW1.out).mono ?_; rintro e w' ⟨rfl, rfl⟩))
    go_ret2
    exact ⟨by rw [H1.out, H2.out]; rfl, hw⟩
  · obtain ⟨v1, v2⟩ := ri_some _ _ hr
    have hN := ri12 _ hr
    cases hd : hasDot s.data.toList
    · by_cases hb : numL (whole s.data.toList) * 100 ≤ 10000000000000
      · obtain ⟨e1, e2⟩ := mn_some s.data.toList (by simp [mnOk, hr, hd, mnRaw, hb])
        have H1 : Hid (mnV s.data.toList = (numL (whole s.data.toList) : Int) * 100) := by
          show mnV s.data.toList = _
          rw [e1]; simp [mnRaw, hd]
        have H2 := Lib.hid e2
        clear e1 e2 hr
        go_enter Tryz.func83, Tryz.ntmps83
        go_wp2_with (first | (go_at_call 99; refine (cut_any s _ hs).mono ?_; rintro e w1 ⟨rfl, g1⟩; replace hw := grw_trans hw g1; clear g1) | (go_at_call 98; refine (readInt_list _ 12 _ HW1.out).mono ?_; rintro e w' ⟨rfl, rfl⟩))
        go_ret2
        exact ⟨by rw [H1.out, H2.out]; rfl, hw⟩
      · obtain ⟨e1, e2⟩ := mn_none s.data.toList (by simp [mnOk, hr, hd, mnRaw]; omega)
        have H1 := Lib.hid e1
        have H2 := Lib.hid e2
        clear e1 e2 hr
        go_enter Tryz.func83, Tryz.ntmps83
        go_wp2_with (first | (go_at_call 99; refine (cut_any s _ hs).mono ?_; rintro e w1 ⟨rfl, g1⟩; replace hw := grw_trans hw g1; clear g1) | (go_at_call 98; refine (readInt_list _ 12 _ HW1.out).mono ?_; rintro e w' ⟨rfl, rfl⟩))
        go_ret2
        exact ⟨by rw [H1.out, H2.out]; rfl, hw⟩
    · cases hc : ctOk (behind s.data.toList)
      · obtain ⟨e1, e2⟩ := mn_none s.data.toList (by simp [mnOk, hd, hc])
        have H1 := Lib.hid e1
        have H2 := Lib.hid e2
        clear e1 e2 hr
        go_enter Tryz.func83, Tryz.ntmps83
        go_wp2_with (first | (go_at_call 99; refine (cut_any s _ hs).mono ?_; rintro e w1 ⟨rfl, g1⟩; replace hw := grw_trans hw g1; clear g1) | (go_at_call 98; refine (readInt_list _ 12 _ HW1.out).mono ?_; rintro e w' ⟨rfl, rfl⟩) | (go_at_call 100; refine (readCents_list _ _ HW2.out).mono ?_; rintro e w' ⟨rfl, rfl⟩))
        go_ret2
        exact ⟨by rw [H1.out, H2.out]; rfl, hw⟩
      · have hcv := ct_some _ hc
        have hcb := ct_bd _ hc
        by_cases hb : numL (whole s.data.toList) * 100 + ctV (behind s.data.toList) ≤ 10000000000000
        · obtain ⟨e1, e2⟩ := mn_some s.data.toList (by simp [mnOk, hr, hd, hc, mnRaw, hb])
          have H1 : Hid (mnV s.data.toList = (numL (whole s.data.toList) : Int) * 100 + (ctV (behind s.data.toList) : Int)) := by
            show mnV s.data.toList = _
            rw [e1]; simp [mnRaw, hd]
          have H2 := Lib.hid e2
          clear e1 e2 hr
          go_enter Tryz.func83, Tryz.ntmps83
          go_wp2_with (first | (go_at_call 99; refine (cut_any s _ hs).mono ?_; rintro e w1 ⟨rfl, g1⟩; replace hw := grw_trans hw g1; clear g1) | (go_at_call 98; refine (readInt_list _ 12 _ HW1.out).mono ?_; rintro e w' ⟨rfl, rfl⟩) | (go_at_call 100; refine (readCents_list _ _ HW2.out).mono ?_; rintro e w' ⟨rfl, rfl⟩))
          go_ret2
          exact ⟨by rw [H1.out, H2.out]; rfl, hw⟩
        · obtain ⟨e1, e2⟩ := mn_none s.data.toList (by simp [mnOk, hr, hd, hc, mnRaw]; omega)
          have H1 := Lib.hid e1
          have H2 := Lib.hid e2
          clear e1 e2 hr
          go_enter Tryz.func83, Tryz.ntmps83
          go_wp2_with (first | (go_at_call 99; refine (cut_any s _ hs).mono ?_; rintro e w1 ⟨rfl, g1⟩; replace hw := grw_trans hw g1; clear g1) | (go_at_call 98; refine (readInt_list _ 12 _ HW1.out).mono ?_; rintro e w' ⟨rfl, rfl⟩) | (go_at_call 100; refine (readCents_list _ _ HW2.out).mono ?_; rintro e w' ⟨rfl, rfl⟩))
          go_ret2
          exact ⟨by rw [H1.out, H2.out]; rfl, hw⟩
end Go.Proofs.YtmoldgmfhcmceaaGreatDoor.Nu
end
