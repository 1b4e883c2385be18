/-
  Texts put together (merge.py): NRefMon.
-/
import Derived.Test.YtmoldgmfhcmceaaGreatDoorMc29
/-
  What the reference's Money answers, as a contract: for every int64.
-/
section
namespace Go.Proofs.YtmoldgmfhcmceaaGreatDoor.Nu
open Go.RowKit Go.Sort Go.Lib

theorem dec_hundred (u : Nat) (h : 100 ≤ u) : decDigits u = decDigits (u / 100) ++ two u := by
  rw [dec_big u (by omega), dec_big (u / 10) (by omega), List.append_assoc, show u / 10 / 10 = u / 100 by omega]
  rfl
theorem pad_end (u j : Nat) (P : List UInt8) (hP : P = List.replicate j 48 ++ decDigits u) (hj : j = 0 ∨ j + (decDigits u).length ≤ 3) (hl : 3 ≤ P.length) : P.take (P.length - 2) = decDigits (u / 100) ∧ P.drop (P.length - 2) = two u := by
  by_cases h : 100 ≤ u
  · have e := dec_hundred u h
    have hp : 1 ≤ (decDigits (u / 100)).length := by rw [Lib.decDigits_length]; exact Lib.nDigits_pos _
    have h2 : (two u).length = 2 := rfl
    have hj0 : j = 0 := by rcases hj with h | h; exact h; rw [e, List.length_append] at h; omega
    subst hj0
    rw [List.replicate_zero, List.nil_append, e] at hP
    subst hP
    rw [List.length_append, h2, Nat.add_sub_cancel]
    exact ⟨List.take_left .., List.drop_left ..⟩
  · have e0 : decDigits (u / 100) = [48] := by rw [show u / 100 = 0 by omega]; exact dec_small 0 (by omega)
    rw [e0]
    by_cases h1 : u < 10
    · obtain ⟨c, ec, et⟩ := cents_one u (by omega)
      rw [show u % 100 = u by omega] at ec
      rw [ec] at hP hj
      have : j = 2 := by rw [hP] at hl; simp at hl hj; omega
      subst this
      subst hP
      rw [et]
      exact ⟨rfl, rfl⟩
    · obtain ⟨c, d, ec, et⟩ := cents_two u (by omega)
      rw [show u % 100 = u by omega] at ec
      rw [ec] at hP hj
      have : j = 1 := by rw [hP] at hl; simp at hl hj; omega
      subst this
      subst hP
      rw [et]
      exact ⟨rfl, rfl⟩
theorem str_ext {a : ByteArray} {l : List UInt8} (h : a.data.toList = l) : a = ⟨l.toArray⟩ := by subst h; exact (Lib.mk_data a).symm
theorem rint_str (n : Int) (h0 : -9223372036854775808 ≤ n) (h1 : n ≤ 9223372036854775807) (w : World) (S : ByteArray) (hS : S = ⟨(Lib.itoa n).toArray⟩) :
    Calls Tryz.prog 26 #[.int .i64 n] w fun e w' => e = .returned (.string S) ∧ Grw w w' := by
  subst hS; exact rint_any n h0 h1 w

/-- What the padding keeps. -/
def Pad (u : Nat) (T : ByteArray) : Prop := ∃ j, T.data.toList = List.replicate j 48 ++ decDigits u ∧ (j = 0 ∨ j + (decDigits u).length ≤ 3)
theorem pad_size (u : Nat) (T : ByteArray) (h : Pad u T) (hu : u < 18446744073709551616) : T.size ≤ 20 := by
  obtain ⟨j, e, hj⟩ := h
  have hl := dec_len u 20 (by omega) (by omega)
  rw [Lib.size_eq, e, List.length_append, List.length_replicate]
  omega
theorem pad_more (u : Nat) (T : ByteArray) (h : Pad u T) (hs : T.size < 3) : Pad u ((⟨#[48]⟩ : ByteArray) ++ T) := by
  obtain ⟨j, e, hj⟩ := h
  have hs' := Lib.size_eq T
  rw [e, List.length_append, List.length_replicate] at hs'
  refine ⟨j + 1, ?_, Or.inr (by omega)⟩
  rw [app_data, e, List.replicate_succ]
  rfl
theorem pad_out (u m : Nat) (T : ByteArray) (h : Pad u T) (hs : T.size = m + 2) (hm : 1 ≤ m) : (T.extract 0 m).data.toList = decDigits (u / 100) ∧ (T.extract m (m + 2)).data.toList = two u := by
  obtain ⟨j, e, hj⟩ := h
  have hl := Lib.size_eq T
  obtain ⟨p1, p2⟩ := pad_end u j _ e hj (by omega)
  rw [show T.data.toList.length - 2 = m by omega] at p1 p2
  rw [Lib.extract_data, Lib.extract_data]
  constructor
  · simpa using p1
  · rw [← p2]; exact List.take_of_length_le (by rw [List.length_drop]; omega)

set_option maxHeartbeats 2000000 in
theorem rmoney_any (a : Int) (h0 : -9223372036854775808 ≤ a) (h1 : a ≤ 9223372036854775807) (w : World) :
    Calls Tryz.prog 27 #[.int .i64 a] w fun e w' => e = .returned (.string ⟨(moneyL a).toArray⟩) ∧ Grw w w' := by
  obtain ⟨S, hS⟩ : ∃ S : ByteArray, Hid (S = ⟨(Lib.itoa a).toArray⟩) := ⟨_, rfl⟩
  by_cases hn : a < 0
  · obtain ⟨u, rfl⟩ : ∃ u : Nat, a = -(u : Int) := ⟨a.natAbs, by omega⟩
    have hl : S.data.toList = 45 :: decDigits u := by rw [hS.out, Lib.itoa_neg u (by omega)]
    have hsz : S.size = (decDigits u).length + 1 := by rw [Lib.size_eq, hl]; rfl
    have hdl := dec_len u 20 (by omega) (by omega)
    have h1s : (1 : Int) ≤ S.size := by omega
    have HE : Hid (Pad u (S.extract 1 S.size)) := by
      refine ⟨0, ?_, Or.inl rfl⟩
      rw [Lib.extract_data, hl, List.take_of_length_le (by simp; omega)]
      rfl
    clear hl
    have HZ := Lib.hid hsz
    clear hsz
    go_enter Tryz.func27, Tryz.ntmps27
    go_wp2_with (first | (go_at_call 26; refine (rint_str _ h0 h1 _ S hS.out).mono ?_; rintro e w1 ⟨rfl, g1⟩))
    go_loopg [3] (3 - (S.extract 1 S.size).size) (fun g s3 wx => ∃ T : ByteArray, s3 = .string T ∧ g = 3 - T.size ∧ Hid (Pad u T) ∧ wx = w1)
    case atStart => exact ⟨_, rfl, rfl, HE, rfl⟩
    case round =>
      obtain ⟨T, rfl, rfl, HP, rfl⟩ := hrel
      have ht := pad_size u T HP.out (by omega)
      by_cases hlt : T.size < 3
      · have HM := Lib.hid (pad_more u T HP.out hlt)
        go_wp2
        go_roundg (2 - T.size)
        case measure => omega
        case rel => exact ⟨_, rfl, by rw [app_size]; show 2 - T.size = 3 - (1 + T.size); omega, HM, rfl⟩
      · obtain ⟨m, hm⟩ : ∃ m, T.size = m + 2 := ⟨T.size - 2, by omega⟩
        obtain ⟨p1, p2⟩ := pad_out u m T HP.out hm (by omega)
        have H : Hid ((⟨(moneyL (-(u : Int))).toArray⟩ : ByteArray) = ⟨#[45]⟩ ++ T.extract 0 m ++ ⟨#[46]⟩ ++ T.extract m (m + 2)) := by
          show _ = _
          rw [money_neg u (by omega) _ _ rfl rfl, str_ext p1, str_ext p2]
          apply ByteArray.ext; simp
        have hm1 : 1 ≤ m := by omega
        have hm2 : m ≤ 20 := by omega
        clear p1 p2 hlt ht
        go_wp2
        go_quiet (fail)
        go_wp2
        go_ret
        exact ⟨by rw [H.out]; first | rfl | simp, grw_trans g1 (grw_drewN _ _)⟩
  · obtain ⟨u, rfl⟩ : ∃ u : Nat, a = (u : Int) := ⟨a.natAbs, by omega⟩
    have hl : S.data.toList = decDigits u := by rw [hS.out, Lib.itoa_nonneg u]
    have HE : Hid (Pad u S) := by
      refine ⟨0, ?_, Or.inl rfl⟩
      rw [hl]
      rfl
    clear hl
    go_enter Tryz.func27, Tryz.ntmps27
    go_wp2_with (first | (go_at_call 26; refine (rint_str _ h0 h1 _ S hS.out).mono ?_; rintro e w1 ⟨rfl, g1⟩))
    go_loopg [3] (3 - S.size) (fun g s3 wx => ∃ T : ByteArray, s3 = .string T ∧ g = 3 - T.size ∧ Hid (Pad u T) ∧ wx = w1)
    case atStart => exact ⟨_, rfl, rfl, HE, rfl⟩
    case round =>
      obtain ⟨T, rfl, rfl, HP, rfl⟩ := hrel
      have ht := pad_size u T HP.out (by omega)
      by_cases hlt : T.size < 3
      · have HM := Lib.hid (pad_more u T HP.out hlt)
        go_wp2
        go_roundg (2 - T.size)
        case measure => omega
        case rel => exact ⟨_, rfl, by rw [app_size]; show 2 - T.size = 3 - (1 + T.size); omega, HM, rfl⟩
      · obtain ⟨m, hm⟩ : ∃ m, T.size = m + 2 := ⟨T.size - 2, by omega⟩
        obtain ⟨p1, p2⟩ := pad_out u m T HP.out hm (by omega)
        have H : Hid ((⟨(moneyL (u : Int)).toArray⟩ : ByteArray) = ⟨#[]⟩ ++ T.extract 0 m ++ ⟨#[46]⟩ ++ T.extract m (m + 2)) := by
          show _ = _
          rw [money_pos u _ _ rfl rfl, str_ext p1, str_ext p2]
          apply ByteArray.ext; simp
        have hm1 : 1 ≤ m := by omega
        have hm2 : m ≤ 20 := by omega
        clear p1 p2 hlt ht
        go_wp2
        go_quiet (fail)
        go_wp2
        go_ret
        exact ⟨by rw [H.out]; first | rfl | simp, grw_trans g1 (grw_drewN _ _)⟩
end Go.Proofs.YtmoldgmfhcmceaaGreatDoor.Nu
end
