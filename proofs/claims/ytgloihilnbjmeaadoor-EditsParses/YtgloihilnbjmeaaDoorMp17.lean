/-
  Texts put together (merge.py): WByte.
-/
import Derived.WalkKit
import Derived.Below
import Derived.Lib.Strings
import Derived.Lib.Hide
import Derived.WalkLawsBesides
import Derived.Test.YtgloihilnbjmeaaDoorMp3
import Derived.Test.YtgloihilnbjmeaaDoorMp16
/-
  What words.gap, bracket and inner, and the reference's kind, answer: for every byte. What endOf answers: for every text and place in it.
-/
section
set_option linter.unusedSimpArgs false
set_option linter.unusedVariables false
namespace Go.Proofs.YtgloihilnbjmeaaDoor.Wo
open Go.RowKit

theorem kd_nat (c : UInt8) : kd c = if c.toNat = 32 ∨ c.toNat = 10 then 1 else if c.toNat = 40 ∨ c.toNat = 41 then 2 else if c.toNat = 46 ∨ (48 ≤ c.toNat ∧ c.toNat ≤ 57) ∨ (65 ≤ c.toNat ∧ c.toNat ≤ 90) ∨ (97 ≤ c.toNat ∧ c.toNat ≤ 122) then 3 else 0 := by
  unfold kd
  simp only [← UInt8.toNat_inj, UInt8.le_iff_toNat_le]
  rfl
theorem kd_1 {c : UInt8} (h : c.toNat = 32 ∨ c.toNat = 10) : kd c = 1 := by rw [kd_nat, if_pos h]
theorem kd_2 {c : UInt8} (h : c.toNat = 40 ∨ c.toNat = 41) : kd c = 2 := by rw [kd_nat, if_neg (by omega), if_pos h]
theorem kd_3 {c : UInt8} (h : c.toNat = 46 ∨ (48 ≤ c.toNat ∧ c.toNat ≤ 57) ∨ (65 ≤ c.toNat ∧ c.toNat ≤ 90) ∨ (97 ≤ c.toNat ∧ c.toNat ≤ 122)) : kd c = 3 := by rw [kd_nat, if_neg (by omega), if_neg (by omega), if_pos h]
theorem kd_0 {c : UInt8} (h1 : ¬ (c.toNat = 32 ∨ c.toNat = 10)) (h2 : ¬ (c.toNat = 40 ∨ c.toNat = 41)) (h : ¬ (c.toNat = 46 ∨ (48 ≤ c.toNat ∧ c.toNat ≤ 57) ∨ (65 ≤ c.toNat ∧ c.toNat ≤ 90) ∨ (97 ≤ c.toNat ∧ c.toNat ≤ 122))) : kd c = 0 := by rw [kd_nat, if_neg h1, if_neg h2, if_neg h]

theorem parts (n : Nat) (h : n < 256) : n = 10 ∨ n = 32 ∨ n = 40 ∨ n = 41 ∨ n = 46 ∨ (n < 46 ∧ n ≠ 10 ∧ n ≠ 32 ∧ n ≠ 40 ∧ n ≠ 41) ∨ n = 47 ∨ (48 ≤ n ∧ n ≤ 57) ∨ (58 ≤ n ∧ n ≤ 64) ∨ (65 ≤ n ∧ n ≤ 90) ∨ (91 ≤ n ∧ n ≤ 96) ∨ (97 ≤ n ∧ n ≤ 122) ∨ (123 ≤ n ∧ n ≤ 255) := by omega

set_option maxHeartbeats 2000000 in
theorem gap_any (c : UInt8) (w : World) : Calls Tryd.prog 40 #[.int .u8 c.toNat] w fun e w' => e = .returned (.bool (kd c == 1)) ∧ w' = w := by
  have hc := c.toNat_lt
  rcases (show c.toNat = 32 ∨ c.toNat = 10 ∨ (c.toNat ≠ 32 ∧ c.toNat ≠ 10) by omega) with h | h | ⟨h, h'⟩
  · have HV : Hid ((kd c == 1) = true) := by show _ = _; rw [kd_1 (by omega)]; rfl
    rw [h]
    go_enter Tryd.func40, Tryd.ntmps40
    go_wp2
    go_ret
    exact ⟨by rw [HV.out]; rfl, rfl⟩
  · have HV : Hid ((kd c == 1) = true) := by show _ = _; rw [kd_1 (by omega)]; rfl
    rw [h]
    go_enter Tryd.func40, Tryd.ntmps40
    go_wp2
    go_ret
    exact ⟨by rw [HV.out]; rfl, rfl⟩
  · have HV : Hid ((kd c == 1) = false) := by show _ = _; rw [kd_nat, if_neg (by omega)]; split <;> (try split) <;> rfl
    have e1 : ((c.toNat : Int) == 32) = false := by rw [beq_eq_false_iff_ne]; omega
    have e2 : ((c.toNat : Int) == 10) = false := by rw [beq_eq_false_iff_ne]; omega
    go_enter Tryd.func40, Tryd.ntmps40
    go_wp2
    go_ret
    exact ⟨by rw [HV.out]; rfl, rfl⟩
set_option maxHeartbeats 2000000 in
theorem bracket_any (c : UInt8) (w : World) : Calls Tryd.prog 41 #[.int .u8 c.toNat] w fun e w' => e = .returned (.bool (kd c == 2)) ∧ w' = w := by
  have hc := c.toNat_lt
  rcases (show c.toNat = 40 ∨ c.toNat = 41 ∨ (c.toNat ≠ 40 ∧ c.toNat ≠ 41) by omega) with h | h | ⟨h, h'⟩
  · have HV : Hid ((kd c == 2) = true) := by show _ = _; rw [kd_2 (by omega)]; rfl
    rw [h]
    go_enter Tryd.func41, Tryd.ntmps41
    go_wp2
    go_ret
    exact ⟨by rw [HV.out]; rfl, rfl⟩
  · have HV : Hid ((kd c == 2) = true) := by show _ = _; rw [kd_2 (by omega)]; rfl
    rw [h]
    go_enter Tryd.func41, Tryd.ntmps41
    go_wp2
    go_ret
    exact ⟨by rw [HV.out]; rfl, rfl⟩
  · have HV : Hid ((kd c == 2) = false) := by
      show _ = _
      rw [kd_nat]
      split
      · rfl
      rw [if_neg (by omega)]
      split <;> rfl
    have e1 : ((c.toNat : Int) == 40) = false := by rw [beq_eq_false_iff_ne]; omega
    have e2 : ((c.toNat : Int) == 41) = false := by rw [beq_eq_false_iff_ne]; omega
    go_enter Tryd.func41, Tryd.ntmps41
    go_wp2
    go_ret
    exact ⟨by rw [HV.out]; rfl, rfl⟩
theorem nat_of (n : Nat) : ((n : Int) == 46) = decide (n = 46) ∧ ((n : Int) == 32) = decide (n = 32) ∧ ((n : Int) == 10) = decide (n = 10) ∧ ((n : Int) == 40) = decide (n = 40) ∧ ((n : Int) == 41) = decide (n = 41) := by
  refine ⟨?_, ?_, ?_, ?_, ?_⟩
  all_goals
    rw [Bool.eq_iff_iff, beq_iff_eq, decide_eq_true_iff]
    omega
set_option maxHeartbeats 4000000 in
theorem inner_any (c : UInt8) (w : World) : Calls Tryd.prog 42 #[.int .u8 c.toNat] w fun e w' => e = .returned (.bool (inn c)) ∧ w' = w := by
  have hc := c.toNat_lt
  obtain ⟨e1, -⟩ := nat_of c.toNat
  rcases (show c.toNat = 46 ∨ (c.toNat < 46) ∨ c.toNat = 47 ∨ (48 ≤ c.toNat ∧ c.toNat ≤ 57) ∨ (58 ≤ c.toNat ∧ c.toNat ≤ 64) ∨ (65 ≤ c.toNat ∧ c.toNat ≤ 90) ∨ (91 ≤ c.toNat ∧ c.toNat ≤ 96) ∨ (97 ≤ c.toNat ∧ c.toNat ≤ 122) ∨ (123 ≤ c.toNat ∧ c.toNat ≤ 255) by omega) with h | h | h | ⟨h, h'⟩ | ⟨h, h'⟩ | ⟨h, h'⟩ | ⟨h, h'⟩ | ⟨h, h'⟩ | ⟨h, h'⟩
  case inl | inr.inr.inr.inl | inr.inr.inr.inr.inr.inl | inr.inr.inr.inr.inr.inr.inr.inl =>
    all_goals
      have HV : Hid (inn c = true) := by show _ = _; unfold inn; rw [kd_3 (by omega)]; rfl
      have e2 : ((c.toNat : Int) == 46) = decide (c.toNat = 46) := e1
      clear e1
      first | rw [decide_eq_true h] at e2 | rw [decide_eq_false (by omega)] at e2
      generalize c.toNat = n at *
      go_enter Tryd.func42, Tryd.ntmps42
      go_wp2
      go_ret
      exact ⟨by rw [HV.out]; rfl, rfl⟩
  all_goals
    have HV : Hid (inn c = false) := by
      show _ = _
      unfold inn
      rw [kd_nat]
      split
      · rfl
      split
      · rfl
      rw [if_neg (by omega)]
      rfl
    rw [decide_eq_false (by omega)] at e1
    first | (have f57 : decide ((c.toNat : Int) ≤ 57) = false := by rw [decide_eq_false_iff_not]; omega) | (have f57 : decide ((c.toNat : Int) ≤ 57) = true := by rw [decide_eq_true_iff]; omega)
    first | (have f90 : decide ((c.toNat : Int) ≤ 90) = false := by rw [decide_eq_false_iff_not]; omega) | (have f90 : decide ((c.toNat : Int) ≤ 90) = true := by rw [decide_eq_true_iff]; omega)
    first | (have f122 : decide ((c.toNat : Int) ≤ 122) = false := by rw [decide_eq_false_iff_not]; omega) | (have f122 : decide ((c.toNat : Int) ≤ 122) = true := by rw [decide_eq_true_iff]; omega)
    generalize c.toNat = n at *
    go_enter Tryd.func42, Tryd.ntmps42
    go_wp2
    go_ret
    exact ⟨by rw [HV.out]; rfl, rfl⟩
set_option maxHeartbeats 8000000 in
theorem kind_any (c : UInt8) (w : World) : Calls Tryd.prog 49 #[.int .u8 c.toNat] w fun e w' => e = .returned (.int .i64 (kd c : Nat)) ∧ w' = w := by
  have hc := c.toNat_lt
  rcases parts c.toNat hc with h | h | h | h | h | ⟨h, p1, p2, p3, p4⟩ | h | ⟨h, h'⟩ | ⟨h, h'⟩ | ⟨h, h'⟩ | ⟨h, h'⟩ | ⟨h, h'⟩ | ⟨h, h'⟩
  all_goals
    first | (have HV : Hid (kd c = 1) := kd_1 (by omega)) | (have HV : Hid (kd c = 2) := kd_2 (by omega)) | (have HV : Hid (kd c = 3) := kd_3 (by omega)) | (have HV : Hid (kd c = 0) := kd_0 (by omega) (by omega) (by omega))
    first | (have f57 : decide ((c.toNat : Int) ≤ 57) = false := by rw [decide_eq_false_iff_not]; omega) | (have f57 : decide ((c.toNat : Int) ≤ 57) = true := by rw [decide_eq_true_iff]; omega)
    first | (have f90 : decide ((c.toNat : Int) ≤ 90) = false := by rw [decide_eq_false_iff_not]; omega) | (have f90 : decide ((c.toNat : Int) ≤ 90) = true := by rw [decide_eq_true_iff]; omega)
    first | (have f122 : decide ((c.toNat : Int) ≤ 122) = false := by rw [decide_eq_false_iff_not]; omega) | (have f122 : decide ((c.toNat : Int) ≤ 122) = true := by rw [decide_eq_true_iff]; omega)
    first | (have g10 : ((c.toNat : Int) == 10) = false := by rw [beq_eq_false_iff_ne]; omega) | (have g10 : ((c.toNat : Int) == 10) = true := by rw [beq_iff_eq]; omega)
    first | (have g32 : ((c.toNat : Int) == 32) = false := by rw [beq_eq_false_iff_ne]; omega) | (have g32 : ((c.toNat : Int) == 32) = true := by rw [beq_iff_eq]; omega)
    first | (have g40 : ((c.toNat : Int) == 40) = false := by rw [beq_eq_false_iff_ne]; omega) | (have g40 : ((c.toNat : Int) == 40) = true := by rw [beq_iff_eq]; omega)
    first | (have g41 : ((c.toNat : Int) == 41) = false := by rw [beq_eq_false_iff_ne]; omega) | (have g41 : ((c.toNat : Int) == 41) = true := by rw [beq_iff_eq]; omega)
    first | (have g46 : ((c.toNat : Int) == 46) = false := by rw [beq_eq_false_iff_ne]; omega) | (have g46 : ((c.toNat : Int) == 46) = true := by rw [beq_iff_eq]; omega)
    generalize c.toNat = n at *
    go_enter Tryd.func49, Tryd.ntmps49
    go_wp2
    go_ret
    exact ⟨by rw [HV.out]; rfl, rfl⟩

theorem take_snoc (s : ByteArray) (k : Nat) (h : k < s.size) : s.data.toList.take (k + 1) = s.data.toList.take k ++ [s[k]] := by
  rw [List.take_add_one, List.getElem?_eq_getElem (by simpa using h)]; rfl
theorem drop_at (s : ByteArray) (k : Nat) (h : k < s.size) : s.data.toList.drop k = s[k] :: s.data.toList.drop (k + 1) := by
  have h' : k < s.data.toList.length := by simpa using h
  rw [List.drop_eq_getElem_cons h']; rfl
/-- Where the run of letters, digits and dots ends that begins at a place. -/
def endR (l : Tx) (k : Nat) : Nat := k + ((l.drop k).takeWhile inn).length
theorem endR_stop (s : ByteArray) (k : Nat) (h : ¬ k < s.size) : endR s.data.toList k = k := by
  unfold endR
  rw [List.drop_eq_nil_of_le (by simp; omega)]; rfl
theorem endR_no (s : ByteArray) (k : Nat) (h : k < s.size) (hi : inn s[k] = false) : endR s.data.toList k = k := by
  unfold endR
  rw [drop_at s k h, List.takeWhile_cons, if_neg (by rw [hi]; simp)]; rfl
theorem endR_go (s : ByteArray) (k : Nat) (h : k < s.size) (hi : inn s[k] = true) : endR s.data.toList k = endR s.data.toList (k + 1) := by
  unfold endR
  rw [drop_at s k h, List.takeWhile_cons, if_pos hi, List.length_cons]; omega
theorem endR_facts (l : Tx) (k : Nat) (hk : k ≤ l.length) : k ≤ endR l k ∧ endR l k ≤ l.length ∧ allI ((l.drop k).take (endR l k - k)) = true ∧ headI (l.drop (endR l k)) = false := by
  have e : endR l k - k = ((l.drop k).takeWhile inn).length := by unfold endR; omega
  have hp : (l.drop k).take ((l.drop k).takeWhile inn).length = (l.drop k).takeWhile inn := by
    conv => lhs; rw [← List.takeWhile_append_dropWhile (p := inn) (l := l.drop k)]
    rw [List.takeWhile_append_dropWhile]
    conv => lhs; arg 2; rw [← List.takeWhile_append_dropWhile (p := inn) (l := l.drop k)]
    exact List.take_left
  have hd : l.drop (endR l k) = (l.drop k).dropWhile inn := by
    unfold endR
    rw [← List.drop_drop]
    conv => lhs; arg 2; rw [← List.takeWhile_append_dropWhile (p := inn) (l := l.drop k)]
    exact List.drop_left
  have hlen : ((l.drop k).takeWhile inn).length ≤ (l.drop k).length := (List.takeWhile_prefix _).length_le
  refine ⟨by unfold endR; omega, by unfold endR; rw [List.length_drop] at hlen; omega, ?_, ?_⟩
  · rw [e, hp]; unfold allI; exact List.all_takeWhile
  · rw [hd]
    cases h : (l.drop k).dropWhile inn with
    | nil => rfl
    | cons c t =>
      have := List.head?_dropWhile_not inn (l.drop k)
      rw [h] at this
      simpa [headI] using this

set_option maxHeartbeats 2000000 in
theorem endOf_any (s : ByteArray) (k : Nat) (w : World) (hk : k ≤ s.size) (hs : s.size ≤ 65536) :
    Calls Tryd.prog 43 #[.string s, .int .i64 (k : Nat)] w fun e w' => e = .returned (.int .i64 (endR s.data.toList k : Nat)) ∧ w' = w := by
  go_enter Tryd.func43, Tryd.ntmps43
  go_wp2
  go_loop [1] (fun i => ∃ j : Nat, j ≤ s.size ∧ i = .int .i64 (j : Nat) ∧ Hid (endR s.data.toList j = endR s.data.toList k)) (fun i => s.size - (intOf i).toNat)
  case atStart => exact ⟨k, hk, rfl, rfl⟩
  case round =>
    obtain ⟨j, hj, rfl, HE⟩ := hrel
    by_cases hlt : j < s.size
    · cases hi : inn s[j]
      · have HI := Lib.hid (endR_no s j hlt hi)
        have HC := Lib.hid (inner_any s[j])
        rw [hi] at HC
        go_wp2_with (go_at_call 42; refine (HC.out _).mono ?_; rintro e w1 ⟨rfl, rfl⟩)
        go_ret
        exact ⟨by rw [← HE.out, HI.out]; rfl, rfl⟩
      · have HI := Lib.hid (endR_go s j hlt hi)
        have HC := Lib.hid (inner_any s[j])
        rw [hi] at HC
        go_wp2_with (go_at_call 42; refine (HC.out _).mono ?_; rintro e w1 ⟨rfl, rfl⟩)
        go_round
        case rel => exact ⟨j + 1, by omega, by go_num, by rw [← HI.out]; exact HE.out⟩
        case measure => simp [intOf]; omega
    · have HI := Lib.hid (endR_stop s j hlt)
      go_wp2
      go_ret
      exact ⟨by rw [← HE.out, HI.out]; rfl, rfl⟩
end Go.Proofs.YtgloihilnbjmeaaDoor.Wo
end
