/-
  Texts put together (merge.py): WByte, WMem, DDate.
-/
import Derived.WalkKit
import Derived.Below
import Derived.Lib.Strings
import Derived.Lib.Hide
import Derived.WalkLawsBesides
import Derived.Laws.AppendOwn
import Derived.Deep.AppendLies
import Derived.Deep.RegionLaw
import Derived.Deep.LoopGhost
import Derived.Deep.RegionHeld3
import Derived.Maps.AppendAt
import Derived.Test.YtmoldgmfhcmceaaGreatDoorMp2
import Derived.Test.YtmoldgmfhcmceaaGreatDoorMp9
import Derived.Test.YtmoldgmfhcmceaaGreatDoorProg
/-
  What words.gap, bracket and inner, and the reference's kind, answer: for every byte. What endOf answers: for every text and place in it.
-/
section
set_option linter.unusedSimpArgs false
set_option linter.unusedVariables false
namespace Go.Proofs.YtmoldgmfhcmceaaGreatDoor.Wo
open Go.RowKit

theorem kd_nat (c : UInt8) : kd c = if c.toNat = 32 ∨ c.toNat = 10 then 1 else if c.toNat = 40 ∨ c.toNat = 41 then 2 else if c.toNat = 46 ∨ (48 ≤ c.toNat ∧ c.toNat ≤ 57) ∨ (65 ≤ c.toNat ∧ c.toNat ≤ 90) ∨ (97 ≤ c.toNat ∧ c.toNat ≤ 122) then 3 else 0 := by
  unfold kd
  simp only [← UInt8.toNat_inj, UInt8.le_iff_toNat_le]
  rfl
theorem kd_1 {c : UInt8} (h : c.toNat = 32 ∨ c.toNat = 10) : kd c = 1 := by rw [kd_nat, if_pos h]
theorem kd_2 {c : UInt8} (h : c.toNat = 40 ∨ c.toNat = 41) : kd c = 2 := by rw [kd_nat, if_neg (by omega), if_pos h]
theorem kd_3 {c : UInt8} (h : c.toNat = 46 ∨ (48 ≤ c.toNat ∧ c.toNat ≤ 57) ∨ (65 ≤ c.toNat ∧ c.toNat ≤ 90) ∨ (97 ≤ c.toNat ∧ c.toNat ≤ 122)) : kd c = 3 := by rw [kd_nat, if_neg (by omega), if_neg (by omega), if_pos h]
theorem kd_0 {c : UInt8} (h1 : ¬ (c.toNat = 32 ∨ c.toNat = 10)) (h2 : ¬ (c.toNat = 40 ∨ c.toNat = 41)) (h : ¬ (c.toNat = 46 ∨ (48 ≤ c.toNat ∧ c.toNat ≤ 57) ∨ (65 ≤ c.toNat ∧ c.toNat ≤ 90) ∨ (97 ≤ c.toNat ∧ c.toNat ≤ 122))) : kd c = 0 := by rw [kd_nat, if_neg h1, if_neg h2, if_neg h]

theorem parts (n : Nat) (h : n < 256) : n = 10 ∨ n = 32 ∨ n = 40 ∨ n = 41 ∨ n = 46 ∨ (n < 46 ∧ n ≠ 10 ∧ n ≠ 32 ∧ n ≠ 40 ∧ n ≠ 41) ∨ n = 47 ∨ (48 ≤ n ∧ n ≤ 57) ∨ (58 ≤ n ∧ n ≤ 64) ∨ (65 ≤ n ∧ n ≤ 90) ∨ (91 ≤ n ∧ n ≤ 96) ∨ (97 ≤ n ∧ n ≤ 122) ∨ (123 ≤ n ∧ n ≤ 255) := by omega

set_option maxHeartbeats 2000000 in
theorem gap_any (c : UInt8) (w : World) : Calls Tryz.prog 57 #[.int .u8 c.toNat] w fun e w' => e = .returned (.bool (kd c == 1)) ∧ w' = w := by
  have hc := c.toNat_lt
  rcases (show c.toNat = 32 ∨ c.toNat = 10 ∨ (c.toNat ≠ 32 ∧ c.toNat ≠ 10) by omega) with h | h | ⟨h, h'⟩
  · have HV : Hid ((kd c == 1) = true) := by show _ = _; rw [kd_1 (by omega)]; rfl
    rw [h]
    go_enter Tryz.func57, Tryz.ntmps57
    go_wp2
    go_ret
    exact ⟨by rw [HV.out]; rfl, rfl⟩
  · have HV : Hid ((kd c == 1) = true) := by show _ = _; rw [kd_1 (by omega)]; rfl
    rw [h]
    go_enter Tryz.func57, Tryz.ntmps57
    go_wp2
    go_ret
    exact ⟨by rw [HV.out]; rfl, rfl⟩
  · have HV : Hid ((kd c == 1) = false) := by show _ = _; rw [kd_nat, if_neg (by omega)]; split <;> (try split) <;> rfl
    have e1 : ((c.toNat : Int) == 32) = false := by rw [beq_eq_false_iff_ne]; omega
    have e2 : ((c.toNat : Int) == 10) = false := by rw [beq_eq_false_iff_ne]; omega
    go_enter Tryz.func57, Tryz.ntmps57
    go_wp2
    go_ret
    exact ⟨by rw [HV.out]; rfl, rfl⟩
set_option maxHeartbeats 2000000 in
theorem bracket_any (c : UInt8) (w : World) : Calls Tryz.prog 58 #[.int .u8 c.toNat] w fun e w' => e = .returned (.bool (kd c == 2)) ∧ w' = w := by
  have hc := c.toNat_lt
  rcases (show c.toNat = 40 ∨ c.toNat = 41 ∨ (c.toNat ≠ 40 ∧ c.toNat ≠ 41) by omega) with h | h | ⟨h, h'⟩
  · have HV : Hid ((kd c == 2) = true) := by show _ = _; rw [kd_2 (by omega)]; rfl
    rw [h]
    go_enter Tryz.func58, Tryz.ntmps58
    go_wp2
    go_ret
    exact ⟨by rw [HV.out]; rfl, rfl⟩
  · have HV : Hid ((kd c == 2) = true) := by show _ = _; rw [kd_2 (by omega)]; rfl
    rw [h]
    go_enter Tryz.func58, Tryz.ntmps58
    go_wp2
    go_ret
    exact ⟨by rw [HV.out]; rfl, rfl⟩
  · have HV : Hid ((kd c == 2) = false) := by
      show _ = _
      rw [kd_nat]
      split
      · rfl
      rw [if_neg (by omega)]
      split <;> rfl
    have e1 : ((c.toNat : Int) == 40) = false := by rw [beq_eq_false_iff_ne]; omega
    have e2 : ((c.toNat : Int) == 41) = false := by rw [beq_eq_false_iff_ne]; omega
    go_enter Tryz.func58, Tryz.ntmps58
    go_wp2
    go_ret
    exact ⟨by rw [HV.out]; rfl, rfl⟩
theorem nat_of (n : Nat) : ((n : Int) == 46) = decide (n = 46) ∧ ((n : Int) == 32) = decide (n = 32) ∧ ((n : Int) == 10) = decide (n = 10) ∧ ((n : Int) == 40) = decide (n = 40) ∧ ((n : Int) == 41) = decide (n = 41) := by
  refine ⟨?_, ?_, ?_, ?_, ?_⟩
  all_goals
    rw [Bool.eq_iff_iff, beq_iff_eq, decide_eq_true_iff]
    omega
set_option maxHeartbeats 4000000 in
theorem inner_any (c : UInt8) (w : World) : Calls Tryz.prog 59 #[.int .u8 c.toNat] w fun e w' => e = .returned (.bool (inn c)) ∧ w' = w := by
  have hc := c.toNat_lt
  obtain ⟨e1, -⟩ := nat_of c.toNat
  rcases (show c.toNat = 46 ∨ (c.toNat < 46) ∨ c.toNat = 47 ∨ (48 ≤ c.toNat ∧ c.toNat ≤ 57) ∨ (58 ≤ c.toNat ∧ c.toNat ≤ 64) ∨ (65 ≤ c.toNat ∧ c.toNat ≤ 90) ∨ (91 ≤ c.toNat ∧ c.toNat ≤ 96) ∨ (97 ≤ c.toNat ∧ c.toNat ≤ 122) ∨ (123 ≤ c.toNat ∧ c.toNat ≤ 255) by omega) with h | h | h | ⟨h, h'⟩ | ⟨h, h'⟩ | ⟨h, h'⟩ | ⟨h, h'⟩ | ⟨h, h'⟩ | ⟨h, h'⟩
  case inl | inr.inr.inr.inl | inr.inr.inr.inr.inr.inl | inr.inr.inr.inr.inr.inr.inr.inl =>
    all_goals
      have HV : Hid (inn c = true) := by show _ = _; unfold inn; rw [kd_3 (by omega)]; rfl
      have e2 : ((c.toNat : Int) == 46) = decide (c.toNat = 46) := e1
      clear e1
      first | rw [decide_eq_true h] at e2 | rw [decide_eq_false (by omega)] at e2
      generalize c.toNat = n at *
      go_enter Tryz.func59, Tryz.ntmps59
      go_wp2
      go_ret
      exact ⟨by rw [HV.out]; rfl, rfl⟩
  all_goals
    have HV : Hid (inn c = false) := by
      show _ = _
      unfold inn
      rw [kd_nat]
      split
      · rfl
      split
      · rfl
      rw [if_neg (by omega)]
      rfl
    rw [decide_eq_false (by omega)] at e1
    first | (have f57 : decide ((c.toNat : Int) ≤ 57) = false := by rw [decide_eq_false_iff_not]; omega) | (have f57 : decide ((c.toNat : Int) ≤ 57) = true := by rw [decide_eq_true_iff]; omega)
    first | (have f90 : decide ((c.toNat : Int) ≤ 90) = false := by rw [decide_eq_false_iff_not]; omega) | (have f90 : decide ((c.toNat : Int) ≤ 90) = true := by rw [decide_eq_true_iff]; omega)
    first | (have f122 : decide ((c.toNat : Int) ≤ 122) = false := by rw [decide_eq_false_iff_not]; omega) | (have f122 : decide ((c.toNat : Int) ≤ 122) = true := by rw [decide_eq_true_iff]; omega)
    generalize c.toNat = n at *
    go_enter Tryz.func59, Tryz.ntmps59
    go_wp2
    go_ret
    exact ⟨by rw [HV.out]; rfl, rfl⟩
set_option maxHeartbeats 8000000 in
theorem kind_any (c : UInt8) (w : World) : Calls Tryz.prog 66 #[.int .u8 c.toNat] w fun e w' => e = .returned (.int .i64 (kd c : Nat)) ∧ w' = w := by
  have hc := c.toNat_lt
  rcases parts c.toNat hc with h | h | h | h | h | ⟨h, p1, p2, p3, p4⟩ | h | ⟨h, h'⟩ | ⟨h, h'⟩ | ⟨h, h'⟩ | ⟨h, h'⟩ | ⟨h, h'⟩ | ⟨h, h'⟩
  all_goals
    first | (have HV : Hid (kd c = 1) := kd_1 (by omega)) | (have HV : Hid (kd c = 2) := kd_2 (by omega)) | (have HV : Hid (kd c = 3) := kd_3 (by omega)) | (have HV : Hid (kd c = 0) := kd_0 (by omega) (by omega) (by omega))
    first | (have f57 : decide ((c.toNat : Int) ≤ 57) = false := by rw [decide_eq_false_iff_not]; omega) | (have f57 : decide ((c.toNat : Int) ≤ 57) = true := by rw [decide_eq_true_iff]; omega)
    first | (have f90 : decide ((c.toNat : Int) ≤ 90) = false := by rw [decide_eq_false_iff_not]; omega) | (have f90 : decide ((c.toNat : Int) ≤ 90) = true := by rw [decide_eq_true_iff]; omega)
    first | (have f122 : decide ((c.toNat : Int) ≤ 122) = false := by rw [decide_eq_false_iff_not]; omega) | (have f122 : decide ((c.toNat : Int) ≤ 122) = true := by rw [decide_eq_true_iff]; omega)
    first | (have g10 : ((c.toNat : Int) == 10) = false := by rw [beq_eq_false_iff_ne]; omega) | (have g10 : ((c.toNat : Int) == 10) = true := by rw [beq_iff_eq]; omega)
    first | (have g32 : ((c.toNat : Int) == 32) = false := by rw [beq_eq_false_iff_ne]; omega) | (have g32 : ((c.toNat : Int) == 32) = true := by rw [beq_iff_eq]; omega)
    first | (have g40 : ((c.toNat : Int) == 40) = false := by rw [beq_eq_false_iff_ne]; omega) | (have g40 : ((c.toNat : Int) == 40) = true := by rw [beq_iff_eq]; omega)
    first | (have g41 : ((c.toNat : Int) == 41) = false := by rw [beq_eq_false_iff_ne]; omega) | (have g41 : ((c.toNat : Int) == 41) = true := by rw [beq_iff_eq]; omega)
    first | (have g46 : ((c.toNat : Int) == 46) = false := by rw [beq_eq_false_iff_ne]; omega) | (have g46 : ((c.toNat : Int) == 46) = true := by rw [beq_iff_eq]; omega)
    generalize c.toNat = n at *
    go_enter Tryz.func66, Tryz.ntmps66
    go_wp2
    go_ret
    exact ⟨by rw [HV.out]; rfl, rfl⟩

theorem take_snoc (s : ByteArray) (k : Nat) (h : k < s.size) : s.data.toList.take (k + 1) = s.data.toList.take k ++ [s[k]] := by
  rw [List.take_add_one, List.getElem?_eq_getElem (by simpa using h)]; rfl
theorem drop_at (s : ByteArray) (k : Nat) (h : k < s.size) : s.data.toList.drop k = s[k] :: s.data.toList.drop (k + 1) := by
  have h' : k < s.data.toList.length := by simpa using h
  rw [List.drop_eq_getElem_cons h']; rfl
/-- Where the run of letters, digits and dots ends that begins at a place. -/
def endR (l : Tx) (k : Nat) : Nat := k + ((l.drop k).takeWhile inn).length
theorem endR_stop (s : ByteArray) (k : Nat) (h : ¬ k < s.size) : endR s.data.toList k = k := by
  unfold endR
  rw [List.drop_eq_nil_of_le (by simp; omega)]; rfl
theorem endR_no (s : ByteArray) (k : Nat) (h : k < s.size) (hi : inn s[k] = false) : endR s.data.toList k = k := by
  unfold endR
  rw [drop_at s k h, List.takeWhile_cons, if_neg (by rw [hi]; simp)]; rfl
theorem endR_go (s : ByteArray) (k : Nat) (h : k < s.size) (hi : inn s[k] = true) : endR s.data.toList k = endR s.data.toList (k + 1) := by
  unfold endR
  rw [drop_at s k h, List.takeWhile_cons, if_pos hi, List.length_cons]; omega
theorem endR_facts (l : Tx) (k : Nat) (hk : k ≤ l.length) : k ≤ endR l k ∧ endR l k ≤ l.length ∧ allI ((l.drop k).take (endR l k - k)) = true ∧ headI (l.drop (endR l k)) = false := by
  have e : endR l k - k = ((l.drop k).takeWhile inn).length := by unfold endR; omega
  have hp : (l.drop k).take ((l.drop k).takeWhile inn).length = (l.drop k).takeWhile inn := by
    conv => lhs; rw [← List.takeWhile_append_dropWhile (p := inn) (l := l.drop k)]
    rw [List.takeWhile_append_dropWhile]
    conv => lhs; arg 2; rw [← List.takeWhile_append_dropWhile (p := inn) (l := l.drop k)]
    exact List.take_left
  have hd : l.drop (endR l k) = (l.drop k).dropWhile inn := by
    unfold endR
    rw [← List.drop_drop]
    conv => lhs; arg 2; rw [← List.takeWhile_append_dropWhile (p := inn) (l := l.drop k)]
    exact List.drop_left
  have hlen : ((l.drop k).takeWhile inn).length ≤ (l.drop k).length := (List.takeWhile_prefix _).length_le
  refine ⟨by unfold endR; omega, by unfold endR; rw [List.length_drop] at hlen; omega, ?_, ?_⟩
  · rw [e, hp]; unfold allI; exact List.all_takeWhile
  · rw [hd]
    cases h : (l.drop k).dropWhile inn with
    | nil => rfl
    | cons c t =>
      have := List.head?_dropWhile_not inn (l.drop k)
      rw [h] at this
      simpa [headI] using this

set_option maxHeartbeats 2000000 in
theorem endOf_any (s : ByteArray) (k : Nat) (w : World) (hk : k ≤ s.size) (hs : s.size ≤ 65536) :
    Calls Tryz.prog 60 #[.string s, .int .i64 (k : Nat)] w fun e w' => e = .returned (.int .i64 (endR s.data.toList k : Nat)) ∧ w' = w := by
  go_enter Tryz.func60, Tryz.ntmps60
  go_wp2
  go_loop [1] (fun i => ∃ j : Nat, j ≤ s.size ∧ i = .int .i64 (j : Nat) ∧ Hid (endR s.data.toList j = endR s.data.toList k)) (fun i => s.size - (intOf i).toNat)
  case atStart => exact ⟨k, hk, rfl, rfl⟩
  case round =>
    obtain ⟨j, hj, rfl, HE⟩ := hrel
    by_cases hlt : j < s.size
    · cases hi : inn s[j]
      · have HI := Lib.hid (endR_no s j hlt hi)
        have HC := Lib.hid (inner_any s[j])
        rw [hi] at HC
        go_wp2_with (go_at_call 59; refine (HC.out _).mono ?_; rintro e w1 ⟨rfl, rfl⟩)
        go_ret
        exact ⟨by rw [← HE.out, HI.out]; rfl, rfl⟩
      · have HI := Lib.hid (endR_go s j hlt hi)
        have HC := Lib.hid (inner_any s[j])
        rw [hi] at HC
        go_wp2_with (go_at_call 59; refine (HC.out _).mono ?_; rintro e w1 ⟨rfl, rfl⟩)
        go_round
        case rel => exact ⟨j + 1, by omega, by go_num, by rw [← HI.out]; exact HE.out⟩
        case measure => simp [intOf]; omega
    · have HI := Lib.hid (endR_stop s j hlt)
      go_wp2
      go_ret
      exact ⟨by rw [← HE.out, HI.out]; rfl, rfl⟩
end Go.Proofs.YtmoldgmfhcmceaaGreatDoor.Wo
end

/-
  Words as they lie in memory; the closure that keeps a word.
-/
section
set_option linter.unusedSimpArgs false
set_option linter.unusedVariables false
namespace Go.Proofs.YtmoldgmfhcmceaaGreatDoor.Wo
open Go.RowKit

def wcs : List Wd → List Value
  | [] => []
  | x :: r => .string (mk x.1) :: .int .i64 (x.2 : Nat) :: wcs r
theorem wcs_app (a b : List Wd) : wcs (a ++ b) = wcs a ++ wcs b := by induction a <;> simp_all [wcs]
theorem wcs_len (a : List Wd) : (wcs a).length = a.length * 2 := by induction a <;> simp_all [wcs]; omega
theorem wcs_at : ∀ (a : List Wd) (j : Nat) (x : Wd), a[j]? = some x → (wcs a)[j * 2]? = some (.string (mk x.1)) ∧ (wcs a)[j * 2 + 1]? = some (.int .i64 (x.2 : Nat))
  | [], j, x, h => by simp at h
  | y :: r, 0, x, h => by simp at h; subst h; simp [wcs]
  | y :: r, j + 1, x, h => by
    have := wcs_at r j x (by simpa using h)
    rw [show (j + 1) * 2 = j * 2 + 2 by omega, show j * 2 + 2 + 1 = j * 2 + 1 + 2 by omega]
    simpa [wcs] using this
/-- Words in memory. -/
def WdsAt (K : Nat → Prop) (w : World) (v : Value) (ws : List Wd) : Prop :=
  ∃ a c, v = .slice a ws.length c ∧ ws.length ≤ c ∧ c ≤ maxLen ∧ (ws = [] ∨ ∃ b o, a = some ⟨b, o, none⟩ ∧ K b ∧ b < w.heap.size ∧ ∀ (j : Nat) x, ws[j]? = some x → w.cell? ⟨b, o + j * 2, none⟩ = some (.string (mk x.1)) ∧ w.cell? ⟨b, o + j * 2 + 1, none⟩ = some (.int .i64 (x.2 : Nat)))
theorem WdsAt.move {K K' : Nat → Prop} {w w' : World} {v : Value} {ws : List Wd} (h : WdsAt K w v ws) (hm : Moves K K' w w') : WdsAt K' w' v ws := by
  obtain ⟨a, c, rfl, h1, h2, h3⟩ := h
  refine ⟨a, c, rfl, h1, h2, h3.imp id ?_⟩
  rintro ⟨b, o, rfl, hk, hb, hc⟩
  obtain ⟨k', hh⟩ := hm.2 b hb hk
  refine ⟨b, o, rfl, k', Nat.lt_of_lt_of_le hb hm.1, fun j x hj => ?_⟩
  obtain ⟨q1, q2⟩ := hc j x hj
  exact ⟨by rw [World.cell?_of_block (w := w) hh]; exact q1, by rw [World.cell?_of_block (w := w) hh]; exact q2⟩
theorem WdsAt.nil (K : Nat → Prop) (w : World) : WdsAt K w (.slice none 0 0) [] := ⟨none, 0, rfl, by simp, by simp [maxLen], Or.inl rfl⟩
theorem wds_of_own {K : Nat → Prop} {w : World} {base : Nat} {v : Value} {ws : List Wd} (h : w.ownsRow base 65 2 v ws.length (wcs ws)) (hK : ∀ b, v.ownBlock = some b → K b) : WdsAt K w v ws := by
  obtain ⟨hl, h⟩ := h
  rcases h with ⟨rfl, h0⟩ | ⟨g, cap, cur, rfl, _, hg, h1, h2, hs, ht⟩
  · obtain rfl := List.length_eq_zero_iff.1 h0
    exact WdsAt.nil _ _
  · refine ⟨_, cap, rfl, h1, h2, Or.inr ⟨g, 0, rfl, hK g rfl, (Array.getElem?_eq_some_iff.1 hg).1, fun j x hj => ?_⟩⟩
    have hjl : j < ws.length := (List.getElem?_eq_some_iff.1 hj).1
    obtain ⟨e1, e2⟩ := wcs_at ws j x hj
    rw [← ht, List.getElem?_take] at e1 e2
    rw [if_pos (by omega)] at e1 e2
    refine ⟨?_, ?_⟩
    · rw [Nat.zero_add, cell_of_row w g _ cur _ (0, 0) hg]; simpa using e1
    · rw [Nat.zero_add, cell_of_row w g _ cur _ (0, 0) hg]; simpa using e2
theorem WdsAt.form {K : Nat → Prop} {w : World} {v : Value} {xs : List Wd} (h : WdsAt K w v xs) : ∃ a c, v = .slice a xs.length c ∧ xs.length ≤ c ∧ c ≤ 9223372036854775807 := by
  obtain ⟨a, c, rfl, h1, h2, _⟩ := h
  exact ⟨a, c, rfl, h1, by unfold maxLen at h2; exact h2⟩
theorem WdsAt.get {K : Nat → Prop} {w : World} {a : Option Addr} {n c : Nat} {ls : List Wd} (h : WdsAt K w (.slice a n c) ls) (k : Nat) (hk : k < ls.length) :
    ∃ b o, a = some ⟨b, o, none⟩ ∧ b < w.heap.size ∧ ls[k]? = some ls[k] ∧ w.cell? ⟨b, o + k * 2, none⟩ = some (.string (mk ls[k].1)) ∧ w.cell? ⟨b, o + k * 2 + 1, none⟩ = some (.int .i64 (ls[k].2 : Nat)) := by
  obtain ⟨a', c', he, h1, h2, h3⟩ := h
  have ha : a = a' := by injection he
  subst ha
  rcases h3 with h | ⟨b, o, ha, _, hb, hc⟩
  · subst h; simp at hk
  · have hx := List.getElem?_eq_getElem hk
    obtain ⟨q1, q2⟩ := hc k _ hx
    exact ⟨b, o, ha, hb, hx, q1, q2⟩

theorem keepB {w w' : World} {q : Nat} {o : Obj} (h : w.heap[q]? = some o) (hb : Below w.heap.size w w') : w'.heap[q]? = some o := by
  rw [hb.block q (Array.getElem?_eq_some_iff.1 h).1]; exact h
theorem box_cell {w : World} {q : Nat} {v : Value} {T : TypeId} (h : w.heap[q]? = some (.cells #[v] T (0, 0))) : w.cell? ⟨q, 0, none⟩ = some v ∧ w.frozen? ⟨q, 0, none⟩ = false :=
  ⟨by rw [cell_of_row w q 0 _ T (0, 0) h]; rfl, Lib.frozen_of_heap h 0⟩
theorem box_two {w : World} {q : Nat} {v u : Value} {T : TypeId} (h : w.heap[q]? = some (.cells #[v, u] T (0, 0))) : w.cell? ⟨q, 0, none⟩ = some v ∧ w.cell? ⟨q, 1, none⟩ = some u ∧ w.frozen? ⟨q, 0, none⟩ = false ∧ w.frozen? ⟨q, 1, none⟩ = false :=
  ⟨by rw [cell_of_row w q 0 _ T (0, 0) h]; rfl, by rw [cell_of_row w q 1 _ T (0, 0) h]; rfl, Lib.frozen_of_heap h 0, Lib.frozen_of_heap h 1⟩
theorem heap_far {w : World} {b q j : Nat} {o : Obj} {u : Value} (h : w.heap[b]? = some o) (hne : b ≠ q) : (w.setCell ⟨q, j, none⟩ u).heap[b]? = some o := by
  rw [Below.heap_setCell _ _ _ _ hne]; exact h
theorem below_alloc (w : World) (o : Obj) : Below w.heap.size w (w.alloc o) := (Below.refl _ w).alloc (Nat.le_refl _) o
theorem below_trans {a b c : World} (h : Below a.heap.size a b) (k : Below b.heap.size b c) : Below a.heap.size a c := h.trans (k.mono h.size)
theorem infoW : ∃ i, Tryz.prog.info? 65 = some i ∧ i.zero = some (.agg #[.string ByteArray.empty, .int .i64 0]) ∧ i.size = 2 ∧ i.bytes = 24 := by
  have hi : (Tryz.prog.info? 65).map (fun i => (i.zero, i.size, i.bytes)) = some (some (.agg #[.string ByteArray.empty, .int .i64 0]), 2, 24) := by kernel_rfl
  cases hq : Tryz.prog.info? 65 with
  | none => rw [hq] at hi; cases hi
  | some i =>
    rw [hq] at hi
    simp only [Option.map_some, Option.some.injEq, Prod.mk.injEq] at hi
    exact ⟨i, rfl, hi⟩
theorem kept_other {w w' : World} {q : Nat} {cs : Array Value} {T : TypeId} {B : Nat} {e : TypeId} {z : Nat} {v : Value} {n : Nat} {xs : List Value} (h : w.heap[q]? = some (.cells cs T (0, 0))) (ho : w.ownsRow B e z v n xs) (hT : T ≠ e) (hg : w.grownBy w' v.ownBlock) : w'.heap[q]? = some (.cells cs T (0, 0)) := by
  rw [hg.block q (Array.getElem?_eq_some_iff.1 h).1 ?_]
  · exact h
  · intro e
    rcases ho.2 with ⟨rfl, -⟩ | ⟨g, c, cur, rfl, _, hh, _⟩
    · cases e
    · simp only [Value.ownBlock, Option.some.injEq] at e
      subst e
      rw [hh] at h
      simp only [Option.some.injEq, Obj.cells.injEq] at h
      exact hT h.2.1.symm
/-- What Split has in memory while it goes on: the text's box, the answer's box, the box of the words' row, and the row. -/
def KInv (B : Nat) (s : ByteArray) (ws : List Wd) (w : World) : Prop :=
  w.heap[B]? = some (.cells #[.string s] 9 (0, 0)) ∧ w.heap[B + 1]? = some (.cells #[.int .i64 0, .int .i64 0] 30 (0, 0)) ∧ ∃ v, w.heap[B + 2]? = some (.cells #[v] 52 (0, 0)) ∧ w.ownsRow B 65 2 v ws.length (wcs ws)
theorem own_far {w : World} {B : Nat} {v : Value} {n : Nat} {xs : List Value} {q j : Nat} {u x : Value} {T : TypeId} (ho : w.ownsRow B 65 2 v n xs) (hq : w.heap[q]? = some (.cells #[x] T (0, 0))) (hT : T ≠ 65) : (w.setCell ⟨q, j, none⟩ u).ownsRow B 65 2 v n xs := by
  refine ⟨ho.1, ho.2.imp id ?_⟩
  rintro ⟨g, c, cur, rfl, h0, hh, hr⟩
  refine ⟨g, c, cur, rfl, h0, heap_far hh ?_, hr⟩
  rintro rfl
  rw [hh] at hq
  simp only [Option.some.injEq, Obj.cells.injEq] at hq
  exact hT hq.2.1.symm
theorem box_set {w : World} {q : Nat} {v u : Value} {T : TypeId} (h : w.heap[q]? = some (.cells #[v] T (0, 0))) : (w.setCell ⟨q, 0, none⟩ u).heap[q]? = some (.cells #[u] T (0, 0)) := one_setCell h

set_option maxHeartbeats 4000000 in
theorem keep_any (i j : Nat) (s : ByteArray) (B : Nat) (ws : List Wd) (w : World) (h : KInv B s ws w) (hij : i ≤ j) (hj : j ≤ s.size) (hs : s.size ≤ 65536) (hl : ws.length ≤ 65536) :
    Calls Tryz.prog 56 #[.int .i64 (i : Nat), .int .i64 (j : Nat), .pointer (some ⟨B + 2, 0, none⟩), .pointer (some ⟨B, 0, none⟩)] w fun e w' => e = .returned (.tuple #[]) ∧ KInv B s (ws ++ [((s.data.toList.drop i).take (j - i), i)]) w' ∧ Below B w w' := by
  obtain ⟨k1, k2, v, k3, k4⟩ := h
  obtain ⟨iw, j1, j2, j3, j4⟩ := infoW
  have HXE : Hid (s.extract i j = mk ((s.data.toList.drop i).take (j - i))) := Lib.extract_eq s i j
  have hb0 : B < w.heap.size := (Array.getElem?_eq_some_iff.1 k1).1
  have hb2 : B + 2 < w.heap.size := (Array.getElem?_eq_some_iff.1 k3).1
  obtain ⟨c1, -⟩ := box_cell k1
  obtain ⟨c3, f3⟩ := box_cell k3
  have H1 := Lib.hid k1
  have H2 := Lib.hid k2
  have H3 := Lib.hid k3
  have H4 := Lib.hid k4
  clear k1 k2 k3 k4
  obtain ⟨x, hx⟩ : ∃ x, s.extract i j = x := ⟨_, rfl⟩
  have hB := Below.drew (below_alloc w (.cells #[.string x, .int .i64 (i : Nat)] 65))
  have HG1 := Lib.hid (keepB H1.out hB)
  have HG2 := Lib.hid (keepB H2.out hB)
  have HG3 := Lib.hid (keepB H3.out hB)
  have HB := Lib.hid (hB.mono (Nat.le_of_lt hb0))
  have hO : ((w.alloc (.cells #[.string x, .int .i64 (i : Nat)] 65)).drew).ownsRow B 65 2 v ws.length (wcs ws) := by
    refine ⟨H4.out.1, H4.out.2.imp id ?_⟩
    rintro ⟨g, c, cur, rfl, h0, hh, hr⟩
    exact ⟨g, c, cur, rfl, h0, keepB hh hB, hr⟩
  have HO := Lib.hid hO
  have hN : (w.alloc (.cells #[.string x, .int .i64 (i : Nat)] 65)).drew.heap[w.heap.size]? = some (.cells #[.string x, .int .i64 (i : Nat)] 65 (0, 0)) := heap_alloc_new w _
  have HNW := Lib.hid (World.news_of_block hN)
  have HHS : Hid ((w.alloc (.cells #[.string x, .int .i64 (i : Nat)] 65)).drew.heap.size = w.heap.size + 1) := by show (w.alloc _).heap.size = _; simp
  have HON : Hid (∀ u ∈ [Value.string x, .int .i64 (i : Nat)], u.oneCell' = true) := fun u hu => by simp at hu; rcases hu with rfl | rfl <;> rfl
  have HLE : Hid (B ≤ (w.alloc (.cells #[.string x, .int .i64 (i : Nat)] 65)).drew.heap.size) := by show _ ≤ _; rw [HHS.out]; omega
  have hc1 := (box_cell HG1.out).1
  have hc3 := (box_cell HG3.out).1
  have HX := Lib.hid hx
  clear hN hB hO
  go_enter Tryz.func56, Tryz.ntmps56
  go_region_law (first | (refine step_append_lies _ rfl _ _ 52 rfl B 65 iw (.agg #[.string ByteArray.empty, .int .i64 0]) 2 24 Tryz.underlying52 j1 j2 j3 j4 rfl (by omega) v ws.length (wcs ws) (by simp [Act.eval, Act.put]) HO.out ⟨w.heap.size, 0, none⟩ 1 1 [.string x, .int .i64 (i : Nat)] (by simp [Act.eval, Act.put]) rfl HNW.out HON.out (by omega) (by simp only [maxLen]; omega) (by omega) HLE.out (w.heap.size + 1) HHS.out ?_; intro g1 cap1 w1 hown hgrow hat hlt; have hq1 := kept_other HG1.out HO.out (by decide) hgrow; have hq2 := kept_other HG2.out HO.out (by decide) hgrow; have hq3 := kept_other HG3.out HO.out (by decide) hgrow; obtain ⟨x3, x4⟩ := box_cell hq3; have HQ1 := Lib.hid hq1; have HQ2 := Lib.hid hq2; have HQ3 := Lib.hid hq3; have HOW := Lib.hid hown; have HBW := Lib.hid (HB.out.grown hgrow HLE.out fun k hk => (HO.out.lt k hk).1); clear hown hgrow hat hlt hq1 hq2 hq3))
  all_goals go_wp2
  all_goals go_end0
  all_goals
    refine ⟨rfl, ⟨heap_far HQ1.out (by omega), heap_far HQ2.out (by omega), _, box_set HQ3.out, ?_⟩, HBW.out.setCell (p := ⟨B + 2, 0, none⟩) (by simp) _⟩
    have hcs : wcs [((s.data.toList.drop i).take (j - i), i)] = [.string x, .int .i64 (i : Nat)] := by rw [← HX.out, HXE.out]; rfl
    rw [wcs_app, List.length_append, hcs]
    exact own_far HOW.out HQ3.out (by decide)
end Go.Proofs.YtmoldgmfhcmceaaGreatDoor.Wo
end

/-
  What date.leap, length, split, Good and Year answer, as contracts.
-/
section
namespace Go.Proofs.YtmoldgmfhcmceaaGreatDoor.Da
open Go.RowKit

/-- The table of the months' lengths lies in the program's first variable. -/
def Tab (w : World) : Prop := ∀ i : Nat, i < 12 → w.cell? ⟨2, i, none⟩ = some (.int .i64 (lens.getD i 0))

theorem leap_any (y : Int) (w : World) (h : 0 ≤ y) :
    Calls Tryz.prog 97 #[.int .i64 y] w fun e w' => e = .returned (.bool (leapB y)) ∧ w' = w := by
  unfold leapB
  cases h1 : (y % 4 == 0) <;> cases h2 : (y % 100 != 0) <;> cases h3 : (y % 400 == 0) <;>
  · go_enter Tryz.func97, Tryz.ntmps97
    go_wp2
    go_ret
    exact ⟨by first | rfl | simp [h1, h2, h3], rfl⟩

theorem tab_cells {w : World} (hT : Tab w) : w.cell? ⟨2, 0, none⟩ = some (.int .i64 31) ∧ w.cell? ⟨2, 1, none⟩ = some (.int .i64 28) ∧ w.cell? ⟨2, 2, none⟩ = some (.int .i64 31) ∧ w.cell? ⟨2, 3, none⟩ = some (.int .i64 30) ∧ w.cell? ⟨2, 4, none⟩ = some (.int .i64 31) ∧ w.cell? ⟨2, 5, none⟩ = some (.int .i64 30) ∧
    w.cell? ⟨2, 6, none⟩ = some (.int .i64 31) ∧ w.cell? ⟨2, 7, none⟩ = some (.int .i64 31) ∧ w.cell? ⟨2, 8, none⟩ = some (.int .i64 30) ∧ w.cell? ⟨2, 9, none⟩ = some (.int .i64 31) ∧ w.cell? ⟨2, 10, none⟩ = some (.int .i64 30) ∧ w.cell? ⟨2, 11, none⟩ = some (.int .i64 31) :=
  ⟨hT 0 (by decide), hT 1 (by decide), hT 2 (by decide), hT 3 (by decide), hT 4 (by decide), hT 5 (by decide), hT 6 (by decide), hT 7 (by decide), hT 8 (by decide), hT 9 (by decide), hT 10 (by decide), hT 11 (by decide)⟩

set_option maxHeartbeats 1000000 in
theorem length_any (y m : Int) (w : World) (hT : Tab w) (h : 0 ≤ y) (h1 : 1 ≤ m) (h2 : m ≤ 12) :
    Calls Tryz.prog 79 #[.int .i64 y, .int .i64 m] w fun e w' => e = .returned (.int .i64 (lenM y m)) ∧ w' = w := by
  obtain ⟨c0, c1, c2, c3, c4, c5, c6, c7, c8, c9, c10, c11⟩ := tab_cells hT
  clear hT
  rcases month_cases m h1 h2 with rfl | rfl | rfl | rfl | rfl | rfl | rfl | rfl | rfl | rfl | rfl | rfl
  case inr.inl =>
    cases b : leapB y
    · go_enter Tryz.func79, Tryz.ntmps79
      go_wp2_with (go_at_call 97; refine (leap_any _ _ h).mono ?_; rintro e w' ⟨rfl, rfl⟩)
      go_ret
      exact ⟨by simp [lenM, b, lenT, lens], rfl⟩
    · go_enter Tryz.func79, Tryz.ntmps79
      go_wp2_with (go_at_call 97; refine (leap_any _ _ h).mono ?_; rintro e w' ⟨rfl, rfl⟩)
      go_ret
      exact ⟨by simp [lenM, b], rfl⟩
  all_goals
    go_enter Tryz.func79, Tryz.ntmps79
    go_wp2
    go_ret
    exact ⟨rfl, rfl⟩

theorem quo_bd (n k : Int) (h : -9223372036854775808 ≤ n) (h' : n ≤ 9223372036854775807) (hk : 1 ≤ k) : -9223372036854775808 ≤ n.tdiv k ∧ n.tdiv k ≤ 9223372036854775807 := by
  have l : ∀ a : Int, 0 ≤ a → 0 ≤ a.tdiv k ∧ a.tdiv k ≤ a := fun a ha => by
    rw [Int.tdiv_eq_ediv_of_nonneg ha]
    exact ⟨Int.ediv_nonneg ha (by omega), Int.ediv_le_self _ ha⟩
  rcases Int.lt_or_le n 0 with c | c
  · have := l (-n) (by omega)
    rw [Int.neg_tdiv] at this
    omega
  · have := l n c
    omega

theorem split_any (n : Int) (w : World) (h : -9223372036854775808 ≤ n) (h' : n ≤ 9223372036854775807) :
    Calls Tryz.prog 78 #[.int .i64 n] w fun e w' => e = .returned (.tuple #[.int .i64 (yr n), .int .i64 (mo n), .int .i64 (da n)]) ∧ w' = w := by
  unfold yr mo da
  obtain ⟨b1, b2⟩ := quo_bd n 10000 h h' (by omega)
  obtain ⟨b3, b4⟩ := quo_bd n 100 h h' (by omega)
  go_enter Tryz.func78, Tryz.ntmps78
  go_wp2
  exact bodyPost_ret (v := .tuple #[.int .i64 (n.tdiv 10000), .int .i64 ((n.tdiv 100).tmod 100), .int .i64 (n.tmod 100)]) (by simp [results, Tryz.results78, go_sem]) rfl ⟨rfl, rfl⟩

theorem good_any (n : Int) (w : World) (hT : Tab w) (h : -9223372036854775808 ≤ n) (h' : n ≤ 9223372036854775807) :
    Calls Tryz.prog 54 #[.int .i64 n] w fun e w' => e = .returned (.bool (good n)) ∧ w' = w := by
  by_cases c1 : yr n < 1
  · have g : good n = false := by simp [good]; omega
    rw [g]
    go_enter Tryz.func54, Tryz.ntmps54
    go_wp2_with (go_at_call 78; refine (split_any _ _ h h').mono ?_; rintro e w' ⟨rfl, rfl⟩)
    go_ret
    exact ⟨rfl, rfl⟩
  by_cases c2 : yr n > 9999
  · have g : good n = false := by simp [good]; omega
    rw [g]
    go_enter Tryz.func54, Tryz.ntmps54
    go_wp2_with (go_at_call 78; refine (split_any _ _ h h').mono ?_; rintro e w' ⟨rfl, rfl⟩)
    go_ret
    exact ⟨rfl, rfl⟩
  by_cases c3 : mo n < 1
  · have g : good n = false := by simp [good]; omega
    rw [g]
    go_enter Tryz.func54, Tryz.ntmps54
    go_wp2_with (go_at_call 78; refine (split_any _ _ h h').mono ?_; rintro e w' ⟨rfl, rfl⟩)
    go_ret
    exact ⟨rfl, rfl⟩
  by_cases c4 : mo n > 12
  · have g : good n = false := by simp [good]; omega
    rw [g]
    go_enter Tryz.func54, Tryz.ntmps54
    go_wp2_with (go_at_call 78; refine (split_any _ _ h h').mono ?_; rintro e w' ⟨rfl, rfl⟩)
    go_ret
    exact ⟨rfl, rfl⟩
  by_cases c5 : 1 ≤ da n
  · by_cases c6 : da n ≤ lenM (yr n) (mo n)
    · have g : good n = true := by simp [good]; omega
      rw [g]
      go_enter Tryz.func54, Tryz.ntmps54
      go_wp2_with (first | (go_at_call 78; refine (split_any _ _ h h').mono ?_; rintro e w' ⟨rfl, rfl⟩) | (go_at_call 79; refine (length_any _ _ _ hT (by omega) (by omega) (by omega)).mono ?_; rintro e w' ⟨rfl, rfl⟩))
      go_ret
      exact ⟨rfl, rfl⟩
    · have g : good n = false := by simp [good]; omega
      have d6 : decide (da n ≤ lenM (yr n) (mo n)) = false := by simpa using c6
      rw [g]
      go_enter Tryz.func54, Tryz.ntmps54
      go_wp2_with (first | (go_at_call 78; refine (split_any _ _ h h').mono ?_; rintro e w' ⟨rfl, rfl⟩) | (go_at_call 79; refine (length_any _ _ _ hT (by omega) (by omega) (by omega)).mono ?_; rintro e w' ⟨rfl, rfl⟩))
      go_ret
      exact ⟨rfl, rfl⟩
  · have g : good n = false := by simp [good]; omega
    rw [g]
    go_enter Tryz.func54, Tryz.ntmps54
    go_wp2_with (go_at_call 78; refine (split_any _ _ h h').mono ?_; rintro e w' ⟨rfl, rfl⟩)
    go_ret
    exact ⟨rfl, rfl⟩

def yearV (n : Int) : Int := if good n = true then yr n else 0
end Go.Proofs.YtmoldgmfhcmceaaGreatDoor.Da
end
