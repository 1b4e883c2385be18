/-
  Texts put together (merge.py): LCode, LTexts, CAdds, CRefs, VGood, VClone, VSvc.
-/
import Derived.WalkKit
import Derived.Deep.Cut
import Derived.Test.YtpfpjbeofogbgaaMm1
import Derived.Test.YtpfpjbeofogbgaaProg
import Derived.Test.YtpfpjbeofogbgaaMm2
set_option linter.unusedSimpArgs false
set_option linter.unusedVariables false
section
namespace Go.Proofs.Ytpfpjbeofogbgaa.Cm
open Go.RowKit
theorem sign_any (c : UInt8) (w : World) :
    Calls Try.prog 63 #[.int .u8 c.toNat] w fun e w' => e = .returned (.bool (signB c)) ∧ w' = w := by
  unfold signB
  generalize c.toNat = n
  cases h1 : decide (65 ≤ n) <;> cases h2 : decide (n ≤ 90) <;> cases h3 : decide (48 ≤ n) <;> cases h4 : decide (n ≤ 57) <;>
  · simp only [decide_eq_true_eq, decide_eq_false_iff_not] at h1 h2 h3 h4
    first
      | omega
      | (go_enter Try.func63, Try.ntmps63
         go_wp2
         go_ret
         exact ⟨by first | rfl | (simp; omega), rfl⟩)
theorem all_take {p : UInt8 → Bool} (s : Tx) (k : Nat) (c : UInt8) (h : s[k]? = some c) (hk : (s.take k).all p = true) (hc : p c = true) : (s.take (k + 1)).all p = true := by
 rw [List.take_add_one, h]; simp_all
theorem all_not {p : UInt8 → Bool} (s : Tx) (k : Nat) (c : UInt8) (h : s[k]? = some c) (hc : p c = false) : s.all p = false := by
 rw [List.all_eq_false]
 exact ⟨c, List.mem_of_getElem? h, by simp [hc]⟩
theorem code_short (s : Tx) (f t : Int) (h : (s.length : Int) < f) : codeB s f t = false := by unfold codeB; rw [decide_eq_false (by omega)]; simp
theorem code_long (s : Tx) (f t : Int) (h : t < (s.length : Int)) : codeB s f t = false := by unfold codeB; rw [decide_eq_false (p := (s.length : Int) ≤ t) (by omega)]; simp
theorem code_in (s : Tx) (f t : Int) (h1 : f ≤ (s.length : Int)) (h2 : (s.length : Int) ≤ t) : codeB s f t = s.all signB := by unfold codeB; rw [decide_eq_true h1, decide_eq_true h2]; simp
theorem mk_at (s : Tx) (k : Nat) (hk : k < (mk s).size) : s[k]? = some (mk s)[k] := by
 have hl : k < s.length := by rw [← mk_size]; exact hk
 rw [List.getElem?_eq_getElem hl]
 rfl
set_option maxHeartbeats 1000000 in
theorem code_any (s : Tx) (f t : Int) (w : World) (hs : s.length ≤ 9223372036854775807) :
  Calls Try.prog 54 #[.string (mk s), .int .i64 f, .int .i64 t] w fun e w' => e = .returned (.bool (codeB s f t)) ∧ w' = w := by
 have hz := mk_size s
 have HS := Lib.hid hs
 have HAT := Lib.hid (mk_at s)
 have HSH := Lib.hid (code_short s f t)
 have HLO := Lib.hid (code_long s f t)
 have HIN := Lib.hid (code_in s f t)
 generalize codeB s f t = R at *
 rw [← hz] at hs HSH HLO HIN
 have HZ := Lib.hid hz
 clear hz
 generalize mk s = X at *
 by_cases h1 : (X.size : Int) < f
 ·rw [HSH.out h1]
  go_enter Try.func54, Try.ntmps54
  go_wp2
  go_ret
  exact ⟨rfl, rfl⟩
 by_cases h2 : t < (X.size : Int)
 ·rw [HLO.out h2]
  go_enter Try.func54, Try.ntmps54
  go_wp2
  go_ret
  exact ⟨rfl, rfl⟩
 rw [HIN.out (by omega) (by omega)]
 go_enter Try.func54, Try.ntmps54
 go_wp2
 go_loopg [20] (X.size) (fun g i wr => ∃ k : Nat, k ≤ X.size ∧ g = X.size - k ∧ i = .int .i64 k ∧ wr = w ∧ Hid ((s.take k).all signB = true))
 case atStart => exact ⟨0, Nat.zero_le _, rfl, rfl, rfl, rfl⟩
 case round =>
  obtain ⟨k, hk, hg, rfl, hw, HA⟩ := hrel
  rw [hw]
  clear hw wr
  by_cases hlt : k < X.size
  ·have HC := Lib.hid (HAT.out k hlt)
   cases hq : signB X[k]
   ·go_wp2_with (go_at_call 63; refine (sign_any _ _).mono ?_; rintro e w' ⟨rfl, rfl⟩)
    go_ret
    exact ⟨by rw [all_not s k _ HC.out hq]; rfl, rfl⟩
   ·go_wp2_with (go_at_call 63; refine (sign_any _ _).mono ?_; rintro e w' ⟨rfl, rfl⟩)
    go_roundg (X.size - (k + 1))
    case rel => exact ⟨k + 1, by omega, rfl, by go_num, rfl, all_take s k _ HC.out HA.out hq⟩
    case measure => omega
  ·have hall : (s.take k) = s := List.take_of_length_le (by rw [← HZ.out]; omega)
   rw [hall] at HA
   clear hall
   go_wp2
   go_ret
   exact ⟨by rw [HA.out]; rfl, rfl⟩
set_option maxHeartbeats 1000000 in
theorem rcode_any (s : Tx) (f t : Int) (w : World) (hs : s.length ≤ 9223372036854775807) :
  Calls Try.prog 45 #[.string (mk s), .int .i64 f, .int .i64 t] w fun e w' => e = .returned (.bool (codeB s f t)) ∧ w' = w := by
 have hz := mk_size s
 have HS := Lib.hid hs
 have HAT := Lib.hid (mk_at s)
 have HSH := Lib.hid (code_short s f t)
 have HLO := Lib.hid (code_long s f t)
 have HIN := Lib.hid (code_in s f t)
 generalize codeB s f t = R at *
 rw [← hz] at hs HSH HLO HIN
 have HZ := Lib.hid hz
 clear hz
 generalize mk s = X at *
 by_cases h1 : (X.size : Int) < f
 ·rw [HSH.out h1]
  go_enter Try.func45, Try.ntmps45
  go_wp2
  go_ret
  exact ⟨rfl, rfl⟩
 by_cases h2 : t < (X.size : Int)
 ·rw [HLO.out h2]
  go_enter Try.func45, Try.ntmps45
  go_wp2
  go_ret
  exact ⟨rfl, rfl⟩
 rw [HIN.out (by omega) (by omega)]
 go_enter Try.func45, Try.ntmps45
 go_wp2
 go_loopg [7] (X.size) (fun g i wr => ∃ k : Nat, k ≤ X.size ∧ g = X.size - k ∧ i = .int .i64 k ∧ wr = w ∧ Hid ((s.take k).all signB = true))
 case atStart => exact ⟨0, Nat.zero_le _, rfl, rfl, rfl, rfl⟩
 case round =>
  obtain ⟨k, hk, hg, rfl, hw, HA⟩ := hrel
  rw [hw]
  clear hw wr
  by_cases hlt : k < X.size
  ·have HC := Lib.hid (HAT.out k hlt)
   have HQ : Hid (signB X[k] = ((decide (65 ≤ X[k].toNat) && decide (X[k].toNat ≤ 90)) || (decide (48 ≤ X[k].toNat) && decide (X[k].toNat ≤ 57)))) := rfl
   by_cases g1 : 65 ≤ X[k].toNat ∧ X[k].toNat ≤ 90
   ·obtain ⟨g1, g2⟩ := g1
    have g3 : 48 ≤ X[k].toNat := by omega
    have g4 : ¬ X[k].toNat ≤ 57 := by omega
    have d4 : decide ((X[k].toNat : Int) ≤ 57) = false := decide_eq_false (by omega)
    have d2 : decide ((X[k].toNat : Int) ≤ 90) = true := decide_eq_true (by omega)
    have hq := HQ.out
    rw [decide_eq_true g1, decide_eq_true g2] at hq
    have HQ2 := Lib.hid hq
    clear hq
    go_wp2
    go_roundg (X.size - (k + 1))
    case rel => exact ⟨k + 1, by omega, rfl, by go_num, rfl, all_take s k _ HC.out HA.out HQ2.out⟩
    case measure => omega
   by_cases g3 : 48 ≤ X[k].toNat ∧ X[k].toNat ≤ 57
   ·obtain ⟨g3, g4⟩ := g3
    have g5 : ¬ 65 ≤ X[k].toNat := by omega
    have d4 : decide ((X[k].toNat : Int) ≤ 57) = true := decide_eq_true (by omega)
    have hq := HQ.out
    rw [decide_eq_true g3, decide_eq_true g4, Bool.and_self, Bool.or_true] at hq
    have HQ2 := Lib.hid hq
    clear hq g1
    go_wp2
    go_roundg (X.size - (k + 1))
    case rel => exact ⟨k + 1, by omega, rfl, by go_num, rfl, all_take s k _ HC.out HA.out HQ2.out⟩
    case measure => omega
   have HQ2 : Hid (signB X[k] = false) := by
    show _ = _
    rw [HQ.out]
    simp
    omega
   by_cases g5 : 65 ≤ X[k].toNat
   ·have g6 : ¬ X[k].toNat ≤ 90 := by omega
    have g7 : 48 ≤ X[k].toNat := by omega
    have g8 : ¬ X[k].toNat ≤ 57 := by omega
    have d4 : decide ((X[k].toNat : Int) ≤ 57) = false := decide_eq_false (by omega)
    have d2 : decide ((X[k].toNat : Int) ≤ 90) = false := decide_eq_false (by omega)
    clear g1 g3
    go_wp2
    go_ret
    exact ⟨by rw [all_not s k _ HC.out HQ2.out]; rfl, rfl⟩
   ·by_cases g7 : 48 ≤ X[k].toNat
    ·have g8 : ¬ X[k].toNat ≤ 57 := by omega
     have d4 : decide ((X[k].toNat : Int) ≤ 57) = false := decide_eq_false (by omega)
     clear g1 g3
     go_wp2
     go_ret
     exact ⟨by rw [all_not s k _ HC.out HQ2.out]; rfl, rfl⟩
    ·clear g1 g3
     go_wp2
     go_ret
     exact ⟨by rw [all_not s k _ HC.out HQ2.out]; rfl, rfl⟩
  ·have hall : (s.take k) = s := List.take_of_length_le (by rw [← HZ.out]; omega)
   rw [hall] at HA
   clear hall
   go_wp2
   go_ret
   exact ⟨by rw [HA.out]; rfl, rfl⟩
end Go.Proofs.Ytpfpjbeofogbgaa.Cm
end
section
namespace Go.Proofs.Ytpfpjbeofogbgaa.Cm
open Go.RowKit
theorem takes_eq {α : Type} [DecidableEq α] (xs ys : List α) (k : Nat) (x y : α) (hx : xs[k]? = some x) (hy : ys[k]? = some y) (h : xs.take k = ys.take k) (he : x = y) : xs.take (k + 1) = ys.take (k + 1) := by
 rw [List.take_add_one, List.take_add_one, hx, hy, h, he]
theorem takes_ne {α : Type} [DecidableEq α] (xs ys : List α) (k : Nat) (x y : α) (hx : xs[k]? = some x) (hy : ys[k]? = some y) (he : x ≠ y) : decide (xs = ys) = false := by
 rw [decide_eq_false_iff_not]
 rintro rfl
 rw [hx] at hy
 exact he (Option.some.inj hy)
theorem takes_all {α : Type} [DecidableEq α] (xs ys : List α) (k : Nat) (hx : xs.length ≤ k) (hl : xs.length = ys.length) (h : xs.take k = ys.take k) : decide (xs = ys) = true := by
 rw [decide_eq_true_iff]
 rwa [List.take_of_length_le hx, List.take_of_length_le (by omega)] at h
theorem lens_ne {α : Type} [DecidableEq α] (xs ys : List α) (h : xs.length ≠ ys.length) : decide (xs = ys) = false := by
 rw [decide_eq_false_iff_not]
 rintro rfl
 exact h rfl
theorem mk_ne (x y : Tx) : ((mk x).toList == (mk y).toList) = decide (x = y) := by
 rw [Lib.toList_data, Lib.toList_data, mk_list, mk_list]
 rw [Bool.eq_iff_iff]
 simp
end Go.Proofs.Ytpfpjbeofogbgaa.Cm
end
section
namespace Go.Proofs.Ytpfpjbeofogbgaa.Ce
open Go.RowKit
theorem good_any (a : Int) (w : World) :
  Calls Try.prog 57 #[.int .i64 a] w fun e w' => e = .returned (.bool (good a)) ∧ w' = w := by
 by_cases h0 : 0 ≤ a
 ·by_cases h1 : a ≤ 10000000000000
  ·have g : good a = true := (good_iff a).2 ⟨h0, h1⟩
   rw [g]
   go_enter Try.func57, Try.ntmps57
   go_wp2
   go_ret
   exact ⟨rfl, rfl⟩
  ·have g : good a = false := (good_not a).2 (by omega)
   rw [g]
   go_enter Try.func57, Try.ntmps57
   go_wp2
   go_ret
   exact ⟨rfl, rfl⟩
 ·have g : good a = false := (good_not a).2 (by omega)
  rw [g]
  go_enter Try.func57, Try.ntmps57
  go_wp2
  go_ret
  exact ⟨rfl, rfl⟩
end Go.Proofs.Ytpfpjbeofogbgaa.Ce
end
section
namespace Go.Proofs.Ytpfpjbeofogbgaa.Ce
open Go.RowKit
theorem rgood_any (a : Int) (w : World) :
  Calls Try.prog 59 #[.int .i64 a] w fun e w' => e = .returned (.bool (good a)) ∧ w' = w := by
 by_cases h0 : a < 0
 ·have g : good a = false := (good_not a).2 (by omega)
  rw [g]
  go_enter Try.func59, Try.ntmps59
  go_wp2
  go_ret
  exact ⟨rfl, rfl⟩
 ·by_cases h1 : 10000000000000 < a
  ·have g : good a = false := (good_not a).2 (by omega)
   rw [g]
   go_enter Try.func59, Try.ntmps59
   go_wp2
   go_ret
   exact ⟨rfl, rfl⟩
  ·have g : good a = true := (good_iff a).2 (by omega)
   rw [g]
   go_enter Try.func59, Try.ntmps59
   go_wp2
   go_ret
   exact ⟨rfl, rfl⟩
end Go.Proofs.Ytpfpjbeofogbgaa.Ce
end
section
set_option maxRecDepth 100000
namespace Go.Proofs.Ytpfpjbeofogbgaa.Sv
open Go.RowKit
open Bk (below_alloc below_trans alloc_new)
open Cm (mk_ne codeB)
def I64 (a : Int) : Prop := -9223372036854775808 ≤ a ∧ a ≤ 9223372036854775807
def opp (a : Int) : Int := if a = -9223372036854775808 then 9223372036854775807 else -a
theorem opp_any (a : Int) (w : World) (ha : I64 a) : Calls Try.prog 56 #[.int .i64 a] w fun e w' => e = .returned (.int .i64 (opp a)) ∧ w' = w := by
 obtain ⟨h1, h2⟩ := ha
 by_cases h : a = -9223372036854775808
 ·rw [show opp a = 9223372036854775807 from if_pos h]
  subst h
  go_enter Try.func56, Try.ntmps56
  go_wp2
  go_ret
  exact ⟨rfl, rfl⟩
 ·rw [show opp a = -a from if_neg h]
  have hb : (a == -9223372036854775808) = false := by simpa using h
  go_enter Try.func56, Try.ntmps56
  go_wp2
  go_ret
  exact ⟨rfl, rfl⟩
theorem good_opp (a : Int) (ha : I64 a) : Ce.good (opp a) = okM 22 a := by
 obtain ⟨h1, h2⟩ := ha
 rw [Bool.eq_iff_iff, Ce.good_iff, ok_back]
 unfold opp
 split <;> omega
theorem good_any (a st : Int) (w : World) (ha : I64 a) (hs : st = 1 ∨ st = 22) : Calls Try.prog 44 #[.int .i64 a, .int .i64 st] w fun e w' => e = .returned (.bool (okM st a)) ∧ w' = w := by
 have HO := Lib.hid (opp_any a w ha)
 have HG := Lib.hid (good_opp a ha)
 rcases hs with rfl | rfl
 ·rw [show okM 1 a = Ce.good a from rfl]
  clear ha
  go_enter Try.func44, Try.ntmps44
  go_wp2_with (first | (go_at_call 57; refine (Ce.good_any _ _).mono ?_; rintro e w' ⟨rfl, rfl⟩))
  go_ret
  exact ⟨rfl, rfl⟩
 ·rw [← HG.out]
  clear ha HG
  generalize opp a = b at *
  go_enter Try.func44, Try.ntmps44
  go_wp2_with (first | (go_at_call 57; refine (Ce.good_any _ _).mono ?_; rintro e w' ⟨rfl, rfl⟩) | (go_at_call 56; refine HO.out.mono ?_; rintro e w' ⟨rfl, rfl⟩))
  go_ret
  exact ⟨rfl, rfl⟩
theorem rgood_any (a st : Int) (w : World) : Calls Try.prog 47 #[.int .i64 st, .int .i64 a] w fun e w' => e = .returned (.bool (okM st a)) ∧ w' = w := by
 by_cases hs : st = 1
 ·rw [show okM st a = Ce.good a from if_pos hs]
  subst hs
  go_enter Try.func47, Try.ntmps47
  go_wp2_with (first | (go_at_call 59; refine (Ce.rgood_any _ _).mono ?_; rintro e w' ⟨rfl, rfl⟩))
  go_ret
  exact ⟨rfl, rfl⟩
 ·rw [show okM st a = (decide (a ≤ 0) && decide (-10000000000000 ≤ a)) from if_neg hs]
  have hb : (st == 1) = false := by simpa using hs
  by_cases h1 : a ≤ 0
  ·have d1 : decide (a ≤ 0) = true := decide_eq_true h1
   rw [d1, Bool.true_and]
   go_enter Try.func47, Try.ntmps47
   go_wp2
   go_ret
   exact ⟨rfl, rfl⟩
  ·have d1 : decide (a ≤ 0) = false := decide_eq_false h1
   rw [d1, Bool.false_and]
   go_enter Try.func47, Try.ntmps47
   go_wp2
   go_ret
   exact ⟨rfl, rfl⟩
theorem mk_tl (s : Tx) : (mk s).toList = s := by rw [Lib.toList_data, mk_list]
theorem cas_9 {st : Int} {c : Ca} (h : ¬ (c.grp = gCO ∨ c.grp = gPR ∨ c.grp = gOA)) : casE st c = 9 := if_neg h
theorem cas_9w {st : Int} {c : Ca} (h : c.why < 1 ∨ 999 < c.why) : casE st c = 9 := by
 unfold casE; split
 ·rw [if_neg (by omega)]
 ·rfl
theorem cas_8 {st : Int} {c : Ca} (h : c.grp = gCO ∨ c.grp = gPR ∨ c.grp = gOA) (h1 : 1 ≤ c.why) (h2 : c.why ≤ 999) (h3 : c.ct = 0 ∨ okM st c.ct = false) : casE st c = 8 := by
 unfold casE; rw [if_pos h, if_pos ⟨h1, h2⟩, if_neg (by rcases h3 with h3 | h3 <;> simp [h3])]
set_option maxHeartbeats 1000000 in
theorem checkCas_any (c : Ca) (st : Int) (w : World) (hc : I64 c.ct) (hs : st = 1 ∨ st = 22) : Calls Try.prog 55 #[cav c, .int .i64 st] w fun e w' => e = .returned (.int .i64 (casE st c)) ∧ Below w.heap.size w w' := by
 have HB := Lib.hid (below_alloc w (.cells (cae c) Tk))
 have HG := Lib.hid fun w => good_any c.ct st w hc hs
 clear hc hs
 have HX := Lib.hid (alloc_new w (cae c) Tk)
 go_enter Try.func55, Try.ntmps55
 go_upto_region 1 with fail
 generalize w.alloc (.cells (cae c) Tk) = W at *
 generalize hp : w.heap.size = p at *
 obtain ⟨x0, x1, x2⟩ := three HX.out
 go_wp2_with (first | (go_at_call 44; refine (HG.out _).mono ?_; rintro e w' ⟨rfl, rfl⟩))
 all_goals
  go_ret
  refine ⟨?_, by first | exact HB.out | (rw [hp]; exact HB.out)⟩
  clear HB HG HX x0 x1 x2
  simp only [mk_tl] at *
  first
  | (rw [cas_9w]; (· rfl); omega)
  | (rw [cas_9]; (· rfl); simp only [gCO, gPR, gOA]; simp_all; done)
  | (rw [cas_8 (st := st) (c := c)]; rfl; (simp only [gCO, gPR, gOA]; first | exact Or.inl ‹_› | exact Or.inr (Or.inl ‹_›) | exact Or.inr (Or.inr ‹_›) | (rename_i h; simp only [Bool.not_eq_false', beq_iff_eq] at h; rcases h with (h | h) | h; (exact Or.inl h); (exact Or.inr (Or.inl h)); exact Or.inr (Or.inr h))); omega; omega; first | exact Or.inl ‹c.ct = 0› | (have h := ‹(c.ct == 0) = true ∨ (!okM st c.ct) = true›; simpa using h))
  | (rw [cas_of (st := st) (c := c)]; rfl; (simp only [gCO, gPR, gOA]; first | exact Or.inl ‹_› | exact Or.inr (Or.inl ‹_›) | exact Or.inr (Or.inr ‹_›) | (rename_i h; simp only [Bool.not_eq_false', beq_iff_eq] at h; rcases h with (h | h) | h; (exact Or.inl h); (exact Or.inr (Or.inl h)); exact Or.inr (Or.inr h))); omega; exact ‹¬ c.ct = 0›; (have h := ‹(c.ct == 0) = false ∧ (!okM st c.ct) = false›; simpa using h.2))
set_option maxHeartbeats 1000000 in
theorem rcas_any (c : Ca) (st : Int) (w : World) : Calls Try.prog 58 #[.int .i64 st, cav c] w fun e w' => e = .returned (.int .i64 (casE st c)) ∧ Below w.heap.size w w' := by
 have HB := Lib.hid (below_alloc w (.cells (cae c) Tk))
 have HX := Lib.hid (alloc_new w (cae c) Tk)
 have HG := Lib.hid fun w => rgood_any c.ct st w
 go_enter Try.func58, Try.ntmps58
 go_upto_region 1 with fail
 generalize w.alloc (.cells (cae c) Tk) = W at *
 generalize hp : w.heap.size = p at *
 obtain ⟨x0, x1, x2⟩ := three HX.out
 go_wp2_with (first | (go_at_call 47; refine (HG.out _).mono ?_; rintro e w' ⟨rfl, rfl⟩))
 all_goals
  go_ret
  refine ⟨?_, by first | exact HB.out | (rw [hp]; exact HB.out)⟩
  clear HB HG HX x0 x1 x2
  simp only [mk_tl] at *
  first
  | (rw [cas_9w]; (· rfl); omega)
  | (rw [cas_9]; (· rfl); simp only [gCO, gPR, gOA]; simp_all; done)
  | (rw [cas_8 (st := st) (c := c)]; rfl; (simp only [gCO, gPR, gOA]; first | exact Or.inl ‹_› | exact Or.inr (Or.inl ‹_›) | exact Or.inr (Or.inr ‹_›) | (rename_i h; simp only [Bool.not_eq_false', beq_iff_eq] at h; rcases h with (h | h) | h; (exact Or.inl h); (exact Or.inr (Or.inl h)); exact Or.inr (Or.inr h))); omega; omega; first | exact Or.inl ‹c.ct = 0› | (have h := ‹(c.ct == 0) = true ∨ (!okM st c.ct) = true›; simpa using h))
  | (rw [cas_of (st := st) (c := c)]; rfl; (simp only [gCO, gPR, gOA]; first | exact Or.inl ‹_› | exact Or.inr (Or.inl ‹_›) | exact Or.inr (Or.inr ‹_›) | (rename_i h; simp only [Bool.not_eq_false', beq_iff_eq] at h; rcases h with (h | h) | h; (exact Or.inl h); (exact Or.inr (Or.inl h)); exact Or.inr (Or.inr h))); omega; exact ‹¬ c.ct = 0›; (have h := ‹(c.ct == 0) = false ∧ (!okM st c.ct) = false›; simpa using h.2))
def headE (id : Tx) (st n : Int) : Int := if codeB id 1 12 = true ∧ (st = 1 ∨ st = 22) then (if 1 ≤ n ∧ n ≤ 999 then 0 else 6) else 9
set_option maxHeartbeats 1000000 in
theorem head_any (id : Tx) (st n : Int) (w : World) (hs : id.length ≤ 9223372036854775807) : Calls Try.prog 41 #[.string (mk id), .int .i64 st, .int .i64 n] w fun e w' => e = .returned (.int .i64 (headE id st n)) ∧ w' = w := by
 have HC := Lib.hid (Cm.code_any id 1 12 w hs)
 unfold headE
 generalize codeB id 1 12 = R at *
 generalize mk id = X at *
 clear hs
 cases R with
 | false =>
  rw [if_neg (by simp)]
  go_enter Try.func41, Try.ntmps41
  go_wp2_with (first | (go_at_call 54; refine HC.out.mono ?_; rintro e w' ⟨rfl, rfl⟩))
  go_ret
  exact ⟨rfl, rfl⟩
 | true =>
  by_cases hs : st = 1 ∨ st = 22
  case neg =>
   rw [if_neg (fun h => hs h.2)]
   have n1 : (st != 1) = true := by simp; omega
   have n2 : (st != 22) = true := by simp; omega
   clear hs
   go_enter Try.func41, Try.ntmps41
   go_wp2_with (first | (go_at_call 54; refine HC.out.mono ?_; rintro e w' ⟨rfl, rfl⟩))
   go_ret
   exact ⟨rfl, rfl⟩
  rw [if_pos ⟨rfl, hs⟩]
  by_cases hn : 1 ≤ n ∧ n ≤ 999
  case neg =>
   rw [if_neg hn]
   by_cases h1 : n < 1
   ·rcases hs with rfl | rfl <;>
    ·go_enter Try.func41, Try.ntmps41
     go_wp2_with (first | (go_at_call 54; refine HC.out.mono ?_; rintro e w' ⟨rfl, rfl⟩))
     go_ret
     exact ⟨rfl, rfl⟩
   ·have h2 : 999 < n := by omega
    clear hn
    rcases hs with rfl | rfl <;>
    ·go_enter Try.func41, Try.ntmps41
     go_wp2_with (first | (go_at_call 54; refine HC.out.mono ?_; rintro e w' ⟨rfl, rfl⟩))
     go_ret
     exact ⟨rfl, rfl⟩
  rw [if_pos hn]
  obtain ⟨h1, h2⟩ := hn
  have h3 : ¬ n < 1 := by omega
  have h4 : ¬ 999 < n := by omega
  rcases hs with rfl | rfl <;>
  ·go_enter Try.func41, Try.ntmps41
   go_wp2_with (first | (go_at_call 54; refine HC.out.mono ?_; rintro e w' ⟨rfl, rfl⟩))
   go_ret
   exact ⟨rfl, rfl⟩
end Go.Proofs.Ytpfpjbeofogbgaa.Sv
end
section
set_option maxRecDepth 100000
namespace Go.Proofs.Ytpfpjbeofogbgaa.Sv
open Go.RowKit
open Bk (keepB below_alloc below_trans alloc_new add_lit)
theorem s_src {w : World} {b o : Nat} {l : List Sx} (h : ∀ (j : Nat) x, l[j]? = some x → SrCells w b (o + j * 4) x.s x.m) (j : Nat) (u : Value) (hj : (scs l)[j]? = some u) : w.cell? ⟨b, o + j, none⟩ = some u := by
 have hjl : j < l.length * 4 := by have := (List.getElem?_eq_some_iff.1 hj).1; rwa [scs_len] at this
 have hq : j / 4 < l.length := by omega
 have hx := List.getElem?_eq_getElem hq
 obtain ⟨c0, c1, c2, c3⟩ := h _ _ hx
 have e := scs_at l (j / 4) _ hx (j % 4) (Nat.mod_lt _ (by omega))
 rw [show j / 4 * 4 + j % 4 = j by omega, hj] at e
 have hr : j % 4 = 0 ∨ j % 4 = 1 ∨ j % 4 = 2 ∨ j % 4 = 3 := by omega
 rcases hr with r | r | r | r <;> rw [r] at e
 ·rw [show o + j = o + j / 4 * 4 by omega, c0]; exact e.symm
 ·rw [show o + j = o + j / 4 * 4 + 1 by omega, c1]; exact e.symm
 ·rw [show o + j = o + j / 4 * 4 + 2 by omega, c2]; exact e.symm
 ·rw [show o + j = o + j / 4 * 4 + 3 by omega, c3]; exact e.symm
def SxAt (w : World) (v : Value) (l : List Sx) : Prop :=
 ∃ a c, v = .slice a l.length c ∧ l.length ≤ c ∧ c ≤ maxLen ∧ (l = [] ∨ ∃ b o, a = some ⟨b, o, none⟩ ∧ ∀ (j : Nat) x, l[j]? = some x → SrCells w b (o + j * 4) x.s x.m)
set_option maxHeartbeats 4000000 in
theorem cloneK_any (l : List Ca) (v : Value) (w : World) (h : CasAt All w v l) (hl : l.length ≤ 1000000) :
  Calls Try.prog 52 #[v] w fun e w' => ∃ v', e = .returned v' ∧ OwnK w.heap.size w' v' l ∧ Below w.heap.size w w' := by
 obtain ⟨a, c, rfl, h1, h2, h3⟩ := h
 have q22 : ∀ (w : World) (a : Option Addr) (n c n' c' : Nat), (binOp .eql 68 (.slice a n c) (.slice none n' c')).run Try.prog w = .ok (.bool a.isNone) w := fun w a n c n' c' => Lib.run_eql_slice_nil w _ _ a n c n' c' Try.underlying68
 cases a with
 | none =>
  have hl0 : l = [] := by
   rcases h3 with h | ⟨b, o, e, _⟩
   ·exact h
   ·cases e
  subst hl0
  go_enter Try.func52, Try.ntmps52
  go_wp2
  go_ret
  exact ⟨_, rfl, ⟨rfl, Or.inl ⟨rfl, rfl⟩⟩, Below.refl _ _⟩
 | some ad =>
  obtain ⟨b, o, s⟩ := ad
  obtain ⟨i0, hi, hz0, hz1, hz2⟩ := infok
  have HS : Hid (∀ j u, (kcs l)[j]? = some u → w.cell? ((⟨b, o, s⟩ : Addr).add j) = some u) := by
   intro j u hj
   rcases h3 with h | ⟨b', o', e, _, _, hc⟩
   ·subst h; simp [kcs] at hj
   ·simp only [Option.some.injEq, Addr.mk.injEq] at e
    obtain ⟨rfl, rfl, rfl⟩ := e
    rw [add_lit]
    exact k_src hc j u hj
  have HON : Hid (∀ u ∈ kcs l, u.oneCell' = true) := kcs_one l
  clear h3
  go_enter Try.func52, Try.ntmps52
  go_wp2_with (at_builtin; refine wpList_append_own _ rfl _ _ 68 rfl w.heap.size Tk i0 _ 3 32 Try.underlying68 hi hz0 hz1 hz2 rfl (by decide) _ _ _ rfl (World.ownsRow_made w #[] 0 (Nat.le_refl _) (Nat.zero_le _) rfl) ⟨b, o, s⟩ l.length c (kcs l) rfl ?qc1 ?qc2 ?qc3 ?qc4 ?qc5 ?qc6 ?_)
  case qc1 => rw [kcs_len]
  case qc2 => intro j u hj; exact Lib.cell?_alloc_some _ (HS.out j u hj)
  case qc3 => exact HON.out
  case qc4 => unfold maxLen; omega
  case qc5 => omega
  case qc6 => simp
  intro v' w1 hown hgrow hnil
  go_wp2
  go_ret
  refine ⟨v', rfl, ?_, ?_⟩
  ·unfold OwnK; simpa using hown
  ·exact ((Below.refl _ w).alloc (Nat.le_refl _) _).grown hgrow (by simp) (by intro k hk; simp [Value.ownBlock] at hk; omega)
set_option maxHeartbeats 4000000 in
theorem cloneS_any (l : List Sx) (v : Value) (w : World) (h : SxAt w v l) (hl : l.length ≤ 1000000) (hs : ∀ x ∈ l, Sl x) :
  Calls Try.prog 51 #[v] w fun e w' => ∃ v', e = .returned v' ∧ OwnS w.heap.size w' v' l ∧ Below w.heap.size w w' := by
 obtain ⟨a, c, rfl, h1, h2, h3⟩ := h
 have q22 : ∀ (w : World) (a : Option Addr) (n c n' c' : Nat), (binOp .eql 36 (.slice a n c) (.slice none n' c')).run Try.prog w = .ok (.bool a.isNone) w := fun w a n c n' c' => Lib.run_eql_slice_nil w _ _ a n c n' c' Try.underlying36
 cases a with
 | none =>
  have hl0 : l = [] := by
   rcases h3 with h | ⟨b, o, e, _⟩
   ·exact h
   ·cases e
  subst hl0
  go_enter Try.func51, Try.ntmps51
  go_wp2
  go_ret
  exact ⟨_, rfl, ⟨rfl, Or.inl ⟨rfl, rfl⟩⟩, Below.refl _ _⟩
 | some ad =>
  obtain ⟨b, o, s⟩ := ad
  obtain ⟨i0, hi, hz0, hz1, hz2⟩ := infos
  have HS : Hid (∀ j u, (scs l)[j]? = some u → w.cell? ((⟨b, o, s⟩ : Addr).add j) = some u) := by
   intro j u hj
   rcases h3 with h | ⟨b', o', e, hc⟩
   ·subst h; simp [scs] at hj
   ·simp only [Option.some.injEq, Addr.mk.injEq] at e
    obtain ⟨rfl, rfl, rfl⟩ := e
    rw [add_lit]
    exact s_src hc j u hj
  have HON : Hid (∀ u ∈ scs l, u.oneCell' = true) := scs_one l hs
  clear h3
  go_enter Try.func51, Try.ntmps51
  go_wp2_with (at_builtin; refine wpList_append_own _ rfl _ _ 36 rfl w.heap.size Ts i0 _ 4 56 Try.underlying36 hi hz0 hz1 hz2 rfl (by decide) _ _ _ rfl (World.ownsRow_made w #[] 0 (Nat.le_refl _) (Nat.zero_le _) rfl) ⟨b, o, s⟩ l.length c (scs l) rfl ?qc1 ?qc2 ?qc3 ?qc4 ?qc5 ?qc6 ?_)
  case qc1 => rw [scs_len]
  case qc2 => intro j u hj; exact Lib.cell?_alloc_some _ (HS.out j u hj)
  case qc3 => exact HON.out
  case qc4 => unfold maxLen; omega
  case qc5 => omega
  case qc6 => simp
  intro v' w1 hown hgrow hnil
  go_wp2
  go_ret
  refine ⟨v', rfl, ?_, ?_⟩
  ·unfold OwnS; simpa using hown
  ·exact ((Below.refl _ w).alloc (Nat.le_refl _) _).grown hgrow (by simp) (by intro k hk; simp [Value.ownBlock] at hk; omega)
def casO (c : Ca) : Ca := ⟨c.grp, c.why, opp c.ct⟩
theorem kcs_set (l : List Ca) (i : Nat) (x : Ca) (h : l[i]? = some x) (y : Int) : kcs (l.set i ⟨x.grp, x.why, y⟩) = (kcs l).set (i * 3 + 2) (.int .i64 y) := by
 induction l generalizing i with
 | nil => simp at h
 | cons a r ih =>
  cases i with
  | zero => simp at h; subst h; rfl
  | succ i =>
   simp only [List.set_cons_succ, kcs]
   rw [ih i (by simpa using h), show (i + 1) * 3 = (i * 3 + 2) + 1 by omega, List.set_cons_succ]
theorem ownK_at {B : Nat} {w : World} {v : Value} {l : List Ca} (h : OwnK B w v l) (i : Nat) (x : Ca) (hx : l[i]? = some x) : ∃ g c, v = .slice (some ⟨g, 0, none⟩) l.length c ∧ B ≤ g ∧ g < w.heap.size ∧ CaCells w g (i * 3) x ∧ w.frozen? ⟨g, i * 3 + 2, none⟩ = false := by
 have hc := cas_of_own (K := fun _ => True) h fun _ _ => trivial
 obtain ⟨hl, h⟩ := h
 have hil := (List.getElem?_eq_some_iff.1 hx).1
 rcases h with ⟨rfl, h0⟩ | ⟨g, cap, cur, rfl, hbg, hg, h1, h2, hs, ht⟩
 ·omega
 ·refine ⟨g, cap, rfl, hbg, (Array.getElem?_eq_some_iff.1 hg).1, ?_, by simp [World.frozen?, hg]⟩
  obtain ⟨b, o, e, -, -, hx2, hcc⟩ := CasAt.get hc i hil
  simp only [Option.some.injEq, Addr.mk.injEq, and_true] at e
  obtain ⟨rfl, rfl⟩ := e
  rw [hx2] at hx
  obtain rfl := Option.some.inj hx
  rwa [Nat.zero_add] at hcc
theorem ownK_put {B : Nat} {w : World} {g c : Nat} {l : List Ca} (h : OwnK B w (.slice (some ⟨g, 0, none⟩) l.length c) l) (i : Nat) (x : Ca) (hx : l[i]? = some x) (y : Int) : OwnK B (w.setCell ⟨g, i * 3 + 2, none⟩ (.int .i64 y)) (.slice (some ⟨g, 0, none⟩) l.length c) (l.set i ⟨x.grp, x.why, y⟩) := by
 obtain ⟨hl, h⟩ := h
 have hil := (List.getElem?_eq_some_iff.1 hx).1
 rcases h with ⟨e, h0⟩ | ⟨g', cap, cur, e, hbg, hg, h1, h2, hs, ht⟩
 ·cases e
 ·simp only [Value.slice.injEq, Option.some.injEq, Addr.mk.injEq, and_true, true_and] at e
  obtain ⟨rfl, rfl⟩ := e
  refine ⟨by rw [kcs_len, List.length_set], Or.inr ⟨g, c, cur.setIfInBounds (i * 3 + 2) (.int .i64 y), by rw [List.length_set], hbg, ?_, by rw [List.length_set]; exact h1, h2, by simpa using hs, ?_⟩⟩
  ·simp [World.setCell, Array.getElem?_modify, hg]
  ·rw [kcs_set l i x hx y, List.length_set, ← ht, Array.toList_setIfInBounds, List.take_set]
theorem set_map (l : List Ca) (k : Nat) (hk : k < l.length) : ((l.take k).map casO ++ l.drop k).set k (casO l[k]) = (l.take (k + 1)).map casO ++ l.drop (k + 1) := by
 have e : ((l.take k).map casO).length = k := by simp; omega
 rw [List.set_append_right _ _ (by omega), e, Nat.sub_self, List.drop_eq_getElem_cons hk, List.set_cons_zero, List.take_add_one, List.map_append, List.getElem?_eq_getElem hk]
 simp
theorem map_at (l : List Ca) (k : Nat) (hk : k < l.length) : ((l.take k).map casO ++ l.drop k)[k]? = some l[k] := by
 have e : ((l.take k).map casO).length = k := by simp; omega
 rw [List.getElem?_append_right (by omega), e, Nat.sub_self, List.drop_eq_getElem_cons hk]; rfl
theorem map_len (l : List Ca) (k : Nat) : ((l.take k).map casO ++ l.drop k).length = l.length := by simp; omega
set_option maxHeartbeats 4000000 in
theorem oppCas_any (l : List Ca) (v : Value) (w : World) (h : CasAt All w v l) (hl : l.length ≤ 1000000) (hI : ∀ c ∈ l, I64 c.ct) :
  Calls Try.prog 60 #[v] w fun e w' => ∃ v', e = .returned v' ∧ OwnK w.heap.size w' v' (l.map casO) ∧ Below w.heap.size w w' := by
 have HC := Lib.hid (cloneK_any l v w h hl)
 have HI := Lib.hid hI
 clear h hI
 go_enter Try.func60, Try.ntmps60
 go_wp2_with (first | (go_at_call 52; refine HC.out.mono ?_; rintro e w1 ⟨v', rfl, ho, hb⟩; have HO := Lib.hid ho; have HB := Lib.hid hb; obtain ⟨ua, uc, rfl, -, -⟩ := ownK_form ho; clear ho hb))
 go_loopg [9] (l.length) (fun gg t9 wr => ∃ k : Nat, k ≤ l.length ∧ gg = l.length - k ∧ t9 = .int .i64 k ∧ Hid (OwnK w.heap.size wr (.slice ua l.length uc) ((l.take k).map casO ++ l.drop k)) ∧ Hid (Below w.heap.size w wr))
 case atStart => exact ⟨0, Nat.zero_le _, rfl, rfl, by simpa [Hid] using HO.out, HB.out⟩
 case round =>
  obtain ⟨k, hk, hg, rfl, HOk, HBn⟩ := hrel
  by_cases hlt : k < l.length
  ·have hltz : (k : Int) < (l.length : Int) := by omega
   obtain ⟨g, c, e, hbg, hgl, ⟨c0, c1, c2⟩, hfz⟩ := ownK_at HOk.out k _ (map_at l k hlt)
   rw [map_len] at e
   simp only [Value.slice.injEq, true_and] at e
   obtain ⟨rfl, rfl⟩ := e
   have HP : Hid (OwnK w.heap.size (wr.setCell ⟨g, k * 3 + 2, none⟩ (.int .i64 (opp l[k].ct))) (.slice (some ⟨g, 0, none⟩) l.length uc) ((l.take (k + 1)).map casO ++ l.drop (k + 1))) := by
    have h1 := HOk.out
    have h2 := ownK_put (l := (l.take k).map casO ++ l.drop k) (by rw [map_len]; exact h1) k l[k] (map_at l k hlt) (opp l[k].ct)
    rw [map_len] at h2
    rw [← set_map l k hlt]
    exact h2
   have HBp : Hid (Below w.heap.size w (wr.setCell ⟨g, k * 3 + 2, none⟩ (.int .i64 (opp l[k].ct)))) := HBn.out.setCell (p := ⟨g, k * 3 + 2, none⟩) hbg _
   have HOP := Lib.hid fun W => opp_any l[k].ct W (HI.out _ (List.getElem_mem hlt))
   have hi1 : k < l.length := hlt
   clear hgl
   generalize l[k] = x at *
   go_wp2_with (first | (go_at_call 56; refine (HOP.out _).mono ?_; rintro e w2 ⟨rfl, hw⟩; rw [hw]; clear hw w2))
   go_roundg (l.length - (k + 1))
   case measure => omega
   case rel => exact ⟨k + 1, by omega, rfl, by go_num, HP.out, HBp.out⟩
  ·have hltz : ¬ (k : Int) < (l.length : Int) := by omega
   have HF : Hid (OwnK w.heap.size wr (.slice ua l.length uc) (l.map casO)) := by
    have := HOk.out
    rw [List.take_of_length_le (by omega), List.drop_eq_nil_of_le (by omega), List.append_nil] at this
    exact this
   go_wp2
   go_ret
   exact ⟨_, rfl, HF.out, HBn.out⟩
end Go.Proofs.Ytpfpjbeofogbgaa.Sv
end
section
set_option maxRecDepth 100000
namespace Go.Proofs.Ytpfpjbeofogbgaa.Sv
open Go.RowKit
open Bk (keepB below_alloc below_trans alloc_new)
open Cm (mk_ne codeB)
def SrOk (s : Sr) : Prop := I64 s.bi ∧ I64 s.paid ∧ (∀ c ∈ s.cas, I64 c.ct) ∧ s.proc.length ≤ 281474976710656
theorem ok_range {st n : Int} (h : okM st n = true) : -10000000000000 ≤ n ∧ n ≤ 10000000000000 := by
 unfold okM at h
 split at h
 ·have := (Ce.good_iff n).1 h; omega
 ·simp at h; omega
theorem cases_step {st : Int} {l : List Ca} {j : Nat} {x : Ca} (hx : l[j]? = some x) {R : Int} (h : casesE st (l.drop j) = R) (he : casE st x = 0) : casesE st (l.drop (j + 1)) = R := by
 have hj := (List.getElem?_eq_some_iff.1 hx)
 obtain ⟨hl, he'⟩ := hj
 rw [List.drop_eq_getElem_cons hl, he'] at h
 unfold casesE at h
 rw [if_pos he] at h
 exact h
theorem cases_bad {st : Int} {l : List Ca} {j : Nat} {x : Ca} (hx : l[j]? = some x) {R : Int} (h : casesE st (l.drop j) = R) (he : casE st x ≠ 0) : R = casE st x := by
 obtain ⟨hl, he'⟩ := (List.getElem?_eq_some_iff.1 hx)
 rw [List.drop_eq_getElem_cons hl, he'] at h
 unfold casesE at h
 rw [if_neg he] at h
 exact h.symm
theorem cases_end {st : Int} {l : List Ca} {j : Nat} (hj : l.length ≤ j) {R : Int} (h : casesE st (l.drop j) = R) : R = 0 := by
 rw [List.drop_eq_nil_of_le hj] at h; exact h.symm
theorem sum_step {l : List Ca} {j : Nat} {x : Ca} (hx : l[j]? = some x) {T R : Int} (h : T + sumC (l.drop j) = R) : (T + x.ct) + sumC (l.drop (j + 1)) = R := by
 obtain ⟨hl, he'⟩ := (List.getElem?_eq_some_iff.1 hx)
 rw [List.drop_eq_getElem_cons hl, he'] at h
 simp only [sumC] at h
 omega
theorem sum_end {l : List Ca} {j : Nat} (hj : l.length ≤ j) {T R : Int} (h : T + sumC (l.drop j) = R) : R = T := by
 rw [List.drop_eq_nil_of_le hj] at h; simp only [sumC] at h; omega
theorem svc_9 {st : Int} {s : Sr} (h : codeB s.proc 5 5 = false) : svcE st s = 9 := by unfold svcE; rw [h]; rfl
theorem svc_6 {st : Int} {s : Sr} (h : codeB s.proc 5 5 = true) (h2 : ¬ s.cas.length ≤ 5) : svcE st s = 6 := by unfold svcE; rw [if_pos h, if_neg h2]
theorem svc_8 {st : Int} {s : Sr} (h : codeB s.proc 5 5 = true) (h2 : s.cas.length ≤ 5) (h3 : okM st s.bi = false ∨ okM st s.paid = false) : svcE st s = 8 := by
 unfold svcE; rw [if_pos h, if_pos h2, if_neg]
 rintro ⟨a, b⟩; rcases h3 with h3 | h3 <;> simp_all
theorem svc_in {st : Int} {s : Sr} (h : codeB s.proc 5 5 = true) (h2 : s.cas.length ≤ 5) (h3 : okM st s.bi = true) (h4 : okM st s.paid = true) : svcE st s = if casesE st s.cas = 0 then (if s.paid + sumC s.cas = s.bi then 0 else 17) else casesE st s.cas := by
 unfold svcE; rw [if_pos h, if_pos h2, if_pos ⟨h3, h4⟩]
set_option maxHeartbeats 4000000 in
theorem checkService_any (s : Sr) (m : Value) (st : Int) (w : World) (hm : CasAt All w m s.cas) (hz : SrOk s) (hs : st = 1 ∨ st = 22) :
  Calls Try.prog 42 #[srv s m, .int .i64 st] w fun e w' => e = .returned (.int .i64 (svcE st s)) ∧ Below w.heap.size w w' := by
 obtain ⟨z1, z2, z3, z4⟩ := hz
 obtain ⟨a, cap, rfl, f1, f2⟩ := hm.form
 have HB := Lib.hid (below_alloc w (.cells (sre s (.slice a s.cas.length cap)) Ts))
 have HX := Lib.hid (alloc_new w (sre s (.slice a s.cas.length cap)) Ts)
 have HM : Hid (∀ w', Below w.heap.size w w' → CasAt All w' (.slice a s.cas.length cap) s.cas) := fun w' hb => hm.grw hb
 have HC := Lib.hid fun w => Cm.code_any s.proc 5 5 w (by omega)
 have HG : Hid (∀ n w, n = s.bi ∨ n = s.paid → Calls Try.prog 44 #[.int .i64 n, .int .i64 st] w fun e w' => e = .returned (.bool (okM st n)) ∧ w' = w) := fun n w h => good_any n st w (by rcases h with rfl | rfl <;> assumption) hs
 have HK : Hid (∀ c ∈ s.cas, ∀ w, Calls Try.prog 55 #[cav c, .int .i64 st] w fun e w' => e = .returned (.int .i64 (casE st c)) ∧ Below w.heap.size w w') := fun c hc w => checkCas_any c st w (z3 c hc) hs
 clear hm z1 z2 z3 z4 hs
 cases hc : codeB s.proc 5 5 with
 | false =>
  rw [svc_9 hc]
  rw [hc] at HC
  go_enter Try.func42, Try.ntmps42
  go_upto_region 1 with fail
  generalize w.alloc (.cells (sre s (.slice a s.cas.length cap)) Ts) = W at *
  generalize hp : w.heap.size = p at *
  obtain ⟨x0, x1, x2, x3⟩ := four HX.out
  go_wp2_with (first | (go_at_call 54; refine (HC.out _).mono ?_; rintro e w' ⟨rfl, hw⟩; rw [hw]; clear hw w'))
  go_ret
  exact ⟨rfl, by first | exact HB.out | (rw [hp]; exact HB.out)⟩
 | true =>
 rw [hc] at HC
 by_cases h5 : s.cas.length ≤ 5
 case neg =>
  rw [svc_6 hc h5]
  have h5' : (5 : Int) < (s.cas.length : Int) := by omega
  go_enter Try.func42, Try.ntmps42
  go_upto_region 1 with fail
  generalize w.alloc (.cells (sre s (.slice a s.cas.length cap)) Ts) = W at *
  generalize hp : w.heap.size = p at *
  obtain ⟨x0, x1, x2, x3⟩ := four HX.out
  go_wp2_with (first | (go_at_call 54; refine (HC.out _).mono ?_; rintro e w' ⟨rfl, hw⟩; rw [hw]; clear hw w'))
  go_ret
  exact ⟨rfl, by first | exact HB.out | (rw [hp]; exact HB.out)⟩
 have h5' : ¬ (5 : Int) < (s.cas.length : Int) := by omega
 cases g1 : okM st s.bi with
 | false =>
  rw [svc_8 hc h5 (Or.inl g1)]
  go_enter Try.func42, Try.ntmps42
  go_upto_region 1 with fail
  generalize w.alloc (.cells (sre s (.slice a s.cas.length cap)) Ts) = W at *
  generalize hp : w.heap.size = p at *
  obtain ⟨x0, x1, x2, x3⟩ := four HX.out
  go_wp2_with (first | (go_at_call 54; refine (HC.out _).mono ?_; rintro e w' ⟨rfl, hw⟩; rw [hw]; clear hw w') | (go_at_call 44; refine (HG.out _ _ (by first | exact Or.inl rfl | exact Or.inr rfl)).mono ?_; rintro e w' ⟨rfl, hw⟩; rw [hw]; clear hw w'))
  go_ret
  exact ⟨rfl, by first | exact HB.out | (rw [hp]; exact HB.out)⟩
 | true =>
 cases g2 : okM st s.paid with
 | false =>
  rw [svc_8 hc h5 (Or.inr g2)]
  go_enter Try.func42, Try.ntmps42
  go_upto_region 1 with fail
  generalize w.alloc (.cells (sre s (.slice a s.cas.length cap)) Ts) = W at *
  generalize hp : w.heap.size = p at *
  obtain ⟨x0, x1, x2, x3⟩ := four HX.out
  go_wp2_with (first | (go_at_call 54; refine (HC.out _).mono ?_; rintro e w' ⟨rfl, hw⟩; rw [hw]; clear hw w') | (go_at_call 44; refine (HG.out _ _ (by first | exact Or.inl rfl | exact Or.inr rfl)).mono ?_; rintro e w' ⟨rfl, hw⟩; rw [hw]; clear hw w'))
  go_ret
  exact ⟨rfl, by first | exact HB.out | (rw [hp]; exact HB.out)⟩
 | true =>
 have HR := Lib.hid (svc_in (st := st) hc h5 g1 g2)
 have hpr := ok_range g2
 generalize svcE st s = R at *
 obtain ⟨S, hS⟩ : ∃ S, s.paid + sumC s.cas = S := ⟨_, rfl⟩
 obtain ⟨E, hE⟩ : ∃ E, casesE st s.cas = E := ⟨_, rfl⟩
 rw [hS, hE] at HR
 have HS0 := Lib.hid hS
 have HE0 := Lib.hid hE
 clear hS hE hc
 go_enter Try.func42, Try.ntmps42
 go_upto_region 1 with fail
 generalize w.alloc (.cells (sre s (.slice a s.cas.length cap)) Ts) = W at *
 generalize hp : w.heap.size = p at *
 have HPW : Hid (p ≤ W.heap.size) := by have := HB.out.size; rw [hp] at this; exact this
 obtain ⟨x0, x1, x2, x3⟩ := four HX.out
 go_wp2_with (first | (go_at_call 54; refine (HC.out _).mono ?_; rintro e w' ⟨rfl, hw⟩; rw [hw]; clear hw w') | (go_at_call 44; refine (HG.out _ _ (by first | exact Or.inl rfl | exact Or.inr rfl)).mono ?_; rintro e w' ⟨rfl, hw⟩; rw [hw]; clear hw w'))
 go_loopg [5, 37] (s.cas.length) (fun gg t5 t37 wr => ∃ (j : Nat) (T : Int), j ≤ s.cas.length ∧ gg = s.cas.length - j ∧ t5 = .int .i64 T ∧ t37 = .int .i64 j ∧ (-10000000000000 * (j + 1) ≤ T ∧ T ≤ 10000000000000 * (j + 1)) ∧ Hid (casesE st (s.cas.drop j) = E) ∧ Hid (T + sumC (s.cas.drop j) = S) ∧ Hid (Below W.heap.size W wr))
 case atStart => exact ⟨0, s.paid, Nat.zero_le _, rfl, rfl, rfl, by omega, HE0.out, HS0.out, Below.refl _ _⟩
 case round =>
  obtain ⟨j, T, hj, hg, rfl, rfl, ⟨ht1, ht2⟩, HE1, HS1, HBn⟩ := hrel
  have HBw : Hid (Below p w wr) := HB.out.trans (HBn.out.mono HPW.out)
  obtain ⟨x0, x1, x2, x3⟩ := four (keepB HX.out HBn.out)
  by_cases hlt : j < s.cas.length
  ·have hltz : (j : Int) < (s.cas.length : Int) := by omega
   obtain ⟨b, o, rfl, -, -, hx, hcell⟩ := CasAt.get (HM.out _ HBw.out) j hlt
   have HKj := Lib.hid (HK.out _ (List.mem_of_getElem? hx))
   have HST := Lib.hid fun h => cases_step hx HE1.out h
   have HBD := Lib.hid fun h => cases_bad hx HE1.out h
   have HSS := Lib.hid (sum_step hx HS1.out)
   generalize s.cas[j] = x at *
   obtain ⟨c0, c1, c2⟩ := hcell
   have HXn := Lib.hid (alloc_new wr (cae x) Tk)
   have HBn1 := Lib.hid (below_alloc wr (.cells (cae x) Tk))
   clear hx
   by_cases he : casE st x = 0
   ·have hrg := ok_range (cas_ok he).2.2.2
    have hE2 := HST.out he
    rw [he] at HKj
    clear he HBD HST
    have HE2 := Lib.hid hE2
    clear hE2
    go_wp2_with (first | (go_at_call 55; refine (HKj.out _).mono ?_; rintro e w1 ⟨rfl, hb⟩; obtain ⟨y0, y1, y2⟩ := three (keepB HXn.out hb); have HB2 : Hid (Below W.heap.size W w1) := HBn.out.trans ((below_trans HBn1.out hb).mono HBn.out.size); clear hb))
    go_roundg (s.cas.length - (j + 1))
    case measure => omega
    case rel => exact ⟨j + 1, T + x.ct, by omega, rfl, rfl, by go_num, by omega, HE2.out, HSS.out, HB2.out⟩
   ·have hE2 := HBD.out he
    have hb0 : (casE st x != 0) = true := by simpa using he
    have hR : R = casE st x := by rw [HR.out, if_neg (by omega), hE2]
    have HRR := Lib.hid hR
    clear he HBD HST hE2 hR HR
    go_wp2_with (first | (go_at_call 55; refine (HKj.out _).mono ?_; rintro e w1 ⟨rfl, hb⟩; obtain ⟨y0, y1, y2⟩ := three (keepB HXn.out hb); have HB2 : Hid (Below p w w1) := HBw.out.trans ((below_trans HBn1.out hb).mono (Nat.le_trans HPW.out HBn.out.size)); clear hb))
    go_ret
    exact ⟨by rw [HRR.out]; rfl, by first | exact HB2.out | (rw [hp]; exact HB2.out)⟩
  ·have hltz : ¬ (j : Int) < (s.cas.length : Int) := by omega
   have h0 := cases_end (by omega) HE1.out
   have h1 := sum_end (by omega) HS1.out
   by_cases hT : T = s.bi
   ·have hR : R = 0 := by rw [HR.out, if_pos h0, if_pos (by omega)]
    have hb0 : (s.bi != T) = false := by simp [hT]
    have HRR := Lib.hid hR
    clear h0 h1 hR HR hT
    go_wp2
    go_ret
    exact ⟨by rw [HRR.out]; rfl, by first | exact HBw.out | (rw [hp]; exact HBw.out)⟩
   ·have hR : R = 17 := by rw [HR.out, if_pos h0, if_neg (by omega)]
    have hb0 : (s.bi != T) = true := by simp; omega
    have HRR := Lib.hid hR
    clear h0 h1 hR HR hT
    go_wp2
    go_ret
    exact ⟨by rw [HRR.out]; rfl, by first | exact HBw.out | (rw [hp]; exact HBw.out)⟩
end Go.Proofs.Ytpfpjbeofogbgaa.Sv
end
