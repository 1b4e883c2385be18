/-
  What svc.opposite, good, checkCas and head answer, as contracts; the reference's good and cas.
-/
import Derived.Test.YtpnkgkchpoehcaaVMem
import Derived.Test.YtpnkgkchpoehcaaLCode
import Derived.Test.YtpnkgkchpoehcaaLTexts
import Derived.Test.YtpnkgkchpoehcaaCAdds
import Derived.Test.YtpnkgkchpoehcaaCRefs
import Derived.Deep.Cut
set_option linter.unusedSimpArgs false
set_option linter.unusedVariables false
set_option maxRecDepth 100000
namespace Go.Proofs.Ytpnkgkchpoehcaa.Sv
open Go.RowKit
open Bk (below_alloc below_trans alloc_new)
open Cm (mk_ne codeB)

def I64 (a : Int) : Prop := -9223372036854775808 ≤ a ∧ a ≤ 9223372036854775807
def opp (a : Int) : Int := if a = -9223372036854775808 then 9223372036854775807 else -a
theorem opp_any (a : Int) (w : World) (ha : I64 a) : Calls Try.prog 33 #[.int .i64 a] w fun e w' => e = .returned (.int .i64 (opp a)) ∧ w' = w := by
  obtain ⟨h1, h2⟩ := ha
  by_cases h : a = -9223372036854775808
  · rw [show opp a = 9223372036854775807 from if_pos h]
    subst h
    go_enter Try.func33, Try.ntmps33
    go_wp2
    go_ret
    exact ⟨rfl, rfl⟩
  · rw [show opp a = -a from if_neg h]
    have hb : (a == -9223372036854775808) = false := by simpa using h
    go_enter Try.func33, Try.ntmps33
    go_wp2
    go_ret
    exact ⟨rfl, rfl⟩
theorem good_opp (a : Int) (ha : I64 a) : Ce.good (opp a) = okM 22 a := by
  obtain ⟨h1, h2⟩ := ha
  rw [Bool.eq_iff_iff, Ce.good_iff, ok_back]
  unfold opp
  split <;> omega
theorem good_any (a st : Int) (w : World) (ha : I64 a) (hs : st = 1 ∨ st = 22) : Calls Try.prog 27 #[.int .i64 a, .int .i64 st] w fun e w' => e = .returned (.bool (okM st a)) ∧ w' = w := by
  have HO := Lib.hid (opp_any a w ha)
  have HG := Lib.hid (good_opp a ha)
  rcases hs with rfl | rfl
  · rw [show okM 1 a = Ce.good a from rfl]
    clear ha
    go_enter Try.func27, Try.ntmps27
    go_wp2_with (first | (go_at_call 39; refine (Ce.good_any _ _).mono ?_; rintro e w' ⟨rfl, rfl⟩))
    go_ret
    exact ⟨rfl, rfl⟩
  · rw [← HG.out]
    clear ha HG
    generalize opp a = b at *
    go_enter Try.func27, Try.ntmps27
    go_wp2_with (first | (go_at_call 39; refine (Ce.good_any _ _).mono ?_; rintro e w' ⟨rfl, rfl⟩) | (go_at_call 33; refine HO.out.mono ?_; rintro e w' ⟨rfl, rfl⟩))
    go_ret
    exact ⟨rfl, rfl⟩
theorem rgood_any (a st : Int) (w : World) : Calls Try.prog 30 #[.int .i64 st, .int .i64 a] w fun e w' => e = .returned (.bool (okM st a)) ∧ w' = w := by
  by_cases hs : st = 1
  · rw [show okM st a = Ce.good a from if_pos hs]
    subst hs
    go_enter Try.func30, Try.ntmps30
    go_wp2_with (first | (go_at_call 41; refine (Ce.rgood_any _ _).mono ?_; rintro e w' ⟨rfl, rfl⟩))
    go_ret
    exact ⟨rfl, rfl⟩
  · rw [show okM st a = (decide (a ≤ 0) && decide (-10000000000000 ≤ a)) from if_neg hs]
    have hb : (st == 1) = false := by simpa using hs
    by_cases h1 : a ≤ 0
    · have d1 : decide (a ≤ 0) = true := decide_eq_true h1
      rw [d1, Bool.true_and]
      go_enter Try.func30, Try.ntmps30
      go_wp2
      go_ret
      exact ⟨rfl, rfl⟩
    · have d1 : decide (a ≤ 0) = false := decide_eq_false h1
      rw [d1, Bool.false_and]
      go_enter Try.func30, Try.ntmps30
      go_wp2
      go_ret
      exact ⟨rfl, rfl⟩
theorem mk_tl (s : Tx) : (mk s).toList = s := by rw [Lib.toList_data, mk_list]
theorem cas_9 {st : Int} {c : Ca} (h : ¬ (c.grp = gCO ∨ c.grp = gPR ∨ c.grp = gOA)) : casE st c = 9 := if_neg h
theorem cas_9w {st : Int} {c : Ca} (h : c.why < 1 ∨ 999 < c.why) : casE st c = 9 := by
  unfold casE; split
  · rw [if_neg (by omega)]
  · rfl
theorem cas_8 {st : Int} {c : Ca} (h : c.grp = gCO ∨ c.grp = gPR ∨ c.grp = gOA) (h1 : 1 ≤ c.why) (h2 : c.why ≤ 999) (h3 : c.ct = 0 ∨ okM st c.ct = false) : casE st c = 8 := by
  unfold casE; rw [if_pos h, if_pos ⟨h1, h2⟩, if_neg (by rcases h3 with h3 | h3 <;> simp [h3])]
set_option maxHeartbeats 1000000 in
theorem checkCas_any (c : Ca) (st : Int) (w : World) (hc : I64 c.ct) (hs : st = 1 ∨ st = 22) : Calls Try.prog 38 #[cav c, .int .i64 st] w fun e w' => e = .returned (.int .i64 (casE st c)) ∧ Below w.heap.size w w' := by
  have HB := Lib.hid (below_alloc w (.cells (cae c) Tk))
  have HG := Lib.hid fun w => good_any c.ct st w hc hs
  clear hc hs
  have HX := Lib.hid (alloc_new w (cae c) Tk)
  go_enter Try.func38, Try.ntmps38
  go_upto_region 1 with fail
  generalize w.alloc (.cells (cae c) Tk) = W at *
  generalize hp : w.heap.size = p at *
  obtain ⟨x0, x1, x2⟩ := three HX.out
  go_wp2_with (first | (go_at_call 27; refine (HG.out _).mono ?_; rintro e w' ⟨rfl, rfl⟩))
  all_goals
    go_ret
    refine ⟨?_, by first | exact HB.out | (rw [hp]; exact HB.out)⟩
    clear HB HG HX x0 x1 x2
    simp only [mk_tl] at *
    first
    | (rw [cas_9w]; (· rfl); omega)
    | (rw [cas_9]; (· rfl); simp only [gCO, gPR, gOA]; simp_all; done)
    | (rw [cas_8 (st := st) (c := c)]; rfl; (simp only [gCO, gPR, gOA]; first | exact Or.inl ‹_› | exact Or.inr (Or.inl ‹_›) | exact Or.inr (Or.inr ‹_›) | (rename_i h; simp only [Bool.not_eq_false', beq_iff_eq] at h; rcases h with (h | h) | h; (exact Or.inl h); (exact Or.inr (Or.inl h)); exact Or.inr (Or.inr h))); omega; omega; first | exact Or.inl ‹c.ct = 0› | (have h := ‹(c.ct == 0) = true ∨ (!okM st c.ct) = true›; simpa using h))
    | (rw [cas_of (st := st) (c := c)]; rfl; (simp only [gCO, gPR, gOA]; first | exact Or.inl ‹_› | exact Or.inr (Or.inl ‹_›) | exact Or.inr (Or.inr ‹_›) | (rename_i h; simp only [Bool.not_eq_false', beq_iff_eq] at h; rcases h with (h | h) | h; (exact Or.inl h); (exact Or.inr (Or.inl h)); exact Or.inr (Or.inr h))); omega; exact ‹¬ c.ct = 0›; (have h := ‹(c.ct == 0) = false ∧ (!okM st c.ct) = false›; simpa using h.2))
set_option maxHeartbeats 1000000 in
theorem rcas_any (c : Ca) (st : Int) (w : World) : Calls Try.prog 40 #[.int .i64 st, cav c] w fun e w' => e = .returned (.int .i64 (casE st c)) ∧ Below w.heap.size w w' := by
  have HB := Lib.hid (below_alloc w (.cells (cae c) Tk))
  have HX := Lib.hid (alloc_new w (cae c) Tk)
  have HG := Lib.hid fun w => rgood_any c.ct st w
  go_enter Try.func40, Try.ntmps40
  go_upto_region 1 with fail
  generalize w.alloc (.cells (cae c) Tk) = W at *
  generalize hp : w.heap.size = p at *
  obtain ⟨x0, x1, x2⟩ := three HX.out
  go_wp2_with (first | (go_at_call 30; refine (HG.out _).mono ?_; rintro e w' ⟨rfl, rfl⟩))
  all_goals
    go_ret
    refine ⟨?_, by first | exact HB.out | (rw [hp]; exact HB.out)⟩
    clear HB HG HX x0 x1 x2
    simp only [mk_tl] at *
    first
    | (rw [cas_9w]; (· rfl); omega)
    | (rw [cas_9]; (· rfl); simp only [gCO, gPR, gOA]; simp_all; done)
    | (rw [cas_8 (st := st) (c := c)]; rfl; (simp only [gCO, gPR, gOA]; first | exact Or.inl ‹_› | exact Or.inr (Or.inl ‹_›) | exact Or.inr (Or.inr ‹_›) | (rename_i h; simp only [Bool.not_eq_false', beq_iff_eq] at h; rcases h with (h | h) | h; (exact Or.inl h); (exact Or.inr (Or.inl h)); exact Or.inr (Or.inr h))); omega; omega; first | exact Or.inl ‹c.ct = 0› | (have h := ‹(c.ct == 0) = true ∨ (!okM st c.ct) = true›; simpa using h))
    | (rw [cas_of (st := st) (c := c)]; rfl; (simp only [gCO, gPR, gOA]; first | exact Or.inl ‹_› | exact Or.inr (Or.inl ‹_›) | exact Or.inr (Or.inr ‹_›) | (rename_i h; simp only [Bool.not_eq_false', beq_iff_eq] at h; rcases h with (h | h) | h; (exact Or.inl h); (exact Or.inr (Or.inl h)); exact Or.inr (Or.inr h))); omega; exact ‹¬ c.ct = 0›; (have h := ‹(c.ct == 0) = false ∧ (!okM st c.ct) = false›; simpa using h.2))
def headE (id : Tx) (st n : Int) : Int := if codeB id 1 12 = true ∧ (st = 1 ∨ st = 22) then (if 1 ≤ n ∧ n ≤ 999 then 0 else 6) else 9
set_option maxHeartbeats 1000000 in
theorem head_any (id : Tx) (st n : Int) (w : World) (hs : id.length ≤ 9223372036854775807) : Calls Try.prog 21 #[.string (mk id), .int .i64 st, .int .i64 n] w fun e w' => e = .returned (.int .i64 (headE id st n)) ∧ w' = w := by
  have HC := Lib.hid (Cm.code_any id 1 12 w hs)
  unfold headE
  generalize codeB id 1 12 = R at *
  generalize mk id = X at *
  clear hs
  cases R with
  | false =>
    rw [if_neg (by simp)]
    go_enter Try.func21, Try.ntmps21
    go_wp2_with (first | (go_at_call 36; refine HC.out.mono ?_; rintro e w' ⟨rfl, rfl⟩))
    go_ret
    exact ⟨rfl, rfl⟩
  | true =>
    by_cases hs : st = 1 ∨ st = 22
    case neg =>
      rw [if_neg (fun h => hs h.2)]
      have n1 : (st != 1) = true := by simp; omega
      have n2 : (st != 22) = true := by simp; omega
      clear hs
      go_enter Try.func21, Try.ntmps21
      go_wp2_with (first | (go_at_call 36; refine HC.out.mono ?_; rintro e w' ⟨rfl, rfl⟩))
      go_ret
      exact ⟨rfl, rfl⟩
    rw [if_pos ⟨rfl, hs⟩]
    by_cases hn : 1 ≤ n ∧ n ≤ 999
    case neg =>
      rw [if_neg hn]
      by_cases h1 : n < 1
      · rcases hs with rfl | rfl <;>
        · go_enter Try.func21, Try.ntmps21
          go_wp2_with (first | (go_at_call 36; refine HC.out.mono ?_; rintro e w' ⟨rfl, rfl⟩))
          go_ret
          exact ⟨rfl, rfl⟩
      · have h2 : 999 < n := by omega
        clear hn
        rcases hs with rfl | rfl <;>
        · go_enter Try.func21, Try.ntmps21
          go_wp2_with (first | (go_at_call 36; refine HC.out.mono ?_; rintro e w' ⟨rfl, rfl⟩))
          go_ret
          exact ⟨rfl, rfl⟩
    rw [if_pos hn]
    obtain ⟨h1, h2⟩ := hn
    have h3 : ¬ n < 1 := by omega
    have h4 : ¬ 999 < n := by omega
    rcases hs with rfl | rfl <;>
    · go_enter Try.func21, Try.ntmps21
      go_wp2_with (first | (go_at_call 36; refine HC.out.mono ?_; rintro e w' ⟨rfl, rfl⟩))
      go_ret
      exact ⟨rfl, rfl⟩
end Go.Proofs.Ytpnkgkchpoehcaa.Sv
