/-
  Texts put together (merge.py): PSize.
-/
import Derived.Test.YtgloihilnbjmeaaDoorMp12
/-
  How long a plan's text is, by how many conditions and sets it has; a rule's text behind a plan's.
-/
section
set_option linter.unusedSimpArgs false
namespace Go.Proofs.YtgloihilnbjmeaaDoor.Pl

def cntC : Nat → Cd → Nat
  | 0, _ => 0
  | f + 1, .mk _ _ _ _ ks => 1 + (ks.map (cntC f)).sum
def cntR (r : Ru) : Nat := 1 + r.sets.length + cntC 16 r.cif + (r.unl.map (cntC 16)).sum
def cntP (p : Pn) : Nat := (p.rules.map cntR).sum
theorem cond_size : ∀ (f : Nat) (c : Cd), condB f c = true → szW (condW f c) ≤ 23 * cntC f c
  | 0, c, h => by cases h
  | f + 1, .mk k lo hi n ks, h => by
    simp only [condB, Bool.and_eq_true, decide_eq_true_eq, List.all_eq_true] at h
    obtain ⟨hk, hks, hl⟩ := h
    obtain ⟨h0, h8, hlo, hhi, hn⟩ := leaf_facts hl
    have hcode : ∀ (t : Tx) (m : Int), Cm.codeB t m m = true → (t.length : Int) ≤ m := fun t m h => by simp only [Cm.codeB, Bool.and_eq_true, decide_eq_true_eq] at h; exact h.1.2
    rcases k_cases h0 h8 with rfl | rfl | rfl | rfl | rfl | rfl | rfl | rfl | rfl
    · show szW [tAll] ≤ 23 * (1 + _); simp only [sz_cons, sz_nil, tAll, List.length_cons, List.length_nil]; omega
    · have h1 := hcode lo 5 (by simpa [loB] using hlo)
      have h2 := hcode hi 5 (by simpa [hiB] using hhi)
      show szW [tProc, lo, hi] ≤ 23 * (1 + _); simp only [sz_cons, sz_nil, tProc, List.length_cons, List.length_nil]; omega
    · have h1 := hcode lo 2 (by simpa [loB] using hlo)
      show szW [tMod, lo] ≤ 23 * (1 + _); simp only [sz_cons, sz_nil, tMod, List.length_cons, List.length_nil]; omega
    · have hn : 0 ≤ n ∧ n ≤ 9999 := by simpa [nB] using hn
      have h1 := itoa_len hn.1 (show n ≤ 99999 by omega)
      show szW [tUnits, Lib.itoa n] ≤ 23 * (1 + _); simp only [sz_cons, sz_nil, tUnits, List.length_cons, List.length_nil]; omega
    · have h1 := money_len (n := n) (by simpa [nB] using hn)
      show szW [tBilled, Nu.moneyL n] ≤ 23 * (1 + _); simp only [sz_cons, sz_nil, tBilled, List.length_cons, List.length_nil]; omega
    · show szW [tOut] ≤ 23 * (1 + _); simp only [sz_cons, sz_nil, tOut, List.length_cons, List.length_nil]; omega
    · obtain ⟨c, rfl⟩ := list1 (show ks.length = 1 from hk)
      have ih := cond_size f c (hks c (by simp))
      show szW (tNot :: condW f c) ≤ 23 * (1 + (cntC f c + 0)); simp only [sz_cons, tNot, List.length_cons, List.length_nil]; omega
    all_goals
      obtain ⟨c, d, rfl⟩ := list2 (show ks.length = 2 from hk)
      have ih := cond_size f c (hks c (by simp))
      have ih2 := cond_size f d (hks d (by simp))
    · show szW (tO :: (condW f c ++ (tAnd :: (condW f d ++ [tC])))) ≤ 23 * (1 + (cntC f c + (cntC f d + 0)))
      simp only [sz_cons, sz_app, sz_nil, tO, tC, tAnd, List.length_cons, List.length_nil]; omega
    · show szW (tO :: (condW f c ++ (tOr :: (condW f d ++ [tC])))) ≤ 23 * (1 + (cntC f c + (cntC f d + 0)))
      simp only [sz_cons, sz_app, sz_nil, tO, tC, tOr, List.length_cons, List.length_nil]; omega
theorem set_size {s : St} (h : setB s = true) : szW (setW s) ≤ 22 := by
  simp only [setB, Bool.and_eq_true, decide_eq_true_eq] at h
  have hy : ∀ n, (yesW n).length ≤ 3 := fun n => by unfold yesW; split <;> decide
  unfold setW
  split
  · have := hy s.n; simp only [sz_cons, sz_nil, tCover, List.length_cons, List.length_nil]; omega
  split
  · have := hy s.n; simp only [sz_cons, sz_nil, tDed, List.length_cons, List.length_nil]; omega
  split
  · next n1 n2 n3 => have := money_len (n := s.n) (by simpa [n1, n2, n3] using h.2); simp only [sz_cons, sz_nil, tCopay, List.length_cons, List.length_nil]; omega
  · next n1 n2 n3 =>
    have hn : s.n ≤ 10000 := by
      by_cases n4 : s.what = 4
      · simpa [n1, n2, n3, n4] using h.2
      · simp [n1, n2, n3, n4] at h
    have := itoa_len h.1 (show s.n ≤ 99999 by omega)
    simp only [sz_cons, sz_nil, tCoins, List.length_cons, List.length_nil]; omega
theorem sets_size : ∀ (l : List St), (∀ s ∈ l, setB s = true) → szW (setsW l) ≤ 22 * l.length
  | [], _ => by simp [setsW, szW]
  | s :: r, h => by
    have h1 := set_size (h s (by simp))
    have ih := sets_size r fun x hx => h x (List.mem_cons_of_mem _ hx)
    have e : setsW (s :: r) = setW s ++ setsW r := by simp [setsW]
    rw [e, sz_app, List.length_cons]; omega
theorem rule_size {r : Ru} (h : ruleB r = true) : szW (ruleW r) ≤ 30 * cntR r := by
  simp only [ruleB, Bool.and_eq_true, decide_eq_true_eq, List.all_eq_true] at h
  obtain ⟨⟨h0, h1⟩, h2, h3, h4, h5, h6⟩ := h
  have a := itoa_len h0 (show r.rank ≤ 99999 by omega)
  have b := cond_size 16 r.cif h2
  have c := sets_size r.sets (sets_all _ _ h6)
  have hc1 : 1 ≤ cntC 16 r.cif := by
    cases hr : r.cif with
    | mk k lo hi n ks => show 1 ≤ 1 + _; omega
  have d : szW (unlW r.unl) ≤ 30 * (r.unl.map (cntC 16)).sum := by
    unfold unlW
    split
    · next hl =>
      obtain ⟨u, hu⟩ := list1 hl
      have := cond_size 16 u (h4 u (by rw [hu]; simp))
      have hc2 : 1 ≤ cntC 16 u := by
        cases u with
        | mk k lo hi n ks => show 1 ≤ 1 + _; omega
      rw [hu]
      show szW (tUnl :: condW 16 u) ≤ 30 * (cntC 16 u + 0)
      simp only [sz_cons, tUnl, List.length_cons, List.length_nil]; omega
    · simp [szW]
  unfold ruleW cntR
  simp only [sz_cons, sz_app, sz_nil, tRule, tIf, tSet, tEnd, List.length_cons, List.length_nil]
  omega
theorem rules_size : ∀ (l : List Ru), (∀ r ∈ l, ruleB r = true) → szW (l.flatMap ruleW) ≤ 30 * (l.map cntR).sum
  | [], _ => by simp [szW]
  | r :: q, h => by
    have h1 := rule_size (h r (by simp))
    have ih := rules_size q fun x hx => h x (List.mem_cons_of_mem _ hx)
    simp only [List.flatMap_cons, sz_app, List.map_cons, List.sum_cons]; omega
theorem join_size (l : List Tx) : (joinC 32 l).length ≤ szW l := by
  have h := Wo.join_sum l
  have e : ∀ l : List Tx, szW l = Wo.sumL l + l.length := fun l => by
    induction l with
    | nil => rfl
    | cons x r ih => rw [sz_cons, ih]; simp [Wo.sumL]; omega
  rw [e]; exact h
theorem plan_size {p : Pn} (h : planB p = true) : (prT p).length ≤ 100 + 30 * cntP p := by
  have hp := h
  simp only [planB, Bool.and_eq_true, Bool.or_eq_true, decide_eq_true_eq, List.all_eq_true] at h
  obtain ⟨hm, h64, hl, hr⟩ := h
  obtain ⟨l1, l2, l3, l4⟩ := lim_good hl
  have y1 := money_len l1
  have y2 := money_len l2
  have y3 := money_len l3
  have y4 := money_len l4
  have hh : (if p.mode = 1 then tAgg else tEmb).length ≤ 9 := by split <;> decide
  have hs := rules_size p.rules hr
  refine Nat.le_trans (join_size _) ?_
  unfold planW headW cntP
  simp only [sz_cons, sz_app, sz_nil, tPlan, tMem, tFam, List.length_cons, List.length_nil]
  omega

/-! ### A rule's text behind a plan's -/
theorem join_app : ∀ (a b : List Tx), a ≠ [] → b ≠ [] → joinC 32 (a ++ b) = joinC 32 a ++ 32 :: joinC 32 b
  | [], _, h, _ => absurd rfl h
  | [x], b, _, hb => by
    cases b with
    | nil => exact absurd rfl hb
    | cons y r => show joinC 32 (x :: y :: r) = _; rw [joinC_cons, joinC_one]
  | x :: y :: r, b, _, hb => by
    have ih := join_app (y :: r) b (by simp) hb
    show joinC 32 (x :: y :: (r ++ b)) = _
    rw [joinC_cons, joinC_cons]
    have e : y :: (r ++ b) = (y :: r) ++ b := rfl
    rw [e, ih, List.append_assoc]; rfl
theorem planW_ne (p : Pn) : planW p ≠ [] := by unfold planW headW; simp
theorem ruleW_ne (r : Ru) : ruleW r ≠ [] := by unfold ruleW; simp
theorem prT_more (p : Pn) (r : Ru) : prT { p with rules := p.rules ++ [r] } = prT p ++ 32 :: joinC 32 (ruleW r) := by
  unfold prT
  rw [plan_more, join_app _ _ (planW_ne p) (ruleW_ne r)]
/-- What stands behind the head of a plan of one rule, put behind a plan's text. -/
theorem text_joins (p : Pn) (r : Ru) : prT p ++ (prT { pn0 with rules := [r] }).drop (prT pn0).length = prT { p with rules := p.rules ++ [r] } := by
  have e : prT { pn0 with rules := [r] } = prT pn0 ++ 32 :: joinC 32 (ruleW r) := prT_more pn0 r
  rw [e, prT_more, List.drop_left]
theorem pn0_ok : prE pn0 = 0 := by decide +kernel
theorem cnt_more (p : Pn) (r : Ru) : cntP { p with rules := p.rules ++ [r] } = cntP p + cntR r := by unfold cntP; simp
end Go.Proofs.YtgloihilnbjmeaaDoor.Pl
end
