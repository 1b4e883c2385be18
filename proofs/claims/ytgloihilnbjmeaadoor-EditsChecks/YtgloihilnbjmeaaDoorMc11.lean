/-
  Texts put together (merge.py): POnce.
-/
import Derived.Test.YtgloihilnbjmeaaDoorMc10
/-
  What is parsed may be, and its words are not many more; where a fault lies; over plain lists.
-/
section
set_option linter.unusedSimpArgs false
namespace Go.Proofs.YtgloihilnbjmeaaDoor.Pl
open Wo (Wd)

def szW (l : List Tx) : Nat := (l.map fun t => t.length + 1).sum
theorem sz_nil : szW [] = 0 := rfl
theorem sz_cons (t : Tx) (l : List Tx) : szW (t :: l) = t.length + 1 + szW l := rfl
theorem sz_app (a b : List Tx) : szW (a ++ b) = szW a + szW b := by simp [szW]
theorem itoa_len {n : Int} (h0 : 0 ≤ n) (h1 : n ≤ 99999) : (Lib.itoa n).length ≤ 5 := by
  obtain ⟨m, rfl⟩ : ∃ m : Nat, n = m := ⟨n.toNat, by omega⟩
  have e : Lib.itoa (m : Int) = Lib.decDigits m := by simp [Lib.itoa]
  rw [e]; exact Nu.dec_len m 5 (by omega) (by omega)
theorem money_len {n : Int} (h : goodB n = true) : (Nu.moneyL n).length ≤ 15 := by
  simp only [goodB, Bool.and_eq_true, decide_eq_true_eq] at h
  have e : Nu.moneyL n = Nu.moneyU n.natAbs := by unfold Nu.moneyL; rw [if_neg (by omega)]; rfl
  rw [e]
  unfold Nu.moneyU
  have := Nu.dec_len (n.natAbs / 100) 12 (by omega) (by omega)
  simp [Nu.two]; omega

/-! ### What was read -/
theorem take_inv {E : Nat} {t : Tx} {l r : List Wd} (h : pTake E t l = .ok r) : ∃ p, l = (t, p) :: r := by
  unfold pTake at h
  split at h
  · cases h
  · next x a q =>
    split at h
    · next e => simp only [Except.ok.injEq] at h; exact ⟨a, by rw [e, h]⟩
    · cases h
theorem money_inv {E : Nat} {l r : List Wd} {n : Int} (h : pMoney E l = .ok (n, r)) : ∃ x p, l = (x, p) :: r ∧ 1 ≤ x.length ∧ goodB n = true := by
  unfold pMoney at h
  split at h
  · cases h
  · next x a q =>
    split at h
    · next e =>
      simp only [Except.ok.injEq, Prod.mk.injEq] at h
      have hb := Nu.mn_bd x
      refine ⟨x, a, by rw [h.2], ?_, by rw [← h.1]; simp [goodB, hb.1, hb.2]⟩
      cases x with
      | nil => exact absurd e (by decide)
      | cons c d => simp
    · cases h
theorem num_inv {E : Nat} {l r : List Wd} {n m : Int} (h : pNum E m l = .ok (n, r)) : ∃ x p, l = (x, p) :: r ∧ 0 ≤ n ∧ n ≤ m ∧ n ≤ 99999 := by
  unfold pNum at h
  split at h
  · cases h
  · next x a q =>
    split at h
    · next e =>
      simp only [Except.ok.injEq, Prod.mk.injEq] at h
      obtain ⟨rfl, rfl⟩ := h
      have hb := Nu.ri_bd x 5
      refine ⟨x, a, rfl, hb.1, e.2, ?_⟩
      have ho : Nu.riOk x 5 = true := by
        unfold Nu.riE at e
        cases hh : Nu.riOk x 5 with
        | true => rfl
        | false => rw [hh] at e; exact absurd e.1 (by decide)
      have hlt : Nu.numL x < 10 ^ x.length := Nu.numL_lt x (by simp only [Nu.riOk, Bool.and_eq_true] at ho; exact (Nu.canon_allD x ho.1.1).1)
      have hlen : x.length ≤ 5 := by simp only [Nu.riOk, Bool.and_eq_true, decide_eq_true_eq] at ho; omega
      have hp : (10 : Nat) ^ x.length ≤ 10 ^ 5 := Nat.pow_le_pow_right (by omega) hlen
      unfold Nu.riV
      rw [if_pos ho]
      have : (10 : Nat) ^ 5 = 100000 := by decide
      omega
    · cases h
theorem code_inv {E : Nat} {l r : List Wd} {t : Tx} {n : Int} (h : pCode E n l = .ok (t, r)) : ∃ p, l = (t, p) :: r ∧ Cm.codeB t n n = true := by
  unfold pCode at h
  split at h
  · cases h
  · next x a q =>
    split at h
    · next e => simp only [Except.ok.injEq, Prod.mk.injEq] at h; obtain ⟨rfl, rfl⟩ := h; exact ⟨a, rfl, e⟩
    · cases h
theorem truth_inv {E : Nat} {l r : List Wd} {n : Int} (h : pTruth E l = .ok (n, r)) : (∃ p, l = (yesW n, p) :: r) ∧ 0 ≤ n ∧ n ≤ 1 := by
  unfold pTruth at h
  split at h
  · cases h
  · next x a q =>
    split at h
    · next e => simp only [Except.ok.injEq, Prod.mk.injEq] at h; obtain ⟨rfl, rfl⟩ := h; exact ⟨⟨a, by rw [e]; rfl⟩, by omega, by omega⟩
    · split at h
      · next e => simp only [Except.ok.injEq, Prod.mk.injEq] at h; obtain ⟨rfl, rfl⟩ := h; exact ⟨⟨a, by rw [e]; rfl⟩, by omega, by omega⟩
      · cases h
theorem op_inv {E : Nat} {l r : List Wd} {k : Int} (h : pOp E l = .ok (k, r)) : (∃ p, l = ((if k = 7 then tAnd else tOr), p) :: r) ∧ (k = 7 ∨ k = 8) := by
  unfold pOp at h
  split at h
  · cases h
  · next x a q =>
    split at h
    · next e => simp only [Except.ok.injEq, Prod.mk.injEq] at h; obtain ⟨rfl, rfl⟩ := h; exact ⟨⟨a, by rw [e]; rfl⟩, Or.inl rfl⟩
    · split at h
      · next e => simp only [Except.ok.injEq, Prod.mk.injEq] at h; obtain ⟨rfl, rfl⟩ := h; exact ⟨⟨a, by rw [e]; rfl⟩, Or.inr rfl⟩
      · cases h
theorem cond_once (E : Nat) : ∀ (f : Nat) (l rest : List Wd) (c : Cd), pC E f l = .ok (c, rest) → condB f c = true ∧ ∃ a, l = a ++ rest ∧ szW (condW f c) ≤ 4 * szW (a.map (·.1))
  | 0, [], rest, c, h => by cases h
  | 0, (x, a) :: r, rest, c, h => by cases h
  | f + 1, [], rest, c, h => by cases h
  | f + 1, (x, p) :: r, rest, c, h => by
    unfold pC at h
    simp only at h
    by_cases h1 : x = tAll
    · rw [if_pos h1] at h
      simp only [Except.ok.injEq, Prod.mk.injEq] at h
      obtain ⟨rfl, rfl⟩ := h
      exact ⟨rfl, [(x, p)], rfl, by rw [h1]; show szW [tAll] ≤ 4 * szW [tAll]; omega⟩
    rw [if_neg h1] at h
    by_cases h2 : x = tProc
    · rw [if_pos h2] at h
      split at h
      · cases h
      · next lo r1 e1 =>
        split at h
        · cases h
        · next hi r2 e2 =>
          simp only [Except.ok.injEq, Prod.mk.injEq] at h
          obtain ⟨rfl, rfl⟩ := h
          obtain ⟨p1, rfl, k1⟩ := code_inv e1
          obtain ⟨p2, rfl, k2⟩ := code_inv e2
          refine ⟨by simp [condB, kidN, leafB, loB, hiB, nB, k1, k2], [(x, p), (lo, p1), (hi, p2)], rfl, ?_⟩
          rw [h2]
          show szW [tProc, lo, hi] ≤ 4 * szW [tProc, lo, hi]
          omega
    rw [if_neg h2] at h
    by_cases h3 : x = tMod
    · rw [if_pos h3] at h
      split at h
      · cases h
      · next lo r1 e1 =>
        simp only [Except.ok.injEq, Prod.mk.injEq] at h
        obtain ⟨rfl, rfl⟩ := h
        obtain ⟨p1, rfl, k1⟩ := code_inv e1
        refine ⟨by simp [condB, kidN, leafB, loB, hiB, nB, k1], [(x, p), (lo, p1)], rfl, ?_⟩
        rw [h3]
        show szW [tMod, lo] ≤ 4 * szW [tMod, lo]
        omega
    rw [if_neg h3] at h
    by_cases h4 : x = tUnits
    · rw [if_pos h4] at h
      split at h
      · cases h
      · next n r1 e1 =>
        simp only [Except.ok.injEq, Prod.mk.injEq] at h
        obtain ⟨rfl, rfl⟩ := h
        obtain ⟨y, p1, rfl, k1, k2, k3⟩ := num_inv e1
        refine ⟨by simp [condB, kidN, leafB, loB, hiB, nB, k1, k2], [(x, p), (y, p1)], rfl, ?_⟩
        rw [h4]
        show szW [tUnits, Lib.itoa n] ≤ 4 * szW [tUnits, y]
        have := itoa_len k1 k3
        simp only [sz_cons, sz_nil, tUnits, List.length_cons, List.length_nil]
        omega
    rw [if_neg h4] at h
    by_cases h5 : x = tBilled
    · rw [if_pos h5] at h
      split at h
      · cases h
      · next n r1 e1 =>
        simp only [Except.ok.injEq, Prod.mk.injEq] at h
        obtain ⟨rfl, rfl⟩ := h
        obtain ⟨y, p1, rfl, k1, k2⟩ := money_inv e1
        refine ⟨by simp [condB, kidN, leafB, loB, hiB, nB, k2], [(x, p), (y, p1)], rfl, ?_⟩
        rw [h5]
        show szW [tBilled, Nu.moneyL n] ≤ 4 * szW [tBilled, y]
        have := money_len k2
        simp only [sz_cons, sz_nil, tBilled, List.length_cons, List.length_nil]
        omega
    rw [if_neg h5] at h
    by_cases h6 : x = tOut
    · rw [if_pos h6] at h
      simp only [Except.ok.injEq, Prod.mk.injEq] at h
      obtain ⟨rfl, rfl⟩ := h
      exact ⟨rfl, [(x, p)], rfl, by rw [h6]; show szW [tOut] ≤ 4 * szW [tOut]; omega⟩
    rw [if_neg h6] at h
    by_cases h7 : x = tNot
    · rw [if_pos h7] at h
      split at h
      · cases h
      · next d r1 e1 =>
        simp only [Except.ok.injEq, Prod.mk.injEq] at h
        obtain ⟨rfl, rfl⟩ := h
        obtain ⟨k1, a, rfl, k2⟩ := cond_once E f _ _ _ e1
        refine ⟨by simp [condB, kidN, leafB, loB, hiB, nB, k1], (x, p) :: a, rfl, ?_⟩
        rw [h7]
        show szW (tNot :: condW f d) ≤ 4 * szW (tNot :: a.map (·.1))
        simp only [sz_cons]
        omega
    rw [if_neg h7] at h
    by_cases h8 : x = tO
    · rw [if_pos h8] at h
      split at h
      · cases h
      · next d r1 e1 =>
        split at h
        · cases h
        · next k r2 e2 =>
          split at h
          · cases h
          · next g r3 e3 =>
            split at h
            · cases h
            · next r4 e4 =>
              simp only [Except.ok.injEq, Prod.mk.injEq] at h
              obtain ⟨rfl, rfl⟩ := h
              obtain ⟨k1, a, rfl, k2⟩ := cond_once E f _ _ _ e1
              obtain ⟨⟨p2, rfl⟩, hk⟩ := op_inv e2
              obtain ⟨k3, b, rfl, k4⟩ := cond_once E f _ _ _ e3
              obtain ⟨p3, rfl⟩ := take_inv e4
              refine ⟨by rcases hk with rfl | rfl <;> simp [condB, kidN, leafB, loB, hiB, nB, k1, k3], (x, p) :: (a ++ ((if k = 7 then tAnd else tOr), p2) :: (b ++ [(tC, p3)])), by simp, ?_⟩
              have e : condW (f + 1) (.mk k [] [] 0 [d, g]) = tO :: (condW f d ++ ((if k = 7 then tAnd else tOr) :: (condW f g ++ [tC]))) := by rcases hk with rfl | rfl <;> rfl
              rw [e, h8]
              simp only [List.map_cons, List.map_append, List.map_nil, sz_cons, sz_app, sz_nil]
              omega
    · rw [if_neg h8] at h; cases h
theorem set_once {E : Nat} {l rest : List Wd} {s : St} (h : pSet E l = .ok (s, rest)) : setB s = true ∧ ∃ a, l = a ++ rest ∧ szW (setW s) ≤ 4 * szW (a.map (·.1)) := by
  unfold pSet at h
  split at h
  · cases h
  · next x p r =>
    by_cases h1 : x = tCover
    · rw [if_pos h1] at h
      split at h
      · cases h
      · next n r1 e1 =>
        simp only [Except.ok.injEq, Prod.mk.injEq] at h
        obtain ⟨rfl, rfl⟩ := h
        obtain ⟨⟨p1, rfl⟩, k1, k2⟩ := truth_inv e1
        refine ⟨by simp [setB, k1, k2], [(x, p), (yesW n, p1)], rfl, ?_⟩
        rw [h1]; show szW [tCover, yesW n] ≤ 4 * szW [tCover, yesW n]; omega
    rw [if_neg h1] at h
    by_cases h2 : x = tDed
    · rw [if_pos h2] at h
      split at h
      · cases h
      · next n r1 e1 =>
        simp only [Except.ok.injEq, Prod.mk.injEq] at h
        obtain ⟨rfl, rfl⟩ := h
        obtain ⟨⟨p1, rfl⟩, k1, k2⟩ := truth_inv e1
        refine ⟨by simp [setB, k1, k2], [(x, p), (yesW n, p1)], rfl, ?_⟩
        rw [h2]; show szW [tDed, yesW n] ≤ 4 * szW [tDed, yesW n]; omega
    rw [if_neg h2] at h
    by_cases h3 : x = tCopay
    · rw [if_pos h3] at h
      split at h
      · cases h
      · next n r1 e1 =>
        simp only [Except.ok.injEq, Prod.mk.injEq] at h
        obtain ⟨rfl, rfl⟩ := h
        obtain ⟨y, p1, rfl, k1, k2⟩ := money_inv e1
        have k0 : 0 ≤ n := by simp only [goodB, Bool.and_eq_true, decide_eq_true_eq] at k2; exact k2.1
        refine ⟨by simp [setB, k2, k0], [(x, p), (y, p1)], rfl, ?_⟩
        rw [h3]; show szW [tCopay, Nu.moneyL n] ≤ 4 * szW [tCopay, y]
        have := money_len k2
        simp only [sz_cons, sz_nil, tCopay, List.length_cons, List.length_nil]
        omega
    rw [if_neg h3] at h
    by_cases h4 : x = tCoins
    · rw [if_pos h4] at h
      split at h
      · cases h
      · next n r1 e1 =>
        simp only [Except.ok.injEq, Prod.mk.injEq] at h
        obtain ⟨rfl, rfl⟩ := h
        obtain ⟨y, p1, rfl, k1, k2, k3⟩ := num_inv e1
        refine ⟨by simp [setB, k1, k2], [(x, p), (y, p1)], rfl, ?_⟩
        rw [h4]; show szW [tCoins, Lib.itoa n] ≤ 4 * szW [tCoins, y]
        have := itoa_len k1 k3
        simp only [sz_cons, sz_nil, tCoins, List.length_cons, List.length_nil]
        omega
    · rw [if_neg h4] at h; cases h
theorem sets_once (E : Nat) : ∀ (f : Nat) (acc : List St) (l rest : List Wd) (ss : List St), pSets E f acc l = .ok (ss, rest) → ∃ new, ss = acc ++ new ∧ 1 ≤ new.length ∧ setsB (acc.map (·.what)) new = true ∧ ∃ a, l = a ++ rest ∧ szW (setsW new ++ [tEnd]) ≤ 4 * szW (a.map (·.1))
  | 0, _, _, _, _, h => by cases h
  | f + 1, acc, l, rest, ss, h => by
    unfold pSets at h
    split at h
    · cases h
    · next s r e1 =>
      obtain ⟨k1, a, rfl, k2⟩ := set_once e1
      split at h
      · cases h
      · next hni =>
        split at h
        · next x p q =>
          by_cases he : x = tEnd
          · rw [if_pos he] at h
            simp only [Except.ok.injEq, Prod.mk.injEq] at h
            obtain ⟨rfl, rfl⟩ := h
            refine ⟨[s], rfl, by simp, by simp only [setsB, k1, hni, not_false_eq_true, decide_true, Bool.and_self], a ++ [(x, p)], by simp, ?_⟩
            have e : setsW [s] ++ [tEnd] = setW s ++ [tEnd] := by simp [setsW]
            rw [e, he]
            simp only [List.map_append, List.map_cons, List.map_nil, sz_app, sz_cons, sz_nil]
            omega
          · rw [if_neg he] at h
            obtain ⟨new, rfl, n1, n2, b, hb, n3⟩ := sets_once E f _ _ _ _ h
            refine ⟨s :: new, by simp, by simp, ?_, a ++ b, by rw [hb]; simp, ?_⟩
            · simp only [setsB, k1, hni, not_false_eq_true, decide_true, Bool.true_and]
              rw [List.map_append] at n2; exact n2
            · have e : setsW (s :: new) ++ [tEnd] = setW s ++ (setsW new ++ [tEnd]) := by simp [setsW]
              rw [e]
              simp only [List.map_append, sz_app] at *
              omega
        · cases h
theorem unl_once {E : Nat} {l rest : List Wd} {u : List Cd} (h : pUnl E l = .ok (u, rest)) : u.length ≤ 1 ∧ (∀ c ∈ u, condB 16 c = true) ∧ ∃ a, l = a ++ rest ∧ szW (unlW u) ≤ 4 * szW (a.map (·.1)) := by
  unfold pUnl at h
  split at h
  · next x p r =>
    by_cases hx : x = tUnl
    · rw [if_pos hx] at h
      split at h
      · cases h
      · next c r1 e1 =>
        simp only [Except.ok.injEq, Prod.mk.injEq] at h
        obtain ⟨rfl, rfl⟩ := h
        obtain ⟨k1, a, rfl, k2⟩ := cond_once E 16 _ _ _ e1
        refine ⟨by simp, by simp [k1], (x, p) :: a, rfl, ?_⟩
        rw [hx]
        show szW (tUnl :: condW 16 c) ≤ 4 * szW (tUnl :: a.map (·.1))
        simp only [sz_cons]
        omega
    · rw [if_neg hx] at h
      simp only [Except.ok.injEq, Prod.mk.injEq] at h
      obtain ⟨rfl, rfl⟩ := h
      exact ⟨by simp, by simp, [], rfl, by simp [unlW, szW]⟩
  · simp only [Except.ok.injEq, Prod.mk.injEq] at h
    obtain ⟨rfl, rfl⟩ := h
    exact ⟨by simp, by simp, [], rfl, by simp [unlW, szW]⟩
theorem rule_once {E : Nat} {l rest : List Wd} {r : Ru} (h : pRule E l = .ok (r, rest)) : ruleB r = true ∧ ∃ a, l = a ++ rest ∧ a ≠ [] ∧ szW (ruleW r) ≤ 4 * szW (a.map (·.1)) := by
  unfold pRule at h
  split at h
  · cases h
  next l1 e1 =>
  split at h
  · cases h
  next k l2 e2 =>
  split at h
  · cases h
  next l3 e3 =>
  split at h
  · cases h
  next c l4 e4 =>
  split at h
  · cases h
  next u l5 e5 =>
  split at h
  · cases h
  next l6 e6 =>
  split at h
  · cases h
  next ss l7 e7 =>
  simp only [Except.ok.injEq, Prod.mk.injEq] at h
  obtain ⟨rfl, rfl⟩ := h
  obtain ⟨p1, rfl⟩ := take_inv e1
  obtain ⟨y, p2, rfl, k1, k2, k3⟩ := num_inv e2
  obtain ⟨p3, rfl⟩ := take_inv e3
  obtain ⟨c1, a1, rfl, c2⟩ := cond_once E 16 _ _ _ e4
  obtain ⟨u1, u2, a2, rfl, u3⟩ := unl_once e5
  obtain ⟨p4, rfl⟩ := take_inv e6
  obtain ⟨new, hn, s1, s2, a3, rfl, s3⟩ := sets_once E _ _ _ _ _ e7
  obtain rfl : ss = new := by simpa using hn
  refine ⟨?_, (tRule, p1) :: (y, p2) :: (tIf, p3) :: (a1 ++ (a2 ++ ((tSet, p4) :: a3))), by simp, by simp, ?_⟩
  · simp only [ruleB, Bool.and_eq_true, decide_eq_true_eq, List.all_eq_true]
    exact ⟨⟨k1, k2⟩, c1, u1, u2, s1, s2⟩
  · have := itoa_len k1 k3
    unfold ruleW
    simp only [List.map_cons, List.map_append, sz_cons, sz_app, sz_nil, tRule, tIf, tSet, List.length_cons, List.length_nil] at *
    omega
theorem rules_once (E : Nat) : ∀ (f : Nat) (acc : List Ru) (l : List Wd) (rs : List Ru), pRules E f acc l = .ok rs → ∃ new, rs = acc ++ new ∧ new.length ≤ f ∧ (∀ r ∈ new, ruleB r = true) ∧ szW (new.flatMap ruleW) ≤ 4 * szW (l.map (·.1))
  | 0, acc, [], rs, h => by
    simp only [pRules, Except.ok.injEq] at h; exact ⟨[], by simp [h], by simp, by simp, by simp [szW]⟩
  | 0, acc, (x, a) :: r, rs, h => by cases h
  | f + 1, acc, l, rs, h => by
    unfold pRules at h
    split at h
    · simp only [Except.ok.injEq] at h; exact ⟨[], by simp [h], by simp, by simp, by simp [szW]⟩
    · split at h
      · cases h
      · next r l1 e1 =>
        obtain ⟨k1, a, rfl, -, k2⟩ := rule_once e1
        obtain ⟨new, rfl, n1, n2, n3⟩ := rules_once E f _ _ _ h
        refine ⟨r :: new, by simp, by simp; omega, fun x hx => ?_, ?_⟩
        · rcases List.mem_cons.1 hx with rfl | hx
          · exact k1
          · exact n2 x hx
        · simp only [List.flatMap_cons, List.map_append, sz_app] at *
          omega
theorem plan_once {E : Nat} {l : List Wd} {p : Pn} (h : pPlan E l = .ok p) : planB p = true ∧ szW (planW p) ≤ 4 * szW (l.map (·.1)) := by
  unfold pPlan at h
  split at h
  · cases h
  next q l0 e0 =>
  split at h
  · cases h
  next rs e9 =>
  by_cases hb : planB { q with rules := rs } = true
  · rw [if_pos hb] at h
    simp only [Except.ok.injEq] at h
    subst h
    refine ⟨hb, ?_⟩
    unfold pHead at e0
    split at e0
    · cases e0
    next l1 e1 =>
    split at e0
    · cases e0
    next m l2 e2 =>
    split at e0
    · cases e0
    next l3 e3 =>
    split at e0
    · cases e0
    next a l4 e4 =>
    split at e0
    · cases e0
    next b l5 e5 =>
    split at e0
    · cases e0
    next l6 e6 =>
    split at e0
    · cases e0
    next c l7 e7 =>
    split at e0
    · cases e0
    next d l8 e8 =>
    simp only [Except.ok.injEq, Prod.mk.injEq] at e0
    obtain ⟨rfl, rfl⟩ := e0
    obtain ⟨p1, rfl⟩ := take_inv e1
    have hm : ∃ p2, l1 = ((if m = 1 then tAgg else tEmb), p2) :: l2 := by
      unfold pMode at e2
      split at e2
      · cases e2
      · next x y z =>
        split at e2
        · next hx => simp only [Except.ok.injEq, Prod.mk.injEq] at e2; obtain ⟨rfl, rfl⟩ := e2; exact ⟨y, by rw [hx]; rfl⟩
        · split at e2
          · next hx => simp only [Except.ok.injEq, Prod.mk.injEq] at e2; obtain ⟨rfl, rfl⟩ := e2; exact ⟨y, by rw [hx]; rfl⟩
          · cases e2
    obtain ⟨p2, rfl⟩ := hm
    obtain ⟨p3, rfl⟩ := take_inv e3
    obtain ⟨x4, p4, rfl, g4, w4⟩ := money_inv e4
    obtain ⟨x5, p5, rfl, g5, w5⟩ := money_inv e5
    obtain ⟨p6, rfl⟩ := take_inv e6
    obtain ⟨x7, p7, rfl, g7, w7⟩ := money_inv e7
    obtain ⟨x8, p8, rfl, g8, w8⟩ := money_inv e8
    obtain ⟨new, hn, -, -, n3⟩ := rules_once E _ _ _ _ e9
    obtain rfl : rs = new := by simpa using hn
    have y4 := money_len w4
    have y5 := money_len w5
    have y7 := money_len w7
    have y8 := money_len w8
    unfold planW headW
    simp only [List.map_cons, sz_cons, sz_app, sz_nil, tMem, tFam, List.length_cons, List.length_nil] at *
    omega
  · rw [if_neg hb] at h; cases h
end Go.Proofs.YtgloihilnbjmeaaDoor.Pl
end
