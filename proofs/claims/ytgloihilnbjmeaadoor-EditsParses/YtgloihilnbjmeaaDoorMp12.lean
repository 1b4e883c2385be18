/-
  Texts put together (merge.py): PText.
-/
import Derived.Test.YtgloihilnbjmeaaDoorMp11
/-
  Plans as texts and texts as plans, over plain lists: there and back, once, a rule behind; where a fault lies.
-/
section
set_option linter.unusedSimpArgs false
namespace Go.Proofs.YtgloihilnbjmeaaDoor.Pl
open Wo (Wd wOk kd allI inn txs wds)

/-! ### Faults: never none, never behind the text's end -/
def Lies (E : Nat) (l : List Wd) : Prop := ∀ x ∈ l, x.2 ≤ E
theorem Lies.tail {E : Nat} {x : Wd} {l : List Wd} (h : Lies E (x :: l)) : Lies E l := fun y hy => h y (List.mem_cons_of_mem _ hy)
theorem Lies.app {E : Nat} {a b : List Wd} (h : Lies E (a ++ b)) : Lies E b := fun y hy => h y (List.mem_append_right _ hy)
theorem Lies.pos {E : Nat} {l : List Wd} (h : Lies E l) : pos E l ≤ E := by
  cases l with
  | nil => exact Nat.le_refl _
  | cons x r => exact h x List.mem_cons_self
def Bad (E : Nat) (e : Int × Nat) : Prop := e.1 ≠ 0 ∧ e.2 ≤ E
theorem take_bad {E : Nat} {t : Tx} {l : List Wd} {e : Int × Nat} (hl : Lies E l) (h : pTake E t l = .error e) : Bad E e := by
  unfold pTake at h
  split at h
  · simp only [Except.error.injEq] at h; subst h; exact ⟨by show (4 : Int) ≠ 0; decide, Nat.le_refl _⟩
  · next x a r =>
    split at h
    · cases h
    · simp only [Except.error.injEq] at h; subst h; exact ⟨by show (4 : Int) ≠ 0; decide, hl (x, a) List.mem_cons_self⟩
theorem money_bad {E : Nat} {l : List Wd} {e : Int × Nat} (hl : Lies E l) (h : pMoney E l = .error e) : Bad E e := by
  unfold pMoney at h
  split at h
  · simp only [Except.error.injEq] at h; subst h; exact ⟨by show (8 : Int) ≠ 0; decide, Nat.le_refl _⟩
  · next x a r =>
    split at h
    · cases h
    · next hn => simp only [Except.error.injEq] at h; subst h; exact ⟨hn, hl (x, a) List.mem_cons_self⟩
theorem num_bad {E : Nat} {m : Int} {l : List Wd} {e : Int × Nat} (hl : Lies E l) (h : pNum E m l = .error e) : Bad E e := by
  unfold pNum at h
  split at h
  · simp only [Except.error.injEq] at h; subst h; exact ⟨by show (4 : Int) ≠ 0; decide, Nat.le_refl _⟩
  · next x a r =>
    split at h
    · cases h
    · simp only [Except.error.injEq] at h; subst h; exact ⟨by show (4 : Int) ≠ 0; decide, hl (x, a) List.mem_cons_self⟩
theorem code_bad {E : Nat} {n : Int} {l : List Wd} {e : Int × Nat} (hl : Lies E l) (h : pCode E n l = .error e) : Bad E e := by
  unfold pCode at h
  split at h
  · simp only [Except.error.injEq] at h; subst h; exact ⟨by show (9 : Int) ≠ 0; decide, Nat.le_refl _⟩
  · next x a r =>
    split at h
    · cases h
    · simp only [Except.error.injEq] at h; subst h; exact ⟨by show (9 : Int) ≠ 0; decide, hl (x, a) List.mem_cons_self⟩
theorem truth_bad {E : Nat} {l : List Wd} {e : Int × Nat} (hl : Lies E l) (h : pTruth E l = .error e) : Bad E e := by
  unfold pTruth at h
  split at h
  · simp only [Except.error.injEq] at h; subst h; exact ⟨by show (4 : Int) ≠ 0; decide, Nat.le_refl _⟩
  · next x a r =>
    split at h
    · cases h
    · split at h
      · cases h
      · simp only [Except.error.injEq] at h; subst h; exact ⟨by show (4 : Int) ≠ 0; decide, hl (x, a) List.mem_cons_self⟩
theorem op_bad {E : Nat} {l : List Wd} {e : Int × Nat} (hl : Lies E l) (h : pOp E l = .error e) : Bad E e := by
  unfold pOp at h
  split at h
  · simp only [Except.error.injEq] at h; subst h; exact ⟨by show (4 : Int) ≠ 0; decide, Nat.le_refl _⟩
  · next x a r =>
    split at h
    · cases h
    · split at h
      · cases h
      · simp only [Except.error.injEq] at h; subst h; exact ⟨by show (4 : Int) ≠ 0; decide, hl (x, a) List.mem_cons_self⟩
theorem mode_bad {E : Nat} {l : List Wd} {e : Int × Nat} (hl : Lies E l) (h : pMode E l = .error e) : Bad E e := by
  unfold pMode at h
  split at h
  · simp only [Except.error.injEq] at h; subst h; exact ⟨by show (4 : Int) ≠ 0; decide, Nat.le_refl _⟩
  · next x a r =>
    split at h
    · cases h
    · split at h
      · cases h
      · simp only [Except.error.injEq] at h; subst h; exact ⟨by show (4 : Int) ≠ 0; decide, hl (x, a) List.mem_cons_self⟩
theorem take_lies {E : Nat} {t : Tx} {l r : List Wd} (hl : Lies E l) (h : pTake E t l = .ok r) : Lies E r := by obtain ⟨p, rfl⟩ := take_inv h; exact hl.tail
theorem money_lies {E : Nat} {l r : List Wd} {n : Int} (hl : Lies E l) (h : pMoney E l = .ok (n, r)) : Lies E r := by obtain ⟨x, p, rfl, -⟩ := money_inv h; exact hl.tail
theorem num_lies {E : Nat} {m : Int} {l r : List Wd} {n : Int} (hl : Lies E l) (h : pNum E m l = .ok (n, r)) : Lies E r := by obtain ⟨x, p, rfl, -⟩ := num_inv h; exact hl.tail
theorem code_lies {E : Nat} {m : Int} {l r : List Wd} {t : Tx} (hl : Lies E l) (h : pCode E m l = .ok (t, r)) : Lies E r := by obtain ⟨p, rfl, -⟩ := code_inv h; exact hl.tail
theorem op_lies {E : Nat} {l r : List Wd} {k : Int} (hl : Lies E l) (h : pOp E l = .ok (k, r)) : Lies E r := by obtain ⟨⟨p, rfl⟩, -⟩ := op_inv h; exact hl.tail
theorem cond_lies {E f : Nat} {l r : List Wd} {c : Cd} (hl : Lies E l) (h : pC E f l = .ok (c, r)) : Lies E r := by obtain ⟨-, a, rfl, -⟩ := cond_once E f _ _ _ h; exact hl.app
theorem cond_bad (E : Nat) : ∀ (f : Nat) (l : List Wd) (e : Int × Nat), Lies E l → pC E f l = .error e → Bad E e
  | 0, [], e, hl, h => by simp only [pC, Except.error.injEq] at h; subst h; exact ⟨by show (4 : Int) ≠ 0; decide, Nat.le_refl _⟩
  | 0, (x, a) :: r, e, hl, h => by
    simp only [pC, Except.error.injEq] at h; subst h
    exact ⟨by show (if begB x = true then (10 : Int) else 4) ≠ 0; split <;> decide, hl (x, a) List.mem_cons_self⟩
  | f + 1, [], e, hl, h => by simp only [pC, Except.error.injEq] at h; subst h; exact ⟨by show (4 : Int) ≠ 0; decide, Nat.le_refl _⟩
  | f + 1, (x, p) :: r, e, hl, h => by
    have hr := hl.tail
    unfold pC at h
    simp only at h
    split at h
    · cases h
    split at h
    · split at h
      · next e1 => simp only [Except.error.injEq] at h; subst h; exact code_bad hr e1
      · next lo r1 e1 =>
        split at h
        · next e2 => simp only [Except.error.injEq] at h; subst h; exact code_bad (code_lies hr e1) e2
        · cases h
    split at h
    · split at h
      · next e1 => simp only [Except.error.injEq] at h; subst h; exact code_bad hr e1
      · cases h
    split at h
    · split at h
      · next e1 => simp only [Except.error.injEq] at h; subst h; exact num_bad hr e1
      · cases h
    split at h
    · split at h
      · next e1 => simp only [Except.error.injEq] at h; subst h; exact money_bad hr e1
      · cases h
    split at h
    · cases h
    split at h
    · split at h
      · next e1 => simp only [Except.error.injEq] at h; subst h; exact cond_bad E f _ _ hr e1
      · cases h
    split at h
    · split at h
      · next e1 => simp only [Except.error.injEq] at h; subst h; exact cond_bad E f _ _ hr e1
      · next c r1 e1 =>
        have h1 := cond_lies hr e1
        split at h
        · next e2 => simp only [Except.error.injEq] at h; subst h; exact op_bad h1 e2
        · next k r2 e2 =>
          have h2 := op_lies h1 e2
          split at h
          · next e3 => simp only [Except.error.injEq] at h; subst h; exact cond_bad E f _ _ h2 e3
          · next d r3 e3 =>
            split at h
            · next e4 => simp only [Except.error.injEq] at h; subst h; exact take_bad (cond_lies h2 e3) e4
            · cases h
    · simp only [Except.error.injEq] at h; subst h; exact ⟨by show (4 : Int) ≠ 0; decide, hl (x, p) List.mem_cons_self⟩
theorem set_bad {E : Nat} {l : List Wd} {e : Int × Nat} (hl : Lies E l) (h : pSet E l = .error e) : Bad E e := by
  unfold pSet at h
  split at h
  · simp only [Except.error.injEq] at h; subst h; exact ⟨by show (4 : Int) ≠ 0; decide, Nat.le_refl _⟩
  · next x p r =>
    have hr := hl.tail
    split at h
    · split at h
      · next e1 => simp only [Except.error.injEq] at h; subst h; exact truth_bad hr e1
      · cases h
    split at h
    · split at h
      · next e1 => simp only [Except.error.injEq] at h; subst h; exact truth_bad hr e1
      · cases h
    split at h
    · split at h
      · next e1 => simp only [Except.error.injEq] at h; subst h; exact money_bad hr e1
      · cases h
    split at h
    · split at h
      · next e1 => simp only [Except.error.injEq] at h; subst h; exact num_bad hr e1
      · cases h
    · simp only [Except.error.injEq] at h; subst h; exact ⟨by show (4 : Int) ≠ 0; decide, hl (x, p) List.mem_cons_self⟩
theorem sets_bad (E : Nat) : ∀ (f : Nat) (acc : List St) (l : List Wd) (e : Int × Nat), Lies E l → pSets E f acc l = .error e → Bad E e
  | 0, acc, l, e, hl, h => by simp only [pSets, Except.error.injEq] at h; subst h; exact ⟨by show (4 : Int) ≠ 0; decide, hl.pos⟩
  | f + 1, acc, l, e, hl, h => by
    unfold pSets at h
    split at h
    · next e1 => simp only [Except.error.injEq] at h; subst h; exact set_bad hl e1
    · next s r e1 =>
      obtain ⟨-, a, rfl, -⟩ := set_once e1
      split at h
      · simp only [Except.error.injEq] at h; subst h; exact ⟨by show (12 : Int) ≠ 0; decide, hl.pos⟩
      · split at h
        · split at h
          · cases h
          · exact sets_bad E f _ _ _ hl.app h
        · simp only [Except.error.injEq] at h; subst h; exact ⟨by show (4 : Int) ≠ 0; decide, Nat.le_refl _⟩
theorem unl_bad {E : Nat} {l : List Wd} {e : Int × Nat} (hl : Lies E l) (h : pUnl E l = .error e) : Bad E e := by
  unfold pUnl at h
  split at h
  · split at h
    · split at h
      · next e1 => simp only [Except.error.injEq] at h; subst h; exact cond_bad E 16 _ _ hl.tail e1
      · cases h
    · cases h
  · cases h
theorem rule_bad {E : Nat} {l : List Wd} {e : Int × Nat} (hl : Lies E l) (h : pRule E l = .error e) : Bad E e := by
  unfold pRule at h
  split at h
  · next e1 => simp only [Except.error.injEq] at h; subst h; exact take_bad hl e1
  next l1 e1 =>
  have h1 := take_lies hl e1
  split at h
  · next e2 => simp only [Except.error.injEq] at h; subst h; exact num_bad h1 e2
  next k l2 e2 =>
  have h2 := num_lies h1 e2
  split at h
  · next e3 => simp only [Except.error.injEq] at h; subst h; exact take_bad h2 e3
  next l3 e3 =>
  have h3 := take_lies h2 e3
  split at h
  · next e4 => simp only [Except.error.injEq] at h; subst h; exact cond_bad E 16 _ _ h3 e4
  next c l4 e4 =>
  have h4 := cond_lies h3 e4
  split at h
  · next e5 => simp only [Except.error.injEq] at h; subst h; exact unl_bad h4 e5
  next u l5 e5 =>
  obtain ⟨-, -, a, rfl, -⟩ := unl_once e5
  have h5 := h4.app
  split at h
  · next e6 => simp only [Except.error.injEq] at h; subst h; exact take_bad h5 e6
  next l6 e6 =>
  have h6 := take_lies h5 e6
  split at h
  · next e7 => simp only [Except.error.injEq] at h; subst h; exact sets_bad E _ _ _ _ h6 e7
  · cases h
theorem rules_bad (E : Nat) : ∀ (f : Nat) (acc : List Ru) (l : List Wd) (e : Int × Nat), Lies E l → pRules E f acc l = .error e → Bad E e
  | 0, acc, [], e, hl, h => by cases h
  | 0, acc, (x, a) :: r, e, hl, h => by
    simp only [pRules, Except.error.injEq] at h; subst h
    exact ⟨by show (if x = tRule then (10 : Int) else 4) ≠ 0; split <;> decide, hl (x, a) List.mem_cons_self⟩
  | f + 1, acc, l, e, hl, h => by
    unfold pRules at h
    split at h
    · cases h
    · split at h
      · next e1 => simp only [Except.error.injEq] at h; subst h; exact rule_bad hl e1
      · next r l1 e1 =>
        obtain ⟨-, a, rfl, -⟩ := rule_once e1
        exact rules_bad E f _ _ _ hl.app h
theorem plan_bad {E : Nat} {l : List Wd} {e : Int × Nat} (hl : Lies E l) (h : pPlan E l = .error e) : Bad E e := by
  unfold pPlan at h
  split at h
  · next e0 =>
    simp only [Except.error.injEq] at h; subst h
    unfold pHead at e0
    split at e0
    · next e1 => simp only [Except.error.injEq] at e0; subst e0; exact take_bad hl e1
    next l1 e1 =>
    have h1 := take_lies hl e1
    split at e0
    · next e2 => simp only [Except.error.injEq] at e0; subst e0; exact mode_bad h1 e2
    next m l2 e2 =>
    have h2 : Lies E l2 := by
      unfold pMode at e2
      split at e2
      · cases e2
      · split at e2
        · simp only [Except.ok.injEq, Prod.mk.injEq] at e2; obtain ⟨-, rfl⟩ := e2; exact h1.tail
        · split at e2
          · simp only [Except.ok.injEq, Prod.mk.injEq] at e2; obtain ⟨-, rfl⟩ := e2; exact h1.tail
          · cases e2
    split at e0
    · next e3 => simp only [Except.error.injEq] at e0; subst e0; exact take_bad h2 e3
    next l3 e3 =>
    have h3 := take_lies h2 e3
    split at e0
    · next e4 => simp only [Except.error.injEq] at e0; subst e0; exact money_bad h3 e4
    next a l4 e4 =>
    have h4 := money_lies h3 e4
    split at e0
    · next e5 => simp only [Except.error.injEq] at e0; subst e0; exact money_bad h4 e5
    next b l5 e5 =>
    have h5 := money_lies h4 e5
    split at e0
    · next e6 => simp only [Except.error.injEq] at e0; subst e0; exact take_bad h5 e6
    next l6 e6 =>
    have h6 := take_lies h5 e6
    split at e0
    · next e7 => simp only [Except.error.injEq] at e0; subst e0; exact money_bad h6 e7
    next c l7 e7 =>
    have h7 := money_lies h6 e7
    split at e0
    · next e8 => simp only [Except.error.injEq] at e0; subst e0; exact money_bad h7 e8
    · cases e0
  next q l0 e0 =>
  have hl0 : Lies E l0 := by
    unfold pHead at e0
    split at e0
    · cases e0
    next l1 e1 =>
    have h1 := take_lies hl e1
    split at e0
    · cases e0
    next m l2 e2 =>
    have h2 : Lies E l2 := by
      unfold pMode at e2
      split at e2
      · cases e2
      · split at e2
        · simp only [Except.ok.injEq, Prod.mk.injEq] at e2; obtain ⟨-, rfl⟩ := e2; exact h1.tail
        · split at e2
          · simp only [Except.ok.injEq, Prod.mk.injEq] at e2; obtain ⟨-, rfl⟩ := e2; exact h1.tail
          · cases e2
    split at e0
    · cases e0
    next l3 e3 =>
    have h3 := take_lies h2 e3
    split at e0
    · cases e0
    next a l4 e4 =>
    have h4 := money_lies h3 e4
    split at e0
    · cases e0
    next b l5 e5 =>
    have h5 := money_lies h4 e5
    split at e0
    · cases e0
    next l6 e6 =>
    have h6 := take_lies h5 e6
    split at e0
    · cases e0
    next c l7 e7 =>
    have h7 := money_lies h6 e7
    split at e0
    · cases e0
    next d l8 e8 =>
    simp only [Except.ok.injEq, Prod.mk.injEq] at e0
    obtain ⟨-, rfl⟩ := e0
    exact money_lies h7 e8
  split at h
  · next e9 => simp only [Except.error.injEq] at h; subst h; exact rules_bad E _ _ _ _ hl0 e9
  next rs e9 =>
  split at h
  · cases h
  · simp only [Except.error.injEq] at h; subst h; exact ⟨by show (15 : Int) ≠ 0; decide, Nat.zero_le _⟩

/-! ### Texts -/
def paR (s : Tx) : Except (Int × Nat) Pn := if Wo.spE s = 0 then pPlan s.length (Wo.spV s) else .error (Wo.spE s, Wo.spA s)
def prT (p : Pn) : Tx := joinC 32 (planW p)
def prE (p : Pn) : Int := if planB p = true then (if 65536 < (prT p).length then 10 else 0) else 15
def prV (p : Pn) : Tx := if prE p = 0 then prT p else []
theorem code_w {t : Tx} {n : Int} (h : Cm.codeB t n n = true) (hn : 1 ≤ n) : wOk t := by
  simp only [Cm.codeB, Bool.and_eq_true, decide_eq_true_eq, List.all_eq_true] at h
  refine Or.inr ⟨fun e => ?_, ?_⟩
  · rw [e] at h; simp at h; omega
  · unfold allI
    rw [List.all_eq_true]
    intro c hc
    have := h.2 c hc
    simp only [Cm.signB, Bool.or_eq_true, Bool.and_eq_true, decide_eq_true_eq] at this
    unfold inn kd
    have h65 : (65 : UInt8) ≤ c ↔ 65 ≤ c.toNat := by rw [UInt8.le_iff_toNat_le]; rfl
    have h90 : c ≤ (90 : UInt8) ↔ c.toNat ≤ 90 := by rw [UInt8.le_iff_toNat_le]; rfl
    have h48 : (48 : UInt8) ≤ c ↔ 48 ≤ c.toNat := by rw [UInt8.le_iff_toNat_le]; rfl
    have h57 : c ≤ (57 : UInt8) ↔ c.toNat ≤ 57 := by rw [UInt8.le_iff_toNat_le]; rfl
    have hne : ∀ k : UInt8, k.toNat < 48 → c ≠ k := fun k hk e => by rw [e] at this; omega
    rw [if_neg (by rintro (e | e); exact hne 32 (by decide) e; exact hne 10 (by decide) e), if_neg (by rintro (e | e); exact hne 40 (by decide) e; exact hne 41 (by decide) e), if_pos]
    · rfl
    · rcases this with h | h
      · exact Or.inr (Or.inr (Or.inl ⟨h65.2 h.1, h90.2 h.2⟩))
      · exact Or.inr (Or.inl ⟨h48.2 h.1, h57.2 h.2⟩)
theorem dig_inn {c : UInt8} (h : Nu.isD c = true) : inn c = true := by
  rw [Nu.isD_iff] at h
  unfold inn kd
  have h48 : (48 : UInt8) ≤ c ↔ 48 ≤ c.toNat := by rw [UInt8.le_iff_toNat_le]; rfl
  have h57 : c ≤ (57 : UInt8) ↔ c.toNat ≤ 57 := by rw [UInt8.le_iff_toNat_le]; rfl
  have hne : ∀ k : UInt8, k.toNat < 48 → c ≠ k := fun k hk e => by rw [e] at h; omega
  rw [if_neg (by rintro (e | e); exact hne 32 (by decide) e; exact hne 10 (by decide) e), if_neg (by rintro (e | e); exact hne 40 (by decide) e; exact hne 41 (by decide) e), if_pos (Or.inr (Or.inl ⟨h48.2 h.1, h57.2 h.2⟩))]
  rfl
theorem digs_allI {l : Tx} (h : Nu.allD l = true) : allI l = true := by
  unfold allI
  rw [List.all_eq_true]
  intro c hc
  unfold Nu.allD at h
  exact dig_inn (List.all_eq_true.1 h c hc)
theorem itoa_w {n : Int} (h0 : 0 ≤ n) : wOk (Lib.itoa n) := by
  obtain ⟨m, rfl⟩ : ∃ m : Nat, n = m := ⟨n.toNat, by omega⟩
  have e : Lib.itoa (m : Int) = Lib.decDigits m := by simp [Lib.itoa]
  rw [e]
  exact Or.inr ⟨Nu.dec_ne m, digs_allI (Nu.dec_allD m)⟩
theorem money_w {n : Int} (h : goodB n = true) : wOk (Nu.moneyL n) := by
  simp only [goodB, Bool.and_eq_true, decide_eq_true_eq] at h
  have e : Nu.moneyL n = Nu.moneyU n.natAbs := by unfold Nu.moneyL; rw [if_neg (by omega)]; rfl
  rw [e]
  unfold Nu.moneyU
  refine Or.inr ⟨by simp, ?_⟩
  unfold allI
  rw [List.all_append, List.all_cons]
  have h1 : (Lib.decDigits (n.natAbs / 100)).all inn = true := digs_allI (Nu.dec_allD _)
  have h2 : (Nu.two n.natAbs).all inn = true := digs_allI (by have := (Nu.two_ok n.natAbs).1; simp only [Nu.ctOk, Bool.and_eq_true] at this; exact this.2)
  rw [h1, h2]; decide
theorem lit_w (t : Tx) (h : (decide (t ≠ []) && allI t) = true) : wOk t := by simp only [Bool.and_eq_true, decide_eq_true_eq] at h; exact Or.inr h
theorem cond_w : ∀ (f : Nat) (c : Cd), condB f c = true → ∀ t ∈ condW f c, wOk t
  | 0, c, h => by cases h
  | f + 1, .mk k lo hi n ks, h => by
    simp only [condB, Bool.and_eq_true, decide_eq_true_eq, List.all_eq_true] at h
    obtain ⟨hk, hks, hl⟩ := h
    obtain ⟨h0, h8, hlo, hhi, hn⟩ := leaf_facts hl
    intro t ht
    rcases k_cases h0 h8 with rfl | rfl | rfl | rfl | rfl | rfl | rfl | rfl | rfl
    · have ht : t ∈ [tAll] := ht
      simp at ht; subst ht; exact lit_w _ (by decide)
    · have ht : t ∈ [tProc, lo, hi] := ht
      simp at ht
      rcases ht with rfl | rfl | rfl
      · exact lit_w _ (by decide)
      · exact code_w (n := 5) (by simpa [loB] using hlo) (by omega)
      · exact code_w (n := 5) (by simpa [hiB] using hhi) (by omega)
    · have ht : t ∈ [tMod, lo] := ht
      simp at ht
      rcases ht with rfl | rfl
      · exact lit_w _ (by decide)
      · exact code_w (n := 2) (by simpa [loB] using hlo) (by omega)
    · have ht : t ∈ [tUnits, Lib.itoa n] := ht
      have hn : 0 ≤ n ∧ n ≤ 9999 := by simpa [nB] using hn
      simp at ht
      rcases ht with rfl | rfl
      · exact lit_w _ (by decide)
      · exact itoa_w hn.1
    · have ht : t ∈ [tBilled, Nu.moneyL n] := ht
      simp at ht
      rcases ht with rfl | rfl
      · exact lit_w _ (by decide)
      · exact money_w (by simpa [nB] using hn)
    · have ht : t ∈ [tOut] := ht
      simp at ht; subst ht; exact lit_w _ (by decide)
    · obtain ⟨c, rfl⟩ := list1 (show ks.length = 1 from hk)
      have ht : t ∈ tNot :: condW f c := ht
      rcases List.mem_cons.1 ht with rfl | ht
      · exact lit_w _ (by decide)
      · exact cond_w f c (hks c (by simp)) t ht
    all_goals
      obtain ⟨c, d, rfl⟩ := list2 (show ks.length = 2 from hk)
    · have ht : t ∈ tO :: (condW f c ++ (tAnd :: (condW f d ++ [tC]))) := ht
      simp only [List.mem_cons, List.mem_append, List.not_mem_nil, or_false] at ht
      rcases ht with rfl | ht | rfl | ht | rfl
      · exact Or.inl ⟨40, rfl, by decide⟩
      · exact cond_w f c (hks c (by simp)) t ht
      · exact lit_w _ (by decide)
      · exact cond_w f d (hks d (by simp)) t ht
      · exact Or.inl ⟨41, rfl, by decide⟩
    · have ht : t ∈ tO :: (condW f c ++ (tOr :: (condW f d ++ [tC]))) := ht
      simp only [List.mem_cons, List.mem_append, List.not_mem_nil, or_false] at ht
      rcases ht with rfl | ht | rfl | ht | rfl
      · exact Or.inl ⟨40, rfl, by decide⟩
      · exact cond_w f c (hks c (by simp)) t ht
      · exact lit_w _ (by decide)
      · exact cond_w f d (hks d (by simp)) t ht
      · exact Or.inl ⟨41, rfl, by decide⟩
theorem yes_w (n : Int) : wOk (yesW n) := by unfold yesW; split <;> exact lit_w _ (by decide)
theorem set_w {s : St} (h : setB s = true) : ∀ t ∈ setW s, wOk t := by
  intro t ht
  simp only [setB, Bool.and_eq_true, decide_eq_true_eq] at h
  unfold setW at ht
  split at ht
  · simp at ht; rcases ht with rfl | rfl; exact lit_w _ (by decide); exact yes_w _
  split at ht
  · simp at ht; rcases ht with rfl | rfl; exact lit_w _ (by decide); exact yes_w _
  split at ht
  · next n1 n2 n3 => simp at ht; rcases ht with rfl | rfl; exact lit_w _ (by decide); exact money_w (by simpa [n1, n2, n3] using h.2)
  · simp at ht; rcases ht with rfl | rfl; exact lit_w _ (by decide); exact itoa_w h.1
theorem sets_all : ∀ (l : List St) (seen : List Int), setsB seen l = true → ∀ s ∈ l, setB s = true
  | [], _, _, s, hs => by cases hs
  | x :: r, seen, h, s, hs => by
    simp only [setsB, Bool.and_eq_true] at h
    rcases List.mem_cons.1 hs with rfl | hs
    · exact h.1
    · exact sets_all r _ h.2.2 s hs
theorem rule_w {r : Ru} (h : ruleB r = true) : ∀ t ∈ ruleW r, wOk t := by
  simp only [ruleB, Bool.and_eq_true, decide_eq_true_eq, List.all_eq_true] at h
  obtain ⟨⟨h0, h1⟩, h2, h3, h4, h5, h6⟩ := h
  intro t ht
  unfold ruleW at ht
  simp only [List.mem_cons, List.mem_append, List.not_mem_nil, or_false] at ht
  rcases ht with rfl | rfl | rfl | ht | ht | rfl | ht | rfl
  · exact lit_w _ (by decide)
  · exact itoa_w h0
  · exact lit_w _ (by decide)
  · exact cond_w 16 _ h2 t ht
  · unfold unlW at ht
    split at ht
    · next hl =>
      obtain ⟨d, hd⟩ := list1 hl
      rw [hd] at ht
      rcases List.mem_cons.1 ht with rfl | ht
      · exact lit_w _ (by decide)
      · exact cond_w 16 d (h4 d (by rw [hd]; simp)) t ht
    · cases ht
  · exact lit_w _ (by decide)
  · unfold setsW at ht
    obtain ⟨s, hs, ht⟩ := List.mem_flatMap.1 ht
    exact set_w (sets_all _ _ h6 s hs) t ht
  · exact lit_w _ (by decide)
theorem plan_w {p : Pn} (h : planB p = true) : ∀ t ∈ planW p, wOk t := by
  simp only [planB, Bool.and_eq_true, Bool.or_eq_true, decide_eq_true_eq, List.all_eq_true] at h
  obtain ⟨hm, h64, hl, hr⟩ := h
  obtain ⟨l1, l2, l3, l4⟩ := lim_good hl
  intro t ht
  unfold planW headW at ht
  simp only [List.mem_append, List.mem_cons, List.not_mem_nil, or_false] at ht
  rcases ht with (rfl | rfl | rfl | rfl | rfl | rfl | rfl | rfl) | ht
  · exact lit_w _ (by decide)
  · split <;> exact lit_w _ (by decide)
  · exact lit_w _ (by decide)
  · exact money_w l1
  · exact money_w l2
  · exact lit_w _ (by decide)
  · exact money_w l3
  · exact money_w l4
  · obtain ⟨r, hr', ht⟩ := List.mem_flatMap.1 ht
    exact rule_w (hr r hr') t ht
/-- EVERY PLAN COMES BACK. -/
theorem text_back {p : Pn} (h : prE p = 0) : paR (prV p) = .ok p := by
  have hp : planB p = true ∧ (prT p).length ≤ 65536 := by
    unfold prE at h
    split at h
    · next hb =>
      split at h
      · cases h
      · exact ⟨hb, by omega⟩
    · cases h
  obtain ⟨s1, s2⟩ := Wo.split_joined (planW p) (plan_w hp.1)
  obtain ⟨q1, q2⟩ := Wo.sp_fine (l := prT p) hp.2 s2
  unfold prV
  rw [if_pos h]
  unfold paR
  rw [if_pos q1, q2]
  exact plan_back _ p _ hp.1 s1
/-- EVERY TEXT IS READ IN ONE WAY. -/
theorem text_once {s : Tx} {p : Pn} (hs : s.length ≤ 6000) (h : paR s = .ok p) : planB p = true ∧ prE p = 0 := by
  unfold paR at h
  split at h
  · next he =>
    obtain ⟨h1, h2⟩ := plan_once h
    refine ⟨h1, ?_⟩
    have hV : Wo.spV s = wds 0 s := by
      unfold Wo.spE at he
      unfold Wo.spV
      rw [if_neg (by omega)] at he ⊢
      split at he
      · next hg => rw [if_pos hg]
      · cases he
    rw [hV] at h2
    have hsum := Wo.wds_sum s 0
    have hlen := Wo.wds_len s 0
    have hsz : szW ((wds 0 s).map (·.1)) ≤ 2 * s.length := by
      have e : ∀ l : List Tx, szW l = (l.map List.length).sum + l.length := fun l => by
        induction l with
        | nil => rfl
        | cons x r ih => rw [sz_cons, ih]; simp; omega
      rw [e, List.length_map]
      have : (((wds 0 s).map (·.1)).map List.length).sum ≤ s.length := hsum
      omega
    have hj := Wo.join_sum (planW p)
    have hj2 : Wo.sumL (planW p) + (planW p).length = szW (planW p) := by
      have e : ∀ l : List Tx, szW l = Wo.sumL l + l.length := fun l => by
        induction l with
        | nil => rfl
        | cons x r ih => rw [sz_cons, ih]; simp [Wo.sumL]; omega
      exact (e _).symm
    unfold prE
    rw [if_pos h1, if_neg]
    unfold prT
    omega
  · cases h
theorem text_bad {s : Tx} {e : Int × Nat} (h : paR s = .error e) : e.1 ≠ 0 ∧ e.2 ≤ s.length := by
  unfold paR at h
  split at h
  · next he =>
    refine plan_bad (fun x hx => ?_) h
    have hV : ∀ x ∈ Wo.spV s, x ∈ wds 0 s := fun x hx => by
      unfold Wo.spV at hx
      split at hx
      · cases hx
      · split at hx
        · exact hx
        · cases hx
    have hp := Wo.places s s 0 rfl
    have hall : ∀ (l : List Wd) (a : Nat), Wo.PlOk s a l → ∀ x ∈ l, x.2 ≤ s.length := fun l => by
      induction l with
      | nil => intro a _ x hx; cases hx
      | cons y r ih =>
        intro a hh x hx
        obtain ⟨k, hk⟩ := List.getElem?_of_mem hx
        have hkl : k < (y :: r).length := (List.getElem?_eq_some_iff.1 hk).1
        rcases List.mem_cons.1 hx with rfl | hx'
        · have := hh.at (k := 0) (l := x :: r) (s := s) (a := a) (by simp)
          exact Nat.le_trans (Nat.le_add_right _ _) this.2.2.1
        · exact ih _ hh.2.2.2.2 x hx'
    exact hall _ 0 hp x (hV x hx)
  · next he =>
    simp only [Except.error.injEq] at h
    subst h
    refine ⟨he, ?_⟩
    show Wo.spA s ≤ s.length
    unfold Wo.spA
    split
    · omega
    · cases hf : Wo.fb 0 s with
      | none => simp
      | some i => have := Wo.fb_lt s 0 i hf; simp; omega
/-- A rule's words behind a plan's. -/
theorem plan_more (p : Pn) (r : Ru) : planW { p with rules := p.rules ++ [r] } = planW p ++ ruleW r := by
  unfold planW headW
  simp
theorem planB_more {p : Pn} {r : Ru} (hp : planB p = true) (hr : ruleB r = true) (hl : p.rules.length < 64) : planB { p with rules := p.rules ++ [r] } = true := by
  simp only [planB, Bool.and_eq_true, Bool.or_eq_true, decide_eq_true_eq, List.all_eq_true, limB] at *
  obtain ⟨h1, h2, h3, h4⟩ := hp
  refine ⟨h1, by simp; omega, h3, fun x hx => ?_⟩
  rcases List.mem_append.1 hx with hx | hx
  · exact h4 x hx
  · simp at hx; subst hx; exact hr
end Go.Proofs.YtgloihilnbjmeaaDoor.Pl
end
