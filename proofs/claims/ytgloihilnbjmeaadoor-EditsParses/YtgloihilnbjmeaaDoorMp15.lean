/-
  Texts put together (merge.py): XRd.
-/
import Derived.Test.YtgloihilnbjmeaaDoorMp14
/-
  What the reader of edits keeps, over plain lists: the words that are left, and the first fault; and that it comes to what the words are.
-/
section
set_option linter.unusedSimpArgs false
set_option linter.unusedVariables false
namespace Go.Proofs.YtgloihilnbjmeaaDoor.Ex
open Wo (Wd)
open Pl (R)

/-- The first fault is kept. -/
def kp (f : Int × Nat) (e : Int) (a : Nat) : Int × Nat := if f.1 = 0 then (e, a) else f
def tkW (E : Nat) (l : List Wd) : Wd := match l with | [] => ([], E) | x :: _ => x
def tkF (E : Nat) (l : List Wd) (f : Int × Nat) : Int × Nat := match l with | [] => kp f 4 E | _ :: _ => f
def cdB (E : Nat) (o : Tx) (l : List Wd) : Bool := Cm.codeB (tkW E l).1 5 5 && !decide ((tkW E l).1 = o)
def cdF (E : Nat) (o : Tx) (l : List Wd) (f : Int × Nat) : Int × Nat := if cdB E o l = true then tkF E l f else kp (tkF E l f) 9 (tkW E l).2
def nmB (E : Nat) (l : List Wd) : Bool := decide (Nu.riE (tkW E l).1 4 = 0) && !decide (Nu.riV (tkW E l).1 4 = 0)
def nmF (E : Nat) (l : List Wd) (f : Int × Nat) : Int × Nat := if nmB E l = true then tkF E l f else kp (tkF E l f) 4 (tkW E l).2
def anB (E : Nat) (l : List Wd) : Bool := decide ((tkW E l).1 = Pl.tYes) || decide ((tkW E l).1 = Pl.tNo)
def anF (E : Nat) (l : List Wd) (f : Int × Nat) : Int × Nat := if anB E l = true then tkF E l f else kp (tkF E l f) 4 (tkW E l).2
def prF (E : Nat) (l : List Wd) (f : Int × Nat) : Int × Nat := cdF E (tkW E l).1 l.tail (cdF E [] l f)
def prX (E : Nat) (k : Int) (l : List Wd) : Ed := ⟨k, (tkW E l).1, (tkW E l.tail).1, false, 0⟩
def buF (E : Nat) (l : List Wd) (f : Int × Nat) : Int × Nat := anF E l.tail.tail (prF E l f)
def buX (E : Nat) (l : List Wd) : Ed := ⟨1, (tkW E l).1, (tkW E l.tail).1, decide ((tkW E l.tail.tail).1 = Pl.tYes), 0⟩
def unF (E : Nat) (l : List Wd) (f : Int × Nat) : Int × Nat := nmF E l.tail (cdF E [] l f)
def unX (E : Nat) (l : List Wd) : Ed := ⟨3, (tkW E l).1, [], false, Nu.riV (tkW E l.tail).1 4⟩

theorem n4 {a : Nat} : ¬ ((4, a) : Int × Nat).1 = 0 := by show ¬ (4 : Int) = 0; decide
theorem n9 {a : Nat} : ¬ ((9, a) : Int × Nat).1 = 0 := by show ¬ (9 : Int) = 0; decide
theorem kp_no {f : Int × Nat} (h : ¬ f.1 = 0) (e : Int) (a : Nat) : kp f e a = f := if_neg h
theorem kp_yes {f : Int × Nat} (h : f.1 = 0) (e : Int) (a : Nat) : kp f e a = (e, a) := if_pos h
theorem tkF_no {f : Int × Nat} (h : ¬ f.1 = 0) (E : Nat) (l : List Wd) : tkF E l f = f := by cases l <;> simp [tkF, kp_no h]
theorem cdF_no {f : Int × Nat} (h : ¬ f.1 = 0) (E : Nat) (o : Tx) (l : List Wd) : cdF E o l f = f := by unfold cdF; rw [tkF_no h, kp_no h]; split <;> rfl
theorem nmF_no {f : Int × Nat} (h : ¬ f.1 = 0) (E : Nat) (l : List Wd) : nmF E l f = f := by unfold nmF; rw [tkF_no h, kp_no h]; split <;> rfl
theorem anF_no {f : Int × Nat} (h : ¬ f.1 = 0) (E : Nat) (l : List Wd) : anF E l f = f := by unfold anF; rw [tkF_no h, kp_no h]; split <;> rfl
theorem code_nil : Cm.codeB [] 5 5 = false := by decide
/-- The fault of a code that must stand there: none, and the code; or the one that the words tell. -/
theorem cd_step (E : Nat) (o : Tx) (l : List Wd) (f : Int × Nat) (h : f.1 = 0) :
    (∃ x p r, l = (x, p) :: r ∧ Cm.codeB x 5 5 = true ∧ x ≠ o ∧ cdF E o l f = f) ∨ (l = [] ∧ cdF E o l f = (4, E)) ∨ (∃ x p r, l = (x, p) :: r ∧ ¬ (Cm.codeB x 5 5 = true ∧ x ≠ o) ∧ cdF E o l f = (9, p)) := by
  cases l with
  | nil =>
    refine Or.inr (Or.inl ⟨rfl, ?_⟩)
    unfold cdF
    rw [if_neg (by unfold cdB; simp [tkW, code_nil])]
    show kp (kp f 4 E) _ E = _
    rw [kp_yes h, kp_no n4]
  | cons y r =>
    obtain ⟨x, p⟩ := y
    by_cases hc : Cm.codeB x 5 5 = true ∧ x ≠ o
    · refine Or.inl ⟨x, p, r, rfl, hc.1, hc.2, ?_⟩
      unfold cdF
      rw [if_pos (by simp [cdB, tkW, hc.1, hc.2])]
      rfl
    · refine Or.inr (Or.inr ⟨x, p, r, rfl, hc, ?_⟩)
      unfold cdF
      rw [if_neg (by intro hh; apply hc; have hq : (Cm.codeB x 5 5 && !decide (x = o)) = true := hh; simpa using hq)]
      simp [tkF, tkW, kp_yes h]
theorem nm_step (E : Nat) (l : List Wd) (f : Int × Nat) (h : f.1 = 0) :
    (∃ x p r, l = (x, p) :: r ∧ (Nu.riE x 4 = 0 ∧ Nu.riV x 4 ≠ 0) ∧ nmF E l f = f) ∨ (l = [] ∧ nmF E l f = (4, E)) ∨ (∃ x p r, l = (x, p) :: r ∧ ¬ (Nu.riE x 4 = 0 ∧ Nu.riV x 4 ≠ 0) ∧ nmF E l f = (4, p)) := by
  cases l with
  | nil =>
    refine Or.inr (Or.inl ⟨rfl, ?_⟩)
    unfold nmF
    rw [if_neg (by show ¬ (decide (Nu.riE [] 4 = 0) && !decide (Nu.riV [] 4 = 0)) = true; decide +kernel)]
    show kp (kp f 4 E) _ E = _
    rw [kp_yes h, kp_no n4]
  | cons y r =>
    obtain ⟨x, p⟩ := y
    by_cases hc : Nu.riE x 4 = 0 ∧ Nu.riV x 4 ≠ 0
    · refine Or.inl ⟨x, p, r, rfl, hc, ?_⟩
      unfold nmF
      rw [if_pos (by simp [nmB, tkW, hc.1, hc.2])]
      rfl
    · refine Or.inr (Or.inr ⟨x, p, r, rfl, hc, ?_⟩)
      unfold nmF
      rw [if_neg (by intro hh; apply hc; have hq : (decide (Nu.riE x 4 = 0) && !decide (Nu.riV x 4 = 0)) = true := hh; simpa using hq)]
      simp [tkF, tkW, kp_yes h]
theorem an_step (E : Nat) (l : List Wd) (f : Int × Nat) (h : f.1 = 0) :
    (∃ x p r, l = (x, p) :: r ∧ (x = Pl.tYes ∨ x = Pl.tNo) ∧ anF E l f = f) ∨ (l = [] ∧ anF E l f = (4, E)) ∨ (∃ x p r, l = (x, p) :: r ∧ ¬ (x = Pl.tYes ∨ x = Pl.tNo) ∧ anF E l f = (4, p)) := by
  cases l with
  | nil =>
    refine Or.inr (Or.inl ⟨rfl, ?_⟩)
    unfold anF
    rw [if_neg (by unfold anB; simp [tkW, Pl.tYes, Pl.tNo])]
    show kp (kp f 4 E) _ E = _
    rw [kp_yes h, kp_no n4]
  | cons y r =>
    obtain ⟨x, p⟩ := y
    by_cases hc : x = Pl.tYes ∨ x = Pl.tNo
    · refine Or.inl ⟨x, p, r, rfl, hc, ?_⟩
      unfold anF
      rw [if_pos (by show (decide (x = Pl.tYes) || decide (x = Pl.tNo)) = true; simpa using hc)]
      rfl
    · refine Or.inr (Or.inr ⟨x, p, r, rfl, hc, ?_⟩)
      unfold anF
      rw [if_neg (by intro hh; apply hc; have hq : (decide (x = Pl.tYes) || decide (x = Pl.tNo)) = true := hh; simpa using hq)]
      simp [tkF, tkW, kp_yes h]
/-- What a row's reading leaves: the row, with no fault; or the fault that the words tell. -/
def Left {α : Type} (res : R α) (x : α) (r : List Wd) (f g : Int × Nat) : Prop := (g = f ∧ res = .ok (x, r)) ∨ (¬ g.1 = 0 ∧ res = .error g)
theorem code_hit (E : Nat) {x : Tx} (h : Cm.codeB x 5 5 = true) (p : Nat) (r : List Wd) : pA E ((x, p) :: r) = .ok (x, r) := a_ok E h p r
theorem code_miss (E : Nat) {x : Tx} (h : ¬ (Cm.codeB x 5 5 = true ∧ x ≠ [])) (p : Nat) (r : List Wd) : pA E ((x, p) :: r) = .error (9, p) := by
  have hc : ¬ Cm.codeB x 5 5 = true := fun hx => h ⟨hx, fun e => by rw [e, code_nil] at hx; cases hx⟩
  unfold pA
  simp [hc]
theorem code_none (E : Nat) : pA E [] = .error (4, E) := rfl
theorem truth_miss (E : Nat) {x : Tx} (h : ¬ (x = Pl.tYes ∨ x = Pl.tNo)) (p : Nat) (r : List Wd) : Pl.pTruth E ((x, p) :: r) = .error (4, p) := by
  unfold Pl.pTruth
  simp only
  rw [if_neg (fun e => h (Or.inl e)), if_neg (fun e => h (Or.inr e))]
theorem pair_left (E : Nat) (l : List Wd) (f : Int × Nat) (h : f.1 = 0) (p : Nat) : Left (pRow E ((tEit, p) :: l)) (prX E 2 l) l.tail.tail f (prF E l f) := by
  show Left (match pA E l with | .error e => (.error e : R Ed) | .ok (a, r) => match pB E a r with | .error e => .error e | .ok (b, r) => .ok (⟨2, a, b, false, 0⟩, r)) _ _ _ _
  unfold prF
  rcases cd_step E [] l f h with ⟨x, q, r, rfl, h1, -, hf⟩ | ⟨rfl, hf⟩ | ⟨x, q, r, rfl, h1, hf⟩
  · rw [hf, code_hit E h1]
    simp only [List.tail_cons, tkW]
    rcases cd_step E x r f h with ⟨y, q', r', rfl, h2, h3, hg⟩ | ⟨rfl, hg⟩ | ⟨y, q', r', rfl, h2, hg⟩
    · rw [hg]; exact Or.inl ⟨rfl, by rw [b_ok E h2 (fun e => h3 e.symm)]; rfl⟩
    · rw [hg]; exact Or.inr ⟨by first | exact n4 | exact n9, rfl⟩
    · rw [hg]; refine Or.inr ⟨by first | exact n4 | exact n9, ?_⟩
      unfold pB
      simp only
      rw [if_neg (fun hh => h2 ⟨hh.1, fun e => hh.2 e.symm⟩)]
  · rw [hf, cdF_no (by first | exact n4 | exact n9)]; exact Or.inr ⟨by first | exact n4 | exact n9, rfl⟩
  · rw [hf, cdF_no (by first | exact n4 | exact n9), code_miss E h1]; exact Or.inr ⟨by first | exact n4 | exact n9, rfl⟩
theorem bundle_left (E : Nat) (l : List Wd) (f : Int × Nat) (h : f.1 = 0) (p : Nat) : Left (pRow E ((tBun, p) :: l)) (buX E l) l.tail.tail.tail f (buF E l f) := by
  show Left (match pA E l with | .error e => (.error e : R Ed) | .ok (a, r) => match pB E a r with | .error e => .error e | .ok (b, r) => match Pl.pTruth E r with | .error e => .error e | .ok (t, r) => .ok (⟨1, a, b, decide (t = 1), 0⟩, r)) _ _ _ _
  unfold buF prF
  rcases cd_step E [] l f h with ⟨x, q, r, rfl, h1, -, hf⟩ | ⟨rfl, hf⟩ | ⟨x, q, r, rfl, h1, hf⟩
  · rw [hf, code_hit E h1]
    simp only [List.tail_cons, tkW, buX]
    rcases cd_step E x r f h with ⟨y, q', r', rfl, h2, h3, hg⟩ | ⟨rfl, hg⟩ | ⟨y, q', r', rfl, h2, hg⟩
    · rw [hg, b_ok E h2 (fun e => h3 e.symm)]
      simp only [List.tail_cons]
      rcases an_step E r' f h with ⟨z, s, r'', rfl, h4, hk⟩ | ⟨rfl, hk⟩ | ⟨z, s, r'', rfl, h4, hk⟩
      · rw [hk]
        refine Or.inl ⟨rfl, ?_⟩
        rcases h4 with rfl | rfl <;> rfl
      · rw [hk]; exact Or.inr ⟨by first | exact n4 | exact n9, rfl⟩
      · rw [hk]; refine Or.inr ⟨by first | exact n4 | exact n9, ?_⟩
        rw [truth_miss E h4]
    · rw [hg, anF_no (by first | exact n4 | exact n9)]; exact Or.inr ⟨by first | exact n4 | exact n9, rfl⟩
    · rw [hg, anF_no (by first | exact n4 | exact n9)]; refine Or.inr ⟨by first | exact n4 | exact n9, ?_⟩
      unfold pB
      simp only
      rw [if_neg (fun hh => h2 ⟨hh.1, fun e => hh.2 e.symm⟩)]
  · rw [hf, cdF_no (by first | exact n4 | exact n9), anF_no (by first | exact n4 | exact n9)]; exact Or.inr ⟨by first | exact n4 | exact n9, rfl⟩
  · rw [hf, cdF_no (by first | exact n4 | exact n9), anF_no (by first | exact n4 | exact n9), code_miss E h1]; exact Or.inr ⟨by first | exact n4 | exact n9, rfl⟩
theorem units_left (E : Nat) (l : List Wd) (f : Int × Nat) (h : f.1 = 0) (p : Nat) : Left (pRow E ((tUni, p) :: l)) (unX E l) l.tail.tail f (unF E l f) := by
  show Left (match pA E l with | .error e => (.error e : R Ed) | .ok (a, r) => match pN E r with | .error e => .error e | .ok (n, r) => .ok (⟨3, a, [], false, n⟩, r)) _ _ _ _
  unfold unF
  rcases cd_step E [] l f h with ⟨x, q, r, rfl, h1, -, hf⟩ | ⟨rfl, hf⟩ | ⟨x, q, r, rfl, h1, hf⟩
  · rw [hf, code_hit E h1]
    simp only [List.tail_cons, tkW, unX]
    rcases nm_step E r f h with ⟨y, q', r', rfl, h2, hg⟩ | ⟨rfl, hg⟩ | ⟨y, q', r', rfl, h2, hg⟩
    · rw [hg]; refine Or.inl ⟨rfl, ?_⟩
      unfold pN
      simp only
      rw [if_pos h2]
      rfl
    · rw [hg]; exact Or.inr ⟨by first | exact n4 | exact n9, rfl⟩
    · rw [hg]; refine Or.inr ⟨by first | exact n4 | exact n9, ?_⟩
      unfold pN
      simp only
      rw [if_neg h2]
  · rw [hf, nmF_no (by first | exact n4 | exact n9)]; exact Or.inr ⟨by first | exact n4 | exact n9, rfl⟩
  · rw [hf, nmF_no (by first | exact n4 | exact n9), code_miss E h1]; exact Or.inr ⟨by first | exact n4 | exact n9, rfl⟩
theorem row_none (E : Nat) {x : Tx} (h1 : ¬ x = tBun) (h2 : ¬ x = tEit) (h3 : ¬ x = tUni) (p : Nat) (l : List Wd) : pRow E ((x, p) :: l) = .error (4, p) := by
  unfold pRow
  simp only
  rw [if_neg h1, if_neg h2, if_neg h3]
theorem rows_nil (E f : Nat) (acc : List Ed) : pRows E f acc [] = .ok acc := by cases f <;> rfl
theorem rows_full (E : Nat) (acc : List Ed) (x : Wd) (t : List Wd) : pRows E 0 acc (x :: t) = .error (10, x.2) := rfl
theorem rows_ok {E f : Nat} {acc : List Ed} {x : Wd} {t r : List Wd} {e : Ed} (h : pRow E (x :: t) = .ok (e, r)) : pRows E (f + 1) acc (x :: t) = pRows E f (acc ++ [e]) r := by
  rw [pRows, h]
  rfl
theorem rows_bad {E f : Nat} {acc : List Ed} {x : Wd} {t : List Wd} {e : Int × Nat} (h : pRow E (x :: t) = .error e) : pRows E (f + 1) acc (x :: t) = .error e := by
  rw [pRows, h]
  rfl
end Go.Proofs.YtgloihilnbjmeaaDoor.Ex
end
