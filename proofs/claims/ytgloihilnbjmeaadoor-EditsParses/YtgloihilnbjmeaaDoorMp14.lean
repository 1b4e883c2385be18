/-
  Texts put together (merge.py): XMath.
-/
import Derived.Test.YtgloihilnbjmeaaDoorMp13
/-
  Edits over plain lists: which may be, as words, words as edits, why a service is denied: what layer 13's calls answer, and what follows.
-/
section
set_option linter.unusedSimpArgs false
namespace Go.Proofs.YtgloihilnbjmeaaDoor.Ex
open Wo (Wd wOk txs wds)
open Pl (R)
open Cm (Ln)

structure Ed where
  kind : Int
  a : Tx
  b : Tx
  bypass : Bool
  n : Int

/-! ### Which may be -/
def oneE (x : Ed) : Int :=
  if Cm.codeB x.a 5 5 = true then
    (if x.kind = 1 ∨ x.kind = 2 ∨ x.kind = 3 then
      (if x.kind = 3 then (if x.b = [] ∧ x.bypass = false ∧ 1 ≤ x.n ∧ x.n ≤ 9999 then 0 else 1)
      else (if x.a ≠ x.b ∧ Cm.codeB x.b 5 5 = true then (if x.n = 0 ∧ ¬ (x.kind = 2 ∧ x.bypass = true) then 0 else 1) else 9))
    else 1)
  else 9
def firstE : List Ed → Int
  | [] => 0
  | f :: r => if oneE f = 0 then firstE r else oneE f
def checkE (l : List Ed) : Int := if 256 < l.length then 10 else firstE l
theorem first_all : ∀ (l : List Ed), firstE l = 0 ↔ ∀ f ∈ l, oneE f = 0
  | [] => by simp [firstE]
  | f :: r => by
    unfold firstE
    by_cases h : oneE f = 0
    · rw [if_pos h, first_all r]; simp [h]
    · rw [if_neg h]; simp [h]
theorem check_facts {l : List Ed} (h : checkE l = 0) : l.length ≤ 256 ∧ ∀ f ∈ l, oneE f = 0 := by
  unfold checkE at h
  split at h
  · cases h
  · exact ⟨by omega, (first_all _).1 h⟩
theorem check_of {l : List Ed} (h1 : l.length ≤ 256) (h2 : ∀ f ∈ l, oneE f = 0) : checkE l = 0 := by
  unfold checkE
  rw [if_neg (by omega)]
  exact (first_all _).2 h2
theorem one_facts {x : Ed} (h : oneE x = 0) : Cm.codeB x.a 5 5 = true ∧ ((x.kind = 3 ∧ x.b = [] ∧ x.bypass = false ∧ 1 ≤ x.n ∧ x.n ≤ 9999) ∨ (x.kind = 1 ∧ x.a ≠ x.b ∧ Cm.codeB x.b 5 5 = true ∧ x.n = 0) ∨ (x.kind = 2 ∧ x.a ≠ x.b ∧ Cm.codeB x.b 5 5 = true ∧ x.n = 0 ∧ x.bypass = false)) := by
  unfold oneE at h
  split at h
  · next h1 =>
    refine ⟨h1, ?_⟩
    split at h
    · next h2 =>
      split at h
      · next h3 =>
        split at h
        · next h4 => exact Or.inl ⟨h3, h4⟩
        · cases h
      · next h3 =>
        split at h
        · next h4 =>
          split at h
          · next h5 =>
            rcases h2 with e | e | e
            · exact Or.inr (Or.inl ⟨e, h4.1, h4.2, h5.1⟩)
            · refine Or.inr (Or.inr ⟨e, h4.1, h4.2, h5.1, ?_⟩)
              cases hb : x.bypass with
              | false => rfl
              | true => exact absurd ⟨e, hb⟩ h5.2
            · exact absurd e h3
          · cases h
        · cases h
    · cases h
  · cases h

/-! ### Words -/
def tBun : Tx := [98, 117, 110, 100, 108, 101]
def tEit : Tx := [101, 105, 116, 104, 101, 114]
def tUni : Tx := [117, 110, 105, 116, 115]
def edW (x : Ed) : List Tx := if x.kind = 3 then [tUni, x.a, Lib.itoa x.n] else if x.kind = 2 then [tEit, x.a, x.b] else [tBun, x.a, x.b, if x.bypass = true then Pl.tYes else Pl.tNo]
def tabW (l : List Ed) : List Tx := l.flatMap edW
def prT (l : List Ed) : Tx := joinC 32 (tabW l)
def prV (l : List Ed) : Tx := if checkE l = 0 then prT l else []
def pA (E : Nat) (l : List Wd) : R Tx :=
  match l with
  | [] => .error (4, E)
  | (x, a) :: r => if Cm.codeB x 5 5 = true then .ok (x, r) else .error (9, a)
theorem a_ok (E : Nat) {t : Tx} (h : Cm.codeB t 5 5 = true) (p : Nat) (r : List Wd) : pA E ((t, p) :: r) = .ok (t, r) := by
  unfold pA
  simp only [h, if_true]
theorem a_inv {E : Nat} {l r : List Wd} {t : Tx} (h : pA E l = .ok (t, r)) : Cm.codeB t 5 5 = true := by
  unfold pA at h
  split at h
  · cases h
  · split at h
    · next e => simp only [Except.ok.injEq, Prod.mk.injEq] at h; obtain ⟨rfl, -⟩ := h; exact e
    · cases h
def pN (E : Nat) (l : List Wd) : R Int :=
  match l with
  | [] => .error (4, E)
  | (x, p) :: r => if Nu.riE x 4 = 0 ∧ Nu.riV x 4 ≠ 0 then .ok (Nu.riV x 4, r) else .error (4, p)
def pB (E : Nat) (a : Tx) (l : List Wd) : R Tx :=
  match l with
  | [] => .error (4, E)
  | (x, p) :: r => if Cm.codeB x 5 5 = true ∧ a ≠ x then .ok (x, r) else .error (9, p)
def pRow (E : Nat) (l : List Wd) : R Ed :=
  match l with
  | [] => .error (4, E)
  | (x, p) :: r =>
    if x = tBun then (match pA E r with | .error e => .error e | .ok (a, r) => match pB E a r with | .error e => .error e | .ok (b, r) => match Pl.pTruth E r with | .error e => .error e | .ok (t, r) => .ok (⟨1, a, b, decide (t = 1), 0⟩, r))
    else if x = tEit then (match pA E r with | .error e => .error e | .ok (a, r) => match pB E a r with | .error e => .error e | .ok (b, r) => .ok (⟨2, a, b, false, 0⟩, r))
    else if x = tUni then (match pA E r with | .error e => .error e | .ok (a, r) => match pN E r with | .error e => .error e | .ok (n, r) => .ok (⟨3, a, [], false, n⟩, r))
    else .error (4, p)
/-- f: how many rows there may be yet (256 at first). -/
def pRows (E : Nat) : Nat → List Ed → List Wd → Except (Int × Nat) (List Ed)
  | 0, acc, l => if l.isEmpty then .ok acc else .error (10, Pl.pos E l)
  | f + 1, acc, l => if l.isEmpty then .ok acc else match pRow E l with | .error e => .error e | .ok (x, r) => pRows E f (acc ++ [x]) r
def paR (s : Tx) : Except (Int × Nat) (List Ed) := if Wo.spE s = 0 then pRows s.length 256 [] (Wo.spV s) else .error (Wo.spE s, Wo.spA s)
theorem n_ok (E : Nat) {n : Int} (h0 : 1 ≤ n) (h1 : n ≤ 9999) (p : Nat) (r : List Wd) : pN E ((Lib.itoa n, p) :: r) = .ok (n, r) := by
  obtain ⟨m, rfl⟩ : ∃ m : Nat, n = m := ⟨n.toNat, by omega⟩
  have e : Lib.itoa (m : Int) = Lib.decDigits m := by simp [Lib.itoa]
  have ho := Nu.ri_dec m 4 4 (by omega) (by omega) (by omega) (by omega)
  have e1 : Nu.riE (Lib.itoa (m : Int)) 4 = 0 := by rw [e]; unfold Nu.riE; rw [if_pos ho]
  have e2 : Nu.riV (Lib.itoa (m : Int)) 4 = m := by rw [e]; unfold Nu.riV; rw [if_pos ho, Nu.dec_num]
  unfold pN
  simp only [e1, e2, true_and]
  rw [if_pos (by omega)]
theorem b_ok (E : Nat) {a b : Tx} (h : Cm.codeB b 5 5 = true) (hne : a ≠ b) (p : Nat) (r : List Wd) : pB E a ((b, p) :: r) = .ok (b, r) := by
  unfold pB
  simp only [h, true_and]
  rw [if_pos hne]
theorem row_back (E : Nat) (x : Ed) (a rest : List Wd) (h : oneE x = 0) (ha : a.map (·.1) = edW x) : pRow E (a ++ rest) = .ok (x, rest) := by
  obtain ⟨k, ca, cb, by', n⟩ := x
  obtain ⟨h1, h2⟩ := one_facts h
  simp only at h1 h2
  unfold edW at ha
  simp only at ha
  rcases h2 with ⟨rfl, rfl, rfl, n1, n2⟩ | ⟨rfl, hne, hb, rfl⟩ | ⟨rfl, hne, hb, rfl, rfl⟩
  · obtain ⟨p, r1, rfl, g1⟩ := Pl.map_cons (ha.trans (if_pos rfl))
    obtain ⟨p1, r2, rfl, g2⟩ := Pl.map_cons g1
    obtain ⟨p2, r3, rfl, g3⟩ := Pl.map_cons g2
    obtain rfl := Pl.map_nil g3
    show (match pA E ((ca, p1) :: (Lib.itoa n, p2) :: rest) with | .error e => (.error e : R Ed) | .ok (a, r) => match pN E r with | .error e => .error e | .ok (n, r) => .ok (⟨3, a, [], false, n⟩, r)) = _
    simp only [a_ok E h1, n_ok E n1 n2]
  · obtain ⟨p, r1, rfl, g1⟩ := Pl.map_cons (ha.trans (show _ = [tBun, ca, cb, if by' = true then Pl.tYes else Pl.tNo] from rfl))
    obtain ⟨p1, r2, rfl, g2⟩ := Pl.map_cons g1
    obtain ⟨p2, r3, rfl, g3⟩ := Pl.map_cons g2
    obtain ⟨p3, r4, rfl, g4⟩ := Pl.map_cons g3
    obtain rfl := Pl.map_nil g4
    have ht : Pl.pTruth E (((if by' = true then Pl.tYes else Pl.tNo), p3) :: rest) = .ok ((if by' = true then 1 else 0), rest) := by cases by' <;> rfl
    show (match pA E ((ca, p1) :: (cb, p2) :: ((if by' = true then Pl.tYes else Pl.tNo), p3) :: rest) with | .error e => (.error e : R Ed) | .ok (a, r) => match pB E a r with | .error e => .error e | .ok (b, r) => match Pl.pTruth E r with | .error e => .error e | .ok (t, r) => .ok (⟨1, a, b, decide (t = 1), 0⟩, r)) = _
    simp only [a_ok E h1, b_ok E hb hne, ht]
    cases by' <;> rfl
  · obtain ⟨p, r1, rfl, g1⟩ := Pl.map_cons (ha.trans (show _ = [tEit, ca, cb] from rfl))
    obtain ⟨p1, r2, rfl, g2⟩ := Pl.map_cons g1
    obtain ⟨p2, r3, rfl, g3⟩ := Pl.map_cons g2
    obtain rfl := Pl.map_nil g3
    show (match pA E ((ca, p1) :: (cb, p2) :: rest) with | .error e => (.error e : R Ed) | .ok (a, r) => match pB E a r with | .error e => .error e | .ok (b, r) => .ok (⟨2, a, b, false, 0⟩, r)) = _
    simp only [a_ok E h1, b_ok E hb hne]
theorem edW_ne (x : Ed) : edW x ≠ [] := by unfold edW; split; simp; split <;> simp
theorem rows_back (E : Nat) : ∀ (l : List Ed) (f : Nat) (acc : List Ed) (a : List Wd), l.length ≤ f → (∀ r ∈ l, oneE r = 0) → a.map (·.1) = tabW l → pRows E f acc a = .ok (acc ++ l)
  | [], f, acc, a, _, _, ha => by
    obtain rfl := Pl.map_nil (ha.trans (show _ = [] from rfl))
    cases f <;> simp [pRows]
  | r :: q, 0, acc, a, hf, _, _ => by simp at hf
  | r :: q, f + 1, acc, a, hf, h, ha => by
    have e : tabW (r :: q) = edW r ++ tabW q := by simp [tabW]
    rw [e] at ha
    obtain ⟨a1, a2, rfl, g1, g2⟩ := Pl.map_app ha
    have hr := row_back E r a1 a2 (h r (by simp)) g1
    have ih := rows_back E q f (acc ++ [r]) a2 (by simp at hf; omega) (fun x hx => h x (List.mem_cons_of_mem _ hx)) g2
    have hne : (a1 ++ a2).isEmpty = false := by
      cases a1 with
      | nil => exact absurd g1.symm (edW_ne r)
      | cons x y => rfl
    unfold pRows
    rw [hne]
    simp only [hr, ih, Bool.false_eq_true, if_false, List.append_assoc, List.singleton_append]
theorem ed_w {x : Ed} (h : oneE x = 0) : ∀ t ∈ edW x, wOk t := by
  obtain ⟨h1, h2⟩ := one_facts h
  intro t ht
  unfold edW at ht
  rcases h2 with ⟨hk, hb, hy, n1, n2⟩ | ⟨hk, hne, hb, hn⟩ | ⟨hk, hne, hb, hn, hy⟩
  · rw [if_pos hk] at ht
    simp at ht
    rcases ht with rfl | rfl | rfl
    · exact Pl.lit_w _ (by decide)
    · exact Pl.code_w (n := 5) h1 (by omega)
    · exact Pl.itoa_w (by omega)
  · rw [if_neg (by omega), if_neg (by omega)] at ht
    simp only [List.mem_cons, List.not_mem_nil, or_false] at ht
    rcases ht with rfl | rfl | rfl | rfl
    · exact Pl.lit_w _ (by decide)
    · exact Pl.code_w (n := 5) h1 (by omega)
    · exact Pl.code_w (n := 5) hb (by omega)
    · split <;> exact Pl.lit_w _ (by decide)
  · rw [if_neg (by omega), if_pos hk] at ht
    simp at ht
    rcases ht with rfl | rfl | rfl
    · exact Pl.lit_w _ (by decide)
    · exact Pl.code_w (n := 5) h1 (by omega)
    · exact Pl.code_w (n := 5) hb (by omega)
theorem ed_size {x : Ed} (h : oneE x = 0) : Pl.szW (edW x) ≤ 24 := by
  obtain ⟨h1, h2⟩ := one_facts h
  have hcode : ∀ (t : Tx), Cm.codeB t 5 5 = true → (t.length : Int) ≤ 5 := fun t h => by simp only [Cm.codeB, Bool.and_eq_true, decide_eq_true_eq] at h; exact h.1.2
  have a := hcode _ h1
  unfold edW
  rcases h2 with ⟨hk, hb, hy, n1, n2⟩ | ⟨hk, hne, hb, hn⟩ | ⟨hk, hne, hb, hn, hy⟩
  · rw [if_pos hk]
    have := Pl.itoa_len (show 0 ≤ x.n by omega) (show x.n ≤ 99999 by omega)
    simp only [Pl.sz_cons, Pl.sz_nil, tUni, List.length_cons, List.length_nil]; omega
  · rw [if_neg (by omega), if_neg (by omega)]
    have c : (if x.bypass = true then Pl.tYes else Pl.tNo).length ≤ 3 := by split <;> decide
    have b := hcode _ hb
    simp only [Pl.sz_cons, Pl.sz_nil, tBun, List.length_cons, List.length_nil]; omega
  · rw [if_neg (by omega), if_pos hk]
    have b := hcode _ hb
    simp only [Pl.sz_cons, Pl.sz_nil, tEit, List.length_cons, List.length_nil]; omega
theorem tab_size : ∀ (l : List Ed), (∀ f ∈ l, oneE f = 0) → Pl.szW (tabW l) ≤ 24 * l.length
  | [], _ => by simp [tabW, Pl.szW]
  | f :: r, h => by
    have h1 := ed_size (h f List.mem_cons_self)
    have ih := tab_size r fun x hx => h x (List.mem_cons_of_mem _ hx)
    have e : tabW (f :: r) = edW f ++ tabW r := by simp [tabW]
    rw [e, Pl.sz_app, List.length_cons]; omega
/-- A table comes back. -/
theorem text_back {l : List Ed} (h : checkE l = 0) : paR (prV l) = .ok l := by
  obtain ⟨h1, h2⟩ := check_facts h
  obtain ⟨s1, s2⟩ := Wo.split_joined (tabW l) (fun t ht => by obtain ⟨f, hf, ht⟩ := List.mem_flatMap.1 ht; exact ed_w (h2 f hf) t ht)
  have hz := tab_size l h2
  have hj := Pl.join_size (tabW l)
  obtain ⟨q1, q2⟩ := Wo.sp_fine (l := prT l) (by unfold prT; omega) s2
  unfold prV
  rw [if_pos h]
  unfold paR
  rw [if_pos q1, q2, rows_back _ l 256 [] (wds 0 (prT l)) h1 h2 s1]
  rfl
/-- What is parsed may be. -/
theorem row_once {E : Nat} {l rest : List Wd} {x : Ed} (h : pRow E l = .ok (x, rest)) : oneE x = 0 := by
  have hB : ∀ {a b : Tx} {l r : List Wd}, pB E a l = .ok (b, r) → Cm.codeB b 5 5 = true ∧ a ≠ b := fun {a b l r} h => by
    unfold pB at h
    split at h
    · cases h
    · split at h
      · next e => simp only [Except.ok.injEq, Prod.mk.injEq] at h; obtain ⟨rfl, -⟩ := h; exact e
      · cases h
  have hN : ∀ {n : Int} {l r : List Wd}, pN E l = .ok (n, r) → 1 ≤ n ∧ n ≤ 9999 := fun {n l r} h => by
    unfold pN at h
    split at h
    · cases h
    · next x p q =>
      split at h
      · next e =>
        simp only [Except.ok.injEq, Prod.mk.injEq] at h
        obtain ⟨rfl, -⟩ := h
        have hb := Nu.ri_bd x 4
        refine ⟨by omega, ?_⟩
        have ho : Nu.riOk x 4 = true := by
          unfold Nu.riE at e
          cases hh : Nu.riOk x 4 with
          | true => rfl
          | false => rw [hh] at e; exact absurd e.1 (by decide)
        have hlt : Nu.numL x < 10 ^ x.length := Nu.numL_lt x (by simp only [Nu.riOk, Bool.and_eq_true] at ho; exact (Nu.canon_allD x ho.1.1).1)
        have hlen : x.length ≤ 4 := by simp only [Nu.riOk, Bool.and_eq_true, decide_eq_true_eq] at ho; omega
        have hp : (10 : Nat) ^ x.length ≤ 10 ^ 4 := Nat.pow_le_pow_right (by omega) hlen
        unfold Nu.riV
        rw [if_pos ho]
        have : (10 : Nat) ^ 4 = 10000 := by decide
        omega
      · cases h
  unfold pRow at h
  split at h
  · cases h
  · split at h
    · split at h
      · cases h
      · next a r1 e1 =>
        split at h
        · cases h
        · next b r2 e2 =>
          split at h
          · cases h
          · next t r3 e3 =>
            simp only [Except.ok.injEq, Prod.mk.injEq] at h
            obtain ⟨rfl, -⟩ := h
            have k1 := a_inv e1
            obtain ⟨k2, k3⟩ := hB e2
            simp [oneE, k1, k2, k3]
    split at h
    · split at h
      · cases h
      · next a r1 e1 =>
        split at h
        · cases h
        · next b r2 e2 =>
          simp only [Except.ok.injEq, Prod.mk.injEq] at h
          obtain ⟨rfl, -⟩ := h
          have k1 := a_inv e1
          obtain ⟨k2, k3⟩ := hB e2
          simp [oneE, k1, k2, k3]
    split at h
    · split at h
      · cases h
      · next a r1 e1 =>
        split at h
        · cases h
        · next n r2 e2 =>
          simp only [Except.ok.injEq, Prod.mk.injEq] at h
          obtain ⟨rfl, -⟩ := h
          have k1 := a_inv e1
          obtain ⟨k2, k3⟩ := hN e2
          simp [oneE, k1, k2, k3]
    · cases h
theorem rows_once (E : Nat) : ∀ (f : Nat) (acc : List Ed) (l : List Wd) (rs : List Ed), pRows E f acc l = .ok rs → ∃ new, rs = acc ++ new ∧ new.length ≤ f ∧ ∀ r ∈ new, oneE r = 0
  | 0, acc, l, rs, h => by
    unfold pRows at h
    split at h
    · simp only [Except.ok.injEq] at h; exact ⟨[], by simp [h], by simp, by simp⟩
    · cases h
  | f + 1, acc, l, rs, h => by
    unfold pRows at h
    split at h
    · simp only [Except.ok.injEq] at h; exact ⟨[], by simp [h], by simp, by simp⟩
    · split at h
      · cases h
      · next r l1 e1 =>
        have k1 := row_once e1
        obtain ⟨new, rfl, n1, n2⟩ := rows_once E f _ _ _ h
        refine ⟨r :: new, by simp, by simp; omega, fun x hx => ?_⟩
        rcases List.mem_cons.1 hx with rfl | hx
        · exact k1
        · exact n2 x hx
theorem text_once {s : Tx} {l : List Ed} (h : paR s = .ok l) : checkE l = 0 := by
  unfold paR at h
  split at h
  · obtain ⟨new, rfl, n1, n2⟩ := rows_once _ _ _ _ _ h
    exact check_of (by simpa using n1) (by simpa using n2)
  · cases h

/-! ### Why a service is denied -/
def t59 : Tx := [53, 57]
def byB (x : Ln) : Bool := x.mods.any fun t => decide (t = t59)
def whyK (e : Ed) (a : Ln) (i k : Nat) (b : Ln) : Int :=
  if k = i ∨ b.date ≠ a.date then 0
  else if e.kind = 1 ∧ a.proc = e.b ∧ b.proc = e.a ∧ ¬ (e.bypass = true ∧ byB a = true) then 97
  else if e.kind = 2 ∧ k < i ∧ (a.proc = e.a ∧ b.proc = e.b ∨ a.proc = e.b ∧ b.proc = e.a) then 236 else 0
def whyF (e : Ed) (a : Ln) (i : Nat) : Nat → List Ln → Int
  | _, [] => 0
  | k, b :: r => if whyK e a i k b = 0 then whyF e a i (k + 1) r else whyK e a i k b
def whyV (e : Ed) (l : List Ln) (i : Nat) (a : Ln) : Int := if e.kind = 3 ∧ a.proc = e.a ∧ e.n < a.units then 151 else whyF e a i 0 l
def denyF (l : List Ln) (i : Nat) (a : Ln) : List Ed → Int
  | [] => 0
  | e :: r => if whyV e l i a = 0 then denyF l i a r else whyV e l i a
def denyV (t : List Ed) (l : List Ln) (i : Int) : Int := if 0 ≤ i then (match l[i.toNat]? with | some a => denyF l i.toNat a t | none => 0) else 0
theorem deny_app (l : List Ln) (i : Nat) (a : Ln) : ∀ (t u : List Ed), denyF l i a (t ++ u) = if denyF l i a t = 0 then denyF l i a u else denyF l i a t
  | [], u => by simp [denyF]
  | e :: r, u => by
    show (if whyV e l i a = 0 then denyF l i a (r ++ u) else whyV e l i a) = (if (if whyV e l i a = 0 then denyF l i a r else whyV e l i a) = 0 then _ else (if whyV e l i a = 0 then denyF l i a r else whyV e l i a))
    by_cases h : whyV e l i a = 0
    · rw [if_pos h, if_pos h]; exact deny_app l i a r u
    · rw [if_neg h, if_neg h, if_neg h]
theorem denyV_app (t u : List Ed) (l : List Ln) (i : Int) : denyV (t ++ u) l i = if denyV t l i = 0 then denyV u l i else denyV t l i := by
  unfold denyV
  split
  · split
    · exact deny_app _ _ _ t u
    · simp
  · simp
theorem why_alone (e : Ed) (a : Ln) (i : Nat) : ∀ (l : List Ln) (k : Nat), (∀ j b, l[j]? = some b → k + j ≠ i → b.date ≠ a.date) → whyF e a i k l = 0
  | [], k, _ => rfl
  | b :: r, k, h => by
    have h0 : whyK e a i k b = 0 := by
      unfold whyK
      rw [if_pos]
      by_cases e : k = i
      · exact Or.inl e
      · exact Or.inr (h 0 b rfl e)
    unfold whyF
    rw [if_pos h0]
    exact why_alone e a i r (k + 1) fun j c hj hne => h (j + 1) c (by simpa using hj) (by omega)
theorem deny_alone (l : List Ln) (i : Nat) (a : Ln) (h : ∀ j b, l[j]? = some b → j ≠ i → b.date ≠ a.date) : ∀ t : List Ed, denyF l i a t = 0 ∨ denyF l i a t = 151
  | [] => Or.inl rfl
  | e :: r => by
    have hw : whyV e l i a = 0 ∨ whyV e l i a = 151 := by
      unfold whyV
      split
      · exact Or.inr rfl
      · exact Or.inl (why_alone e a i l 0 fun j b hj hne => h j b hj (by omega))
    unfold denyF
    split
    · exact deny_alone l i a h r
    · next hn => exact Or.inr (hw.resolve_left hn)
end Go.Proofs.YtgloihilnbjmeaaDoor.Ex
end
