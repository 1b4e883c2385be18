/-
  Texts put together (merge.py): XRRow0.
-/
import Derived.Test.YtgloihilnbjmeaaDoorMp28
import Derived.Test.YtgloihilnbjmeaaDoorMp31
import Derived.Test.YtgloihilnbjmeaaDoorMp46
/-
  What the reference's word, kind and row answer, as contracts: a row from a word on, or at which word it is wrong, and how.
-/
section
set_option linter.unusedSimpArgs false
set_option linter.unusedVariables false
set_option maxRecDepth 100000
namespace Go.Proofs.YtgloihilnbjmeaaDoor.Ex
open Go.RowKit
open Wo (Wd WdsAt box_cell box_two keepB heap_far below_alloc below_trans)

def wt (ws : List Wd) (j : Nat) : Tx := (tkW 0 (ws.drop j)).1
theorem tk_any (E : Nat) (l : List Wd) : (tkW E l).1 = (tkW 0 l).1 := by cases l <;> rfl
theorem wt_some {ws : List Wd} {j : Nat} {y : Wd} (h : ws[j]? = some y) : wt ws j = y.1 := by
  obtain ⟨hl, rfl⟩ := List.getElem?_eq_some_iff.1 h
  unfold wt
  rw [List.drop_eq_getElem_cons hl]
  rfl
theorem wt_none {ws : List Wd} {j : Nat} (h : ws.length ≤ j) : wt ws j = [] := by
  unfold wt
  rw [List.drop_eq_nil_of_le h]
  rfl
/-- The fault e at the next word; where there is none any more, where the text ends. -/
def erA (E : Nat) (e : Int) (l : List Wd) : Int × Nat := match l with | [] => (4, E) | y :: _ => (e, y.2)
theorem er_none {E : Nat} {e : Int} {ws : List Wd} {b : Nat} (h : ws.length ≤ b) : erA E e (ws.drop b) = (4, E) := by rw [List.drop_eq_nil_of_le h]; rfl
theorem er_some {E : Nat} {e : Int} {ws : List Wd} {b : Nat} {y : Wd} (h : ws[b]? = some y) : erA E e (ws.drop b) = (e, y.2) := by
  obtain ⟨hl, rfl⟩ := List.getElem?_eq_some_iff.1 h
  rw [List.drop_eq_getElem_cons hl]
  rfl
theorem er_kp (E : Nat) (e : Int) (l : List Wd) : kp (tkF E l (0, 0)) e (tkW E l).2 = erA E e l := by
  cases l with
  | nil =>
    have h : kp ((0, 0) : Int × Nat) 4 E = (4, E) := kp_yes rfl 4 E
    show kp (kp (0, 0) 4 E) e E = _
    rw [h, kp_no n4]
    rfl
  | cons y r => show kp (0, 0) e y.2 = _; rw [kp_yes rfl]; rfl
theorem er_ne {E : Nat} {e : Int} {l : List Wd} (h : ¬ e = 0) : ¬ (erA E e l).1 = 0 := by cases l with | nil => exact n4 | cons y r => exact h
theorem tk_zero {E : Nat} {l : List Wd} (h : l ≠ []) : tkF E l (0, 0) = (0, 0) := by cases l with | nil => exact absurd rfl h | cons y r => rfl
theorem left_bad {α : Type} {res : Pl.R α} {x : α} {r : List Wd} {g : Int × Nat} (h : Left res x r (0, 0) g) (hg : ¬ g.1 = 0) : res = .error g := by
  rcases h with ⟨rfl, _⟩ | ⟨_, h⟩
  · exact absurd rfl hg
  · exact h
theorem left_ok {α : Type} {res : Pl.R α} {x : α} {r : List Wd} {g : Int × Nat} (h : Left res x r (0, 0) g) (hg : g = (0, 0)) : res = .ok (x, r) := by
  rcases h with ⟨_, h⟩ | ⟨h, _⟩
  · exact h
  · subst hg; exact absurd rfl h
theorem ne_of_code {E : Nat} {l : List Wd} (h : Cm.codeB (tkW E l).1 5 5 = true) : l ≠ [] := by rintro rfl; exact absurd h (by show ¬ Cm.codeB [] 5 5 = true; rw [code_nil]; decide)
theorem cd_ok {E : Nat} {o : Tx} {l : List Wd} (h : Cm.codeB (tkW E l).1 5 5 = true) (ho : ¬ (tkW E l).1 = o) : cdF E o l (0, 0) = (0, 0) := by rw [cd_yes _ h ho, tk_zero (ne_of_code h)]
theorem code_ne {t : Tx} (h : Cm.codeB t 5 5 = true) : ¬ t = [] := by rintro rfl; rw [code_nil] at h; cases h
def Kd (t : Tx) (k : Int) : Prop := (t = tBun ∧ k = 1) ∨ (t = tEit ∧ k = 2) ∨ (t = tUni ∧ k = 3)
/-- The second word is no code. -/
theorem row_a {E : Nat} {t0 : Tx} {p : Nat} {r : List Wd} {k : Int} (hk : Kd t0 k) (h : Cm.codeB (tkW E r).1 5 5 = false) : pRow E ((t0, p) :: r) = .error (erA E 9 r) := by
  have hc : cdF E [] r (0, 0) = erA E 9 r := by rw [cd_no1 _ h, er_kp]
  have hn : ¬ (erA E 9 r).1 = 0 := er_ne (by decide)
  rcases hk with ⟨rfl, -⟩ | ⟨rfl, -⟩ | ⟨rfl, -⟩
  · have e : buF E r (0, 0) = erA E 9 r := by unfold buF prF; rw [hc, cdF_no hn, anF_no hn]
    have hL := bundle_left E r (0, 0) rfl p
    rw [e] at hL
    exact left_bad hL hn
  · have e : prF E r (0, 0) = erA E 9 r := by unfold prF; rw [hc, cdF_no hn]
    have hL := pair_left E r (0, 0) rfl p
    rw [e] at hL
    exact left_bad hL hn
  · have e : unF E r (0, 0) = erA E 9 r := by unfold unF; rw [hc, nmF_no hn]
    have hL := units_left E r (0, 0) rfl p
    rw [e] at hL
    exact left_bad hL hn
theorem row_u {E : Nat} {p : Nat} {r : List Wd} (h1 : Cm.codeB (tkW E r).1 5 5 = true) (h : ¬ (Nu.riE (tkW E r.tail).1 4 = 0 ∧ ¬ Nu.riV (tkW E r.tail).1 4 = 0)) : pRow E ((tUni, p) :: r) = .error (erA E 4 r.tail) := by
  have hn : ¬ (erA E 4 r.tail).1 = 0 := er_ne (by decide)
  have e : unF E r (0, 0) = erA E 4 r.tail := by
    unfold unF
    rw [cd_ok h1 (code_ne h1)]
    by_cases h2 : Nu.riE (tkW E r.tail).1 4 = 0
    · rw [nm_no2 _ (Classical.byContradiction fun h3 => h ⟨h2, h3⟩), er_kp]
    · rw [nm_no1 _ h2, er_kp]
  have hL := units_left E r (0, 0) rfl p
  rw [e] at hL
  exact left_bad hL hn
theorem row_uok {E : Nat} {p : Nat} {r : List Wd} (h1 : Cm.codeB (tkW E r).1 5 5 = true) (h2 : Nu.riE (tkW E r.tail).1 4 = 0) (h3 : ¬ Nu.riV (tkW E r.tail).1 4 = 0) : pRow E ((tUni, p) :: r) = .ok (⟨3, (tkW E r).1, [], false, Nu.riV (tkW E r.tail).1 4⟩, r.tail.tail) ∧ r.tail ≠ [] := by
  have hne : r.tail ≠ [] := fun e => by rw [e] at h2; exact absurd h2 (by show ¬ Nu.riE [] 4 = 0; decide +kernel)
  have e : unF E r (0, 0) = (0, 0) := by unfold unF; rw [cd_ok h1 (code_ne h1), nm_yes _ h2 h3, tk_zero hne]
  exact ⟨left_ok (units_left E r (0, 0) rfl p) e, hne⟩
theorem row_b {E : Nat} {t0 : Tx} {p : Nat} {r : List Wd} (hk : t0 = tBun ∨ t0 = tEit) (h1 : Cm.codeB (tkW E r).1 5 5 = true) (h : ¬ (Cm.codeB (tkW E r.tail).1 5 5 = true ∧ ¬ (tkW E r.tail).1 = (tkW E r).1)) : pRow E ((t0, p) :: r) = .error (erA E 9 r.tail) := by
  have hn : ¬ (erA E 9 r.tail).1 = 0 := er_ne (by decide)
  have e : prF E r (0, 0) = erA E 9 r.tail := by
    unfold prF
    rw [cd_ok h1 (code_ne h1)]
    cases h2 : Cm.codeB (tkW E r.tail).1 5 5 with
    | false => rw [cd_no1 _ h2, er_kp]
    | true => rw [cd_no2 _ (Classical.byContradiction fun h3 => h ⟨h2, h3⟩), er_kp]
  rcases hk with rfl | rfl
  · have e2 : buF E r (0, 0) = erA E 9 r.tail := by unfold buF; rw [e, anF_no hn]
    have hL := bundle_left E r (0, 0) rfl p
    rw [e2] at hL
    exact left_bad hL hn
  · have hL := pair_left E r (0, 0) rfl p
    rw [e] at hL
    exact left_bad hL hn
theorem row_eok {E : Nat} {p : Nat} {r : List Wd} (h1 : Cm.codeB (tkW E r).1 5 5 = true) (h2 : Cm.codeB (tkW E r.tail).1 5 5 = true) (h3 : ¬ (tkW E r.tail).1 = (tkW E r).1) : pRow E ((tEit, p) :: r) = .ok (⟨2, (tkW E r).1, (tkW E r.tail).1, false, 0⟩, r.tail.tail) ∧ r.tail ≠ [] := by
  have e : prF E r (0, 0) = (0, 0) := by unfold prF; rw [cd_ok h1 (code_ne h1), cd_ok h2 h3]
  exact ⟨left_ok (pair_left E r (0, 0) rfl p) e, ne_of_code h2⟩
theorem row_t {E : Nat} {p : Nat} {r : List Wd} (h1 : Cm.codeB (tkW E r).1 5 5 = true) (h2 : Cm.codeB (tkW E r.tail).1 5 5 = true) (h3 : ¬ (tkW E r.tail).1 = (tkW E r).1) (h4 : ¬ (tkW E r.tail.tail).1 = Pl.tYes) (h5 : ¬ (tkW E r.tail.tail).1 = Pl.tNo) : pRow E ((tBun, p) :: r) = .error (erA E 4 r.tail.tail) := by
  have e : buF E r (0, 0) = erA E 4 r.tail.tail := by unfold buF prF; rw [cd_ok h1 (code_ne h1), cd_ok h2 h3, an_no _ h4 h5, er_kp]
  have hL := bundle_left E r (0, 0) rfl p
  rw [e] at hL
  exact left_bad hL (er_ne (by decide))
theorem row_tok {E : Nat} {p : Nat} {r : List Wd} (h1 : Cm.codeB (tkW E r).1 5 5 = true) (h2 : Cm.codeB (tkW E r.tail).1 5 5 = true) (h3 : ¬ (tkW E r.tail).1 = (tkW E r).1) (h4 : (tkW E r.tail.tail).1 = Pl.tYes ∨ (tkW E r.tail.tail).1 = Pl.tNo) : pRow E ((tBun, p) :: r) = .ok (⟨1, (tkW E r).1, (tkW E r.tail).1, decide ((tkW E r.tail.tail).1 = Pl.tYes), 0⟩, r.tail.tail.tail) ∧ r.tail.tail ≠ [] := by
  have hne : r.tail.tail ≠ [] := fun e => by rw [e] at h4; exact absurd h4 (by show ¬ (([] : Tx) = Pl.tYes ∨ ([] : Tx) = Pl.tNo); decide)
  have e : buF E r (0, 0) = (0, 0) := by unfold buF prF; rw [cd_ok h1 (code_ne h1), cd_ok h2 h3, an_yes _ h4, tk_zero hne]
  exact ⟨left_ok (bundle_left E r (0, 0) rfl p) e, hne⟩
/-- What a row is told to be, against what the words are. -/
def RelR (E : Nat) (ws : List Wd) (i : Nat) (x : Ed) (n bad e : Int) : Prop :=
  (bad = -1 ∧ ∃ m : Nat, n = (m : Nat) ∧ 3 ≤ m ∧ m ≤ 4 ∧ i + m ≤ ws.length ∧ pRow E (ws.drop i) = .ok (x, ws.drop (i + m))) ∨ (∃ b : Nat, bad = (b : Nat) ∧ b ≤ i + 3 ∧ pRow E (ws.drop i) = .error (erA E e (ws.drop b)))
def RowV (E : Nat) (ws : List Wd) (i : Nat) (r : Ending) : Prop := ∃ (x : Ed) (n bad e : Int), r = .returned (.tuple #[edv x, .int .i64 n, .int .i64 bad, .int .i64 e]) ∧ RelR E ws i x n bad e
theorem drop_tail (ws : List Wd) (i : Nat) : (ws.drop i).tail = ws.drop (i + 1) := by rw [List.tail_drop]
theorem wt_tk (E : Nat) (ws : List Wd) (j : Nat) : (tkW E (ws.drop j)).1 = wt ws j := tk_any E _
/-- A row's leaves, by the words of the text. -/
theorem leaf_0 {E : Nat} {ws : List Wd} {i : Nat} (hi : i < ws.length) (x : Ed) (h1 : ¬ wt ws i = tBun) (h2 : ¬ wt ws i = tEit) (h3 : ¬ wt ws i = tUni) : RelR E ws i x 0 (i : Nat) 4 := by
  refine Or.inr ⟨i, rfl, by omega, ?_⟩
  have e := wt_some (List.getElem?_eq_getElem hi)
  rw [er_some (List.getElem?_eq_getElem hi), List.drop_eq_getElem_cons hi]
  obtain ⟨⟨t, p⟩, hy⟩ : ∃ y, ws[i] = y := ⟨_, rfl⟩
  rw [hy] at e ⊢
  have e' : wt ws i = t := e
  rw [e'] at h1 h2 h3
  exact row_none E h1 h2 h3 _ _
theorem cons_of {ws : List Wd} {i : Nat} (hi : i < ws.length) : ∃ p, ws.drop i = (wt ws i, p) :: ws.drop (i + 1) := by
  refine ⟨ws[i].2, ?_⟩
  rw [List.drop_eq_getElem_cons hi, wt_some (List.getElem?_eq_getElem hi)]
theorem leaf_1 {E : Nat} {ws : List Wd} {i : Nat} {k : Int} (hi : i < ws.length) (x : Ed) (hk : Kd (wt ws i) k) (h : Cm.codeB (wt ws (i + 1)) 5 5 = false) : RelR E ws i x 0 ((i : Int) + 1) 9 := by
  obtain ⟨p, hp⟩ := cons_of hi
  exact Or.inr ⟨i + 1, by simp, by omega, by rw [hp]; exact row_a hk (by rw [wt_tk]; exact h)⟩
theorem leaf_u {E : Nat} {ws : List Wd} {i : Nat} (hi : i < ws.length) (x : Ed) (hk : wt ws i = tUni) (h1 : Cm.codeB (wt ws (i + 1)) 5 5 = true) (h : ¬ (Nu.riE (wt ws (i + 2)) 4 = 0 ∧ ¬ Nu.riV (wt ws (i + 2)) 4 = 0)) : RelR E ws i x 0 ((i : Int) + 2) 4 := by
  obtain ⟨p, hp⟩ := cons_of hi
  refine Or.inr ⟨i + 2, by simp, by omega, ?_⟩
  rw [hp, hk]
  have := row_u (E := E) (p := p) (r := ws.drop (i + 1)) (by rw [wt_tk]; exact h1) (by rw [drop_tail, wt_tk]; exact h)
  rw [drop_tail] at this
  exact this
theorem len_of {ws : List Wd} {j : Nat} (h : ws.drop j ≠ []) : j < ws.length := Nat.lt_of_not_le fun hh => h (List.drop_eq_nil_of_le hh)
theorem leaf_uok {E : Nat} {ws : List Wd} {i : Nat} (hi : i < ws.length) (hk : wt ws i = tUni) (h1 : Cm.codeB (wt ws (i + 1)) 5 5 = true) (h2 : Nu.riE (wt ws (i + 2)) 4 = 0) (h3 : ¬ Nu.riV (wt ws (i + 2)) 4 = 0) : RelR E ws i ⟨3, wt ws (i + 1), [], false, Nu.riV (wt ws (i + 2)) 4⟩ 3 (-1) 0 := by
  obtain ⟨p, hp⟩ := cons_of hi
  obtain ⟨a, b⟩ := row_uok (E := E) (p := p) (r := ws.drop (i + 1)) (by rw [wt_tk]; exact h1) (by rw [drop_tail, wt_tk]; exact h2) (by rw [drop_tail, wt_tk]; exact h3)
  rw [drop_tail] at b
  have := len_of b
  refine Or.inl ⟨rfl, 3, rfl, by omega, by omega, by omega, ?_⟩
  rw [hp, hk, a, drop_tail, drop_tail, wt_tk, wt_tk]
theorem leaf_b {E : Nat} {ws : List Wd} {i : Nat} (hi : i < ws.length) (x : Ed) (hk : wt ws i = tBun ∨ wt ws i = tEit) (h1 : Cm.codeB (wt ws (i + 1)) 5 5 = true) (h : ¬ (Cm.codeB (wt ws (i + 2)) 5 5 = true ∧ ¬ wt ws (i + 2) = wt ws (i + 1))) : RelR E ws i x 0 ((i : Int) + 2) 9 := by
  obtain ⟨p, hp⟩ := cons_of hi
  refine Or.inr ⟨i + 2, by simp, by omega, ?_⟩
  rw [hp]
  have := row_b (E := E) (p := p) (r := ws.drop (i + 1)) hk (by rw [wt_tk]; exact h1) (by rw [drop_tail, wt_tk, wt_tk]; exact h)
  rw [drop_tail] at this
  exact this
theorem leaf_eok {E : Nat} {ws : List Wd} {i : Nat} (hi : i < ws.length) (hk : wt ws i = tEit) (h1 : Cm.codeB (wt ws (i + 1)) 5 5 = true) (h2 : Cm.codeB (wt ws (i + 2)) 5 5 = true) (h3 : ¬ wt ws (i + 2) = wt ws (i + 1)) : RelR E ws i ⟨2, wt ws (i + 1), wt ws (i + 2), false, 0⟩ 3 (-1) 0 := by
  obtain ⟨p, hp⟩ := cons_of hi
  obtain ⟨a, b⟩ := row_eok (E := E) (p := p) (r := ws.drop (i + 1)) (by rw [wt_tk]; exact h1) (by rw [drop_tail, wt_tk]; exact h2) (by rw [drop_tail, wt_tk, wt_tk]; exact h3)
  rw [drop_tail] at b
  have := len_of b
  refine Or.inl ⟨rfl, 3, rfl, by omega, by omega, by omega, ?_⟩
  rw [hp, hk, a, drop_tail, drop_tail, wt_tk, wt_tk]
theorem leaf_t {E : Nat} {ws : List Wd} {i : Nat} (hi : i < ws.length) (x : Ed) (hk : wt ws i = tBun) (h1 : Cm.codeB (wt ws (i + 1)) 5 5 = true) (h2 : Cm.codeB (wt ws (i + 2)) 5 5 = true) (h3 : ¬ wt ws (i + 2) = wt ws (i + 1)) (h4 : ¬ wt ws (i + 3) = Pl.tYes) (h5 : ¬ wt ws (i + 3) = Pl.tNo) : RelR E ws i x 0 ((i : Int) + 3) 4 := by
  obtain ⟨p, hp⟩ := cons_of hi
  refine Or.inr ⟨i + 3, by simp, by omega, ?_⟩
  rw [hp, hk]
  have := row_t (E := E) (p := p) (r := ws.drop (i + 1)) (by rw [wt_tk]; exact h1) (by rw [drop_tail, wt_tk]; exact h2) (by rw [drop_tail, wt_tk, wt_tk]; exact h3) (by rw [drop_tail, drop_tail, wt_tk]; exact h4) (by rw [drop_tail, drop_tail, wt_tk]; exact h5)
  rw [drop_tail, drop_tail] at this
  exact this
theorem leaf_tok {E : Nat} {ws : List Wd} {i : Nat} (hi : i < ws.length) (hk : wt ws i = tBun) (h1 : Cm.codeB (wt ws (i + 1)) 5 5 = true) (h2 : Cm.codeB (wt ws (i + 2)) 5 5 = true) (h3 : ¬ wt ws (i + 2) = wt ws (i + 1)) (y : Bool) (h4 : (wt ws (i + 3) = Pl.tYes ∧ y = true) ∨ (wt ws (i + 3) = Pl.tNo ∧ y = false)) : RelR E ws i ⟨1, wt ws (i + 1), wt ws (i + 2), y, 0⟩ 4 (-1) 0 := by
  obtain ⟨p, hp⟩ := cons_of hi
  have hy : y = decide (wt ws (i + 3) = Pl.tYes) := by
    rcases h4 with ⟨a, rfl⟩ | ⟨a, rfl⟩
    · rw [a]; rfl
    · rw [a]; rfl
  obtain ⟨a, b⟩ := row_tok (E := E) (p := p) (r := ws.drop (i + 1)) (by rw [wt_tk]; exact h1) (by rw [drop_tail, wt_tk]; exact h2) (by rw [drop_tail, wt_tk, wt_tk]; exact h3) (by rw [drop_tail, drop_tail, wt_tk]; exact h4.imp And.left And.left)
  rw [drop_tail, drop_tail] at b
  have := len_of b
  refine Or.inl ⟨rfl, 4, rfl, by omega, by omega, by omega, ?_⟩
  rw [hp, hk, a, drop_tail, drop_tail, drop_tail, wt_tk, wt_tk, hy]
  congr 3
  rw [wt_tk]

/-! ### The functions -/
theorem word_any (ws : List Wd) (v : Value) (j : Nat) (w : World) (h : WdsAt All w v ws) : Calls Tryd.prog 51 #[v, .int .i64 (j : Nat)] w fun e w' => e = .returned (.string (mk (wt ws j))) ∧ w' = w := by
  have H := Lib.hid h
  obtain ⟨a, c, rfl, -, -⟩ := WdsAt.form h
  by_cases hj : ws.length ≤ j
  · have hjz : (ws.length : Int) ≤ (j : Int) := by omega
    rw [wt_none hj]
    clear h hj
    go_enter Tryd.func51, Tryd.ntmps51
    go_wp2
    go_ret
    exact ⟨rfl, rfl⟩
  · have hjz : ¬ (ws.length : Int) ≤ (j : Int) := by omega
    have hjl : (j : Int) < (ws.length : Int) := by omega
    obtain ⟨b, o, rfl, -, hx, c0, c1⟩ := WdsAt.get h j (by omega)
    rw [wt_some hx]
    clear h hx
    generalize ws[j] = y at *
    clear hj
    go_enter Tryd.func51, Tryd.ntmps51
    go_wp2
    go_ret
    exact ⟨rfl, rfl⟩
def kindI (t : Tx) : Int := if t = tBun then 1 else if t = tEit then 2 else if t = tUni then 3 else 0
theorem kind_any (t : Tx) (w : World) : Calls Tryd.prog 50 #[.string (mk t)] w fun e w' => e = .returned (.int .i64 (kindI t)) ∧ w' = w := by
  unfold kindI
  by_cases h1 : t = tBun
  · rw [if_pos h1]
    have q1 : ((mk t).toList == [98, 117, 110, 100, 108, 101]) = true := lit_t h1
    clear h1
    go_enter Tryd.func50, Tryd.ntmps50
    go_wp2
    go_ret
    exact ⟨rfl, rfl⟩
  rw [if_neg h1]
  have q1 : ((mk t).toList == [98, 117, 110, 100, 108, 101]) = false := lit_f h1
  by_cases h2 : t = tEit
  · rw [if_pos h2]
    have q2 : ((mk t).toList == [101, 105, 116, 104, 101, 114]) = true := lit_t h2
    clear h1 h2
    go_enter Tryd.func50, Tryd.ntmps50
    go_wp2
    go_ret
    exact ⟨rfl, rfl⟩
  rw [if_neg h2]
  have q2 : ((mk t).toList == [101, 105, 116, 104, 101, 114]) = false := lit_f h2
  by_cases h3 : t = tUni
  · rw [if_pos h3]
    have q3 : ((mk t).toList == [117, 110, 105, 116, 115]) = true := lit_t h3
    clear h1 h2 h3
    go_enter Tryd.func50, Tryd.ntmps50
    go_wp2
    go_ret
    exact ⟨rfl, rfl⟩
  rw [if_neg h3]
  have q3 : ((mk t).toList == [117, 110, 105, 116, 115]) = false := lit_f h3
  clear h1 h2 h3
  go_enter Tryd.func50, Tryd.ntmps50
  go_wp2
  go_ret
  exact ⟨rfl, rfl⟩
theorem wt_len {ws : List Wd} (h : Wb ws) (j : Nat) : (wt ws j).length ≤ 65536 := by
  rcases Nat.lt_or_ge j ws.length with hj | hj
  · rw [wt_some (List.getElem?_eq_getElem hj)]; exact h.1 _ (List.getElem_mem hj)
  · rw [wt_none hj]; simp
end Go.Proofs.YtgloihilnbjmeaaDoor.Ex
end
