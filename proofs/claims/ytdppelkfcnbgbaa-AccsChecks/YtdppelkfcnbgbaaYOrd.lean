/-
  The order of rows as one number; where a row stands, or would stand, and what is put there.
-/
import Derived.Test.YtdppelkfcnbgbaaYMath
set_option linter.unusedSimpArgs false
set_option linter.unusedVariables false
namespace Go.Proofs.Ytdppelkfcnbgbaa.Ac

def cmpT (a b : Tx) : Int := if a = b then 0 else if lessT a b = true then -1 else 1
def cmpZ (a b : Int) : Int := if a = b then 0 else if a < b then -1 else 1
def rankV (a : Row) : Int := if a.fam = true then 1 else 0
def orI (a b : Int) : Int := if a = 0 then b else a
def ordV (a b : Row) : Int := orI (cmpZ a.year b.year) (orI (cmpZ (rankV a) (rankV b)) (cmpT a.who b.who))
theorem cmpT_self (a : Tx) : cmpT a a = 0 := if_pos rfl
theorem cmpZ_self (a : Int) : cmpZ a a = 0 := if_pos rfl
theorem cmpT_nz {a b : Tx} (h : a ≠ b) : cmpT a b ≠ 0 := by unfold cmpT; rw [if_neg h]; split <;> decide
theorem cmpZ_nz {a b : Int} (h : a ≠ b) : cmpZ a b ≠ 0 := by unfold cmpZ; rw [if_neg h]; split <;> decide
theorem orI_z (b : Int) : orI 0 b = b := rfl
theorem orI_nz {a : Int} (b : Int) (h : a ≠ 0) : orI a b = a := if_neg h
theorem rank_ne {a b : Row} (h : a.fam ≠ b.fam) : rankV a ≠ rankV b := by
  unfold rankV
  cases e : a.fam <;> cases e2 : b.fam <;> simp_all
theorem rank_eq {a b : Row} (h : a.fam = b.fam) : rankV a = rankV b := by unfold rankV; rw [h]
theorem ord_neg (a b : Row) : ordV a b < 0 ↔ aheadB a b = true := by
  unfold ordV aheadB
  by_cases h1 : a.year = b.year
  · rw [if_pos h1, h1, cmpZ_self, orI_z]
    by_cases h2 : a.fam = b.fam
    · rw [if_pos h2, rank_eq h2, cmpZ_self, orI_z]
      unfold cmpT
      by_cases h3 : a.who = b.who
      · rw [if_pos h3, h3, less_irr]; simp
      · rw [if_neg h3]
        cases lessT a.who b.who <;> decide
    · rw [if_neg h2, orI_nz _ (cmpZ_nz (rank_ne h2))]
      unfold cmpZ
      rw [if_neg (rank_ne h2)]
      unfold rankV
      cases e : a.fam <;> cases e2 : b.fam <;> simp_all
  · rw [if_neg h1, orI_nz _ (cmpZ_nz h1)]
    unfold cmpZ
    rw [if_neg h1]
    by_cases h : a.year < b.year
    · rw [if_pos h]; simp [h]
    · rw [if_neg h]; simp [h]
theorem ord_zero (a b : Row) : ordV a b = 0 ↔ sameP a b := by
  unfold ordV sameP
  by_cases h1 : a.year = b.year
  · rw [h1, cmpZ_self, orI_z]
    by_cases h2 : a.fam = b.fam
    · rw [rank_eq h2, cmpZ_self, orI_z]
      by_cases h3 : a.who = b.who
      · rw [h3, cmpT_self]; simp [h2]
      · simp [cmpT_nz h3, h3]
    · rw [orI_nz _ (cmpZ_nz (rank_ne h2))]; simp [cmpZ_nz (rank_ne h2), h2]
  · rw [orI_nz _ (cmpZ_nz h1)]; simp [cmpZ_nz h1, h1]
theorem ord_ge (a b : Row) : decide (0 ≤ ordV a b) = !(aheadB a b) := by
  cases h : aheadB a b with
  | true => have := (ord_neg a b).2 h; simp; omega
  | false =>
    have : ¬ ordV a b < 0 := fun e => by rw [(ord_neg a b).1 e] at h; cases h
    simp; omega
theorem ord_bd (a b : Row) : ordV a b = -1 ∨ ordV a b = 0 ∨ ordV a b = 1 := by
  have c1 : ∀ x y : Tx, cmpT x y = -1 ∨ cmpT x y = 0 ∨ cmpT x y = 1 := fun x y => by unfold cmpT; split; simp; split <;> simp
  have c2 : ∀ x y : Int, cmpZ x y = -1 ∨ cmpZ x y = 0 ∨ cmpZ x y = 1 := fun x y => by unfold cmpZ; split; simp; split <;> simp
  have c3 : ∀ x y : Int, (x = -1 ∨ x = 0 ∨ x = 1) → (y = -1 ∨ y = 0 ∨ y = 1) → orI x y = -1 ∨ orI x y = 0 ∨ orI x y = 1 := fun x y h1 h2 => by unfold orI; split <;> assumption
  exact c3 _ _ (c2 _ _) (c3 _ _ (c2 _ _) (c1 _ _))

def Up (l : List Row) : Prop := l.Pairwise (fun a b => aheadB a b = true)
theorem Ok.up {l : List Row} (h : Ok l) : Up l := h.2
theorem up_at {l : List Row} (h : Up l) {i j : Nat} (hi : i < l.length) (hj : j < l.length) (hij : i < j) : aheadB l[i] l[j] = true := List.pairwise_iff_getElem.1 h i j hi hj hij
theorem ahead_mono {l : List Row} (hU : Up l) (k : Row) (h : Nat) (hh : h < l.length) (e : aheadB l[h] k = true) (t : Nat) (ht : t < l.length) (htl : t < h + 1) : aheadB l[t] k = true := by
  rcases Nat.lt_or_ge t h with c | c
  · exact ahead_trans (up_at hU ht hh c) e
  · have : t = h := by omega
    subst this; exact e
theorem behind_mono {l : List Row} (hU : Up l) (k : Row) (h : Nat) (hh : h < l.length) (e : aheadB l[h] k = false) (t : Nat) (ht : t < l.length) (htl : h ≤ t) : aheadB l[t] k = false := by
  rcases Nat.lt_or_ge h t with c | c
  · cases hv : aheadB l[t] k with
    | false => rfl
    | true =>
      have := ahead_trans (up_at hU hh ht c) hv
      rw [e] at this; cases this
  · have : t = h := by omega
    subst this; exact e

/-- i rows of l stand ahead of k; fb: one stands at its place. -/
def Stands (l : List Row) (k : Row) (i : Nat) (fb : Bool) : Prop := i ≤ l.length ∧ (∀ t (ht : t < l.length), t < i → aheadB l[t] k = true) ∧ (∀ t (ht : t < l.length), i ≤ t → aheadB l[t] k = false) ∧ (fb = true ↔ ∃ hi : i < l.length, sameP l[i] k)
theorem same_symm {a b : Row} (h : sameP a b) : sameP b a := ⟨h.1.symm, h.2.1.symm, h.2.2.symm⟩
/-- The row that is found is that one's. -/
theorem get_found {l : List Row} (hU : Up l) {w : Tx} {f : Bool} {y d o : Int} {i : Nat} (h : Stands l ⟨w, f, y, d, o⟩ i true) : ∃ hi : i < l.length, getV l w f y = l[i] := by
  obtain ⟨h0, h1, h2, h3⟩ := h
  obtain ⟨hi, hs⟩ := h3.1 rfl
  refine ⟨hi, ?_⟩
  obtain ⟨s1, s2, s3⟩ := hs
  simp only at s1 s2 s3
  have hm : ∀ (l : List Row), Up l → ∀ a ∈ l, hit w f y a = true → getV l w f y = a := by
    intro l
    induction l with
    | nil => intro _ a ha; simp at ha
    | cons x r ih =>
      intro hu a ha hh
      have hu2 := List.pairwise_cons.1 hu
      unfold getV
      rcases List.mem_cons.1 ha with rfl | ha
      · rw [if_pos hh]
      · rw [if_neg, ih hu2.2 a ha hh]
        intro e
        have q1 := (hit_iff _ _ _ _).1 hh
        have q2 := (hit_iff _ _ _ _).1 e
        have := hu2.1 a ha
        rw [ahead_irr ⟨q2.1.trans q1.1.symm, q2.2.1.trans q1.2.1.symm, q2.2.2.trans q1.2.2.symm⟩] at this
        cases this
  exact hm l hU _ (List.getElem_mem hi) ((hit_iff _ _ _ _).2 ⟨s1, s2, s3⟩)
theorem none_hit {l : List Row} {w : Tx} {f : Bool} {y d o : Int} {i : Nat} (hU : Up l) (h : Stands l ⟨w, f, y, d, o⟩ i false) : ∀ a ∈ l, hit w f y a = false := by
  obtain ⟨h0, h1, h2, h3⟩ := h
  intro a ha
  cases hh : hit w f y a with
  | false => rfl
  | true =>
    exfalso
    obtain ⟨t, ht, rfl⟩ := List.getElem_of_mem ha
    have hs : sameP l[t] ⟨w, f, y, d, o⟩ := (hit_iff _ _ _ _).1 hh
    have hti : i ≤ t := by
      rcases Nat.lt_or_ge t i with c | c
      · have := h1 t ht c
        rw [ahead_irr hs] at this; cases this
      · exact c
    rcases Nat.lt_or_ge i t with c | c
    · have hi : i < l.length := by omega
      have e := up_at hU hi ht c
      rw [ahead_cong2 _ hs, h2 i hi (Nat.le_refl _)] at e; cases e
    · have : t = i := by omega
      subst this
      have := h3.2 ⟨ht, hs⟩
      cases this
theorem get_none {l : List Row} (hU : Up l) {w : Tx} {f : Bool} {y d o : Int} {i : Nat} (h : Stands l ⟨w, f, y, d, o⟩ i false) : getV l w f y = ⟨w, f, y, 0, 0⟩ := by
  have hn := none_hit hU h
  rcases get_in l w f y with k | ⟨k, _⟩
  · have := hn _ k
    rw [get_hit] at this; cases this
  · exact k
/-- What is put in: in the place of the row that stands there, or ahead of the first that is not ahead of it. -/
theorem put_ahead {a : Row} : ∀ (l : List Row) (i : Nat), i ≤ l.length → (∀ t (ht : t < l.length), t < i → aheadB l[t] a = true) → (∀ t (ht : t < l.length), i ≤ t → aheadB l[t] a = false) → put a l = l.take i ++ (match l.drop i with | [] => [a] | x :: xs => if aheadB a x = true then a :: x :: xs else a :: xs)
  | [], i, _, _, _ => by simp [put]
  | x :: xs, 0, _, h1, h2 => by
    have := h2 0 (by simp) (Nat.le_refl _)
    simp only [List.getElem_cons_zero] at this
    simp [put, this]
  | x :: xs, i + 1, hi, h1, h2 => by
    have e := h1 0 (by simp) (by omega)
    simp only [List.getElem_cons_zero] at e
    have ih := put_ahead xs i (by simpa using hi) (fun t ht hti => h1 (t + 1) (Nat.succ_lt_succ ht) (by omega)) (fun t ht hti => h2 (t + 1) (Nat.succ_lt_succ ht) (by omega))
    simp only [put, e, if_true, List.take_succ_cons, List.drop_succ_cons, List.cons_append, ih]
theorem put_found {l : List Row} {a : Row} {i : Nat} (h : Stands l a i true) : ∃ hi : i < l.length, put a l = l.set i a := by
  obtain ⟨h0, h1, h2, h3⟩ := h
  obtain ⟨hi, hs⟩ := h3.1 rfl
  refine ⟨hi, ?_⟩
  rw [put_ahead l i h0 h1 h2, List.drop_eq_getElem_cons hi]
  have e : aheadB a l[i] = false := ahead_irr (same_symm hs)
  simp only [e]
  rw [List.set_eq_take_append_cons_drop, if_pos hi]
  rfl
theorem put_none {l : List Row} {a : Row} {i : Nat} (h : Stands l a i false) : put a l = l.take i ++ a :: l.drop i := by
  obtain ⟨h0, h1, h2, h3⟩ := h
  rw [put_ahead l i h0 h1 h2]
  rcases Nat.lt_or_ge i l.length with hi | hi
  · rw [List.drop_eq_getElem_cons hi]
    have e : aheadB a l[i] = true := by
      rcases ahead_tri a l[i] with k | k | k
      · exact k
      · have := h3.2 ⟨hi, same_symm k⟩
        cases this
      · rw [h2 i hi (Nat.le_refl _)] at k; cases k
    simp only [e, if_true]
  · rw [List.drop_eq_nil_of_le hi]
end Go.Proofs.Ytdppelkfcnbgbaa.Ac
