/-
  Words of a text, over plain lists of bytes: what they are, how they go on at the text's end and across a seam.
-/
import Derived.Test.YtdppelkfcnbgbaaQSpec
namespace Go.Proofs.Ytdppelkfcnbgbaa.Wo

abbrev Wd := Tx × Nat
/-- A byte's kind: 0 none, 1 blank, 2 a bracket, 3 a word's. -/
def kd (c : UInt8) : Nat := if c = 32 ∨ c = 10 then 1 else if c = 40 ∨ c = 41 then 2 else if c = 46 ∨ (48 ≤ c ∧ c ≤ 57) ∨ (65 ≤ c ∧ c ≤ 90) ∨ (97 ≤ c ∧ c ≤ 122) then 3 else 0
def inn (c : UInt8) : Bool := kd c == 3
def headI : Tx → Bool
  | [] => false
  | c :: _ => inn c
def lastI : Tx → Bool
  | [] => false
  | [c] => inn c
  | _ :: d :: t => lastI (d :: t)
/-- A byte ahead of words: it begins the first one, or is one of its own. -/
def glue (c : UInt8) (p : Nat) : List Wd → List Wd
  | (x, _) :: r => (c :: x, p) :: r
  | [] => [([c], p)]
def wds : Nat → Tx → List Wd
  | _, [] => []
  | p, c :: t => if kd c = 2 then ([c], p) :: wds (p + 1) t else if kd c = 3 then (if headI t then glue c p (wds (p + 1) t) else ([c], p) :: wds (p + 1) t) else wds (p + 1) t
theorem wds_cons (p : Nat) (c : UInt8) (t : Tx) : wds p (c :: t) = if kd c = 2 then ([c], p) :: wds (p + 1) t else if kd c = 3 then (if headI t then glue c p (wds (p + 1) t) else ([c], p) :: wds (p + 1) t) else wds (p + 1) t := rfl
def fb : Nat → Tx → Option Nat
  | _, [] => none
  | p, c :: t => if kd c = 0 then some p else fb (p + 1) t
def good (l : Tx) : Bool := l.all fun c => kd c != 0
def spE (l : Tx) : Int := if 65536 < l.length then 10 else if good l then 0 else 4
def spA (l : Tx) : Nat := if 65536 < l.length then 0 else (fb 0 l).getD 0
def spV (l : Tx) : List Wd := if 65536 < l.length then [] else if good l then wds 0 l else []
def txs (l : List Wd) : List Tx := l.map (·.1)

theorem fb_none : ∀ (l : Tx) (p : Nat), fb p l = none ↔ good l = true
  | [], p => by simp [fb, good]
  | c :: t, p => by
    have := fb_none t (p + 1)
    by_cases h : kd c = 0
    · simp [fb, good, h]
    · rw [fb, if_neg h, this]; simp [good, h]
theorem fb_at : ∀ (x : Tx) (p : Nat) (c : UInt8) (y : Tx), good x = true → kd c = 0 → fb p (x ++ c :: y) = some (p + x.length)
  | [], p, c, y, _, h => by simp [fb, h]
  | d :: t, p, c, y, hg, h => by
    simp only [good, List.all_cons, Bool.and_eq_true, bne_iff_ne] at hg
    rw [List.cons_append, fb, if_neg hg.1, fb_at t (p + 1) c y hg.2 h, List.length_cons]
    congr 1; omega
theorem good_app (x y : Tx) : good (x ++ y) = (good x && good y) := by simp [good]
theorem good_not {x : Tx} {c : UInt8} {y : Tx} (h : kd c = 0) : good (x ++ c :: y) = false := by simp [good, h]

theorem glue_pos (c : UInt8) (p : Nat) (l : List Wd) : ∃ x r, glue c p l = (x, p) :: r := by
  cases l with
  | nil => exact ⟨_, _, rfl⟩
  | cons a r => exact ⟨_, _, rfl⟩
theorem wds_head {t : Tx} (h : headI t = true) (p : Nat) : ∃ x r, wds p t = (x, p) :: r := by
  cases t with
  | nil => cases h
  | cons c t =>
    have hc : kd c = 3 := by simpa [headI, inn] using h
    rw [wds, if_neg (by omega), if_pos hc]
    split
    · exact glue_pos _ _ _
    · exact ⟨_, _, rfl⟩
theorem headI_app {t y : Tx} (h : t ≠ []) : headI (t ++ y) = headI t := by
  cases t with
  | nil => exact absurd rfl h
  | cons c t => rfl
theorem lastI_cons {c : UInt8} {t : Tx} (h : t ≠ []) : lastI (c :: t) = lastI t := by
  cases t with
  | nil => exact absurd rfl h
  | cons d t => rfl
theorem wds_app : ∀ (x y : Tx) (p : Nat), lastI x = false ∨ headI y = false → wds p (x ++ y) = wds p x ++ wds (p + x.length) y
  | [], y, p, _ => by simp [wds]
  | [c], y, p, h => by
    have h' : kd c = 3 → headI y = false := fun e => by
      rcases h with h | h
      · simp [lastI, inn, e] at h
      · exact h
    simp only [List.singleton_append, List.length_singleton, wds]
    by_cases h2 : kd c = 2
    · simp [h2]
    by_cases h3 : kd c = 3
    · have hn : headI ([] : Tx) = false := rfl
      simp [h3, h' h3, hn]
    · simp [h2, h3]
  | c :: d :: t, y, p, h => by
    have ih := wds_app (d :: t) y (p + 1) (h.imp_left fun e => by rw [← lastI_cons (c := c) (by simp)]; exact e)
    have hl : p + (c :: d :: t).length = p + 1 + (d :: t).length := by simp only [List.length_cons]; omega
    rw [List.cons_append, wds, wds, headI_app (by simp), ih, hl]
    by_cases h2 : kd c = 2
    · simp [h2]
    by_cases h3 : kd c = 3
    · cases hh : headI (d :: t)
      · simp [h3]
      · obtain ⟨a, r, e⟩ := wds_head hh (p + 1)
        rw [e]
        simp [h3, glue]
    · simp [h2, h3]
def allI (x : Tx) : Bool := x.all inn
theorem wds_run : ∀ (x : Tx) (p : Nat), x ≠ [] → allI x = true → wds p x = [(x, p)]
  | [], _, h, _ => absurd rfl h
  | [c], p, _, h => by
    have hc : kd c = 3 := by simpa [allI, inn] using h
    simp [wds, hc, headI]
  | c :: d :: t, p, _, h => by
    have h2 : inn c = true ∧ allI (d :: t) = true := by simpa [allI] using h
    have hc : kd c = 3 := by simpa [inn] using h2.1
    have hd : headI (d :: t) = true := by have := h2.2; simp only [allI, List.all_cons, Bool.and_eq_true] at this; exact this.1
    rw [wds, if_neg (by omega), if_pos hc, if_pos hd, wds_run (d :: t) (p + 1) (by simp) h2.2]
    rfl
theorem allI_head {x : Tx} (h : x ≠ []) (ha : allI x = true) : headI x = true := by
  cases x with
  | nil => exact absurd rfl h
  | cons c t => simp only [allI, List.all_cons, Bool.and_eq_true] at ha; exact ha.1
theorem allI_last : ∀ {x : Tx}, x ≠ [] → allI x = true → lastI x = true
  | [], h, _ => absurd rfl h
  | [c], _, ha => by simpa [allI, lastI] using ha
  | c :: d :: t, _, ha => by
    rw [lastI_cons (by simp)]
    exact allI_last (by simp) (by simp only [allI, List.all_cons, Bool.and_eq_true] at ha ⊢; exact ha.2)
theorem allI_good {x : Tx} (ha : allI x = true) : good x = true := by
  simp only [allI, good, List.all_eq_true] at ha ⊢
  intro c hc
  have := ha c hc
  simp only [inn, beq_iff_eq] at this
  simp [this]
theorem lastI_app {x y : Tx} (h : y ≠ []) : lastI (x ++ y) = lastI y := by
  induction x with
  | nil => rfl
  | cons c t ih => rw [List.cons_append, lastI_cons (by simp [h]), ih]
/-- One byte more that goes on with the last word. -/
theorem wds_grow : ∀ (x : Tx) (p : Nat) (c : UInt8), lastI x = true → kd c = 3 → ∃ i t q, wds p x = i ++ [(t, q)] ∧ wds p (x ++ [c]) = i ++ [(t ++ [c], q)] ∧ p ≤ q ∧ q < p + x.length ∧ x.drop (q - p) = t
  | [], p, c, h, _ => by cases h
  | [d], p, c, h, hc => by
    have hd : kd d = 3 := by simpa [lastI, inn] using h
    exact ⟨[], [d], p, by simp [wds, hd, headI], by simp [wds, hd, hc, headI, inn, glue], Nat.le_refl _, by simp, by simp⟩
  | d :: e :: r, p, c, h, hc => by
    obtain ⟨i, t, q, h1, h2, h3, h4, h5⟩ := wds_grow (e :: r) (p + 1) c (by rw [← lastI_cons (c := d) (by simp)]; exact h) hc
    have hq : q - p = q - (p + 1) + 1 := by omega
    have hlen : (d :: e :: r).length = (e :: r).length + 1 := rfl
    have h5' : (d :: e :: r).drop (q - p) = t := by rw [hq, List.drop_succ_cons]; exact h5
    have hh2 : headI (e :: r ++ [c]) = headI (e :: r) := headI_app (by simp)
    rw [List.cons_append, wds_cons p d (e :: r), wds_cons p d (e :: r ++ [c]), hh2, h1, h2]
    by_cases k2 : kd d = 2
    · exact ⟨([d], p) :: i, t, q, by simp [k2], by simp [k2], by omega, by omega, h5'⟩
    by_cases k3 : kd d = 3
    · cases hh : headI (e :: r)
      · exact ⟨([d], p) :: i, t, q, by simp [k3], by simp [k3], by omega, by omega, h5'⟩
      · obtain ⟨a, r', e1⟩ := wds_head hh (p + 1)
        cases i with
        | nil =>
          have e2 : q = p + 1 := by rw [h1] at e1; simp at e1; exact e1.1.2
          subst e2
          exact ⟨[], d :: t, p, by simp [k3, glue], by simp [k3, glue], Nat.le_refl _, by omega, by simp at h5 ⊢; exact h5⟩
        | cons w i => exact ⟨(d :: w.1, p) :: i, t, q, by simp [k3, glue], by simp [k3, glue], by omega, by omega, h5'⟩
    · exact ⟨i, t, q, by simp [k2, k3], by simp [k2, k3], by omega, by omega, h5'⟩
theorem wds_one (p : Nat) (c : UInt8) : wds p [c] = if kd c = 2 ∨ kd c = 3 then [([c], p)] else [] := by
  by_cases h2 : kd c = 2
  · simp [wds, h2]
  by_cases h3 : kd c = 3
  · simp [wds, h3, headI]
  · simp [wds, h2, h3]
theorem wds_len : ∀ (l : Tx) (p : Nat), (wds p l).length ≤ l.length
  | [], p => by simp [wds]
  | c :: t, p => by
    have ih := wds_len t (p + 1)
    rw [wds]
    split
    · simp; omega
    split
    · split
      · cases h : wds (p + 1) t with
        | nil => simp [glue]
        | cons a r => rw [h] at ih; simp [glue] at ih ⊢; omega
      · simp; omega
    · simp; omega
theorem spV_len (l : Tx) : (spV l).length ≤ 65536 := by
  unfold spV
  split
  · simp
  split
  · have := wds_len l 0; omega
  · simp
end Go.Proofs.Ytdppelkfcnbgbaa.Wo
