/-
  Texts put together (merge.py): WMath, CMath, CSumMath, DMath.
-/
import Derived.Test.YtmoldgmfhcmceaaGreatDoorMp1
/-
  Words of a text, over plain lists of bytes: what they are, how they go on at the text's end and across a seam.
-/
section
namespace Go.Proofs.YtmoldgmfhcmceaaGreatDoor.Wo

abbrev Wd := Tx × Nat
/-- A byte's kind: 0 none, 1 blank, 2 a bracket, 3 a word's. -/
def kd (c : UInt8) : Nat := if c = 32 ∨ c = 10 then 1 else if c = 40 ∨ c = 41 then 2 else if c = 46 ∨ (48 ≤ c ∧ c ≤ 57) ∨ (65 ≤ c ∧ c ≤ 90) ∨ (97 ≤ c ∧ c ≤ 122) then 3 else 0
def inn (c : UInt8) : Bool := kd c == 3
def headI : Tx → Bool
  | [] => false
  | c :: _ => inn c
def lastI : Tx → Bool
  | [] => false
  | [c] => inn c
  | _ :: d :: t => lastI (d :: t)
/-- A byte ahead of words: it begins the first one, or is one of its own. -/
def glue (c : UInt8) (p : Nat) : List Wd → List Wd
  | (x, _) :: r => (c :: x, p) :: r
  | [] => [([c], p)]
def wds : Nat → Tx → List Wd
  | _, [] => []
  | p, c :: t => if kd c = 2 then ([c], p) :: wds (p + 1) t else if kd c = 3 then (if headI t then glue c p (wds (p + 1) t) else ([c], p) :: wds (p + 1) t) else wds (p + 1) t
theorem wds_cons (p : Nat) (c : UInt8) (t : Tx) : wds p (c :: t) = if kd c = 2 then ([c], p) :: wds (p + 1) t else if kd c = 3 then (if headI t then glue c p (wds (p + 1) t) else ([c], p) :: wds (p + 1) t) else wds (p + 1) t := rfl
def fb : Nat → Tx → Option Nat
  | _, [] => none
  | p, c :: t => if kd c = 0 then some p else fb (p + 1) t
def good (l : Tx) : Bool := l.all fun c => kd c != 0
def spE (l : Tx) : Int := if 65536 < l.length then 10 else if good l then 0 else 4
def spA (l : Tx) : Nat := if 65536 < l.length then 0 else (fb 0 l).getD 0
def spV (l : Tx) : List Wd := if 65536 < l.length then [] else if good l then wds 0 l else []
def txs (l : List Wd) : List Tx := l.map (·.1)

theorem fb_none : ∀ (l : Tx) (p : Nat), fb p l = none ↔ good l = true
  | [], p => by simp [fb, good]
  | c :: t, p => by
    have := fb_none t (p + 1)
    by_cases h : kd c = 0
    · simp [fb, good, h]
    · rw [fb, if_neg h, this]; simp [good, h]
theorem fb_at : ∀ (x : Tx) (p : Nat) (c : UInt8) (y : Tx), good x = true → kd c = 0 → fb p (x ++ c :: y) = some (p + x.length)
  | [], p, c, y, _, h => by simp [fb, h]
  | d :: t, p, c, y, hg, h => by
    simp only [good, List.all_cons, Bool.and_eq_true, bne_iff_ne] at hg
    rw [List.cons_append, fb, if_neg hg.1, fb_at t (p + 1) c y hg.2 h, List.length_cons]
    congr 1; omega
theorem good_app (x y : Tx) : good (x ++ y) = (good x && good y) := by simp [good]
theorem good_not {x : Tx} {c : UInt8} {y : Tx} (h : kd c = 0) : good (x ++ c :: y) = false := by simp [good, h]

theorem glue_pos (c : UInt8) (p : Nat) (l : List Wd) : ∃ x r, glue c p l = (x, p) :: r := by
  cases l with
  | nil => exact ⟨_, _, rfl⟩
  | cons a r => exact ⟨_, _, rfl⟩
theorem wds_head {t : Tx} (h : headI t = true) (p : Nat) : ∃ x r, wds p t = (x, p) :: r := by
  cases t with
  | nil => cases h
  | cons c t =>
    have hc : kd c = 3 := by simpa [headI, inn] using h
    rw [wds, if_neg (by omega), if_pos hc]
    split
    · exact glue_pos _ _ _
    · exact ⟨_, _, rfl⟩
theorem headI_app {t y : Tx} (h : t ≠ []) : headI (t ++ y) = headI t := by
  cases t with
  | nil => exact absurd rfl h
  | cons c t => rfl
theorem lastI_cons {c : UInt8} {t : Tx} (h : t ≠ []) : lastI (c :: t) = lastI t := by
  cases t with
  | nil => exact absurd rfl h
  | cons d t => rfl
theorem wds_app : ∀ (x y : Tx) (p : Nat), lastI x = false ∨ headI y = false → wds p (x ++ y) = wds p x ++ wds (p + x.length) y
  | [], y, p, _ => by simp [wds]
  | [c], y, p, h => by
    have h' : kd c = 3 → headI y = false := fun e => by
      rcases h with h | h
      · simp [lastI, inn, e] at h
      · exact h
    simp only [List.singleton_append, List.length_singleton, wds]
    by_cases h2 : kd c = 2
    · simp [h2]
    by_cases h3 : kd c = 3
    · have hn : headI ([] : Tx) = false := rfl
      simp [h3, h' h3, hn]
    · simp [h2, h3]
  | c :: d :: t, y, p, h => by
    have ih := wds_app (d :: t) y (p + 1) (h.imp_left fun e => by rw [← lastI_cons (c := c) (by simp)]; exact e)
    have hl : p + (c :: d :: t).length = p + 1 + (d :: t).length := by simp only [List.length_cons]; omega
    rw [List.cons_append, wds, wds, headI_app (by simp), ih, hl]
    by_cases h2 : kd c = 2
    · simp [h2]
    by_cases h3 : kd c = 3
    · cases hh : headI (d :: t)
      · simp [h3]
      · obtain ⟨a, r, e⟩ := wds_head hh (p + 1)
        rw [e]
        simp [h3, glue]
    · simp [h2, h3]
def allI (x : Tx) : Bool := x.all inn
theorem wds_run : ∀ (x : Tx) (p : Nat), x ≠ [] → allI x = true → wds p x = [(x, p)]
  | [], _, h, _ => absurd rfl h
  | [c], p, _, h => by
    have hc : kd c = 3 := by simpa [allI, inn] using h
    simp [wds, hc, headI]
  | c :: d :: t, p, _, h => by
    have h2 : inn c = true ∧ allI (d :: t) = true := by simpa [allI] using h
    have hc : kd c = 3 := by simpa [inn] using h2.1
    have hd : headI (d :: t) = true := by have := h2.2; simp only [allI, List.all_cons, Bool.and_eq_true] at this; exact this.1
    rw [wds, if_neg (by omega), if_pos hc, if_pos hd, wds_run (d :: t) (p + 1) (by simp) h2.2]
    rfl
theorem allI_head {x : Tx} (h : x ≠ []) (ha : allI x = true) : headI x = true := by
  cases x with
  | nil => exact absurd rfl h
  | cons c t => simp only [allI, List.all_cons, Bool.and_eq_true] at ha; exact ha.1
theorem allI_last : ∀ {x : Tx}, x ≠ [] → allI x = true → lastI x = true
  | [], h, _ => absurd rfl h
  | [c], _, ha => by simpa [allI, lastI] using ha
  | c :: d :: t, _, ha => by
    rw [lastI_cons (by simp)]
    exact allI_last (by simp) (by simp only [allI, List.all_cons, Bool.and_eq_true] at ha ⊢; exact ha.2)
theorem allI_good {x : Tx} (ha : allI x = true) : good x = true := by
  simp only [allI, good, List.all_eq_true] at ha ⊢
  intro c hc
  have := ha c hc
  simp only [inn, beq_iff_eq] at this
  simp [this]
theorem lastI_app {x y : Tx} (h : y ≠ []) : lastI (x ++ y) = lastI y := by
  induction x with
  | nil => rfl
  | cons c t ih => rw [List.cons_append, lastI_cons (by simp [h]), ih]
/-- One byte more that goes on with the last word. -/
theorem wds_grow : ∀ (x : Tx) (p : Nat) (c : UInt8), lastI x = true → kd c = 3 → ∃ i t q, wds p x = i ++ [(t, q)] ∧ wds p (x ++ [c]) = i ++ [(t ++ [c], q)] ∧ p ≤ q ∧ q < p + x.length ∧ x.drop (q - p) = t
  | [], p, c, h, _ => by cases h
  | [d], p, c, h, hc => by
    have hd : kd d = 3 := by simpa [lastI, inn] using h
    exact ⟨[], [d], p, by simp [wds, hd, headI], by simp [wds, hd, hc, headI, inn, glue], Nat.le_refl _, by simp, by simp⟩
  | d :: e :: r, p, c, h, hc => by
    obtain ⟨i, t, q, h1, h2, h3, h4, h5⟩ := wds_grow (e :: r) (p + 1) c (by rw [← lastI_cons (c := d) (by simp)]; exact h) hc
    have hq : q - p = q - (p + 1) + 1 := by omega
    have hlen : (d :: e :: r).length = (e :: r).length + 1 := rfl
    have h5' : (d :: e :: r).drop (q - p) = t := by rw [hq, List.drop_succ_cons]; exact h5
    have hh2 : headI (e :: r ++ [c]) = headI (e :: r) := headI_app (by simp)
    rw [List.cons_append, wds_cons p d (e :: r), wds_cons p d (e :: r ++ [c]), hh2, h1, h2]
    by_cases k2 : kd d = 2
    · exact ⟨([d], p) :: i, t, q, by simp [k2], by simp [k2], by omega, by omega, h5'⟩
    by_cases k3 : kd d = 3
    · cases hh : headI (e :: r)
      · exact ⟨([d], p) :: i, t, q, by simp [k3], by simp [k3], by omega, by omega, h5'⟩
      · obtain ⟨a, r', e1⟩ := wds_head hh (p + 1)
        cases i with
        | nil =>
          have e2 : q = p + 1 := by rw [h1] at e1; simp at e1; exact e1.1.2
          subst e2
          exact ⟨[], d :: t, p, by simp [k3, glue], by simp [k3, glue], Nat.le_refl _, by omega, by simp at h5 ⊢; exact h5⟩
        | cons w i => exact ⟨(d :: w.1, p) :: i, t, q, by simp [k3, glue], by simp [k3, glue], by omega, by omega, h5'⟩
    · exact ⟨i, t, q, by simp [k2, k3], by simp [k2, k3], by omega, by omega, h5'⟩
theorem wds_one (p : Nat) (c : UInt8) : wds p [c] = if kd c = 2 ∨ kd c = 3 then [([c], p)] else [] := by
  by_cases h2 : kd c = 2
  · simp [wds, h2]
  by_cases h3 : kd c = 3
  · simp [wds, h3, headI]
  · simp [wds, h2, h3]
theorem wds_len : ∀ (l : Tx) (p : Nat), (wds p l).length ≤ l.length
  | [], p => by simp [wds]
  | c :: t, p => by
    have ih := wds_len t (p + 1)
    rw [wds]
    split
    · simp; omega
    split
    · split
      · cases h : wds (p + 1) t with
        | nil => simp [glue]
        | cons a r => rw [h] at ih; simp [glue] at ih ⊢; omega
      · simp; omega
    · simp; omega
theorem spV_len (l : Tx) : (spV l).length ≤ 65536 := by
  unfold spV
  split
  · simp
  split
  · have := wds_len l 0; omega
  · simp
end Go.Proofs.YtmoldgmfhcmceaaGreatDoor.Wo
end

/-
  Plain numbers, no Go: what layer 1's calls answer, said as plain functions: which numbers are amounts, sums, differences, scaled amounts, parts.
-/
section
namespace Go.Proofs.YtmoldgmfhcmceaaGreatDoor.Ce

/-- Is it an amount: from 0 to ten to the thirteenth? -/
def good (a : Int) : Bool := decide (0 ≤ a) && decide (a ≤ 10000000000000)

theorem good_iff (a : Int) : good a = true ↔ 0 ≤ a ∧ a ≤ 10000000000000 := by
  unfold good; simp
theorem good_not (a : Int) : good a = false ↔ a < 0 ∨ 10000000000000 < a := by
  have h := good_iff a
  cases g : good a
  · simp only [true_iff]
    rw [g] at h
    simp at h
    omega
  · rw [g] at h
    simp at h
    simp
    omega

def addV (a b : Int) : Int := if good a = true ∧ good b = true ∧ good (a + b) = true then a + b else 0
def addE (a b : Int) : Int := if good a = true ∧ good b = true then (if good (a + b) = true then 0 else 2) else 1
def subV (a b : Int) : Int := if good a = true ∧ good b = true ∧ b ≤ a then a - b else 0
def subE (a b : Int) : Int := if good a = true ∧ good b = true then (if b ≤ a then 0 else 3) else 1

/-- a times n by d, cut off; told by two numbers: the answer and the error. -/
def scaleV (a n d : Int) : Int := if good a = true ∧ 0 ≤ n ∧ 1 ≤ d ∧ good (a * n / d) = true then a * n / d else 0
def scaleE (a n d : Int) : Int := if good a = true ∧ 0 ≤ n ∧ 1 ≤ d then (if good (a * n / d) = true then 0 else 2) else 1

def partV (a p : Int) : Int := if 0 ≤ p ∧ p ≤ 10000 then scaleV a p 10000 else 0
def partE (a p : Int) : Int := if 0 ≤ p ∧ p ≤ 10000 then scaleE a p 10000 else 1

end Go.Proofs.YtmoldgmfhcmceaaGreatDoor.Ce
end

/-
  Plain numbers: many amounts together.
-/
section
namespace Go.Proofs.YtmoldgmfhcmceaaGreatDoor.Ce

/-- Are the first n all amounts? -/
def allG (f : Nat → Int) : Nat → Bool
  | 0 => true
  | n + 1 => allG f n && good (f n)
/-- The first n together. -/
def tot (f : Nat → Int) : Nat → Int
  | 0 => 0
  | n + 1 => tot f n + f n
def sumV (f : Nat → Int) (n : Nat) : Int := if allG f n = true ∧ tot f n ≤ 10000000000000 then tot f n else 0
def sumE (f : Nat → Int) (n : Nat) : Int := if allG f n = true then (if tot f n ≤ 10000000000000 then 0 else 2) else 1

theorem allG_at (f : Nat → Int) : ∀ (n k : Nat), k < n → allG f n = true → good (f k) = true
  | 0, _, h, _ => absurd h (by omega)
  | n + 1, k, h, g => by
    simp only [allG, Bool.and_eq_true] at g
    by_cases e : k = n
    · rw [e]; exact g.2
    · exact allG_at f n k (by omega) g.1
theorem allG_not (f : Nat → Int) (n k : Nat) (h : k < n) (g : good (f k) = false) : allG f n = false := by
  cases e : allG f n
  · rfl
  · rw [allG_at f n k h e] at g; cases g
theorem allG_more (f : Nat → Int) (k : Nat) (h : allG f k = true) (g : good (f k) = true) : allG f (k + 1) = true := by
  simp only [allG, h, g, Bool.and_self]

theorem tot_le (f : Nat → Int) (n : Nat) (g : allG f n = true) : ∀ (j k : Nat), k + j = n → tot f k ≤ tot f n
  | 0, k, h => by rw [← h]; exact Int.le_refl _
  | j + 1, k, h => by
    have h1 := tot_le f n g j (k + 1) (by omega)
    have h2 := (good_iff _).1 (allG_at f n k (by omega) g)
    simp only [tot] at h1
    omega
theorem tot_nonneg (f : Nat → Int) (n : Nat) (g : allG f n = true) (k : Nat) (h : k ≤ n) : 0 ≤ tot f k := by
  induction k with
  | zero => exact Int.le_refl _
  | succ k ih =>
    have h1 := ih (by omega)
    have h2 := (good_iff _).1 (allG_at f n k (by omega) g)
    simp only [tot]
    omega
/-- Too much on the way is too much in all. -/
theorem sum_over (f : Nat → Int) (n k : Nat) (g : allG f n = true) (h : k < n) (o : 10000000000000 < tot f k + f k) : sumV f n = 0 ∧ sumE f n = 2 := by
  have h1 := tot_le f n g (n - (k + 1)) (k + 1) (by omega)
  simp only [tot] at h1
  constructor
  · unfold sumV; rw [if_neg]; omega
  · unfold sumE; rw [if_pos g, if_neg]; omega
theorem sum_end (f : Nat → Int) (n : Nat) (g : allG f n = true) (h : tot f n ≤ 10000000000000) : sumV f n = tot f n ∧ sumE f n = 0 := by
  constructor
  · unfold sumV; rw [if_pos ⟨g, h⟩]
  · unfold sumE; rw [if_pos g, if_pos h]
theorem sum_arg (f : Nat → Int) (n : Nat) (g : allG f n = false) : sumV f n = 0 ∧ sumE f n = 1 := by
  constructor
  · unfold sumV; rw [if_neg]; rw [g]; simp
  · unfold sumE; rw [if_neg]; rw [g]; simp

end Go.Proofs.YtmoldgmfhcmceaaGreatDoor.Ce
end

/-
  The calendar's plain mathematics: leap years, months' lengths, days ahead of a day; a later day has more days ahead of it; each number of days has its day.
-/
section
namespace Go.Proofs.YtmoldgmfhcmceaaGreatDoor.Da

def leapB (y : Int) : Bool := (y % 4 == 0 && y % 100 != 0) || y % 400 == 0
def lp (y : Int) : Int := if leapB y = true then 1 else 0
def lens : List Int := [31, 28, 31, 30, 31, 30, 31, 31, 30, 31, 30, 31]
def lenT (m : Int) : Int := lens.getD (m - 1).toNat 0
def lenM (y m : Int) : Int := if (m == 2 && leapB y) = true then 29 else lenT m
def cum (y m : Int) : Int := if m ≤ 2 then 31 * (m - 1) else (153 * (m - 3) + 2) / 5 + 59 + lp y
def ahead (y : Int) : Int := (y - 1) * 365 + (y - 1) / 4 - (y - 1) / 100 + (y - 1) / 400
def yr (n : Int) : Int := n.tdiv 10000
def mo (n : Int) : Int := (n.tdiv 100).tmod 100
def da (n : Int) : Int := n.tmod 100
def good (n : Int) : Bool := decide (1 ≤ yr n ∧ yr n ≤ 9999 ∧ 1 ≤ mo n ∧ mo n ≤ 12 ∧ 1 ≤ da n ∧ da n ≤ lenM (yr n) (mo n))
def dayOf (n : Int) : Int := ahead (yr n) + cum (yr n) (mo n) + da n - 1

theorem leap_iff (y : Int) : leapB y = true ↔ (y % 4 = 0 ∧ y % 100 ≠ 0) ∨ y % 400 = 0 := by simp [leapB]
theorem leap_not (y : Int) : leapB y = false ↔ ¬ ((y % 4 = 0 ∧ y % 100 ≠ 0) ∨ y % 400 = 0) := by rw [← leap_iff]; simp
theorem lp_cases (y : Int) : (lp y = 1 ∧ leapB y = true) ∨ (lp y = 0 ∧ leapB y = false) := by unfold lp; cases leapB y <;> simp
theorem lp_01 (y : Int) : 0 ≤ lp y ∧ lp y ≤ 1 := by rcases lp_cases y with h | h <;> omega
theorem yr_eq (n : Int) (h : 0 ≤ n) : yr n = n / 10000 := by unfold yr; exact Int.tdiv_eq_ediv_of_nonneg h
theorem mo_eq (n : Int) (h : 0 ≤ n) : mo n = n / 100 % 100 := by unfold mo; rw [Int.tdiv_eq_ediv_of_nonneg h, Int.tmod_eq_emod_of_nonneg (by omega)]
theorem da_eq (n : Int) (h : 0 ≤ n) : da n = n % 100 := by unfold da; exact Int.tmod_eq_emod_of_nonneg h
theorem yr_neg (n : Int) (h : n < 0) : yr n ≤ 0 := by
  unfold yr
  have := Int.tdiv_nonneg (a := -n) (b := 10000) (by omega) (by omega)
  rw [Int.neg_tdiv] at this
  omega

theorem month_cases (m : Int) (h1 : 1 ≤ m) (h2 : m ≤ 12) : m = 1 ∨ m = 2 ∨ m = 3 ∨ m = 4 ∨ m = 5 ∨ m = 6 ∨ m = 7 ∨ m = 8 ∨ m = 9 ∨ m = 10 ∨ m = 11 ∨ m = 12 := by omega
theorem cum_succ (y m : Int) (h1 : 1 ≤ m) (h2 : m ≤ 12) : cum y (m + 1) = cum y m + lenM y m := by
  rcases lp_cases y with ⟨a, b⟩ | ⟨a, b⟩ <;>
  rcases month_cases m h1 h2 with rfl | rfl | rfl | rfl | rfl | rfl | rfl | rfl | rfl | rfl | rfl | rfl <;> simp [cum, lenM, lenT, lens, a, b]
theorem lenM_bd (y m : Int) (h1 : 1 ≤ m) (h2 : m ≤ 12) : 28 ≤ lenM y m ∧ lenM y m ≤ 31 := by
  cases b : leapB y <;>
  rcases month_cases m h1 h2 with rfl | rfl | rfl | rfl | rfl | rfl | rfl | rfl | rfl | rfl | rfl | rfl <;> simp [lenM, lenT, lens, b]
theorem cum_bd (y m : Int) (h1 : 1 ≤ m) (h2 : m ≤ 13) : 0 ≤ cum y m ∧ cum y m ≤ 365 + lp y := by
  have := lp_01 y
  unfold cum; split <;> omega
theorem cum_mono (y m k : Int) (h1 : 1 ≤ m) (h2 : m ≤ k) (h3 : k ≤ 13) : cum y m ≤ cum y k := by
  have := lp_01 y
  unfold cum; split <;> split <;> omega
theorem cum_end (y : Int) : cum y 13 = 365 + lp y := by unfold cum; rw [if_neg (by omega)]; omega
theorem cum_one (y : Int) : cum y 1 = 0 := by simp [cum]
theorem ahead_succ (y : Int) (_h : 1 ≤ y) : ahead (y + 1) = ahead y + 365 + lp y := by
  rcases lp_cases y with ⟨a, b⟩ | ⟨a, b⟩
  · rw [leap_iff] at b
    rw [a]; unfold ahead; omega
  · rw [leap_not] at b
    rw [a]; unfold ahead; omega
theorem ahead_mono (y z : Int) (_h : 1 ≤ y) (k : y ≤ z) : ahead y ≤ ahead z := by unfold ahead; omega
theorem ahead_bd (y : Int) (h : 1 ≤ y) (k : y ≤ 10000) : 0 ≤ ahead y ∧ ahead y ≤ 3652059 := by unfold ahead; omega
theorem ahead_end : ahead 10000 = 3652059 := by decide
theorem ahead_guess (d : Int) (_h : 0 ≤ d) : ahead (d / 366 + 1) ≤ d := by unfold ahead; omega

theorem good_iff (n : Int) : good n = true ↔ (1 ≤ yr n ∧ yr n ≤ 9999 ∧ 1 ≤ mo n ∧ mo n ≤ 12 ∧ 1 ≤ da n ∧ da n ≤ lenM (yr n) (mo n)) := by simp [good]
theorem good_pos (n : Int) (h : good n = true) : 0 ≤ n := by
  rcases Int.lt_or_le n 0 with k | k
  · have := yr_neg n k
    have := ((good_iff n).1 h).1
    omega
  · exact k
theorem parts (n : Int) (h : 0 ≤ n) : n = yr n * 10000 + mo n * 100 + da n ∧ 0 ≤ mo n ∧ mo n ≤ 99 ∧ 0 ≤ da n ∧ da n ≤ 99 ∧ 0 ≤ yr n := by
  rw [yr_eq n h, mo_eq n h, da_eq n h]; omega
theorem made (y m d : Int) (hy : 0 ≤ y) (hm : 0 ≤ m) (hm' : m ≤ 99) (hd : 0 ≤ d) (hd' : d ≤ 99) : yr (y * 10000 + m * 100 + d) = y ∧ mo (y * 10000 + m * 100 + d) = m ∧ da (y * 10000 + m * 100 + d) = d := by
  have h : 0 ≤ y * 10000 + m * 100 + d := by omega
  rw [yr_eq _ h, mo_eq _ h, da_eq _ h]; omega
theorem good_bd (n : Int) (h : good n = true) : 10101 ≤ n ∧ n ≤ 99991231 := by
  have p := parts n (good_pos n h)
  obtain ⟨a, b, c, d, e, f⟩ := (good_iff n).1 h
  have := lenM_bd (yr n) (mo n) c d
  omega
theorem made_good (y m d : Int) (hy : 1 ≤ y) (hy' : y ≤ 9999) (hm : 1 ≤ m) (hm' : m ≤ 12) (hd : 1 ≤ d) (hd' : d ≤ lenM y m) :
    good (y * 10000 + m * 100 + d) = true ∧ dayOf (y * 10000 + m * 100 + d) = ahead y + cum y m + d - 1 := by
  have l := lenM_bd y m hm hm'
  obtain ⟨a, b, c⟩ := made y m d (by omega) (by omega) (by omega) (by omega) (by omega)
  rw [good_iff]; unfold dayOf; rw [a, b, c]
  exact ⟨⟨hy, hy', hm, hm', hd, hd'⟩, rfl⟩
theorem dayOf_bd (n : Int) (h : good n = true) : ahead (yr n) ≤ dayOf n ∧ dayOf n < ahead (yr n + 1) ∧ 0 ≤ dayOf n ∧ dayOf n < 3652059 := by
  obtain ⟨a, b, c, d, e, f⟩ := (good_iff n).1 h
  have h1 := cum_succ (yr n) (mo n) c d
  have h2 := cum_mono (yr n) (mo n + 1) 13 (by omega) (by omega) (by omega)
  have h3 := cum_end (yr n)
  have h4 := cum_bd (yr n) (mo n) c (by omega)
  have h5 := ahead_succ (yr n) a
  have h6 := ahead_bd (yr n) a (by omega)
  have h7 := ahead_bd (yr n + 1) (by omega) (by omega)
  unfold dayOf; omega
theorem dayOf_lt (m n : Int) (hm : good m = true) (hn : good n = true) (h : m < n) : dayOf m < dayOf n := by
  have pm := parts m (good_pos m hm)
  have pn := parts n (good_pos n hn)
  obtain ⟨a, b, c, d, e, f⟩ := (good_iff m).1 hm
  obtain ⟨a', b', c', d', e', f'⟩ := (good_iff n).1 hn
  have bm := dayOf_bd m hm
  have bn := dayOf_bd n hn
  rcases Int.lt_or_le (yr m) (yr n) with k | k
  · have := ahead_mono (yr m + 1) (yr n) (by omega) (by omega)
    omega
  · have e1 : yr m = yr n := by omega
    have e2 : dayOf m = ahead (yr n) + cum (yr n) (mo m) + da m - 1 := by unfold dayOf; rw [e1]
    have e3 : dayOf n = ahead (yr n) + cum (yr n) (mo n) + da n - 1 := rfl
    rcases Int.lt_or_le (mo m) (mo n) with k2 | k2
    · have h1 := cum_succ (yr n) (mo m) c d
      have h2 := cum_mono (yr n) (mo m + 1) (mo n) (by omega) (by omega) (by omega)
      rw [e1] at f
      omega
    · have e4 : mo m = mo n := by omega
      rw [e4] at e2
      omega
theorem dayOf_inj (m n : Int) (hm : good m = true) (hn : good n = true) (h : dayOf m = dayOf n) : m = n := by
  rcases Int.lt_trichotomy m n with k | k | k
  · have := dayOf_lt m n hm hn k; omega
  · exact k
  · have := dayOf_lt n m hn hm k; omega

/-- The day behind a day. -/
def nxt (n : Int) : Int := if da n < lenM (yr n) (mo n) then n + 1 else if mo n < 12 then yr n * 10000 + (mo n + 1) * 100 + 1 else (yr n + 1) * 10000 + 1 * 100 + 1
theorem nxt_good (n : Int) (h : good n = true) (k : n ≠ 99991231) : good (nxt n) = true ∧ dayOf (nxt n) = dayOf n + 1 := by
  have p := parts n (good_pos n h)
  obtain ⟨a, b, c, d, e, f⟩ := (good_iff n).1 h
  have l := lenM_bd (yr n) (mo n) c d
  have s := cum_succ (yr n) (mo n) c d
  have dn : dayOf n = ahead (yr n) + cum (yr n) (mo n) + da n - 1 := rfl
  unfold nxt
  split
  · rename_i hl
    have g := made_good (yr n) (mo n) (da n + 1) a b c d (by omega) (by omega)
    have e1 : yr n * 10000 + mo n * 100 + (da n + 1) = n + 1 := by omega
    rw [e1] at g
    exact ⟨g.1, by omega⟩
  · rename_i hl
    split
    · have l' := lenM_bd (yr n) (mo n + 1) (by omega) (by omega)
      have g := made_good (yr n) (mo n + 1) 1 a b (by omega) (by omega) (by omega) (by omega)
      exact ⟨g.1, by omega⟩
    · have m12 : mo n = 12 := by omega
      have c13 := cum_end (yr n)
      have c1 := cum_one (yr n + 1)
      have ahs := ahead_succ (yr n) a
      have l31 : lenM (yr n) 12 = 31 := by simp [lenM, lenT, lens]
      rw [m12] at s l f dn hl
      have l' := lenM_bd (yr n + 1) 1 (by omega) (by omega)
      have g := made_good (yr n + 1) 1 1 (by omega) (by omega) (by omega) (by omega) (by omega) (by omega)
      refine ⟨g.1, ?_⟩
      rw [g.2]
      have : (12 : Int) + 1 = 13 := rfl
      rw [this] at s
      omega
/-- The day that so many days lie ahead of: day by day from the first one. -/
def stepN : Nat → Int
  | 0 => 10101
  | k + 1 => nxt (stepN k)
theorem all_days (k : Nat) (h : (k : Int) < 3652059) : good (stepN k) = true ∧ dayOf (stepN k) = k := by
  induction k with
  | zero => exact ⟨by decide, by decide⟩
  | succ k ih =>
    obtain ⟨g, e⟩ := ih (by omega)
    have : stepN k ≠ 99991231 := by
      intro he
      have : dayOf 99991231 = 3652058 := by decide
      rw [he] at e
      omega
    obtain ⟨g', e'⟩ := nxt_good _ g this
    exact ⟨g', by rw [stepN, e', e]; omega⟩
def ofV (d : Int) : Int := if 0 ≤ d ∧ d < 3652059 then stepN d.toNat else 0
def ofE (d : Int) : Int := if 0 ≤ d ∧ d < 3652059 then 0 else 3
def daysV (n : Int) : Int := if good n = true then dayOf n else 0
def daysE (n : Int) : Int := if good n = true then 0 else 7
theorem of_spec (d : Int) (h0 : 0 ≤ d) (h1 : d < 3652059) : good (ofV d) = true ∧ dayOf (ofV d) = d := by
  obtain ⟨g, e⟩ := all_days d.toNat (by omega)
  unfold ofV
  rw [if_pos ⟨h0, h1⟩]
  exact ⟨g, by omega⟩
theorem of_eq (d n : Int) (g : good n = true) (e : dayOf n = d) : ofV d = n := by
  have b := dayOf_bd n g
  have s := of_spec d (by omega) (by omega)
  exact dayOf_inj _ _ s.1 g (by omega)
theorem of_out (d : Int) (h : ¬ (0 ≤ d ∧ d < 3652059)) : ofV d = 0 ∧ ofE d = 3 := by simp [ofV, ofE, h]
theorem of_in (d : Int) (h0 : 0 ≤ d) (h1 : d < 3652059) : ofE d = 0 := by simp [ofE, h0, h1]
theorem days_in (n : Int) (h : good n = true) : daysV n = dayOf n ∧ daysE n = 0 := by simp [daysV, daysE, h]
theorem days_out (n : Int) (h : good n = false) : daysV n = 0 ∧ daysE n = 7 := by simp [daysV, daysE, h]

theorem daysV_bd (n : Int) : 0 ≤ daysV n ∧ daysV n < 3652059 := by
  cases g : good n
  · rw [(days_out n g).1]; omega
  · have := dayOf_bd n g
    rw [(days_in n g).1]; omega

end Go.Proofs.YtmoldgmfhcmceaaGreatDoor.Da
end
