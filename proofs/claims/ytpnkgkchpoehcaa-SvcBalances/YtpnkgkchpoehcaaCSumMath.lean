/-
  Plain numbers: many amounts together.
-/
import Derived.Test.YtpnkgkchpoehcaaCMath
namespace Go.Proofs.Ytpnkgkchpoehcaa.Ce

/-- Are the first n all amounts? -/
def allG (f : Nat → Int) : Nat → Bool
  | 0 => true
  | n + 1 => allG f n && good (f n)
/-- The first n together. -/
def tot (f : Nat → Int) : Nat → Int
  | 0 => 0
  | n + 1 => tot f n + f n
def sumV (f : Nat → Int) (n : Nat) : Int := if allG f n = true ∧ tot f n ≤ 10000000000000 then tot f n else 0
def sumE (f : Nat → Int) (n : Nat) : Int := if allG f n = true then (if tot f n ≤ 10000000000000 then 0 else 2) else 1

theorem allG_at (f : Nat → Int) : ∀ (n k : Nat), k < n → allG f n = true → good (f k) = true
  | 0, _, h, _ => absurd h (by omega)
  | n + 1, k, h, g => by
    simp only [allG, Bool.and_eq_true] at g
    by_cases e : k = n
    · rw [e]; exact g.2
    · exact allG_at f n k (by omega) g.1
theorem allG_not (f : Nat → Int) (n k : Nat) (h : k < n) (g : good (f k) = false) : allG f n = false := by
  cases e : allG f n
  · rfl
  · rw [allG_at f n k h e] at g; cases g
theorem allG_more (f : Nat → Int) (k : Nat) (h : allG f k = true) (g : good (f k) = true) : allG f (k + 1) = true := by
  simp only [allG, h, g, Bool.and_self]

theorem tot_le (f : Nat → Int) (n : Nat) (g : allG f n = true) : ∀ (j k : Nat), k + j = n → tot f k ≤ tot f n
  | 0, k, h => by rw [← h]; exact Int.le_refl _
  | j + 1, k, h => by
    have h1 := tot_le f n g j (k + 1) (by omega)
    have h2 := (good_iff _).1 (allG_at f n k (by omega) g)
    simp only [tot] at h1
    omega
theorem tot_nonneg (f : Nat → Int) (n : Nat) (g : allG f n = true) (k : Nat) (h : k ≤ n) : 0 ≤ tot f k := by
  induction k with
  | zero => exact Int.le_refl _
  | succ k ih =>
    have h1 := ih (by omega)
    have h2 := (good_iff _).1 (allG_at f n k (by omega) g)
    simp only [tot]
    omega
/-- Too much on the way is too much in all. -/
theorem sum_over (f : Nat → Int) (n k : Nat) (g : allG f n = true) (h : k < n) (o : 10000000000000 < tot f k + f k) : sumV f n = 0 ∧ sumE f n = 2 := by
  have h1 := tot_le f n g (n - (k + 1)) (k + 1) (by omega)
  simp only [tot] at h1
  constructor
  · unfold sumV; rw [if_neg]; omega
  · unfold sumE; rw [if_pos g, if_neg]; omega
theorem sum_end (f : Nat → Int) (n : Nat) (g : allG f n = true) (h : tot f n ≤ 10000000000000) : sumV f n = tot f n ∧ sumE f n = 0 := by
  constructor
  · unfold sumV; rw [if_pos ⟨g, h⟩]
  · unfold sumE; rw [if_pos g, if_pos h]
theorem sum_arg (f : Nat → Int) (n : Nat) (g : allG f n = false) : sumV f n = 0 ∧ sumE f n = 1 := by
  constructor
  · unfold sumV; rw [if_neg]; rw [g]; simp
  · unfold sumE; rw [if_neg]; rw [g]; simp

end Go.Proofs.Ytpnkgkchpoehcaa.Ce
