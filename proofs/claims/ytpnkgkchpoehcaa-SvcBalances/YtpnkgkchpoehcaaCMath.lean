/-
  Plain numbers, no Go: what layer 1's calls answer, said as plain functions: which numbers are amounts, sums, differences, scaled amounts, parts.
-/
namespace Go.Proofs.Ytpnkgkchpoehcaa.Ce

/-- Is it an amount: from 0 to ten to the thirteenth? -/
def good (a : Int) : Bool := decide (0 ≤ a) && decide (a ≤ 10000000000000)

theorem good_iff (a : Int) : good a = true ↔ 0 ≤ a ∧ a ≤ 10000000000000 := by
  unfold good; simp
theorem good_not (a : Int) : good a = false ↔ a < 0 ∨ 10000000000000 < a := by
  have h := good_iff a
  cases g : good a
  · simp only [true_iff]
    rw [g] at h
    simp at h
    omega
  · rw [g] at h
    simp at h
    simp
    omega

def addV (a b : Int) : Int := if good a = true ∧ good b = true ∧ good (a + b) = true then a + b else 0
def addE (a b : Int) : Int := if good a = true ∧ good b = true then (if good (a + b) = true then 0 else 2) else 1
def subV (a b : Int) : Int := if good a = true ∧ good b = true ∧ b ≤ a then a - b else 0
def subE (a b : Int) : Int := if good a = true ∧ good b = true then (if b ≤ a then 0 else 3) else 1

/-- a times n by d, cut off; told by two numbers: the answer and the error. -/
def scaleV (a n d : Int) : Int := if good a = true ∧ 0 ≤ n ∧ 1 ≤ d ∧ good (a * n / d) = true then a * n / d else 0
def scaleE (a n d : Int) : Int := if good a = true ∧ 0 ≤ n ∧ 1 ≤ d then (if good (a * n / d) = true then 0 else 2) else 1

def partV (a p : Int) : Int := if 0 ≤ p ∧ p ≤ 10000 then scaleV a p 10000 else 0
def partE (a p : Int) : Int := if 0 ≤ p ∧ p ≤ 10000 then scaleE a p 10000 else 1

end Go.Proofs.Ytpnkgkchpoehcaa.Ce
