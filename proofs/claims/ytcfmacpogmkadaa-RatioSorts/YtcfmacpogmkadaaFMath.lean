/-
  Plain mathematics of floats of 64 bits, over their words: kind, place, order; how words are read and written.
-/
import Ieee.Arith
namespace Go.Proofs.Ytcfmacpogmkadaa

def B52 : Nat := 4503599627370496
def W63 : Nat := 9223372036854775808
def INF : Nat := 9218868437227405312

def sgn (b : Nat) : Bool := decide (W63 ≤ b)
def rung (b : Nat) : Nat := b % W63
def isN (b : Nat) : Bool := decide (INF < rung b)

def kindV (b : Nat) : Int :=
  if INF < rung b then 6 else if rung b = INF then (if sgn b = true then 0 else 5) else if rung b = 0 then (if sgn b = true then 2 else 3) else (if sgn b = true then 1 else 4)
def placeV (b : Nat) : Int := if sgn b = true then -(rung b : Int) - 1 else (rung b : Int)
def sr (b : Nat) : Int := if sgn b = true then -(rung b : Int) else (rung b : Int)
def cmpV (a b : Nat) : Int :=
  if kindV a = 6 ∨ kindV b = 6 then (if kindV a = kindV b then 0 else if kindV a = 6 then 1 else -1)
  else if placeV a < placeV b then -1 else if placeV b < placeV a then 1 else 0

/-- How great a rung's number is, in units of the least one. -/
def mg (r : Nat) : Nat := if r < B52 then r else B52 + r % B52
def pl (r : Nat) : Nat := r / B52 - 1
def M (r : Nat) : Nat := mg r * 2 ^ pl r

theorem rung_lt (b : Nat) : rung b < W63 := Nat.mod_lt _ (by decide)
theorem sgn_rung (b : Nat) (h : b < 18446744073709551616) : b = (if sgn b = true then W63 else 0) + rung b := by
  unfold sgn rung W63
  by_cases c : 9223372036854775808 ≤ b
  · simp [c]; omega
  · simp [c]; omega

theorem signWeight_d : Ieee.double.signWeight = W63 := by decide
theorem binade_d : Ieee.double.binade = B52 := by decide
theorem infRung_d : Ieee.double.infRung = INF := by decide
theorem least_d : Ieee.double.leastPlace = -1074 := by decide

theorem read_d (b : Nat) (h : b < 18446744073709551616) : Ieee.double.read b =
    if INF < rung b then .nan (sgn b) (rung b - INF) else if rung b = INF then .infinity (sgn b) else .number (sgn b) (mg (rung b)) (-1074 + (pl (rung b) : Int)) := by
  have hs : (b / W63 % 2 == 1) = sgn b := by
    unfold sgn W63
    by_cases c : 9223372036854775808 ≤ b
    · have : b / 9223372036854775808 = 1 := by omega
      simp [c, this]
    · have : b / 9223372036854775808 = 0 := by omega
      simp [c, this]
  unfold Ieee.Format.read
  rw [signWeight_d, binade_d, infRung_d, least_d, hs]
  show (if rung b < B52 then _ else _) = _
  have hBI : B52 < INF := by decide
  by_cases h1 : rung b < B52
  · have h2 : ¬ INF < rung b := by omega
    have h3 : rung b ≠ INF := by omega
    have hp : pl (rung b) = 0 := by unfold pl; rw [Nat.div_eq_of_lt h1]
    rw [if_pos h1, if_neg h2, if_neg h3, hp]
    simp [mg, h1]; rfl
  · by_cases h4 : rung b < INF
    · have h2 : ¬ INF < rung b := by omega
      have h3 : rung b ≠ INF := by omega
      rw [if_neg h1, if_neg h2, if_neg h3]
      show (if rung b < INF then _ else _) = _
      rw [if_pos h4]
      simp [mg, h1, pl]
      exact ⟨rfl, rfl⟩
    · rw [if_neg h1]
      show (if rung b < INF then _ else if rung b = INF then _ else _) = _
      rw [if_neg h4]
      by_cases h5 : rung b = INF
      · rw [if_pos h5, if_neg (by omega), if_pos h5]
      · rw [if_neg h5, if_pos (by omega)]; rfl

theorem M_lt {r s : Nat} (h : r < s) : M r < M s := by
  unfold M
  have hB : 0 < B52 := by decide
  have hmod : ∀ x, x % B52 < B52 := fun x => Nat.mod_lt _ hB
  by_cases h1 : s < B52
  · have h2 : r < B52 := by omega
    simp [mg, pl, h1, h2, Nat.div_eq_of_lt h1, Nat.div_eq_of_lt h2, h]
  · have e1 : 1 ≤ s / B52 := (Nat.le_div_iff_mul_le hB).2 (by omega)
    have ms : mg s = B52 + s % B52 := by simp [mg, h1]
    by_cases h2 : r < B52
    · have mr : mg r = r := by simp [mg, h2]
      have pr : pl r = 0 := by simp [pl, Nat.div_eq_of_lt h2]
      rw [mr, pr, ms]
      have : 1 ≤ 2 ^ pl s := Nat.one_le_two_pow
      have := Nat.mul_le_mul (Nat.le_refl (B52 + s % B52)) this
      omega
    · have mr : mg r = B52 + r % B52 := by simp [mg, h2]
      have e2 : 1 ≤ r / B52 := (Nat.le_div_iff_mul_le hB).2 (by omega)
      have hle : r / B52 ≤ s / B52 := Nat.div_le_div_right (by omega)
      rw [mr, ms]
      unfold pl
      have dr := Nat.div_add_mod r B52
      have ds := Nat.div_add_mod s B52
      rcases Nat.lt_or_ge (r / B52) (s / B52) with hl | hg
      · have m1 := hmod r
        have p1 : 2 ^ (r / B52 - 1) * 2 = 2 ^ (r / B52) := by rw [← Nat.pow_succ]; congr 1; omega
        have p2 : 2 ^ (r / B52) ≤ 2 ^ (s / B52 - 1) := Nat.pow_le_pow_right (by omega) (by omega)
        have p3 : 0 < 2 ^ (r / B52 - 1) := Nat.two_pow_pos _
        have q1 : (B52 + r % B52) * 2 ^ (r / B52 - 1) < (B52 + B52) * 2 ^ (r / B52 - 1) := Nat.mul_lt_mul_of_pos_right (by omega) p3
        have q2 : (B52 + B52) * 2 ^ (r / B52 - 1) = B52 * 2 ^ (r / B52) := by rw [← p1, ← Nat.two_mul, Nat.mul_comm 2 B52, Nat.mul_assoc, Nat.mul_comm 2]
        have q3 : B52 * 2 ^ (r / B52) ≤ (B52 + s % B52) * 2 ^ (s / B52 - 1) := Nat.mul_le_mul (by omega) p2
        omega
      · have he : r / B52 = s / B52 := by omega
        rw [he]
        have : B52 + r % B52 < B52 + s % B52 := by rw [he] at dr; omega
        exact Nat.mul_lt_mul_of_pos_right this (Nat.two_pow_pos _)

theorem M_zero : M 0 = 0 := by decide

theorem signed_mul (s : Bool) (m u c : Nat) : Ieee.signed s m u * ((2 ^ c : Nat) : Int) = if s = true then -((m * 2 ^ (u + c) : Nat) : Int) else ((m * 2 ^ (u + c) : Nat) : Int) := by
  unfold Ieee.signed
  rw [Nat.shiftLeft_eq, Nat.pow_add, ← Nat.mul_assoc]
  cases s
  · simp
  · simp [Int.neg_mul]

theorem compare_mul (x y : Int) (c : Nat) (hc : 0 < c) : compare x y = compare (x * (c : Int)) (y * (c : Int)) := by
  have hc' : (0 : Int) < (c : Int) := by omega
  show compareOfLessAndEq x y = compareOfLessAndEq (x * (c : Int)) (y * (c : Int))
  unfold compareOfLessAndEq
  have h1 : (x * (c : Int) < y * (c : Int)) ↔ x < y := ⟨fun h => Int.lt_of_mul_lt_mul_right h (by omega), fun h => Int.mul_lt_mul_of_pos_right h hc'⟩
  have h2 : (x * (c : Int) = y * (c : Int)) ↔ x = y := ⟨fun h => Int.eq_of_mul_eq_mul_right (by omega) h, fun h => by rw [h]⟩
  simp only [h1, h2]

def ordI (x y : Int) : Ordering := if x < y then .lt else if x = y then .eq else .gt
theorem compare_ordI (x y : Int) : compare x y = ordI x y := rfl

def sM (s : Bool) (r : Nat) : Int := if s = true then -(M r : Int) else (M r : Int)
def sR (s : Bool) (r : Nat) : Int := if s = true then -(r : Int) else (r : Int)

theorem M_pos {r : Nat} (h : 0 < r) : 0 < M r := by have := M_lt h; rw [M_zero] at this; exact this
theorem ordI_sM (s t : Bool) (a b : Nat) : ordI (sM s a) (sM t b) = ordI (sR s a) (sR t b) := by
  have hm : (a < b → M a < M b) ∧ (b < a → M b < M a) ∧ (a = b → M a = M b) := ⟨M_lt, M_lt, fun h => by rw [h]⟩
  have ha : (a = 0 → M a = 0) ∧ (0 < a → 0 < M a) := ⟨fun h => by rw [h, M_zero], M_pos⟩
  have hb : (b = 0 → M b = 0) ∧ (0 < b → 0 < M b) := ⟨fun h => by rw [h, M_zero], M_pos⟩
  unfold ordI sM sR
  generalize M a = x at *
  generalize M b = y at *
  have key : ∀ p q u v : Int, (p < q ↔ u < v) → (p = q ↔ u = v) → (if p < q then Ordering.lt else if p = q then .eq else .gt) = (if u < v then Ordering.lt else if u = v then .eq else .gt) := fun p q u v h1 h2 => by simp only [h1, h2]
  apply key
  · cases s <;> cases t <;> simp <;> omega
  · cases s <;> cases t <;> simp <;> omega

theorem signed_scaled (s : Bool) (r q : Nat) (p : Nat) (hq : q ≤ pl r) (hp : p = q) : Ieee.signed s (mg r) (pl r - q) * ((2 ^ p : Nat) : Int) = sM s r := by
  subst hp
  rw [signed_mul, show pl r - p + p = pl r by omega]
  rfl

theorem ordI_lt (x y : Int) : (ordI x y = .lt) ↔ x < y := by unfold ordI; split; simp [*]; split <;> simp [*]
theorem ordI_gt (x y : Int) : (ordI x y = .gt) ↔ y < x := by unfold ordI; split; simp; omega; split <;> simp <;> omega
theorem ordI_eq (x y : Int) : (ordI x y = .eq) ↔ x = y := by unfold ordI; split; simp; omega; split <;> simp [*]

theorem order_d (a b : Nat) (ha : a < 18446744073709551616) (hb : b < 18446744073709551616) :
    Ieee.double.order a b = if isN a = true ∨ isN b = true then none else some (ordI (sr a) (sr b)) := by
  unfold Ieee.Format.order
  rw [read_d a ha, read_d b hb]
  by_cases na : INF < rung a
  · have : isN a = true := by simp [isN, na]
    simp only [na, this, if_pos, true_or]
    rfl
  have na' : isN a = false := by simp [isN, na]
  by_cases nb : INF < rung b
  · have hb' : isN b = true := by simp [isN, nb]
    rw [if_neg na, if_pos nb, if_pos (Or.inr hb')]
    split <;> rfl
  have nb' : isN b = false := by simp [isN, nb]
  have hn : ¬ (isN a = true ∨ isN b = true) := by simp [na', nb']
  rw [if_neg na, if_neg nb, if_neg hn]
  have hI : 0 < INF := by decide
  have sra : sr a = sR (sgn a) (rung a) := rfl
  have srb : sr b = sR (sgn b) (rung b) := rfl
  rw [sra, srb]
  generalize rung a = x at *
  generalize rung b = y at *
  generalize sgn a = s at *
  generalize sgn b = t at *
  by_cases ia : x = INF
  · rw [if_pos ia]
    by_cases ib : y = INF
    · rw [if_pos ib, ia, ib]
      show some (compare t.toNat s.toNat) = _
      generalize INF = k at *
      cases s <;> cases t
      · exact congrArg some ((ordI_eq _ _).2 rfl).symm
      · exact congrArg some ((ordI_gt _ _).2 (by simp [sR]; omega)).symm
      · exact congrArg some ((ordI_lt _ _).2 (by simp [sR]; omega)).symm
      · exact congrArg some ((ordI_eq _ _).2 rfl).symm
    · rw [if_neg ib]
      show some (if s = true then Ordering.lt else .gt) = _
      cases s
      · exact congrArg some ((ordI_gt _ _).2 (by cases t <;> simp [sR] <;> omega)).symm
      · exact congrArg some ((ordI_lt _ _).2 (by cases t <;> simp [sR] <;> omega)).symm
  · rw [if_neg ia]
    by_cases ib : y = INF
    · rw [if_pos ib]
      show some (if t = true then Ordering.gt else .lt) = _
      cases t
      · exact congrArg some ((ordI_lt _ _).2 (by cases s <;> simp [sR] <;> omega)).symm
      · exact congrArg some ((ordI_gt _ _).2 (by cases s <;> simp [sR] <;> omega)).symm
    · rw [if_neg ib]
      show some (compare (Ieee.signed s (mg x) ((-1074 + (pl x : Int)) - min (-1074 + (pl x : Int)) (-1074 + (pl y : Int))).toNat) (Ieee.signed t (mg y) ((-1074 + (pl y : Int)) - min (-1074 + (pl x : Int)) (-1074 + (pl y : Int))).toNat)) = _
      have e1 : ((-1074 + (pl x : Int)) - min (-1074 + (pl x : Int)) (-1074 + (pl y : Int))).toNat = pl x - min (pl x) (pl y) := by omega
      have e2 : ((-1074 + (pl y : Int)) - min (-1074 + (pl x : Int)) (-1074 + (pl y : Int))).toNat = pl y - min (pl x) (pl y) := by omega
      rw [e1, e2, compare_mul _ _ (2 ^ min (pl x) (pl y)) (Nat.two_pow_pos _), signed_scaled s x (min (pl x) (pl y)) _ (Nat.min_le_left _ _) rfl, signed_scaled t y (min (pl x) (pl y)) _ (Nat.min_le_right _ _) rfl, compare_ordI, ordI_sM]


theorem lt_d (a b : Nat) (ha : a < 18446744073709551616) (hb : b < 18446744073709551616) : (Ieee.double.order a b == some .lt) = (!isN a && !isN b && decide (sr a < sr b)) := by
  rw [order_d a b ha hb]
  cases isN a <;> cases isN b <;> simp
  rw [Bool.eq_iff_iff]; simp [ordI_lt]
theorem gt_d (a b : Nat) (ha : a < 18446744073709551616) (hb : b < 18446744073709551616) : (Ieee.double.order a b == some .gt) = (!isN a && !isN b && decide (sr b < sr a)) := by
  rw [order_d a b ha hb]
  cases isN a <;> cases isN b <;> simp
  rw [Bool.eq_iff_iff]; simp [ordI_gt]
theorem eq_d (a b : Nat) (ha : a < 18446744073709551616) (hb : b < 18446744073709551616) : (Ieee.double.order a b == some .eq) = (!isN a && !isN b && decide (sr a = sr b)) := by
  rw [order_d a b ha hb]
  cases isN a <;> cases isN b <;> simp
  rw [Bool.eq_iff_iff]; simp [ordI_eq]
theorem ne_d (a : Nat) (ha : a < 18446744073709551616) : (Ieee.double.order a a != some .eq) = isN a := by
  rw [order_d a a ha ha]
  cases isN a <;> simp
  simp [ordI_eq]

end Go.Proofs.Ytcfmacpogmkadaa
