/-
  Plain mathematics of floats of 64 bits: how numbers are rounded to words; sums, products, quotients and whole parts of words.
-/
import Derived.Test.YtcfmacpogmkadaaFMath
import Derived.Laws.FloatArith
namespace Go.Proofs.Ytcfmacpogmkadaa

def wd (neg : Bool) (r : Nat) : Nat := if neg = true then W63 + r else r
theorem word_d (neg : Bool) (r : Nat) : Ieee.double.word neg r = wd neg r := by unfold Ieee.Format.word wd; rw [signWeight_d]
theorem INF_lt : INF < W63 := by decide
theorem sgn_wd (s : Bool) (r : Nat) (h : r < W63) : sgn (wd s r) = s := by cases s <;> simp [sgn, wd] <;> omega
theorem rung_wd (s : Bool) (r : Nat) (h : r < W63) : rung (wd s r) = r := by cases s <;> simp [rung, wd, Nat.mod_eq_of_lt h]
theorem wd_lt (s : Bool) (r : Nat) (h : r < W63) : wd s r < 18446744073709551616 := by
  have : W63 + W63 = 18446744073709551616 := by decide
  unfold wd; split <;> omega
theorem isN_wd (s : Bool) (r : Nat) (h : r ≤ INF) : isN (wd s r) = false := by
  have := INF_lt
  unfold isN; rw [rung_wd s r (by omega)]; simp; omega

def cutE (n d : Nat) : Nat := Ieee.Toward.even.cut false n d
theorem cutE_def (n d : Nat) : cutE n d = n / 2 ^ min d (n.log2 + 2) + (decide (2 ^ min d (n.log2 + 2) < 2 * (n % 2 ^ min d (n.log2 + 2))) || (2 ^ min d (n.log2 + 2) == 2 * (n % 2 ^ min d (n.log2 + 2)) && n / 2 ^ min d (n.log2 + 2) % 2 == 1)).toNat := by
  unfold cutE Ieee.Toward.cut
  simp only [Nat.one_shiftLeft]
theorem toNat_le (b : Bool) : b.toNat ≤ 1 := by cases b <;> simp
theorem log2_bd (n : Nat) (h : n ≠ 0) : 2 ^ n.log2 ≤ n ∧ n < 2 ^ (n.log2 + 1) := ⟨Nat.log2_self_le h, Nat.lt_log2_self⟩
theorem lt_two_pow_log (n : Nat) : n < 2 ^ (n.log2 + 1) := Nat.lt_log2_self
theorem cutE_le (n d t : Nat) (h : n < 2 ^ (t + d)) : cutE n d ≤ 2 ^ t := by
  rw [cutE_def]
  have h1 := toNat_le (decide (2 ^ min d (n.log2 + 2) < 2 * (n % 2 ^ min d (n.log2 + 2))) || (2 ^ min d (n.log2 + 2) == 2 * (n % 2 ^ min d (n.log2 + 2)) && n / 2 ^ min d (n.log2 + 2) % 2 == 1))
  have h2 : n / 2 ^ min d (n.log2 + 2) < 2 ^ t := by
    rcases Nat.le_total d (n.log2 + 2) with c | c
    · rw [Nat.min_eq_left c]
      exact Nat.div_lt_of_lt_mul (by rw [← Nat.pow_add, Nat.add_comm]; exact h)
    · rw [Nat.min_eq_right c]
      have : n < 2 ^ (n.log2 + 2) := Nat.lt_of_lt_of_le (lt_two_pow_log n) (Nat.pow_le_pow_right (by omega) (by omega))
      rw [Nat.div_eq_of_lt this]
      exact Nat.two_pow_pos _
  omega
theorem cutE_ge (n d : Nat) (h : d ≤ n.log2 + 2) : n / 2 ^ d ≤ cutE n d := by
  rw [cutE_def, Nat.min_eq_left h]
  omega
theorem cutE_mono (n m d : Nat) (hnm : n ≤ m) (h : d ≤ n.log2 + 2) (h' : d ≤ m.log2 + 2) : cutE n d ≤ cutE m d := by
  rw [cutE_def, cutE_def, Nat.min_eq_left h, Nat.min_eq_left h']
  have hq : n / 2 ^ d ≤ m / 2 ^ d := Nat.div_le_div_right hnm
  have t1 := toNat_le (decide (2 ^ d < 2 * (n % 2 ^ d)) || (2 ^ d == 2 * (n % 2 ^ d) && n / 2 ^ d % 2 == 1))
  rcases Nat.lt_or_ge (n / 2 ^ d) (m / 2 ^ d) with c | c
  · omega
  · have e : n / 2 ^ d = m / 2 ^ d := by omega
    have hr : n % 2 ^ d ≤ m % 2 ^ d := by
      have a1 := Nat.div_add_mod n (2 ^ d)
      have a2 := Nat.div_add_mod m (2 ^ d)
      rw [e] at a1
      omega
    rw [e]
    generalize n % 2 ^ d = x at *
    generalize m % 2 ^ d = y at *
    generalize 2 ^ d = g at *
    generalize m / g = q at *
    have key : (decide (g < 2 * x) || (g == 2 * x && q % 2 == 1)) = true → (decide (g < 2 * y) || (g == 2 * y && q % 2 == 1)) = true := by
      simp only [Bool.or_eq_true, Bool.and_eq_true, decide_eq_true_eq, beq_iff_eq]
      omega
    revert key
    cases (decide (g < 2 * x) || (g == 2 * x && q % 2 == 1)) <;> cases (decide (g < 2 * y) || (g == 2 * y && q % 2 == 1)) <;> simp
theorem cutE_exact (c d : Nat) (hc : c ≠ 0) : cutE (c * 2 ^ d) d = c := by
  have hp : 0 < 2 ^ d := Nat.two_pow_pos _
  have hl : d ≤ (c * 2 ^ d).log2 := (Nat.le_log2 (by exact Nat.mul_ne_zero hc (by omega))).2 (Nat.le_mul_of_pos_left _ (by omega))
  rw [cutE_def, Nat.min_eq_left (by omega), Nat.mul_div_cancel _ hp, Nat.mul_mod_left]
  have : ¬ (2 ^ d == 2 * 0) = true := by simp
  simp
theorem cutE_zero (n : Nat) : cutE n 0 = n := by
  by_cases h : n = 0
  · subst h; decide
  · have := cutE_exact n 0 h
    rwa [Nat.pow_zero, Nat.mul_one] at this

/-- The place of the last digit that is kept. -/
def lastP (m : Nat) (p : Int) : Int := max (p + (m.log2 : Int) - 52) (-1074)
def nr (m : Nat) (p : Int) : Nat :=
  if m = 0 then 0 else min ((lastP m p + 1074).toNat * B52 + cutE (m <<< (p - lastP m p).toNat) (lastP m p - p).toNat) INF
theorem nearest_d (s : Bool) (m : Nat) (p : Int) : Ieee.double.nearest s m p = wd s (nr m p) := by
  unfold Ieee.Format.nearest nr
  by_cases h : m = 0
  · rw [if_pos h, if_pos h, word_d]
  · rw [if_neg h, if_neg h]
    simp only [word_d, least_d, binade_d, infRung_d]
    show wd s (min ((lastP m p - (-1074)).toNat * B52 + Ieee.Toward.even.cut s (m <<< (p - lastP m p).toNat) (lastP m p - p).toNat) INF) = _
    rw [show lastP m p - (-1074) = lastP m p + 1074 by omega]
    rfl
theorem nr_le (m : Nat) (p : Int) : nr m p ≤ INF := by unfold nr; split; omega; exact Nat.min_le_right _ _
theorem nr_zero (p : Int) : nr 0 p = 0 := by simp [nr]

theorem kept_le (m : Nat) (p : Int) : cutE (m <<< (p - lastP m p).toNat) (lastP m p - p).toNat ≤ 2 ^ 53 := by
  apply cutE_le
  have hl : p + (m.log2 : Int) - 52 ≤ lastP m p := by unfold lastP; omega
  rw [Nat.shiftLeft_eq]
  have h1 := lt_two_pow_log m
  have h2 : m * 2 ^ (p - lastP m p).toNat < 2 ^ (m.log2 + 1) * 2 ^ (p - lastP m p).toNat := Nat.mul_lt_mul_of_pos_right h1 (Nat.two_pow_pos _)
  rw [← Nat.pow_add] at h2
  exact Nat.lt_of_lt_of_le h2 (Nat.pow_le_pow_right (by omega) (by omega))

theorem nr_bd (m : Nat) (p k : Int) (hk : -1021 ≤ k) (h : p + (m.log2 : Int) < k) : nr m p ≤ (k + 1023).toNat * B52 := by
  unfold nr
  by_cases hm : m = 0
  · rw [if_pos hm]; exact Nat.zero_le _
  · rw [if_neg hm]
    refine Nat.le_trans (Nat.min_le_left _ _) ?_
    have h1 := kept_le m p
    have h2 : (2 : Nat) ^ 53 = 2 * B52 := by decide
    rw [h2] at h1
    have h3 : (lastP m p + 1074).toNat + 2 ≤ (k + 1023).toNat := by unfold lastP; omega
    have h4 : ((lastP m p + 1074).toNat + 2) * B52 ≤ (k + 1023).toNat * B52 := Nat.mul_le_mul_right _ h3
    rw [Nat.add_mul] at h4
    omega

theorem nr_one (q E : Nat) (p : Int) (hp : p = -(E : Int)) (h : q ≤ 2 ^ E) : nr q p ≤ 1023 * B52 := by
  by_cases hq : q = 0
  · subst hq; rw [nr_zero]; exact Nat.zero_le _
  rcases Nat.lt_or_ge q (2 ^ E) with c | c
  · have : q.log2 < E := (Nat.log2_lt hq).2 c
    exact nr_bd q p 0 (by omega) (by omega)
  · have e : q = 2 ^ E := by omega
    subst e
    unfold nr
    rw [if_neg hq]
    refine Nat.le_trans (Nat.min_le_left _ _) ?_
    have hl : (2 ^ E).log2 = E := Nat.log2_two_pow
    have hL : lastP (2 ^ E) p = -52 := by unfold lastP; rw [hl]; omega
    rw [hL, hp, Nat.shiftLeft_eq, ← Nat.pow_add]
    have : E + (-(E : Int) - -52).toNat = 52 + (-52 - -(E : Int)).toNat := by omega
    rw [this, Nat.pow_add, cutE_exact _ _ (by decide)]
    decide

/-- Whole numbers. -/
theorem nr_int (m : Nat) (hm : m ≠ 0) (h : m < 18446744073709551616) : nr m 0 = (m.log2 + 1022) * B52 + cutE (m <<< (52 - m.log2)) (m.log2 - 52) := by
  have hl : m.log2 < 64 := (Nat.log2_lt hm).2 h
  have hL : lastP m 0 = (m.log2 : Int) - 52 := by unfold lastP; omega
  have k1 := kept_le m 0
  rw [hL] at k1
  rw [show ((0 : Int) - ((m.log2 : Int) - 52)).toNat = 52 - m.log2 by omega, show ((m.log2 : Int) - 52 - 0).toNat = m.log2 - 52 by omega] at k1
  unfold nr
  rw [if_neg hm, hL, show ((0 : Int) - ((m.log2 : Int) - 52)).toNat = 52 - m.log2 by omega, show ((m.log2 : Int) - 52 - 0).toNat = m.log2 - 52 by omega, show ((m.log2 : Int) - 52 + 1074).toNat = m.log2 + 1022 by omega]
  apply Nat.min_eq_left
  have h2 : (2 : Nat) ^ 53 = 2 * B52 := by decide
  have h3 : INF = 2047 * B52 := by decide
  have h4 : (m.log2 + 1022) * B52 ≤ (63 + 1022) * B52 := Nat.mul_le_mul_right _ (by omega)
  omega
theorem kept_ge (m : Nat) (hm : m ≠ 0) : B52 ≤ cutE (m <<< (52 - m.log2)) (m.log2 - 52) := by
  obtain ⟨l1, l2⟩ := log2_bd m hm
  have e : B52 = 2 ^ 52 := by decide
  rcases Nat.le_total m.log2 52 with c | c
  · rw [show m.log2 - 52 = 0 by omega, cutE_zero, Nat.shiftLeft_eq, e]
    have := Nat.mul_le_mul_right (2 ^ (52 - m.log2)) l1
    rwa [← Nat.pow_add, show m.log2 + (52 - m.log2) = 52 by omega] at this
  · rw [show 52 - m.log2 = 0 by omega, Nat.shiftLeft_zero]
    refine Nat.le_trans ?_ (cutE_ge m (m.log2 - 52) (by omega))
    rw [Nat.le_div_iff_mul_le (Nat.two_pow_pos _), e, ← Nat.pow_add, show 52 + (m.log2 - 52) = m.log2 by omega]
    exact l1
theorem kept_le' (m : Nat) : cutE (m <<< (52 - m.log2)) (m.log2 - 52) ≤ 2 * B52 := by
  have k1 := kept_le m 0
  have hL : lastP m 0 = (m.log2 : Int) - 52 := by unfold lastP; omega
  rw [hL, show ((0 : Int) - ((m.log2 : Int) - 52)).toNat = 52 - m.log2 by omega, show ((m.log2 : Int) - 52 - 0).toNat = m.log2 - 52 by omega] at k1
  exact Nat.le_trans k1 (by decide)
theorem nr_int_lt (m : Nat) (h : m < 18446744073709551616) : nr m 0 < INF := by
  by_cases hm : m = 0
  · subst hm; rw [nr_zero]; decide
  · rw [nr_int m hm h]
    have hl : m.log2 < 64 := (Nat.log2_lt hm).2 h
    have k1 := kept_le' m
    have h3 : INF = 2047 * B52 := by decide
    have h4 : (m.log2 + 1022) * B52 ≤ (63 + 1022) * B52 := Nat.mul_le_mul_right _ (by omega)
    have : 0 < B52 := by decide
    omega
theorem nr_int_pos (m : Nat) (hm : m ≠ 0) (h : m < 18446744073709551616) : 0 < nr m 0 := by
  rw [nr_int m hm h]
  have := kept_ge m hm
  have : 0 < B52 := by decide
  omega
theorem nr_int_mono (a b : Nat) (hab : a ≤ b) (h : b < 18446744073709551616) : nr a 0 ≤ nr b 0 := by
  by_cases ha : a = 0
  · subst ha; rw [nr_zero]; exact Nat.zero_le _
  have hb : b ≠ 0 := by omega
  rw [nr_int a ha (by omega), nr_int b hb h]
  have hl : a.log2 ≤ b.log2 := (Nat.le_log2 hb).2 (Nat.le_trans (Nat.log2_self_le ha) hab)
  rcases Nat.lt_or_ge a.log2 b.log2 with c | c
  · have k1 := kept_le' a
    have k2 := kept_ge b hb
    have h4 : (a.log2 + 1 + 1022) * B52 ≤ (b.log2 + 1022) * B52 := Nat.mul_le_mul_right _ (by omega)
    rw [show (a.log2 + 1 + 1022) = (a.log2 + 1022) + 1 by omega, Nat.add_mul] at h4
    omega
  · have e : a.log2 = b.log2 := by omega
    rw [e]
    refine Nat.add_le_add_left ?_ _
    rcases Nat.le_total b.log2 52 with d | d
    · rw [show b.log2 - 52 = 0 by omega, cutE_zero, cutE_zero, Nat.shiftLeft_eq, Nat.shiftLeft_eq]
      exact Nat.mul_le_mul_right _ hab
    · rw [show 52 - b.log2 = 0 by omega, Nat.shiftLeft_zero, Nat.shiftLeft_zero]
      exact cutE_mono a b _ hab (by omega) (by omega)

/-- A whole number as a float. -/
def ofI (n : Int) : Nat := wd (decide (n < 0)) (nr n.natAbs 0)
theorem floatOfInt_d (n : Int) : floatOfInt .f64 n = ofI n := by
  show Ieee.double.nearest _ _ _ = _
  rw [nearest_d]; rfl

/-- Words that are numbers, read. -/
theorem read_fin (b : Nat) (h : b < 18446744073709551616) (hf : rung b < INF) : Ieee.double.read b = .number (sgn b) (mg (rung b)) (-1074 + (pl (rung b) : Int)) := by
  rw [read_d b h, if_neg (by omega), if_neg (by omega)]
theorem read_inf (b : Nat) (h : b < 18446744073709551616) (hf : rung b = INF) : Ieee.double.read b = .infinity (sgn b) := by
  rw [read_d b h, if_neg (by omega), if_pos hf]
theorem mg_ne (r : Nat) (h : r ≠ 0) : mg r ≠ 0 := by
  have : 0 < B52 := by decide
  unfold mg
  split <;> omega
theorem mg_zero : mg 0 = 0 := by decide

/-- Quotients. -/
def qmore (m n : Nat) : Nat := 54 + n.log2 - m.log2
def qm (m n : Nat) : Nat := 2 * ((m <<< qmore m n) / n) + ((m <<< qmore m n) % n != 0).toNat
def qp (i j : Nat) (m n : Nat) : Int := (-1074 + (i : Int)) - (-1074 + (j : Int)) - (qmore m n : Int) - 1
theorem div_fin (x y : Nat) (hx : x < 18446744073709551616) (hy : y < 18446744073709551616) (fx : rung x < INF) (fy : rung y < INF) (ny : rung y ≠ 0) :
    Ieee.double.div x y = some (wd (sgn x ^^ sgn y) (nr (qm (mg (rung x)) (mg (rung y))) (qp (pl (rung x)) (pl (rung y)) (mg (rung x)) (mg (rung y))))) := by
  unfold Ieee.Format.div
  rw [read_fin x hx fx, read_fin y hy fy]
  simp only [Ieee.Datum.quotient]
  rw [if_neg (mg_ne _ ny)]
  simp only [Option.map_some, Ieee.Format.write]
  rw [nearest_d]
  rfl
theorem div_zero (x y : Nat) (hx : x < 18446744073709551616) (hy : y < 18446744073709551616) (fx : rung x < INF) (nx : rung x ≠ 0) (ny : rung y = 0) :
    Ieee.double.div x y = some (wd (sgn x ^^ sgn y) INF) := by
  unfold Ieee.Format.div
  rw [read_fin x hx fx, read_fin y hy (by rw [ny]; decide), ny, mg_zero]
  simp only [Ieee.Datum.quotient]
  rw [if_pos trivial, if_neg (mg_ne _ nx)]
  simp only [Option.map_some, Ieee.Format.write, word_d, infRung_d]
theorem div_none (x y : Nat) (hx : x < 18446744073709551616) (hy : y < 18446744073709551616) (nx : rung x = 0) (ny : rung y = 0) :
    Ieee.double.div x y = none := by
  unfold Ieee.Format.div
  rw [read_fin x hx (by rw [nx]; decide), read_fin y hy (by rw [ny]; decide), ny, nx, mg_zero]
  simp [Ieee.Datum.quotient]
theorem div_inf (x y : Nat) (hx : x < 18446744073709551616) (hy : y < 18446744073709551616) (fx : rung x = INF) (fy : rung y < INF) :
    Ieee.double.div x y = some (wd (sgn x ^^ sgn y) INF) := by
  unfold Ieee.Format.div
  rw [read_inf x hx fx, read_fin y hy fy]
  simp only [Ieee.Datum.quotient, Option.map_some, Ieee.Format.write, word_d, infRung_d]
theorem qm_zero (n : Nat) : qm 0 n = 0 := by simp [qm]

theorem quo_one (m n i j : Nat) (hn : n ≠ 0) (h : m * 2 ^ i ≤ n * 2 ^ j) : nr (qm m n) (qp i j m n) ≤ 1023 * B52 := by
  by_cases hm : m = 0
  · subst hm; rw [qm_zero, nr_zero]; exact Nat.zero_le _
  obtain ⟨a1, a2⟩ := log2_bd m hm
  obtain ⟨b1, b2⟩ := log2_bd n hn
  have hlog : m.log2 + i ≤ n.log2 + j := by
    have h1 : 2 ^ (m.log2 + i) ≤ m * 2 ^ i := by rw [Nat.pow_add]; exact Nat.mul_le_mul_right _ a1
    have h2 : n * 2 ^ j < 2 ^ (n.log2 + 1 + j) := by rw [Nat.pow_add]; exact Nat.mul_lt_mul_of_pos_right b2 (Nat.two_pow_pos _)
    have h3 : (2 : Nat) ^ (m.log2 + i) < 2 ^ (n.log2 + 1 + j) := by omega
    have := (Nat.pow_lt_pow_iff_right (by decide : 1 < 2)).1 h3
    omega
  have he : i ≤ j + qmore m n := by unfold qmore; omega
  refine nr_one (qm m n) (j + qmore m n - i + 1) _ (by unfold qp; omega) ?_
  have hd : m <<< qmore m n ≤ n * 2 ^ (j + qmore m n - i) := by
    rw [Nat.shiftLeft_eq]
    have h1 : m * 2 ^ qmore m n * 2 ^ i ≤ n * 2 ^ (j + qmore m n - i) * 2 ^ i := by
      rw [Nat.mul_assoc n, ← Nat.pow_add, show j + qmore m n - i + i = j + qmore m n by omega, Nat.pow_add, ← Nat.mul_assoc, Nat.mul_right_comm m]
      exact Nat.mul_le_mul_right _ h
    exact Nat.le_of_mul_le_mul_right h1 (Nat.two_pow_pos _)
  unfold qm
  generalize m <<< qmore m n = D at *
  generalize j + qmore m n - i = e at *
  rw [Nat.pow_succ]
  generalize 2 ^ e = T at *
  have hdm := Nat.div_add_mod D n
  have hle : D / n ≤ T := Nat.div_le_of_le_mul hd
  by_cases c : D / n = T
  · have hr : D % n = 0 := by rw [c] at hdm; omega
    rw [hr, c]; simp; omega
  · have := toNat_le (D % n != 0)
    omega

/-- Sums. -/
theorem add_some (x y : Nat) (hx : x < 18446744073709551616) (hy : y < 18446744073709551616) (fx : rung x ≤ INF) (fy : rung y < INF) :
    ∃ r, Ieee.double.add x y = some r ∧ r < 18446744073709551616 ∧ rung r ≤ INF := by
  have hw := INF_lt
  unfold Ieee.Format.add
  rw [read_fin y hy fy]
  rcases Nat.lt_or_ge (rung x) INF with c | c
  · rw [read_fin x hx c]
    simp only [Ieee.Datum.sum, Option.map_some, Ieee.Format.write]
    rw [nearest_d]
    refine ⟨_, rfl, wd_lt _ _ (Nat.lt_of_le_of_lt (nr_le _ _) hw), ?_⟩
    rw [rung_wd _ _ (Nat.lt_of_le_of_lt (nr_le _ _) hw)]
    exact nr_le _ _
  · rw [read_inf x hx (by omega)]
    simp only [Ieee.Datum.sum, Option.map_some, Ieee.Format.write, word_d, infRung_d]
    refine ⟨_, rfl, wd_lt _ _ hw, ?_⟩
    rw [rung_wd _ _ hw]; omega

/-- How great a float is, by its rung. -/
theorem top_le (r e : Nat) (h : r < (e + 1) * B52) (h1 : 1 ≤ e) : (pl r : Int) - 1074 + ((mg r).log2 : Int) < (e : Int) - 1022 := by
  have hB : B52 = 2 ^ 52 := by decide
  have hB0 : 0 < B52 := by decide
  have hd : r / B52 ≤ e := by
    have : r / B52 < e + 1 := (Nat.div_lt_iff_lt_mul hB0).2 h
    omega
  by_cases c : r < B52
  · have : mg r = r := by simp [mg, c]
    rw [this]
    have hp : pl r = 0 := by simp [pl, Nat.div_eq_of_lt c]
    rw [hp]
    by_cases hr : r = 0
    · subst hr; simp; omega
    · have : r.log2 < 52 := (Nat.log2_lt hr).2 (by rw [← hB]; exact c)
      omega
  · have hm : mg r < 2 ^ 53 := by
      simp only [mg, c, if_false]
      have := Nat.mod_lt r hB0
      have e2 : (2 : Nat) ^ 53 = 2 * B52 := by decide
      omega
    have hl : (mg r).log2 < 53 := (Nat.log2_lt (mg_ne r (by omega))).2 hm
    have hge : 1 ≤ r / B52 := (Nat.le_div_iff_mul_le hB0).2 (by omega)
    unfold pl
    omega

/-- A product of a float of at most 2 ^ 20 with one of at most 2 ^ 14; and a half more. -/
theorem points_d (f : Nat) (hf : f < 18446744073709551616) (h : rung f < 1043 * B52) :
    ∃ x y n, Ieee.double.mul f 4666723172467343360 = some x ∧ Ieee.double.add x 4602678819172646912 = some y ∧ floatToIntVal .f64 y .i64 = some n := by
  have hw := INF_lt
  have hI : INF = 2047 * B52 := by decide
  have hB0 : 0 < B52 := by decide
  have t1 := top_le (rung f) 1042 (by omega) (by omega)
  have r2 : Ieee.double.read 4666723172467343360 = .number false 5497558138880000 (-39) := by decide
  have l2 : (5497558138880000 : Nat).log2 = 52 := by decide
  have r3 : Ieee.double.read 4602678819172646912 = .number false 4503599627370496 (-53) := by decide
  -- the product
  have hmul : Ieee.double.mul f 4666723172467343360 = some (wd (sgn f ^^ false) (nr (mg (rung f) * 5497558138880000) (-1074 + (pl (rung f) : Int) + -39))) := by
    unfold Ieee.Format.mul
    rw [read_fin f hf (by omega), r2]
    simp only [Ieee.Datum.product, Option.map_some, Ieee.Format.write]
    rw [nearest_d]
  have b1 : nr (mg (rung f) * 5497558138880000) (-1074 + (pl (rung f) : Int) + -39) ≤ (35 + 1023) * B52 := by
    refine nr_bd _ _ 35 (by omega) ?_
    by_cases z : mg (rung f) = 0
    · rw [z]; simp; omega
    · have hl : (mg (rung f) * 5497558138880000).log2 < (mg (rung f)).log2 + 1 + 53 := by
        rw [Nat.log2_lt (Nat.mul_ne_zero z (by decide)), Nat.pow_add]
        exact Nat.mul_lt_mul'' (lt_two_pow_log _) (by decide)
      omega
  generalize nr (mg (rung f) * 5497558138880000) (-1074 + (pl (rung f) : Int) + -39) = r at *
  have hr : r < W63 := by omega
  have hrI : r < INF := by omega
  have t2 := top_le r 1058 (by omega) (by omega)
  -- the sum
  obtain ⟨T, s2, hadd, hT⟩ : ∃ (T : Nat) (s2 : Bool) , Ieee.double.add (wd (sgn f ^^ false) r) 4602678819172646912 = some (wd s2 (nr T (min (-1074 + (pl r : Int)) (-53)))) ∧ (min (-1074 + (pl r : Int)) (-53) + (T.log2 : Int) < 38) := by
    unfold Ieee.Format.add
    rw [read_fin _ (wd_lt _ _ hr) (by rw [rung_wd _ _ hr]; exact hrI), r3, rung_wd _ _ hr]
    simp only [Ieee.Datum.sum, Option.map_some, Ieee.Format.write]
    rw [nearest_d]
    refine ⟨_, _, rfl, ?_⟩
    generalize hbase : min (-1074 + (pl r : Int)) (-53) = base
    generalize hA : (Ieee.signed (sgn (wd (sgn f ^^ false) r)) (mg r) (-1074 + (pl r : Int) - base).toNat + Ieee.signed false 4503599627370496 (-53 - base).toNat).natAbs = A
    have u1 : mg r <<< (-1074 + (pl r : Int) - base).toNat < 2 ^ (37 - base).toNat := by
      rw [Nat.shiftLeft_eq]
      have h1 : mg r * 2 ^ (-1074 + (pl r : Int) - base).toNat < 2 ^ ((mg r).log2 + 1) * 2 ^ (-1074 + (pl r : Int) - base).toNat := Nat.mul_lt_mul_of_pos_right (lt_two_pow_log _) (Nat.two_pow_pos _)
      rw [← Nat.pow_add] at h1
      exact Nat.lt_of_lt_of_le h1 (Nat.pow_le_pow_right (by omega) (by omega))
    have u2 : 4503599627370496 <<< (-53 - base).toNat < 2 ^ (37 - base).toNat := by
      rw [Nat.shiftLeft_eq, show (4503599627370496 : Nat) = 2 ^ 52 by decide, ← Nat.pow_add]
      exact Nat.pow_lt_pow_right (by omega) (by omega)
    have u3 : A < 2 ^ ((37 - base).toNat + 1) := by
      rw [Nat.pow_succ, ← hA]
      unfold Ieee.signed
      generalize mg r <<< (-1074 + (pl r : Int) - base).toNat = X at *
      generalize (4503599627370496 : Nat) <<< (-53 - base).toNat = Y at *
      split <;> simp <;> omega
    by_cases z : A = 0
    · rw [z]; simp; omega
    · have := (Nat.log2_lt z).2 u3
      omega
  have b2 := nr_bd T _ 38 (by omega) hT
  generalize nr T (min (-1074 + (pl r : Int)) (-53)) = q at *
  have b3 : q ≤ 1061 * B52 := b2
  have hq : q < W63 := by omega
  have hqI : q < INF := by omega
  -- the whole part
  have hto : ∃ n, floatToIntVal .f64 (wd s2 q) .i64 = some n := by
    unfold floatToIntVal
    have hd : FloatKind.decode .f64 (wd s2 q) = .number s2 (mg q) (-1074 + (pl q : Int)) := by
      show Ieee.double.read _ = _
      rw [read_fin _ (wd_lt _ _ hq) (by rw [rung_wd _ _ hq]; exact hqI), rung_wd _ _ hq, sgn_wd _ _ hq]
    rw [hd]
    simp only [Ieee.Datum.toInt, Ieee.Datum.integral]
    have hp : (-1074 + (pl q : Int)).toNat = 0 := by
      have : q / B52 ≤ 1061 := Nat.div_le_of_le_mul (by rw [Nat.mul_comm]; exact b3)
      unfold pl; omega
    rw [hp, Nat.shiftLeft_zero]
    have hm : mg q < 9007199254740992 := by
      unfold mg
      have : B52 = 4503599627370496 := rfl
      have := Nat.mod_lt q hB0
      split <;> omega
    have hc : Ieee.Toward.zero.cut s2 (mg q) (-(-1074 + (pl q : Int))).toNat ≤ mg q := by
      unfold Ieee.Toward.cut
      simp
      exact Nat.div_le_self _ _
    generalize Ieee.Toward.zero.cut s2 (mg q) (-(-1074 + (pl q : Int))).toNat = N at *
    refine ⟨Ieee.signed s2 N 0, ?_⟩
    rw [if_pos]
    unfold Ieee.signed
    rw [Nat.shiftLeft_zero]
    have e1 : IntKind.i64.min = -9223372036854775808 := by decide
    have e2 : IntKind.i64.max = 9223372036854775807 := by decide
    rw [e1, e2]
    split <;> omega
  obtain ⟨n, hn⟩ := hto
  exact ⟨_, _, n, hmul, hadd, hn⟩

end Go.Proofs.Ytcfmacpogmkadaa
