/-
  Texts put together (merge.py): DMath.
-/
/-
  The calendar's plain mathematics: leap years, months' lengths, days ahead of a day; a later day has more days ahead of it; each number of days has its day.
-/
section
namespace Go.Proofs.Ytpnkgkchpoehcaa.Da

def leapB (y : Int) : Bool := (y % 4 == 0 && y % 100 != 0) || y % 400 == 0
def lp (y : Int) : Int := if leapB y = true then 1 else 0
def lens : List Int := [31, 28, 31, 30, 31, 30, 31, 31, 30, 31, 30, 31]
def lenT (m : Int) : Int := lens.getD (m - 1).toNat 0
def lenM (y m : Int) : Int := if (m == 2 && leapB y) = true then 29 else lenT m
def cum (y m : Int) : Int := if m ≤ 2 then 31 * (m - 1) else (153 * (m - 3) + 2) / 5 + 59 + lp y
def ahead (y : Int) : Int := (y - 1) * 365 + (y - 1) / 4 - (y - 1) / 100 + (y - 1) / 400
def yr (n : Int) : Int := n.tdiv 10000
def mo (n : Int) : Int := (n.tdiv 100).tmod 100
def da (n : Int) : Int := n.tmod 100
def good (n : Int) : Bool := decide (1 ≤ yr n ∧ yr n ≤ 9999 ∧ 1 ≤ mo n ∧ mo n ≤ 12 ∧ 1 ≤ da n ∧ da n ≤ lenM (yr n) (mo n))
def dayOf (n : Int) : Int := ahead (yr n) + cum (yr n) (mo n) + da n - 1

theorem leap_iff (y : Int) : leapB y = true ↔ (y % 4 = 0 ∧ y % 100 ≠ 0) ∨ y % 400 = 0 := by simp [leapB]
theorem leap_not (y : Int) : leapB y = false ↔ ¬ ((y % 4 = 0 ∧ y % 100 ≠ 0) ∨ y % 400 = 0) := by rw [← leap_iff]; simp
theorem lp_cases (y : Int) : (lp y = 1 ∧ leapB y = true) ∨ (lp y = 0 ∧ leapB y = false) := by unfold lp; cases leapB y <;> simp
theorem lp_01 (y : Int) : 0 ≤ lp y ∧ lp y ≤ 1 := by rcases lp_cases y with h | h <;> omega
theorem yr_eq (n : Int) (h : 0 ≤ n) : yr n = n / 10000 := by unfold yr; exact Int.tdiv_eq_ediv_of_nonneg h
theorem mo_eq (n : Int) (h : 0 ≤ n) : mo n = n / 100 % 100 := by unfold mo; rw [Int.tdiv_eq_ediv_of_nonneg h, Int.tmod_eq_emod_of_nonneg (by omega)]
theorem da_eq (n : Int) (h : 0 ≤ n) : da n = n % 100 := by unfold da; exact Int.tmod_eq_emod_of_nonneg h
theorem yr_neg (n : Int) (h : n < 0) : yr n ≤ 0 := by
  unfold yr
  have := Int.tdiv_nonneg (a := -n) (b := 10000) (by omega) (by omega)
  rw [Int.neg_tdiv] at this
  omega

theorem month_cases (m : Int) (h1 : 1 ≤ m) (h2 : m ≤ 12) : m = 1 ∨ m = 2 ∨ m = 3 ∨ m = 4 ∨ m = 5 ∨ m = 6 ∨ m = 7 ∨ m = 8 ∨ m = 9 ∨ m = 10 ∨ m = 11 ∨ m = 12 := by omega
theorem cum_succ (y m : Int) (h1 : 1 ≤ m) (h2 : m ≤ 12) : cum y (m + 1) = cum y m + lenM y m := by
  rcases lp_cases y with ⟨a, b⟩ | ⟨a, b⟩ <;>
  rcases month_cases m h1 h2 with rfl | rfl | rfl | rfl | rfl | rfl | rfl | rfl | rfl | rfl | rfl | rfl <;> simp [cum, lenM, lenT, lens, a, b]
theorem lenM_bd (y m : Int) (h1 : 1 ≤ m) (h2 : m ≤ 12) : 28 ≤ lenM y m ∧ lenM y m ≤ 31 := by
  cases b : leapB y <;>
  rcases month_cases m h1 h2 with rfl | rfl | rfl | rfl | rfl | rfl | rfl | rfl | rfl | rfl | rfl | rfl <;> simp [lenM, lenT, lens, b]
theorem cum_bd (y m : Int) (h1 : 1 ≤ m) (h2 : m ≤ 13) : 0 ≤ cum y m ∧ cum y m ≤ 365 + lp y := by
  have := lp_01 y
  unfold cum; split <;> omega
theorem cum_mono (y m k : Int) (h1 : 1 ≤ m) (h2 : m ≤ k) (h3 : k ≤ 13) : cum y m ≤ cum y k := by
  have := lp_01 y
  unfold cum; split <;> split <;> omega
theorem cum_end (y : Int) : cum y 13 = 365 + lp y := by unfold cum; rw [if_neg (by omega)]; omega
theorem cum_one (y : Int) : cum y 1 = 0 := by simp [cum]
theorem ahead_succ (y : Int) (_h : 1 ≤ y) : ahead (y + 1) = ahead y + 365 + lp y := by
  rcases lp_cases y with ⟨a, b⟩ | ⟨a, b⟩
  · rw [leap_iff] at b
    rw [a]; unfold ahead; omega
  · rw [leap_not] at b
    rw [a]; unfold ahead; omega
theorem ahead_mono (y z : Int) (_h : 1 ≤ y) (k : y ≤ z) : ahead y ≤ ahead z := by unfold ahead; omega
theorem ahead_bd (y : Int) (h : 1 ≤ y) (k : y ≤ 10000) : 0 ≤ ahead y ∧ ahead y ≤ 3652059 := by unfold ahead; omega
theorem ahead_end : ahead 10000 = 3652059 := by decide
theorem ahead_guess (d : Int) (_h : 0 ≤ d) : ahead (d / 366 + 1) ≤ d := by unfold ahead; omega

theorem good_iff (n : Int) : good n = true ↔ (1 ≤ yr n ∧ yr n ≤ 9999 ∧ 1 ≤ mo n ∧ mo n ≤ 12 ∧ 1 ≤ da n ∧ da n ≤ lenM (yr n) (mo n)) := by simp [good]
theorem good_pos (n : Int) (h : good n = true) : 0 ≤ n := by
  rcases Int.lt_or_le n 0 with k | k
  · have := yr_neg n k
    have := ((good_iff n).1 h).1
    omega
  · exact k
theorem parts (n : Int) (h : 0 ≤ n) : n = yr n * 10000 + mo n * 100 + da n ∧ 0 ≤ mo n ∧ mo n ≤ 99 ∧ 0 ≤ da n ∧ da n ≤ 99 ∧ 0 ≤ yr n := by
  rw [yr_eq n h, mo_eq n h, da_eq n h]; omega
theorem made (y m d : Int) (hy : 0 ≤ y) (hm : 0 ≤ m) (hm' : m ≤ 99) (hd : 0 ≤ d) (hd' : d ≤ 99) : yr (y * 10000 + m * 100 + d) = y ∧ mo (y * 10000 + m * 100 + d) = m ∧ da (y * 10000 + m * 100 + d) = d := by
  have h : 0 ≤ y * 10000 + m * 100 + d := by omega
  rw [yr_eq _ h, mo_eq _ h, da_eq _ h]; omega
theorem good_bd (n : Int) (h : good n = true) : 10101 ≤ n ∧ n ≤ 99991231 := by
  have p := parts n (good_pos n h)
  obtain ⟨a, b, c, d, e, f⟩ := (good_iff n).1 h
  have := lenM_bd (yr n) (mo n) c d
  omega
theorem made_good (y m d : Int) (hy : 1 ≤ y) (hy' : y ≤ 9999) (hm : 1 ≤ m) (hm' : m ≤ 12) (hd : 1 ≤ d) (hd' : d ≤ lenM y m) :
    good (y * 10000 + m * 100 + d) = true ∧ dayOf (y * 10000 + m * 100 + d) = ahead y + cum y m + d - 1 := by
  have l := lenM_bd y m hm hm'
  obtain ⟨a, b, c⟩ := made y m d (by omega) (by omega) (by omega) (by omega) (by omega)
  rw [good_iff]; unfold dayOf; rw [a, b, c]
  exact ⟨⟨hy, hy', hm, hm', hd, hd'⟩, rfl⟩
theorem dayOf_bd (n : Int) (h : good n = true) : ahead (yr n) ≤ dayOf n ∧ dayOf n < ahead (yr n + 1) ∧ 0 ≤ dayOf n ∧ dayOf n < 3652059 := by
  obtain ⟨a, b, c, d, e, f⟩ := (good_iff n).1 h
  have h1 := cum_succ (yr n) (mo n) c d
  have h2 := cum_mono (yr n) (mo n + 1) 13 (by omega) (by omega) (by omega)
  have h3 := cum_end (yr n)
  have h4 := cum_bd (yr n) (mo n) c (by omega)
  have h5 := ahead_succ (yr n) a
  have h6 := ahead_bd (yr n) a (by omega)
  have h7 := ahead_bd (yr n + 1) (by omega) (by omega)
  unfold dayOf; omega
theorem dayOf_lt (m n : Int) (hm : good m = true) (hn : good n = true) (h : m < n) : dayOf m < dayOf n := by
  have pm := parts m (good_pos m hm)
  have pn := parts n (good_pos n hn)
  obtain ⟨a, b, c, d, e, f⟩ := (good_iff m).1 hm
  obtain ⟨a', b', c', d', e', f'⟩ := (good_iff n).1 hn
  have bm := dayOf_bd m hm
  have bn := dayOf_bd n hn
  rcases Int.lt_or_le (yr m) (yr n) with k | k
  · have := ahead_mono (yr m + 1) (yr n) (by omega) (by omega)
    omega
  · have e1 : yr m = yr n := by omega
    have e2 : dayOf m = ahead (yr n) + cum (yr n) (mo m) + da m - 1 := by unfold dayOf; rw [e1]
    have e3 : dayOf n = ahead (yr n) + cum (yr n) (mo n) + da n - 1 := rfl
    rcases Int.lt_or_le (mo m) (mo n) with k2 | k2
    · have h1 := cum_succ (yr n) (mo m) c d
      have h2 := cum_mono (yr n) (mo m + 1) (mo n) (by omega) (by omega) (by omega)
      rw [e1] at f
      omega
    · have e4 : mo m = mo n := by omega
      rw [e4] at e2
      omega
theorem dayOf_inj (m n : Int) (hm : good m = true) (hn : good n = true) (h : dayOf m = dayOf n) : m = n := by
  rcases Int.lt_trichotomy m n with k | k | k
  · have := dayOf_lt m n hm hn k; omega
  · exact k
  · have := dayOf_lt n m hn hm k; omega

/-- The day behind a day. -/
def nxt (n : Int) : Int := if da n < lenM (yr n) (mo n) then n + 1 else if mo n < 12 then yr n * 10000 + (mo n + 1) * 100 + 1 else (yr n + 1) * 10000 + 1 * 100 + 1
theorem nxt_good (n : Int) (h : good n = true) (k : n ≠ 99991231) : good (nxt n) = true ∧ dayOf (nxt n) = dayOf n + 1 := by
  have p := parts n (good_pos n h)
  obtain ⟨a, b, c, d, e, f⟩ := (good_iff n).1 h
  have l := lenM_bd (yr n) (mo n) c d
  have s := cum_succ (yr n) (mo n) c d
  have dn : dayOf n = ahead (yr n) + cum (yr n) (mo n) + da n - 1 := rfl
  unfold nxt
  split
  · rename_i hl
    have g := made_good (yr n) (mo n) (da n + 1) a b c d (by omega) (by omega)
    have e1 : yr n * 10000 + mo n * 100 + (da n + 1) = n + 1 := by omega
    rw [e1] at g
    exact ⟨g.1, by omega⟩
  · rename_i hl
    split
    · have l' := lenM_bd (yr n) (mo n + 1) (by omega) (by omega)
      have g := made_good (yr n) (mo n + 1) 1 a b (by omega) (by omega) (by omega) (by omega)
      exact ⟨g.1, by omega⟩
    · have m12 : mo n = 12 := by omega
      have c13 := cum_end (yr n)
      have c1 := cum_one (yr n + 1)
      have ahs := ahead_succ (yr n) a
      have l31 : lenM (yr n) 12 = 31 := by simp [lenM, lenT, lens]
      rw [m12] at s l f dn hl
      have l' := lenM_bd (yr n + 1) 1 (by omega) (by omega)
      have g := made_good (yr n + 1) 1 1 (by omega) (by omega) (by omega) (by omega) (by omega) (by omega)
      refine ⟨g.1, ?_⟩
      rw [g.2]
      have : (12 : Int) + 1 = 13 := rfl
      rw [this] at s
      omega
/-- The day that so many days lie ahead of: day by day from the first one. -/
def stepN : Nat → Int
  | 0 => 10101
  | k + 1 => nxt (stepN k)
theorem all_days (k : Nat) (h : (k : Int) < 3652059) : good (stepN k) = true ∧ dayOf (stepN k) = k := by
  induction k with
  | zero => exact ⟨by decide, by decide⟩
  | succ k ih =>
    obtain ⟨g, e⟩ := ih (by omega)
    have : stepN k ≠ 99991231 := by
      intro he
      have : dayOf 99991231 = 3652058 := by decide
      rw [he] at e
      omega
    obtain ⟨g', e'⟩ := nxt_good _ g this
    exact ⟨g', by rw [stepN, e', e]; omega⟩
def ofV (d : Int) : Int := if 0 ≤ d ∧ d < 3652059 then stepN d.toNat else 0
def ofE (d : Int) : Int := if 0 ≤ d ∧ d < 3652059 then 0 else 3
def daysV (n : Int) : Int := if good n = true then dayOf n else 0
def daysE (n : Int) : Int := if good n = true then 0 else 7
theorem of_spec (d : Int) (h0 : 0 ≤ d) (h1 : d < 3652059) : good (ofV d) = true ∧ dayOf (ofV d) = d := by
  obtain ⟨g, e⟩ := all_days d.toNat (by omega)
  unfold ofV
  rw [if_pos ⟨h0, h1⟩]
  exact ⟨g, by omega⟩
theorem of_eq (d n : Int) (g : good n = true) (e : dayOf n = d) : ofV d = n := by
  have b := dayOf_bd n g
  have s := of_spec d (by omega) (by omega)
  exact dayOf_inj _ _ s.1 g (by omega)
theorem of_out (d : Int) (h : ¬ (0 ≤ d ∧ d < 3652059)) : ofV d = 0 ∧ ofE d = 3 := by simp [ofV, ofE, h]
theorem of_in (d : Int) (h0 : 0 ≤ d) (h1 : d < 3652059) : ofE d = 0 := by simp [ofE, h0, h1]
theorem days_in (n : Int) (h : good n = true) : daysV n = dayOf n ∧ daysE n = 0 := by simp [daysV, daysE, h]
theorem days_out (n : Int) (h : good n = false) : daysV n = 0 ∧ daysE n = 7 := by simp [daysV, daysE, h]

theorem daysV_bd (n : Int) : 0 ≤ daysV n ∧ daysV n < 3652059 := by
  cases g : good n
  · rw [(days_out n g).1]; omega
  · have := dayOf_bd n g
    rw [(days_in n g).1]; omega

end Go.Proofs.Ytpnkgkchpoehcaa.Da
end
