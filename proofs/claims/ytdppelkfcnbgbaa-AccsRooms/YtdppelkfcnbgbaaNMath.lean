/-
  Digits' plain mathematics: the number that digits are, which texts are a number's, an amount's; amounts as texts.
-/
import Derived.Lib.ItoaNum
namespace Go.Proofs.Ytdppelkfcnbgbaa.Nu
open Go.Lib

def isD (c : UInt8) : Bool := decide (48 ≤ c.toNat) && decide (c.toNat ≤ 57)
def allD (l : List UInt8) : Bool := l.all isD
def numL (l : List UInt8) : Nat := l.foldl (fun n c => n * 10 + (c.toNat - 48)) 0
def canon (l : List UInt8) : Bool := !l.isEmpty && allD l && (l.head? != some 48 || l == [48])
def riOk (l : List UInt8) (most : Int) : Bool := canon l && decide ((l.length : Int) ≤ most) && decide (l.length ≤ 18)
def riV (l : List UInt8) (most : Int) : Int := if riOk l most = true then (numL l : Int) else 0
def riE (l : List UInt8) (most : Int) : Int := if riOk l most = true then 0 else 4
def whole (l : List UInt8) : List UInt8 := l.takeWhile (fun c => c != 46)
def hasDot (l : List UInt8) : Bool := decide ((whole l).length < l.length)
def behind (l : List UInt8) : List UInt8 := l.drop ((whole l).length + 1)
def ctOk (b : List UInt8) : Bool := (b.length == 1 || b.length == 2) && allD b
def ctV (b : List UInt8) : Nat := if b.length = 1 then numL b * 10 else numL b
def mnRaw (l : List UInt8) : Nat := numL (whole l) * 100 + if hasDot l = true then ctV (behind l) else 0
def mnOk (l : List UInt8) : Bool := riOk (whole l) 12 && (!hasDot l || ctOk (behind l)) && decide (mnRaw l ≤ 10000000000000)
def mnV (l : List UInt8) : Int := if mnOk l = true then (mnRaw l : Int) else 0
def mnE (l : List UInt8) : Int := if mnOk l = true then 0 else 8
def below (l : List UInt8) : Bool := l.head? == some 45
def sgOk (l : List UInt8) : Bool := if below l = true then mnOk l.tail && mnV l.tail != 0 else mnOk l
def sgV (l : List UInt8) : Int := if below l = true then -mnV l.tail else mnV l
def sgE (l : List UInt8) : Int := if sgOk l = true then 0 else 8
def two (u : Nat) : List UInt8 := [UInt8.ofNat (48 + u / 10 % 10), UInt8.ofNat (48 + u % 10)]
def moneyU (u : Nat) : List UInt8 := decDigits (u / 100) ++ 46 :: two u
def moneyL (a : Int) : List UInt8 := (if a < 0 then [45] else []) ++ moneyU a.natAbs

/-! ### Digits and their number -/
theorem isD_iff (c : UInt8) : isD c = true ↔ 48 ≤ c.toNat ∧ c.toNat ≤ 57 := by simp [isD]
theorem numL_nil : numL [] = 0 := rfl
theorem numL_snoc (l : List UInt8) (c : UInt8) : numL (l ++ [c]) = numL l * 10 + (c.toNat - 48) := by simp [numL, List.foldl_append]
theorem allD_snoc (l : List UInt8) (c : UInt8) : allD (l ++ [c]) = (allD l && isD c) := by simp [allD, List.all_append]
theorem allD_app (l m : List UInt8) : allD (l ++ m) = (allD l && allD m) := by simp [allD, List.all_append]
theorem dg_toNat (k : Nat) (h : k < 10) : (UInt8.ofNat (48 + k)).toNat = 48 + k := by
  simp [UInt8.toNat_ofNat']; omega
theorem dg_isD (k : Nat) (h : k < 10) : isD (UInt8.ofNat (48 + k)) = true := by rw [isD_iff, dg_toNat k h]; omega
theorem snoc_cases (l : List UInt8) : l = [] ∨ ∃ t c, l = t ++ [c] := by
  rcases List.eq_nil_or_concat l with h | ⟨t, c, h⟩
  · exact Or.inl h
  · exact Or.inr ⟨t, c, by simpa using h⟩
theorem snoc_ind {p : List UInt8 → Prop} (h0 : p []) (h1 : ∀ t c, p t → p (t ++ [c])) (l : List UInt8) : p l := by
  have key : ∀ n (l : List UInt8), l.length = n → p l := by
    intro n
    induction n with
    | zero => intro l hl; rw [List.length_eq_zero_iff.1 hl]; exact h0
    | succ n ih =>
      intro l hl
      rcases snoc_cases l with rfl | ⟨t, c, rfl⟩
      · simp at hl
      · exact h1 t c (ih t (by simpa using hl))
  exact key _ l rfl
theorem numL_lt (l : List UInt8) : allD l = true → numL l < 10 ^ l.length := by
  refine snoc_ind (p := fun l => allD l = true → numL l < 10 ^ l.length) (by simp [numL]) (fun t c ih h => ?_) l
  rw [allD_snoc, Bool.and_eq_true] at h
  have := ih h.1
  have := (isD_iff c).1 h.2
  rw [numL_snoc, List.length_append, List.length_singleton, Nat.pow_succ]
  omega
theorem dec_small (u : Nat) (h : u < 10) : decDigits u = [UInt8.ofNat (48 + u)] := by rw [decDigits, dif_pos h]
theorem dec_big (u : Nat) (h : ¬ u < 10) : decDigits u = decDigits (u / 10) ++ [UInt8.ofNat (48 + u % 10)] := by rw [decDigits, dif_neg h]
theorem dec_allD (u : Nat) : allD (decDigits u) = true := by
  induction u using Nat.strongRecOn with
  | _ u ih =>
    by_cases h : u < 10
    · have := dg_isD u h
      rw [dec_small u h]
      generalize UInt8.ofNat (48 + u) = c at this ⊢
      simp [allD, this]
    · rw [dec_big u h, allD_snoc, ih (u / 10) (by omega), dg_isD _ (by omega)]; rfl
theorem dec_num (u : Nat) : numL (decDigits u) = u := by
  induction u using Nat.strongRecOn with
  | _ u ih =>
    by_cases h : u < 10
    · rw [dec_small u h, show [UInt8.ofNat (48 + u)] = [] ++ [UInt8.ofNat (48 + u)] from rfl, numL_snoc, numL_nil, dg_toNat u h]; omega
    · rw [dec_big u h, numL_snoc, ih (u / 10) (by omega), dg_toNat _ (by omega)]; omega
theorem dec_ne (u : Nat) : decDigits u ≠ [] := by
  by_cases h : u < 10
  · rw [dec_small u h]; simp
  · rw [dec_big u h]; simp
theorem head_app (l m : List UInt8) (h : l ≠ []) : (l ++ m).head? = l.head? := by
  cases l with
  | nil => exact absurd rfl h
  | cons a t => rfl
theorem dec_head (u : Nat) (h : 1 ≤ u) : (decDigits u).head? ≠ some 48 := by
  induction u using Nat.strongRecOn with
  | _ u ih =>
    by_cases hu : u < 10
    · rw [dec_small u hu]
      intro e
      have e2 : UInt8.ofNat (48 + u) = 48 := by simpa using e
      have := congrArg UInt8.toNat e2
      rw [dg_toNat u hu] at this
      simp at this; omega
    · rw [dec_big u hu, head_app _ _ (dec_ne _)]
      exact ih (u / 10) (by omega) (by omega)
theorem dec_canon (u : Nat) : canon (decDigits u) = true := by
  unfold canon
  rw [dec_allD]
  have hne : (decDigits u).isEmpty = false := by
    cases h : decDigits u with
    | nil => exact absurd h (dec_ne u)
    | cons a t => rfl
  rw [hne]
  by_cases h : u = 0
  · subst h; rw [dec_small 0 (by omega)]; rfl
  · have := dec_head u (by omega)
    simp [bne, this]
theorem c48 (c : UInt8) (h : isD c = true) (h0 : c ≠ 48) : 49 ≤ c.toNat := by
  have h1 := (isD_iff c).1 h
  have : c.toNat ≠ 48 := fun e => h0 (UInt8.toNat_inj.1 (by simpa using e))
  omega
theorem dg_back (c : UInt8) (h : isD c = true) : UInt8.ofNat (48 + (c.toNat - 48)) = c := by
  have h1 := (isD_iff c).1 h
  rw [show 48 + (c.toNat - 48) = c.toNat by omega]
  exact UInt8.ofNat_toNat
theorem numL_pos (l : List UInt8) : allD l = true → l ≠ [] → l.head? ≠ some 48 → 1 ≤ numL l := by
  refine snoc_ind (p := fun l => allD l = true → l ≠ [] → l.head? ≠ some 48 → 1 ≤ numL l) (fun _ h => absurd rfl h) (fun t c ih h _ h48 => ?_) l
  rw [allD_snoc, Bool.and_eq_true] at h
  rw [numL_snoc]
  by_cases e : t = []
  · subst e
    have hc : c ≠ 48 := by intro e; apply h48; simp [e]
    have := c48 c h.2 hc
    omega
  · have := ih h.1 e (by rw [← head_app t [c] e]; exact h48)
    omega
theorem num_dec (l : List UInt8) : allD l = true → l ≠ [] → l.head? ≠ some 48 → decDigits (numL l) = l := by
  refine snoc_ind (p := fun l => allD l = true → l ≠ [] → l.head? ≠ some 48 → decDigits (numL l) = l) (fun _ h => absurd rfl h) (fun t c ih h _ h48 => ?_) l
  rw [allD_snoc, Bool.and_eq_true] at h
  have hc := (isD_iff c).1 h.2
  rw [numL_snoc]
  by_cases e : t = []
  · subst e
    rw [numL_nil, dec_small _ (by omega), show 48 + (0 * 10 + (c.toNat - 48)) = 48 + (c.toNat - 48) by omega, dg_back c h.2]
    rfl
  · have h48' : t.head? ≠ some 48 := by rw [← head_app t [c] e]; exact h48
    have hp := numL_pos t h.1 e h48'
    rw [dec_big _ (by omega), show (numL t * 10 + (c.toNat - 48)) / 10 = numL t by omega, show (numL t * 10 + (c.toNat - 48)) % 10 = c.toNat - 48 by omega, ih h.1 e h48', dg_back c h.2]
theorem canon_dec (l : List UInt8) (h : canon l = true) : decDigits (numL l) = l := by
  unfold canon at h
  simp only [Bool.and_eq_true, Bool.not_eq_true', Bool.or_eq_true, bne_iff_ne, beq_iff_eq] at h
  obtain ⟨⟨h1, h2⟩, h3⟩ := h
  rcases h3 with h3 | h3
  · exact num_dec l h2 (by intro e; subst e; simp at h1) h3
  · subst h3; exact dec_small 0 (by omega)
theorem canon_iff (l : List UInt8)  : (decDigits (numL l) = l) ↔ canon l = true := by
  constructor
  · intro e; rw [← e]; exact dec_canon _
  · exact canon_dec l
theorem canon_allD (l : List UInt8) (h : canon l = true) : allD l = true ∧ l ≠ [] := by
  unfold canon at h
  simp only [Bool.and_eq_true, Bool.not_eq_true'] at h
  exact ⟨h.1.2, by intro e; subst e; simp at h⟩
theorem nD_le (u k : Nat) (h : u < 10 ^ k) (hk : 1 ≤ k) : nDigits u ≤ k := by
  induction u using Nat.strongRecOn generalizing k with
  | _ u ih =>
    by_cases hu : u < 10
    · rw [nDigits_small hu]; exact hk
    · rw [nDigits_big hu]
      obtain ⟨j, rfl⟩ : ∃ j, k = j + 1 := ⟨k - 1, by omega⟩
      have hj : 1 ≤ j := by
        rcases Nat.eq_zero_or_pos j with e | e
        · subst e; simp at h; omega
        · exact e
      rw [Nat.pow_succ] at h
      have := ih (u / 10) (by omega) j (by omega) hj
      omega
theorem dec_len (u k : Nat) (h : u < 10 ^ k) (hk : 1 ≤ k) : (decDigits u).length ≤ k := by rw [decDigits_length]; exact nD_le u k h hk
theorem nD_mono (a b : Nat) (h : a ≤ b) : nDigits a ≤ nDigits b := nD_le a _ (by have := lt_pow_nDigits b; omega) (nDigits_pos b)

/-! ### What is read -/
theorem ri_bd (l : List UInt8) (most : Int) : 0 ≤ riV l most ∧ riV l most < 1000000000000000000 := by
  unfold riV
  split
  · rename_i h
    unfold riOk at h
    simp only [Bool.and_eq_true, decide_eq_true_eq] at h
    have h1 := numL_lt l (canon_allD l h.1.1).1
    have h2 : 10 ^ l.length ≤ 10 ^ 18 := Nat.pow_le_pow_right (by omega) h.2
    have h3 : (10 : Nat) ^ 18 = 1000000000000000000 := rfl
    omega
  · omega
theorem ri_bd12 (l : List UInt8) : 0 ≤ riV l 12 ∧ riV l 12 < 1000000000000 := by
  unfold riV
  split
  · rename_i h
    unfold riOk at h
    simp only [Bool.and_eq_true, decide_eq_true_eq] at h
    have h1 := numL_lt l (canon_allD l h.1.1).1
    have h2 : 10 ^ l.length ≤ 10 ^ 12 := Nat.pow_le_pow_right (by omega) (by omega)
    have h3 : (10 : Nat) ^ 12 = 1000000000000 := rfl
    omega
  · omega
theorem ct_bd (b : List UInt8) (h : ctOk b = true) : ctV b ≤ 99 := by
  unfold ctOk at h
  simp only [Bool.and_eq_true, Bool.or_eq_true, beq_iff_eq] at h
  have h1 := numL_lt b h.2
  unfold ctV
  rcases h.1 with e | e
  · rw [e] at h1; rw [if_pos e]; omega
  · rw [e] at h1; rw [if_neg (by omega)]; omega
theorem ri_dec (u : Nat) (most : Int) (k : Nat) (h : u < 10 ^ k) (hk : 1 ≤ k) (h18 : k ≤ 18) (hm : (k : Int) ≤ most) : riOk (decDigits u) most = true := by
  unfold riOk
  have := dec_len u k h hk
  rw [dec_canon]
  simp only [Bool.true_and, Bool.and_eq_true, decide_eq_true_eq]
  omega
theorem isD_ne46 (c : UInt8) (h : isD c = true) : (c != 46) = true := by
  have h1 := (isD_iff c).1 h
  simp only [bne_iff_ne]
  intro e; subst e; simp at h1
theorem whole_dig (l m : List UInt8) (h : allD l = true) : whole (l ++ 46 :: m) = l := by
  unfold whole
  induction l with
  | nil => rfl
  | cons a t ih =>
    simp only [allD, List.all_cons, Bool.and_eq_true] at h
    rw [List.cons_append, List.takeWhile_cons, if_pos (isD_ne46 a h.1), ih h.2]
theorem whole_all (l : List UInt8) (h : allD l = true) : whole l = l := by
  unfold whole
  induction l with
  | nil => rfl
  | cons a t ih =>
    simp only [allD, List.all_cons, Bool.and_eq_true] at h
    rw [List.takeWhile_cons, if_pos (isD_ne46 a h.1), ih h.2]
theorem mn_dot (u : Nat) (b : List UInt8) (hb : ctOk b = true) (hu : u < 1000000000000) (hm : u * 100 + ctV b ≤ 10000000000000) : mnOk (decDigits u ++ 46 :: b) = true ∧ mnV (decDigits u ++ 46 :: b) = ((u * 100 + ctV b : Nat) : Int) := by
  have hw := whole_dig (decDigits u) b (dec_allD u)
  have hd : hasDot (decDigits u ++ 46 :: b) = true := by unfold hasDot; rw [hw]; simp
  have hbh : behind (decDigits u ++ 46 :: b) = b := by unfold behind; rw [hw]; simp
  have hr : mnRaw (decDigits u ++ 46 :: b) = u * 100 + ctV b := by unfold mnRaw; rw [hw, hd, hbh, dec_num]; rfl
  have ho : mnOk (decDigits u ++ 46 :: b) = true := by
    unfold mnOk
    rw [hr, hw, hd, hbh, hb, ri_dec u 12 12 (by omega) (by omega) (by omega) (by omega)]
    simpa using hm
  exact ⟨ho, by unfold mnV; rw [if_pos ho, hr]⟩
theorem mn_bare (u : Nat) (hu : u < 1000000000000) (hm : u * 100 ≤ 10000000000000) : mnOk (decDigits u) = true ∧ mnV (decDigits u) = ((u * 100 : Nat) : Int) := by
  have hw := whole_all (decDigits u) (dec_allD u)
  have hd : hasDot (decDigits u) = false := by unfold hasDot; rw [hw]; simp
  have hr : mnRaw (decDigits u) = u * 100 := by unfold mnRaw; rw [hw, hd, dec_num]; rfl
  have ho : mnOk (decDigits u) = true := by
    unfold mnOk
    rw [hr, hw, hd, ri_dec u 12 12 (by omega) (by omega) (by omega) (by omega)]
    simpa using hm
  exact ⟨ho, by unfold mnV; rw [if_pos ho, hr]⟩
theorem two_ok (u : Nat) : ctOk (two u) = true ∧ ctV (two u) = u % 100 := by
  have h1 := dg_isD (u / 10 % 10) (by omega)
  have h2 := dg_isD (u % 10) (by omega)
  refine ⟨by unfold two; generalize UInt8.ofNat (48 + u / 10 % 10) = c at h1 ⊢; generalize UInt8.ofNat (48 + u % 10) = d at h2 ⊢; simp [ctOk, allD, h1, h2], ?_⟩
  unfold ctV
  rw [if_neg (by simp [two])]
  show numL ([] ++ [UInt8.ofNat (48 + u / 10 % 10)] ++ [UInt8.ofNat (48 + u % 10)]) = _
  rw [numL_snoc, numL_snoc, numL_nil, dg_toNat _ (by omega), dg_toNat _ (by omega)]
  omega
theorem one_ok (k : Nat) (h : k < 10) : ctOk (decDigits k) = true ∧ ctV (decDigits k) = k * 10 ∧ ctOk (decDigits k ++ [48]) = true ∧ ctV (decDigits k ++ [48]) = k * 10 := by
  have h1 := dg_isD k h
  have e : numL [UInt8.ofNat (48 + k)] = k := by have := dec_num k; rwa [dec_small k h] at this
  have e2 : numL ([UInt8.ofNat (48 + k)] ++ [48]) = k * 10 := by rw [numL_snoc, e]; rfl
  rw [dec_small k h]
  generalize UInt8.ofNat (48 + k) = c at h1 e e2 ⊢
  refine ⟨by simp [ctOk, allD, h1], by simp [ctV, e], by simp [ctOk, allD, h1]; rfl, ?_⟩
  unfold ctV
  rw [if_neg (by simp), e2]
theorem mn_money (u : Nat) (h : u ≤ 10000000000000) : mnOk (moneyU u) = true ∧ mnV (moneyU u) = (u : Int) := by
  obtain ⟨h1, h2⟩ := two_ok u
  obtain ⟨a, b⟩ := mn_dot (u / 100) (two u) h1 (by omega) (by rw [h2]; omega)
  refine ⟨a, ?_⟩
  unfold moneyU
  rw [b, h2]
  omega
theorem money_head (u : Nat) : below (moneyU u) = false := by
  unfold below moneyU
  rw [head_app _ _ (dec_ne _)]
  have h := dec_allD (u / 100)
  cases e : decDigits (u / 100) with
  | nil => rfl
  | cons a t =>
    rw [e] at h
    simp only [allD, List.all_cons, Bool.and_eq_true] at h
    have h1 := (isD_iff a).1 h.1
    simp only [List.head?_cons, beq_eq_false_iff_ne, ne_eq, Option.some.injEq]
    intro e2; subst e2; simp at h1
theorem sg_money (a : Int) (h0 : -10000000000000 ≤ a) (h1 : a ≤ 10000000000000) : sgOk (moneyL a) = true ∧ sgV (moneyL a) = a := by
  obtain ⟨ho, hv⟩ := mn_money a.natAbs (by omega)
  unfold moneyL
  by_cases hn : a < 0
  · rw [if_pos hn]
    have hb : below ([45] ++ moneyU a.natAbs) = true := rfl
    have hd : ([45] ++ moneyU a.natAbs).tail = moneyU a.natAbs := rfl
    refine ⟨?_, ?_⟩
    · unfold sgOk
      rw [if_pos hb, hd, ho, hv]
      simp [bne]; omega
    · unfold sgV
      rw [if_pos hb, hd, hv]; omega
  · rw [if_neg hn, List.nil_append]
    have hb := money_head a.natAbs
    refine ⟨?_, ?_⟩
    · unfold sgOk
      rw [if_neg (by rw [hb]; decide), ho]
    · unfold sgV
      rw [if_neg (by rw [hb]; decide), hv]; omega
theorem mn_bd (l : List UInt8) : 0 ≤ mnV l ∧ mnV l ≤ 10000000000000 := by
  unfold mnV
  split
  · rename_i h
    unfold mnOk at h
    simp only [Bool.and_eq_true, decide_eq_true_eq] at h
    omega
  · omega
end Go.Proofs.Ytdppelkfcnbgbaa.Nu
