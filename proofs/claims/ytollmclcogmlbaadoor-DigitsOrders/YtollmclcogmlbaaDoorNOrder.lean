/-
  Of two amounts of as many letters the one whose text stands first is the lesser one: the plain mathematics.
-/
import Derived.Test.YtollmclcogmlbaaDoorNMore
namespace Go.Proofs.YtollmclcogmlbaaDoor
open Go.RowKit Go.Sort Go.Lib

theorem bl_app : ∀ (l l' m m' : List UInt8), l.length = l'.length → Op.bytesLess (l ++ m) (l' ++ m') = (Op.bytesLess l l' || (l == l' && Op.bytesLess m m'))
  | [], [], m, m', _ => by simp [Op.bytesLess]
  | [], _ :: _, _, _, h => by simp at h
  | _ :: _, [], _, _, h => by simp at h
  | a :: l, b :: l', m, m', h => by
    have ih := bl_app l l' m m' (by simpa using h)
    simp only [List.cons_append, Op.bytesLess, ih]
    by_cases hab : a = b
    · subst hab; simp
    · have h1 : (a == b) = false := by simpa using hab
      have h2 : (a :: l == b :: l') = false := by rw [beq_eq_false_iff_ne]; intro e; exact hab (by simpa using (List.cons.inj e).1)
      rw [h1, h2]; simp
theorem bl_one (c d : UInt8) : Op.bytesLess [c] [d] = decide (c.toNat < d.toNat) := by
  simp [Op.bytesLess, UInt8.lt_iff_toNat_lt]
theorem bl_num : ∀ (n : Nat) (l l' : List UInt8), l.length = n → l'.length = n → allD l = true → allD l' = true → (Op.bytesLess l l' = decide (numL l < numL l')) ∧ ((l == l') = decide (numL l = numL l')) := by
  intro n
  induction n with
  | zero =>
    intro l l' h h' _ _
    rw [List.length_eq_zero_iff.1 h, List.length_eq_zero_iff.1 h']
    exact ⟨rfl, rfl⟩
  | succ n ih =>
    intro l l' h h' hd hd'
    rcases snoc_cases l with rfl | ⟨t, c, rfl⟩
    · simp at h
    rcases snoc_cases l' with rfl | ⟨t', c', rfl⟩
    · simp at h'
    rw [allD_snoc, Bool.and_eq_true] at hd hd'
    obtain ⟨i1, i2⟩ := ih t t' (by simpa using h) (by simpa using h') hd.1 hd'.1
    have b := (isD_iff c).1 hd.2
    have b' := (isD_iff c').1 hd'.2
    have e1 : (t ++ [c] == t' ++ [c']) = ((t == t') && (c == c')) := by
      rw [Bool.eq_iff_iff]
      simp only [beq_iff_eq, Bool.and_eq_true]
      constructor
      · intro e
        obtain ⟨x, y⟩ := List.append_inj' e rfl
        exact ⟨x, by simpa using y⟩
      · rintro ⟨x, y⟩; rw [x, y]
    have e2 : (c == c') = decide (c.toNat = c'.toNat) := by
      rw [Bool.eq_iff_iff]; simp [← UInt8.toNat_inj]
    rw [bl_app t t' [c] [c'] (by simp at h h'; omega), e1, e2, i1, i2, bl_one, numL_snoc, numL_snoc]
    constructor
    · rw [Bool.eq_iff_iff]; simp only [Bool.or_eq_true, Bool.and_eq_true, decide_eq_true_eq]; omega
    · rw [Bool.eq_iff_iff]; simp only [Bool.and_eq_true, decide_eq_true_eq]; omega
theorem numL_two (u : Nat) : numL (two u) = u % 100 ∧ allD (two u) = true := by
  obtain ⟨h1, h2⟩ := two_ok u
  refine ⟨by rw [← h2]; rfl, ?_⟩
  unfold ctOk at h1
  rw [Bool.and_eq_true] at h1
  exact h1.2
theorem mu_len (u : Nat) : (moneyU u).length = (decDigits (u / 100)).length + 3 := by
  unfold moneyU; rw [List.length_append]; rfl
theorem mu_lens (a b : Nat) : ((moneyU a).length < (moneyU b).length → a < b) := by
  intro h
  rw [mu_len, mu_len, Lib.decDigits_length, Lib.decDigits_length] at h
  rcases Nat.lt_or_ge a b with g | g
  · exact g
  · have := nD_mono (b / 100) (a / 100) (by omega); omega
theorem mu_less (a b : Nat) (h : (moneyU a).length = (moneyU b).length) : Op.bytesLess (moneyU a) (moneyU b) = decide (a < b) ∧ (moneyU a == moneyU b) = decide (a = b) := by
  rw [mu_len, mu_len] at h
  have hl : (decDigits (a / 100)).length = (decDigits (b / 100)).length := by omega
  obtain ⟨d1, d2⟩ := bl_num _ _ _ rfl hl.symm (dec_allD (a / 100)) (dec_allD (b / 100))
  obtain ⟨t1, t2⟩ := bl_num 2 (two a) (two b) rfl rfl (numL_two a).2 (numL_two b).2
  rw [(numL_two a).1, (numL_two b).1] at t1 t2
  rw [dec_num, dec_num] at d1 d2
  have e3 : Op.bytesLess (46 :: two a) (46 :: two b) = Op.bytesLess (two a) (two b) := by simp [Op.bytesLess]
  have e4 : (moneyU a == moneyU b) = ((decDigits (a / 100) == decDigits (b / 100)) && (two a == two b)) := by
    unfold moneyU
    rw [Bool.eq_iff_iff]
    simp only [beq_iff_eq, Bool.and_eq_true]
    constructor
    · intro e
      obtain ⟨x, y⟩ := List.append_inj e hl
      exact ⟨x, (List.cons.inj y).2⟩
    · rintro ⟨x, y⟩; rw [x, y]
  constructor
  · unfold moneyU
    rw [bl_app _ _ _ _ hl, e3, d1, d2, t1]
    rw [Bool.eq_iff_iff]; simp only [Bool.or_eq_true, Bool.and_eq_true, decide_eq_true_eq]; omega
  · rw [e4, d2, t2, Bool.eq_iff_iff]; simp only [Bool.and_eq_true, decide_eq_true_eq]; omega
theorem ml_nonneg (u : Nat) : moneyL (u : Int) = moneyU u := by unfold moneyL; rw [if_neg (by omega), List.nil_append]; rfl
end Go.Proofs.YtollmclcogmlbaaDoor
