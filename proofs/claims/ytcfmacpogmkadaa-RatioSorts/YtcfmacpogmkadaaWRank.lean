/-
  Plain mathematics: each behind as many as are ahead of it is the order that a sort makes, place by place.
-/
import Derived.Test.YtcfmacpogmkadaaWMean
namespace Go.Proofs.Ytcfmacpogmkadaa
open Go.Sort

def cn (P : Nat → Bool) : Nat → Nat
  | 0 => 0
  | n + 1 => cn P n + (P n).toNat
theorem cn_le (P : Nat → Bool) (n : Nat) : cn P n ≤ n := by
  induction n with
  | zero => exact Nat.le_refl _
  | succ n ih => unfold cn; have := toNat_le (P n); omega
theorem cn_mono_n (P : Nat → Bool) {m n : Nat} (h : m ≤ n) : cn P m ≤ cn P n := by
  induction n with
  | zero => have : m = 0 := by omega
            subst this; exact Nat.le_refl _
  | succ n ih =>
    by_cases c : m = n + 1
    · subst c; exact Nat.le_refl _
    · have := ih (by omega)
      show cn P m ≤ cn P n + (P n).toNat
      omega
theorem cn_mono (P Q : Nat → Bool) (n : Nat) (h : ∀ j, j < n → P j = true → Q j = true) : cn P n ≤ cn Q n := by
  induction n with
  | zero => exact Nat.le_refl _
  | succ n ih =>
    have := ih (fun j hj => h j (by omega))
    unfold cn
    cases hp : P n
    · simp; omega
    · rw [h n (by omega) hp]; omega
theorem cn_congr (P Q : Nat → Bool) (n : Nat) (h : ∀ j, j < n → P j = Q j) : cn P n = cn Q n := by
  induction n with
  | zero => rfl
  | succ n ih => unfold cn; rw [ih (fun j hj => h j (by omega)), h n (by omega)]
theorem cn_low (P : Nat → Bool) (n p : Nat) (h : ∀ q, q < n → P q = true → q < p) : cn P n ≤ p := by
  induction n with
  | zero => exact Nat.zero_le _
  | succ n ih =>
    have := ih (fun q hq => h q (by omega))
    unfold cn
    cases hp : P n
    · simp; omega
    · have := h n (by omega) hp; have := cn_le P n; simp; omega
theorem cn_high (P : Nat → Bool) (n m : Nat) (hm : m ≤ n) (h : ∀ q, q < m → P q = true) : m ≤ cn P n := by
  refine Nat.le_trans ?_ (cn_mono_n P hm)
  clear hm
  induction m with
  | zero => exact Nat.zero_le _
  | succ m ih => have := ih (fun q hq => h q (by omega)); unfold cn; rw [h m (by omega)]; simp; omega
theorem cn_at (P : Nat → Bool) (n t : Nat) (h : t < cn P n) : ∃ i, i < n ∧ P i = true ∧ cn P i = t := by
  induction n with
  | zero => simp [cn] at h
  | succ n ih =>
    by_cases c : t < cn P n
    · obtain ⟨i, h1, h2, h3⟩ := ih c
      exact ⟨i, by omega, h2, h3⟩
    · unfold cn at h
      cases hp : P n
      · rw [hp] at h; simp at h; omega
      · rw [hp] at h; simp at h; exact ⟨n, by omega, hp, by omega⟩
theorem cn_add (P Q R : Nat → Bool) (n : Nat) (h : ∀ j, j < n → (P j).toNat + (Q j).toNat = (R j).toNat) : cn P n + cn Q n = cn R n := by
  induction n with
  | zero => rfl
  | succ n ih => have := ih (fun j hj => h j (by omega)); have := h n (by omega); unfold cn; omega

/-- Of a row and its permutation as many are such. -/
theorem cn_list {α : Type} (Q : α → Bool) (g : Nat → α) (n : Nat) : cn (fun j => Q (g j)) n = ((List.range' 0 n).map g).countP Q := by
  induction n with
  | zero => rfl
  | succ n ih =>
    rw [cn, ih, List.range'_1_concat, List.map_append, List.countP_append]
    simp [List.countP_cons, List.countP_nil, Bool.toNat]
theorem cn_perm (f : Nat → UInt64) (n : Nat) (d : Array UInt64) (hp : PermIn 0 n (arr n f) d) (Q : UInt64 → Bool) : cn (fun j => Q (f j)) n = cn (fun j => Q (d[j]!)) n := by
  have hs : d.size = n := by rw [hp.1, size_arr]
  have h := hp.2.2
  rw [extract_toList d 0 n (by omega), extract_toList (arr n f) 0 n (by rw [size_arr]; exact Nat.le_refl _)] at h
  have h2 := h.countP_eq Q
  rw [Nat.sub_zero] at h2
  rw [cn_list Q (fun j => d[j]!) n, h2, ← cn_list Q (fun j => (arr n f)[j]!) n]
  exact cn_congr _ _ n fun j hj => by rw [arr_get n f j hj]

/-- Is the one at j ahead of the one at i? -/
def ahd (f : Nat → UInt64) (i j : Nat) : Bool := decide (cmpV (f j).toNat (f i).toNat < 0) || (decide (cmpV (f j).toNat (f i).toNat = 0) && decide (j < i))
def rk (f : Nat → UInt64) (i : Nat) : Nat → Nat := cn (ahd f i)
def kf (f : Nat → UInt64) (j : Nat) : Int := keyV (f j).toNat
theorem ahd_key (f : Nat → UInt64) (i j : Nat) : ahd f i j = (decide (kf f j < kf f i) || (decide (kf f j = kf f i) && decide (j < i))) := by
  unfold ahd kf
  rw [cmp_key]
  congr 1
  · rw [decide_eq_decide]; exact cmpI_neg _ _
  · congr 1; rw [decide_eq_decide]; exact cmpI_zero _ _
theorem rk_lt (f : Nat → UInt64) (i n : Nat) (hi : i < n) : rk f i n < n := by
  have h : cn (ahd f i) n + cn (fun j => !ahd f i j) n = cn (fun _ => true) n := cn_add _ _ _ n fun j _ => by cases ahd f i j <;> rfl
  have h2 : cn (fun _ => true) n ≤ n := cn_le _ _
  have h3 : cn (fun j => !ahd f i j) (i + 1) ≤ cn (fun j => !ahd f i j) n := cn_mono_n _ (by omega)
  have h4 : ahd f i i = false := by rw [ahd_key]; simp
  have h5 : 1 ≤ cn (fun j => !ahd f i j) (i + 1) := by unfold cn; rw [h4]; simp
  unfold rk
  omega
theorem rk_eq (f : Nat → UInt64) (i n : Nat) (hi : i ≤ n) : rk f i n = cn (fun j => decide (kf f j < kf f i)) n + cn (fun j => decide (kf f j = kf f i)) i := by
  have h : cn (fun j => decide (kf f j < kf f i)) n + cn (fun j => decide (kf f j = kf f i) && decide (j < i)) n = cn (ahd f i) n := cn_add _ _ _ n fun j _ => by
    rw [ahd_key]
    by_cases c : kf f j < kf f i
    · have c2 : ¬ kf f j = kf f i := by omega
      simp [c, c2]
    · simp [c]
  have h2 : cn (fun j => decide (kf f j = kf f i) && decide (j < i)) n = cn (fun j => decide (kf f j = kf f i)) i := by
    clear h
    induction n with
    | zero => have : i = 0 := by omega
              rw [this]; rfl
    | succ n ih =>
      by_cases c : i = n + 1
      · subst c
        exact cn_congr _ _ _ fun j hj => by simp [hj]
      · rw [cn, ih (by omega)]
        have : ¬ n < i := by omega
        simp [this]
  unfold rk
  omega

theorem sorted_key (n : Nat) (d : Array UInt64) (hs : SortedIn (ltOf cfF) 0 n d) (i j : Nat) (h1 : i ≤ j) (h2 : j < n) : keyV (d[i]!).toNat ≤ keyV (d[j]!).toNat := by
  have := sorted_le swoF hs (i := i) (j := j) (Nat.zero_le _) h1 h2
  rw [lt_key] at this
  simpa using this
theorem low_le (f : Nat → UInt64) (n : Nat) (d : Array UInt64) (hp : PermIn 0 n (arr n f) d) (hs : SortedIn (ltOf cfF) 0 n d) (p : Nat) : cn (fun j => decide (kf f j < keyV (d[p]!).toNat)) n ≤ p := by
  have e := cn_perm f n d hp (fun x => decide (keyV x.toNat < keyV (d[p]!).toNat))
  show cn (fun j => (fun x : UInt64 => decide (keyV x.toNat < keyV (d[p]!).toNat)) (f j)) n ≤ p
  rw [e]
  refine cn_low _ n p fun q hq hv => ?_
  rcases Nat.lt_or_ge q p with c | c
  · exact c
  · have := sorted_key n d hs p q c hq
    have hv' := of_decide_eq_true hv
    omega
theorem up_ge (f : Nat → UInt64) (n : Nat) (d : Array UInt64) (hp : PermIn 0 n (arr n f) d) (hs : SortedIn (ltOf cfF) 0 n d) (p : Nat) (hpn : p < n) : p + 1 ≤ cn (fun j => decide (kf f j ≤ keyV (d[p]!).toNat)) n := by
  have e := cn_perm f n d hp (fun x => decide (keyV x.toNat ≤ keyV (d[p]!).toNat))
  show p + 1 ≤ cn (fun j => (fun x : UInt64 => decide (keyV x.toNat ≤ keyV (d[p]!).toNat)) (f j)) n
  rw [e]
  exact cn_high _ n (p + 1) (by omega) fun q hq => decide_eq_true (sorted_key n d hs q p (by omega) hpn)
theorem cn_three (f : Nat → UInt64) (n : Nat) (x : Int) : cn (fun j => decide (kf f j < x)) n + cn (fun j => decide (kf f j = x)) n = cn (fun j => decide (kf f j ≤ x)) n := cn_add _ _ _ n fun j _ => by
  rcases Int.lt_trichotomy (kf f j) x with c | c | c
  · have c2 : ¬ kf f j = x := by omega
    have c3 : kf f j ≤ x := by omega
    simp [c, c2, c3]
  · have c2 : ¬ kf f j < x := by omega
    have c3 : kf f j ≤ x := by omega
    simp [c]
  · have c1 : ¬ kf f j < x := by omega
    have c2 : ¬ kf f j = x := by omega
    have c3 : ¬ kf f j ≤ x := by omega
    simp [c1, c2, c3]
/-- Each place has one whose rank it is. -/
theorem rank_hits (f : Nat → UInt64) (n : Nat) (d : Array UInt64) (hp : PermIn 0 n (arr n f) d) (hs : SortedIn (ltOf cfF) 0 n d) (p : Nat) (hpn : p < n) : ∃ i, i < n ∧ rk f i n = p := by
  have h1 := low_le f n d hp hs p
  have h2 := up_ge f n d hp hs p hpn
  have h3 := cn_three f n (keyV (d[p]!).toNat)
  obtain ⟨i, hi, hv, hc⟩ := cn_at (fun j => decide (kf f j = keyV (d[p]!).toNat)) n (p - cn (fun j => decide (kf f j < keyV (d[p]!).toNat)) n) (by omega)
  have hv' : kf f i = keyV (d[p]!).toNat := of_decide_eq_true hv
  refine ⟨i, hi, ?_⟩
  rw [rk_eq f i n (by omega), hv', hc]
  omega
/-- Whose rank is a place stands there in the order. -/
theorem rank_key (f : Nat → UInt64) (n : Nat) (d : Array UInt64) (hp : PermIn 0 n (arr n f) d) (hs : SortedIn (ltOf cfF) 0 n d) (i : Nat) (hi : i < n) : keyV (f i).toNat = keyV (d[rk f i n]!).toNat := by
  have hpn := rk_lt f i n hi
  have h1 := low_le f n d hp hs (rk f i n)
  have h2 := up_ge f n d hp hs (rk f i n) hpn
  have hr := rk_eq f i n (by omega)
  generalize keyV (d[rk f i n]!).toNat = x at *
  show kf f i = x
  rcases Int.lt_trichotomy (kf f i) x with c | c | c
  · have h3 := cn_three f n (kf f i)
    have h4 : cn (fun j => decide (kf f j = kf f i)) (i + 1) ≤ cn (fun j => decide (kf f j = kf f i)) n := cn_mono_n _ (by omega)
    have h5 : cn (fun j => decide (kf f j = kf f i)) (i + 1) = cn (fun j => decide (kf f j = kf f i)) i + 1 := by rw [cn]; simp
    have h6 : cn (fun j => decide (kf f j ≤ kf f i)) n ≤ cn (fun j => decide (kf f j < x)) n := cn_mono _ _ n fun j _ h => decide_eq_true (by have := of_decide_eq_true h; omega)
    omega
  · exact c
  · have h6 : cn (fun j => decide (kf f j ≤ x)) n ≤ cn (fun j => decide (kf f j < kf f i)) n := cn_mono _ _ n fun j _ h => decide_eq_true (by have := of_decide_eq_true h; omega)
    omega
theorem same_rank (f : Nat → UInt64) (n : Nat) (d r : Array UInt64) (hp : PermIn 0 n (arr n f) d) (hs : SortedIn (ltOf cfF) 0 n d) (hr : ∀ i, i < n → ∃ i', i' < n ∧ rk f i' n = rk f i n ∧ r[rk f i n]! = f i') (p : Nat) (hpn : p < n) : sameV (d[p]!).toNat (r[p]!).toNat = true := by
  obtain ⟨i, hi, e⟩ := rank_hits f n d hp hs p hpn
  obtain ⟨i', hi', e', hv⟩ := hr i hi
  have k := rank_key f n d hp hs i' hi'
  rw [e', e] at k
  rw [e] at hv
  rw [hv]
  unfold sameV
  rw [cmp_key, beq_iff_eq, cmpI_zero]
  exact k.symm
end Go.Proofs.Ytcfmacpogmkadaa
