/-
  Texts put together (merge.py): SMath, FLays, FSwap.
-/
import Derived.Sort.LotA
import Derived.Shelf.SlSortCmp.KitK
import Derived.WalkKit
import Derived.Deep.LoopGhost
import Derived.Sort.WalkB2
import Derived.Sort.WalkB12
import Derived.Test.YtmoldgmfhcmceaaGreatDoorChecked
/-
  Plain mathematics of a sort that merges in place: exchanges of ranges, rotations, insertions, the place at which two sorted parts are cut; blocks.
-/
section
namespace Go.Proofs.YtmoldgmfhcmceaaGreatDoor
open Go.Sort
variable {α : Type} [Inhabited α]

/-! ### exchanges -/
def swIdx (a b n p : Nat) : Nat := if a ≤ p ∧ p < a + n then b + (p - a) else if b ≤ p ∧ p < b + n then a + (p - b) else p
def swr (d : Array α) (a b : Nat) : Nat → Array α
  | 0 => d
  | k + 1 => swp (swr d a b k) (a + k) (b + k)
theorem size_swr (d : Array α) (a b n : Nat) : (swr d a b n).size = d.size := by
  induction n with
  | zero => rfl
  | succ k ih => rw [swr, size_swp, ih]
theorem swr_get (d : Array α) (a b n : Nat) (h : a + n ≤ b) (hb : b + n ≤ d.size) (p : Nat) : (swr d a b n)[p]! = d[swIdx a b n p]! := by
  induction n generalizing p with
  | zero => unfold swIdx swr; rw [if_neg (by omega), if_neg (by omega)]
  | succ k ih =>
    have ih' := ih (by omega) (by omega)
    rw [swr, swp_get _ (by rw [size_swr]; omega) (by rw [size_swr]; omega), ih', ih', ih']
    by_cases c1 : p = b + k
    · rw [if_pos c1]; congr 1; unfold swIdx; (repeat' split) <;> omega
    · rw [if_neg c1]
      by_cases c2 : p = a + k
      · rw [if_pos c2]; congr 1; unfold swIdx; (repeat' split) <;> omega
      · rw [if_neg c2]; congr 1; unfold swIdx; (repeat' split) <;> omega
theorem swr_perm (d : Array α) (a b n lo hi : Nat) (h : a + n ≤ b) (hlo : lo ≤ a) (hhi : b + n ≤ hi) (hs : hi ≤ d.size) : PermIn lo hi d (swr d a b n) := by
  induction n with
  | zero => exact permIn_refl _ _ _
  | succ k ih => exact permIn_trans _ _ _ _ _ (ih (by omega) (by omega)) (swp_permIn _ lo hi _ _ (by omega) (by omega) (by omega) (by omega) (by rw [size_swr]; exact hs))

/-! ### rotations -/
def rotIdx (lo m hi p : Nat) : Nat := if p < lo then p else if p < lo + (hi - m) then m + (p - lo) else if p < hi then lo + (p - lo - (hi - m)) else p
theorem rot_step1 (m i j p : Nat) (h : j < i) (hi : i ≤ m) : swIdx (m - i) m j (rotIdx (m - (i - j)) m (m + j) p) = rotIdx (m - i) m (m + j) p := by
  unfold swIdx rotIdx
  (repeat' split) <;> omega
theorem rot_step2 (m i j p : Nat) (h : i < j) (hi : i ≤ m) : swIdx (m - i) (m + j - i) i (rotIdx (m - i) m (m + (j - i)) p) = rotIdx (m - i) m (m + j) p := by
  unfold swIdx rotIdx
  (repeat' split) <;> omega
theorem rot_end (m i p : Nat) (hi : i ≤ m) : swIdx (m - i) m i p = rotIdx (m - i) m (m + i) p := by
  unfold swIdx rotIdx
  (repeat' split) <;> omega
theorem rot_id (lo m hi p : Nat) (h : lo ≤ m) (h' : m ≤ hi) (hc : ¬ (lo < m ∧ m < hi)) : rotIdx lo m hi p = p := by
  unfold rotIdx
  (repeat' split) <;> omega

/-! ### insertions -/
def shl (d : Array α) (a : Nat) : Nat → Array α
  | 0 => d
  | k + 1 => swp (shl d a k) (a + k) (a + k + 1)
def shlIdx (a n p : Nat) : Nat := if a ≤ p ∧ p < a + n then p + 1 else if p = a + n then a else p
theorem size_shl (d : Array α) (a n : Nat) : (shl d a n).size = d.size := by
  induction n with
  | zero => rfl
  | succ k ih => rw [shl, size_swp, ih]
theorem shl_get (d : Array α) (a n : Nat) (h : a + n < d.size) (p : Nat) : (shl d a n)[p]! = d[shlIdx a n p]! := by
  induction n generalizing p with
  | zero =>
    unfold shlIdx shl; rw [if_neg (by omega)]
    split
    · congr 1
    · rfl
  | succ k ih =>
    have ih' := ih (by omega)
    rw [shl, swp_get _ (by rw [size_shl]; omega) (by rw [size_shl]; omega), ih', ih', ih']
    by_cases c1 : p = a + k + 1
    · rw [if_pos c1]; congr 1; unfold shlIdx; (repeat' split) <;> omega
    · rw [if_neg c1]
      by_cases c2 : p = a + k
      · rw [if_pos c2]; congr 1; unfold shlIdx; (repeat' split) <;> omega
      · rw [if_neg c2]; congr 1; unfold shlIdx; (repeat' split) <;> omega
theorem shl_perm (d : Array α) (a n lo hi : Nat) (hlo : lo ≤ a) (hhi : a + n < hi) (hs : hi ≤ d.size) : PermIn lo hi d (shl d a n) := by
  induction n with
  | zero => exact permIn_refl _ _ _
  | succ k ih => exact permIn_trans _ _ _ _ _ (ih (by omega)) (swp_permIn _ lo hi _ _ (by omega) (by omega) (by omega) (by omega) (by rw [size_shl]; exact hs))

def shr (d : Array α) (m : Nat) : Nat → Array α
  | 0 => d
  | k + 1 => swp (shr d m k) (m - k) (m - k - 1)
def shrIdx (m n p : Nat) : Nat := if m < p + n ∧ p ≤ m then p - 1 else if p + n = m then m else p
theorem size_shr (d : Array α) (m n : Nat) : (shr d m n).size = d.size := by
  induction n with
  | zero => rfl
  | succ k ih => rw [shr, size_swp, ih]
theorem shr_get (d : Array α) (m n : Nat) (h : n ≤ m) (hm : m < d.size) (p : Nat) : (shr d m n)[p]! = d[shrIdx m n p]! := by
  induction n generalizing p with
  | zero =>
    unfold shrIdx shr; rw [if_neg (by omega)]
    split
    · congr 1
    · rfl
  | succ k ih =>
    have ih' := ih (by omega)
    rw [shr, swp_get _ (by rw [size_shr]; omega) (by rw [size_shr]; omega), ih', ih', ih']
    by_cases c1 : p = m - k - 1
    · rw [if_pos c1]; congr 1; unfold shrIdx; (repeat' split) <;> omega
    · rw [if_neg c1]
      by_cases c2 : p = m - k
      · rw [if_pos c2]; congr 1; unfold shrIdx; (repeat' split) <;> omega
      · rw [if_neg c2]; congr 1; unfold shrIdx; (repeat' split) <;> omega
theorem shr_perm (d : Array α) (m n lo hi : Nat) (hlo : lo + n ≤ m) (hhi : m < hi) (hs : hi ≤ d.size) : PermIn lo hi d (shr d m n) := by
  induction n with
  | zero => exact permIn_refl _ _ _
  | succ k ih => exact permIn_trans _ _ _ _ _ (ih (by omega)) (swp_permIn _ lo hi _ _ (by omega) (by omega) (by omega) (by omega) (by rw [size_shr]; exact hs))

/-! ### order -/
variable {lt : α → α → Bool}
theorem sorted_le (hS : SWO lt) {a b : Nat} {d : Array α} (h : SortedIn lt a b d) {i j : Nat} (h1 : a ≤ i) (h2 : i ≤ j) (h3 : j < b) : lt d[j]! d[i]! = false := by
  rcases Nat.lt_or_ge i j with c | c
  · exact h i j h1 c h3
  · have : i = j := by omega
    subst this; exact hS.irrefl _
theorem sorted_none (a : Nat) (d : Array α) : SortedIn lt a a d := fun _ _ _ _ _ => by omega
theorem sorted_one (a : Nat) (d : Array α) : SortedIn lt a (a + 1) d := fun _ _ _ _ _ => by omega
theorem sorted_short {a b : Nat} (d : Array α) (h : b ≤ a + 1) : SortedIn lt a b d := fun _ _ _ _ _ => by omega
theorem sorted_sub {a b a' b' : Nat} {d : Array α} (h : SortedIn lt a b d) (h1 : a ≤ a') (h2 : b' ≤ b) : SortedIn lt a' b' d := fun i j hi hij hj => h i j (by omega) hij (by omega)
theorem sorted_congr {a b : Nat} {d d' : Array α} (h : SortedIn lt a b d) (he : ∀ i, a ≤ i → i < b → d'[i]! = d[i]!) : SortedIn lt a b d' := fun i j hi hij hj => by
  rw [he i hi (by omega), he j (by omega) hj]; exact h i j hi hij hj

/-- One element is put where it belongs in the part behind it. -/
theorem ins_left (hS : SWO lt) (d d' : Array α) (a b i : Nat) (hi : a + 1 ≤ i) (hib : i ≤ b) (h : SortedIn lt (a + 1) b d) (h1 : ∀ x, a + 1 ≤ x → x < i → lt d[x]! d[a]! = true) (h2 : ∀ x, i ≤ x → x < b → lt d[x]! d[a]! = false)
    (hd : ∀ p, d'[p]! = d[shlIdx a (i - 1 - a) p]!) : SortedIn lt a b d' := by
  intro p q hp hpq hq
  rw [hd, hd]
  unfold shlIdx
  by_cases c1 : q < i - 1
  · rw [if_pos (by omega), if_pos (by omega)]; exact h (p + 1) (q + 1) (by omega) (by omega) (by omega)
  · by_cases c2 : q = i - 1
    · rw [if_neg (by omega), if_pos (by omega), if_pos (by omega)]
      exact hS.asymmA (h1 (p + 1) (by omega) (by omega))
    · rw [if_neg (by omega), if_neg (by omega)]
      by_cases c3 : p < i - 1
      · rw [if_pos (by omega)]; exact h (p + 1) q (by omega) (by omega) hq
      · by_cases c4 : p = i - 1
        · rw [if_neg (by omega), if_pos (by omega)]; exact h2 q (by omega) hq
        · rw [if_neg (by omega), if_neg (by omega)]; exact h p q (by omega) hpq hq
theorem ins_right (hS : SWO lt) (d d' : Array α) (a m i : Nat) (hi : a ≤ i) (him : i ≤ m) (h : SortedIn lt a m d) (h1 : ∀ x, a ≤ x → x < i → lt d[m]! d[x]! = false) (h2 : ∀ x, i ≤ x → x < m → lt d[m]! d[x]! = true)
    (hd : ∀ p, d'[p]! = d[shrIdx m (m - i) p]!) : SortedIn lt a (m + 1) d' := by
  intro p q hp hpq hq
  rw [hd, hd]
  unfold shrIdx
  by_cases c1 : q < i
  · rw [if_neg (by omega), if_neg (by omega), if_neg (by omega), if_neg (by omega)]; exact h p q hp hpq (by omega)
  · by_cases c2 : q = i
    · rw [if_neg (by omega), if_pos (by omega), if_neg (by omega), if_neg (by omega)]
      exact h1 p hp (by omega)
    · rw [if_pos (by omega)]
      by_cases c3 : p < i
      · rw [if_neg (by omega), if_neg (by omega)]; exact h p (q - 1) hp (by omega) (by omega)
      · by_cases c4 : p = i
        · rw [if_neg (by omega), if_pos (by omega)]; exact hS.asymmA (h2 (q - 1) (by omega) (by omega))
        · rw [if_pos (by omega)]; exact h (p - 1) (q - 1) (by omega) (by omega) (by omega)

/-! ### where two sorted parts are cut -/
theorem cut_down (hS : SWO lt) (d : Array α) (a m b P c c' : Nat) (h : SortedIn lt a m d) (k : SortedIn lt m b d) (hc : c' ≤ c) (ha : a ≤ c') (hm : c < m) (h1 : m + c ≤ P) (h2 : P < b + c')
    (hf : lt d[P - c]! d[c]! = false) : lt d[P - c']! d[c']! = false := by
  have e1 := sorted_le hS h ha hc hm
  have e2 := sorted_le hS k (i := P - c) (j := P - c') (by omega) (by omega) (by omega)
  exact hS.ntrans _ _ _ e2 (hS.ntrans _ _ _ hf e1)
theorem cut_up (hS : SWO lt) (d : Array α) (a m b P c c' : Nat) (h : SortedIn lt a m d) (k : SortedIn lt m b d) (hc : c ≤ c') (ha : a ≤ c) (hm : c' < m) (h1 : m + c' ≤ P) (h2 : P < b + c)
    (hf : lt d[P - c]! d[c]! = true) : lt d[P - c']! d[c']! = true := by
  cases hv : lt d[P - c']! d[c']! with
  | true => rfl
  | false =>
    have := cut_down hS d a m b P c' c h k hc ha hm h1 h2 hv
    rw [hf] at this; cases this

/-- What stands behind the cut, and the rotation: all of the left part no greater than all of the right one. -/
theorem cut_parts (hS : SWO lt) (d d' : Array α) (a m b mid s s0 r0 : Nat) (ham : a < m) (hmb : m < b) (hmid : mid = (a + b) / 2) (h : SortedIn lt a m d) (k : SortedIn lt m b d)
    (hs : (m > mid ∧ s0 = mid + m - b ∧ r0 = mid) ∨ (m ≤ mid ∧ s0 = a ∧ r0 = m)) (l1 : s0 ≤ s) (l2 : s ≤ r0)
    (f1 : ∀ c, s0 ≤ c → c < s → lt d[mid + m - 1 - c]! d[c]! = false) (f2 : ∀ c, s ≤ c → c < r0 → lt d[mid + m - 1 - c]! d[c]! = true)
    (hd : ∀ p, d'[p]! = d[rotIdx s m (mid + m - s) p]!) :
    SortedIn lt a s d' ∧ SortedIn lt s mid d' ∧ SortedIn lt mid (mid + m - s) d' ∧ SortedIn lt (mid + m - s) b d' ∧ (∀ p q, a ≤ p → p < mid → mid ≤ q → q < b → lt d'[q]! d'[p]! = false) := by
  have hsm : a ≤ s ∧ s ≤ m ∧ s ≤ mid ∧ m ≤ mid + m - s ∧ mid ≤ mid + m - s ∧ mid + m - s ≤ b ∧ s ≤ mid + m := by omega
  obtain ⟨g1, g2, g3, g4, g5, g6, g7⟩ := hsm
  have gA : ∀ p, p < s → d'[p]! = d[p]! := fun p hp => by rw [hd]; unfold rotIdx; rw [if_pos hp]
  have gB : ∀ p, s ≤ p → p < mid → d'[p]! = d[m + (p - s)]! := fun p hp hp' => by rw [hd]; unfold rotIdx; rw [if_neg (by omega), if_pos (by omega)]
  have gC : ∀ p, mid ≤ p → p < mid + m - s → d'[p]! = d[s + (p - mid)]! := fun p hp hp' => by rw [hd]; unfold rotIdx; rw [if_neg (by omega), if_neg (by omega), if_pos (by omega)]; congr 1; omega
  have gD : ∀ p, mid + m - s ≤ p → d'[p]! = d[p]! := fun p hp => by rw [hd]; unfold rotIdx; rw [if_neg (by omega), if_neg (by omega), if_neg (by omega)]
  refine ⟨?_, ?_, ?_, ?_, ?_⟩
  · intro i j hi hij hj; rw [gA i (by omega), gA j hj]; exact h i j hi hij (by omega)
  · intro i j hi hij hj; rw [gB i hi (by omega), gB j (by omega) hj]; exact k _ _ (by omega) (by omega) (by omega)
  · intro i j hi hij hj; rw [gC i hi (by omega), gC j (by omega) hj]; exact h _ _ (by omega) (by omega) (by omega)
  · intro i j hi hij hj; rw [gD i hi, gD j (by omega)]; exact k i j (by omega) hij hj
  · intro p q hp hp' hq hq'
    by_cases cp : p < s
    · rw [gA p cp]
      by_cases cq : q < mid + m - s
      · rw [gC q hq cq]; exact h _ _ hp (by omega) (by omega)
      · rw [gD q (by omega)]
        -- the last of the left, the first of the right
        have hs0 : s0 < s := by omega
        have f := f1 (s - 1) (by omega) (by omega)
        rw [show mid + m - 1 - (s - 1) = mid + m - s by omega] at f
        have e1 := sorted_le hS h (i := p) (j := s - 1) hp (by omega) (by omega)
        have e2 := sorted_le hS k (i := mid + m - s) (j := q) (by omega) (by omega) hq'
        exact hS.ntrans _ _ _ e2 (hS.ntrans _ _ _ f e1)
    · rw [gB p (by omega) hp']
      by_cases cq : q < mid + m - s
      · rw [gC q hq cq]
        have hr0 : s < r0 := by omega
        have f := f2 s (Nat.le_refl _) hr0
        have f' := hS.asymmA f
        have e1 := sorted_le hS k (i := m + (p - s)) (j := mid + m - 1 - s) (by omega) (by omega) (by omega)
        have e2 := sorted_le hS h (i := s) (j := s + (q - mid)) (by omega) (by omega) (by omega)
        exact hS.ntrans _ _ _ e2 (hS.ntrans _ _ _ f' e1)
      · rw [gD q (by omega)]; exact k _ _ (by omega) (by omega) hq'

/-- Both parts sorted, one below the other. -/
theorem glue (d0 d1 d2 d3 : Array α) (a mid b : Nat) (hb : b ≤ d1.size) (hm : a ≤ mid) (hmb : mid ≤ b) (hsep : ∀ p q, a ≤ p → p < mid → mid ≤ q → q < b → lt d1[q]! d1[p]! = false)
    (p01 : PermIn a b d0 d1) (p12 : PermIn a mid d1 d2) (s2 : SortedIn lt a mid d2) (p23 : PermIn mid b d2 d3) (s3 : SortedIn lt mid b d3) : PermIn a b d0 d3 ∧ SortedIn lt a b d3 := by
  have hb2 : b ≤ d2.size := by rw [p12.1]; exact hb
  constructor
  · exact permIn_trans _ _ _ _ _ p01 (permIn_trans _ _ _ _ _ (permIn_mono _ _ _ _ _ _ (Nat.le_refl _) hmb hb p12) (permIn_mono _ _ _ _ _ _ hm (Nat.le_refl _) hb2 p23))
  · intro i j hi hij hj
    by_cases c1 : j < mid
    · rw [p23.2.1 i (Or.inl (by omega)), p23.2.1 j (Or.inl c1)]; exact s2 i j hi hij c1
    · by_cases c2 : mid ≤ i
      · exact s3 i j c2 hij hj
      · rw [p23.2.1 i (Or.inl (by omega))]
        have sep2 : ∀ q, mid ≤ q → q < b → lt d2[q]! d2[i]! = false := fun q hq hq' => by
          rw [p12.2.1 q (Or.inr hq)]
          exact permIn_all d1 d2 a mid (fun x => lt d1[q]! x = false) (by omega) p12 (fun p hp hp' => hsep p q hp hp' hq hq') i hi (by omega)
        exact permIn_all d2 d3 mid b (fun x => lt x d2[i]! = false) hb2 p23 sep2 j (by omega) hj

/-! ### blocks -/
/-- Blocks of s places, each sorted, up to n. -/
def Bl (lt : α → α → Bool) (s n : Nat) (d : Array α) : Prop := ∀ k, SortedIn lt (k * s) (min (k * s + s) n) d
/-- Blocks of s sorted ahead of t of them; blocks of u behind. -/
theorem bl_keep {a b x y : Nat} {d d' : Array α} (hp : PermIn a b d d') (h : SortedIn lt x y d) (hd : y ≤ a ∨ b ≤ x) : SortedIn lt x y d' :=
  sorted_congr h fun i hi hi' => hp.2.1 i (by omega)
theorem bl_end {s n : Nat} {d : Array α} (h : Bl lt s n d) (hs : n ≤ s) : SortedIn lt 0 n d := by
  have := h 0
  rw [Nat.zero_mul, Nat.zero_add, Nat.min_eq_right hs] at this
  exact this
/-- A round of the first pass. -/
def BlTo (lt : α → α → Bool) (s t n : Nat) (d : Array α) : Prop := ∀ k, k < t → SortedIn lt (k * s) (min (k * s + s) n) d
theorem blTo_step {s t n : Nat} {d d' : Array α} (h : BlTo lt s t n d) (hp : PermIn (t * s) (t * s + s) d d') (hs : SortedIn lt (t * s) (t * s + s) d') : BlTo lt s (t + 1) n d' := by
  intro k hk
  rcases Nat.lt_or_ge k t with c | c
  · refine bl_keep hp (h k c) (Or.inl ?_)
    have : (k + 1) * s ≤ t * s := Nat.mul_le_mul_right _ c
    rw [Nat.add_mul, Nat.one_mul] at this
    omega
  · have : k = t := by omega
    subst this
    exact sorted_sub hs (Nat.le_refl _) (Nat.min_le_left _ _)
theorem blTo_end {s t n : Nat} {d d' : Array α} (h : BlTo lt s t n d) (hn : n < t * s + s) (hp : PermIn (t * s) n d d') (hs : SortedIn lt (t * s) n d') : Bl lt s n d' := by
  intro k
  rcases Nat.lt_or_ge k t with c | c
  · refine bl_keep hp (h k c) (Or.inl ?_)
    have : (k + 1) * s ≤ t * s := Nat.mul_le_mul_right _ c
    rw [Nat.add_mul, Nat.one_mul] at this
    omega
  · rcases Nat.lt_or_ge t k with c2 | c2
    · have : (t + 1) * s ≤ k * s := Nat.mul_le_mul_right _ c2
      rw [Nat.add_mul, Nat.one_mul] at this
      exact sorted_short _ (by omega)
    · have : k = t := by omega
      subst this
      exact sorted_sub hs (Nat.le_refl _) (Nat.min_le_right _ _)
/-- A round of a merging pass: t blocks of 2 s are sorted; behind them blocks of s are. -/
def BlMid (lt : α → α → Bool) (s t n : Nat) (d : Array α) : Prop := BlTo lt (2 * s) t n d ∧ ∀ k, 2 * t ≤ k → SortedIn lt (k * s) (min (k * s + s) n) d
theorem blMid_start {s n : Nat} {d : Array α} (h : Bl lt s n d) : BlMid lt s 0 n d := ⟨fun k hk => by omega, fun k _ => h k⟩
theorem two_mul_mul (t s : Nat) : t * (2 * s) = (2 * t) * s := by rw [← Nat.mul_assoc, Nat.mul_comm t 2]
theorem blMid_parts {s t n : Nat} {d : Array α} (h : BlMid lt s t n d) : SortedIn lt (t * (2 * s)) (min (t * (2 * s) + s) n) d ∧ SortedIn lt (t * (2 * s) + s) (min (t * (2 * s) + 2 * s) n) d := by
  have h1 := h.2 (2 * t) (Nat.le_refl _)
  have h2 := h.2 (2 * t + 1) (by omega)
  rw [Nat.add_mul, Nat.one_mul] at h2
  rw [two_mul_mul]
  refine ⟨h1, ?_⟩
  rw [show 2 * t * s + 2 * s = 2 * t * s + s + s by omega]
  exact h2
theorem blMid_step {s t n : Nat} {d d' : Array α} (h : BlMid lt s t n d) (hp : PermIn (t * (2 * s)) (t * (2 * s) + 2 * s) d d') (hs : SortedIn lt (t * (2 * s)) (t * (2 * s) + 2 * s) d') : BlMid lt s (t + 1) n d' := by
  refine ⟨blTo_step h.1 hp hs, fun k hk => ?_⟩
  refine bl_keep hp (h.2 k (by omega)) (Or.inr ?_)
  have : (2 * t + 2) * s ≤ k * s := Nat.mul_le_mul_right _ (by omega)
  rw [Nat.add_mul] at this
  rw [two_mul_mul]; exact this
theorem blMid_end {s t n : Nat} {d d' : Array α} (h : BlMid lt s t n d) (hn : n < t * (2 * s) + 2 * s) (hp : PermIn (t * (2 * s)) n d d') (hs : SortedIn lt (t * (2 * s)) n d') : Bl lt (2 * s) n d' := blTo_end h.1 hn hp hs
theorem blMid_last {s t n : Nat} {d : Array α} (h : BlMid lt s t n d) (hs : 0 < s) (hn : n ≤ t * (2 * s) + s) : Bl lt (2 * s) n d := by
  by_cases c : t * (2 * s) ≤ n
  · refine blMid_end h (by omega) (permIn_refl _ _ _) ?_
    have := (blMid_parts h).1
    rwa [Nat.min_eq_right hn] at this
  · intro k
    rcases Nat.lt_or_ge k t with c2 | c2
    · exact h.1 k c2
    · have : t * (2 * s) ≤ k * (2 * s) := Nat.mul_le_mul_right _ c2
      exact sorted_short _ (by omega)
end Go.Proofs.YtmoldgmfhcmceaaGreatDoor
end

/-
  What is asked of a program in which slices.SortStableFunc's bodies lie at an element of kc cells; and that this one is such.
-/
section
namespace Go.Proofs.YtmoldgmfhcmceaaGreatDoor
open Go.Shelf Go.RowKit Go.Lib Go.Sort

structure KLays (P : Program) (kc : Nat) : Prop where
  mixed : P.follows .mixedOrders = true
  f_swapRange : P.funcs[(112 : Nat)]? = some Tryz.f112
  e_swapRange : ∀ args w, (callFunc 112 args).run P w = .ok (.enter 112 args) w
  f_rotate : P.funcs[(101 : Nat)]? = some Tryz.f101
  e_rotate : ∀ args w, (callFunc 101 args).run P w = .ok (.enter 101 args) w
  f_symMerge : P.funcs[(86 : Nat)]? = some Tryz.f86
  e_symMerge : ∀ args w, (callFunc 86 args).run P w = .ok (.enter 86 args) w
  aE : ∀ w, (isAgg 45).run P w = .ok true w
  zE : ∀ w, (Go.sizeOf 45).run P w = .ok kc w
  qt_0 : P.underlying 0 = some (TypeDesc.tuple #[])
  qa_0 : ∀ w, (isAgg 0).run P w = .ok false w
  qz_0 : ∀ w, (Go.sizeOf 0).run P w = .ok 1 w
  qv_0 : ∀ w, (zeroValue 0).run P w = .ok (Value.tuple #[]) w
  qt_i : P.underlying 3 = some (TypeDesc.int IntKind.i64)
  qa_i : ∀ w, (isAgg 3).run P w = .ok false w
  qz_i : ∀ w, (Go.sizeOf 3).run P w = .ok 1 w
  qv_i : ∀ w, (zeroValue 3).run P w = .ok (Value.int IntKind.i64 0) w
  qt_b : P.underlying 4 = some TypeDesc.bool
  qa_b : ∀ w, (isAgg 4).run P w = .ok false w
  qz_b : ∀ w, (Go.sizeOf 4).run P w = .ok 1 w
  qv_b : ∀ w, (zeroValue 4).run P w = .ok (Value.bool false) w
  qt_u : P.underlying 94 = some (TypeDesc.int IntKind.u64)
  qa_u : ∀ w, (isAgg 94).run P w = .ok false w
  qz_u : ∀ w, (Go.sizeOf 94).run P w = .ok 1 w
  qv_u : ∀ w, (zeroValue 94).run P w = .ok (Value.int IntKind.u64 0) w
  qt_s : P.underlying 22 = some (TypeDesc.slice 45)
  qa_s : ∀ w, (isAgg 22).run P w = .ok false w
  qz_s : ∀ w, (Go.sizeOf 22).run P w = .ok 1 w
  qv_s : ∀ w, (zeroValue 22).run P w = .ok (Value.slice none 0 0) w
  qt_f : P.underlying 63 = some (TypeDesc.func #[45, 45] #[3] false)
  qa_f : ∀ w, (isAgg 63).run P w = .ok false w
  qz_f : ∀ w, (Go.sizeOf 63).run P w = .ok 1 w
  qv_f : ∀ w, (zeroValue 63).run P w = .ok (Value.nilFunc) w

theorem klays : KLays Tryz.prog 5 := {
  mixed := by kernel_rfl
  f_swapRange := Tryz.func112
  e_swapRange := Tryz.call112
  f_rotate := Tryz.func101
  e_rotate := Tryz.call101
  f_symMerge := Tryz.func86
  e_symMerge := Tryz.call86
  aE := Tryz.isAgg45
  zE := Tryz.sizeOf45
  qt_0 := Tryz.underlying0
  qa_0 := Tryz.isAgg0
  qz_0 := Tryz.sizeOf0
  qv_0 := Tryz.zeroValue0
  qt_i := Tryz.underlying3
  qa_i := Tryz.isAgg3
  qz_i := Tryz.sizeOf3
  qv_i := Tryz.zeroValue3
  qt_b := Tryz.underlying4
  qa_b := Tryz.isAgg4
  qz_b := Tryz.sizeOf4
  qv_b := Tryz.zeroValue4
  qt_u := Tryz.underlying94
  qa_u := Tryz.isAgg94
  qz_u := Tryz.sizeOf94
  qv_u := Tryz.zeroValue94
  qt_s := Tryz.underlying22
  qa_s := Tryz.isAgg22
  qz_s := Tryz.sizeOf22
  qv_s := Tryz.zeroValue22
  qt_f := Tryz.underlying63
  qa_f := Tryz.isAgg63
  qz_f := Tryz.sizeOf63
  qv_f := Tryz.zeroValue63
}
end Go.Proofs.YtmoldgmfhcmceaaGreatDoor
end

/-
  What slices.swapRangeCmpFunc and slices.rotateCmpFunc leave, as contracts: from a world of the sort's to a world of the sort's.
-/
section
namespace Go.Proofs.YtmoldgmfhcmceaaGreatDoor
open Go.Shelf Go.RowKit Go.Lib Go.Sort
variable {P : Program} {α : Type} [Inhabited α]

set_option maxHeartbeats 4000000 in
set_option maxRecDepth 1000000 in
theorem swapRange_s {kc : Nat} (L : KLays P kc) (enc : α → List Value) (g : Nat) (cb : Array Value) (blk off cap a b n : Nat) (d0 d : Array α) (w0 w : World)
    (R : RowK enc kc w0 blk off d0) (hs : d0.size = d.size) (S : SWK enc kc w0 blk off d w) (hab : a + n ≤ b) (hb : b + n ≤ d.size) (hsz : d.size < 1152921504606846976) :
    Calls P 112 #[.slice (some ⟨blk, off, none⟩) d.size cap, .int .i64 a, .int .i64 b, .int .i64 n, .func (.func g) #[] cb] w fun e w' => e = .returned (.tuple #[]) ∧ SWK enc kc w0 blk off (swr d a b n) w' := by
  have mixed := L.mixed; have aE := L.aE; have zE := L.zE; have qt_0 := L.qt_0; have qa_0 := L.qa_0; have qz_0 := L.qz_0; have qv_0 := L.qv_0; have qt_i := L.qt_i; have qa_i := L.qa_i; have qz_i := L.qz_i; have qv_i := L.qv_i; have qt_b := L.qt_b; have qa_b := L.qa_b; have qz_b := L.qz_b; have qv_b := L.qv_b; have qt_u := L.qt_u; have qa_u := L.qa_u; have qz_u := L.qz_u; have qv_u := L.qv_u; have qt_s := L.qt_s; have qa_s := L.qa_s; have qz_s := L.qz_s; have qv_s := L.qv_s; have qt_f := L.qt_f; have qa_f := L.qa_f; have qz_f := L.qz_f; have qv_f := L.qv_f; have eSw := L.e_swapRange; have eRo := L.e_rotate; have eSy := L.e_symMerge
  have S0 : Aside (SWK enc kc w0 blk off d w) := S
  clear S
  go_enter L.f_swapRange, Tryz.ntmps112
  go_wp2
  go_loopg [10] n (fun k vi wr => ∃ i : Nat, vi = .int .i64 i ∧ i ≤ n ∧ n - i ≤ k ∧ Aside (SWK enc kc w0 blk off (swr d a b i) wr))
  case atStart => exact ⟨0, rfl, Nat.zero_le _, by omega, S0⟩
  case round =>
    clear S0
    obtain ⟨i, rfl, hin, hk, S1⟩ := hrel
    have hsk : (swr d a b i).size = d.size := size_swr d a b i
    by_cases hlt : i < n
    · have hltz : (i : Int) < (n : Int) := by omega
      obtain ⟨dk, hdk⟩ : ∃ dk, dk = swr d a b i := ⟨_, rfl⟩
      have HD : Aside (dk = swr d a b i) := hdk
      rw [← hdk] at S1 hsk
      clear hdk
      go_wp2_with fail
      obtain ⟨iNA, hiNA⟩ : ∃ q, q = a + i := ⟨_, rfl⟩
      obtain ⟨jNA, hjNA⟩ : ∃ q, q = b + i := ⟨_, rfl⟩
      have eaA : ((a : Int) + (i : Int)).toNat = iNA := by omega
      have paA : (0 : Int) ≤ (a : Int) + (i : Int) := by omega
      have baA : (a : Int) + (i : Int) < (d.size : Int) := by omega
      have raA : IntKind.i64.wrap ((a : Int) + (i : Int)) = (a : Int) + (i : Int) := by rw [IntKind.wrap_i64]; omega
      have ecA : ((b : Int) + (i : Int)).toNat = jNA := by omega
      have pcA : (0 : Int) ≤ (b : Int) + (i : Int) := by omega
      have bcA : (b : Int) + (i : Int) < (d.size : Int) := by omega
      have rcA : IntKind.i64.wrap ((b : Int) + (i : Int)) = (b : Int) + (i : Int) := by rw [IntKind.wrap_i64]; omega
      have S2 : Aside (SWK enc kc w0 blk off (swp (dk) (a + i) (b + i)) ((wr.drew.setCells blk (off + iNA * kc) (enc (dk)[b + i]!)).setCells blk (off + jNA * kc) (enc (dk)[a + i]!))) := by rw [hiNA, hjNA]; exact S1.out.swapped R (a + i) (b + i) (by omega) (by omega)
      have lAa : Sem.run P (loadCellsFrom ⟨blk, off + iNA * kc, none⟩ 0 kc #[]) wr.drew = .ok (enc (dk)[a + i]!).toArray wr.drew := by rw [hiNA]; exact S1.out.ld1 R (by omega) P (a + i) (by omega)
      have lAb : Sem.run P (loadCellsFrom ⟨blk, off + jNA * kc, none⟩ 0 kc #[]) wr.drew = .ok (enc (dk)[b + i]!).toArray wr.drew := by rw [hjNA]; exact S1.out.ld1 R (by omega) P (b + i) (by omega)
      have sAa : Sem.run P (storeCells ⟨blk, off + iNA * kc, none⟩ (enc (dk)[b + i]!) 0) wr.drew = .ok () (wr.drew.setCells blk (off + iNA * kc) (enc (dk)[b + i]!)) := by rw [hiNA]; exact S1.out.st1 R (by omega) P (a + i) (by omega) (dk)[b + i]!
      have sAb : Sem.run P (storeCells ⟨blk, off + jNA * kc, none⟩ (enc (dk)[a + i]!) 0) (wr.drew.setCells blk (off + iNA * kc) (enc (dk)[b + i]!)) = .ok () ((wr.drew.setCells blk (off + iNA * kc) (enc (dk)[b + i]!)).setCells blk (off + jNA * kc) (enc (dk)[a + i]!)) := by rw [hiNA, hjNA]; exact S1.out.st2 R (by omega) P (a + i) (b + i) (by omega) (by omega) (dk)[b + i]! (dk)[a + i]!
      have nAa : (enc (dk)[a + i]!).length = kc := R.hk _
      have nAb : (enc (dk)[b + i]!).length = kc := R.hk _
      generalize enc (dk)[a + i]! = cIA at S2 lAa sAb nAa
      generalize enc (dk)[b + i]! = cJA at S2 lAb sAa sAb nAb
      clear S1 hiNA hjNA
      go_wp2_with fail
      go_big_region_o
      clear lAa lAb sAa sAb
      generalize (wr.drew.setCells blk (off + iNA * kc) cJA).setCells blk (off + jNA * kc) cIA = w2 at S2 ⊢
      clear eaA ecA nAa nAb
      go_wp2
      go_roundg (n - (i + 1))
      case measure => omega
      case rel => exact ⟨i + 1, by first | rfl | go_num | (congr 1; omega), by omega, by omega, by rw [HD.out] at S2; exact S2⟩
    · have hltz : ¬ (i : Int) < (n : Int) := by omega
      have hin' : i = n := by omega
      go_wp2
      go_end0
      exact ⟨rfl, by rw [← hin']; exact S1.out⟩
end Go.Proofs.YtmoldgmfhcmceaaGreatDoor
end
