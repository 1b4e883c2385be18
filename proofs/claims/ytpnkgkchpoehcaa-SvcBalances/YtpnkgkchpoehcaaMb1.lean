/-
  Texts put together (merge.py): QMath, CMath, CSumMath.
-/
import Derived.Lib.Join
import Derived.Lib.Strings
import Derived.Lib.SplitLaws
import Derived.Test.YtpnkgkchpoehcaaProg
/-
  Signs, segments and texts, over plain lists: what seg's functions answer, and what follows.
-/
section
namespace Go.Proofs.Ytpnkgkchpoehcaa

abbrev Tx := List UInt8
abbrev Sg := List (List Tx)
def mk (l : Tx) : ByteArray := ⟨l.toArray⟩
theorem mk_list (l : Tx) : (mk l).data.toList = l := by simp [mk]
theorem mk_of (s : ByteArray) : mk s.data.toList = s := Lib.mk_data s
theorem mk_size (l : Tx) : (mk l).size = l.length := by rw [Lib.size_eq, mk_list]
theorem mk_inj {a b : Tx} (h : mk a = mk b) : a = b := by rw [← mk_list a, ← mk_list b, h]

def prn (c : UInt8) : Bool := decide (32 ≤ c.toNat) && decide (c.toNat ≤ 126)
def printB (l : Tx) : Bool := l.all prn
def signB (c : UInt8) : Bool := decide (33 ≤ c.toNat) && decide (c.toNat ≤ 126) && !(decide (c.toNat = 45)) && !(decide (c.toNat = 46)) && !(decide (48 ≤ c.toNat) && decide (c.toNat ≤ 57)) && !(decide (65 ≤ c.toNat) && decide (c.toNat ≤ 90)) && !(decide (97 ≤ c.toNat) && decide (c.toNat ≤ 122))
def goodB (e p s : UInt8) : Bool := e != p && e != s && p != s && signB e && signB p && signB s
def plain1 (e p s c : UInt8) : Bool := prn c && c != e && c != p && c != s
def plainB (e p s : UInt8) (l : Tx) : Bool := l.all (plain1 e p s)

theorem sign_prn {c : UInt8} (h : signB c = true) : prn c = true := by
  simp [signB, prn] at h ⊢
  omega
theorem good_ne {e p s : UInt8} (h : goodB e p s = true) : e ≠ p ∧ e ≠ s ∧ p ≠ s ∧ prn e = true ∧ prn p = true ∧ prn s = true := by
  simp only [goodB, Bool.and_eq_true, bne_iff_ne] at h
  obtain ⟨⟨⟨⟨⟨h1, h2⟩, h3⟩, h4⟩, h5⟩, h6⟩ := h
  exact ⟨h1, h2, h3, sign_prn h4, sign_prn h5, sign_prn h6⟩

/-! ### Cutting at a sign -/
def consHead (b : UInt8) : List Tx → List Tx
  | [] => [[b]]
  | x :: r => (b :: x) :: r
def splitC (c : UInt8) : Tx → List Tx
  | [] => [[]]
  | b :: r => if b = c then [] :: splitC c r else consHead b (splitC c r)
def ini (c : UInt8) (l : Tx) : List Tx := (splitC c l).dropLast
def las (c : UInt8) (l : Tx) : Tx := (splitC c l).getLastD []
def joinC (c : UInt8) (xs : List Tx) : Tx := Lib.join xs [c]

theorem consHead_ne (b : UInt8) (X : List Tx) : consHead b X ≠ [] := by cases X <;> simp [consHead]
theorem splitC_ne (c : UInt8) (l : Tx) : splitC c l ≠ [] := by
  cases l with
  | nil => simp [splitC]
  | cons b r => unfold splitC; split <;> simp [consHead_ne]
theorem getLastD_eq {α : Type} (l : List α) (h : l ≠ []) (d : α) : l.getLastD d = l.getLast h := by
  cases l with
  | nil => exact absurd rfl h
  | cons a t => rw [List.getLast_eq_getLastD, List.getLastD_cons]
theorem split_ini (c : UInt8) (l : Tx) : splitC c l = ini c l ++ [las c l] := by
  unfold ini las
  rw [getLastD_eq _ (splitC_ne c l), List.dropLast_concat_getLast]
theorem splitC_eq (c : UInt8) (r : Tx) : splitC c (c :: r) = [] :: splitC c r := by rw [splitC, if_pos rfl]
theorem splitC_cne (c b : UInt8) (r : Tx) (h : b ≠ c) : splitC c (b :: r) = consHead b (splitC c r) := by rw [splitC, if_neg h]
theorem consHead_append (b : UInt8) (X Y : List Tx) (h : X ≠ []) : consHead b (X ++ Y) = consHead b X ++ Y := by
  cases X with
  | nil => exact absurd rfl h
  | cons x r => rfl
theorem splitC_append (c : UInt8) : ∀ (a b : Tx), splitC c (a ++ c :: b) = splitC c a ++ splitC c b
  | [], b => by simp [splitC]
  | x :: a, b => by
    rw [List.cons_append]
    by_cases hx : x = c
    · subst hx; rw [splitC_eq, splitC_eq, splitC_append x a b]; rfl
    · rw [splitC_cne _ _ _ hx, splitC_cne _ _ _ hx, splitC_append c a b, consHead_append _ _ _ (splitC_ne c a)]
theorem splitC_free (c : UInt8) : ∀ (l : Tx), c ∉ l → splitC c l = [l]
  | [], _ => rfl
  | b :: r, h => by
    simp only [List.mem_cons, not_or] at h
    unfold splitC
    rw [if_neg (Ne.symm h.1), splitC_free c r h.2]
    rfl
theorem ini_of {c : UInt8} {l : Tx} {X : List Tx} {x : Tx} (h : splitC c l = X ++ [x]) : ini c l = X ∧ las c l = x := by
  unfold ini las
  rw [h, List.dropLast_concat, getLastD_eq _ (by simp)]
  simp
/-- Behind a list: what stands between goes on. -/
theorem splitC_more (c : UInt8) : ∀ (a b : Tx), c ∉ b → splitC c (a ++ b) = ini c a ++ [las c a ++ b]
  | [], b, h => by rw [List.nil_append, splitC_free c b h]; rfl
  | x :: a, b, h => by
    have ih := splitC_more c a b h
    have hs := split_ini c a
    rw [List.cons_append]
    by_cases hx : x = c
    · subst hx
      have e1 := splitC_eq x (a ++ b)
      have e2 : splitC x (x :: a) = ([] :: ini x a) ++ [las x a] := by rw [splitC_eq, hs]; rfl
      obtain ⟨i1, i2⟩ := ini_of e2
      rw [e1, ih, i1, i2]; rfl
    · have e1 := splitC_cne c x (a ++ b) hx
      have e2 := splitC_cne c x a hx
      cases hi : ini c a with
      | nil =>
        rw [hi] at hs ih
        have e3 : splitC c (x :: a) = [] ++ [x :: las c a] := by rw [e2, hs]; rfl
        obtain ⟨i1, i2⟩ := ini_of e3
        rw [e1, ih, i1, i2]; rfl
      | cons y r =>
        rw [hi] at hs ih
        have e3 : splitC c (x :: a) = ((x :: y) :: r) ++ [las c a] := by rw [e2, hs]; rfl
        obtain ⟨i1, i2⟩ := ini_of e3
        rw [e1, ih, i1, i2]; rfl
theorem snoc_eq (c : UInt8) (l : Tx) : ini c (l ++ [c]) = ini c l ++ [las c l] ∧ las c (l ++ [c]) = [] := by
  have := splitC_append c l []
  rw [split_ini c l] at this
  exact ini_of this
theorem snoc_ne (c b : UInt8) (l : Tx) (h : b ≠ c) : ini c (l ++ [b]) = ini c l ∧ las c (l ++ [b]) = las c l ++ [b] :=
  ini_of (splitC_more c l [b] (by simpa using Ne.symm h))
theorem ini_nil (c : UInt8) : ini c [] = [] ∧ las c [] = [] := by constructor <;> rfl
theorem ini_app (c : UInt8) (a b : Tx) : ini c (a ++ c :: b) = splitC c a ++ ini c b := by
  have h := splitC_append c a b
  rw [split_ini c b, ← List.append_assoc] at h
  exact (ini_of h).1
theorem first_of (c : UInt8) : ∀ (b : Tx), c ∈ b → ∃ x y, b = x ++ c :: y ∧ c ∉ x
  | [], h => by simp at h
  | z :: r, h => by
    by_cases hz : z = c
    · exact ⟨[], r, by simp [hz], by simp⟩
    · have hr : c ∈ r := by
        rcases List.mem_cons.1 h with h | h
        · exact absurd h.symm hz
        · exact h
      obtain ⟨x, y, e, hx⟩ := first_of c r hr
      exact ⟨z :: x, y, by rw [e]; rfl, by simp only [List.mem_cons, not_or]; exact ⟨Ne.symm hz, hx⟩⟩
/-- There is one more, if the sign comes again. -/
theorem ini_more (c : UInt8) (a b : Tx) (h : c ∈ b) : ∃ t r, ini c (a ++ b) = ini c a ++ t :: r := by
  obtain ⟨x, y, rfl, hx⟩ := first_of c b h
  refine ⟨las c a ++ x, ini c y, ?_⟩
  rw [← List.append_assoc, ini_app, splitC_more c a x hx]
  simp

/-! ### Putting together again -/
theorem joinC_one (c : UInt8) (x : Tx) : joinC c [x] = x := Lib.join_one x [c]
theorem joinC_cons (c : UInt8) (x y : Tx) (r : List Tx) : joinC c (x :: y :: r) = x ++ c :: joinC c (y :: r) := by
  unfold joinC
  rw [Lib.join_cons, Lib.join_cons]
  simp [Lib.joinTail]
theorem join_split (c : UInt8) : ∀ l : Tx, joinC c (splitC c l) = l
  | [] => by simp [splitC, joinC, Lib.join_one]
  | b :: r => by
    have ih := join_split c r
    unfold splitC
    cases hs : splitC c r with
    | nil => exact absurd hs (splitC_ne c r)
    | cons x X =>
      rw [hs] at ih
      split
      · next h => rw [joinC_cons, ih, h]; rfl
      · cases X with
        | nil => rw [joinC_one] at ih; show joinC c [b :: x] = _; rw [joinC_one, ih]
        | cons y Y => rw [joinC_cons] at ih; show joinC c ((b :: x) :: y :: Y) = _; rw [joinC_cons, List.cons_append, ih]
theorem split_join (c : UInt8) : ∀ xs : List Tx, xs ≠ [] → (∀ x ∈ xs, c ∉ x) → splitC c (joinC c xs) = xs
  | [], h, _ => absurd rfl h
  | [x], _, h => by rw [joinC_one]; exact splitC_free c x (h x (by simp))
  | x :: y :: r, _, h => by
    rw [joinC_cons, splitC_append, splitC_free c x (h x (by simp)), split_join c (y :: r) (by simp) (fun z hz => h z (List.mem_cons_of_mem _ hz))]
    rfl
/-- What stands between: bytes of the text, and never the sign. -/
theorem split_mem (c : UInt8) : ∀ (l x : Tx), x ∈ splitC c l → ∀ b ∈ x, b ∈ l ∧ b ≠ c
  | [], x, hx, b, hb => by simp [splitC] at hx; subst hx; cases hb
  | a :: r, x, hx, b, hb => by
    unfold splitC at hx
    have ih := split_mem c r
    split at hx
    · rcases List.mem_cons.1 hx with h | h
      · subst h; cases hb
      · obtain ⟨h1, h2⟩ := ih x h b hb
        exact ⟨List.mem_cons_of_mem _ h1, h2⟩
    · next hne =>
      cases hs : splitC c r with
      | nil => exact absurd hs (splitC_ne c r)
      | cons y Y =>
        rw [hs] at hx ih
        rcases List.mem_cons.1 hx with h | h
        · subst h
          rcases List.mem_cons.1 hb with h | h
          · subst h; exact ⟨List.mem_cons_self, hne⟩
          · obtain ⟨h1, h2⟩ := ih y List.mem_cons_self b h
            exact ⟨List.mem_cons_of_mem _ h1, h2⟩
        · obtain ⟨h1, h2⟩ := ih x (List.mem_cons_of_mem _ h) b hb
          exact ⟨List.mem_cons_of_mem _ h1, h2⟩
theorem split_len (c : UInt8) : ∀ l : Tx, (splitC c l).length ≤ l.length + 1
  | [] => by simp [splitC]
  | b :: r => by
    have ih := split_len c r
    unfold splitC
    split
    · simpa using ih
    · cases hs : splitC c r with
      | nil => exact absurd hs (splitC_ne c r)
      | cons x X => rw [hs] at ih; simp [consHead] at ih ⊢; omega
theorem split_each (c : UInt8) (l x : Tx) (h : x ∈ splitC c l) : x.length ≤ l.length := by
  induction l generalizing x with
  | nil => simp [splitC] at h; subst h; simp
  | cons b r ih =>
    unfold splitC at h
    split at h
    · rcases List.mem_cons.1 h with h | h
      · subst h; simp
      · have := ih x h; simp; omega
    · cases hs : splitC c r with
      | nil => exact absurd hs (splitC_ne c r)
      | cons y Y =>
        rw [hs] at h ih
        rcases List.mem_cons.1 h with h | h
        · subst h
          have := ih y List.mem_cons_self
          simp; omega
        · have := ih x (List.mem_cons_of_mem _ h); simp; omega

/-! ### The shelf's cut at one byte is this one -/
theorem index_one (c : UInt8) (y : Tx) : ∀ x : Tx, c ∉ x → Lib.index (x ++ c :: y) [c] = (x.length : Int)
  | [], _ => by simp [Lib.index]
  | b :: r, h => by
    simp only [List.mem_cons, not_or] at h
    have ih := index_one c y r h.2
    rw [List.cons_append]
    unfold Lib.index
    rw [ih]
    have hb : ([c] : List UInt8).isPrefixOf (b :: (r ++ c :: y)) = false := by
      simp only [List.isPrefixOf, Bool.and_true, beq_eq_false_iff_ne]
      exact h.1
    have hm : ((r.length : Int) == -1) = false := by rw [beq_eq_false_iff_ne]; omega
    rw [hb, hm]
    simp
theorem splitK_one (c : UInt8) : ∀ (k : Nat) (l : Tx), l.count c = k → Lib.splitK [c] 0 k l = splitC c l
  | 0, l, h => (splitC_free c l (List.count_eq_zero.1 h)).symm
  | k + 1, l, h => by
    have hm : c ∈ l := List.count_pos_iff.1 (by omega)
    obtain ⟨x, y, rfl, hx⟩ := first_of c l hm
    have hi := index_one c y x hx
    have hc : y.count c = k := by
      rw [List.count_append, List.count_eq_zero.2 hx, List.count_cons_self] at h
      omega
    have hn : ((x.length : Int) == -1) = false := by rw [beq_eq_false_iff_ne]; omega
    unfold Lib.splitK
    rw [hi, hn]
    simp only [Bool.false_eq_true, if_false, Int.toNat_natCast, Nat.add_zero, List.length_singleton]
    rw [List.take_left, List.drop_append, List.drop_of_length_le (by omega), List.nil_append, show x.length + 1 - x.length = 1 by omega, List.drop_succ_cons, List.drop_zero, splitK_one c k y hc, splitC_append, splitC_free c x hx]
    rfl
/-- The texts that strings.Split makes of one, at one byte. -/
theorem splitB_one (c : UInt8) (s : ByteArray) : Lib.splitB ⟨#[c]⟩ 0 (Lib.countB s ⟨#[c]⟩) s = (splitC c s.data.toList).map mk := by
  have h := Lib.splitB_data ⟨#[c]⟩ 0 (Lib.countB s ⟨#[c]⟩) s
  have hc : Lib.countB s ⟨#[c]⟩ = s.data.toList.count c := by
    show Lib.count s.data.toList [c] = _
    exact Lib.count_one c _
  have h2 : Lib.splitK [c] 0 (Lib.countB s ⟨#[c]⟩) s.data.toList = splitC c s.data.toList := splitK_one c _ _ hc.symm
  have h3 : (Lib.splitB ⟨#[c]⟩ 0 (Lib.countB s ⟨#[c]⟩) s).map (·.data.toList) = splitC c s.data.toList := h.trans h2
  rw [← h3, List.map_map]
  conv => lhs; rw [← List.map_id (Lib.splitB ⟨#[c]⟩ 0 (Lib.countB s ⟨#[c]⟩) s)]
  refine List.map_congr_left fun x _ => ?_
  exact (mk_of x).symm
end Go.Proofs.Ytpnkgkchpoehcaa
end

/-
  Plain numbers, no Go: what layer 1's calls answer, said as plain functions: which numbers are amounts, sums, differences, scaled amounts, parts.
-/
section
namespace Go.Proofs.Ytpnkgkchpoehcaa.Ce

/-- Is it an amount: from 0 to ten to the thirteenth? -/
def good (a : Int) : Bool := decide (0 ≤ a) && decide (a ≤ 10000000000000)

theorem good_iff (a : Int) : good a = true ↔ 0 ≤ a ∧ a ≤ 10000000000000 := by
  unfold good; simp
theorem good_not (a : Int) : good a = false ↔ a < 0 ∨ 10000000000000 < a := by
  have h := good_iff a
  cases g : good a
  · simp only [true_iff]
    rw [g] at h
    simp at h
    omega
  · rw [g] at h
    simp at h
    simp
    omega

def addV (a b : Int) : Int := if good a = true ∧ good b = true ∧ good (a + b) = true then a + b else 0
def addE (a b : Int) : Int := if good a = true ∧ good b = true then (if good (a + b) = true then 0 else 2) else 1
def subV (a b : Int) : Int := if good a = true ∧ good b = true ∧ b ≤ a then a - b else 0
def subE (a b : Int) : Int := if good a = true ∧ good b = true then (if b ≤ a then 0 else 3) else 1

/-- a times n by d, cut off; told by two numbers: the answer and the error. -/
def scaleV (a n d : Int) : Int := if good a = true ∧ 0 ≤ n ∧ 1 ≤ d ∧ good (a * n / d) = true then a * n / d else 0
def scaleE (a n d : Int) : Int := if good a = true ∧ 0 ≤ n ∧ 1 ≤ d then (if good (a * n / d) = true then 0 else 2) else 1

def partV (a p : Int) : Int := if 0 ≤ p ∧ p ≤ 10000 then scaleV a p 10000 else 0
def partE (a p : Int) : Int := if 0 ≤ p ∧ p ≤ 10000 then scaleE a p 10000 else 1

end Go.Proofs.Ytpnkgkchpoehcaa.Ce
end

/-
  Plain numbers: many amounts together.
-/
section
namespace Go.Proofs.Ytpnkgkchpoehcaa.Ce

/-- Are the first n all amounts? -/
def allG (f : Nat → Int) : Nat → Bool
  | 0 => true
  | n + 1 => allG f n && good (f n)
/-- The first n together. -/
def tot (f : Nat → Int) : Nat → Int
  | 0 => 0
  | n + 1 => tot f n + f n
def sumV (f : Nat → Int) (n : Nat) : Int := if allG f n = true ∧ tot f n ≤ 10000000000000 then tot f n else 0
def sumE (f : Nat → Int) (n : Nat) : Int := if allG f n = true then (if tot f n ≤ 10000000000000 then 0 else 2) else 1

theorem allG_at (f : Nat → Int) : ∀ (n k : Nat), k < n → allG f n = true → good (f k) = true
  | 0, _, h, _ => absurd h (by omega)
  | n + 1, k, h, g => by
    simp only [allG, Bool.and_eq_true] at g
    by_cases e : k = n
    · rw [e]; exact g.2
    · exact allG_at f n k (by omega) g.1
theorem allG_not (f : Nat → Int) (n k : Nat) (h : k < n) (g : good (f k) = false) : allG f n = false := by
  cases e : allG f n
  · rfl
  · rw [allG_at f n k h e] at g; cases g
theorem allG_more (f : Nat → Int) (k : Nat) (h : allG f k = true) (g : good (f k) = true) : allG f (k + 1) = true := by
  simp only [allG, h, g, Bool.and_self]

theorem tot_le (f : Nat → Int) (n : Nat) (g : allG f n = true) : ∀ (j k : Nat), k + j = n → tot f k ≤ tot f n
  | 0, k, h => by rw [← h]; exact Int.le_refl _
  | j + 1, k, h => by
    have h1 := tot_le f n g j (k + 1) (by omega)
    have h2 := (good_iff _).1 (allG_at f n k (by omega) g)
    simp only [tot] at h1
    omega
theorem tot_nonneg (f : Nat → Int) (n : Nat) (g : allG f n = true) (k : Nat) (h : k ≤ n) : 0 ≤ tot f k := by
  induction k with
  | zero => exact Int.le_refl _
  | succ k ih =>
    have h1 := ih (by omega)
    have h2 := (good_iff _).1 (allG_at f n k (by omega) g)
    simp only [tot]
    omega
/-- Too much on the way is too much in all. -/
theorem sum_over (f : Nat → Int) (n k : Nat) (g : allG f n = true) (h : k < n) (o : 10000000000000 < tot f k + f k) : sumV f n = 0 ∧ sumE f n = 2 := by
  have h1 := tot_le f n g (n - (k + 1)) (k + 1) (by omega)
  simp only [tot] at h1
  constructor
  · unfold sumV; rw [if_neg]; omega
  · unfold sumE; rw [if_pos g, if_neg]; omega
theorem sum_end (f : Nat → Int) (n : Nat) (g : allG f n = true) (h : tot f n ≤ 10000000000000) : sumV f n = tot f n ∧ sumE f n = 0 := by
  constructor
  · unfold sumV; rw [if_pos ⟨g, h⟩]
  · unfold sumE; rw [if_pos g, if_pos h]
theorem sum_arg (f : Nat → Int) (n : Nat) (g : allG f n = false) : sumV f n = 0 ∧ sumE f n = 1 := by
  constructor
  · unfold sumV; rw [if_neg]; rw [g]; simp
  · unfold sumE; rw [if_neg]; rw [g]; simp

end Go.Proofs.Ytpnkgkchpoehcaa.Ce
end
