/-
  Texts put together (merge.py): QMath, CMath, CSumMath, DMath, LMath.
-/
import Derived.Lib.Join
import Derived.Lib.Strings
import Derived.Lib.SplitLaws
import Derived.Test.YtpfpjbeofogbgaaProg
/-
  Signs, segments and texts, over plain lists: what seg's functions answer, and what follows.
-/
section
namespace Go.Proofs.Ytpfpjbeofogbgaa

abbrev Tx := List UInt8
abbrev Sg := List (List Tx)
def mk (l : Tx) : ByteArray := ⟨l.toArray⟩
theorem mk_list (l : Tx) : (mk l).data.toList = l := by simp [mk]
theorem mk_of (s : ByteArray) : mk s.data.toList = s := Lib.mk_data s
theorem mk_size (l : Tx) : (mk l).size = l.length := by rw [Lib.size_eq, mk_list]
theorem mk_inj {a b : Tx} (h : mk a = mk b) : a = b := by rw [← mk_list a, ← mk_list b, h]

def prn (c : UInt8) : Bool := decide (32 ≤ c.toNat) && decide (c.toNat ≤ 126)
def printB (l : Tx) : Bool := l.all prn
def signB (c : UInt8) : Bool := decide (33 ≤ c.toNat) && decide (c.toNat ≤ 126) && !(decide (c.toNat = 45)) && !(decide (c.toNat = 46)) && !(decide (48 ≤ c.toNat) && decide (c.toNat ≤ 57)) && !(decide (65 ≤ c.toNat) && decide (c.toNat ≤ 90)) && !(decide (97 ≤ c.toNat) && decide (c.toNat ≤ 122))
def goodB (e p s : UInt8) : Bool := e != p && e != s && p != s && signB e && signB p && signB s
def plain1 (e p s c : UInt8) : Bool := prn c && c != e && c != p && c != s
def plainB (e p s : UInt8) (l : Tx) : Bool := l.all (plain1 e p s)

theorem sign_prn {c : UInt8} (h : signB c = true) : prn c = true := by
  simp [signB, prn] at h ⊢
  omega
theorem good_ne {e p s : UInt8} (h : goodB e p s = true) : e ≠ p ∧ e ≠ s ∧ p ≠ s ∧ prn e = true ∧ prn p = true ∧ prn s = true := by
  simp only [goodB, Bool.and_eq_true, bne_iff_ne] at h
  obtain ⟨⟨⟨⟨⟨h1, h2⟩, h3⟩, h4⟩, h5⟩, h6⟩ := h
  exact ⟨h1, h2, h3, sign_prn h4, sign_prn h5, sign_prn h6⟩

/-! ### Cutting at a sign -/
def consHead (b : UInt8) : List Tx → List Tx
  | [] => [[b]]
  | x :: r => (b :: x) :: r
def splitC (c : UInt8) : Tx → List Tx
  | [] => [[]]
  | b :: r => if b = c then [] :: splitC c r else consHead b (splitC c r)
def ini (c : UInt8) (l : Tx) : List Tx := (splitC c l).dropLast
def las (c : UInt8) (l : Tx) : Tx := (splitC c l).getLastD []
def joinC (c : UInt8) (xs : List Tx) : Tx := Lib.join xs [c]

theorem consHead_ne (b : UInt8) (X : List Tx) : consHead b X ≠ [] := by cases X <;> simp [consHead]
theorem splitC_ne (c : UInt8) (l : Tx) : splitC c l ≠ [] := by
  cases l with
  | nil => simp [splitC]
  | cons b r => unfold splitC; split <;> simp [consHead_ne]
theorem getLastD_eq {α : Type} (l : List α) (h : l ≠ []) (d : α) : l.getLastD d = l.getLast h := by
  cases l with
  | nil => exact absurd rfl h
  | cons a t => rw [List.getLast_eq_getLastD, List.getLastD_cons]
theorem split_ini (c : UInt8) (l : Tx) : splitC c l = ini c l ++ [las c l] := by
  unfold ini las
  rw [getLastD_eq _ (splitC_ne c l), List.dropLast_concat_getLast]
theorem splitC_eq (c : UInt8) (r : Tx) : splitC c (c :: r) = [] :: splitC c r := by rw [splitC, if_pos rfl]
theorem splitC_cne (c b : UInt8) (r : Tx) (h : b ≠ c) : splitC c (b :: r) = consHead b (splitC c r) := by rw [splitC, if_neg h]
theorem consHead_append (b : UInt8) (X Y : List Tx) (h : X ≠ []) : consHead b (X ++ Y) = consHead b X ++ Y := by
  cases X with
  | nil => exact absurd rfl h
  | cons x r => rfl
theorem splitC_append (c : UInt8) : ∀ (a b : Tx), splitC c (a ++ c :: b) = splitC c a ++ splitC c b
  | [], b => by simp [splitC]
  | x :: a, b => by
    rw [List.cons_append]
    by_cases hx : x = c
    · subst hx; rw [splitC_eq, splitC_eq, splitC_append x a b]; rfl
    · rw [splitC_cne _ _ _ hx, splitC_cne _ _ _ hx, splitC_append c a b, consHead_append _ _ _ (splitC_ne c a)]
theorem splitC_free (c : UInt8) : ∀ (l : Tx), c ∉ l → splitC c l = [l]
  | [], _ => rfl
  | b :: r, h => by
    simp only [List.mem_cons, not_or] at h
    unfold splitC
    rw [if_neg (Ne.symm h.1), splitC_free c r h.2]
    rfl
theorem ini_of {c : UInt8} {l : Tx} {X : List Tx} {x : Tx} (h : splitC c l = X ++ [x]) : ini c l = X ∧ las c l = x := by
  unfold ini las
  rw [h, List.dropLast_concat, getLastD_eq _ (by simp)]
  simp
/-- Behind a list: what stands between goes on. -/
theorem splitC_more (c : UInt8) : ∀ (a b : Tx), c ∉ b → splitC c (a ++ b) = ini c a ++ [las c a ++ b]
  | [], b, h => by rw [List.nil_append, splitC_free c b h]; rfl
  | x :: a, b, h => by
    have ih := splitC_more c a b h
    have hs := split_ini c a
    rw [List.cons_append]
    by_cases hx : x = c
    · subst hx
      have e1 := splitC_eq x (a ++ b)
      have e2 : splitC x (x :: a) = ([] :: ini x a) ++ [las x a] := by rw [splitC_eq, hs]; rfl
      obtain ⟨i1, i2⟩ := ini_of e2
      rw [e1, ih, i1, i2]; rfl
    · have e1 := splitC_cne c x (a ++ b) hx
      have e2 := splitC_cne c x a hx
      cases hi : ini c a with
      | nil =>
        rw [hi] at hs ih
        have e3 : splitC c (x :: a) = [] ++ [x :: las c a] := by rw [e2, hs]; rfl
        obtain ⟨i1, i2⟩ := ini_of e3
        rw [e1, ih, i1, i2]; rfl
      | cons y r =>
        rw [hi] at hs ih
        have e3 : splitC c (x :: a) = ((x :: y) :: r) ++ [las c a] := by rw [e2, hs]; rfl
        obtain ⟨i1, i2⟩ := ini_of e3
        rw [e1, ih, i1, i2]; rfl
theorem snoc_eq (c : UInt8) (l : Tx) : ini c (l ++ [c]) = ini c l ++ [las c l] ∧ las c (l ++ [c]) = [] := by
  have := splitC_append c l []
  rw [split_ini c l] at this
  exact ini_of this
theorem snoc_ne (c b : UInt8) (l : Tx) (h : b ≠ c) : ini c (l ++ [b]) = ini c l ∧ las c (l ++ [b]) = las c l ++ [b] :=
  ini_of (splitC_more c l [b] (by simpa using Ne.symm h))
theorem ini_nil (c : UInt8) : ini c [] = [] ∧ las c [] = [] := by constructor <;> rfl
theorem ini_app (c : UInt8) (a b : Tx) : ini c (a ++ c :: b) = splitC c a ++ ini c b := by
  have h := splitC_append c a b
  rw [split_ini c b, ← List.append_assoc] at h
  exact (ini_of h).1
theorem first_of (c : UInt8) : ∀ (b : Tx), c ∈ b → ∃ x y, b = x ++ c :: y ∧ c ∉ x
  | [], h => by simp at h
  | z :: r, h => by
    by_cases hz : z = c
    · exact ⟨[], r, by simp [hz], by simp⟩
    · have hr : c ∈ r := by
        rcases List.mem_cons.1 h with h | h
        · exact absurd h.symm hz
        · exact h
      obtain ⟨x, y, e, hx⟩ := first_of c r hr
      exact ⟨z :: x, y, by rw [e]; rfl, by simp only [List.mem_cons, not_or]; exact ⟨Ne.symm hz, hx⟩⟩
/-- There is one more, if the sign comes again. -/
theorem ini_more (c : UInt8) (a b : Tx) (h : c ∈ b) : ∃ t r, ini c (a ++ b) = ini c a ++ t :: r := by
  obtain ⟨x, y, rfl, hx⟩ := first_of c b h
  refine ⟨las c a ++ x, ini c y, ?_⟩
  rw [← List.append_assoc, ini_app, splitC_more c a x hx]
  simp

/-! ### Putting together again -/
theorem joinC_one (c : UInt8) (x : Tx) : joinC c [x] = x := Lib.join_one x [c]
theorem joinC_cons (c : UInt8) (x y : Tx) (r : List Tx) : joinC c (x :: y :: r) = x ++ c :: joinC c (y :: r) := by
  unfold joinC
  rw [Lib.join_cons, Lib.join_cons]
  simp [Lib.joinTail]
theorem join_split (c : UInt8) : ∀ l : Tx, joinC c (splitC c l) = l
  | [] => by simp [splitC, joinC, Lib.join_one]
  | b :: r => by
    have ih := join_split c r
    unfold splitC
    cases hs : splitC c r with
    | nil => exact absurd hs (splitC_ne c r)
    | cons x X =>
      rw [hs] at ih
      split
      · next h => rw [joinC_cons, ih, h]; rfl
      · cases X with
        | nil => rw [joinC_one] at ih; show joinC c [b :: x] = _; rw [joinC_one, ih]
        | cons y Y => rw [joinC_cons] at ih; show joinC c ((b :: x) :: y :: Y) = _; rw [joinC_cons, List.cons_append, ih]
theorem split_join (c : UInt8) : ∀ xs : List Tx, xs ≠ [] → (∀ x ∈ xs, c ∉ x) → splitC c (joinC c xs) = xs
  | [], h, _ => absurd rfl h
  | [x], _, h => by rw [joinC_one]; exact splitC_free c x (h x (by simp))
  | x :: y :: r, _, h => by
    rw [joinC_cons, splitC_append, splitC_free c x (h x (by simp)), split_join c (y :: r) (by simp) (fun z hz => h z (List.mem_cons_of_mem _ hz))]
    rfl
/-- What stands between: bytes of the text, and never the sign. -/
theorem split_mem (c : UInt8) : ∀ (l x : Tx), x ∈ splitC c l → ∀ b ∈ x, b ∈ l ∧ b ≠ c
  | [], x, hx, b, hb => by simp [splitC] at hx; subst hx; cases hb
  | a :: r, x, hx, b, hb => by
    unfold splitC at hx
    have ih := split_mem c r
    split at hx
    · rcases List.mem_cons.1 hx with h | h
      · subst h; cases hb
      · obtain ⟨h1, h2⟩ := ih x h b hb
        exact ⟨List.mem_cons_of_mem _ h1, h2⟩
    · next hne =>
      cases hs : splitC c r with
      | nil => exact absurd hs (splitC_ne c r)
      | cons y Y =>
        rw [hs] at hx ih
        rcases List.mem_cons.1 hx with h | h
        · subst h
          rcases List.mem_cons.1 hb with h | h
          · subst h; exact ⟨List.mem_cons_self, hne⟩
          · obtain ⟨h1, h2⟩ := ih y List.mem_cons_self b h
            exact ⟨List.mem_cons_of_mem _ h1, h2⟩
        · obtain ⟨h1, h2⟩ := ih x (List.mem_cons_of_mem _ h) b hb
          exact ⟨List.mem_cons_of_mem _ h1, h2⟩
theorem split_len (c : UInt8) : ∀ l : Tx, (splitC c l).length ≤ l.length + 1
  | [] => by simp [splitC]
  | b :: r => by
    have ih := split_len c r
    unfold splitC
    split
    · simpa using ih
    · cases hs : splitC c r with
      | nil => exact absurd hs (splitC_ne c r)
      | cons x X => rw [hs] at ih; simp [consHead] at ih ⊢; omega
theorem split_each (c : UInt8) (l x : Tx) (h : x ∈ splitC c l) : x.length ≤ l.length := by
  induction l generalizing x with
  | nil => simp [splitC] at h; subst h; simp
  | cons b r ih =>
    unfold splitC at h
    split at h
    · rcases List.mem_cons.1 h with h | h
      · subst h; simp
      · have := ih x h; simp; omega
    · cases hs : splitC c r with
      | nil => exact absurd hs (splitC_ne c r)
      | cons y Y =>
        rw [hs] at h ih
        rcases List.mem_cons.1 h with h | h
        · subst h
          have := ih y List.mem_cons_self
          simp; omega
        · have := ih x (List.mem_cons_of_mem _ h); simp; omega

/-! ### The shelf's cut at one byte is this one -/
theorem index_one (c : UInt8) (y : Tx) : ∀ x : Tx, c ∉ x → Lib.index (x ++ c :: y) [c] = (x.length : Int)
  | [], _ => by simp [Lib.index]
  | b :: r, h => by
    simp only [List.mem_cons, not_or] at h
    have ih := index_one c y r h.2
    rw [List.cons_append]
    unfold Lib.index
    rw [ih]
    have hb : ([c] : List UInt8).isPrefixOf (b :: (r ++ c :: y)) = false := by
      simp only [List.isPrefixOf, Bool.and_true, beq_eq_false_iff_ne]
      exact h.1
    have hm : ((r.length : Int) == -1) = false := by rw [beq_eq_false_iff_ne]; omega
    rw [hb, hm]
    simp
theorem splitK_one (c : UInt8) : ∀ (k : Nat) (l : Tx), l.count c = k → Lib.splitK [c] 0 k l = splitC c l
  | 0, l, h => (splitC_free c l (List.count_eq_zero.1 h)).symm
  | k + 1, l, h => by
    have hm : c ∈ l := List.count_pos_iff.1 (by omega)
    obtain ⟨x, y, rfl, hx⟩ := first_of c l hm
    have hi := index_one c y x hx
    have hc : y.count c = k := by
      rw [List.count_append, List.count_eq_zero.2 hx, List.count_cons_self] at h
      omega
    have hn : ((x.length : Int) == -1) = false := by rw [beq_eq_false_iff_ne]; omega
    unfold Lib.splitK
    rw [hi, hn]
    simp only [Bool.false_eq_true, if_false, Int.toNat_natCast, Nat.add_zero, List.length_singleton]
    rw [List.take_left, List.drop_append, List.drop_of_length_le (by omega), List.nil_append, show x.length + 1 - x.length = 1 by omega, List.drop_succ_cons, List.drop_zero, splitK_one c k y hc, splitC_append, splitC_free c x hx]
    rfl
/-- The texts that strings.Split makes of one, at one byte. -/
theorem splitB_one (c : UInt8) (s : ByteArray) : Lib.splitB ⟨#[c]⟩ 0 (Lib.countB s ⟨#[c]⟩) s = (splitC c s.data.toList).map mk := by
  have h := Lib.splitB_data ⟨#[c]⟩ 0 (Lib.countB s ⟨#[c]⟩) s
  have hc : Lib.countB s ⟨#[c]⟩ = s.data.toList.count c := by
    show Lib.count s.data.toList [c] = _
    exact Lib.count_one c _
  have h2 : Lib.splitK [c] 0 (Lib.countB s ⟨#[c]⟩) s.data.toList = splitC c s.data.toList := splitK_one c _ _ hc.symm
  have h3 : (Lib.splitB ⟨#[c]⟩ 0 (Lib.countB s ⟨#[c]⟩) s).map (·.data.toList) = splitC c s.data.toList := h.trans h2
  rw [← h3, List.map_map]
  conv => lhs; rw [← List.map_id (Lib.splitB ⟨#[c]⟩ 0 (Lib.countB s ⟨#[c]⟩) s)]
  refine List.map_congr_left fun x _ => ?_
  exact (mk_of x).symm
end Go.Proofs.Ytpfpjbeofogbgaa
end

/-
  Plain numbers, no Go: what layer 1's calls answer, said as plain functions: which numbers are amounts, sums, differences, scaled amounts, parts.
-/
section
namespace Go.Proofs.Ytpfpjbeofogbgaa.Ce

/-- Is it an amount: from 0 to ten to the thirteenth? -/
def good (a : Int) : Bool := decide (0 ≤ a) && decide (a ≤ 10000000000000)

theorem good_iff (a : Int) : good a = true ↔ 0 ≤ a ∧ a ≤ 10000000000000 := by
  unfold good; simp
theorem good_not (a : Int) : good a = false ↔ a < 0 ∨ 10000000000000 < a := by
  have h := good_iff a
  cases g : good a
  · simp only [true_iff]
    rw [g] at h
    simp at h
    omega
  · rw [g] at h
    simp at h
    simp
    omega

def addV (a b : Int) : Int := if good a = true ∧ good b = true ∧ good (a + b) = true then a + b else 0
def addE (a b : Int) : Int := if good a = true ∧ good b = true then (if good (a + b) = true then 0 else 2) else 1
def subV (a b : Int) : Int := if good a = true ∧ good b = true ∧ b ≤ a then a - b else 0
def subE (a b : Int) : Int := if good a = true ∧ good b = true then (if b ≤ a then 0 else 3) else 1

/-- a times n by d, cut off; told by two numbers: the answer and the error. -/
def scaleV (a n d : Int) : Int := if good a = true ∧ 0 ≤ n ∧ 1 ≤ d ∧ good (a * n / d) = true then a * n / d else 0
def scaleE (a n d : Int) : Int := if good a = true ∧ 0 ≤ n ∧ 1 ≤ d then (if good (a * n / d) = true then 0 else 2) else 1

def partV (a p : Int) : Int := if 0 ≤ p ∧ p ≤ 10000 then scaleV a p 10000 else 0
def partE (a p : Int) : Int := if 0 ≤ p ∧ p ≤ 10000 then scaleE a p 10000 else 1

end Go.Proofs.Ytpfpjbeofogbgaa.Ce
end

/-
  Plain numbers: many amounts together.
-/
section
namespace Go.Proofs.Ytpfpjbeofogbgaa.Ce

/-- Are the first n all amounts? -/
def allG (f : Nat → Int) : Nat → Bool
  | 0 => true
  | n + 1 => allG f n && good (f n)
/-- The first n together. -/
def tot (f : Nat → Int) : Nat → Int
  | 0 => 0
  | n + 1 => tot f n + f n
def sumV (f : Nat → Int) (n : Nat) : Int := if allG f n = true ∧ tot f n ≤ 10000000000000 then tot f n else 0
def sumE (f : Nat → Int) (n : Nat) : Int := if allG f n = true then (if tot f n ≤ 10000000000000 then 0 else 2) else 1

theorem allG_at (f : Nat → Int) : ∀ (n k : Nat), k < n → allG f n = true → good (f k) = true
  | 0, _, h, _ => absurd h (by omega)
  | n + 1, k, h, g => by
    simp only [allG, Bool.and_eq_true] at g
    by_cases e : k = n
    · rw [e]; exact g.2
    · exact allG_at f n k (by omega) g.1
theorem allG_not (f : Nat → Int) (n k : Nat) (h : k < n) (g : good (f k) = false) : allG f n = false := by
  cases e : allG f n
  · rfl
  · rw [allG_at f n k h e] at g; cases g
theorem allG_more (f : Nat → Int) (k : Nat) (h : allG f k = true) (g : good (f k) = true) : allG f (k + 1) = true := by
  simp only [allG, h, g, Bool.and_self]

theorem tot_le (f : Nat → Int) (n : Nat) (g : allG f n = true) : ∀ (j k : Nat), k + j = n → tot f k ≤ tot f n
  | 0, k, h => by rw [← h]; exact Int.le_refl _
  | j + 1, k, h => by
    have h1 := tot_le f n g j (k + 1) (by omega)
    have h2 := (good_iff _).1 (allG_at f n k (by omega) g)
    simp only [tot] at h1
    omega
theorem tot_nonneg (f : Nat → Int) (n : Nat) (g : allG f n = true) (k : Nat) (h : k ≤ n) : 0 ≤ tot f k := by
  induction k with
  | zero => exact Int.le_refl _
  | succ k ih =>
    have h1 := ih (by omega)
    have h2 := (good_iff _).1 (allG_at f n k (by omega) g)
    simp only [tot]
    omega
/-- Too much on the way is too much in all. -/
theorem sum_over (f : Nat → Int) (n k : Nat) (g : allG f n = true) (h : k < n) (o : 10000000000000 < tot f k + f k) : sumV f n = 0 ∧ sumE f n = 2 := by
  have h1 := tot_le f n g (n - (k + 1)) (k + 1) (by omega)
  simp only [tot] at h1
  constructor
  · unfold sumV; rw [if_neg]; omega
  · unfold sumE; rw [if_pos g, if_neg]; omega
theorem sum_end (f : Nat → Int) (n : Nat) (g : allG f n = true) (h : tot f n ≤ 10000000000000) : sumV f n = tot f n ∧ sumE f n = 0 := by
  constructor
  · unfold sumV; rw [if_pos ⟨g, h⟩]
  · unfold sumE; rw [if_pos g, if_pos h]
theorem sum_arg (f : Nat → Int) (n : Nat) (g : allG f n = false) : sumV f n = 0 ∧ sumE f n = 1 := by
  constructor
  · unfold sumV; rw [if_neg]; rw [g]; simp
  · unfold sumE; rw [if_neg]; rw [g]; simp

end Go.Proofs.Ytpfpjbeofogbgaa.Ce
end

/-
  The calendar's plain mathematics: leap years, months' lengths, days ahead of a day; a later day has more days ahead of it; each number of days has its day.
-/
section
namespace Go.Proofs.Ytpfpjbeofogbgaa.Da

def leapB (y : Int) : Bool := (y % 4 == 0 && y % 100 != 0) || y % 400 == 0
def lp (y : Int) : Int := if leapB y = true then 1 else 0
def lens : List Int := [31, 28, 31, 30, 31, 30, 31, 31, 30, 31, 30, 31]
def lenT (m : Int) : Int := lens.getD (m - 1).toNat 0
def lenM (y m : Int) : Int := if (m == 2 && leapB y) = true then 29 else lenT m
def cum (y m : Int) : Int := if m ≤ 2 then 31 * (m - 1) else (153 * (m - 3) + 2) / 5 + 59 + lp y
def ahead (y : Int) : Int := (y - 1) * 365 + (y - 1) / 4 - (y - 1) / 100 + (y - 1) / 400
def yr (n : Int) : Int := n.tdiv 10000
def mo (n : Int) : Int := (n.tdiv 100).tmod 100
def da (n : Int) : Int := n.tmod 100
def good (n : Int) : Bool := decide (1 ≤ yr n ∧ yr n ≤ 9999 ∧ 1 ≤ mo n ∧ mo n ≤ 12 ∧ 1 ≤ da n ∧ da n ≤ lenM (yr n) (mo n))
def dayOf (n : Int) : Int := ahead (yr n) + cum (yr n) (mo n) + da n - 1

theorem leap_iff (y : Int) : leapB y = true ↔ (y % 4 = 0 ∧ y % 100 ≠ 0) ∨ y % 400 = 0 := by simp [leapB]
theorem leap_not (y : Int) : leapB y = false ↔ ¬ ((y % 4 = 0 ∧ y % 100 ≠ 0) ∨ y % 400 = 0) := by rw [← leap_iff]; simp
theorem lp_cases (y : Int) : (lp y = 1 ∧ leapB y = true) ∨ (lp y = 0 ∧ leapB y = false) := by unfold lp; cases leapB y <;> simp
theorem lp_01 (y : Int) : 0 ≤ lp y ∧ lp y ≤ 1 := by rcases lp_cases y with h | h <;> omega
theorem yr_eq (n : Int) (h : 0 ≤ n) : yr n = n / 10000 := by unfold yr; exact Int.tdiv_eq_ediv_of_nonneg h
theorem mo_eq (n : Int) (h : 0 ≤ n) : mo n = n / 100 % 100 := by unfold mo; rw [Int.tdiv_eq_ediv_of_nonneg h, Int.tmod_eq_emod_of_nonneg (by omega)]
theorem da_eq (n : Int) (h : 0 ≤ n) : da n = n % 100 := by unfold da; exact Int.tmod_eq_emod_of_nonneg h
theorem yr_neg (n : Int) (h : n < 0) : yr n ≤ 0 := by
  unfold yr
  have := Int.tdiv_nonneg (a := -n) (b := 10000) (by omega) (by omega)
  rw [Int.neg_tdiv] at this
  omega

theorem month_cases (m : Int) (h1 : 1 ≤ m) (h2 : m ≤ 12) : m = 1 ∨ m = 2 ∨ m = 3 ∨ m = 4 ∨ m = 5 ∨ m = 6 ∨ m = 7 ∨ m = 8 ∨ m = 9 ∨ m = 10 ∨ m = 11 ∨ m = 12 := by omega
theorem cum_succ (y m : Int) (h1 : 1 ≤ m) (h2 : m ≤ 12) : cum y (m + 1) = cum y m + lenM y m := by
  rcases lp_cases y with ⟨a, b⟩ | ⟨a, b⟩ <;>
  rcases month_cases m h1 h2 with rfl | rfl | rfl | rfl | rfl | rfl | rfl | rfl | rfl | rfl | rfl | rfl <;> simp [cum, lenM, lenT, lens, a, b]
theorem lenM_bd (y m : Int) (h1 : 1 ≤ m) (h2 : m ≤ 12) : 28 ≤ lenM y m ∧ lenM y m ≤ 31 := by
  cases b : leapB y <;>
  rcases month_cases m h1 h2 with rfl | rfl | rfl | rfl | rfl | rfl | rfl | rfl | rfl | rfl | rfl | rfl <;> simp [lenM, lenT, lens, b]
theorem cum_bd (y m : Int) (h1 : 1 ≤ m) (h2 : m ≤ 13) : 0 ≤ cum y m ∧ cum y m ≤ 365 + lp y := by
  have := lp_01 y
  unfold cum; split <;> omega
theorem cum_mono (y m k : Int) (h1 : 1 ≤ m) (h2 : m ≤ k) (h3 : k ≤ 13) : cum y m ≤ cum y k := by
  have := lp_01 y
  unfold cum; split <;> split <;> omega
theorem cum_end (y : Int) : cum y 13 = 365 + lp y := by unfold cum; rw [if_neg (by omega)]; omega
theorem cum_one (y : Int) : cum y 1 = 0 := by simp [cum]
theorem ahead_succ (y : Int) (_h : 1 ≤ y) : ahead (y + 1) = ahead y + 365 + lp y := by
  rcases lp_cases y with ⟨a, b⟩ | ⟨a, b⟩
  · rw [leap_iff] at b
    rw [a]; unfold ahead; omega
  · rw [leap_not] at b
    rw [a]; unfold ahead; omega
theorem ahead_mono (y z : Int) (_h : 1 ≤ y) (k : y ≤ z) : ahead y ≤ ahead z := by unfold ahead; omega
theorem ahead_bd (y : Int) (h : 1 ≤ y) (k : y ≤ 10000) : 0 ≤ ahead y ∧ ahead y ≤ 3652059 := by unfold ahead; omega
theorem ahead_end : ahead 10000 = 3652059 := by decide
theorem ahead_guess (d : Int) (_h : 0 ≤ d) : ahead (d / 366 + 1) ≤ d := by unfold ahead; omega

theorem good_iff (n : Int) : good n = true ↔ (1 ≤ yr n ∧ yr n ≤ 9999 ∧ 1 ≤ mo n ∧ mo n ≤ 12 ∧ 1 ≤ da n ∧ da n ≤ lenM (yr n) (mo n)) := by simp [good]
theorem good_pos (n : Int) (h : good n = true) : 0 ≤ n := by
  rcases Int.lt_or_le n 0 with k | k
  · have := yr_neg n k
    have := ((good_iff n).1 h).1
    omega
  · exact k
theorem parts (n : Int) (h : 0 ≤ n) : n = yr n * 10000 + mo n * 100 + da n ∧ 0 ≤ mo n ∧ mo n ≤ 99 ∧ 0 ≤ da n ∧ da n ≤ 99 ∧ 0 ≤ yr n := by
  rw [yr_eq n h, mo_eq n h, da_eq n h]; omega
theorem made (y m d : Int) (hy : 0 ≤ y) (hm : 0 ≤ m) (hm' : m ≤ 99) (hd : 0 ≤ d) (hd' : d ≤ 99) : yr (y * 10000 + m * 100 + d) = y ∧ mo (y * 10000 + m * 100 + d) = m ∧ da (y * 10000 + m * 100 + d) = d := by
  have h : 0 ≤ y * 10000 + m * 100 + d := by omega
  rw [yr_eq _ h, mo_eq _ h, da_eq _ h]; omega
theorem good_bd (n : Int) (h : good n = true) : 10101 ≤ n ∧ n ≤ 99991231 := by
  have p := parts n (good_pos n h)
  obtain ⟨a, b, c, d, e, f⟩ := (good_iff n).1 h
  have := lenM_bd (yr n) (mo n) c d
  omega
theorem made_good (y m d : Int) (hy : 1 ≤ y) (hy' : y ≤ 9999) (hm : 1 ≤ m) (hm' : m ≤ 12) (hd : 1 ≤ d) (hd' : d ≤ lenM y m) :
    good (y * 10000 + m * 100 + d) = true ∧ dayOf (y * 10000 + m * 100 + d) = ahead y + cum y m + d - 1 := by
  have l := lenM_bd y m hm hm'
  obtain ⟨a, b, c⟩ := made y m d (by omega) (by omega) (by omega) (by omega) (by omega)
  rw [good_iff]; unfold dayOf; rw [a, b, c]
  exact ⟨⟨hy, hy', hm, hm', hd, hd'⟩, rfl⟩
theorem dayOf_bd (n : Int) (h : good n = true) : ahead (yr n) ≤ dayOf n ∧ dayOf n < ahead (yr n + 1) ∧ 0 ≤ dayOf n ∧ dayOf n < 3652059 := by
  obtain ⟨a, b, c, d, e, f⟩ := (good_iff n).1 h
  have h1 := cum_succ (yr n) (mo n) c d
  have h2 := cum_mono (yr n) (mo n + 1) 13 (by omega) (by omega) (by omega)
  have h3 := cum_end (yr n)
  have h4 := cum_bd (yr n) (mo n) c (by omega)
  have h5 := ahead_succ (yr n) a
  have h6 := ahead_bd (yr n) a (by omega)
  have h7 := ahead_bd (yr n + 1) (by omega) (by omega)
  unfold dayOf; omega
theorem dayOf_lt (m n : Int) (hm : good m = true) (hn : good n = true) (h : m < n) : dayOf m < dayOf n := by
  have pm := parts m (good_pos m hm)
  have pn := parts n (good_pos n hn)
  obtain ⟨a, b, c, d, e, f⟩ := (good_iff m).1 hm
  obtain ⟨a', b', c', d', e', f'⟩ := (good_iff n).1 hn
  have bm := dayOf_bd m hm
  have bn := dayOf_bd n hn
  rcases Int.lt_or_le (yr m) (yr n) with k | k
  · have := ahead_mono (yr m + 1) (yr n) (by omega) (by omega)
    omega
  · have e1 : yr m = yr n := by omega
    have e2 : dayOf m = ahead (yr n) + cum (yr n) (mo m) + da m - 1 := by unfold dayOf; rw [e1]
    have e3 : dayOf n = ahead (yr n) + cum (yr n) (mo n) + da n - 1 := rfl
    rcases Int.lt_or_le (mo m) (mo n) with k2 | k2
    · have h1 := cum_succ (yr n) (mo m) c d
      have h2 := cum_mono (yr n) (mo m + 1) (mo n) (by omega) (by omega) (by omega)
      rw [e1] at f
      omega
    · have e4 : mo m = mo n := by omega
      rw [e4] at e2
      omega
theorem dayOf_inj (m n : Int) (hm : good m = true) (hn : good n = true) (h : dayOf m = dayOf n) : m = n := by
  rcases Int.lt_trichotomy m n with k | k | k
  · have := dayOf_lt m n hm hn k; omega
  · exact k
  · have := dayOf_lt n m hn hm k; omega

/-- The day behind a day. -/
def nxt (n : Int) : Int := if da n < lenM (yr n) (mo n) then n + 1 else if mo n < 12 then yr n * 10000 + (mo n + 1) * 100 + 1 else (yr n + 1) * 10000 + 1 * 100 + 1
theorem nxt_good (n : Int) (h : good n = true) (k : n ≠ 99991231) : good (nxt n) = true ∧ dayOf (nxt n) = dayOf n + 1 := by
  have p := parts n (good_pos n h)
  obtain ⟨a, b, c, d, e, f⟩ := (good_iff n).1 h
  have l := lenM_bd (yr n) (mo n) c d
  have s := cum_succ (yr n) (mo n) c d
  have dn : dayOf n = ahead (yr n) + cum (yr n) (mo n) + da n - 1 := rfl
  unfold nxt
  split
  · rename_i hl
    have g := made_good (yr n) (mo n) (da n + 1) a b c d (by omega) (by omega)
    have e1 : yr n * 10000 + mo n * 100 + (da n + 1) = n + 1 := by omega
    rw [e1] at g
    exact ⟨g.1, by omega⟩
  · rename_i hl
    split
    · have l' := lenM_bd (yr n) (mo n + 1) (by omega) (by omega)
      have g := made_good (yr n) (mo n + 1) 1 a b (by omega) (by omega) (by omega) (by omega)
      exact ⟨g.1, by omega⟩
    · have m12 : mo n = 12 := by omega
      have c13 := cum_end (yr n)
      have c1 := cum_one (yr n + 1)
      have ahs := ahead_succ (yr n) a
      have l31 : lenM (yr n) 12 = 31 := by simp [lenM, lenT, lens]
      rw [m12] at s l f dn hl
      have l' := lenM_bd (yr n + 1) 1 (by omega) (by omega)
      have g := made_good (yr n + 1) 1 1 (by omega) (by omega) (by omega) (by omega) (by omega) (by omega)
      refine ⟨g.1, ?_⟩
      rw [g.2]
      have : (12 : Int) + 1 = 13 := rfl
      rw [this] at s
      omega
/-- The day that so many days lie ahead of: day by day from the first one. -/
def stepN : Nat → Int
  | 0 => 10101
  | k + 1 => nxt (stepN k)
theorem all_days (k : Nat) (h : (k : Int) < 3652059) : good (stepN k) = true ∧ dayOf (stepN k) = k := by
  induction k with
  | zero => exact ⟨by decide, by decide⟩
  | succ k ih =>
    obtain ⟨g, e⟩ := ih (by omega)
    have : stepN k ≠ 99991231 := by
      intro he
      have : dayOf 99991231 = 3652058 := by decide
      rw [he] at e
      omega
    obtain ⟨g', e'⟩ := nxt_good _ g this
    exact ⟨g', by rw [stepN, e', e]; omega⟩
def ofV (d : Int) : Int := if 0 ≤ d ∧ d < 3652059 then stepN d.toNat else 0
def ofE (d : Int) : Int := if 0 ≤ d ∧ d < 3652059 then 0 else 3
def daysV (n : Int) : Int := if good n = true then dayOf n else 0
def daysE (n : Int) : Int := if good n = true then 0 else 7
theorem of_spec (d : Int) (h0 : 0 ≤ d) (h1 : d < 3652059) : good (ofV d) = true ∧ dayOf (ofV d) = d := by
  obtain ⟨g, e⟩ := all_days d.toNat (by omega)
  unfold ofV
  rw [if_pos ⟨h0, h1⟩]
  exact ⟨g, by omega⟩
theorem of_eq (d n : Int) (g : good n = true) (e : dayOf n = d) : ofV d = n := by
  have b := dayOf_bd n g
  have s := of_spec d (by omega) (by omega)
  exact dayOf_inj _ _ s.1 g (by omega)
theorem of_out (d : Int) (h : ¬ (0 ≤ d ∧ d < 3652059)) : ofV d = 0 ∧ ofE d = 3 := by simp [ofV, ofE, h]
theorem of_in (d : Int) (h0 : 0 ≤ d) (h1 : d < 3652059) : ofE d = 0 := by simp [ofE, h0, h1]
theorem days_in (n : Int) (h : good n = true) : daysV n = dayOf n ∧ daysE n = 0 := by simp [daysV, daysE, h]
theorem days_out (n : Int) (h : good n = false) : daysV n = 0 ∧ daysE n = 7 := by simp [daysV, daysE, h]

theorem daysV_bd (n : Int) : 0 ≤ daysV n ∧ daysV n < 3652059 := by
  cases g : good n
  · rw [(days_out n g).1]; omega
  · have := dayOf_bd n g
    rw [(days_in n g).1]; omega

end Go.Proofs.Ytpfpjbeofogbgaa.Da
end

/-
  Plain numbers and texts: what layer 7's calls answer: which services, claims and batches may be.
-/
section
namespace Go.Proofs.Ytpfpjbeofogbgaa.Cm

structure Ln where
  proc : Tx
  mods : List Tx
  date : Int
  units : Int
  billed : Int
  prior : Int
structure Cl where
  id : Tx
  mem : Tx
  fam : Tx
  net : Int
  does : Int
  ref : Tx
  lines : List Ln
def ln0 : Ln := ⟨[], [], 0, 0, 0, 0⟩
def cl0 : Cl := ⟨[], [], [], 0, 0, [], []⟩

def I64 (n : Int) : Prop := -9223372036854775808 ≤ n ∧ n ≤ 9223372036854775807
/-- Numbers that are int64, and lengths that memory can hold. -/
def LnOk (x : Ln) : Prop := I64 x.date ∧ I64 x.units ∧ I64 x.billed ∧ I64 x.prior ∧ x.proc.length ≤ 281474976710656 ∧ x.mods.length ≤ 281474976710656 ∧ ∀ t ∈ x.mods, t.length ≤ 281474976710656
def ClOk (c : Cl) : Prop := I64 c.net ∧ I64 c.does ∧ c.id.length ≤ 281474976710656 ∧ c.mem.length ≤ 281474976710656 ∧ c.fam.length ≤ 281474976710656 ∧ c.ref.length ≤ 281474976710656 ∧ c.lines.length ≤ 281474976710656 ∧ ∀ x ∈ c.lines, LnOk x

def signB (c : UInt8) : Bool := (decide (65 ≤ c.toNat) && decide (c.toNat ≤ 90)) || (decide (48 ≤ c.toNat) && decide (c.toNat ≤ 57))
def codeB (s : Tx) (f t : Int) : Bool := decide (f ≤ (s.length : Int)) && decide ((s.length : Int) ≤ t) && s.all signB
def modsB (l : List Tx) : Bool := decide (l.length ≤ 4) && l.all fun x => codeB x 2 2
def codesB (l : Ln) : Bool := codeB l.proc 5 5 && modsB l.mods
def unitsB (n : Int) : Bool := decide (1 ≤ n) && decide (n ≤ 9999)
def moneyB (l : Ln) : Bool := Ce.good l.billed && Ce.good l.prior && decide (l.prior ≤ l.billed)
def lineE (l : Ln) : Int := if codesB l = true then (if Da.good l.date = true then (if unitsB l.units = true then (if moneyB l = true then 0 else 8) else 3) else 7) else 9

def bil (ls : List Ln) (i : Nat) : Int := (ls.getD i ln0).billed
def totV (ls : List Ln) : Int := if Ce.sumE (bil ls) ls.length = 0 then Ce.sumV (bil ls) ls.length else 0
def totE (ls : List Ln) : Int := if Ce.sumE (bil ls) ls.length = 0 then 0 else 8

def firstE (y : Int) : List Ln → Int
  | [] => 0
  | x :: r => if lineE x = 0 then (if Da.yr x.date = y then firstE y r else 7) else lineE x
def linesE (ls : List Ln) : Int := firstE (Da.yr (ls.getD 0 ln0).date) ls
def namesB (c : Cl) : Bool := codeB c.id 1 12 && (codeB c.mem 1 12 && codeB c.fam 1 12)
def netB (n : Int) : Bool := decide (n = 0) || decide (n = 1)
def refB (c : Cl) : Bool := if c.does = 1 then decide (c.ref = []) else codeB c.ref 1 12
def doesB (n : Int) : Bool := decide (n = 1) || (decide (n = 7) || decide (n = 8))
def headE (c : Cl) : Int := if namesB c = true then (if netB c.net = true then (if refB c = true then (if doesB c.does = true then 0 else 3) else 9) else 3) else 9
def voidB (c : Cl) : Bool := (decide (c.does = 8) == decide (c.lines.length = 0))
def restE (c : Cl) : Int := if c.lines.length ≤ 999 then (if voidB c = true then (if linesE c.lines = 0 then totE c.lines else linesE c.lines) else 6) else 10
def checkE (c : Cl) : Int := if headE c = 0 then restE c else headE c
def firstC : List Cl → Int
  | [] => 0
  | c :: r => if checkE c = 0 then firstC r else checkE c
def batchE (n : Int) (l : List Cl) : Int := if (decide (0 ≤ n) && decide (n ≤ 999999999)) = true then (if l.length ≤ 256 then firstC l else 10) else 3

theorem drop_step {α : Type} (l : List α) (k : Nat) (x : α) (h : l[k]? = some x) : l.drop k = x :: l.drop (k + 1) := by
  obtain ⟨hk, rfl⟩ := List.getElem?_eq_some_iff.1 h
  exact List.drop_eq_getElem_cons hk
theorem bil_at (ls : List Ln) (k : Nat) (x : Ln) (h : ls[k]? = some x) : bil ls k = x.billed := by
  unfold bil; rw [List.getD_eq_getElem?_getD, h]; rfl
theorem firstE_bad (y : Int) (ls : List Ln) (k : Nat) (x : Ln) (h : ls[k]? = some x) (hk : firstE y (ls.drop k) = firstE y ls) (h0 : lineE x ≠ 0) : firstE y ls = lineE x := by
  rw [← hk, drop_step ls k x h]; simp [firstE, h0]
theorem firstE_yr (y : Int) (ls : List Ln) (k : Nat) (x : Ln) (h : ls[k]? = some x) (hk : firstE y (ls.drop k) = firstE y ls) (h0 : lineE x = 0) (h1 : Da.yr x.date ≠ y) : firstE y ls = 7 := by
  rw [← hk, drop_step ls k x h]; simp [firstE, h0, h1]
theorem firstE_step (y : Int) (ls : List Ln) (k : Nat) (x : Ln) (h : ls[k]? = some x) (hk : firstE y (ls.drop k) = firstE y ls) (h0 : lineE x = 0) (h1 : Da.yr x.date = y) : firstE y (ls.drop (k + 1)) = firstE y ls := by
  rw [← hk, drop_step ls k x h]; simp [firstE, h0, h1]
theorem firstE_end (y : Int) (ls : List Ln) (k : Nat) (h : ls.length ≤ k) (hk : firstE y (ls.drop k) = firstE y ls) : firstE y ls = 0 := by
  rw [← hk, List.drop_of_length_le h]; rfl
theorem firstC_bad (l : List Cl) (k : Nat) (x : Cl) (h : l[k]? = some x) (hk : firstC (l.drop k) = firstC l) (h0 : checkE x ≠ 0) : firstC l = checkE x := by
  rw [← hk, drop_step l k x h]; simp [firstC, h0]
theorem firstC_step (l : List Cl) (k : Nat) (x : Cl) (h : l[k]? = some x) (hk : firstC (l.drop k) = firstC l) (h0 : checkE x = 0) : firstC (l.drop (k + 1)) = firstC l := by
  rw [← hk, drop_step l k x h]; simp [firstC, h0]
theorem firstC_end (l : List Cl) (k : Nat) (h : l.length ≤ k) (hk : firstC (l.drop k) = firstC l) : firstC l = 0 := by
  rw [← hk, List.drop_of_length_le h]; rfl
theorem lineE_date {x : Ln} (h : lineE x = 0) : Da.good x.date = true := by
  unfold lineE at h
  split at h
  · split at h
    · assumption
    · omega
  · omega

/-- Some services of a claim that may be are a claim that may be. -/
theorem firstE_take (y : Int) : ∀ (ls : List Ln) (k : Nat), firstE y ls = 0 → firstE y (ls.take k) = 0
  | [], k, _ => by simp [firstE]
  | x :: r, 0, _ => by simp [firstE]
  | x :: r, k + 1, h => by
    rw [List.take_succ_cons]
    unfold firstE at h ⊢
    by_cases h0 : lineE x = 0
    · rw [if_pos h0] at h ⊢
      by_cases h1 : Da.yr x.date = y
      · rw [if_pos h1] at h ⊢
        exact firstE_take y r k h
      · rw [if_neg h1] at h; omega
    · rw [if_neg h0] at h; exact absurd h h0
theorem allG_le (f : Nat → Int) (n k : Nat) (h : k ≤ n) (g : Ce.allG f n = true) : Ce.allG f k = true := by
  induction n with
  | zero => obtain rfl : k = 0 := by omega
            exact g
  | succ n ih =>
    by_cases e : k = n + 1
    · rw [e]; exact g
    · simp only [Ce.allG, Bool.and_eq_true] at g
      exact ih (by omega) g.1
theorem allG_congr (f g : Nat → Int) (n : Nat) (h : ∀ i, i < n → f i = g i) : Ce.allG f n = Ce.allG g n ∧ Ce.tot f n = Ce.tot g n := by
  induction n with
  | zero => exact ⟨rfl, rfl⟩
  | succ n ih =>
    obtain ⟨a, b⟩ := ih fun i hi => h i (by omega)
    simp only [Ce.allG, Ce.tot, a, b, h n (by omega)]
    exact ⟨trivial, trivial⟩
theorem sumE_zero (f : Nat → Int) (n : Nat) : Ce.sumE f n = 0 ↔ Ce.allG f n = true ∧ Ce.tot f n ≤ 10000000000000 := by
  unfold Ce.sumE
  cases Ce.allG f n
  · simp
  · simp only [if_true, true_and]
    split
    · simp_all
    · simp_all
theorem totE_take (ls : List Ln) (k : Nat) (hk : k ≤ ls.length) (h : totE ls = 0) : totE (ls.take k) = 0 := by
  unfold totE at h ⊢
  have h0 : Ce.sumE (bil ls) ls.length = 0 := by
    by_cases c : Ce.sumE (bil ls) ls.length = 0
    · exact c
    · rw [if_neg c] at h; omega
  obtain ⟨g, t⟩ := (sumE_zero _ _).1 h0
  have hl : (ls.take k).length = k := by simp; omega
  have e := allG_congr (bil (ls.take k)) (bil ls) k fun i hi => by
    unfold bil
    rw [List.getD_eq_getElem?_getD, List.getD_eq_getElem?_getD, List.getElem?_take_of_lt hi]
  have gk := allG_le _ _ k hk g
  have tk := Ce.tot_le (bil ls) ls.length g (ls.length - k) k (by omega)
  rw [if_pos]
  rw [sumE_zero, hl, e.1, e.2]
  exact ⟨gk, by omega⟩
theorem check_parts (c : Cl) (k : Nat) (h : checkE c = 0) (h1 : 1 ≤ k) (h2 : k ≤ c.lines.length) : checkE { c with lines := c.lines.take k } = 0 := by
  have hh : headE c = 0 := by
    unfold checkE at h
    by_cases q : headE c = 0
    · exact q
    · rw [if_neg q] at h; exact h
  unfold checkE at h ⊢
  have hh' : headE { c with lines := c.lines.take k } = 0 := hh
  rw [if_pos hh] at h
  rw [if_pos hh']
  unfold restE at h ⊢
  have hlen : (c.lines.take k).length = k := by simp; omega
  by_cases q1 : c.lines.length ≤ 999
  · rw [if_pos q1] at h
    rw [if_pos (show (c.lines.take k).length ≤ 999 by omega)]
    by_cases q2 : voidB c = true
    · rw [if_pos q2] at h
      have v' : voidB { c with lines := c.lines.take k } = true := by
        unfold voidB at q2 ⊢
        simp only [hlen]
        rw [decide_eq_false (show ¬ c.lines.length = 0 by omega)] at q2
        rw [decide_eq_false (show ¬ k = 0 by omega)]
        exact q2
      rw [if_pos v']
      by_cases q3 : linesE c.lines = 0
      · rw [if_pos q3] at h
        have l' : linesE (c.lines.take k) = 0 := by
          unfold linesE at q3 ⊢
          have e0 : (c.lines.take k).getD 0 ln0 = c.lines.getD 0 ln0 := by
            rw [List.getD_eq_getElem?_getD, List.getD_eq_getElem?_getD, List.getElem?_take_of_lt (by omega)]
          rw [e0]
          exact firstE_take _ _ _ q3
        show (if linesE (c.lines.take k) = 0 then totE (c.lines.take k) else linesE (c.lines.take k)) = 0
        rw [if_pos l']
        exact totE_take _ _ h2 h
      · rw [if_neg q3] at h; exact absurd h q3
    · rw [if_neg q2] at h; omega
  · rw [if_neg q1] at h; omega
end Go.Proofs.Ytpfpjbeofogbgaa.Cm
end
