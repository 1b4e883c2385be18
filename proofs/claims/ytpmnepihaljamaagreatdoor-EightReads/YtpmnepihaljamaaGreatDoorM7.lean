/-
  Texts put together (merge.py): KMath, NDig, NRead.
-/
import Derived.Lib.ItoaMem
import Derived.WalkKit
import Derived.WalkMore
import Derived.Lib.Strings
import Derived.WalkLawsBesides
import Derived.Lib.Hide
import Derived.Test.YtpmnepihaljamaaGreatDoorM2
import Derived.Test.YtpmnepihaljamaaGreatDoorM6
import Derived.Test.YtpmnepihaljamaaGreatDoorProg
/-
  Envelopes over plain lists: what cover's functions answer; there and back, in one way alone; cut short, or with more behind.
-/
section
namespace Go.Proofs.YtpmnepihaljamaaGreatDoor

def kindB (l : Tx) : Bool := decide (l.length = 3) && l.all Nu.isD
def seg3 (a b c : Tx) : Sg := [[a], [b], [c]]
def tGS : Tx := [71, 83]
def tST : Tx := [83, 84]
def tSE : Tx := [83, 69]
def tGE : Tx := [71, 69]
def tIEA : Tx := [73, 69, 65]
def t1 : Tx := [49]
def fore (k t : Tx) : List Sg := [seg3 tGS k t, seg3 tST k t]
def aft (m : Nat) (t : Tx) : List Sg := [seg3 tSE (Lib.itoa ((m : Int) + 2)) t, seg3 tGE t1 t, seg3 tIEA t1 t]
def abt (k : Tx) (n : Int) (l : List Sg) : List Sg := fore k (Lib.itoa n) ++ (l ++ aft l.length (Lib.itoa n))
def wpOk (e p s : UInt8) (k : Tx) (n : Int) : Bool := goodB e p s && kindB k && decide (0 ≤ n) && decide (n ≤ 999999999)
def wpE (e p s : UInt8) (k : Tx) (n : Int) (l : List Sg) : Int :=
  if wpOk e p s k n = false then 1 else if wrOk e p s (abt k n l) = false then 1 else if 65536 < (wrT e p s (abt k n l)).length + 6 then 10 else 0
def wpV (e p s : UInt8) (k : Tx) (n : Int) (l : List Sg) : Tx := if wpE e p s k n l = 0 then headL e p s ++ wrT e p s (abt k n l) else []

def numO : Sg → Option Int
  | [_, _, [t]] => if Nu.riE t 9 = 0 then some (Nu.riV t 9) else none
  | _ => none
def inB (k : Tx) (n : Int) (all : List Sg) : Bool := decide (all.take 2 = fore k (Lib.itoa n)) && decide (all.drop (all.length - 2) = (aft (all.length - 5) (Lib.itoa n)).tail)
def cntB (n : Int) (all : List Sg) : Bool := decide (all[all.length - 3]? = some (seg3 tSE (Lib.itoa (((all.length - 5 : Nat) : Int) + 2)) (Lib.itoa n)))
def unE (k : Tx) (all : List Sg) : Int :=
  if all.length < 5 then 5 else match numO (all.headD []) with
    | none => 5
    | some n => if inB k n all = false then 5 else if cntB n all = false then 6 else 0
def unN (k : Tx) (all : List Sg) : Int := if unE k all = 0 then (numO (all.headD [])).getD 0 else 0
def unL (k : Tx) (all : List Sg) : List Sg := if unE k all = 0 then (all.drop 2).take (all.length - 5) else []
def opE (k s : Tx) : Int :=
  if 65536 < s.length then 10 else match findO s with
    | none => 5
    | some (e, p, q) => if kindB k = false then 5 else if spE e p q (s.drop 6) = 0 then unE k (spV e p q (s.drop 6)) else spE e p q (s.drop 6)
def opD (k s : Tx) : UInt8 × UInt8 × UInt8 := if opE k s = 0 then (findO s).getD (0, 0, 0) else (0, 0, 0)
def opA (k s : Tx) : List Sg := spV (opD k s).1 (opD k s).2.1 (opD k s).2.2 (s.drop 6)
def opN (k s : Tx) : Int := if opE k s = 0 then unN k (opA k s) else 0
def opL (k s : Tx) : List Sg := if opE k s = 0 then unL k (opA k s) else []

/-! ### Numbers -/
theorem num_bd (t : Tx) : 0 ≤ Nu.riV t 9 ∧ Nu.riV t 9 ≤ 999999999 := by
  unfold Nu.riV
  split
  · rename_i h
    unfold Nu.riOk at h
    simp only [Bool.and_eq_true, decide_eq_true_eq] at h
    have h1 := Nu.numL_lt t (Nu.canon_allD t h.1.1).1
    have h2 : 10 ^ t.length ≤ 10 ^ 9 := Nat.pow_le_pow_right (by omega) (by omega)
    have h3 : (10 : Nat) ^ 9 = 1000000000 := rfl
    omega
  · omega
theorem num_of {g : Sg} {n : Int} (h : numO g = some n) : 0 ≤ n ∧ n ≤ 999999999 := by
  unfold numO at h
  split at h
  · split at h
    · rw [← Option.some.inj h]; exact num_bd _
    · cases h
  · cases h
theorem num_itoa (a k : Tx) (n : Int) (h0 : 0 ≤ n) (h1 : n ≤ 999999999) : numO (seg3 a k (Lib.itoa n)) = some n := by
  obtain ⟨u, rfl⟩ : ∃ u : Nat, n = u := ⟨n.toNat, by omega⟩
  have hk : Nu.riOk (Lib.itoa (u : Int)) 9 = true := by
    rw [Lib.itoa_nonneg]
    exact Nu.ri_dec u 9 9 (by omega) (by omega) (by omega) (by omega)
  have hv : Nu.riV (Lib.itoa (u : Int)) 9 = u := by
    unfold Nu.riV
    rw [if_pos hk, Lib.itoa_nonneg, Nu.dec_num]
  show (if Nu.riE (Lib.itoa (u : Int)) 9 = 0 then some (Nu.riV (Lib.itoa (u : Int)) 9) else none) = _
  rw [hv]
  unfold Nu.riE
  rw [if_pos hk, if_pos rfl]

/-! ### What lies between -/
theorem abt_len (k : Tx) (n : Int) (l : List Sg) : (abt k n l).length = l.length + 5 := by
  simp [abt, fore, aft]
theorem abt_in (k : Tx) (n : Int) (l : List Sg) : inB k n (abt k n l) = true ∧ cntB n (abt k n l) = true ∧ ((abt k n l).drop 2).take ((abt k n l).length - 5) = l ∧ (abt k n l).headD [] = seg3 tGS k (Lib.itoa n) := by
  have hl := abt_len k n l
  refine ⟨?_, ?_, ?_, rfl⟩
  · unfold inB
    rw [hl, Bool.and_eq_true, decide_eq_true_eq, decide_eq_true_eq]
    refine ⟨rfl, ?_⟩
    rw [show l.length + 5 - 2 = 2 + (l.length + 1) by omega, show l.length + 5 - 5 = l.length by omega, ← List.drop_drop]
    show (l ++ aft l.length (Lib.itoa n)).drop (l.length + 1) = _
    rw [List.drop_append, List.drop_of_length_le (by omega), List.nil_append, show l.length + 1 - l.length = 1 by omega]
    rfl
  · unfold cntB
    rw [hl, decide_eq_true_eq, show l.length + 5 - 3 = l.length + 2 by omega, show l.length + 5 - 5 = l.length by omega]
    show (l ++ aft l.length (Lib.itoa n))[l.length]? = _
    rw [List.getElem?_append_right (Nat.le_refl _), Nat.sub_self]
    rfl
  · rw [hl]
    show (l ++ aft l.length (Lib.itoa n)).take (l.length + 5 - 5) = l
    rw [show l.length + 5 - 5 = l.length by omega, List.take_left]
theorem abt_un (k : Tx) (n : Int) (l : List Sg) (h0 : 0 ≤ n) (h1 : n ≤ 999999999) : unE k (abt k n l) = 0 ∧ unN k (abt k n l) = n ∧ unL k (abt k n l) = l := by
  obtain ⟨a, b, c, d⟩ := abt_in k n l
  have e : unE k (abt k n l) = 0 := by
    unfold unE
    rw [if_neg (by rw [abt_len]; omega), d, num_itoa _ _ _ h0 h1]
    simp [a, b]
  refine ⟨e, ?_, ?_⟩
  · unfold unN
    rw [if_pos e, d, num_itoa _ _ _ h0 h1]
    rfl
  · unfold unL
    rw [if_pos e, c]
theorem un_num {k : Tx} {all : List Sg} (h : unE k all = 0) : 5 ≤ all.length ∧ ∃ n, numO (all.headD []) = some n ∧ inB k n all = true ∧ cntB n all = true := by
  unfold unE at h
  split at h
  · cases h
  · next h5 =>
    refine ⟨by omega, ?_⟩
    split at h
    · cases h
    · next n hn =>
      refine ⟨n, hn, ?_⟩
      split at h
      · cases h
      · split at h
        · cases h
        · next h1 h2 => exact ⟨by simpa using h1, by simpa using h2⟩
theorem un_abt {k : Tx} {all : List Sg} (h : unE k all = 0) : all = abt k (unN k all) (unL k all) ∧ 0 ≤ unN k all ∧ unN k all ≤ 999999999 := by
  obtain ⟨h5, n, hn, hi, hc⟩ := un_num h
  have hN : unN k all = n := by unfold unN; rw [if_pos h, hn]; rfl
  have hL : unL k all = (all.drop 2).take (all.length - 5) := by unfold unL; rw [if_pos h]
  rw [hN]
  refine ⟨?_, num_of hn⟩
  simp only [inB, Bool.and_eq_true, decide_eq_true_eq] at hi
  simp only [cntB, decide_eq_true_eq] at hc
  have hl : (unL k all).length = all.length - 5 := by rw [hL, List.length_take, List.length_drop]; omega
  unfold abt
  rw [hl, hL, ← hi.1]
  conv => lhs; rw [← List.take_append_drop 2 all]
  congr 1
  conv => lhs; rw [← List.take_append_drop (all.length - 5) (all.drop 2)]
  congr 1
  rw [List.drop_drop, show 2 + (all.length - 5) = all.length - 3 by omega, List.drop_eq_getElem_cons (by omega)]
  rw [List.getElem?_eq_getElem (by omega)] at hc
  rw [Option.some.inj hc, show all.length - 3 + 1 = all.length - 2 by omega, hi.2]
  rfl

/-! ### Heads -/
theorem find_head {e p s : UInt8} (hg : goodB e p s = true) (r : Tx) : findO (headL e p s ++ r) = some (e, p, s) := by
  show (if _ then _ else _) = _
  rw [if_pos ⟨rfl, rfl, rfl, hg⟩]
theorem find_some {l : Tx} {e p s : UInt8} (h : findO l = some (e, p, s)) : goodB e p s = true ∧ l = headL e p s ++ l.drop 6 := by
  unfold findO at h
  split at h
  · split at h
    · next hc =>
      obtain ⟨rfl, rfl, rfl, hg⟩ := hc
      cases h
      exact ⟨hg, rfl⟩
    · cases h
  · cases h

/-! ### There and back; in one way alone -/
theorem wp_zero {e p s : UInt8} {k : Tx} {n : Int} {l : List Sg} (h : wpE e p s k n l = 0) : goodB e p s = true ∧ kindB k = true ∧ 0 ≤ n ∧ n ≤ 999999999 ∧ wrOk e p s (abt k n l) = true ∧ (wrT e p s (abt k n l)).length + 6 ≤ 65536 ∧ wpV e p s k n l = headL e p s ++ wrT e p s (abt k n l) := by
  have h' := h
  unfold wpE at h
  split at h
  · cases h
  · next h1 =>
    split at h
    · cases h
    · next h2 =>
      split at h
      · cases h
      · next h3 =>
        simp only [Bool.not_eq_false, wpOk, Bool.and_eq_true, decide_eq_true_eq] at h1
        exact ⟨h1.1.1.1, h1.1.1.2, h1.1.2, h1.2, by simpa using h2, by omega, by unfold wpV; rw [if_pos h']⟩
theorem wp_of {e p s : UInt8} {k : Tx} {n : Int} {l : List Sg} (hg : goodB e p s = true) (hk : kindB k = true) (h0 : 0 ≤ n) (h1 : n ≤ 999999999) (hw : wrOk e p s (abt k n l) = true) (hl : (wrT e p s (abt k n l)).length + 6 ≤ 65536) : wpE e p s k n l = 0 := by
  unfold wpE
  have : wpOk e p s k n = true := by simp [wpOk, hg, hk, h0, h1]
  rw [this, hw]
  simp only [Bool.true_eq_false, if_false]
  rw [if_neg (by omega)]
theorem wp_bad {e p s : UInt8} {k : Tx} {n : Int} {l : List Sg} (h : wpE e p s k n l ≠ 0) : wpV e p s k n l = [] := by unfold wpV; rw [if_neg h]
theorem headL_len (e p s : UInt8) : (headL e p s).length = 6 := rfl
theorem cover_back {e p s : UInt8} {k : Tx} {n : Int} {l : List Sg} (h : wpE e p s k n l = 0) :
    opE k (wpV e p s k n l) = 0 ∧ opD k (wpV e p s k n l) = (e, p, s) ∧ opN k (wpV e p s k n l) = n ∧ opL k (wpV e p s k n l) = l := by
  obtain ⟨hg, hk, h0, h1, hw, hl, hv⟩ := wp_zero h
  rw [hv]
  have hf := find_head hg (wrT e p s (abt k n l))
  obtain ⟨b1, b2⟩ := back hw (by rw [← wrT_len _ (wr_ok hw).2.2]; omega)
  obtain ⟨u1, u2, u3⟩ := abt_un k n l h0 h1
  have hd : (headL e p s ++ wrT e p s (abt k n l)).drop 6 = wrT e p s (abt k n l) := rfl
  have hE : opE k (headL e p s ++ wrT e p s (abt k n l)) = 0 := by
    unfold opE
    rw [if_neg (by rw [List.length_append, headL_len]; omega), hf, hd]
    simp only
    rw [hk, b1, b2, u1]
    rfl
  have hD : opD k (headL e p s ++ wrT e p s (abt k n l)) = (e, p, s) := by unfold opD; rw [if_pos hE, hf]; rfl
  have hA : opA k (headL e p s ++ wrT e p s (abt k n l)) = abt k n l := by unfold opA; rw [hD, hd]; exact b2
  refine ⟨hE, hD, ?_, ?_⟩
  · unfold opN; rw [if_pos hE, hA, u2]
  · unfold opL; rw [if_pos hE, hA, u3]
theorem cover_once {k s : Tx} (h : opE k s = 0) :
    wpE (opD k s).1 (opD k s).2.1 (opD k s).2.2 k (opN k s) (opL k s) = 0 ∧ wpV (opD k s).1 (opD k s).2.1 (opD k s).2.2 k (opN k s) (opL k s) = s ∧ s.length ≤ 65536 := by
  have hN : opN k s = unN k (opA k s) := by unfold opN; rw [if_pos h]
  have hL : opL k s = unL k (opA k s) := by unfold opL; rw [if_pos h]
  have hD : opD k s = (findO s).getD (0, 0, 0) := by unfold opD; rw [if_pos h]
  have hs : s.length ≤ 65536 ∧ kindB k = true ∧ ∃ e p q, findO s = some (e, p, q) ∧ spE e p q (s.drop 6) = 0 ∧ unE k (spV e p q (s.drop 6)) = 0 := by
    unfold opE at h
    split at h
    · cases h
    · next h6 =>
      split at h
      · cases h
      · next e p q hf =>
        split at h
        · cases h
        · next hk =>
          split at h
          · next h0 => exact ⟨by omega, by simpa using hk, e, p, q, hf, h0, h⟩
          · next h0 => exact absurd h h0
  obtain ⟨h6, hk, e, p, q, hf, h0, hu⟩ := hs
  have hD2 : opD k s = (e, p, q) := by rw [hD, hf]; rfl
  have hA : opA k s = spV e p q (s.drop 6) := by unfold opA; rw [hD2]
  rw [hN, hL, hD2, hA]
  obtain ⟨hg, hs⟩ := find_some hf
  obtain ⟨o1, o2⟩ := once h0
  obtain ⟨ha, n0, n1⟩ := un_abt hu
  rw [ha] at o1 o2
  have hl : s.length = 6 + (s.drop 6).length := by
    conv => lhs; rw [hs, List.length_append, headL_len]
  have hw := wp_of hg hk n0 n1 o1 (by rw [o2]; omega)
  refine ⟨hw, ?_, h6⟩
  rw [(wp_zero hw).2.2.2.2.2.2, o2]
  exact hs.symm
theorem op_bad {k s : Tx} (h : opE k s ≠ 0) : opD k s = (0, 0, 0) ∧ opN k s = 0 ∧ opL k s = [] := by
  unfold opD opN opL
  rw [if_neg h, if_neg h, if_neg h]
  exact ⟨rfl, rfl, rfl⟩

/-! ### Cut short; more behind -/
theorem segT_inj {e p s : UInt8} (hg : goodB e p s = true) : ∀ (A B : List Sg) (X : List Tx), (∀ g ∈ A, segOk e p s g = true) → (∀ g ∈ B, segOk e p s g = true) → B.map (segT e p) = A.map (segT e p) ++ X → ∃ C, B = A ++ C
  | [], B, _, _, _, _ => ⟨B, rfl⟩
  | a :: A, [], X, _, _, h => by simp at h
  | a :: A, b :: B, X, hA, hB, h => by
    simp only [List.map_cons, List.cons_append, List.cons.injEq] at h
    obtain ⟨h1, h2⟩ := h
    obtain ⟨C, rfl⟩ := segT_inj hg A B X (fun g hm => hA g (List.mem_cons_of_mem _ hm)) (fun g hm => hB g (List.mem_cons_of_mem _ hm)) h2
    have ka := ok_parts (hA a List.mem_cons_self)
    have kb := ok_parts (hB b List.mem_cons_self)
    have := parse_segT hg ka.2 (named_ne ka.1)
    rw [← h1, parse_segT hg kb.2 (named_ne kb.1)] at this
    exact ⟨C, by rw [this]; rfl⟩
theorem wrT_app (e p s : UInt8) (A C : List Sg) : wrT e p s (A ++ C) = wrT e p s A ++ wrT e p s C := by simp [wrT]
theorem wr_pre {e p s : UInt8} {A B : List Sg} {r : Tx} (hA : wrOk e p s A = true) (hB : wrOk e p s B = true) (h : wrT e p s A ++ r = wrT e p s B) : ∃ C, B = A ++ C ∧ r = wrT e p s C := by
  obtain ⟨hg, _, ka⟩ := wr_ok hA
  obtain ⟨_, _, kb⟩ := wr_ok hB
  have hi : ini s (wrT e p s A ++ r) = ini s (wrT e p s A) ++ ini s r := ini_two (by
    by_cases hn : A = []
    · subst hn; exact Or.inl rfl
    · exact Or.inr (wrT_last A hn))
  rw [h, ini_wrT hg A ka, ini_wrT hg B kb] at hi
  obtain ⟨C, rfl⟩ := segT_inj hg A B _ ka kb hi
  refine ⟨C, rfl, ?_⟩
  rw [wrT_app] at h
  exact List.append_cancel_left h
def namesEnd (g : Sg) : Bool := match g with
  | (x :: _) :: _ => decide (x = tIEA)
  | _ => false
def endsB (l : List Sg) : Bool := l.any namesEnd
def hasB (s t : Tx) : Bool := (List.range (s.length + 1)).any fun i => decide (i + t.length ≤ s.length) && decide ((s.drop i).take t.length = t)
theorem hasB_of {s t a b : Tx} (h : s = a ++ (t ++ b)) : hasB s t = true := by
  subst h
  refine List.any_eq_true.2 ⟨a.length, ?_, ?_⟩
  · rw [List.mem_range, List.length_append]; omega
  · rw [Bool.and_eq_true, decide_eq_true_eq, decide_eq_true_eq]
    refine ⟨by simp only [List.length_append]; omega, ?_⟩
    rw [List.drop_left, List.take_left]
theorem abt_split (k : Tx) (n : Int) (l : List Sg) : abt k n l = (fore k (Lib.itoa n) ++ (l ++ [seg3 tSE (Lib.itoa ((l.length : Int) + 2)) (Lib.itoa n), seg3 tGE t1 (Lib.itoa n)])) ++ [seg3 tIEA t1 (Lib.itoa n)] := by
  simp [abt, aft]
theorem cut_no {k : Tx} {n n' : Int} {l l' C : List Sg} (he : endsB l = false) (h : abt k n l = abt k n' l' ++ C) : C = [] := by
  by_cases hC : C = []
  · exact hC
  · exfalso
    rw [abt_split k n' l', abt_split k n l, ← List.dropLast_concat_getLast hC] at h
    rw [← List.append_assoc _ C.dropLast] at h
    have h2 := List.append_inj_left' h rfl
    have hm : seg3 tIEA t1 (Lib.itoa n') ∈ fore k (Lib.itoa n) ++ (l ++ [seg3 tSE (Lib.itoa ((l.length : Int) + 2)) (Lib.itoa n), seg3 tGE t1 (Lib.itoa n)]) := by
      rw [h2]; simp
    have hne : ∀ a b c, seg3 tIEA t1 (Lib.itoa n') = seg3 a b c → a = tIEA := fun a b c h => by
      simp only [seg3, List.cons.injEq, and_true] at h
      exact h.1.symm
    rcases List.mem_append.1 hm with hm | hm
    · simp only [fore, List.mem_cons, List.not_mem_nil, or_false] at hm
      rcases hm with hm | hm
      · exact absurd (hne _ _ _ hm) (by decide)
      · exact absurd (hne _ _ _ hm) (by decide)
    · rcases List.mem_append.1 hm with hm | hm
      · have := List.any_eq_false.1 he _ hm
        exact this rfl
      · simp only [List.mem_cons, List.not_mem_nil, or_false] at hm
        rcases hm with hm | hm
        · exact absurd (hne _ _ _ hm) (by decide)
        · exact absurd (hne _ _ _ hm) (by decide)
theorem seg_iea (e p : UInt8) (t : Tx) : ∃ r, segT e p (seg3 tIEA t1 t) = tIEA ++ r := by
  refine ⟨e :: joinC e [joinC p [t1], joinC p [t]], ?_⟩
  show joinC e [joinC p [tIEA], joinC p [t1], joinC p [t]] = _
  rw [joinC_cons, joinC_one]
theorem head_inj {e p s e' p' s' : UInt8} {a b : Tx} (h : headL e p s ++ a = headL e' p' s' ++ b) : e = e' ∧ p = p' ∧ s = s' ∧ a = b := by
  simpa [headL] using h
/-- Cut short, it is none. -/
theorem cut_short {e p s : UInt8} {k : Tx} {n : Int} {l : List Sg} (h : wpE e p s k n l = 0) (he : endsB l = false) (j : Nat) (hj : j < (wpV e p s k n l).length) : opE k ((wpV e p s k n l).take j) ≠ 0 := by
  intro h0
  obtain ⟨hw, hv, _⟩ := cover_once h0
  generalize opN k ((wpV e p s k n l).take j) = n' at hw hv
  generalize opL k ((wpV e p s k n l).take j) = l' at hw hv
  generalize (opD k ((wpV e p s k n l).take j)).1 = e' at hw hv
  generalize (opD k ((wpV e p s k n l).take j)).2.1 = p' at hw hv
  generalize (opD k ((wpV e p s k n l).take j)).2.2 = s' at hw hv
  obtain ⟨_, _, _, _, o1, _, v1⟩ := wp_zero h
  obtain ⟨_, _, _, _, o2, _, v2⟩ := wp_zero hw
  have hs : wpV e' p' s' k n' l' ++ (wpV e p s k n l).drop j = wpV e p s k n l := by rw [hv, List.take_append_drop]
  rw [v2] at hs
  have hdl : ((wpV e p s k n l).drop j).length ≠ 0 := by rw [List.length_drop]; omega
  generalize (wpV e p s k n l).drop j = r at hs hdl
  rw [v1, List.append_assoc] at hs
  obtain ⟨rfl, rfl, rfl, hs⟩ := head_inj hs
  obtain ⟨C, hC, hr⟩ := wr_pre o2 o1 hs
  obtain rfl := cut_no he hC
  rw [hr] at hdl
  exact hdl rfl
/-- With more behind, it is none. -/
theorem more_no {e p s : UInt8} {k : Tx} {n : Int} {l : List Sg} {more : Tx} (h : wpE e p s k n l = 0) (hm : more ≠ []) (hh : hasB more tIEA = false) : opE k (wpV e p s k n l ++ more) ≠ 0 := by
  intro h0
  obtain ⟨hw, hv, _⟩ := cover_once h0
  generalize opN k (wpV e p s k n l ++ more) = n' at hw hv
  generalize opL k (wpV e p s k n l ++ more) = l' at hw hv
  generalize (opD k (wpV e p s k n l ++ more)).1 = e' at hw hv
  generalize (opD k (wpV e p s k n l ++ more)).2.1 = p' at hw hv
  generalize (opD k (wpV e p s k n l ++ more)).2.2 = s' at hw hv
  obtain ⟨_, _, _, _, o1, _, v1⟩ := wp_zero h
  obtain ⟨_, _, _, _, o2, _, v2⟩ := wp_zero hw
  rw [v2, v1, List.append_assoc] at hv
  obtain ⟨rfl, rfl, rfl, hs⟩ := head_inj hv.symm
  obtain ⟨C, hC, hr⟩ := wr_pre o1 o2 hs
  have hCn : C ≠ [] := by
    rintro rfl
    exact hm hr
  rw [abt_split k n' l', ← List.dropLast_concat_getLast hCn, ← List.append_assoc (abt k n l) C.dropLast] at hC
  have hl : seg3 tIEA t1 (Lib.itoa n') = C.getLast hCn := by
    have := List.append_inj_right' hC rfl
    simpa using this
  rw [← List.dropLast_concat_getLast hCn, wrT_app, ← hl] at hr
  obtain ⟨r, hr2⟩ := seg_iea e p (Lib.itoa n')
  have h3 : wrT e p s [seg3 tIEA t1 (Lib.itoa n')] = tIEA ++ (r ++ [s]) := by simp [wrT, hr2]
  rw [h3] at hr
  rw [hasB_of hr] at hh
  cases hh
end Go.Proofs.YtpmnepihaljamaaGreatDoor
end

/-
  What digits.allDigits and digits.number answer, as contracts.
-/
section
namespace Go.Proofs.YtpmnepihaljamaaGreatDoor.Nu
open Go.RowKit

theorem ret_int {k : IntKind} {a b : Int} (h : a = b) : Ending.returned (.int k a) = .returned (.int k b) := by rw [h]
theorem take_snoc (s : ByteArray) (k : Nat) (h : k < s.size) : s.data.toList.take (k + 1) = s.data.toList.take k ++ [s[k]] := by
  rw [List.take_succ_eq_append_getElem (by simpa using h)]; rfl
theorem take_all (s : ByteArray) (k : Nat) (h : s.size ≤ k) : s.data.toList.take k = s.data.toList := List.take_of_length_le (by simpa using h)
theorem isD_mem (s : ByteArray) (k : Nat) (h : k < s.size) (hd : allD s.data.toList = true) : isD s[k] = true := by
  unfold allD at hd
  rw [List.all_eq_true] at hd
  refine hd _ ?_
  have : s[k] = s.data.toList[k]'(by simpa using h) := by rfl
  rw [this]
  exact List.getElem_mem _

set_option maxHeartbeats 400000 in
theorem allD_any (s : ByteArray) (w : World) (hs : s.size ≤ maxLen) :
    Calls Tryz.prog 99 #[.string s] w fun e w' => e = .returned (.bool (allD s.data.toList)) ∧ w' = w := by
  unfold maxLen at hs
  go_enter Tryz.func99, Tryz.ntmps99
  go_wp2
  go_loop [6] (fun i => ∃ k : Nat, k ≤ s.size ∧ i = .int .i64 k ∧ allD (s.data.toList.take k) = true) (fun i => s.size - (intOf i).toNat)
  case atStart => exact ⟨0, Nat.zero_le _, rfl, rfl⟩
  case round =>
    obtain ⟨k, hk, rfl, ha⟩ := hrel
    have HA : Hid (allD (s.data.toList.take k) = true) := ha
    clear ha
    by_cases hlt : k < s.size
    · have HS : Hid (allD (s.data.toList.take (k + 1)) = isD s[k]) := by
        show allD (s.data.toList.take (k + 1)) = isD s[k]
        rw [take_snoc s k hlt, allD_snoc, HA.out]; simp
      by_cases h1 : (s[k].toNat : Int) < 48
      · have HF : Hid (allD s.data.toList = false) := by
          cases e : allD s.data.toList
          · rfl
          · have := (isD_iff _).1 (isD_mem s k hlt e); omega
        go_wp2
        go_ret
        exact ⟨by rw [HF.out]; rfl, rfl⟩
      · by_cases h2 : 57 < (s[k].toNat : Int)
        · have HF : Hid (allD s.data.toList = false) := by
            cases e : allD s.data.toList
            · rfl
            · have := (isD_iff _).1 (isD_mem s k hlt e); omega
          go_wp2
          go_ret
          exact ⟨by rw [HF.out]; rfl, rfl⟩
        · go_wp2
          go_round
          case rel => exact ⟨k + 1, by omega, by go_num, by rw [HS.out, isD_iff]; omega⟩
          case measure => simp [intOf]; omega
    · go_wp2
      go_ret
      exact ⟨by rw [← take_all s k (by omega), HA.out]; rfl, rfl⟩

set_option maxHeartbeats 400000 in
theorem number_any (s : ByteArray) (w : World) (hs : s.size ≤ 18) (hd : allD s.data.toList = true) :
    Calls Tryz.prog 100 #[.string s] w fun e w' => e = .returned (.int .i64 (numL s.data.toList)) ∧ w' = w := by
  have HD : Hid (allD s.data.toList = true) := hd
  clear hd
  go_enter Tryz.func100, Tryz.ntmps100
  go_wp2
  go_loop [3, 7] (fun n i => ∃ k : Nat, k ≤ s.size ∧ i = .int .i64 k ∧ n = .int .i64 (numL (s.data.toList.take k))) (fun _ i => s.size - (intOf i).toNat)
  case atStart => exact ⟨0, Nat.zero_le _, rfl, rfl⟩
  case round =>
    obtain ⟨k, hk, rfl, rfl⟩ := hrel
    by_cases hlt : k < s.size
    · have hdk := (isD_iff _).1 (isD_mem s k hlt HD.out)
      have HS : Hid (numL (s.data.toList.take (k + 1)) = numL (s.data.toList.take k) * 10 + (s[k].toNat - 48)) := by
        show numL (s.data.toList.take (k + 1)) = _
        rw [take_snoc s k hlt, numL_snoc]
      have hb : numL (s.data.toList.take k) < 100000000000000000 := by
        have h1 := numL_lt (s.data.toList.take k) (by
          have := HD.out
          unfold allD at this ⊢
          rw [List.all_eq_true] at this ⊢
          exact fun x hx => this x (List.mem_of_mem_take hx))
        have h2 : (s.data.toList.take k).length ≤ 17 := by simp; omega
        have h3 : 10 ^ (s.data.toList.take k).length ≤ 10 ^ 17 := Nat.pow_le_pow_right (by omega) h2
        have h4 : (10 : Nat) ^ 17 = 100000000000000000 := rfl
        omega
      go_wp2
      go_round
      case rel => exact ⟨k + 1, by omega, by go_num, by rw [HS.out]; go_num⟩
      case measure => simp [intOf]; omega
    · go_wp2
      go_ret
      exact ⟨ret_int (by rw [take_all s k (by omega)]), rfl⟩
end Go.Proofs.YtpmnepihaljamaaGreatDoor.Nu
end

/-
  What digits.ReadInt and digits.readCents answer, as contracts: for every text and every int.
-/
section
namespace Go.Proofs.YtpmnepihaljamaaGreatDoor.Nu
open Go.RowKit

theorem ri_none (l : List UInt8) (m : Int) (h : riOk l m = false) : riV l m = 0 ∧ riE l m = 4 := by simp [riV, riE, h]
theorem ri_some (l : List UInt8) (m : Int) (h : riOk l m = true) : riV l m = numL l ∧ riE l m = 0 := by simp [riV, riE, h]
theorem ri_long (l : List UInt8) (m : Int) (h : ¬ ((l.length : Int) ≤ m ∧ l.length ≤ 18)) : riOk l m = false := by
  cases e : riOk l m
  · rfl
  · unfold riOk at e
    simp only [Bool.and_eq_true, decide_eq_true_eq] at e
    omega
theorem ri_short (l : List UInt8) (m : Int) (h : (l.length : Int) ≤ m ∧ l.length ≤ 18) : riOk l m = canon l := by
  unfold riOk
  rw [decide_eq_true h.1, decide_eq_true h.2]
  simp
theorem ri_notD (l : List UInt8) (m : Int) (h : allD l = false) : riOk l m = false := by simp [riOk, canon, h]
theorem ri_nil (m : Int) : riOk [] m = false := by simp [riOk, canon]
theorem head_zero (s : ByteArray) (h : 0 < s.size) : s.data.toList.head? = some s[0] := by
  rw [List.head?_eq_getElem?, List.getElem?_eq_getElem (by simpa using h)]; rfl
theorem canon_zero (l : List UInt8) (h : l.head? = some 48) (h2 : (l == [48]) = false) : canon l = false := by
  unfold canon
  rw [h, h2]
  simp
theorem canon_of (l : List UInt8) (hne : l ≠ []) (hd : allD l = true) (h : l.head? ≠ some 48 ∨ l = [48]) : canon l = true := by
  unfold canon
  have e : l.isEmpty = false := by cases l with
    | nil => exact absurd rfl hne
    | cons a t => rfl
  rw [e, hd]
  rcases h with h | h
  · simp [h]
  · subst h; rfl

set_option maxHeartbeats 1000000 in
theorem readInt_any (s : ByteArray) (most : Int) (w : World) (hs : s.size ≤ maxLen) :
    Calls Tryz.prog 64 #[.string s, .int .i64 most] w fun e w' => e = .returned (.tuple #[.int .i64 (riV s.data.toList most), .int .i64 (riE s.data.toList most)]) ∧ w' = w := by
  have el : s.data.toList.length = s.size := (Lib.size_eq s).symm
  have et := Lib.toList_data s
  have HL := Lib.hid el
  have HT := Lib.hid et
  clear el et
  by_cases h0 : s.toList = []
  · have hn : riOk s.data.toList most = false := by rw [← HT.out, h0]; exact ri_nil _
    obtain ⟨e1, e2⟩ := ri_none _ _ hn
    have H1 := Lib.hid e1
    have H2 := Lib.hid e2
    clear e1 e2 hn
    go_enter Tryz.func64, Tryz.ntmps64
    go_wp2
    go_ret2
    exact ⟨by rw [H1.out, H2.out]; rfl, rfl⟩
  · have hsz : 0 < s.size := by
      rcases Nat.eq_zero_or_pos s.size with e | e
      · exfalso; apply h0; rw [HT.out]; exact List.length_eq_zero_iff.1 (by rw [HL.out]; exact e)
      · exact e
    have hne : s.data.toList ≠ [] := by rw [← HT.out]; exact h0
    have HN := Lib.hid hne
    clear hne
    by_cases hlen : (s.size : Int) ≤ most ∧ s.size ≤ 18
    · have hR := ri_short s.data.toList most (by rw [HL.out]; exact hlen)
      have HR := Lib.hid hR
      clear hR
      obtain ⟨hl1, hl2⟩ := hlen
      have hie : s.toList.isEmpty = false := by cases e : s.toList with
        | nil => exact absurd e h0
        | cons a t => rfl
      have d1 : decide (18 < (s.size : Int)) = false := by rw [decide_eq_false_iff_not]; omega
      have d2 : decide (most < (s.size : Int)) = false := by rw [decide_eq_false_iff_not]; omega
      cases ha : allD s.data.toList
      · have hn := ri_notD _ most ha
        obtain ⟨e1, e2⟩ := ri_none _ _ hn
        have H1 := Lib.hid e1
        have H2 := Lib.hid e2
        clear e1 e2 hn
        go_enter Tryz.func64, Tryz.ntmps64
        go_wp2_with (go_at_call 99; refine (allD_any _ _ hs).mono ?_; rintro e w' ⟨rfl, rfl⟩)
        all_goals
          go_ret2
          exact ⟨by rw [H1.out, H2.out]; rfl, rfl⟩
      · have HA := Lib.hid ha
        cases hz : ((s[0].toNat : Int) == 48)
        · have hc : canon s.data.toList = true := canon_of _ HN.out ha (Or.inl (by rw [head_zero s hsz]; intro e; have e2 : s[0] = 48 := by simpa using e
                                                                                   rw [e2] at hz; simp at hz))
          obtain ⟨e1, e2⟩ := ri_some _ most (by rw [HR.out]; exact hc)
          have H1 := Lib.hid e1
          have H2 := Lib.hid e2
          clear e1 e2 hc
          go_enter Tryz.func64, Tryz.ntmps64
          go_wp2_with (first | (go_at_call 99; refine (allD_any _ _ hs).mono ?_; rintro e w' ⟨rfl, rfl⟩) | (go_at_call 100; refine (number_any _ _ hl2 HA.out).mono ?_; rintro e w' ⟨rfl, rfl⟩))
          all_goals
            go_ret2
            exact ⟨by rw [H1.out, H2.out]; rfl, rfl⟩
        · have h48 : s[0] = 48 := by
            have := beq_iff_eq.1 hz
            exact UInt8.toNat_inj.1 (by simp; omega)
          cases hq : (s.toList == [48])
          rotate_left
          · have hc : canon s.data.toList = true := canon_of _ HN.out ha (Or.inr (by rw [← HT.out]; simpa using hq))
            obtain ⟨e1, e2⟩ := ri_some _ most (by rw [HR.out]; exact hc)
            have H1 := Lib.hid e1
            have H2 := Lib.hid e2
            clear e1 e2 hc h48
            go_enter Tryz.func64, Tryz.ntmps64
            go_wp2_with (first | (go_at_call 99; refine (allD_any _ _ hs).mono ?_; rintro e w' ⟨rfl, rfl⟩) | (go_at_call 100; refine (number_any _ _ hl2 HA.out).mono ?_; rintro e w' ⟨rfl, rfl⟩))
            all_goals
              go_ret2
              exact ⟨by rw [H1.out, H2.out]; rfl, rfl⟩
          · have hc : canon s.data.toList = false := canon_zero _ (by rw [head_zero s hsz, h48]) (by rw [← HT.out]; exact hq)
            obtain ⟨e1, e2⟩ := ri_none _ most (by rw [HR.out]; exact hc)
            have H1 := Lib.hid e1
            have H2 := Lib.hid e2
            clear e1 e2 hc h48
            go_enter Tryz.func64, Tryz.ntmps64
            go_wp2_with (first | (go_at_call 99; refine (allD_any _ _ hs).mono ?_; rintro e w' ⟨rfl, rfl⟩) | (go_at_call 100; refine (number_any _ _ hl2 HA.out).mono ?_; rintro e w' ⟨rfl, rfl⟩))
            all_goals
              go_ret2
              exact ⟨by rw [H1.out, H2.out]; rfl, rfl⟩
    · have hn := ri_long s.data.toList most (by rw [HL.out]; exact hlen)
      obtain ⟨e1, e2⟩ := ri_none _ _ hn
      have H1 := Lib.hid e1
      have H2 := Lib.hid e2
      clear e1 e2 hn
      by_cases hm : 18 < most
      · have hl : ¬ (s.size : Int) ≤ 18 := by omega
        clear hlen
        go_enter Tryz.func64, Tryz.ntmps64
        go_wp2
        go_ret2
        exact ⟨by rw [H1.out, H2.out]; rfl, rfl⟩
      · have hl : ¬ (s.size : Int) ≤ most := by omega
        clear hlen
        go_enter Tryz.func64, Tryz.ntmps64
        go_wp2
        go_ret2
        exact ⟨by rw [H1.out, H2.out]; rfl, rfl⟩

theorem app_data (a b : ByteArray) : (a ++ b).data.toList = a.data.toList ++ b.data.toList := by simp
theorem app_size (a b : ByteArray) : (a ++ b).size = a.size + b.size := ByteArray.size_append
def ctR (l : List UInt8) : Int := if ctOk l = true then (ctV l : Int) else 0
theorem ct_none (l : List UInt8) (h : ctOk l = false) : ctR l = 0 := by simp [ctR, h]
theorem ct_some (l : List UInt8) (h : ctOk l = true) : ctR l = ctV l := by simp [ctR, h]

set_option maxHeartbeats 1000000 in
theorem readCents_any (s : ByteArray) (w : World) (hs : s.size ≤ maxLen) :
    Calls Tryz.prog 143 #[.string s] w fun e w' => e = .returned (.tuple #[.int .i64 (ctR s.data.toList), .bool (ctOk s.data.toList)]) ∧ w' = w := by
  have el : s.data.toList.length = s.size := (Lib.size_eq s).symm
  by_cases h1 : s.size = 1
  · have ok : ctOk s.data.toList = allD s.data.toList := by simp only [ctOk, el, h1]; simp
    have vv : allD s.data.toList = true → ctR s.data.toList = numL (s ++ (⟨#[48]⟩ : ByteArray)).data.toList := fun h => by
      rw [ct_some _ (by rw [ok]; exact h), app_data, show (⟨#[48]⟩ : ByteArray).data.toList = [48] from rfl, numL_snoc]
      unfold ctV
      rw [if_pos (by rw [el, h1])]
      simp
    have hsz : (s ++ (⟨#[48]⟩ : ByteArray)).size = 2 := by rw [app_size, h1]; rfl
    have had : allD (s ++ (⟨#[48]⟩ : ByteArray)).data.toList = allD s.data.toList := by
      rw [app_data, allD_app]; simp [allD, isD]
    have HO := Lib.hid ok
    have HE := Lib.hid had
    have HZ := Lib.hid hsz
    clear ok had hsz el
    cases ha : allD s.data.toList
    · have hb : allD (s ++ (⟨#[48]⟩ : ByteArray)).data.toList = false := by rw [HE.out]; exact ha
      have H1 := Lib.hid (ct_none s.data.toList (by rw [HO.out]; exact ha))
      clear vv
      go_enter Tryz.func143, Tryz.ntmps143
      go_wp2_with (first | (go_at_call 99; refine (allD_any _ _ (by rw [HZ.out]; unfold maxLen; omega)).mono ?_; rintro e w' ⟨rfl, rfl⟩; rw [hb]))
      go_ret2
      exact ⟨by rw [H1.out, HO.out, ha]; rfl, rfl⟩
    · have hb : allD (s ++ (⟨#[48]⟩ : ByteArray)).data.toList = true := by rw [HE.out]; exact ha
      have H1 := Lib.hid (vv ha)
      clear vv
      go_enter Tryz.func143, Tryz.ntmps143
      go_wp2_with (first | (go_at_call 99; refine (allD_any _ _ (by rw [HZ.out]; unfold maxLen; omega)).mono ?_; rintro e w' ⟨rfl, rfl⟩; rw [hb]) | (go_at_call 100; refine (number_any _ _ (by rw [HZ.out]; omega) hb).mono ?_; rintro e w' ⟨rfl, rfl⟩))
      go_ret2
      exact ⟨by rw [H1.out, HO.out, ha]; rfl, rfl⟩
  · by_cases h2 : s.size = 2
    · have ok : ctOk s.data.toList = allD s.data.toList := by simp only [ctOk, el, h2]; simp
      have vv : allD s.data.toList = true → ctR s.data.toList = numL s.data.toList := fun h => by
        rw [ct_some _ (by rw [ok]; exact h)]
        unfold ctV
        rw [if_neg (by rw [el, h2]; omega)]
      have HO := Lib.hid ok
      clear ok el
      cases ha : allD s.data.toList
      · have H1 := Lib.hid (ct_none s.data.toList (by rw [HO.out]; exact ha))
        clear vv
        go_enter Tryz.func143, Tryz.ntmps143
        go_wp2_with (first | (go_at_call 99; refine (allD_any _ _ hs).mono ?_; rintro e w' ⟨rfl, rfl⟩))
        go_ret2
        exact ⟨by rw [H1.out, HO.out, ha]; rfl, rfl⟩
      · have H1 := Lib.hid (vv ha)
        have HA := Lib.hid ha
        clear vv
        go_enter Tryz.func143, Tryz.ntmps143
        go_wp2_with (first | (go_at_call 99; refine (allD_any _ _ hs).mono ?_; rintro e w' ⟨rfl, rfl⟩) | (go_at_call 100; refine (number_any _ _ (by omega) HA.out).mono ?_; rintro e w' ⟨rfl, rfl⟩))
        go_ret2
        exact ⟨by rw [H1.out, HO.out, HA.out]; rfl, rfl⟩
    · have ok : ctOk s.data.toList = false := by
        have a1 : (s.data.toList.length == 1) = false := by rw [el]; simpa using h1
        have a2 : (s.data.toList.length == 2) = false := by rw [el]; simpa using h2
        unfold ctOk; rw [a1, a2]; rfl
      have H1 := Lib.hid (ct_none s.data.toList ok)
      have HO := Lib.hid ok
      have b1 : ((s.size : Int) == 1) = false := by rw [beq_eq_false_iff_ne]; omega
      have b2 : ((s.size : Int) == 2) = false := by rw [beq_eq_false_iff_ne]; omega
      clear ok el
      go_enter Tryz.func143, Tryz.ntmps143
      go_wp2
      go_ret2
      exact ⟨by rw [H1.out, HO.out]; rfl, rfl⟩
end Go.Proofs.YtpmnepihaljamaaGreatDoor.Nu
end
