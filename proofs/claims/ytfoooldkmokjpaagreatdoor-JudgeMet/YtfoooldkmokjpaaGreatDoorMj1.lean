/-
  Texts put together (merge.py): QMath, CMath, HMath, YMath.
-/
import Derived.Lib.Join
import Derived.Lib.Strings
import Derived.Lib.SplitLaws
import Derived.Sort.Walk0
import Derived.Test.YtfoooldkmokjpaaGreatDoorProg
set_option linter.unusedSimpArgs false
set_option linter.unusedVariables false
section
namespace Go.Proofs.YtfoooldkmokjpaaGreatDoor
abbrev Tx := List UInt8
abbrev Sg := List (List Tx)
def mk (l : Tx) : ByteArray := ⟨l.toArray⟩
theorem mk_list (l : Tx) : (mk l).data.toList = l := by simp [mk]
theorem mk_of (s : ByteArray) : mk s.data.toList = s := Lib.mk_data s
theorem mk_size (l : Tx) : (mk l).size = l.length := by rw [Lib.size_eq, mk_list]
def signB (c : UInt8) : Bool := decide (33 ≤ c.toNat) && decide (c.toNat ≤ 126) && !(decide (c.toNat = 45)) && !(decide (c.toNat = 46)) && !(decide (48 ≤ c.toNat) && decide (c.toNat ≤ 57)) && !(decide (65 ≤ c.toNat) && decide (c.toNat ≤ 90)) && !(decide (97 ≤ c.toNat) && decide (c.toNat ≤ 122))
def goodB (e p s : UInt8) : Bool := e != p && e != s && p != s && signB e && signB p && signB s
end Go.Proofs.YtfoooldkmokjpaaGreatDoor
end
section
namespace Go.Proofs.YtfoooldkmokjpaaGreatDoor.Ce
def good (a : Int) : Bool := decide (0 ≤ a) && decide (a ≤ 10000000000000)
theorem good_iff (a : Int) : good a = true ↔ 0 ≤ a ∧ a ≤ 10000000000000 := by
 unfold good; simp
theorem good_not (a : Int) : good a = false ↔ a < 0 ∨ 10000000000000 < a := by
 have h := good_iff a
 cases g : good a
 ·simp only [true_iff]
  rw [g] at h
  simp at h
  omega
 ·rw [g] at h
  simp at h
  simp
  omega
def addV (a b : Int) : Int := if good a = true ∧ good b = true ∧ good (a + b) = true then a + b else 0
def addE (a b : Int) : Int := if good a = true ∧ good b = true then (if good (a + b) = true then 0 else 2) else 1
def subV (a b : Int) : Int := if good a = true ∧ good b = true ∧ b ≤ a then a - b else 0
def subE (a b : Int) : Int := if good a = true ∧ good b = true then (if b ≤ a then 0 else 3) else 1
def scaleV (a n d : Int) : Int := if good a = true ∧ 0 ≤ n ∧ 1 ≤ d ∧ good (a * n / d) = true then a * n / d else 0
def scaleE (a n d : Int) : Int := if good a = true ∧ 0 ≤ n ∧ 1 ≤ d then (if good (a * n / d) = true then 0 else 2) else 1
def partV (a p : Int) : Int := if 0 ≤ p ∧ p ≤ 10000 then scaleV a p 10000 else 0
def partE (a p : Int) : Int := if 0 ≤ p ∧ p ≤ 10000 then scaleE a p 10000 else 1
end Go.Proofs.YtfoooldkmokjpaaGreatDoor.Ce
end
section
namespace Go.Proofs.YtfoooldkmokjpaaGreatDoor.Sh
def least (a b : Int) : Int := if b < a then b else a
theorem least_eq (a b : Int) : (a ≤ b ∧ least a b = a) ∨ (b < a ∧ least a b = b) := by unfold least; split <;> omega
theorem part_in (a p : Int) (h : 0 ≤ a) (hp : 0 ≤ p) (hq : p ≤ 10000) : 0 ≤ Ce.partV a p ∧ Ce.partV a p ≤ a := by
 have e1 : 0 ≤ a * p := Int.mul_nonneg h hp
 have e2 : a * p ≤ a * 10000 := Int.mul_le_mul_of_nonneg_left hq h
 unfold Ce.partV Ce.scaleV
 split
 ·split <;> omega
 ·omega
def bearB (al cp cn de oo : Int) : Bool := (Ce.good al && (Ce.good cp && (Ce.good de && Ce.good oo))) && (decide (0 ≤ cn) && decide (cn ≤ 10000))
def d0 (al : Int) (dd : Bool) (de net : Int) : Int := if dd = true ∧ net = 0 then least de al else 0
def c0 (al : Int) (dd : Bool) (cp de net : Int) : Int := least cp (al - d0 al dd de net)
def k0 (al : Int) (dd : Bool) (cp cn de net : Int) : Int := Ce.partV (al - d0 al dd de net - c0 al dd cp de net) cn
def bD (al : Int) (dd : Bool) (cp cn de oo net : Int) : Int := if bearB al cp cn de oo = true then (if net = 0 then least (d0 al dd de net) oo else d0 al dd de net) else 0
def bC (al : Int) (dd : Bool) (cp cn de oo net : Int) : Int := if bearB al cp cn de oo = true then (if net = 0 then least (c0 al dd cp de net) (oo - bD al dd cp cn de oo net) else c0 al dd cp de net) else 0
def bK (al : Int) (dd : Bool) (cp cn de oo net : Int) : Int := if bearB al cp cn de oo = true then (if net = 0 then least (k0 al dd cp cn de net) (oo - bD al dd cp cn de oo net - bC al dd cp cn de oo net) else k0 al dd cp cn de net) else 0
def bE (al cp cn de oo : Int) : Int := if bearB al cp cn de oo = true then 0 else 1
theorem bear_iff (al cp cn de oo : Int) : bearB al cp cn de oo = true ↔ (0 ≤ al ∧ al ≤ 10000000000000) ∧ (0 ≤ cp ∧ cp ≤ 10000000000000) ∧ (0 ≤ de ∧ de ≤ 10000000000000) ∧ (0 ≤ oo ∧ oo ≤ 10000000000000) ∧ 0 ≤ cn ∧ cn ≤ 10000 := by
 simp only [bearB, Bool.and_eq_true, decide_eq_true_eq, Ce.good_iff]
 constructor
 ·rintro ⟨⟨a, b, c, d⟩, e, f⟩; exact ⟨a, b, c, d, e, f⟩
 ·rintro ⟨a, b, c, d, e, f⟩; exact ⟨⟨a, b, c, d⟩, e, f⟩
theorem raw_in (al : Int) (dd : Bool) (cp cn de net : Int) (ha : 0 ≤ al) (hc : 0 ≤ cp) (hd : 0 ≤ de) (hn : 0 ≤ cn) (hm : cn ≤ 10000) :
  0 ≤ d0 al dd de net ∧ d0 al dd de net ≤ de ∧ d0 al dd de net ≤ al ∧ 0 ≤ c0 al dd cp de net ∧ c0 al dd cp de net ≤ cp ∧ 0 ≤ k0 al dd cp cn de net ∧ d0 al dd de net + c0 al dd cp de net + k0 al dd cp cn de net ≤ al := by
 have h1 : 0 ≤ d0 al dd de net ∧ d0 al dd de net ≤ de ∧ d0 al dd de net ≤ al := by
  unfold d0; split
  ·rcases least_eq de al with ⟨x, y⟩ | ⟨x, y⟩ <;> rw [y] <;> omega
  ·omega
 have h2 : 0 ≤ c0 al dd cp de net ∧ c0 al dd cp de net ≤ cp ∧ c0 al dd cp de net ≤ al - d0 al dd de net := by
  unfold c0
  rcases least_eq cp (al - d0 al dd de net) with ⟨x, y⟩ | ⟨x, y⟩ <;> rw [y] <;> omega
 have h3 := part_in (al - d0 al dd de net - c0 al dd cp de net) cn (by omega) hn hm
 have h4 : k0 al dd cp cn de net = Ce.partV (al - d0 al dd de net - c0 al dd cp de net) cn := rfl
 rw [← h4] at h3
 omega
theorem bear_limits (al : Int) (dd : Bool) (cp cn de oo : Int) (h : bE al cp cn de oo = 0) :
  0 ≤ bD al dd cp cn de oo 0 ∧ 0 ≤ bC al dd cp cn de oo 0 ∧ 0 ≤ bK al dd cp cn de oo 0 ∧ bD al dd cp cn de oo 0 ≤ de ∧
  bD al dd cp cn de oo 0 + bC al dd cp cn de oo 0 + bK al dd cp cn de oo 0 ≤ oo ∧ bD al dd cp cn de oo 0 + bC al dd cp cn de oo 0 + bK al dd cp cn de oo 0 ≤ al := by
 have hb : bearB al cp cn de oo = true := by
  cases e : bearB al cp cn de oo with
  | true => rfl
  | false => simp [bE, e] at h
 obtain ⟨⟨a1, a2⟩, ⟨c1, c2⟩, ⟨e1, e2⟩, ⟨o1, o2⟩, n1, n2⟩ := (bear_iff al cp cn de oo).mp hb
 have hr := raw_in al dd cp cn de 0 a1 c1 e1 n1 n2
 have x1 : bD al dd cp cn de oo 0 = least (d0 al dd de 0) oo := by simp [bD, hb]
 have x2 : bC al dd cp cn de oo 0 = least (c0 al dd cp de 0) (oo - bD al dd cp cn de oo 0) := by simp only [bC, hb, if_true]
 have x3 : bK al dd cp cn de oo 0 = least (k0 al dd cp cn de 0) (oo - bD al dd cp cn de oo 0 - bC al dd cp cn de oo 0) := by simp only [bK, hb, if_true]
 rcases least_eq (d0 al dd de 0) oo with ⟨p1, q1⟩ | ⟨p1, q1⟩ <;>
 rcases least_eq (c0 al dd cp de 0) (oo - bD al dd cp cn de oo 0) with ⟨p2, q2⟩ | ⟨p2, q2⟩ <;>
 rcases least_eq (k0 al dd cp cn de 0) (oo - bD al dd cp cn de oo 0 - bC al dd cp cn de oo 0) with ⟨p3, q3⟩ | ⟨p3, q3⟩ <;>
 rw [q1] at x1 <;> rw [q2] at x2 <;> rw [q3] at x3 <;> omega
structure Ot where
 al : Int
 de : Int
 cp : Int
 cn : Int
 plan : Int
 wr : Int
 pr : Int
 deny : Int
def ot0 : Ot := ⟨0, 0, 0, 0, 0, 0, 0, 0⟩
def member (o : Ot) : Int := o.de + o.cp + o.cn
def sixB (bi al pr de cp cn : Int) : Bool := Ce.good bi && (Ce.good al && (Ce.good pr && (Ce.good de && (Ce.good cp && Ce.good cn))))
def fitB (bi al pr de cp cn : Int) : Bool := decide (al ≤ bi) && (decide (pr ≤ bi) && decide (de + cp + cn ≤ al))
def rest (al pr : Int) : Int := if pr < al then al - pr else 0
def sP (al pr de cp cn : Int) : Int := least (al - de - cp - cn) (rest al pr)
def sD (al pr de cp cn : Int) : Int := least de (rest al pr - sP al pr de cp cn)
def sC (al pr de cp cn : Int) : Int := least cp (rest al pr - sP al pr de cp cn - sD al pr de cp cn)
def sK (al pr de cp cn : Int) : Int := least cn (rest al pr - sP al pr de cp cn - sD al pr de cp cn - sC al pr de cp cn)
def setE (bi al pr de cp cn : Int) : Int := if sixB bi al pr de cp cn = true then (if fitB bi al pr de cp cn = true then 0 else 3) else 1
def setV (bi al pr de cp cn : Int) : Ot := if setE bi al pr de cp cn = 0 then ⟨al, sD al pr de cp cn, sC al pr de cp cn, sK al pr de cp cn, sP al pr de cp cn, bi - pr - sP al pr de cp cn - sD al pr de cp cn - sC al pr de cp cn - sK al pr de cp cn, pr, 0⟩ else ot0
theorem set_ok {bi al pr de cp cn : Int} (h : setE bi al pr de cp cn = 0) :
  (0 ≤ bi ∧ bi ≤ 10000000000000) ∧ (0 ≤ al ∧ al ≤ 10000000000000) ∧ (0 ≤ pr ∧ pr ≤ 10000000000000) ∧ (0 ≤ de ∧ de ≤ 10000000000000) ∧ (0 ≤ cp ∧ cp ≤ 10000000000000) ∧ (0 ≤ cn ∧ cn ≤ 10000000000000) ∧ al ≤ bi ∧ pr ≤ bi ∧ de + cp + cn ≤ al := by
 unfold setE at h
 split at h
 case isFalse => simp at h
 case isTrue h1 =>
  split at h
  case isFalse => simp at h
  case isTrue h2 =>
   simp only [sixB, Bool.and_eq_true, Ce.good_iff] at h1
   simp only [fitB, Bool.and_eq_true, decide_eq_true_eq] at h2
   obtain ⟨a, b, c, d, e, f⟩ := h1
   obtain ⟨x, y, z⟩ := h2
   exact ⟨a, b, c, d, e, f, x, y, z⟩
theorem set_parts {bi al pr de cp cn : Int} (h : setE bi al pr de cp cn = 0) :
  0 ≤ rest al pr ∧ rest al pr ≤ al ∧ rest al pr + pr ≤ bi ∧ 0 ≤ sP al pr de cp cn ∧ 0 ≤ sD al pr de cp cn ∧ 0 ≤ sC al pr de cp cn ∧ 0 ≤ sK al pr de cp cn ∧
  sD al pr de cp cn ≤ de ∧ sC al pr de cp cn ≤ cp ∧ sK al pr de cp cn ≤ cn ∧
  sP al pr de cp cn + (sD al pr de cp cn + sC al pr de cp cn + sK al pr de cp cn) = rest al pr := by
 obtain ⟨h1, h2, h3, h4, h5, h6, h7, h8, h9⟩ := set_ok h
 have r : 0 ≤ rest al pr ∧ rest al pr ≤ al ∧ rest al pr + pr ≤ bi := by unfold rest; split <;> omega
 have x0 : sP al pr de cp cn = least (al - de - cp - cn) (rest al pr) := rfl
 have x1 : sD al pr de cp cn = least de (rest al pr - sP al pr de cp cn) := rfl
 have x2 : sC al pr de cp cn = least cp (rest al pr - sP al pr de cp cn - sD al pr de cp cn) := rfl
 have x3 : sK al pr de cp cn = least cn (rest al pr - sP al pr de cp cn - sD al pr de cp cn - sC al pr de cp cn) := rfl
 generalize sP al pr de cp cn = P at *
 generalize sD al pr de cp cn = D at *
 generalize sC al pr de cp cn = C at *
 generalize sK al pr de cp cn = K at *
 generalize rest al pr = R at *
 unfold least at x0 x1 x2 x3
 refine ⟨r.1, r.2.1, r.2.2, ?_⟩
 split at x0 <;> split at x1 <;> split at x2 <;> split at x3 <;> omega
def balB (bi : Int) (o : Ot) : Bool := (decide (0 ≤ o.plan) && (decide (0 ≤ o.wr) && (decide (0 ≤ o.pr) && (decide (0 ≤ o.de) && (decide (0 ≤ o.cp) && decide (0 ≤ o.cn)))))) && (decide (o.plan + o.wr + o.pr + o.de + o.cp + o.cn = bi) && (decide (o.de + o.cp + o.cn ≤ o.al) && decide (o.al ≤ bi)))
theorem set_bal (bi al pr de cp cn : Int) (h : setE bi al pr de cp cn = 0) : balB bi (setV bi al pr de cp cn) = true := by
 have hs := set_parts h
 have ho := set_ok h
 simp only [setV, if_pos h, balB, Bool.and_eq_true, decide_eq_true_eq]
 omega
def refE (bi pr why : Int) : Int := if why ≠ 0 ∧ Ce.good bi = true ∧ Ce.good pr = true then (if pr ≤ bi then 0 else 3) else 1
def refV (bi pr why : Int) : Ot := if refE bi pr why = 0 then ⟨0, 0, 0, 0, 0, bi - pr, pr, why⟩ else ot0
theorem ref_bal (bi pr why : Int) (h : refE bi pr why = 0) : balB bi (refV bi pr why) = true ∧ member (refV bi pr why) = 0 ∧ (refV bi pr why).plan = 0 := by
 have hh : (0 ≤ bi ∧ 0 ≤ pr) ∧ pr ≤ bi := by
  unfold refE at h
  split at h
  case isFalse => simp at h
  case isTrue h1 =>
   split at h
   case isFalse => simp at h
   case isTrue h2 => exact ⟨⟨((Ce.good_iff _).mp h1.2.1).1, ((Ce.good_iff _).mp h1.2.2).1⟩, h2⟩
 simp only [refV, if_pos h, balB, member, Bool.and_eq_true, decide_eq_true_eq]
 refine ⟨⟨⟨?_, ?_, ?_, ?_, ?_, ?_⟩, ?_, ?_, ?_⟩, ?_, ?_⟩ <;> first | trivial | omega
end Go.Proofs.YtfoooldkmokjpaaGreatDoor.Sh
end
section
namespace Go.Proofs.YtfoooldkmokjpaaGreatDoor.Ac
def lessT (a b : Tx) : Bool := Op.bytesLess a b
theorem less_irr (a : Tx) : lessT a a = false := by unfold lessT; rw [Go.Proofs.bytesLess_eq]; simp [List.lt_irrefl]
theorem less_asym {a b : Tx} (h : lessT a b = true) : lessT b a = false := by
 unfold lessT at *
 rw [Go.Proofs.bytesLess_eq] at h ⊢
 simp only [decide_eq_true_eq, decide_eq_false_iff_not] at *
 exact List.not_lt.2 (List.le_of_lt h)
theorem less_trans {a b c : Tx} (h : lessT a b = true) (h2 : lessT b c = true) : lessT a c = true := by
 unfold lessT at *
 rw [Go.Proofs.bytesLess_eq] at h h2 ⊢
 simp only [decide_eq_true_eq] at *
 exact List.lt_trans h h2
theorem less_tri (a b : Tx) : lessT a b = true ∨ a = b ∨ lessT b a = true := by
 unfold lessT
 rw [Go.Proofs.bytesLess_eq, Go.Proofs.bytesLess_eq]
 simp only [decide_eq_true_eq]
 rcases Classical.em (a < b) with h | h
 ·exact Or.inl h
 ·rcases Classical.em (b < a) with h2 | h2
  ·exact Or.inr (Or.inr h2)
  ·exact Or.inr (Or.inl (List.le_antisymm (List.not_lt.1 h2) (List.not_lt.1 h)))
structure Row where
 who : Tx
 fam : Bool
 year : Int
 de : Int
 oo : Int
def aheadB (a b : Row) : Bool := if a.year = b.year then (if a.fam = b.fam then lessT a.who b.who else b.fam) else decide (a.year < b.year)
def hit (w : Tx) (f : Bool) (y : Int) (a : Row) : Bool := decide (a.who = w) && (decide (a.fam = f) && decide (a.year = y))
theorem hit_iff (w : Tx) (f : Bool) (y : Int) (a : Row) : hit w f y a = true ↔ a.who = w ∧ a.fam = f ∧ a.year = y := by simp [hit]
def sameP (a b : Row) : Prop := a.who = b.who ∧ a.fam = b.fam ∧ a.year = b.year
theorem ahead_irr {a b : Row} (h : sameP a b) : aheadB a b = false := by
 obtain ⟨h1, h2, h3⟩ := h
 unfold aheadB
 rw [if_pos h3, if_pos h2, h1, less_irr]
theorem ahead_asym {a b : Row} (h : aheadB a b = true) : aheadB b a = false := by
 unfold aheadB at *
 by_cases h1 : a.year = b.year
 ·rw [if_pos h1] at h; rw [if_pos h1.symm]
  by_cases h2 : a.fam = b.fam
  ·rw [if_pos h2] at h; rw [if_pos h2.symm]; exact less_asym h
  ·rw [if_neg h2] at h; rw [if_neg (Ne.symm h2)]
   cases e : a.fam with
   | false => rfl
   | true => rw [e, h] at h2; exact absurd rfl h2
 ·rw [if_neg h1] at h; rw [if_neg (Ne.symm h1)]; simp at *; omega
theorem ahead_tri (a b : Row) : aheadB a b = true ∨ sameP a b ∨ aheadB b a = true := by
 unfold aheadB sameP
 by_cases h1 : a.year = b.year
 ·rw [if_pos h1, if_pos h1.symm]
  by_cases h2 : a.fam = b.fam
  ·rw [if_pos h2, if_pos h2.symm]
   rcases less_tri a.who b.who with h | h | h
   ·exact Or.inl h
   ·exact Or.inr (Or.inl ⟨h, h2, h1⟩)
   ·exact Or.inr (Or.inr h)
  ·rw [if_neg h2, if_neg (Ne.symm h2)]
   cases e : a.fam <;> cases e2 : b.fam <;> simp_all
 ·rw [if_neg h1, if_neg (Ne.symm h1)]; simp; omega
theorem ahead_trans {a b c : Row} (h : aheadB a b = true) (g : aheadB b c = true) : aheadB a c = true := by
 unfold aheadB at *
 by_cases h1 : a.year = b.year
 ·rw [if_pos h1] at h
  by_cases g1 : b.year = c.year
  ·rw [if_pos g1] at g
   rw [if_pos (h1.trans g1)]
   by_cases h2 : a.fam = b.fam
   ·rw [if_pos h2] at h
    by_cases g2 : b.fam = c.fam
    ·rw [if_pos g2] at g; rw [if_pos (h2.trans g2)]; exact less_trans h g
    ·rw [if_neg g2] at g; rw [h2, if_neg g2]; exact g
   ·rw [if_neg h2] at h
    by_cases g2 : b.fam = c.fam
    ·rw [if_neg (fun e => h2 (e.trans g2.symm)), ← g2]; exact h
    ·rw [if_neg g2] at g; exact absurd (h.trans g.symm) g2
  ·rw [if_neg g1] at g; rw [if_neg (fun e => g1 (h1.symm.trans e)), h1]; exact g
 ·rw [if_neg h1] at h
  by_cases g1 : b.year = c.year
  ·rw [if_neg (fun e => h1 (e.trans g1.symm)), ← g1]; exact h
  ·rw [if_neg g1] at g
   simp only [decide_eq_true_eq] at h g
   rw [if_neg (by omega)]; simp only [decide_eq_true_eq]; omega
theorem ahead_cong1 {a b : Row} (c : Row) (h : sameP a b) : aheadB a c = aheadB b c := by
 obtain ⟨h1, h2, h3⟩ := h
 unfold aheadB; rw [h1, h2, h3]
theorem ahead_cong2 {a b : Row} (c : Row) (h : sameP a b) : aheadB c a = aheadB c b := by
 obtain ⟨h1, h2, h3⟩ := h
 unfold aheadB; rw [h1, h2, h3]
def oneB (a : Row) : Bool := Ce.good a.oo && (decide (a.oo ≠ 0) && (decide (0 ≤ a.de) && decide (a.de ≤ a.oo)))
theorem one_iff (a : Row) : oneB a = true ↔ (0 ≤ a.oo ∧ a.oo ≤ 10000000000000) ∧ a.oo ≠ 0 ∧ 0 ≤ a.de ∧ a.de ≤ a.oo := by
 simp only [oneB, Bool.and_eq_true, decide_eq_true_eq, Ce.good_iff]
def behB (p : Option Row) (a : Row) : Bool := match p with
 | none => true
 | some q => aheadB q a
def ckE : Option Row → List Row → Int
 | _, [] => 0
 | p, a :: l => if oneB a = true then (if behB p a = true then ckE (some a) l else 11) else 1
def checkE (l : List Row) : Int := ckE none l
def Ok (l : List Row) : Prop := (∀ a ∈ l, oneB a = true) ∧ l.Pairwise (fun a b => aheadB a b = true)
theorem ck_ok : ∀ (l : List Row) (p : Option Row), ckE p l = 0 → Ok l ∧ ∀ a ∈ l, behB p a = true
 | [], _, _ => ⟨⟨by simp, List.Pairwise.nil⟩, by simp⟩
 | a :: l, p, h => by
  unfold ckE at h
  by_cases h1 : oneB a = true
  ·rw [if_pos h1] at h
   by_cases h2 : behB p a = true
   ·rw [if_pos h2] at h
    obtain ⟨⟨k1, k2⟩, k3⟩ := ck_ok l (some a) h
    refine ⟨⟨?_, List.Pairwise.cons k3 k2⟩, ?_⟩
    ·intro x hx
     rcases List.mem_cons.1 hx with rfl | hx
     ·exact h1
     ·exact k1 x hx
    ·intro x hx
     rcases List.mem_cons.1 hx with rfl | hx
     ·exact h2
     ·cases p with
      | none => rfl
      | some q => exact ahead_trans (show aheadB q a = true from h2) (show aheadB a x = true from k3 x hx)
   ·rw [if_neg h2] at h; simp at h
  ·rw [if_neg h1] at h; simp at h
theorem ok_ck : ∀ (l : List Row) (p : Option Row), Ok l → (∀ a ∈ l, behB p a = true) → ckE p l = 0
 | [], _, _, _ => rfl
 | a :: l, p, ⟨h1, h2⟩, h3 => by
  unfold ckE
  rw [if_pos (h1 a (List.mem_cons_self ..)), if_pos (h3 a (List.mem_cons_self ..))]
  have h4 := List.pairwise_cons.1 h2
  exact ok_ck l (some a) ⟨fun x hx => h1 x (List.mem_cons_of_mem _ hx), h4.2⟩ h4.1
theorem check_iff (l : List Row) : checkE l = 0 ↔ Ok l :=
 ⟨fun h => (ck_ok l none h).1, fun h => ok_ck l none h fun _ _ => rfl⟩
def getV (l : List Row) (w : Tx) (f : Bool) (y : Int) : Row := match l with
 | [] => ⟨w, f, y, 0, 0⟩
 | a :: l => if hit w f y a = true then a else getV l w f y
theorem get_hit : ∀ (l : List Row) (w : Tx) (f : Bool) (y : Int), hit w f y (getV l w f y) = true
 | [], w, f, y => by simp [getV, hit]
 | a :: l, w, f, y => by
  unfold getV; split
  ·assumption
  ·exact get_hit l w f y
theorem get_in : ∀ (l : List Row) (w : Tx) (f : Bool) (y : Int), getV l w f y ∈ l ∨ (getV l w f y = ⟨w, f, y, 0, 0⟩ ∧ ∀ a ∈ l, hit w f y a = false)
 | [], w, f, y => Or.inr ⟨rfl, by simp⟩
 | a :: l, w, f, y => by
  unfold getV; split
  ·exact Or.inl (List.mem_cons_self ..)
  ·next h =>
   rcases get_in l w f y with k | ⟨k1, k2⟩
   ·exact Or.inl (List.mem_cons_of_mem _ k)
   ·refine Or.inr ⟨k1, fun x hx => ?_⟩
    rcases List.mem_cons.1 hx with rfl | hx
    ·simpa using h
    ·exact k2 x hx
theorem get_sound {l : List Row} (h : Ok l) (w : Tx) (f : Bool) (y : Int) : 0 ≤ (getV l w f y).de ∧ (getV l w f y).de ≤ (getV l w f y).oo ∧ (getV l w f y).oo ≤ 10000000000000 := by
 rcases get_in l w f y with k | ⟨k, _⟩
 ·have := (one_iff _).1 (h.1 _ k); omega
 ·rw [k]; simp
theorem get_mem : ∀ {l : List Row}, Ok l → ∀ a ∈ l, getV l a.who a.fam a.year = a
 | [], _, a, ha => by simp at ha
 | x :: l, ⟨h1, h2⟩, a, ha => by
  have h3 := List.pairwise_cons.1 h2
  unfold getV
  rcases List.mem_cons.1 ha with rfl | ha
  ·rw [if_pos (by simp [hit])]
  ·rw [if_neg ?_]
   ·exact get_mem ⟨fun x hx => h1 x (List.mem_cons_of_mem _ hx), h3.2⟩ a ha
   ·intro e
    have h4 := h3.1 a ha
    rw [ahead_irr ((hit_iff _ _ _ _).1 e)] at h4
    simp at h4
theorem mem_iff {l : List Row} (h : Ok l) (a : Row) : a ∈ l ↔ getV l a.who a.fam a.year = a ∧ a.oo ≠ 0 := by
 constructor
 ·intro ha; exact ⟨get_mem h a ha, ((one_iff a).1 (h.1 a ha)).2.1⟩
 ·rintro ⟨h1, h2⟩
  rcases get_in l a.who a.fam a.year with k | ⟨k, _⟩
  ·rwa [h1] at k
  ·rw [h1] at k; rw [k] at h2; simp at h2
theorem same_mem : ∀ {l m : List Row}, l.Pairwise (fun a b => aheadB a b = true) → m.Pairwise (fun a b => aheadB a b = true) → (∀ a, a ∈ l ↔ a ∈ m) → l = m
 | [], [], _, _, _ => rfl
 | [], b :: m, _, _, h => by have := (h b).2 (List.mem_cons_self ..); simp at this
 | a :: l, [], _, _, h => by have := (h a).1 (List.mem_cons_self ..); simp at this
 | a :: l, b :: m, hl, hm, h => by
  have l1 := List.pairwise_cons.1 hl
  have m1 := List.pairwise_cons.1 hm
  have nl (x : Row) (hx : x ∈ l) : x ≠ a := by
   intro e; subst e
   have := l1.1 _ hx; rw [ahead_irr ⟨rfl, rfl, rfl⟩] at this; simp at this
  have nm (x : Row) (hx : x ∈ m) : x ≠ b := by
   intro e; subst e
   have := m1.1 _ hx; rw [ahead_irr ⟨rfl, rfl, rfl⟩] at this; simp at this
  have hab : a = b := by
   rcases List.mem_cons.1 ((h a).1 (List.mem_cons_self ..)) with e | e
   ·exact e
   ·rcases List.mem_cons.1 ((h b).2 (List.mem_cons_self ..)) with e2 | e2
    ·exact e2.symm
    ·have x1 := l1.1 b e2
     have x2 := m1.1 a e
     rw [ahead_asym x1] at x2; simp at x2
  subst hab
  rw [same_mem l1.2 m1.2]
  intro x
  constructor
  ·intro hx
   rcases List.mem_cons.1 ((h x).1 (List.mem_cons_of_mem _ hx)) with e | e
   ·exact absurd e (nl x hx)
   ·exact e
  ·intro hx
   rcases List.mem_cons.1 ((h x).2 (List.mem_cons_of_mem _ hx)) with e | e
   ·exact absurd e (nm x hx)
   ·exact e
theorem ext {l m : List Row} (hl : Ok l) (hm : Ok m) (h : ∀ w f y, getV l w f y = getV m w f y) : l = m :=
 same_mem hl.2 hm.2 fun a => by rw [mem_iff hl, mem_iff hm, h]
def put (a : Row) : List Row → List Row
 | [] => [a]
 | x :: xs => if aheadB x a = true then x :: put a xs else (if aheadB a x = true then a :: x :: xs else a :: xs)
theorem put_mem (a : Row) : ∀ (l : List Row) (x : Row), x ∈ put a l → x = a ∨ x ∈ l
 | [], x, h => by simp [put] at h; exact Or.inl h
 | b :: l, x, h => by
  unfold put at h
  split at h
  ·rcases List.mem_cons.1 h with rfl | h
   ·exact Or.inr (List.mem_cons_self ..)
   ·rcases put_mem a l x h with k | k
    ·exact Or.inl k
    ·exact Or.inr (List.mem_cons_of_mem _ k)
  ·split at h
   ·rcases List.mem_cons.1 h with h | h
    ·exact Or.inl h
    ·exact Or.inr h
   ·rcases List.mem_cons.1 h with h | h
    ·exact Or.inl h
    ·exact Or.inr (List.mem_cons_of_mem _ h)
theorem put_ok (a : Row) (ha : oneB a = true) : ∀ (l : List Row), Ok l → Ok (put a l)
 | [], _ => ⟨by simp [put, ha], by simp [put]⟩
 | b :: l, ⟨h1, h2⟩ => by
  have h3 := List.pairwise_cons.1 h2
  have hl : Ok l := ⟨fun x hx => h1 x (List.mem_cons_of_mem _ hx), h3.2⟩
  have hp := put_ok a ha l hl
  refine ⟨fun x hx => ?_, ?_⟩
  ·rcases put_mem a (b :: l) x hx with rfl | k
   ·exact ha
   ·exact h1 x k
  ·unfold put
   split
   ·next e =>
    refine List.Pairwise.cons (fun x hx => ?_) hp.2
    rcases put_mem a l x hx with rfl | k
    ·exact e
    ·exact h3.1 x k
   ·next e =>
    split
    ·next g =>
     refine List.Pairwise.cons (fun x hx => ?_) h2
     rcases List.mem_cons.1 hx with rfl | hx
     ·exact g
     ·exact ahead_trans g (h3.1 x hx)
    ·next g =>
     have s : sameP a b := by
      rcases ahead_tri a b with k | k | k
      ·exact absurd k g
      ·exact k
      ·exact absurd k e
     exact List.Pairwise.cons (fun x hx => by rw [ahead_cong1 x s]; exact h3.1 x hx) h3.2
theorem get_put (a : Row) (w : Tx) (f : Bool) (y : Int) : ∀ (l : List Row), Ok l → getV (put a l) w f y = if hit w f y a = true then a else getV l w f y
 | [], _ => by simp [put, getV]
 | b :: l, ⟨h1, h2⟩ => by
  have h3 := List.pairwise_cons.1 h2
  have hl : Ok l := ⟨fun x hx => h1 x (List.mem_cons_of_mem _ hx), h3.2⟩
  have hp := get_put a w f y l hl
  unfold put
  split
  ·next e =>
   unfold getV
   by_cases hb : hit w f y b = true
   ·rw [if_pos hb, if_pos hb, if_neg ?_]
    intro ha
    have s : sameP b a := by
     have x := (hit_iff _ _ _ _).1 hb
     have z := (hit_iff _ _ _ _).1 ha
     exact ⟨x.1.trans z.1.symm, x.2.1.trans z.2.1.symm, x.2.2.trans z.2.2.symm⟩
    rw [ahead_irr s] at e; simp at e
   ·rw [if_neg hb, if_neg hb]; exact hp
  ·next e =>
   split
   ·simp only [getV]
   ·next g =>
    have s : sameP a b := by
     rcases ahead_tri a b with k | k | k
     ·exact absurd k g
     ·exact k
     ·exact absurd k e
    have hh : hit w f y b = hit w f y a := by simp [hit, s.1, s.2.1, s.2.2]
    simp only [getV, hh]
    by_cases ha : hit w f y a = true
    ·simp only [if_pos ha]
    ·simp only [if_neg ha]
def addE (l : List Row) (w : Tx) (f : Bool) (y d o : Int) : Int :=
 if Ce.addE (getV l w f y).de d = 0 then (if Ce.addE (getV l w f y).oo o = 0 then (if d ≤ o then 0 else 3) else Ce.addE (getV l w f y).oo o) else Ce.addE (getV l w f y).de d
def rowN (l : List Row) (w : Tx) (f : Bool) (y d o : Int) : Row := ⟨w, f, y, (getV l w f y).de + d, (getV l w f y).oo + o⟩
def addV (l : List Row) (w : Tx) (f : Bool) (y d o : Int) : List Row :=
 if addE l w f y d o = 0 then (if (getV l w f y).oo + o = 0 then l else put (rowN l w f y d o) l) else []
theorem ce_add (a b : Int) : Ce.addE a b = 0 ↔ (0 ≤ a ∧ a ≤ 10000000000000) ∧ (0 ≤ b ∧ b ≤ 10000000000000) ∧ a + b ≤ 10000000000000 := by
 unfold Ce.addE
 by_cases h : Ce.good a = true ∧ Ce.good b = true
 ·rw [if_pos h]
  have h1 := (Ce.good_iff a).1 h.1
  have h2 := (Ce.good_iff b).1 h.2
  by_cases h3 : Ce.good (a + b) = true
  ·rw [if_pos h3]
   have := (Ce.good_iff (a + b)).1 h3
   simp; omega
  ·rw [if_neg h3]
   rw [Ce.good_iff] at h3
   simp; omega
 ·rw [if_neg h]
  rw [Ce.good_iff, Ce.good_iff] at h
  simp; omega
theorem add_zero {l : List Row} {w : Tx} {f : Bool} {y d o : Int} (h : addE l w f y d o = 0) :
  (0 ≤ (getV l w f y).de ∧ 0 ≤ d ∧ (getV l w f y).de + d ≤ 10000000000000) ∧ (0 ≤ (getV l w f y).oo ∧ 0 ≤ o ∧ (getV l w f y).oo + o ≤ 10000000000000) ∧ d ≤ o := by
 unfold addE at h
 by_cases h1 : Ce.addE (getV l w f y).de d = 0
 ·rw [if_pos h1] at h
  by_cases h2 : Ce.addE (getV l w f y).oo o = 0
  ·rw [if_pos h2] at h
   by_cases h3 : d ≤ o
   ·have k1 := (ce_add _ _).1 h1
    have k2 := (ce_add _ _).1 h2
    omega
   ·rw [if_neg h3] at h; simp at h
  ·rw [if_neg h2] at h; exact absurd h h2
 ·rw [if_neg h1] at h; exact absurd h h1
theorem add_ok {l : List Row} (hl : Ok l) {w : Tx} {f : Bool} {y d o : Int} (h : addE l w f y d o = 0) : Ok (addV l w f y d o) := by
 have k := add_zero h
 have g := get_sound hl w f y
 unfold addV
 rw [if_pos h]
 split
 ·exact hl
 ·refine put_ok _ ?_ l hl
  rw [one_iff]
  simp only [rowN]
  omega
theorem get_add {l : List Row} (hl : Ok l) {w : Tx} {f : Bool} {y d o : Int} (h : addE l w f y d o = 0) (w' : Tx) (f' : Bool) (y' : Int) :
  getV (addV l w f y d o) w' f' y' = if w = w' ∧ f = f' ∧ y = y' then rowN l w f y d o else getV l w' f' y' := by
 have k := add_zero h
 have g := get_sound hl w f y
 unfold addV
 rw [if_pos h]
 by_cases h0 : (getV l w f y).oo + o = 0
 ·rw [if_pos h0]
  by_cases hk : w = w' ∧ f = f' ∧ y = y'
  ·rw [if_pos hk]
   obtain ⟨rfl, rfl, rfl⟩ := hk
   have z := (hit_iff _ _ _ _).1 (get_hit l w f y)
   have e1 : (getV l w f y).de + d = (getV l w f y).de := by omega
   have e2 : (getV l w f y).oo + o = (getV l w f y).oo := by omega
   unfold rowN
   rw [e1, e2]
   generalize getV l w f y = r at *
   obtain ⟨a, b, c, d, e⟩ := r
   obtain ⟨z1, z2, z3⟩ := z
   simp only at z1 z2 z3
   subst z1; subst z2; subst z3
   rfl
  ·rw [if_neg hk]
 ·rw [if_neg h0, get_put _ _ _ _ _ hl]
  by_cases hk : w = w' ∧ f = f' ∧ y = y'
  ·rw [if_pos hk, if_pos ((hit_iff _ _ _ _).2 hk)]
  ·rw [if_neg hk, if_neg (fun e => hk ((hit_iff _ _ _ _).1 e))]
theorem add_other {l : List Row} (hl : Ok l) {w : Tx} {f : Bool} {y d o : Int} (h : addE l w f y d o = 0) (w' : Tx) (f' : Bool) (y' : Int) (hn : ¬ (w = w' ∧ f = f' ∧ y = y')) :
  getV (addV l w f y d o) w' f' y' = getV l w' f' y' := by
 rw [get_add hl h, if_neg hn]
def bothE (l : List Row) (m f : Tx) (y : Int) (o : Sh.Ot) : Int :=
 if addE l m false y o.de (Sh.member o) = 0 then addE (addV l m false y o.de (Sh.member o)) f true y o.de (Sh.member o) else addE l m false y o.de (Sh.member o)
def bothV (l : List Row) (m f : Tx) (y : Int) (o : Sh.Ot) : List Row :=
 if addE l m false y o.de (Sh.member o) = 0 then addV (addV l m false y o.de (Sh.member o)) f true y o.de (Sh.member o) else []
theorem both_ok {l : List Row} (hl : Ok l) {m f : Tx} {y : Int} {o : Sh.Ot} (h : bothE l m f y o = 0) : Ok (bothV l m f y o) := by
 unfold bothE at h
 unfold bothV
 by_cases h1 : addE l m false y o.de (Sh.member o) = 0
 ·rw [if_pos h1] at h ⊢; exact add_ok (add_ok hl h1) h
 ·rw [if_neg h1] at h; exact absurd h h1
theorem get_both {l : List Row} (hl : Ok l) {m f : Tx} {y : Int} {o : Sh.Ot} (h : bothE l m f y o = 0) (w : Tx) (g : Bool) (z : Int) :
  getV (bothV l m f y o) w g z = if f = w ∧ true = g ∧ y = z then rowN l f true y o.de (Sh.member o) else (if m = w ∧ false = g ∧ y = z then rowN l m false y o.de (Sh.member o) else getV l w g z) := by
 unfold bothE at h
 unfold bothV
 by_cases h1 : addE l m false y o.de (Sh.member o) = 0
 ·rw [if_pos h1] at h ⊢
  rw [get_add (add_ok hl h1) h, get_add hl h1]
  have : rowN (addV l m false y o.de (Sh.member o)) f true y o.de (Sh.member o) = rowN l f true y o.de (Sh.member o) := by
   unfold rowN; rw [add_other hl h1 f true y (by simp)]
  rw [this]
 ·rw [if_neg h1] at h; exact absurd h h1
def left (most had : Int) : Int := if most ≤ had then 0 else most - had
def roomV (mode ind fam hi hf : Int) : Int := if mode = 0 then Sh.least (left fam hf) (left ind hi) else left fam hf
theorem left_in (a b : Int) (h : 0 ≤ a) (hb : 0 ≤ b) : 0 ≤ left a b ∧ left a b ≤ a := by unfold left; split <;> omega
theorem room_in (mode ind fam hi hf : Int) (h1 : 0 ≤ ind) (h2 : 0 ≤ fam) (h3 : 0 ≤ hi) (h4 : 0 ≤ hf) : 0 ≤ roomV mode ind fam hi hf ∧ roomV mode ind fam hi hf ≤ fam ∧ roomV mode ind fam hi hf ≤ left fam hf ∧ (mode = 0 → roomV mode ind fam hi hf ≤ left ind hi) := by
 have a := left_in fam hf h2 h4
 have b := left_in ind hi h1 h3
 unfold roomV Sh.least
 split
 ·split <;> omega
 ·omega
end Go.Proofs.YtfoooldkmokjpaaGreatDoor.Ac
end
