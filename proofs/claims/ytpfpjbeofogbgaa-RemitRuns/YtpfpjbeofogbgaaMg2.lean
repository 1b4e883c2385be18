/-
  Texts put together (merge.py): HMath, BMath.
-/
import Derived.Test.YtpfpjbeofogbgaaMg1
/-
  What a member bears, what becomes of a service: what layer 15's calls answer, over plain numbers, and what follows.
-/
section
set_option linter.unusedSimpArgs false
namespace Go.Proofs.Ytpfpjbeofogbgaa.Sh

def least (a b : Int) : Int := if b < a then b else a

theorem least_le1 (a b : Int) : least a b ≤ a := by unfold least; split <;> omega
theorem least_le2 (a b : Int) : least a b ≤ b := by unfold least; split <;> omega
theorem least_or (a b : Int) : least a b = a ∨ least a b = b := by unfold least; split <;> simp
theorem least_eq (a b : Int) : (a ≤ b ∧ least a b = a) ∨ (b < a ∧ least a b = b) := by unfold least; split <;> omega

/-- A part of an amount is none below nothing, and no more than the amount. -/
theorem part_in (a p : Int) (h : 0 ≤ a) (hp : 0 ≤ p) (hq : p ≤ 10000) : 0 ≤ Ce.partV a p ∧ Ce.partV a p ≤ a := by
  have e1 : 0 ≤ a * p := Int.mul_nonneg h hp
  have e2 : a * p ≤ a * 10000 := Int.mul_le_mul_of_nonneg_left hq h
  unfold Ce.partV Ce.scaleV
  split
  · split <;> omega
  · omega
theorem part_none (a : Int) : Ce.partV a 0 = 0 := by
  unfold Ce.partV Ce.scaleV
  simp

/-! ### 15.1 -/
def bearB (al cp cn de oo : Int) : Bool := (Ce.good al && (Ce.good cp && (Ce.good de && Ce.good oo))) && (decide (0 ≤ cn) && decide (cn ≤ 10000))
def d0 (al : Int) (dd : Bool) (de net : Int) : Int := if dd = true ∧ net = 0 then least de al else 0
def c0 (al : Int) (dd : Bool) (cp de net : Int) : Int := least cp (al - d0 al dd de net)
def k0 (al : Int) (dd : Bool) (cp cn de net : Int) : Int := Ce.partV (al - d0 al dd de net - c0 al dd cp de net) cn
def bD (al : Int) (dd : Bool) (cp cn de oo net : Int) : Int := if bearB al cp cn de oo = true then (if net = 0 then least (d0 al dd de net) oo else d0 al dd de net) else 0
def bC (al : Int) (dd : Bool) (cp cn de oo net : Int) : Int := if bearB al cp cn de oo = true then (if net = 0 then least (c0 al dd cp de net) (oo - bD al dd cp cn de oo net) else c0 al dd cp de net) else 0
def bK (al : Int) (dd : Bool) (cp cn de oo net : Int) : Int := if bearB al cp cn de oo = true then (if net = 0 then least (k0 al dd cp cn de net) (oo - bD al dd cp cn de oo net - bC al dd cp cn de oo net) else k0 al dd cp cn de net) else 0
def bE (al cp cn de oo : Int) : Int := if bearB al cp cn de oo = true then 0 else 1

theorem bear_iff (al cp cn de oo : Int) : bearB al cp cn de oo = true ↔ (0 ≤ al ∧ al ≤ 10000000000000) ∧ (0 ≤ cp ∧ cp ≤ 10000000000000) ∧ (0 ≤ de ∧ de ≤ 10000000000000) ∧ (0 ≤ oo ∧ oo ≤ 10000000000000) ∧ 0 ≤ cn ∧ cn ≤ 10000 := by
  simp only [bearB, Bool.and_eq_true, decide_eq_true_eq, Ce.good_iff]
  constructor
  · rintro ⟨⟨a, b, c, d⟩, e, f⟩; exact ⟨a, b, c, d, e, f⟩
  · rintro ⟨a, b, c, d, e, f⟩; exact ⟨⟨a, b, c, d⟩, e, f⟩

theorem bear_err (al : Int) (dd : Bool) (cp cn de oo net : Int) (h : bE al cp cn de oo ≠ 0) : bD al dd cp cn de oo net = 0 ∧ bC al dd cp cn de oo net = 0 ∧ bK al dd cp cn de oo net = 0 := by
  have hb : ¬ bearB al cp cn de oo = true := by intro hb; exact h (by simp [bE, hb])
  simp [bD, bC, bK, hb]

/-- What is borne ahead of any limit: none below nothing, all together no more than is allowed. -/
theorem raw_in (al : Int) (dd : Bool) (cp cn de net : Int) (ha : 0 ≤ al) (hc : 0 ≤ cp) (hd : 0 ≤ de) (hn : 0 ≤ cn) (hm : cn ≤ 10000) :
    0 ≤ d0 al dd de net ∧ d0 al dd de net ≤ de ∧ d0 al dd de net ≤ al ∧ 0 ≤ c0 al dd cp de net ∧ c0 al dd cp de net ≤ cp ∧ 0 ≤ k0 al dd cp cn de net ∧ d0 al dd de net + c0 al dd cp de net + k0 al dd cp cn de net ≤ al := by
  have h1 : 0 ≤ d0 al dd de net ∧ d0 al dd de net ≤ de ∧ d0 al dd de net ≤ al := by
    unfold d0; split
    · rcases least_eq de al with ⟨x, y⟩ | ⟨x, y⟩ <;> rw [y] <;> omega
    · omega
  have h2 : 0 ≤ c0 al dd cp de net ∧ c0 al dd cp de net ≤ cp ∧ c0 al dd cp de net ≤ al - d0 al dd de net := by
    unfold c0
    rcases least_eq cp (al - d0 al dd de net) with ⟨x, y⟩ | ⟨x, y⟩ <;> rw [y] <;> omega
  have h3 := part_in (al - d0 al dd de net - c0 al dd cp de net) cn (by omega) hn hm
  have h4 : k0 al dd cp cn de net = Ce.partV (al - d0 al dd de net - c0 al dd cp de net) cn := rfl
  rw [← h4] at h3
  omega

/-- In the network: within the limits. -/
theorem bear_limits (al : Int) (dd : Bool) (cp cn de oo : Int) (h : bE al cp cn de oo = 0) :
    0 ≤ bD al dd cp cn de oo 0 ∧ 0 ≤ bC al dd cp cn de oo 0 ∧ 0 ≤ bK al dd cp cn de oo 0 ∧ bD al dd cp cn de oo 0 ≤ de ∧
    bD al dd cp cn de oo 0 + bC al dd cp cn de oo 0 + bK al dd cp cn de oo 0 ≤ oo ∧ bD al dd cp cn de oo 0 + bC al dd cp cn de oo 0 + bK al dd cp cn de oo 0 ≤ al := by
  have hb : bearB al cp cn de oo = true := by
    cases e : bearB al cp cn de oo with
    | true => rfl
    | false => simp [bE, e] at h
  obtain ⟨⟨a1, a2⟩, ⟨c1, c2⟩, ⟨e1, e2⟩, ⟨o1, o2⟩, n1, n2⟩ := (bear_iff al cp cn de oo).mp hb
  have hr := raw_in al dd cp cn de 0 a1 c1 e1 n1 n2
  have x1 : bD al dd cp cn de oo 0 = least (d0 al dd de 0) oo := by simp [bD, hb]
  have x2 : bC al dd cp cn de oo 0 = least (c0 al dd cp de 0) (oo - bD al dd cp cn de oo 0) := by simp only [bC, hb, if_true]
  have x3 : bK al dd cp cn de oo 0 = least (k0 al dd cp cn de 0) (oo - bD al dd cp cn de oo 0 - bC al dd cp cn de oo 0) := by simp only [bK, hb, if_true]
  rcases least_eq (d0 al dd de 0) oo with ⟨p1, q1⟩ | ⟨p1, q1⟩ <;>
  rcases least_eq (c0 al dd cp de 0) (oo - bD al dd cp cn de oo 0) with ⟨p2, q2⟩ | ⟨p2, q2⟩ <;>
  rcases least_eq (k0 al dd cp cn de 0) (oo - bD al dd cp cn de oo 0 - bC al dd cp cn de oo 0) with ⟨p3, q3⟩ | ⟨p3, q3⟩ <;>
  rw [q1] at x1 <;> rw [q2] at x2 <;> rw [q3] at x3 <;> omega

/-- With more left of the limits a member bears no less. -/
theorem bear_more (al : Int) (dd : Bool) (cp cn de oo m : Int) (hm : 0 ≤ m) (ho : 0 ≤ oo) (hx : oo ≤ 10000000000000 - m) :
    bE al cp cn de oo = bE al cp cn de (oo + m) ∧ (bE al cp cn de oo = 0 → bD al dd cp cn de oo 0 ≤ bD al dd cp cn de (oo + m) 0 ∧ bC al dd cp cn de oo 0 ≤ bC al dd cp cn de (oo + m) 0 ∧ bK al dd cp cn de oo 0 ≤ bK al dd cp cn de (oo + m) 0) := by
  have hbb : bearB al cp cn de oo = bearB al cp cn de (oo + m) := by
    rw [Bool.eq_iff_iff, bear_iff, bear_iff]
    constructor <;> (rintro ⟨a, b, c, d, e⟩; exact ⟨a, b, c, ⟨by omega, by omega⟩, e⟩)
  refine ⟨by simp [bE, hbb], ?_⟩
  intro h
  have hb : bearB al cp cn de oo = true := by
    cases e : bearB al cp cn de oo with
    | true => rfl
    | false => simp [bE, e] at h
  have hb2 : bearB al cp cn de (oo + m) = true := hbb ▸ hb
  obtain ⟨⟨a1, a2⟩, ⟨c1, c2⟩, ⟨e1, e2⟩, ⟨o1, o2⟩, n1, n2⟩ := (bear_iff al cp cn de oo).mp hb
  have hr := raw_in al dd cp cn de 0 a1 c1 e1 n1 n2
  have x1 : bD al dd cp cn de oo 0 = least (d0 al dd de 0) oo := by simp [bD, hb]
  have x2 : bC al dd cp cn de oo 0 = least (c0 al dd cp de 0) (oo - bD al dd cp cn de oo 0) := by simp only [bC, hb, if_true]
  have x3 : bK al dd cp cn de oo 0 = least (k0 al dd cp cn de 0) (oo - bD al dd cp cn de oo 0 - bC al dd cp cn de oo 0) := by simp only [bK, hb, if_true]
  have y1 : bD al dd cp cn de (oo + m) 0 = least (d0 al dd de 0) (oo + m) := by simp [bD, hb2]
  have y2 : bC al dd cp cn de (oo + m) 0 = least (c0 al dd cp de 0) (oo + m - bD al dd cp cn de (oo + m) 0) := by simp only [bC, hb2, if_true]
  have y3 : bK al dd cp cn de (oo + m) 0 = least (k0 al dd cp cn de 0) (oo + m - bD al dd cp cn de (oo + m) 0 - bC al dd cp cn de (oo + m) 0) := by simp only [bK, hb2, if_true]
  generalize bD al dd cp cn de oo 0 = X1 at *
  generalize bC al dd cp cn de oo 0 = X2 at *
  generalize bK al dd cp cn de oo 0 = X3 at *
  generalize bD al dd cp cn de (oo + m) 0 = Y1 at *
  generalize bC al dd cp cn de (oo + m) 0 = Y2 at *
  generalize bK al dd cp cn de (oo + m) 0 = Y3 at *
  generalize d0 al dd de 0 = D at *
  generalize c0 al dd cp de 0 = C at *
  generalize k0 al dd cp cn de 0 = K at *
  unfold least at x1 x2 x3 y1 y2 y3
  have s1 : X1 ≤ Y1 := by split at x1 <;> split at y1 <;> omega
  have s2 : X2 ≤ Y2 := by split at x1 <;> split at y1 <;> split at x2 <;> split at y2 <;> omega
  refine ⟨s1, s2, ?_⟩
  split at x1 <;> split at y1 <;> split at x2 <;> split at y2 <;> split at x3 <;> split at y3 <;> omega

/-- Where nothing is borne by the benefit, nothing is. -/
theorem bear_free (al de oo net : Int) : bD al false 0 0 de oo net = 0 ∧ bC al false 0 0 de oo net = 0 ∧ bK al false 0 0 de oo net = 0 := by
  cases hb : bearB al 0 0 de oo with
  | false => simp [bD, bC, bK, hb]
  | true =>
    obtain ⟨⟨a1, a2⟩, _, ⟨e1, e2⟩, ⟨o1, o2⟩, _⟩ := (bear_iff al 0 0 de oo).mp hb
    have z1 : d0 al false de net = 0 := by simp [d0]
    have z2 : c0 al false 0 de net = 0 := by unfold c0; rw [z1]; unfold least; split <;> omega
    have z3 : k0 al false 0 0 de net = 0 := by unfold k0; exact part_none _
    have y1 : bD al false 0 0 de oo net = 0 := by
      unfold bD; rw [if_pos hb, z1]; split
      · unfold least; split <;> omega
      · rfl
    have y2 : bC al false 0 0 de oo net = 0 := by
      unfold bC; rw [if_pos hb, z2, y1]; split
      · unfold least; split <;> omega
      · rfl
    have y3 : bK al false 0 0 de oo net = 0 := by
      unfold bK; rw [if_pos hb, z3, y1, y2]; split
      · unfold least; split <;> omega
      · rfl
    exact ⟨y1, y2, y3⟩

/-- Out of the network limits play no part. -/
theorem bear_out (al : Int) (dd : Bool) (cp cn de oo net : Int) (hn : net ≠ 0) (h : bE al cp cn de oo = 0) :
    bE al cp cn 0 0 = 0 ∧ bD al dd cp cn 0 0 net = bD al dd cp cn de oo net ∧ bC al dd cp cn 0 0 net = bC al dd cp cn de oo net ∧ bK al dd cp cn 0 0 net = bK al dd cp cn de oo net ∧ bD al dd cp cn 0 0 net = 0 := by
  have hb : bearB al cp cn de oo = true := by
    cases e : bearB al cp cn de oo with
    | true => rfl
    | false => simp [bE, e] at h
  have hb2 : bearB al cp cn 0 0 = true := by
    obtain ⟨a, c, _, _, n⟩ := (bear_iff al cp cn de oo).mp hb
    exact (bear_iff al cp cn 0 0).mpr ⟨a, c, by omega, by omega, n⟩
  have z (e : Int) : d0 al dd e net = 0 := by simp [d0, hn]
  simp [bE, bD, bC, bK, hb, hb2, hn, z, c0, k0]

/-! ### 15.2, 15.3 -/
structure Ot where
  al : Int
  de : Int
  cp : Int
  cn : Int
  plan : Int
  wr : Int
  pr : Int
  deny : Int
def ot0 : Ot := ⟨0, 0, 0, 0, 0, 0, 0, 0⟩
def member (o : Ot) : Int := o.de + o.cp + o.cn

def sixB (bi al pr de cp cn : Int) : Bool := Ce.good bi && (Ce.good al && (Ce.good pr && (Ce.good de && (Ce.good cp && Ce.good cn))))
def fitB (bi al pr de cp cn : Int) : Bool := decide (al ≤ bi) && (decide (pr ≤ bi) && decide (de + cp + cn ≤ al))
def rest (al pr : Int) : Int := if pr < al then al - pr else 0
def sP (al pr de cp cn : Int) : Int := least (al - de - cp - cn) (rest al pr)
def sD (al pr de cp cn : Int) : Int := least de (rest al pr - sP al pr de cp cn)
def sC (al pr de cp cn : Int) : Int := least cp (rest al pr - sP al pr de cp cn - sD al pr de cp cn)
def sK (al pr de cp cn : Int) : Int := least cn (rest al pr - sP al pr de cp cn - sD al pr de cp cn - sC al pr de cp cn)
def setE (bi al pr de cp cn : Int) : Int := if sixB bi al pr de cp cn = true then (if fitB bi al pr de cp cn = true then 0 else 3) else 1
def setV (bi al pr de cp cn : Int) : Ot := if setE bi al pr de cp cn = 0 then ⟨al, sD al pr de cp cn, sC al pr de cp cn, sK al pr de cp cn, sP al pr de cp cn, bi - pr - sP al pr de cp cn - sD al pr de cp cn - sC al pr de cp cn - sK al pr de cp cn, pr, 0⟩ else ot0

theorem set_ok {bi al pr de cp cn : Int} (h : setE bi al pr de cp cn = 0) :
    (0 ≤ bi ∧ bi ≤ 10000000000000) ∧ (0 ≤ al ∧ al ≤ 10000000000000) ∧ (0 ≤ pr ∧ pr ≤ 10000000000000) ∧ (0 ≤ de ∧ de ≤ 10000000000000) ∧ (0 ≤ cp ∧ cp ≤ 10000000000000) ∧ (0 ≤ cn ∧ cn ≤ 10000000000000) ∧ al ≤ bi ∧ pr ≤ bi ∧ de + cp + cn ≤ al := by
  unfold setE at h
  split at h
  case isFalse => simp at h
  case isTrue h1 =>
    split at h
    case isFalse => simp at h
    case isTrue h2 =>
      simp only [sixB, Bool.and_eq_true, Ce.good_iff] at h1
      simp only [fitB, Bool.and_eq_true, decide_eq_true_eq] at h2
      obtain ⟨a, b, c, d, e, f⟩ := h1
      obtain ⟨x, y, z⟩ := h2
      exact ⟨a, b, c, d, e, f, x, y, z⟩

theorem set_parts {bi al pr de cp cn : Int} (h : setE bi al pr de cp cn = 0) :
    0 ≤ rest al pr ∧ rest al pr ≤ al ∧ rest al pr + pr ≤ bi ∧ 0 ≤ sP al pr de cp cn ∧ 0 ≤ sD al pr de cp cn ∧ 0 ≤ sC al pr de cp cn ∧ 0 ≤ sK al pr de cp cn ∧
    sD al pr de cp cn ≤ de ∧ sC al pr de cp cn ≤ cp ∧ sK al pr de cp cn ≤ cn ∧
    sP al pr de cp cn + (sD al pr de cp cn + sC al pr de cp cn + sK al pr de cp cn) = rest al pr := by
  obtain ⟨h1, h2, h3, h4, h5, h6, h7, h8, h9⟩ := set_ok h
  have r : 0 ≤ rest al pr ∧ rest al pr ≤ al ∧ rest al pr + pr ≤ bi := by unfold rest; split <;> omega
  have x0 : sP al pr de cp cn = least (al - de - cp - cn) (rest al pr) := rfl
  have x1 : sD al pr de cp cn = least de (rest al pr - sP al pr de cp cn) := rfl
  have x2 : sC al pr de cp cn = least cp (rest al pr - sP al pr de cp cn - sD al pr de cp cn) := rfl
  have x3 : sK al pr de cp cn = least cn (rest al pr - sP al pr de cp cn - sD al pr de cp cn - sC al pr de cp cn) := rfl
  generalize sP al pr de cp cn = P at *
  generalize sD al pr de cp cn = D at *
  generalize sC al pr de cp cn = C at *
  generalize sK al pr de cp cn = K at *
  generalize rest al pr = R at *
  unfold least at x0 x1 x2 x3
  refine ⟨r.1, r.2.1, r.2.2, ?_⟩
  split at x0 <;> split at x1 <;> split at x2 <;> split at x3 <;> omega

def balB (bi : Int) (o : Ot) : Bool := (decide (0 ≤ o.plan) && (decide (0 ≤ o.wr) && (decide (0 ≤ o.pr) && (decide (0 ≤ o.de) && (decide (0 ≤ o.cp) && decide (0 ≤ o.cn)))))) && (decide (o.plan + o.wr + o.pr + o.de + o.cp + o.cn = bi) && (decide (o.de + o.cp + o.cn ≤ o.al) && decide (o.al ≤ bi)))

/-- All of it goes somewhere. -/
theorem set_bal (bi al pr de cp cn : Int) (h : setE bi al pr de cp cn = 0) : balB bi (setV bi al pr de cp cn) = true := by
  have hs := set_parts h
  have ho := set_ok h
  simp only [setV, if_pos h, balB, Bool.and_eq_true, decide_eq_true_eq]
  omega

def refE (bi pr why : Int) : Int := if why ≠ 0 ∧ Ce.good bi = true ∧ Ce.good pr = true then (if pr ≤ bi then 0 else 3) else 1
def refV (bi pr why : Int) : Ot := if refE bi pr why = 0 then ⟨0, 0, 0, 0, 0, bi - pr, pr, why⟩ else ot0

theorem ref_bal (bi pr why : Int) (h : refE bi pr why = 0) : balB bi (refV bi pr why) = true ∧ member (refV bi pr why) = 0 ∧ (refV bi pr why).plan = 0 := by
  have hh : (0 ≤ bi ∧ 0 ≤ pr) ∧ pr ≤ bi := by
    unfold refE at h
    split at h
    case isFalse => simp at h
    case isTrue h1 =>
      split at h
      case isFalse => simp at h
      case isTrue h2 => exact ⟨⟨((Ce.good_iff _).mp h1.2.1).1, ((Ce.good_iff _).mp h1.2.2).1⟩, h2⟩
  simp only [refV, if_pos h, balB, member, Bool.and_eq_true, decide_eq_true_eq]
  refine ⟨⟨⟨?_, ?_, ?_, ?_, ?_, ?_⟩, ?_, ?_, ?_⟩, ?_, ?_⟩ <;> first | trivial | omega

/-- Another payer's part lessens the plan's and the member's together; the plan's last. -/
theorem set_others (bi al pr de cp cn : Int) (h : setE bi al pr de cp cn = 0) :
    (setV bi al pr de cp cn).plan + member (setV bi al pr de cp cn) = (if al - pr < 0 then 0 else al - pr) ∧
    (setE bi al 0 de cp cn = 0 → (setV bi al pr de cp cn).plan ≤ (setV bi al 0 de cp cn).plan ∧ member (setV bi al pr de cp cn) ≤ member (setV bi al 0 de cp cn) ∧
      ((setV bi al pr de cp cn).plan = (setV bi al 0 de cp cn).plan ∨ member (setV bi al pr de cp cn) = 0)) := by
  have hs := set_parts h
  have ho := set_ok h
  have r1 : rest al pr = if al - pr < 0 then 0 else al - pr := by unfold rest; split <;> split <;> omega
  refine ⟨?_, ?_⟩
  · simp only [setV, if_pos h, member]; rw [← r1]; omega
  · intro g
    have gs := set_parts g
    have r2 : rest al 0 = al := by unfold rest; split <;> omega
    have p1 : sP al pr de cp cn = least (al - de - cp - cn) (rest al pr) := rfl
    have p2 : sP al 0 de cp cn = least (al - de - cp - cn) (rest al 0) := rfl
    rw [r2] at p2 gs
    simp only [setV, if_pos h, if_pos g, member]
    unfold least at p1 p2
    split at p1 <;> split at p2 <;> omega

end Go.Proofs.Ytpfpjbeofogbgaa.Sh
end

/-
  Books: which claims stand, in which order, which were taken back: what layer 18's calls answer, over plain lists, and what follows.
-/
section
set_option linter.unusedSimpArgs false
namespace Go.Proofs.Ytpfpjbeofogbgaa.Bk
open Cm (Cl cl0)
open Sh (Ot)

structure En where
  cl : Cl
  tb : Int
  st : Int
  outs : List Ot
def en0 : En := ⟨cl0, 0, 0, []⟩

/-! ### 18.1 to 18.4 -/
def find : List En → Tx → Option Nat
  | [], _ => none
  | e :: l, id => if e.cl.id = id then some 0 else (find l id).map (· + 1)
def findV (l : List En) (id : Tx) : Int := match find l id with
  | none => -1
  | some k => k
def linkE (l : List En) (c : Cl) : Int := match find l c.ref with
  | none => 13
  | some i => if (l.getD i en0).st = 0 then (if (l.getD i en0).cl.mem = c.mem ∧ (l.getD i en0).cl.fam = c.fam then 0 else 9) else 14
def refE (l : List En) (c : Cl) : Int := if c.does = 1 then 0 else linkE l c
def admE (l : List En) (c : Cl) (most : Int) : Int :=
  if Cm.checkE c = 0 then (if find l c.id = none then (if refE l c = 0 then (if (l.length : Int) < most then 0 else 16) else refE l c) else 12) else Cm.checkE c
def gone (s : Int) (e : En) : En := ⟨e.cl, e.tb, s, []⟩
def putR (c : Cl) : List En → List En
  | [] => []
  | e :: l => if e.cl.id = c.ref then gone 2 e :: ⟨c, e.tb, 0, []⟩ :: l else e :: putR c l
def putD (c : Cl) : List En → List En
  | [] => []
  | e :: l => if e.cl.id = c.ref then gone 1 e :: l else e :: putD c l
def putL (l : List En) (c : Cl) (t : Int) : List En := if c.does = 7 then putR c l else (if c.does = 8 then putD c l ++ [⟨c, t, 1, []⟩] else l ++ [⟨c, t, 0, []⟩])
def putV (l : List En) (c : Cl) (t most : Int) : List En := if admE l c most = 0 then putL l c t else []
def putA (l : List En) (c : Cl) (most : Int) : Int := if admE l c most = 0 then (if c.does = 1 then (l.length : Int) else findV l c.ref) else 0
def stand (l : List En) : List En := l.filter fun e => decide (e.st = 0)

theorem find_none : ∀ (l : List En) (id : Tx), find l id = none ↔ ∀ e ∈ l, e.cl.id ≠ id
  | [], id => by simp [find]
  | e :: l, id => by
    unfold find
    by_cases h : e.cl.id = id
    · rw [if_pos h]; simp [h]
    · rw [if_neg h]
      simp only [Option.map_eq_none_iff, find_none l id, List.mem_cons, forall_eq_or_imp]
      exact ⟨fun k => ⟨h, k⟩, fun k => k.2⟩
theorem find_some : ∀ (l : List En) (id : Tx) (k : Nat), find l id = some k → ∃ e, l[k]? = some e ∧ e.cl.id = id ∧ ∀ j e', j < k → l[j]? = some e' → e'.cl.id ≠ id
  | [], id, k, h => by simp [find] at h
  | e :: l, id, k, h => by
    unfold find at h
    by_cases h1 : e.cl.id = id
    · rw [if_pos h1] at h
      simp at h; subst h
      exact ⟨e, rfl, h1, fun j e' hj _ => by omega⟩
    · rw [if_neg h1] at h
      cases hf : find l id with
      | none => rw [hf] at h; simp at h
      | some m =>
        rw [hf] at h; simp at h; subst h
        obtain ⟨x, x1, x2, x3⟩ := find_some l id m hf
        refine ⟨x, x1, x2, fun j e' hj he => ?_⟩
        cases j with
        | zero => simp at he; subst he; exact h1
        | succ j => exact x3 j e' (by omega) (by simpa using he)

theorem adm_ok {l : List En} {c : Cl} {most : Int} (h : admE l c most = 0) : Cm.checkE c = 0 ∧ (∀ e ∈ l, e.cl.id ≠ c.id) ∧ refE l c = 0 ∧ (l.length : Int) < most := by
  unfold admE at h
  by_cases h1 : Cm.checkE c = 0
  · rw [if_pos h1] at h
    by_cases h2 : find l c.id = none
    · rw [if_pos h2] at h
      by_cases h3 : refE l c = 0
      · rw [if_pos h3] at h
        by_cases h4 : (l.length : Int) < most
        · exact ⟨h1, (find_none l c.id).1 h2, h3, h4⟩
        · rw [if_neg h4] at h; simp at h
      · rw [if_neg h3] at h; exact absurd h h3
    · rw [if_neg h2] at h; simp at h
  · rw [if_neg h1] at h; exact absurd h h1
/-- What is named stands, and is the same member's. -/
theorem ref_ok {l : List En} {c : Cl} (h : refE l c = 0) (hd : c.does ≠ 1) : ∃ k e, find l c.ref = some k ∧ l[k]? = some e ∧ e.cl.id = c.ref ∧ e.st = 0 ∧ e.cl.mem = c.mem ∧ e.cl.fam = c.fam := by
  unfold refE linkE at h
  rw [if_neg hd] at h
  cases hf : find l c.ref with
  | none => rw [hf] at h; simp at h
  | some k =>
    obtain ⟨e, e1, e2, _⟩ := find_some l c.ref k hf
    have e3 : l.getD k en0 = e := by simp [List.getD, e1]
    rw [hf] at h
    simp only [e3] at h
    by_cases h1 : e.st = 0
    · rw [if_pos h1] at h
      by_cases h2 : e.cl.mem = c.mem ∧ e.cl.fam = c.fam
      · exact ⟨k, e, rfl, e1, e2, h1, h2.1, h2.2⟩
      · rw [if_neg h2] at h; simp at h
    · rw [if_neg h1] at h; simp at h

/-! ### Lengths, numbers -/
theorem putR_none (c : Cl) : ∀ (l : List En), (∀ e ∈ l, e.cl.id ≠ c.ref) → putR c l = l
  | [], _ => rfl
  | e :: l, h => by
    unfold putR
    rw [if_neg (h e (List.mem_cons_self ..)), putR_none c l (fun x hx => h x (List.mem_cons_of_mem _ hx))]
theorem putD_none (c : Cl) : ∀ (l : List En), (∀ e ∈ l, e.cl.id ≠ c.ref) → putD c l = l
  | [], _ => rfl
  | e :: l, h => by
    unfold putD
    rw [if_neg (h e (List.mem_cons_self ..)), putD_none c l (fun x hx => h x (List.mem_cons_of_mem _ hx))]
theorem putD_len (c : Cl) : ∀ (l : List En), (putD c l).length = l.length
  | [] => rfl
  | e :: l => by
    unfold putD; split
    · simp
    · simp [putD_len c l]
theorem putR_len (c : Cl) : ∀ (l : List En), (∃ e ∈ l, e.cl.id = c.ref) → (putR c l).length = l.length + 1
  | [], h => by obtain ⟨e, he, _⟩ := h; simp at he
  | e :: l, h => by
    unfold putR
    by_cases h1 : e.cl.id = c.ref
    · rw [if_pos h1]; simp
    · rw [if_neg h1]
      have : ∃ e ∈ l, e.cl.id = c.ref := by
        obtain ⟨x, hx, hy⟩ := h
        rcases List.mem_cons.1 hx with rfl | hx
        · exact absurd hy h1
        · exact ⟨x, hx, hy⟩
      simp [putR_len c l this]
theorem putD_ids (c : Cl) : ∀ (l : List En), (putD c l).map (fun e => e.cl.id) = l.map fun e => e.cl.id
  | [] => rfl
  | e :: l => by
    unfold putD; split
    · simp [gone]
    · simp [putD_ids c l]
theorem putR_ids (c : Cl) : ∀ (l : List En), (∃ e ∈ l, e.cl.id = c.ref) → ((putR c l).map fun e => e.cl.id).Perm (c.id :: l.map fun e => e.cl.id)
  | [], h => by obtain ⟨e, he, _⟩ := h; simp at he
  | e :: l, h => by
    unfold putR
    by_cases h1 : e.cl.id = c.ref
    · rw [if_pos h1]; simp only [List.map_cons, gone]; exact List.Perm.swap ..
    · rw [if_neg h1]
      have : ∃ e ∈ l, e.cl.id = c.ref := by
        obtain ⟨x, hx, hy⟩ := h
        rcases List.mem_cons.1 hx with rfl | hx
        · exact absurd hy h1
        · exact ⟨x, hx, hy⟩
      simp only [List.map_cons]
      exact ((putR_ids c l this).cons _).trans (List.Perm.swap ..)
theorem putD_mem (c : Cl) : ∀ (l : List En) (x : En), x ∈ putD c l → x ∈ l ∨ ∃ e ∈ l, e.cl.id = c.ref ∧ x = gone 1 e
  | [], x, h => by simp [putD] at h
  | e :: l, x, h => by
    unfold putD at h
    by_cases h1 : e.cl.id = c.ref
    · rw [if_pos h1] at h
      rcases List.mem_cons.1 h with h | h
      · exact Or.inr ⟨e, List.mem_cons_self .., h1, h⟩
      · exact Or.inl (List.mem_cons_of_mem _ h)
    · rw [if_neg h1] at h
      rcases List.mem_cons.1 h with rfl | h
      · exact Or.inl (List.mem_cons_self ..)
      · rcases putD_mem c l x h with k | ⟨y, y1, y2⟩
        · exact Or.inl (List.mem_cons_of_mem _ k)
        · exact Or.inr ⟨y, List.mem_cons_of_mem _ y1, y2⟩
theorem putR_mem (c : Cl) : ∀ (l : List En) (x : En), x ∈ putR c l → x ∈ l ∨ (∃ e ∈ l, e.cl.id = c.ref ∧ (x = gone 2 e ∨ x = ⟨c, e.tb, 0, []⟩))
  | [], x, h => by simp [putR] at h
  | e :: l, x, h => by
    unfold putR at h
    by_cases h1 : e.cl.id = c.ref
    · rw [if_pos h1] at h
      rcases List.mem_cons.1 h with h | h
      · exact Or.inr ⟨e, List.mem_cons_self .., h1, Or.inl h⟩
      · rcases List.mem_cons.1 h with h | h
        · exact Or.inr ⟨e, List.mem_cons_self .., h1, Or.inr h⟩
        · exact Or.inl (List.mem_cons_of_mem _ h)
    · rw [if_neg h1] at h
      rcases List.mem_cons.1 h with rfl | h
      · exact Or.inl (List.mem_cons_self ..)
      · rcases putR_mem c l x h with k | ⟨y, y1, y2⟩
        · exact Or.inl (List.mem_cons_of_mem _ k)
        · exact Or.inr ⟨y, List.mem_cons_of_mem _ y1, y2⟩
/-- What was in it still is, by its number, and no nearer to standing. -/
theorem putD_keeps (c : Cl) : ∀ (l : List En) (e : En), e ∈ l → ∃ x ∈ putD c l, x.cl = e.cl ∧ (e.st ≠ 0 → x.st ≠ 0)
  | [], e, h => by simp at h
  | a :: l, e, h => by
    unfold putD
    by_cases h1 : a.cl.id = c.ref
    · rw [if_pos h1]
      rcases List.mem_cons.1 h with rfl | h
      · exact ⟨gone 1 e, List.mem_cons_self .., rfl, fun _ => by simp [gone]⟩
      · exact ⟨e, List.mem_cons_of_mem _ h, rfl, id⟩
    · rw [if_neg h1]
      rcases List.mem_cons.1 h with rfl | h
      · exact ⟨e, List.mem_cons_self .., rfl, id⟩
      · obtain ⟨x, x1, x2⟩ := putD_keeps c l e h
        exact ⟨x, List.mem_cons_of_mem _ x1, x2⟩
theorem putR_keeps (c : Cl) : ∀ (l : List En) (e : En), e ∈ l → ∃ x ∈ putR c l, x.cl = e.cl ∧ (e.st ≠ 0 → x.st ≠ 0)
  | [], e, h => by simp at h
  | a :: l, e, h => by
    unfold putR
    by_cases h1 : a.cl.id = c.ref
    · rw [if_pos h1]
      rcases List.mem_cons.1 h with rfl | h
      · exact ⟨gone 2 e, List.mem_cons_self .., rfl, fun _ => by simp [gone]⟩
      · exact ⟨e, List.mem_cons_of_mem _ (List.mem_cons_of_mem _ h), rfl, id⟩
    · rw [if_neg h1]
      rcases List.mem_cons.1 h with rfl | h
      · exact ⟨e, List.mem_cons_self .., rfl, id⟩
      · obtain ⟨x, x1, x2⟩ := putR_keeps c l e h
        exact ⟨x, List.mem_cons_of_mem _ x1, x2⟩
theorem putD_there (c : Cl) : ∀ (l : List En), (∃ e ∈ l, e.cl.id = c.ref) → ∃ x ∈ putD c l, x.cl.id = c.ref ∧ x.st ≠ 0
  | [], h => by obtain ⟨e, he, _⟩ := h; simp at he
  | e :: l, h => by
    unfold putD
    by_cases h1 : e.cl.id = c.ref
    · rw [if_pos h1]; exact ⟨gone 1 e, List.mem_cons_self .., h1, by simp [gone]⟩
    · rw [if_neg h1]
      have : ∃ e ∈ l, e.cl.id = c.ref := by
        obtain ⟨x, hx, hy⟩ := h
        rcases List.mem_cons.1 hx with rfl | hx
        · exact absurd hy h1
        · exact ⟨x, hx, hy⟩
      obtain ⟨x, x1, x2⟩ := putD_there c l this
      exact ⟨x, List.mem_cons_of_mem _ x1, x2⟩
theorem putR_there (c : Cl) : ∀ (l : List En), (∃ e ∈ l, e.cl.id = c.ref) → ∃ x ∈ putR c l, x.cl.id = c.ref ∧ x.st ≠ 0
  | [], h => by obtain ⟨e, he, _⟩ := h; simp at he
  | e :: l, h => by
    unfold putR
    by_cases h1 : e.cl.id = c.ref
    · rw [if_pos h1]; exact ⟨gone 2 e, List.mem_cons_self .., h1, by simp [gone]⟩
    · rw [if_neg h1]
      have : ∃ e ∈ l, e.cl.id = c.ref := by
        obtain ⟨x, hx, hy⟩ := h
        rcases List.mem_cons.1 hx with rfl | hx
        · exact absurd hy h1
        · exact ⟨x, hx, hy⟩
      obtain ⟨x, x1, x2⟩ := putR_there c l this
      exact ⟨x, List.mem_cons_of_mem _ x1, x2⟩

/-! ### Books that claims make -/
def Inv (l : List En) : Prop := (l.map fun e => e.cl.id).Nodup ∧ ∀ e ∈ l, e.cl.does ≠ 1 → ∃ x ∈ l, x.cl.id = e.cl.ref ∧ x.st ≠ 0
theorem inv_nil : Inv [] := ⟨by simp, by simp⟩

theorem does_in {c : Cl} (h : Cm.checkE c = 0) : c.does = 1 ∨ c.does = 7 ∨ c.does = 8 := by
  unfold Cm.checkE at h
  by_cases h0 : Cm.headE c = 0
  · unfold Cm.headE at h0
    split at h0
    · split at h0
      · split at h0
        · split at h0
          · next hd => simpa [Cm.doesB] using hd
          · simp at h0
        · simp at h0
      · simp at h0
    · simp at h0
  · rw [if_neg h0] at h; exact absurd h h0
theorem put_len {l : List En} {c : Cl} {t most : Int} (h : admE l c most = 0) : (putL l c t).length = l.length + 1 := by
  have k := adm_ok h
  unfold putL
  by_cases h7 : c.does = 7
  · rw [if_pos h7]
    obtain ⟨_, e, _, e1, e2, _⟩ := ref_ok k.2.2.1 (by omega)
    exact putR_len c l ⟨e, List.mem_of_getElem? e1, e2⟩
  · rw [if_neg h7]
    by_cases h8 : c.does = 8
    · rw [if_pos h8]; simp [putD_len]
    · rw [if_neg h8]; simp
theorem put_inv {l : List En} {c : Cl} {t most : Int} (hl : Inv l) (h : admE l c most = 0) : Inv (putL l c t) := by
  have k := adm_ok h
  have fresh : c.id ∉ l.map fun e => e.cl.id := by
    intro hm
    obtain ⟨e, e1, e2⟩ := List.mem_map.1 hm
    exact k.2.1 e e1 e2
  obtain ⟨i1, i2⟩ := hl
  unfold putL
  by_cases h7 : c.does = 7
  · rw [if_pos h7]
    obtain ⟨_, e, _, e1, e2, _⟩ := ref_ok k.2.2.1 (by omega)
    have he : ∃ e ∈ l, e.cl.id = c.ref := ⟨e, List.mem_of_getElem? e1, e2⟩
    refine ⟨(putR_ids c l he).nodup_iff.2 (List.nodup_cons.2 ⟨fresh, i1⟩), fun x hx hd => ?_⟩
    have old (y : En) (hy : y ∈ l) (hd : y.cl.does ≠ 1) : ∃ x ∈ putR c l, x.cl.id = y.cl.ref ∧ x.st ≠ 0 := by
      obtain ⟨z, z1, z2, z3⟩ := i2 y hy hd
      obtain ⟨u, u1, u2, u3⟩ := putR_keeps c l z z1
      exact ⟨u, u1, by rw [u2]; exact z2, u3 z3⟩
    rcases putR_mem c l x hx with hx | ⟨y, y1, y2, y3 | y3⟩
    · exact old x hx hd
    · rw [y3] at hd ⊢; exact old y y1 hd
    · rw [y3]; exact putR_there c l he
  · rw [if_neg h7]
    by_cases h8 : c.does = 8
    · rw [if_pos h8]
      obtain ⟨_, e, _, e1, e2, _⟩ := ref_ok k.2.2.1 (by omega)
      have he : ∃ e ∈ l, e.cl.id = c.ref := ⟨e, List.mem_of_getElem? e1, e2⟩
      refine ⟨?_, fun x hx hd => ?_⟩
      · rw [List.map_append, putD_ids]
        rw [List.nodup_append]
        refine ⟨i1, by simp, ?_⟩
        intro a ha b hb
        simp at hb; subst hb
        intro e; subst e; exact fresh ha
      · have old (y : En) (hy : y ∈ l) (hd : y.cl.does ≠ 1) : ∃ x ∈ putD c l ++ [⟨c, t, 1, []⟩], x.cl.id = y.cl.ref ∧ x.st ≠ 0 := by
          obtain ⟨z, z1, z2, z3⟩ := i2 y hy hd
          obtain ⟨u, u1, u2, u3⟩ := putD_keeps c l z z1
          exact ⟨u, List.mem_append_left _ u1, by rw [u2]; exact z2, u3 z3⟩
        rcases List.mem_append.1 hx with hx | hx
        · rcases putD_mem c l x hx with hx | ⟨y, y1, y2, y3⟩
          · exact old x hx hd
          · rw [y3] at hd ⊢; exact old y y1 hd
        · simp at hx; subst hx
          obtain ⟨u, u1, u2⟩ := putD_there c l he
          exact ⟨u, List.mem_append_left _ u1, u2⟩
    · rw [if_neg h8]
      have h1 : c.does = 1 := by have := does_in k.1; omega
      refine ⟨?_, fun x hx hd => ?_⟩
      · rw [List.map_append, List.nodup_append]
        refine ⟨i1, by simp, ?_⟩
        intro a ha b hb
        simp at hb; subst hb
        intro e; subst e; exact fresh ha
      · rcases List.mem_append.1 hx with hx | hx
        · obtain ⟨z, z1, z2⟩ := i2 x hx hd
          exact ⟨z, List.mem_append_left _ z1, z2⟩
        · simp at hx; subst hx; exact absurd h1 hd
def made (most : Int) : Int → List En → List Cl → List En
  | _, b, [] => b
  | i, b, c :: l => made most (i + 1) (if admE b c most = 0 then putL b c i else b) l
theorem made_inv (most : Int) : ∀ (l : List Cl) (i : Int) (b : List En), Inv b → Inv (made most i b l)
  | [], _, _, h => h
  | c :: l, i, b, h => by
    unfold made
    refine made_inv most l _ _ ?_
    split
    · next e => exact put_inv h e
    · exact h
theorem made_len (most : Int) : ∀ (l : List Cl) (i : Int) (b : List En), (b.length : Int) ≤ most → ((made most i b l).length : Int) ≤ most ∧ (made most i b l).length ≤ b.length + l.length
  | [], _, _, h => by simp [made, h]
  | c :: l, i, b, h => by
    unfold made
    split
    · next e =>
      have k := adm_ok e
      have p := put_len (t := i) e
      have := made_len most l (i + 1) (putL b c i) (by omega)
      simp only [List.length_cons]; omega
    · have := made_len most l (i + 1) b h
      simp only [List.length_cons]; omega
/-- In a book that claims make no number stands twice, and none that stands was taken back. -/
theorem inv_once {l : List En} (h : Inv l) (i k : Nat) (a b : En) (hi : l[i]? = some a) (hk : l[k]? = some b) (hn : i ≠ k) :
    a.cl.id ≠ b.cl.id ∧ ¬ (a.st = 0 ∧ b.cl.does ≠ 1 ∧ b.cl.ref = a.cl.id) := by
  have uniq (i k : Nat) (a b : En) (hi : l[i]? = some a) (hk : l[k]? = some b) (e : a.cl.id = b.cl.id) : i = k := by
    have x1 : (l.map fun e => e.cl.id)[i]? = some a.cl.id := by simp [hi]
    have x2 : (l.map fun e => e.cl.id)[k]? = some a.cl.id := by simp [hk, e]
    obtain ⟨l1, _⟩ := List.getElem?_eq_some_iff.1 x1
    exact (List.getElem?_inj l1 h.1).1 (x1.trans x2.symm)
  refine ⟨fun e => hn (uniq i k a b hi hk e), ?_⟩
  rintro ⟨h1, h2, h3⟩
  obtain ⟨x, x1, x2, x3⟩ := h.2 b (List.mem_of_getElem? hk) h2
  obtain ⟨j, hj⟩ := List.getElem?_of_mem x1
  have : i = j := uniq i j a x hi hj (by rw [x2, h3])
  subst this
  rw [hi] at hj
  simp at hj; subst hj
  exact x3 h1

/-! ### What stands -/
theorem stand_app (a b : List En) : stand (a ++ b) = stand a ++ stand b := by simp [stand]
/-- Put and taken back: what stood ahead of it. -/
theorem void_stand (l : List En) (c v : Cl) (t u : Int) (hf : ∀ e ∈ l, e.cl.id ≠ c.id) (h8 : v.does = 8) (hr : v.ref = c.id) :
    stand (putL (l ++ [⟨c, t, 0, []⟩]) v u) = stand l := by
  have e (l : List En) (hf : ∀ e ∈ l, e.cl.id ≠ c.id) : putD v (l ++ [⟨c, t, 0, []⟩]) = l ++ [⟨c, t, 1, []⟩] := by
    induction l with
    | nil => simp [putD, hr, gone]
    | cons a l ih =>
      simp only [List.cons_append, putD]
      rw [if_neg (by rw [hr]; exact hf a (List.mem_cons_self ..)), ih (fun x hx => hf x (List.mem_cons_of_mem _ hx))]
  unfold putL
  rw [if_neg (by omega), if_pos h8, e l hf]
  simp [stand]
theorem find_last : ∀ (l : List En) (c : Cl) (t : Int), (∀ e ∈ l, e.cl.id ≠ c.id) → find (l ++ [⟨c, t, 0, []⟩]) c.id = some l.length
  | [], c, t, _ => by simp [find]
  | a :: l, c, t, h => by
    simp only [List.cons_append, find]
    rw [if_neg (h a (List.mem_cons_self ..)), find_last l c t (fun x hx => h x (List.mem_cons_of_mem _ hx))]
    simp
/-- In another one's place: it stands where that stood, by the same tables; all others stand as they did. -/
theorem replace_stand (c : Cl) : ∀ (l : List En), (l.map fun e => e.cl.id).Nodup → (∀ e ∈ l, e.cl.id = c.ref → e.st = 0) →
    stand (putR c l) = (stand l).map fun e => if e.cl.id = c.ref then ⟨c, e.tb, 0, []⟩ else e
  | [], _, _ => by simp [putR, stand]
  | e :: l, hn, h => by
    have hn2 := List.nodup_cons.1 (by simpa using hn : (e.cl.id :: l.map fun e => e.cl.id).Nodup)
    unfold putR
    by_cases h1 : e.cl.id = c.ref
    · rw [if_pos h1]
      have hs := h e (List.mem_cons_self ..) h1
      have rest : (stand l).map (fun e => if e.cl.id = c.ref then (⟨c, e.tb, 0, []⟩ : En) else e) = stand l := by
        have : ∀ x ∈ stand l, (if x.cl.id = c.ref then (⟨c, x.tb, 0, []⟩ : En) else x) = x := by
          intro x hx
          rw [if_neg]
          intro hx2
          exact hn2.1 (List.mem_map.2 ⟨x, (List.mem_filter.1 hx).1, hx2.trans h1.symm⟩)
        rw [List.map_congr_left this]; simp
      have a1 : stand (gone 2 e :: ⟨c, e.tb, 0, []⟩ :: l) = ⟨c, e.tb, 0, []⟩ :: stand l := by simp [stand, gone]
      have a2 : stand (e :: l) = e :: stand l := by simp [stand, hs]
      rw [a1, a2, List.map_cons, if_pos h1, rest]
    · rw [if_neg h1]
      have t := replace_stand c l hn2.2 (fun x hx => h x (List.mem_cons_of_mem _ hx))
      by_cases hs : e.st = 0
      · have a1 : stand (e :: putR c l) = e :: stand (putR c l) := by simp [stand, hs]
        have a2 : stand (e :: l) = e :: stand l := by simp [stand, hs]
        rw [a1, a2, t, List.map_cons, if_neg h1]
      · have a1 : stand (e :: putR c l) = stand (putR c l) := by simp [stand, hs]
        have a2 : stand (e :: l) = stand l := by simp [stand, hs]
        rw [a1, a2, t]

end Go.Proofs.Ytpfpjbeofogbgaa.Bk
end
