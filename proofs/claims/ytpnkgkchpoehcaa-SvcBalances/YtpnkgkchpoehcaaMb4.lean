/-
  Texts put together (merge.py): HMath.
-/
import Derived.Test.YtpnkgkchpoehcaaMb1
/-
  What a member bears, what becomes of a service: what layer 15's calls answer, over plain numbers, and what follows.
-/
section
set_option linter.unusedSimpArgs false
namespace Go.Proofs.Ytpnkgkchpoehcaa.Sh

def least (a b : Int) : Int := if b < a then b else a

theorem least_le1 (a b : Int) : least a b ≤ a := by unfold least; split <;> omega
theorem least_le2 (a b : Int) : least a b ≤ b := by unfold least; split <;> omega
theorem least_or (a b : Int) : least a b = a ∨ least a b = b := by unfold least; split <;> simp
theorem least_eq (a b : Int) : (a ≤ b ∧ least a b = a) ∨ (b < a ∧ least a b = b) := by unfold least; split <;> omega

/-- A part of an amount is none below nothing, and no more than the amount. -/
theorem part_in (a p : Int) (h : 0 ≤ a) (hp : 0 ≤ p) (hq : p ≤ 10000) : 0 ≤ Ce.partV a p ∧ Ce.partV a p ≤ a := by
  have e1 : 0 ≤ a * p := Int.mul_nonneg h hp
  have e2 : a * p ≤ a * 10000 := Int.mul_le_mul_of_nonneg_left hq h
  unfold Ce.partV Ce.scaleV
  split
  · split <;> omega
  · omega
theorem part_none (a : Int) : Ce.partV a 0 = 0 := by
  unfold Ce.partV Ce.scaleV
  simp

/-! ### 15.1 -/
def bearB (al cp cn de oo : Int) : Bool := (Ce.good al && (Ce.good cp && (Ce.good de && Ce.good oo))) && (decide (0 ≤ cn) && decide (cn ≤ 10000))
def d0 (al : Int) (dd : Bool) (de net : Int) : Int := if dd = true ∧ net = 0 then least de al else 0
def c0 (al : Int) (dd : Bool) (cp de net : Int) : Int := least cp (al - d0 al dd de net)
def k0 (al : Int) (dd : Bool) (cp cn de net : Int) : Int := Ce.partV (al - d0 al dd de net - c0 al dd cp de net) cn
def bD (al : Int) (dd : Bool) (cp cn de oo net : Int) : Int := if bearB al cp cn de oo = true then (if net = 0 then least (d0 al dd de net) oo else d0 al dd de net) else 0
def bC (al : Int) (dd : Bool) (cp cn de oo net : Int) : Int := if bearB al cp cn de oo = true then (if net = 0 then least (c0 al dd cp de net) (oo - bD al dd cp cn de oo net) else c0 al dd cp de net) else 0
def bK (al : Int) (dd : Bool) (cp cn de oo net : Int) : Int := if bearB al cp cn de oo = true then (if net = 0 then least (k0 al dd cp cn de net) (oo - bD al dd cp cn de oo net - bC al dd cp cn de oo net) else k0 al dd cp cn de net) else 0
def bE (al cp cn de oo : Int) : Int := if bearB al cp cn de oo = true then 0 else 1

theorem bear_iff (al cp cn de oo : Int) : bearB al cp cn de oo = true ↔ (0 ≤ al ∧ al ≤ 10000000000000) ∧ (0 ≤ cp ∧ cp ≤ 10000000000000) ∧ (0 ≤ de ∧ de ≤ 10000000000000) ∧ (0 ≤ oo ∧ oo ≤ 10000000000000) ∧ 0 ≤ cn ∧ cn ≤ 10000 := by
  simp only [bearB, Bool.and_eq_true, decide_eq_true_eq, Ce.good_iff]
  constructor
  · rintro ⟨⟨a, b, c, d⟩, e, f⟩; exact ⟨a, b, c, d, e, f⟩
  · rintro ⟨a, b, c, d, e, f⟩; exact ⟨⟨a, b, c, d⟩, e, f⟩

theorem bear_err (al : Int) (dd : Bool) (cp cn de oo net : Int) (h : bE al cp cn de oo ≠ 0) : bD al dd cp cn de oo net = 0 ∧ bC al dd cp cn de oo net = 0 ∧ bK al dd cp cn de oo net = 0 := by
  have hb : ¬ bearB al cp cn de oo = true := by intro hb; exact h (by simp [bE, hb])
  simp [bD, bC, bK, hb]

/-- What is borne ahead of any limit: none below nothing, all together no more than is allowed. -/
theorem raw_in (al : Int) (dd : Bool) (cp cn de net : Int) (ha : 0 ≤ al) (hc : 0 ≤ cp) (hd : 0 ≤ de) (hn : 0 ≤ cn) (hm : cn ≤ 10000) :
    0 ≤ d0 al dd de net ∧ d0 al dd de net ≤ de ∧ d0 al dd de net ≤ al ∧ 0 ≤ c0 al dd cp de net ∧ c0 al dd cp de net ≤ cp ∧ 0 ≤ k0 al dd cp cn de net ∧ d0 al dd de net + c0 al dd cp de net + k0 al dd cp cn de net ≤ al := by
  have h1 : 0 ≤ d0 al dd de net ∧ d0 al dd de net ≤ de ∧ d0 al dd de net ≤ al := by
    unfold d0; split
    · rcases least_eq de al with ⟨x, y⟩ | ⟨x, y⟩ <;> rw [y] <;> omega
    · omega
  have h2 : 0 ≤ c0 al dd cp de net ∧ c0 al dd cp de net ≤ cp ∧ c0 al dd cp de net ≤ al - d0 al dd de net := by
    unfold c0
    rcases least_eq cp (al - d0 al dd de net) with ⟨x, y⟩ | ⟨x, y⟩ <;> rw [y] <;> omega
  have h3 := part_in (al - d0 al dd de net - c0 al dd cp de net) cn (by omega) hn hm
  have h4 : k0 al dd cp cn de net = Ce.partV (al - d0 al dd de net - c0 al dd cp de net) cn := rfl
  rw [← h4] at h3
  omega

/-- In the network: within the limits. -/
theorem bear_limits (al : Int) (dd : Bool) (cp cn de oo : Int) (h : bE al cp cn de oo = 0) :
    0 ≤ bD al dd cp cn de oo 0 ∧ 0 ≤ bC al dd cp cn de oo 0 ∧ 0 ≤ bK al dd cp cn de oo 0 ∧ bD al dd cp cn de oo 0 ≤ de ∧
    bD al dd cp cn de oo 0 + bC al dd cp cn de oo 0 + bK al dd cp cn de oo 0 ≤ oo ∧ bD al dd cp cn de oo 0 + bC al dd cp cn de oo 0 + bK al dd cp cn de oo 0 ≤ al := by
  have hb : bearB al cp cn de oo = true := by
    cases e : bearB al cp cn de oo with
    | true => rfl
    | false => simp [bE, e] at h
  obtain ⟨⟨a1, a2⟩, ⟨c1, c2⟩, ⟨e1, e2⟩, ⟨o1, o2⟩, n1, n2⟩ := (bear_iff al cp cn de oo).mp hb
  have hr := raw_in al dd cp cn de 0 a1 c1 e1 n1 n2
  have x1 : bD al dd cp cn de oo 0 = least (d0 al dd de 0) oo := by simp [bD, hb]
  have x2 : bC al dd cp cn de oo 0 = least (c0 al dd cp de 0) (oo - bD al dd cp cn de oo 0) := by simp only [bC, hb, if_true]
  have x3 : bK al dd cp cn de oo 0 = least (k0 al dd cp cn de 0) (oo - bD al dd cp cn de oo 0 - bC al dd cp cn de oo 0) := by simp only [bK, hb, if_true]
  rcases least_eq (d0 al dd de 0) oo with ⟨p1, q1⟩ | ⟨p1, q1⟩ <;>
  rcases least_eq (c0 al dd cp de 0) (oo - bD al dd cp cn de oo 0) with ⟨p2, q2⟩ | ⟨p2, q2⟩ <;>
  rcases least_eq (k0 al dd cp cn de 0) (oo - bD al dd cp cn de oo 0 - bC al dd cp cn de oo 0) with ⟨p3, q3⟩ | ⟨p3, q3⟩ <;>
  rw [q1] at x1 <;> rw [q2] at x2 <;> rw [q3] at x3 <;> omega

/-- With more left of the limits a member bears no less. -/
theorem bear_more (al : Int) (dd : Bool) (cp cn de oo m : Int) (hm : 0 ≤ m) (ho : 0 ≤ oo) (hx : oo ≤ 10000000000000 - m) :
    bE al cp cn de oo = bE al cp cn de (oo + m) ∧ (bE al cp cn de oo = 0 → bD al dd cp cn de oo 0 ≤ bD al dd cp cn de (oo + m) 0 ∧ bC al dd cp cn de oo 0 ≤ bC al dd cp cn de (oo + m) 0 ∧ bK al dd cp cn de oo 0 ≤ bK al dd cp cn de (oo + m) 0) := by
  have hbb : bearB al cp cn de oo = bearB al cp cn de (oo + m) := by
    rw [Bool.eq_iff_iff, bear_iff, bear_iff]
    constructor <;> (rintro ⟨a, b, c, d, e⟩; exact ⟨a, b, c, ⟨by omega, by omega⟩, e⟩)
  refine ⟨by simp [bE, hbb], ?_⟩
  intro h
  have hb : bearB al cp cn de oo = true := by
    cases e : bearB al cp cn de oo with
    | true => rfl
    | false => simp [bE, e] at h
  have hb2 : bearB al cp cn de (oo + m) = true := hbb ▸ hb
  obtain ⟨⟨a1, a2⟩, ⟨c1, c2⟩, ⟨e1, e2⟩, ⟨o1, o2⟩, n1, n2⟩ := (bear_iff al cp cn de oo).mp hb
  have hr := raw_in al dd cp cn de 0 a1 c1 e1 n1 n2
  have x1 : bD al dd cp cn de oo 0 = least (d0 al dd de 0) oo := by simp [bD, hb]
  have x2 : bC al dd cp cn de oo 0 = least (c0 al dd cp de 0) (oo - bD al dd cp cn de oo 0) := by simp only [bC, hb, if_true]
  have x3 : bK al dd cp cn de oo 0 = least (k0 al dd cp cn de 0) (oo - bD al dd cp cn de oo 0 - bC al dd cp cn de oo 0) := by simp only [bK, hb, if_true]
  have y1 : bD al dd cp cn de (oo + m) 0 = least (d0 al dd de 0) (oo + m) := by simp [bD, hb2]
  have y2 : bC al dd cp cn de (oo + m) 0 = least (c0 al dd cp de 0) (oo + m - bD al dd cp cn de (oo + m) 0) := by simp only [bC, hb2, if_true]
  have y3 : bK al dd cp cn de (oo + m) 0 = least (k0 al dd cp cn de 0) (oo + m - bD al dd cp cn de (oo + m) 0 - bC al dd cp cn de (oo + m) 0) := by simp only [bK, hb2, if_true]
  generalize bD al dd cp cn de oo 0 = X1 at *
  generalize bC al dd cp cn de oo 0 = X2 at *
  generalize bK al dd cp cn de oo 0 = X3 at *
  generalize bD al dd cp cn de (oo + m) 0 = Y1 at *
  generalize bC al dd cp cn de (oo + m) 0 = Y2 at *
  generalize bK al dd cp cn de (oo + m) 0 = Y3 at *
  generalize d0 al dd de 0 = D at *
  generalize c0 al dd cp de 0 = C at *
  generalize k0 al dd cp cn de 0 = K at *
  unfold least at x1 x2 x3 y1 y2 y3
  have s1 : X1 ≤ Y1 := by split at x1 <;> split at y1 <;> omega
  have s2 : X2 ≤ Y2 := by split at x1 <;> split at y1 <;> split at x2 <;> split at y2 <;> omega
  refine ⟨s1, s2, ?_⟩
  split at x1 <;> split at y1 <;> split at x2 <;> split at y2 <;> split at x3 <;> split at y3 <;> omega

/-- Where nothing is borne by the benefit, nothing is. -/
theorem bear_free (al de oo net : Int) : bD al false 0 0 de oo net = 0 ∧ bC al false 0 0 de oo net = 0 ∧ bK al false 0 0 de oo net = 0 := by
  cases hb : bearB al 0 0 de oo with
  | false => simp [bD, bC, bK, hb]
  | true =>
    obtain ⟨⟨a1, a2⟩, _, ⟨e1, e2⟩, ⟨o1, o2⟩, _⟩ := (bear_iff al 0 0 de oo).mp hb
    have z1 : d0 al false de net = 0 := by simp [d0]
    have z2 : c0 al false 0 de net = 0 := by unfold c0; rw [z1]; unfold least; split <;> omega
    have z3 : k0 al false 0 0 de net = 0 := by unfold k0; exact part_none _
    have y1 : bD al false 0 0 de oo net = 0 := by
      unfold bD; rw [if_pos hb, z1]; split
      · unfold least; split <;> omega
      · rfl
    have y2 : bC al false 0 0 de oo net = 0 := by
      unfold bC; rw [if_pos hb, z2, y1]; split
      · unfold least; split <;> omega
      · rfl
    have y3 : bK al false 0 0 de oo net = 0 := by
      unfold bK; rw [if_pos hb, z3, y1, y2]; split
      · unfold least; split <;> omega
      · rfl
    exact ⟨y1, y2, y3⟩

/-- Out of the network limits play no part. -/
theorem bear_out (al : Int) (dd : Bool) (cp cn de oo net : Int) (hn : net ≠ 0) (h : bE al cp cn de oo = 0) :
    bE al cp cn 0 0 = 0 ∧ bD al dd cp cn 0 0 net = bD al dd cp cn de oo net ∧ bC al dd cp cn 0 0 net = bC al dd cp cn de oo net ∧ bK al dd cp cn 0 0 net = bK al dd cp cn de oo net ∧ bD al dd cp cn 0 0 net = 0 := by
  have hb : bearB al cp cn de oo = true := by
    cases e : bearB al cp cn de oo with
    | true => rfl
    | false => simp [bE, e] at h
  have hb2 : bearB al cp cn 0 0 = true := by
    obtain ⟨a, c, _, _, n⟩ := (bear_iff al cp cn de oo).mp hb
    exact (bear_iff al cp cn 0 0).mpr ⟨a, c, by omega, by omega, n⟩
  have z (e : Int) : d0 al dd e net = 0 := by simp [d0, hn]
  simp [bE, bD, bC, bK, hb, hb2, hn, z, c0, k0]

/-! ### 15.2, 15.3 -/
structure Ot where
  al : Int
  de : Int
  cp : Int
  cn : Int
  plan : Int
  wr : Int
  pr : Int
  deny : Int
def ot0 : Ot := ⟨0, 0, 0, 0, 0, 0, 0, 0⟩
def member (o : Ot) : Int := o.de + o.cp + o.cn

def sixB (bi al pr de cp cn : Int) : Bool := Ce.good bi && (Ce.good al && (Ce.good pr && (Ce.good de && (Ce.good cp && Ce.good cn))))
def fitB (bi al pr de cp cn : Int) : Bool := decide (al ≤ bi) && (decide (pr ≤ bi) && decide (de + cp + cn ≤ al))
def rest (al pr : Int) : Int := if pr < al then al - pr else 0
def sP (al pr de cp cn : Int) : Int := least (al - de - cp - cn) (rest al pr)
def sD (al pr de cp cn : Int) : Int := least de (rest al pr - sP al pr de cp cn)
def sC (al pr de cp cn : Int) : Int := least cp (rest al pr - sP al pr de cp cn - sD al pr de cp cn)
def sK (al pr de cp cn : Int) : Int := least cn (rest al pr - sP al pr de cp cn - sD al pr de cp cn - sC al pr de cp cn)
def setE (bi al pr de cp cn : Int) : Int := if sixB bi al pr de cp cn = true then (if fitB bi al pr de cp cn = true then 0 else 3) else 1
def setV (bi al pr de cp cn : Int) : Ot := if setE bi al pr de cp cn = 0 then ⟨al, sD al pr de cp cn, sC al pr de cp cn, sK al pr de cp cn, sP al pr de cp cn, bi - pr - sP al pr de cp cn - sD al pr de cp cn - sC al pr de cp cn - sK al pr de cp cn, pr, 0⟩ else ot0

theorem set_ok {bi al pr de cp cn : Int} (h : setE bi al pr de cp cn = 0) :
    (0 ≤ bi ∧ bi ≤ 10000000000000) ∧ (0 ≤ al ∧ al ≤ 10000000000000) ∧ (0 ≤ pr ∧ pr ≤ 10000000000000) ∧ (0 ≤ de ∧ de ≤ 10000000000000) ∧ (0 ≤ cp ∧ cp ≤ 10000000000000) ∧ (0 ≤ cn ∧ cn ≤ 10000000000000) ∧ al ≤ bi ∧ pr ≤ bi ∧ de + cp + cn ≤ al := by
  unfold setE at h
  split at h
  case isFalse => simp at h
  case isTrue h1 =>
    split at h
    case isFalse => simp at h
    case isTrue h2 =>
      simp only [sixB, Bool.and_eq_true, Ce.good_iff] at h1
      simp only [fitB, Bool.and_eq_true, decide_eq_true_eq] at h2
      obtain ⟨a, b, c, d, e, f⟩ := h1
      obtain ⟨x, y, z⟩ := h2
      exact ⟨a, b, c, d, e, f, x, y, z⟩

theorem set_parts {bi al pr de cp cn : Int} (h : setE bi al pr de cp cn = 0) :
    0 ≤ rest al pr ∧ rest al pr ≤ al ∧ rest al pr + pr ≤ bi ∧ 0 ≤ sP al pr de cp cn ∧ 0 ≤ sD al pr de cp cn ∧ 0 ≤ sC al pr de cp cn ∧ 0 ≤ sK al pr de cp cn ∧
    sD al pr de cp cn ≤ de ∧ sC al pr de cp cn ≤ cp ∧ sK al pr de cp cn ≤ cn ∧
    sP al pr de cp cn + (sD al pr de cp cn + sC al pr de cp cn + sK al pr de cp cn) = rest al pr := by
  obtain ⟨h1, h2, h3, h4, h5, h6, h7, h8, h9⟩ := set_ok h
  have r : 0 ≤ rest al pr ∧ rest al pr ≤ al ∧ rest al pr + pr ≤ bi := by unfold rest; split <;> omega
  have x0 : sP al pr de cp cn = least (al - de - cp - cn) (rest al pr) := rfl
  have x1 : sD al pr de cp cn = least de (rest al pr - sP al pr de cp cn) := rfl
  have x2 : sC al pr de cp cn = least cp (rest al pr - sP al pr de cp cn - sD al pr de cp cn) := rfl
  have x3 : sK al pr de cp cn = least cn (rest al pr - sP al pr de cp cn - sD al pr de cp cn - sC al pr de cp cn) := rfl
  generalize sP al pr de cp cn = P at *
  generalize sD al pr de cp cn = D at *
  generalize sC al pr de cp cn = C at *
  generalize sK al pr de cp cn = K at *
  generalize rest al pr = R at *
  unfold least at x0 x1 x2 x3
  refine ⟨r.1, r.2.1, r.2.2, ?_⟩
  split at x0 <;> split at x1 <;> split at x2 <;> split at x3 <;> omega

def balB (bi : Int) (o : Ot) : Bool := (decide (0 ≤ o.plan) && (decide (0 ≤ o.wr) && (decide (0 ≤ o.pr) && (decide (0 ≤ o.de) && (decide (0 ≤ o.cp) && decide (0 ≤ o.cn)))))) && (decide (o.plan + o.wr + o.pr + o.de + o.cp + o.cn = bi) && (decide (o.de + o.cp + o.cn ≤ o.al) && decide (o.al ≤ bi)))

/-- All of it goes somewhere. -/
theorem set_bal (bi al pr de cp cn : Int) (h : setE bi al pr de cp cn = 0) : balB bi (setV bi al pr de cp cn) = true := by
  have hs := set_parts h
  have ho := set_ok h
  simp only [setV, if_pos h, balB, Bool.and_eq_true, decide_eq_true_eq]
  omega

def refE (bi pr why : Int) : Int := if why ≠ 0 ∧ Ce.good bi = true ∧ Ce.good pr = true then (if pr ≤ bi then 0 else 3) else 1
def refV (bi pr why : Int) : Ot := if refE bi pr why = 0 then ⟨0, 0, 0, 0, 0, bi - pr, pr, why⟩ else ot0

theorem ref_bal (bi pr why : Int) (h : refE bi pr why = 0) : balB bi (refV bi pr why) = true ∧ member (refV bi pr why) = 0 ∧ (refV bi pr why).plan = 0 := by
  have hh : (0 ≤ bi ∧ 0 ≤ pr) ∧ pr ≤ bi := by
    unfold refE at h
    split at h
    case isFalse => simp at h
    case isTrue h1 =>
      split at h
      case isFalse => simp at h
      case isTrue h2 => exact ⟨⟨((Ce.good_iff _).mp h1.2.1).1, ((Ce.good_iff _).mp h1.2.2).1⟩, h2⟩
  simp only [refV, if_pos h, balB, member, Bool.and_eq_true, decide_eq_true_eq]
  refine ⟨⟨⟨?_, ?_, ?_, ?_, ?_, ?_⟩, ?_, ?_, ?_⟩, ?_, ?_⟩ <;> first | trivial | omega

/-- Another payer's part lessens the plan's and the member's together; the plan's last. -/
theorem set_others (bi al pr de cp cn : Int) (h : setE bi al pr de cp cn = 0) :
    (setV bi al pr de cp cn).plan + member (setV bi al pr de cp cn) = (if al - pr < 0 then 0 else al - pr) ∧
    (setE bi al 0 de cp cn = 0 → (setV bi al pr de cp cn).plan ≤ (setV bi al 0 de cp cn).plan ∧ member (setV bi al pr de cp cn) ≤ member (setV bi al 0 de cp cn) ∧
      ((setV bi al pr de cp cn).plan = (setV bi al 0 de cp cn).plan ∨ member (setV bi al pr de cp cn) = 0)) := by
  have hs := set_parts h
  have ho := set_ok h
  have r1 : rest al pr = if al - pr < 0 then 0 else al - pr := by unfold rest; split <;> split <;> omega
  refine ⟨?_, ?_⟩
  · simp only [setV, if_pos h, member]; rw [← r1]; omega
  · intro g
    have gs := set_parts g
    have r2 : rest al 0 = al := by unfold rest; split <;> omega
    have p1 : sP al pr de cp cn = least (al - de - cp - cn) (rest al pr) := rfl
    have p2 : sP al 0 de cp cn = least (al - de - cp - cn) (rest al 0) := rfl
    rw [r2] at p2 gs
    simp only [setV, if_pos h, if_pos g, member]
    unfold least at p1 p2
    split at p1 <;> split at p2 <;> omega

end Go.Proofs.Ytpnkgkchpoehcaa.Sh
end
