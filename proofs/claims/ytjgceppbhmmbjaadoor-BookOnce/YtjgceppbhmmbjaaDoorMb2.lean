/-
  Texts put together (merge.py): LMath, HMath.
-/
import Derived.Test.YtjgceppbhmmbjaaDoorMb1
/-
  Plain numbers and texts: what layer 7's calls answer: which services, claims and batches may be.
-/
section
namespace Go.Proofs.YtjgceppbhmmbjaaDoor.Cm

structure Ln where
  proc : Tx
  mods : List Tx
  date : Int
  units : Int
  billed : Int
  prior : Int
structure Cl where
  id : Tx
  mem : Tx
  fam : Tx
  net : Int
  does : Int
  ref : Tx
  lines : List Ln
def ln0 : Ln := ⟨[], [], 0, 0, 0, 0⟩
def cl0 : Cl := ⟨[], [], [], 0, 0, [], []⟩

def I64 (n : Int) : Prop := -9223372036854775808 ≤ n ∧ n ≤ 9223372036854775807
/-- Numbers that are int64, and lengths that memory can hold. -/
def LnOk (x : Ln) : Prop := I64 x.date ∧ I64 x.units ∧ I64 x.billed ∧ I64 x.prior ∧ x.proc.length ≤ 281474976710656 ∧ x.mods.length ≤ 281474976710656 ∧ ∀ t ∈ x.mods, t.length ≤ 281474976710656
def ClOk (c : Cl) : Prop := I64 c.net ∧ I64 c.does ∧ c.id.length ≤ 281474976710656 ∧ c.mem.length ≤ 281474976710656 ∧ c.fam.length ≤ 281474976710656 ∧ c.ref.length ≤ 281474976710656 ∧ c.lines.length ≤ 281474976710656 ∧ ∀ x ∈ c.lines, LnOk x

def signB (c : UInt8) : Bool := (decide (65 ≤ c.toNat) && decide (c.toNat ≤ 90)) || (decide (48 ≤ c.toNat) && decide (c.toNat ≤ 57))
def codeB (s : Tx) (f t : Int) : Bool := decide (f ≤ (s.length : Int)) && decide ((s.length : Int) ≤ t) && s.all signB
def modsB (l : List Tx) : Bool := decide (l.length ≤ 4) && l.all fun x => codeB x 2 2
def codesB (l : Ln) : Bool := codeB l.proc 5 5 && modsB l.mods
def unitsB (n : Int) : Bool := decide (1 ≤ n) && decide (n ≤ 9999)
def moneyB (l : Ln) : Bool := Ce.good l.billed && Ce.good l.prior && decide (l.prior ≤ l.billed)
def lineE (l : Ln) : Int := if codesB l = true then (if Da.good l.date = true then (if unitsB l.units = true then (if moneyB l = true then 0 else 8) else 3) else 7) else 9

def bil (ls : List Ln) (i : Nat) : Int := (ls.getD i ln0).billed
def totV (ls : List Ln) : Int := if Ce.sumE (bil ls) ls.length = 0 then Ce.sumV (bil ls) ls.length else 0
def totE (ls : List Ln) : Int := if Ce.sumE (bil ls) ls.length = 0 then 0 else 8

def firstE (y : Int) : List Ln → Int
  | [] => 0
  | x :: r => if lineE x = 0 then (if Da.yr x.date = y then firstE y r else 7) else lineE x
def linesE (ls : List Ln) : Int := firstE (Da.yr (ls.getD 0 ln0).date) ls
def namesB (c : Cl) : Bool := codeB c.id 1 12 && (codeB c.mem 1 12 && codeB c.fam 1 12)
def netB (n : Int) : Bool := decide (n = 0) || decide (n = 1)
def refB (c : Cl) : Bool := if c.does = 1 then decide (c.ref = []) else codeB c.ref 1 12
def doesB (n : Int) : Bool := decide (n = 1) || (decide (n = 7) || decide (n = 8))
def headE (c : Cl) : Int := if namesB c = true then (if netB c.net = true then (if refB c = true then (if doesB c.does = true then 0 else 3) else 9) else 3) else 9
def voidB (c : Cl) : Bool := (decide (c.does = 8) == decide (c.lines.length = 0))
def restE (c : Cl) : Int := if c.lines.length ≤ 999 then (if voidB c = true then (if linesE c.lines = 0 then totE c.lines else linesE c.lines) else 6) else 10
def checkE (c : Cl) : Int := if headE c = 0 then restE c else headE c
def firstC : List Cl → Int
  | [] => 0
  | c :: r => if checkE c = 0 then firstC r else checkE c
def batchE (n : Int) (l : List Cl) : Int := if (decide (0 ≤ n) && decide (n ≤ 999999999)) = true then (if l.length ≤ 256 then firstC l else 10) else 3

theorem drop_step {α : Type} (l : List α) (k : Nat) (x : α) (h : l[k]? = some x) : l.drop k = x :: l.drop (k + 1) := by
  obtain ⟨hk, rfl⟩ := List.getElem?_eq_some_iff.1 h
  exact List.drop_eq_getElem_cons hk
theorem bil_at (ls : List Ln) (k : Nat) (x : Ln) (h : ls[k]? = some x) : bil ls k = x.billed := by
  unfold bil; rw [List.getD_eq_getElem?_getD, h]; rfl
theorem firstE_bad (y : Int) (ls : List Ln) (k : Nat) (x : Ln) (h : ls[k]? = some x) (hk : firstE y (ls.drop k) = firstE y ls) (h0 : lineE x ≠ 0) : firstE y ls = lineE x := by
  rw [← hk, drop_step ls k x h]; simp [firstE, h0]
theorem firstE_yr (y : Int) (ls : List Ln) (k : Nat) (x : Ln) (h : ls[k]? = some x) (hk : firstE y (ls.drop k) = firstE y ls) (h0 : lineE x = 0) (h1 : Da.yr x.date ≠ y) : firstE y ls = 7 := by
  rw [← hk, drop_step ls k x h]; simp [firstE, h0, h1]
theorem firstE_step (y : Int) (ls : List Ln) (k : Nat) (x : Ln) (h : ls[k]? = some x) (hk : firstE y (ls.drop k) = firstE y ls) (h0 : lineE x = 0) (h1 : Da.yr x.date = y) : firstE y (ls.drop (k + 1)) = firstE y ls := by
  rw [← hk, drop_step ls k x h]; simp [firstE, h0, h1]
theorem firstE_end (y : Int) (ls : List Ln) (k : Nat) (h : ls.length ≤ k) (hk : firstE y (ls.drop k) = firstE y ls) : firstE y ls = 0 := by
  rw [← hk, List.drop_of_length_le h]; rfl
theorem firstC_bad (l : List Cl) (k : Nat) (x : Cl) (h : l[k]? = some x) (hk : firstC (l.drop k) = firstC l) (h0 : checkE x ≠ 0) : firstC l = checkE x := by
  rw [← hk, drop_step l k x h]; simp [firstC, h0]
theorem firstC_step (l : List Cl) (k : Nat) (x : Cl) (h : l[k]? = some x) (hk : firstC (l.drop k) = firstC l) (h0 : checkE x = 0) : firstC (l.drop (k + 1)) = firstC l := by
  rw [← hk, drop_step l k x h]; simp [firstC, h0]
theorem firstC_end (l : List Cl) (k : Nat) (h : l.length ≤ k) (hk : firstC (l.drop k) = firstC l) : firstC l = 0 := by
  rw [← hk, List.drop_of_length_le h]; rfl
theorem lineE_date {x : Ln} (h : lineE x = 0) : Da.good x.date = true := by
  unfold lineE at h
  split at h
  · split at h
    · assumption
    · omega
  · omega

/-- Some services of a claim that may be are a claim that may be. -/
theorem firstE_take (y : Int) : ∀ (ls : List Ln) (k : Nat), firstE y ls = 0 → firstE y (ls.take k) = 0
  | [], k, _ => by simp [firstE]
  | x :: r, 0, _ => by simp [firstE]
  | x :: r, k + 1, h => by
    rw [List.take_succ_cons]
    unfold firstE at h ⊢
    by_cases h0 : lineE x = 0
    · rw [if_pos h0] at h ⊢
      by_cases h1 : Da.yr x.date = y
      · rw [if_pos h1] at h ⊢
        exact firstE_take y r k h
      · rw [if_neg h1] at h; omega
    · rw [if_neg h0] at h; exact absurd h h0
theorem allG_le (f : Nat → Int) (n k : Nat) (h : k ≤ n) (g : Ce.allG f n = true) : Ce.allG f k = true := by
  induction n with
  | zero => obtain rfl : k = 0 := by omega
            exact g
  | succ n ih =>
    by_cases e : k = n + 1
    · rw [e]; exact g
    · simp only [Ce.allG, Bool.and_eq_true] at g
      exact ih (by omega) g.1
theorem allG_congr (f g : Nat → Int) (n : Nat) (h : ∀ i, i < n → f i = g i) : Ce.allG f n = Ce.allG g n ∧ Ce.tot f n = Ce.tot g n := by
  induction n with
  | zero => exact ⟨rfl, rfl⟩
  | succ n ih =>
    obtain ⟨a, b⟩ := ih fun i hi => h i (by omega)
    simp only [Ce.allG, Ce.tot, a, b, h n (by omega)]
    exact ⟨trivial, trivial⟩
theorem sumE_zero (f : Nat → Int) (n : Nat) : Ce.sumE f n = 0 ↔ Ce.allG f n = true ∧ Ce.tot f n ≤ 10000000000000 := by
  unfold Ce.sumE
  cases Ce.allG f n
  · simp
  · simp only [if_true, true_and]
    split
    · simp_all
    · simp_all
theorem totE_take (ls : List Ln) (k : Nat) (hk : k ≤ ls.length) (h : totE ls = 0) : totE (ls.take k) = 0 := by
  unfold totE at h ⊢
  have h0 : Ce.sumE (bil ls) ls.length = 0 := by
    by_cases c : Ce.sumE (bil ls) ls.length = 0
    · exact c
    · rw [if_neg c] at h; omega
  obtain ⟨g, t⟩ := (sumE_zero _ _).1 h0
  have hl : (ls.take k).length = k := by simp; omega
  have e := allG_congr (bil (ls.take k)) (bil ls) k fun i hi => by
    unfold bil
    rw [List.getD_eq_getElem?_getD, List.getD_eq_getElem?_getD, List.getElem?_take_of_lt hi]
  have gk := allG_le _ _ k hk g
  have tk := Ce.tot_le (bil ls) ls.length g (ls.length - k) k (by omega)
  rw [if_pos]
  rw [sumE_zero, hl, e.1, e.2]
  exact ⟨gk, by omega⟩
theorem check_parts (c : Cl) (k : Nat) (h : checkE c = 0) (h1 : 1 ≤ k) (h2 : k ≤ c.lines.length) : checkE { c with lines := c.lines.take k } = 0 := by
  have hh : headE c = 0 := by
    unfold checkE at h
    by_cases q : headE c = 0
    · exact q
    · rw [if_neg q] at h; exact h
  unfold checkE at h ⊢
  have hh' : headE { c with lines := c.lines.take k } = 0 := hh
  rw [if_pos hh] at h
  rw [if_pos hh']
  unfold restE at h ⊢
  have hlen : (c.lines.take k).length = k := by simp; omega
  by_cases q1 : c.lines.length ≤ 999
  · rw [if_pos q1] at h
    rw [if_pos (show (c.lines.take k).length ≤ 999 by omega)]
    by_cases q2 : voidB c = true
    · rw [if_pos q2] at h
      have v' : voidB { c with lines := c.lines.take k } = true := by
        unfold voidB at q2 ⊢
        simp only [hlen]
        rw [decide_eq_false (show ¬ c.lines.length = 0 by omega)] at q2
        rw [decide_eq_false (show ¬ k = 0 by omega)]
        exact q2
      rw [if_pos v']
      by_cases q3 : linesE c.lines = 0
      · rw [if_pos q3] at h
        have l' : linesE (c.lines.take k) = 0 := by
          unfold linesE at q3 ⊢
          have e0 : (c.lines.take k).getD 0 ln0 = c.lines.getD 0 ln0 := by
            rw [List.getD_eq_getElem?_getD, List.getD_eq_getElem?_getD, List.getElem?_take_of_lt (by omega)]
          rw [e0]
          exact firstE_take _ _ _ q3
        show (if linesE (c.lines.take k) = 0 then totE (c.lines.take k) else linesE (c.lines.take k)) = 0
        rw [if_pos l']
        exact totE_take _ _ h2 h
      · rw [if_neg q3] at h; exact absurd h q3
    · rw [if_neg q2] at h; omega
  · rw [if_neg q1] at h; omega
end Go.Proofs.YtjgceppbhmmbjaaDoor.Cm
end

/-
  What a member bears, what becomes of a service: what layer 15's calls answer, over plain numbers, and what follows.
-/
section
set_option linter.unusedSimpArgs false
namespace Go.Proofs.YtjgceppbhmmbjaaDoor.Sh

def least (a b : Int) : Int := if b < a then b else a

theorem least_le1 (a b : Int) : least a b ≤ a := by unfold least; split <;> omega
theorem least_le2 (a b : Int) : least a b ≤ b := by unfold least; split <;> omega
theorem least_or (a b : Int) : least a b = a ∨ least a b = b := by unfold least; split <;> simp
theorem least_eq (a b : Int) : (a ≤ b ∧ least a b = a) ∨ (b < a ∧ least a b = b) := by unfold least; split <;> omega

/-- A part of an amount is none below nothing, and no more than the amount. -/
theorem part_in (a p : Int) (h : 0 ≤ a) (hp : 0 ≤ p) (hq : p ≤ 10000) : 0 ≤ Ce.partV a p ∧ Ce.partV a p ≤ a := by
  have e1 : 0 ≤ a * p := Int.mul_nonneg h hp
  have e2 : a * p ≤ a * 10000 := Int.mul_le_mul_of_nonneg_left hq h
  unfold Ce.partV Ce.scaleV
  split
  · split <;> omega
  · omega
theorem part_none (a : Int) : Ce.partV a 0 = 0 := by
  unfold Ce.partV Ce.scaleV
  simp

/-! ### 15.1 -/
def bearB (al cp cn de oo : Int) : Bool := (Ce.good al && (Ce.good cp && (Ce.good de && Ce.good oo))) && (decide (0 ≤ cn) && decide (cn ≤ 10000))
def d0 (al : Int) (dd : Bool) (de net : Int) : Int := if dd = true ∧ net = 0 then least de al else 0
def c0 (al : Int) (dd : Bool) (cp de net : Int) : Int := least cp (al - d0 al dd de net)
def k0 (al : Int) (dd : Bool) (cp cn de net : Int) : Int := Ce.partV (al - d0 al dd de net - c0 al dd cp de net) cn
def bD (al : Int) (dd : Bool) (cp cn de oo net : Int) : Int := if bearB al cp cn de oo = true then (if net = 0 then least (d0 al dd de net) oo else d0 al dd de net) else 0
def bC (al : Int) (dd : Bool) (cp cn de oo net : Int) : Int := if bearB al cp cn de oo = true then (if net = 0 then least (c0 al dd cp de net) (oo - bD al dd cp cn de oo net) else c0 al dd cp de net) else 0
def bK (al : Int) (dd : Bool) (cp cn de oo net : Int) : Int := if bearB al cp cn de oo = true then (if net = 0 then least (k0 al dd cp cn de net) (oo - bD al dd cp cn de oo net - bC al dd cp cn de oo net) else k0 al dd cp cn de net) else 0
def bE (al cp cn de oo : Int) : Int := if bearB al cp cn de oo = true then 0 else 1

theorem bear_iff (al cp cn de oo : Int) : bearB al cp cn de oo = true ↔ (0 ≤ al ∧ al ≤ 10000000000000) ∧ (0 ≤ cp ∧ cp ≤ 10000000000000) ∧ (0 ≤ de ∧ de ≤ 10000000000000) ∧ (0 ≤ oo ∧ oo ≤ 10000000000000) ∧ 0 ≤ cn ∧ cn ≤ 10000 := by
  simp only [bearB, Bool.and_eq_true, decide_eq_true_eq, Ce.good_iff]
  constructor
  · rintro ⟨⟨a, b, c, d⟩, e, f⟩; exact ⟨a, b, c, d, e, f⟩
  · rintro ⟨a, b, c, d, e, f⟩; exact ⟨⟨a, b, c, d⟩, e, f⟩

theorem bear_err (al : Int) (dd : Bool) (cp cn de oo net : Int) (h : bE al cp cn de oo ≠ 0) : bD al dd cp cn de oo net = 0 ∧ bC al dd cp cn de oo net = 0 ∧ bK al dd cp cn de oo net = 0 := by
  have hb : ¬ bearB al cp cn de oo = true := by intro hb; exact h (by simp [bE, hb])
  simp [bD, bC, bK, hb]

/-- What is borne ahead of any limit: none below nothing, all together no more than is allowed. -/
theorem raw_in (al : Int) (dd : Bool) (cp cn de net : Int) (ha : 0 ≤ al) (hc : 0 ≤ cp) (hd : 0 ≤ de) (hn : 0 ≤ cn) (hm : cn ≤ 10000) :
    0 ≤ d0 al dd de net ∧ d0 al dd de net ≤ de ∧ d0 al dd de net ≤ al ∧ 0 ≤ c0 al dd cp de net ∧ c0 al dd cp de net ≤ cp ∧ 0 ≤ k0 al dd cp cn de net ∧ d0 al dd de net + c0 al dd cp de net + k0 al dd cp cn de net ≤ al := by
  have h1 : 0 ≤ d0 al dd de net ∧ d0 al dd de net ≤ de ∧ d0 al dd de net ≤ al := by
    unfold d0; split
    · rcases least_eq de al with ⟨x, y⟩ | ⟨x, y⟩ <;> rw [y] <;> omega
    · omega
  have h2 : 0 ≤ c0 al dd cp de net ∧ c0 al dd cp de net ≤ cp ∧ c0 al dd cp de net ≤ al - d0 al dd de net := by
    unfold c0
    rcases least_eq cp (al - d0 al dd de net) with ⟨x, y⟩ | ⟨x, y⟩ <;> rw [y] <;> omega
  have h3 := part_in (al - d0 al dd de net - c0 al dd cp de net) cn (by omega) hn hm
  have h4 : k0 al dd cp cn de net = Ce.partV (al - d0 al dd de net - c0 al dd cp de net) cn := rfl
  rw [← h4] at h3
  omega

/-- In the network: within the limits. -/
theorem bear_limits (al : Int) (dd : Bool) (cp cn de oo : Int) (h : bE al cp cn de oo = 0) :
    0 ≤ bD al dd cp cn de oo 0 ∧ 0 ≤ bC al dd cp cn de oo 0 ∧ 0 ≤ bK al dd cp cn de oo 0 ∧ bD al dd cp cn de oo 0 ≤ de ∧
    bD al dd cp cn de oo 0 + bC al dd cp cn de oo 0 + bK al dd cp cn de oo 0 ≤ oo ∧ bD al dd cp cn de oo 0 + bC al dd cp cn de oo 0 + bK al dd cp cn de oo 0 ≤ al := by
  have hb : bearB al cp cn de oo = true := by
    cases e : bearB al cp cn de oo with
    | true => rfl
    | false => simp [bE, e] at h
  obtain ⟨⟨a1, a2⟩, ⟨c1, c2⟩, ⟨e1, e2⟩, ⟨o1, o2⟩, n1, n2⟩ := (bear_iff al cp cn de oo).mp hb
  have hr := raw_in al dd cp cn de 0 a1 c1 e1 n1 n2
  have x1 : bD al dd cp cn de oo 0 = least (d0 al dd de 0) oo := by simp [bD, hb]
  have x2 : bC al dd cp cn de oo 0 = least (c0 al dd cp de 0) (oo - bD al dd cp cn de oo 0) := by simp only [bC, hb, if_true]
  have x3 : bK al dd cp cn de oo 0 = least (k0 al dd cp cn de 0) (oo - bD al dd cp cn de oo 0 - bC al dd cp cn de oo 0) := by simp only [bK, hb, if_true]
  rcases least_eq (d0 al dd de 0) oo with ⟨p1, q1⟩ | ⟨p1, q1⟩ <;>
  rcases least_eq (c0 al dd cp de 0) (oo - bD al dd cp cn de oo 0) with ⟨p2, q2⟩ | ⟨p2, q2⟩ <;>
  rcases least_eq (k0 al dd cp cn de 0) (oo - bD al dd cp cn de oo 0 - bC al dd cp cn de oo 0) with ⟨p3, q3⟩ | ⟨p3, q3⟩ <;>
  rw [q1] at x1 <;> rw [q2] at x2 <;> rw [q3] at x3 <;> omega

/-- With more left of the limits a member bears no less. -/
theorem bear_more (al : Int) (dd : Bool) (cp cn de oo m : Int) (hm : 0 ≤ m) (ho : 0 ≤ oo) (hx : oo ≤ 10000000000000 - m) :
    bE al cp cn de oo = bE al cp cn de (oo + m) ∧ (bE al cp cn de oo = 0 → bD al dd cp cn de oo 0 ≤ bD al dd cp cn de (oo + m) 0 ∧ bC al dd cp cn de oo 0 ≤ bC al dd cp cn de (oo + m) 0 ∧ bK al dd cp cn de oo 0 ≤ bK al dd cp cn de (oo + m) 0) := by
  have hbb : bearB al cp cn de oo = bearB al cp cn de (oo + m) := by
    rw [Bool.eq_iff_iff, bear_iff, bear_iff]
    constructor <;> (rintro ⟨a, b, c, d, e⟩; exact ⟨a, b, c, ⟨by omega, by omega⟩, e⟩)
  refine ⟨by simp [bE, hbb], ?_⟩
  intro h
  have hb : bearB al cp cn de oo = true := by
    cases e : bearB al cp cn de oo with
    | true => rfl
    | false => simp [bE, e] at h
  have hb2 : bearB al cp cn de (oo + m) = true := hbb ▸ hb
  obtain ⟨⟨a1, a2⟩, ⟨c1, c2⟩, ⟨e1, e2⟩, ⟨o1, o2⟩, n1, n2⟩ := (bear_iff al cp cn de oo).mp hb
  have hr := raw_in al dd cp cn de 0 a1 c1 e1 n1 n2
  have x1 : bD al dd cp cn de oo 0 = least (d0 al dd de 0) oo := by simp [bD, hb]
  have x2 : bC al dd cp cn de oo 0 = least (c0 al dd cp de 0) (oo - bD al dd cp cn de oo 0) := by simp only [bC, hb, if_true]
  have x3 : bK al dd cp cn de oo 0 = least (k0 al dd cp cn de 0) (oo - bD al dd cp cn de oo 0 - bC al dd cp cn de oo 0) := by simp only [bK, hb, if_true]
  have y1 : bD al dd cp cn de (oo + m) 0 = least (d0 al dd de 0) (oo + m) := by simp [bD, hb2]
  have y2 : bC al dd cp cn de (oo + m) 0 = least (c0 al dd cp de 0) (oo + m - bD al dd cp cn de (oo + m) 0) := by simp only [bC, hb2, if_true]
  have y3 : bK al dd cp cn de (oo + m) 0 = least (k0 al dd cp cn de 0) (oo + m - bD al dd cp cn de (oo + m) 0 - bC al dd cp cn de (oo + m) 0) := by simp only [bK, hb2, if_true]
  generalize bD al dd cp cn de oo 0 = X1 at *
  generalize bC al dd cp cn de oo 0 = X2 at *
  generalize bK al dd cp cn de oo 0 = X3 at *
  generalize bD al dd cp cn de (oo + m) 0 = Y1 at *
  generalize bC al dd cp cn de (oo + m) 0 = Y2 at *
  generalize bK al dd cp cn de (oo + m) 0 = Y3 at *
  generalize d0 al dd de 0 = D at *
  generalize c0 al dd cp de 0 = C at *
  generalize k0 al dd cp cn de 0 = K at *
  unfold least at x1 x2 x3 y1 y2 y3
  have s1 : X1 ≤ Y1 := by split at x1 <;> split at y1 <;> omega
  have s2 : X2 ≤ Y2 := by split at x1 <;> split at y1 <;> split at x2 <;> split at y2 <;> omega
  refine ⟨s1, s2, ?_⟩
  split at x1 <;> split at y1 <;> split at x2 <;> split at y2 <;> split at x3 <;> split at y3 <;> omega

/-- Where nothing is borne by the benefit, nothing is. -/
theorem bear_free (al de oo net : Int) : bD al false 0 0 de oo net = 0 ∧ bC al false 0 0 de oo net = 0 ∧ bK al false 0 0 de oo net = 0 := by
  cases hb : bearB al 0 0 de oo with
  | false => simp [bD, bC, bK, hb]
  | true =>
    obtain ⟨⟨a1, a2⟩, _, ⟨e1, e2⟩, ⟨o1, o2⟩, _⟩ := (bear_iff al 0 0 de oo).mp hb
    have z1 : d0 al false de net = 0 := by simp [d0]
    have z2 : c0 al false 0 de net = 0 := by unfold c0; rw [z1]; unfold least; split <;> omega
    have z3 : k0 al false 0 0 de net = 0 := by unfold k0; exact part_none _
    have y1 : bD al false 0 0 de oo net = 0 := by
      unfold bD; rw [if_pos hb, z1]; split
      · unfold least; split <;> omega
      · rfl
    have y2 : bC al false 0 0 de oo net = 0 := by
      unfold bC; rw [if_pos hb, z2, y1]; split
      · unfold least; split <;> omega
      · rfl
    have y3 : bK al false 0 0 de oo net = 0 := by
      unfold bK; rw [if_pos hb, z3, y1, y2]; split
      · unfold least; split <;> omega
      · rfl
    exact ⟨y1, y2, y3⟩

/-- Out of the network limits play no part. -/
theorem bear_out (al : Int) (dd : Bool) (cp cn de oo net : Int) (hn : net ≠ 0) (h : bE al cp cn de oo = 0) :
    bE al cp cn 0 0 = 0 ∧ bD al dd cp cn 0 0 net = bD al dd cp cn de oo net ∧ bC al dd cp cn 0 0 net = bC al dd cp cn de oo net ∧ bK al dd cp cn 0 0 net = bK al dd cp cn de oo net ∧ bD al dd cp cn 0 0 net = 0 := by
  have hb : bearB al cp cn de oo = true := by
    cases e : bearB al cp cn de oo with
    | true => rfl
    | false => simp [bE, e] at h
  have hb2 : bearB al cp cn 0 0 = true := by
    obtain ⟨a, c, _, _, n⟩ := (bear_iff al cp cn de oo).mp hb
    exact (bear_iff al cp cn 0 0).mpr ⟨a, c, by omega, by omega, n⟩
  have z (e : Int) : d0 al dd e net = 0 := by simp [d0, hn]
  simp [bE, bD, bC, bK, hb, hb2, hn, z, c0, k0]

/-! ### 15.2, 15.3 -/
structure Ot where
  al : Int
  de : Int
  cp : Int
  cn : Int
  plan : Int
  wr : Int
  pr : Int
  deny : Int
def ot0 : Ot := ⟨0, 0, 0, 0, 0, 0, 0, 0⟩
def member (o : Ot) : Int := o.de + o.cp + o.cn

def sixB (bi al pr de cp cn : Int) : Bool := Ce.good bi && (Ce.good al && (Ce.good pr && (Ce.good de && (Ce.good cp && Ce.good cn))))
def fitB (bi al pr de cp cn : Int) : Bool := decide (al ≤ bi) && (decide (pr ≤ bi) && decide (de + cp + cn ≤ al))
def rest (al pr : Int) : Int := if pr < al then al - pr else 0
def sP (al pr de cp cn : Int) : Int := least (al - de - cp - cn) (rest al pr)
def sD (al pr de cp cn : Int) : Int := least de (rest al pr - sP al pr de cp cn)
def sC (al pr de cp cn : Int) : Int := least cp (rest al pr - sP al pr de cp cn - sD al pr de cp cn)
def sK (al pr de cp cn : Int) : Int := least cn (rest al pr - sP al pr de cp cn - sD al pr de cp cn - sC al pr de cp cn)
def setE (bi al pr de cp cn : Int) : Int := if sixB bi al pr de cp cn = true then (if fitB bi al pr de cp cn = true then 0 else 3) else 1
def setV (bi al pr de cp cn : Int) : Ot := if setE bi al pr de cp cn = 0 then ⟨al, sD al pr de cp cn, sC al pr de cp cn, sK al pr de cp cn, sP al pr de cp cn, bi - pr - sP al pr de cp cn - sD al pr de cp cn - sC al pr de cp cn - sK al pr de cp cn, pr, 0⟩ else ot0

theorem set_ok {bi al pr de cp cn : Int} (h : setE bi al pr de cp cn = 0) :
    (0 ≤ bi ∧ bi ≤ 10000000000000) ∧ (0 ≤ al ∧ al ≤ 10000000000000) ∧ (0 ≤ pr ∧ pr ≤ 10000000000000) ∧ (0 ≤ de ∧ de ≤ 10000000000000) ∧ (0 ≤ cp ∧ cp ≤ 10000000000000) ∧ (0 ≤ cn ∧ cn ≤ 10000000000000) ∧ al ≤ bi ∧ pr ≤ bi ∧ de + cp + cn ≤ al := by
  unfold setE at h
  split at h
  case isFalse => simp at h
  case isTrue h1 =>
    split at h
    case isFalse => simp at h
    case isTrue h2 =>
      simp only [sixB, Bool.and_eq_true, Ce.good_iff] at h1
      simp only [fitB, Bool.and_eq_true, decide_eq_true_eq] at h2
      obtain ⟨a, b, c, d, e, f⟩ := h1
      obtain ⟨x, y, z⟩ := h2
      exact ⟨a, b, c, d, e, f, x, y, z⟩

theorem set_parts {bi al pr de cp cn : Int} (h : setE bi al pr de cp cn = 0) :
    0 ≤ rest al pr ∧ rest al pr ≤ al ∧ rest al pr + pr ≤ bi ∧ 0 ≤ sP al pr de cp cn ∧ 0 ≤ sD al pr de cp cn ∧ 0 ≤ sC al pr de cp cn ∧ 0 ≤ sK al pr de cp cn ∧
    sD al pr de cp cn ≤ de ∧ sC al pr de cp cn ≤ cp ∧ sK al pr de cp cn ≤ cn ∧
    sP al pr de cp cn + (sD al pr de cp cn + sC al pr de cp cn + sK al pr de cp cn) = rest al pr := by
  obtain ⟨h1, h2, h3, h4, h5, h6, h7, h8, h9⟩ := set_ok h
  have r : 0 ≤ rest al pr ∧ rest al pr ≤ al ∧ rest al pr + pr ≤ bi := by unfold rest; split <;> omega
  have x0 : sP al pr de cp cn = least (al - de - cp - cn) (rest al pr) := rfl
  have x1 : sD al pr de cp cn = least de (rest al pr - sP al pr de cp cn) := rfl
  have x2 : sC al pr de cp cn = least cp (rest al pr - sP al pr de cp cn - sD al pr de cp cn) := rfl
  have x3 : sK al pr de cp cn = least cn (rest al pr - sP al pr de cp cn - sD al pr de cp cn - sC al pr de cp cn) := rfl
  generalize sP al pr de cp cn = P at *
  generalize sD al pr de cp cn = D at *
  generalize sC al pr de cp cn = C at *
  generalize sK al pr de cp cn = K at *
  generalize rest al pr = R at *
  unfold least at x0 x1 x2 x3
  refine ⟨r.1, r.2.1, r.2.2, ?_⟩
  split at x0 <;> split at x1 <;> split at x2 <;> split at x3 <;> omega

def balB (bi : Int) (o : Ot) : Bool := (decide (0 ≤ o.plan) && (decide (0 ≤ o.wr) && (decide (0 ≤ o.pr) && (decide (0 ≤ o.de) && (decide (0 ≤ o.cp) && decide (0 ≤ o.cn)))))) && (decide (o.plan + o.wr + o.pr + o.de + o.cp + o.cn = bi) && (decide (o.de + o.cp + o.cn ≤ o.al) && decide (o.al ≤ bi)))

/-- All of it goes somewhere. -/
theorem set_bal (bi al pr de cp cn : Int) (h : setE bi al pr de cp cn = 0) : balB bi (setV bi al pr de cp cn) = true := by
  have hs := set_parts h
  have ho := set_ok h
  simp only [setV, if_pos h, balB, Bool.and_eq_true, decide_eq_true_eq]
  omega

def refE (bi pr why : Int) : Int := if why ≠ 0 ∧ Ce.good bi = true ∧ Ce.good pr = true then (if pr ≤ bi then 0 else 3) else 1
def refV (bi pr why : Int) : Ot := if refE bi pr why = 0 then ⟨0, 0, 0, 0, 0, bi - pr, pr, why⟩ else ot0

theorem ref_bal (bi pr why : Int) (h : refE bi pr why = 0) : balB bi (refV bi pr why) = true ∧ member (refV bi pr why) = 0 ∧ (refV bi pr why).plan = 0 := by
  have hh : (0 ≤ bi ∧ 0 ≤ pr) ∧ pr ≤ bi := by
    unfold refE at h
    split at h
    case isFalse => simp at h
    case isTrue h1 =>
      split at h
      case isFalse => simp at h
      case isTrue h2 => exact ⟨⟨((Ce.good_iff _).mp h1.2.1).1, ((Ce.good_iff _).mp h1.2.2).1⟩, h2⟩
  simp only [refV, if_pos h, balB, member, Bool.and_eq_true, decide_eq_true_eq]
  refine ⟨⟨⟨?_, ?_, ?_, ?_, ?_, ?_⟩, ?_, ?_, ?_⟩, ?_, ?_⟩ <;> first | trivial | omega

/-- Another payer's part lessens the plan's and the member's together; the plan's last. -/
theorem set_others (bi al pr de cp cn : Int) (h : setE bi al pr de cp cn = 0) :
    (setV bi al pr de cp cn).plan + member (setV bi al pr de cp cn) = (if al - pr < 0 then 0 else al - pr) ∧
    (setE bi al 0 de cp cn = 0 → (setV bi al pr de cp cn).plan ≤ (setV bi al 0 de cp cn).plan ∧ member (setV bi al pr de cp cn) ≤ member (setV bi al 0 de cp cn) ∧
      ((setV bi al pr de cp cn).plan = (setV bi al 0 de cp cn).plan ∨ member (setV bi al pr de cp cn) = 0)) := by
  have hs := set_parts h
  have ho := set_ok h
  have r1 : rest al pr = if al - pr < 0 then 0 else al - pr := by unfold rest; split <;> split <;> omega
  refine ⟨?_, ?_⟩
  · simp only [setV, if_pos h, member]; rw [← r1]; omega
  · intro g
    have gs := set_parts g
    have r2 : rest al 0 = al := by unfold rest; split <;> omega
    have p1 : sP al pr de cp cn = least (al - de - cp - cn) (rest al pr) := rfl
    have p2 : sP al 0 de cp cn = least (al - de - cp - cn) (rest al 0) := rfl
    rw [r2] at p2 gs
    simp only [setV, if_pos h, if_pos g, member]
    unfold least at p1 p2
    split at p1 <;> split at p2 <;> omega

end Go.Proofs.YtjgceppbhmmbjaaDoor.Sh
end
