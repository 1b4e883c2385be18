/-
  Texts put together (merge.py): LMath.
-/
import Derived.Test.YtpnkgkchpoehcaaMb1
import Derived.Test.YtpnkgkchpoehcaaMb2
/-
  Plain numbers and texts: what layer 7's calls answer: which services, claims and batches may be.
-/
section
namespace Go.Proofs.Ytpnkgkchpoehcaa.Cm

structure Ln where
  proc : Tx
  mods : List Tx
  date : Int
  units : Int
  billed : Int
  prior : Int
structure Cl where
  id : Tx
  mem : Tx
  fam : Tx
  net : Int
  does : Int
  ref : Tx
  lines : List Ln
def ln0 : Ln := ⟨[], [], 0, 0, 0, 0⟩
def cl0 : Cl := ⟨[], [], [], 0, 0, [], []⟩

def I64 (n : Int) : Prop := -9223372036854775808 ≤ n ∧ n ≤ 9223372036854775807
/-- Numbers that are int64, and lengths that memory can hold. -/
def LnOk (x : Ln) : Prop := I64 x.date ∧ I64 x.units ∧ I64 x.billed ∧ I64 x.prior ∧ x.proc.length ≤ 281474976710656 ∧ x.mods.length ≤ 281474976710656 ∧ ∀ t ∈ x.mods, t.length ≤ 281474976710656
def ClOk (c : Cl) : Prop := I64 c.net ∧ I64 c.does ∧ c.id.length ≤ 281474976710656 ∧ c.mem.length ≤ 281474976710656 ∧ c.fam.length ≤ 281474976710656 ∧ c.ref.length ≤ 281474976710656 ∧ c.lines.length ≤ 281474976710656 ∧ ∀ x ∈ c.lines, LnOk x

def signB (c : UInt8) : Bool := (decide (65 ≤ c.toNat) && decide (c.toNat ≤ 90)) || (decide (48 ≤ c.toNat) && decide (c.toNat ≤ 57))
def codeB (s : Tx) (f t : Int) : Bool := decide (f ≤ (s.length : Int)) && decide ((s.length : Int) ≤ t) && s.all signB
def modsB (l : List Tx) : Bool := decide (l.length ≤ 4) && l.all fun x => codeB x 2 2
def codesB (l : Ln) : Bool := codeB l.proc 5 5 && modsB l.mods
def unitsB (n : Int) : Bool := decide (1 ≤ n) && decide (n ≤ 9999)
def moneyB (l : Ln) : Bool := Ce.good l.billed && Ce.good l.prior && decide (l.prior ≤ l.billed)
def lineE (l : Ln) : Int := if codesB l = true then (if Da.good l.date = true then (if unitsB l.units = true then (if moneyB l = true then 0 else 8) else 3) else 7) else 9

def bil (ls : List Ln) (i : Nat) : Int := (ls.getD i ln0).billed
def totV (ls : List Ln) : Int := if Ce.sumE (bil ls) ls.length = 0 then Ce.sumV (bil ls) ls.length else 0
def totE (ls : List Ln) : Int := if Ce.sumE (bil ls) ls.length = 0 then 0 else 8

def firstE (y : Int) : List Ln → Int
  | [] => 0
  | x :: r => if lineE x = 0 then (if Da.yr x.date = y then firstE y r else 7) else lineE x
def linesE (ls : List Ln) : Int := firstE (Da.yr (ls.getD 0 ln0).date) ls
def namesB (c : Cl) : Bool := codeB c.id 1 12 && (codeB c.mem 1 12 && codeB c.fam 1 12)
def netB (n : Int) : Bool := decide (n = 0) || decide (n = 1)
def refB (c : Cl) : Bool := if c.does = 1 then decide (c.ref = []) else codeB c.ref 1 12
def doesB (n : Int) : Bool := decide (n = 1) || (decide (n = 7) || decide (n = 8))
def headE (c : Cl) : Int := if namesB c = true then (if netB c.net = true then (if refB c = true then (if doesB c.does = true then 0 else 3) else 9) else 3) else 9
def voidB (c : Cl) : Bool := (decide (c.does = 8) == decide (c.lines.length = 0))
def restE (c : Cl) : Int := if c.lines.length ≤ 999 then (if voidB c = true then (if linesE c.lines = 0 then totE c.lines else linesE c.lines) else 6) else 10
def checkE (c : Cl) : Int := if headE c = 0 then restE c else headE c
def firstC : List Cl → Int
  | [] => 0
  | c :: r => if checkE c = 0 then firstC r else checkE c
def batchE (n : Int) (l : List Cl) : Int := if (decide (0 ≤ n) && decide (n ≤ 999999999)) = true then (if l.length ≤ 256 then firstC l else 10) else 3

theorem drop_step {α : Type} (l : List α) (k : Nat) (x : α) (h : l[k]? = some x) : l.drop k = x :: l.drop (k + 1) := by
  obtain ⟨hk, rfl⟩ := List.getElem?_eq_some_iff.1 h
  exact List.drop_eq_getElem_cons hk
theorem bil_at (ls : List Ln) (k : Nat) (x : Ln) (h : ls[k]? = some x) : bil ls k = x.billed := by
  unfold bil; rw [List.getD_eq_getElem?_getD, h]; rfl
theorem firstE_bad (y : Int) (ls : List Ln) (k : Nat) (x : Ln) (h : ls[k]? = some x) (hk : firstE y (ls.drop k) = firstE y ls) (h0 : lineE x ≠ 0) : firstE y ls = lineE x := by
  rw [← hk, drop_step ls k x h]; simp [firstE, h0]
theorem firstE_yr (y : Int) (ls : List Ln) (k : Nat) (x : Ln) (h : ls[k]? = some x) (hk : firstE y (ls.drop k) = firstE y ls) (h0 : lineE x = 0) (h1 : Da.yr x.date ≠ y) : firstE y ls = 7 := by
  rw [← hk, drop_step ls k x h]; simp [firstE, h0, h1]
theorem firstE_step (y : Int) (ls : List Ln) (k : Nat) (x : Ln) (h : ls[k]? = some x) (hk : firstE y (ls.drop k) = firstE y ls) (h0 : lineE x = 0) (h1 : Da.yr x.date = y) : firstE y (ls.drop (k + 1)) = firstE y ls := by
  rw [← hk, drop_step ls k x h]; simp [firstE, h0, h1]
theorem firstE_end (y : Int) (ls : List Ln) (k : Nat) (h : ls.length ≤ k) (hk : firstE y (ls.drop k) = firstE y ls) : firstE y ls = 0 := by
  rw [← hk, List.drop_of_length_le h]; rfl
theorem firstC_bad (l : List Cl) (k : Nat) (x : Cl) (h : l[k]? = some x) (hk : firstC (l.drop k) = firstC l) (h0 : checkE x ≠ 0) : firstC l = checkE x := by
  rw [← hk, drop_step l k x h]; simp [firstC, h0]
theorem firstC_step (l : List Cl) (k : Nat) (x : Cl) (h : l[k]? = some x) (hk : firstC (l.drop k) = firstC l) (h0 : checkE x = 0) : firstC (l.drop (k + 1)) = firstC l := by
  rw [← hk, drop_step l k x h]; simp [firstC, h0]
theorem firstC_end (l : List Cl) (k : Nat) (h : l.length ≤ k) (hk : firstC (l.drop k) = firstC l) : firstC l = 0 := by
  rw [← hk, List.drop_of_length_le h]; rfl
theorem lineE_date {x : Ln} (h : lineE x = 0) : Da.good x.date = true := by
  unfold lineE at h
  split at h
  · split at h
    · assumption
    · omega
  · omega

/-- Some services of a claim that may be are a claim that may be. -/
theorem firstE_take (y : Int) : ∀ (ls : List Ln) (k : Nat), firstE y ls = 0 → firstE y (ls.take k) = 0
  | [], k, _ => by simp [firstE]
  | x :: r, 0, _ => by simp [firstE]
  | x :: r, k + 1, h => by
    rw [List.take_succ_cons]
    unfold firstE at h ⊢
    by_cases h0 : lineE x = 0
    · rw [if_pos h0] at h ⊢
      by_cases h1 : Da.yr x.date = y
      · rw [if_pos h1] at h ⊢
        exact firstE_take y r k h
      · rw [if_neg h1] at h; omega
    · rw [if_neg h0] at h; exact absurd h h0
theorem allG_le (f : Nat → Int) (n k : Nat) (h : k ≤ n) (g : Ce.allG f n = true) : Ce.allG f k = true := by
  induction n with
  | zero => obtain rfl : k = 0 := by omega
            exact g
  | succ n ih =>
    by_cases e : k = n + 1
    · rw [e]; exact g
    · simp only [Ce.allG, Bool.and_eq_true] at g
      exact ih (by omega) g.1
theorem allG_congr (f g : Nat → Int) (n : Nat) (h : ∀ i, i < n → f i = g i) : Ce.allG f n = Ce.allG g n ∧ Ce.tot f n = Ce.tot g n := by
  induction n with
  | zero => exact ⟨rfl, rfl⟩
  | succ n ih =>
    obtain ⟨a, b⟩ := ih fun i hi => h i (by omega)
    simp only [Ce.allG, Ce.tot, a, b, h n (by omega)]
    exact ⟨trivial, trivial⟩
theorem sumE_zero (f : Nat → Int) (n : Nat) : Ce.sumE f n = 0 ↔ Ce.allG f n = true ∧ Ce.tot f n ≤ 10000000000000 := by
  unfold Ce.sumE
  cases Ce.allG f n
  · simp
  · simp only [if_true, true_and]
    split
    · simp_all
    · simp_all
theorem totE_take (ls : List Ln) (k : Nat) (hk : k ≤ ls.length) (h : totE ls = 0) : totE (ls.take k) = 0 := by
  unfold totE at h ⊢
  have h0 : Ce.sumE (bil ls) ls.length = 0 := by
    by_cases c : Ce.sumE (bil ls) ls.length = 0
    · exact c
    · rw [if_neg c] at h; omega
  obtain ⟨g, t⟩ := (sumE_zero _ _).1 h0
  have hl : (ls.take k).length = k := by simp; omega
  have e := allG_congr (bil (ls.take k)) (bil ls) k fun i hi => by
    unfold bil
    rw [List.getD_eq_getElem?_getD, List.getD_eq_getElem?_getD, List.getElem?_take_of_lt hi]
  have gk := allG_le _ _ k hk g
  have tk := Ce.tot_le (bil ls) ls.length g (ls.length - k) k (by omega)
  rw [if_pos]
  rw [sumE_zero, hl, e.1, e.2]
  exact ⟨gk, by omega⟩
theorem check_parts (c : Cl) (k : Nat) (h : checkE c = 0) (h1 : 1 ≤ k) (h2 : k ≤ c.lines.length) : checkE { c with lines := c.lines.take k } = 0 := by
  have hh : headE c = 0 := by
    unfold checkE at h
    by_cases q : headE c = 0
    · exact q
    · rw [if_neg q] at h; exact h
  unfold checkE at h ⊢
  have hh' : headE { c with lines := c.lines.take k } = 0 := hh
  rw [if_pos hh] at h
  rw [if_pos hh']
  unfold restE at h ⊢
  have hlen : (c.lines.take k).length = k := by simp; omega
  by_cases q1 : c.lines.length ≤ 999
  · rw [if_pos q1] at h
    rw [if_pos (show (c.lines.take k).length ≤ 999 by omega)]
    by_cases q2 : voidB c = true
    · rw [if_pos q2] at h
      have v' : voidB { c with lines := c.lines.take k } = true := by
        unfold voidB at q2 ⊢
        simp only [hlen]
        rw [decide_eq_false (show ¬ c.lines.length = 0 by omega)] at q2
        rw [decide_eq_false (show ¬ k = 0 by omega)]
        exact q2
      rw [if_pos v']
      by_cases q3 : linesE c.lines = 0
      · rw [if_pos q3] at h
        have l' : linesE (c.lines.take k) = 0 := by
          unfold linesE at q3 ⊢
          have e0 : (c.lines.take k).getD 0 ln0 = c.lines.getD 0 ln0 := by
            rw [List.getD_eq_getElem?_getD, List.getD_eq_getElem?_getD, List.getElem?_take_of_lt (by omega)]
          rw [e0]
          exact firstE_take _ _ _ q3
        show (if linesE (c.lines.take k) = 0 then totE (c.lines.take k) else linesE (c.lines.take k)) = 0
        rw [if_pos l']
        exact totE_take _ _ h2 h
      · rw [if_neg q3] at h; exact absurd h q3
    · rw [if_neg q2] at h; omega
  · rw [if_neg q1] at h; omega
end Go.Proofs.Ytpnkgkchpoehcaa.Cm
end
