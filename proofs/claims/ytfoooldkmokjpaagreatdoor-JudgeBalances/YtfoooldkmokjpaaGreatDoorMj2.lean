/-
  Texts put together (merge.py): JMath, QSpec, WMath, CSumMath, DMath, LMath, NMath, PMath, UMath, WLaws, PBack, POnce, PText, PSize.
-/
import Derived.Lib.ItoaNum
import GoSem.Claim
import Derived.Test.YtfoooldkmokjpaaGreatDoorMj1
set_option linter.unusedSimpArgs false
set_option linter.unusedVariables false
section
namespace Go.Proofs.YtfoooldkmokjpaaGreatDoor.Ju
open Ac (Row getV addE addV bothE bothV rowN roomV left)
open Sh (Ot bD bC bK bE setE setV refE refV member balB)
structure It where
 why : Int
 al : Int
 dd : Bool
 cp : Int
 cn : Int
 yr : Int
 bi : Int
 pr : Int
structure Cx where
 mode : Int
 iD : Int
 fD : Int
 iO : Int
 fO : Int
 mem : Tx
 fam : Tx
 net : Int
def rD (x : Cx) (r : List Row) (y : Int) : Int := roomV x.mode x.iD x.fD (getV r x.mem false y).de (getV r x.fam true y).de
def rO (x : Cx) (r : List Row) (y : Int) : Int := roomV x.mode x.iO x.fO (getV r x.mem false y).oo (getV r x.fam true y).oo
def eB (x : Cx) (r : List Row) (i : It) : Int := bE i.al i.cp i.cn (rD x r i.yr) (rO x r i.yr)
def vD (x : Cx) (r : List Row) (i : It) : Int := bD i.al i.dd i.cp i.cn (rD x r i.yr) (rO x r i.yr) x.net
def vC (x : Cx) (r : List Row) (i : It) : Int := bC i.al i.dd i.cp i.cn (rD x r i.yr) (rO x r i.yr) x.net
def vK (x : Cx) (r : List Row) (i : It) : Int := bK i.al i.dd i.cp i.cn (rD x r i.yr) (rO x r i.yr) x.net
def eS (x : Cx) (r : List Row) (i : It) : Int := setE i.bi i.al i.pr (vD x r i) (vC x r i) (vK x r i)
def outV (x : Cx) (r : List Row) (i : It) : Ot := if i.why = 0 then setV i.bi i.al i.pr (vD x r i) (vC x r i) (vK x r i) else refV i.bi i.pr i.why
def outE (x : Cx) (r : List Row) (i : It) : Int :=
 if i.why = 0 then (if eB x r i = 0 then (if eS x r i = 0 then (if x.net = 0 then bothE r x.mem x.fam i.yr (outV x r i) else 0) else eS x r i) else eB x r i) else refE i.bi i.pr i.why
def outR (x : Cx) (r : List Row) (i : It) : List Row := if i.why = 0 ∧ x.net = 0 then bothV r x.mem x.fam i.yr (outV x r i) else r
def runE (x : Cx) : List Row → List It → Int
 | _, [] => 0
 | r, i :: l => if outE x r i = 0 then runE x (outR x r i) l else outE x r i
def runV (x : Cx) : List Row → List It → List Ot
 | _, [] => []
 | r, i :: l => outV x r i :: runV x (outR x r i) l
def runR (x : Cx) : List Row → List It → List Row
 | r, [] => r
 | r, i :: l => runR x (outR x r i) l
theorem run_cons {x : Cx} {r : List Row} {i : It} {l : List It} (h : runE x r (i :: l) = 0) : outE x r i = 0 ∧ runE x (outR x r i) l = 0 := by
 unfold runE at h
 by_cases h1 : outE x r i = 0
 ·rw [if_pos h1] at h; exact ⟨h1, h⟩
 ·rw [if_neg h1] at h; exact absurd h h1
theorem out_ok {x : Cx} {r : List Row} {i : It} (h : outE x r i = 0) (hw : i.why = 0) : eB x r i = 0 ∧ eS x r i = 0 ∧ (x.net = 0 → bothE r x.mem x.fam i.yr (outV x r i) = 0) := by
 unfold outE at h
 rw [if_pos hw] at h
 by_cases h1 : eB x r i = 0
 ·rw [if_pos h1] at h
  by_cases h2 : eS x r i = 0
  ·rw [if_pos h2] at h
   refine ⟨h1, h2, fun hn => ?_⟩
   rw [if_pos hn] at h; exact h
  ·rw [if_neg h2] at h; exact absurd h h2
 ·rw [if_neg h1] at h; exact absurd h h1
theorem out_ref {x : Cx} {r : List Row} {i : It} (h : outE x r i = 0) (hw : i.why ≠ 0) : refE i.bi i.pr i.why = 0 := by
 unfold outE at h
 rw [if_neg hw] at h; exact h
theorem step_ok {x : Cx} {r : List Row} {i : It} (hr : Ac.Ok r) (h : outE x r i = 0) : Ac.Ok (outR x r i) := by
 unfold outR
 by_cases hc : i.why = 0 ∧ x.net = 0
 ·rw [if_pos hc]; exact Ac.both_ok hr ((out_ok h hc.1).2.2 hc.2)
 ·rw [if_neg hc]; exact hr
theorem run_len (x : Cx) : ∀ (l : List It) (r : List Row), (runV x r l).length = l.length
 | [], _ => rfl
 | i :: l, r => by simp only [runV, List.length_cons, run_len x l]
def soB (i : It) (o : Ot) : Prop := balB i.bi o = true ∧ o.pr = i.pr ∧ (o.deny ≠ 0 → o.plan = 0 ∧ member o = 0 ∧ o.al = 0) ∧ o.deny = i.why
theorem step_bal {x : Cx} {r : List Row} {i : It} (h : outE x r i = 0) : soB i (outV x r i) := by
 by_cases hw : i.why = 0
 ·have k := out_ok h hw
  have hs : setE i.bi i.al i.pr (vD x r i) (vC x r i) (vK x r i) = 0 := k.2.1
  have e : outV x r i = setV i.bi i.al i.pr (vD x r i) (vC x r i) (vK x r i) := by unfold outV; rw [if_pos hw]
  rw [e]
  refine ⟨Sh.set_bal _ _ _ _ _ _ hs, ?_, ?_, ?_⟩
  ·unfold setV; rw [if_pos hs]
  ·intro hd; unfold setV at hd; rw [if_pos hs] at hd; simp at hd
  ·unfold setV; rw [if_pos hs, hw]
 ·have hs := out_ref h hw
  have e : outV x r i = refV i.bi i.pr i.why := by unfold outV; rw [if_neg hw]
  have b := Sh.ref_bal _ _ _ hs
  rw [e]
  refine ⟨b.1, ?_, fun _ => ⟨b.2.2, b.2.1, ?_⟩, ?_⟩ <;> (unfold refV; rw [if_pos hs])
theorem run_bal (x : Cx) : ∀ (l : List It) (r : List Row), runE x r l = 0 → ∀ (k : Nat) (i : It) (o : Ot), l[k]? = some i → (runV x r l)[k]? = some o → soB i o
 | [], _, _, k, i, o, h, _ => by simp at h
 | i :: l, r, e, 0, j, o, h, g => by
  simp [runV] at h g
  subst h; subst g
  exact step_bal (run_cons e).1
 | i :: l, r, e, k + 1, j, o, h, g => by
  simp only [runV, List.getElem?_cons_succ] at h g
  exact run_bal x l _ (run_cons e).2 k j o h g
theorem ref_none {i : It} (h : refE i.bi i.pr i.why = 0) : (refV i.bi i.pr i.why).de = 0 ∧ member (refV i.bi i.pr i.why) = 0 := by
 refine ⟨?_, (Sh.ref_bal _ _ _ h).2.1⟩
 unfold refV; rw [if_pos h]
theorem step_get {x : Cx} {r : List Row} {i : It} (hr : Ac.Ok r) (h : outE x r i = 0) (hn : x.net = 0) (w : Tx) (g : Bool) (z : Int) :
  (getV (outR x r i) w g z).de = (getV r w g z).de + (if (x.fam = w ∧ true = g ∧ i.yr = z) ∨ (x.mem = w ∧ false = g ∧ i.yr = z) then (outV x r i).de else 0) ∧
  (getV (outR x r i) w g z).oo = (getV r w g z).oo + (if (x.fam = w ∧ true = g ∧ i.yr = z) ∨ (x.mem = w ∧ false = g ∧ i.yr = z) then member (outV x r i) else 0) := by
 by_cases hw : i.why = 0
 ·have k := (out_ok h hw).2.2 hn
  have e : outR x r i = bothV r x.mem x.fam i.yr (outV x r i) := by unfold outR; rw [if_pos ⟨hw, hn⟩]
  rw [e, Ac.get_both hr k]
  by_cases h1 : x.fam = w ∧ true = g ∧ i.yr = z
  ·rw [if_pos h1, if_pos (Or.inl h1), if_pos (Or.inl h1)]
   obtain ⟨rfl, rfl, rfl⟩ := h1
   exact ⟨rfl, rfl⟩
  ·rw [if_neg h1]
   by_cases h2 : x.mem = w ∧ false = g ∧ i.yr = z
   ·rw [if_pos h2, if_pos (Or.inr h2), if_pos (Or.inr h2)]
    obtain ⟨rfl, rfl, rfl⟩ := h2
    exact ⟨rfl, rfl⟩
   ·have h3 : ¬ ((x.fam = w ∧ true = g ∧ i.yr = z) ∨ (x.mem = w ∧ false = g ∧ i.yr = z)) := fun e => e.elim h1 h2
    rw [if_neg h2, if_neg h3, if_neg h3]; omega
 ·have e : outR x r i = r := by unfold outR; rw [if_neg (fun e => hw e.1)]
  have o : outV x r i = refV i.bi i.pr i.why := by unfold outV; rw [if_neg hw]
  have z := ref_none (out_ref h hw)
  rw [e, o, z.1, z.2]
  constructor <;> (split <;> omega)
def LimOk (x : Cx) : Prop := 0 ≤ x.iD ∧ 0 ≤ x.fD ∧ 0 ≤ x.iO ∧ 0 ≤ x.fO
theorem step_bears {x : Cx} {r : List Row} {i : It} (h : outE x r i = 0) (hn : x.net = 0) :
  0 ≤ (outV x r i).de ∧ 0 ≤ member (outV x r i) ∧ (i.why = 0 → (outV x r i).de ≤ rD x r i.yr ∧ member (outV x r i) ≤ rO x r i.yr) ∧ (i.why ≠ 0 → (outV x r i).de = 0 ∧ member (outV x r i) = 0) := by
 by_cases hw : i.why = 0
 ·obtain ⟨k1, k2, _⟩ := out_ok h hw
  have b := Sh.bear_limits i.al i.dd i.cp i.cn (rD x r i.yr) (rO x r i.yr) k1
  have hs : setE i.bi i.al i.pr (vD x r i) (vC x r i) (vK x r i) = 0 := k2
  have p := Sh.set_parts hs
  have d1 : vD x r i = bD i.al i.dd i.cp i.cn (rD x r i.yr) (rO x r i.yr) 0 := by unfold vD; rw [hn]
  have d2 : vC x r i = bC i.al i.dd i.cp i.cn (rD x r i.yr) (rO x r i.yr) 0 := by unfold vC; rw [hn]
  have d3 : vK x r i = bK i.al i.dd i.cp i.cn (rD x r i.yr) (rO x r i.yr) 0 := by unfold vK; rw [hn]
  rw [← d1, ← d2, ← d3] at b
  have e : outV x r i = setV i.bi i.al i.pr (vD x r i) (vC x r i) (vK x r i) := by unfold outV; rw [if_pos hw]
  have e1 : (outV x r i).de = Sh.sD i.al i.pr (vD x r i) (vC x r i) (vK x r i) := by rw [e]; unfold setV; rw [if_pos hs]
  have e2 : member (outV x r i) = Sh.sD i.al i.pr (vD x r i) (vC x r i) (vK x r i) + Sh.sC i.al i.pr (vD x r i) (vC x r i) (vK x r i) + Sh.sK i.al i.pr (vD x r i) (vC x r i) (vK x r i) := by rw [e]; unfold setV member; rw [if_pos hs]
  rw [e1, e2]
  refine ⟨by omega, by omega, fun _ => ⟨by omega, by omega⟩, fun hx => absurd hw hx⟩
 ·have o : outV x r i = refV i.bi i.pr i.why := by unfold outV; rw [if_neg hw]
  have z := ref_none (out_ref h hw)
  rw [o, z.1, z.2]
  exact ⟨by omega, by omega, fun hx => absurd hx hw, fun _ => ⟨rfl, rfl⟩⟩
def Met (x : Cx) (r : List Row) (y : Int) : Prop := x.fO ≤ (getV r x.fam true y).oo ∨ (x.mode = 0 ∧ x.iO ≤ (getV r x.mem false y).oo)
theorem met_room {x : Cx} (hx : LimOk x) {r : List Row} (hr : Ac.Ok r) {y : Int} (h : Met x r y) : rO x r y = 0 := by
 have gm := Ac.get_sound hr x.mem false y
 have gf := Ac.get_sound hr x.fam true y
 have r2 := Ac.room_in x.mode x.iO x.fO (getV r x.mem false y).oo (getV r x.fam true y).oo hx.2.2.1 hx.2.2.2 (by omega) (by omega)
 have u2 : rO x r y = roomV x.mode x.iO x.fO (getV r x.mem false y).oo (getV r x.fam true y).oo := rfl
 rw [← u2] at r2
 rcases h with h | ⟨h1, h2⟩
 ·have : left x.fO (getV r x.fam true y).oo = 0 := by unfold left; rw [if_pos h]
  omega
 ·have : left x.iO (getV r x.mem false y).oo = 0 := by unfold left; rw [if_pos h2]
  have := r2.2.2.2 h1
  omega
theorem run_met (x : Cx) (hx : LimOk x) (hn : x.net = 0) (y : Int) : ∀ (l : List It) (r : List Row), Ac.Ok r → runE x r l = 0 → (∀ i ∈ l, i.yr = y) → Met x r y →
  runR x r l = r ∧ ∀ o ∈ runV x r l, member o = 0
 | [], r, _, _, _, _ => ⟨rfl, by simp [runV]⟩
 | i :: l, r, hr, e, hy, h => by
  have k := run_cons e
  have yi := hy i (List.mem_cons_self ..)
  have b := step_bears k.1 hn
  have z : (outV x r i).de = 0 ∧ member (outV x r i) = 0 := by
   by_cases hw : i.why = 0
   ·have c := b.2.2.1 hw
    have ro := met_room hx hr h
    rw [yi, ro] at c
    have p := step_bal k.1
    have q := p.1
    simp only [balB, Bool.and_eq_true, decide_eq_true_eq] at q
    have m : member (outV x r i) = (outV x r i).de + (outV x r i).cp + (outV x r i).cn := rfl
    omega
   ·exact b.2.2.2 hw
  have same : outR x r i = r := by
   refine Ac.ext (step_ok hr k.1) hr fun w f u => ?_
   have s := step_get hr k.1 hn w f u
   rw [z.1, z.2] at s
   have s1 : (getV (outR x r i) w f u).de = (getV r w f u).de := by rw [s.1]; split <;> omega
   have s2 : (getV (outR x r i) w f u).oo = (getV r w f u).oo := by rw [s.2]; split <;> omega
   have t1 := (Ac.hit_iff _ _ _ _).1 (Ac.get_hit (outR x r i) w f u)
   have t2 := (Ac.hit_iff _ _ _ _).1 (Ac.get_hit r w f u)
   generalize getV (outR x r i) w f u = A at *
   generalize getV r w f u = B at *
   obtain ⟨a1, a2, a3, a4, a5⟩ := A
   obtain ⟨b1, b2, b3, b4, b5⟩ := B
   simp only at s1 s2 t1 t2
   simp only [Row.mk.injEq]
   exact ⟨t1.1.trans t2.1.symm, t1.2.1.trans t2.2.1.symm, t1.2.2.trans t2.2.2.symm, s1, s2⟩
  have t := run_met x hx hn y l (outR x r i) (step_ok hr k.1) k.2 (fun j hj => hy j (List.mem_cons_of_mem _ hj)) (by rw [same]; exact h)
  refine ⟨by simp only [runR]; rw [t.1, same], fun o ho => ?_⟩
  simp only [runV] at ho
  rcases List.mem_cons.1 ho with rfl | ho
  ·exact z.2
  ·exact t.2 o ho
theorem run_take (x : Cx) : ∀ (k : Nat) (l : List It) (r : List Row), runV x r (l.take k) = (runV x r l).take k
 | 0, _, _ => by simp [runV]
 | k + 1, [], _ => by simp [runV]
 | k + 1, i :: l, r => by simp only [List.take_succ_cons, runV, run_take x k l]
end Go.Proofs.YtfoooldkmokjpaaGreatDoor.Ju
end
section
namespace Go.Proofs.YtfoooldkmokjpaaGreatDoor
end Go.Proofs.YtfoooldkmokjpaaGreatDoor
end
section
namespace Go.Proofs.YtfoooldkmokjpaaGreatDoor.Wo
abbrev Wd := Tx × Nat
def kd (c : UInt8) : Nat := if c = 32 ∨ c = 10 then 1 else if c = 40 ∨ c = 41 then 2 else if c = 46 ∨ (48 ≤ c ∧ c ≤ 57) ∨ (65 ≤ c ∧ c ≤ 90) ∨ (97 ≤ c ∧ c ≤ 122) then 3 else 0
def fb : Nat → Tx → Option Nat
 | _, [] => none
 | p, c :: t => if kd c = 0 then some p else fb (p + 1) t
def good (l : Tx) : Bool := l.all fun c => kd c != 0
end Go.Proofs.YtfoooldkmokjpaaGreatDoor.Wo
end
section
namespace Go.Proofs.YtfoooldkmokjpaaGreatDoor.Ce
def allG (f : Nat → Int) : Nat → Bool
 | 0 => true
 | n + 1 => allG f n && good (f n)
def tot (f : Nat → Int) : Nat → Int
 | 0 => 0
 | n + 1 => tot f n + f n
def sumV (f : Nat → Int) (n : Nat) : Int := if allG f n = true ∧ tot f n ≤ 10000000000000 then tot f n else 0
def sumE (f : Nat → Int) (n : Nat) : Int := if allG f n = true then (if tot f n ≤ 10000000000000 then 0 else 2) else 1
theorem allG_at (f : Nat → Int) : ∀ (n k : Nat), k < n → allG f n = true → good (f k) = true
 | 0, _, h, _ => absurd h (by omega)
 | n + 1, k, h, g => by
  simp only [allG, Bool.and_eq_true] at g
  by_cases e : k = n
  ·rw [e]; exact g.2
  ·exact allG_at f n k (by omega) g.1
theorem allG_not (f : Nat → Int) (n k : Nat) (h : k < n) (g : good (f k) = false) : allG f n = false := by
 cases e : allG f n
 ·rfl
 ·rw [allG_at f n k h e] at g; cases g
theorem allG_more (f : Nat → Int) (k : Nat) (h : allG f k = true) (g : good (f k) = true) : allG f (k + 1) = true := by
 simp only [allG, h, g, Bool.and_self]
theorem tot_le (f : Nat → Int) (n : Nat) (g : allG f n = true) : ∀ (j k : Nat), k + j = n → tot f k ≤ tot f n
 | 0, k, h => by rw [← h]; exact Int.le_refl _
 | j + 1, k, h => by
  have h1 := tot_le f n g j (k + 1) (by omega)
  have h2 := (good_iff _).1 (allG_at f n k (by omega) g)
  simp only [tot] at h1
  omega
theorem tot_nonneg (f : Nat → Int) (n : Nat) (g : allG f n = true) (k : Nat) (h : k ≤ n) : 0 ≤ tot f k := by
 induction k with
 | zero => exact Int.le_refl _
 | succ k ih =>
  have h1 := ih (by omega)
  have h2 := (good_iff _).1 (allG_at f n k (by omega) g)
  simp only [tot]
  omega
theorem sum_over (f : Nat → Int) (n k : Nat) (g : allG f n = true) (h : k < n) (o : 10000000000000 < tot f k + f k) : sumV f n = 0 ∧ sumE f n = 2 := by
 have h1 := tot_le f n g (n - (k + 1)) (k + 1) (by omega)
 simp only [tot] at h1
 constructor
 ·unfold sumV; rw [if_neg]; omega
 ·unfold sumE; rw [if_pos g, if_neg]; omega
theorem sum_end (f : Nat → Int) (n : Nat) (g : allG f n = true) (h : tot f n ≤ 10000000000000) : sumV f n = tot f n ∧ sumE f n = 0 := by
 constructor
 ·unfold sumV; rw [if_pos ⟨g, h⟩]
 ·unfold sumE; rw [if_pos g, if_pos h]
theorem sum_arg (f : Nat → Int) (n : Nat) (g : allG f n = false) : sumV f n = 0 ∧ sumE f n = 1 := by
 constructor
 ·unfold sumV; rw [if_neg]; rw [g]; simp
 ·unfold sumE; rw [if_neg]; rw [g]; simp
end Go.Proofs.YtfoooldkmokjpaaGreatDoor.Ce
end
section
namespace Go.Proofs.YtfoooldkmokjpaaGreatDoor.Da
def leapB (y : Int) : Bool := (y % 4 == 0 && y % 100 != 0) || y % 400 == 0
def lens : List Int := [31, 28, 31, 30, 31, 30, 31, 31, 30, 31, 30, 31]
def lenT (m : Int) : Int := lens.getD (m - 1).toNat 0
def lenM (y m : Int) : Int := if (m == 2 && leapB y) = true then 29 else lenT m
def yr (n : Int) : Int := n.tdiv 10000
def mo (n : Int) : Int := (n.tdiv 100).tmod 100
def da (n : Int) : Int := n.tmod 100
def good (n : Int) : Bool := decide (1 ≤ yr n ∧ yr n ≤ 9999 ∧ 1 ≤ mo n ∧ mo n ≤ 12 ∧ 1 ≤ da n ∧ da n ≤ lenM (yr n) (mo n))
theorem yr_eq (n : Int) (h : 0 ≤ n) : yr n = n / 10000 := by unfold yr; exact Int.tdiv_eq_ediv_of_nonneg h
theorem mo_eq (n : Int) (h : 0 ≤ n) : mo n = n / 100 % 100 := by unfold mo; rw [Int.tdiv_eq_ediv_of_nonneg h, Int.tmod_eq_emod_of_nonneg (by omega)]
theorem da_eq (n : Int) (h : 0 ≤ n) : da n = n % 100 := by unfold da; exact Int.tmod_eq_emod_of_nonneg h
theorem month_cases (m : Int) (h1 : 1 ≤ m) (h2 : m ≤ 12) : m = 1 ∨ m = 2 ∨ m = 3 ∨ m = 4 ∨ m = 5 ∨ m = 6 ∨ m = 7 ∨ m = 8 ∨ m = 9 ∨ m = 10 ∨ m = 11 ∨ m = 12 := by omega
theorem parts (n : Int) (h : 0 ≤ n) : n = yr n * 10000 + mo n * 100 + da n ∧ 0 ≤ mo n ∧ mo n ≤ 99 ∧ 0 ≤ da n ∧ da n ≤ 99 ∧ 0 ≤ yr n := by
 rw [yr_eq n h, mo_eq n h, da_eq n h]; omega
end Go.Proofs.YtfoooldkmokjpaaGreatDoor.Da
end
section
namespace Go.Proofs.YtfoooldkmokjpaaGreatDoor.Cm
structure Ln where
 proc : Tx
 mods : List Tx
 date : Int
 units : Int
 billed : Int
 prior : Int
structure Cl where
 id : Tx
 mem : Tx
 fam : Tx
 net : Int
 does : Int
 ref : Tx
 lines : List Ln
def ln0 : Ln := ⟨[], [], 0, 0, 0, 0⟩
def I64 (n : Int) : Prop := -9223372036854775808 ≤ n ∧ n ≤ 9223372036854775807
def LnOk (x : Ln) : Prop := I64 x.date ∧ I64 x.units ∧ I64 x.billed ∧ I64 x.prior ∧ x.proc.length ≤ 281474976710656 ∧ x.mods.length ≤ 281474976710656 ∧ ∀ t ∈ x.mods, t.length ≤ 281474976710656
def ClOk (c : Cl) : Prop := I64 c.net ∧ I64 c.does ∧ c.id.length ≤ 281474976710656 ∧ c.mem.length ≤ 281474976710656 ∧ c.fam.length ≤ 281474976710656 ∧ c.ref.length ≤ 281474976710656 ∧ c.lines.length ≤ 281474976710656 ∧ ∀ x ∈ c.lines, LnOk x
def signB (c : UInt8) : Bool := (decide (65 ≤ c.toNat) && decide (c.toNat ≤ 90)) || (decide (48 ≤ c.toNat) && decide (c.toNat ≤ 57))
def codeB (s : Tx) (f t : Int) : Bool := decide (f ≤ (s.length : Int)) && decide ((s.length : Int) ≤ t) && s.all signB
def modsB (l : List Tx) : Bool := decide (l.length ≤ 4) && l.all fun x => codeB x 2 2
def codesB (l : Ln) : Bool := codeB l.proc 5 5 && modsB l.mods
def unitsB (n : Int) : Bool := decide (1 ≤ n) && decide (n ≤ 9999)
def moneyB (l : Ln) : Bool := Ce.good l.billed && Ce.good l.prior && decide (l.prior ≤ l.billed)
def lineE (l : Ln) : Int := if codesB l = true then (if Da.good l.date = true then (if unitsB l.units = true then (if moneyB l = true then 0 else 8) else 3) else 7) else 9
def bil (ls : List Ln) (i : Nat) : Int := (ls.getD i ln0).billed
def totV (ls : List Ln) : Int := if Ce.sumE (bil ls) ls.length = 0 then Ce.sumV (bil ls) ls.length else 0
def totE (ls : List Ln) : Int := if Ce.sumE (bil ls) ls.length = 0 then 0 else 8
def firstE (y : Int) : List Ln → Int
 | [] => 0
 | x :: r => if lineE x = 0 then (if Da.yr x.date = y then firstE y r else 7) else lineE x
def linesE (ls : List Ln) : Int := firstE (Da.yr (ls.getD 0 ln0).date) ls
def namesB (c : Cl) : Bool := codeB c.id 1 12 && (codeB c.mem 1 12 && codeB c.fam 1 12)
def netB (n : Int) : Bool := decide (n = 0) || decide (n = 1)
def refB (c : Cl) : Bool := if c.does = 1 then decide (c.ref = []) else codeB c.ref 1 12
def doesB (n : Int) : Bool := decide (n = 1) || (decide (n = 7) || decide (n = 8))
def headE (c : Cl) : Int := if namesB c = true then (if netB c.net = true then (if refB c = true then (if doesB c.does = true then 0 else 3) else 9) else 3) else 9
def voidB (c : Cl) : Bool := (decide (c.does = 8) == decide (c.lines.length = 0))
def restE (c : Cl) : Int := if c.lines.length ≤ 999 then (if voidB c = true then (if linesE c.lines = 0 then totE c.lines else linesE c.lines) else 6) else 10
def checkE (c : Cl) : Int := if headE c = 0 then restE c else headE c
theorem drop_step {α : Type} (l : List α) (k : Nat) (x : α) (h : l[k]? = some x) : l.drop k = x :: l.drop (k + 1) := by
 obtain ⟨hk, rfl⟩ := List.getElem?_eq_some_iff.1 h
 exact List.drop_eq_getElem_cons hk
theorem bil_at (ls : List Ln) (k : Nat) (x : Ln) (h : ls[k]? = some x) : bil ls k = x.billed := by
 unfold bil; rw [List.getD_eq_getElem?_getD, h]; rfl
theorem firstE_bad (y : Int) (ls : List Ln) (k : Nat) (x : Ln) (h : ls[k]? = some x) (hk : firstE y (ls.drop k) = firstE y ls) (h0 : lineE x ≠ 0) : firstE y ls = lineE x := by
 rw [← hk, drop_step ls k x h]; simp [firstE, h0]
theorem firstE_yr (y : Int) (ls : List Ln) (k : Nat) (x : Ln) (h : ls[k]? = some x) (hk : firstE y (ls.drop k) = firstE y ls) (h0 : lineE x = 0) (h1 : Da.yr x.date ≠ y) : firstE y ls = 7 := by
 rw [← hk, drop_step ls k x h]; simp [firstE, h0, h1]
theorem firstE_step (y : Int) (ls : List Ln) (k : Nat) (x : Ln) (h : ls[k]? = some x) (hk : firstE y (ls.drop k) = firstE y ls) (h0 : lineE x = 0) (h1 : Da.yr x.date = y) : firstE y (ls.drop (k + 1)) = firstE y ls := by
 rw [← hk, drop_step ls k x h]; simp [firstE, h0, h1]
theorem firstE_end (y : Int) (ls : List Ln) (k : Nat) (h : ls.length ≤ k) (hk : firstE y (ls.drop k) = firstE y ls) : firstE y ls = 0 := by
 rw [← hk, List.drop_of_length_le h]; rfl
theorem lineE_date {x : Ln} (h : lineE x = 0) : Da.good x.date = true := by
 unfold lineE at h
 split at h
 ·split at h
  ·assumption
  ·omega
 ·omega
end Go.Proofs.YtfoooldkmokjpaaGreatDoor.Cm
end
section
namespace Go.Proofs.YtfoooldkmokjpaaGreatDoor.Nu
open Go.Lib
end Go.Proofs.YtfoooldkmokjpaaGreatDoor.Nu
end
section
namespace Go.Proofs.YtfoooldkmokjpaaGreatDoor.Pl
open Wo (Wd)
structure Cd where
 kind : Int
 lo : Tx
 hi : Tx
 n : Int
 kids : List Cd
structure St where
 what : Int
 n : Int
structure Ru where
 rank : Int
 cif : Cd
 unl : List Cd
 sets : List St
structure Pn where
 mode : Int
 indDed : Int
 famDed : Int
 indOop : Int
 famOop : Int
 rules : List Ru
def cd0 : Cd := .mk 0 [] [] 0 []
def goodB (n : Int) : Bool := decide (0 ≤ n) && decide (n ≤ 10000000000000)
def kidN (k : Int) : Nat := if k = 6 then 1 else if k = 7 ∨ k = 8 then 2 else 0
def loB (k : Int) (lo : Tx) : Bool := if k = 1 then Cm.codeB lo 5 5 else if k = 2 then Cm.codeB lo 2 2 else decide (lo = [])
def hiB (k : Int) (hi : Tx) : Bool := if k = 1 then Cm.codeB hi 5 5 else decide (hi = [])
def nB (k n : Int) : Bool := if k = 3 then decide (0 ≤ n) && decide (n ≤ 9999) else if k = 4 then goodB n else decide (n = 0)
def leafB (k : Int) (lo hi : Tx) (n : Int) : Bool := (decide (0 ≤ k) && decide (k ≤ 8)) && (loB k lo && (hiB k hi && nB k n))
def condB : Nat → Cd → Bool
 | 0, _ => false
 | f + 1, .mk k lo hi n ks => decide (ks.length = kidN k) && (ks.all (condB f) && leafB k lo hi n)
def setB (s : St) : Bool := decide (0 ≤ s.n) && (if s.what = 1 ∨ s.what = 2 then decide (s.n ≤ 1) else if s.what = 3 then goodB s.n else if s.what = 4 then decide (s.n ≤ 10000) else false)
def setsB : List Int → List St → Bool
 | _, [] => true
 | seen, s :: r => setB s && (decide (s.what ∉ seen) && setsB (seen ++ [s.what]) r)
def ruleB (r : Ru) : Bool := (decide (0 ≤ r.rank) && decide (r.rank ≤ 9999)) && (condB 16 r.cif && (decide (r.unl.length ≤ 1) && (r.unl.all (condB 16) && (decide (1 ≤ r.sets.length) && setsB [] r.sets))))
def limB (p : Pn) : Bool := goodB p.indDed && (goodB p.famOop && (decide (p.indDed ≤ p.famDed) && (decide (p.famDed ≤ p.famOop) && (decide (p.indDed ≤ p.indOop) && decide (p.indOop ≤ p.famOop)))))
def planB (p : Pn) : Bool := (decide (p.mode = 0) || decide (p.mode = 1)) && (decide (p.rules.length ≤ 64) && (limB p && p.rules.all ruleB))
def checkE (p : Pn) : Int := if planB p = true then 0 else 15
abbrev R (α : Type) := Except (Int × Nat) (α × List Wd)
def pos (E : Nat) : List Wd → Nat
 | [] => E
 | x :: _ => x.2
theorem map_cons {a : List Wd} {t : Tx} {ts : List Tx} (h : a.map (·.1) = t :: ts) : ∃ p r, a = (t, p) :: r ∧ r.map (·.1) = ts := by
 cases a with
 | nil => cases h
 | cons x r => simp only [List.map_cons, List.cons.injEq] at h; exact ⟨x.2, r, by rw [← h.1], h.2⟩
theorem map_nil {a : List Wd} (h : a.map (·.1) = []) : a = [] := by simpa using h
theorem k_cases {k : Int} (h0 : 0 ≤ k) (h8 : k ≤ 8) : k = 0 ∨ k = 1 ∨ k = 2 ∨ k = 3 ∨ k = 4 ∨ k = 5 ∨ k = 6 ∨ k = 7 ∨ k = 8 := by omega
end Go.Proofs.YtfoooldkmokjpaaGreatDoor.Pl
end
section
namespace Go.Proofs.YtfoooldkmokjpaaGreatDoor.Ul
open Pl (Cd St Ru Pn)
open Cm (Ln)
def holdsB (x : Ln) (net : Int) : Cd → Bool
 | ⟨k, lo, hi, n, ks⟩ =>
  if k = 0 then true
  else if k = 1 then !Op.bytesLess x.proc lo && !Op.bytesLess hi x.proc
  else if k = 2 then x.mods.any fun t => decide (t = lo)
  else if k = 3 then decide (n < x.units)
  else if k = 4 then decide (n < x.billed)
  else if k = 5 then decide (net = 1)
  else match ks with
   | [] => decide (k = 6)
   | [a] => if k = 6 then !holdsB x net a else if k = 8 then holdsB x net a else false
   | a :: b :: _ => if k = 6 then !holdsB x net a else if k = 7 then holdsB x net a && holdsB x net b else if k = 8 then holdsB x net a || holdsB x net b else false
def kidB (x : Ln) (net : Int) (ks : List Cd) (i : Nat) : Bool := (ks.map (holdsB x net)).getD i false
theorem kid_none (x : Ln) (net : Int) (ks : List Cd) (i : Nat) (h : ks.length ≤ i) : kidB x net ks i = false := by
 unfold kidB
 rw [List.getD_eq_getElem?_getD, List.getElem?_eq_none (by simpa using h)]; rfl
theorem kid_some (x : Ln) (net : Int) (ks : List Cd) (i : Nat) (c : Cd) (h : ks[i]? = some c) : kidB x net ks i = holdsB x net c := by
 unfold kidB
 rw [List.getD_eq_getElem?_getD, List.getElem?_map, h]; rfl
theorem holds_not (x : Ln) (net n : Int) (lo hi : Tx) (ks : List Cd) : holdsB x net (.mk 6 lo hi n ks) = !kidB x net ks 0 := by
 match ks with
 | [] => rw [holdsB]; rfl
 | [a] => rw [holdsB]; rfl
 | a :: b :: r => rw [holdsB]; rfl
theorem holds_and (x : Ln) (net n : Int) (lo hi : Tx) (ks : List Cd) : holdsB x net (.mk 7 lo hi n ks) = (kidB x net ks 0 && kidB x net ks 1) := by
 match ks with
 | [] => rw [holdsB]; rfl
 | [a] => rw [holdsB]; show false = (holdsB x net a && false); rw [Bool.and_false]
 | a :: b :: r => rw [holdsB]; rfl
theorem holds_or (x : Ln) (net n : Int) (lo hi : Tx) (ks : List Cd) : holdsB x net (.mk 8 lo hi n ks) = (kidB x net ks 0 || kidB x net ks 1) := by
 match ks with
 | [] => rw [holdsB]; rfl
 | [a] => rw [holdsB]; show holdsB x net a = (holdsB x net a || false); rw [Bool.or_false]
 | a :: b :: r => rw [holdsB]; rfl
theorem holds_none (x : Ln) (net n k : Int) (lo hi : Tx) (ks : List Cd) (h : k < 0 ∨ 8 < k) : holdsB x net (.mk k lo hi n ks) = false := by
 have e : ∀ j : Int, 0 ≤ j → j ≤ 8 → k ≠ j := fun j h0 h8 e => by omega
 match ks with
 | [] => rw [holdsB]; simp [e]
 | [a] => rw [holdsB]; simp [e]
 | a :: b :: r => rw [holdsB]; simp [e]
def appB (x : Ln) (net : Int) (r : Ru) : Bool := holdsB x net r.cif && !r.unl.any (holdsB x net)
def setOf (what : Int) (l : List St) : Option Int := (l.find? fun s => decide (s.what = what)).map (·.n)
def stepV (x : Ln) (net what : Int) (b : Int × Int) (r : Ru) : Int × Int :=
 if r.rank ≤ b.1 then b else if appB x net r = true then (match setOf what r.sets with | some n => (r.rank, n) | none => b) else b
def bestV (x : Ln) (net what : Int) (l : List Ru) : Int × Int := l.foldl (stepV x net what) (-1, 0)
def valV (x : Ln) (net what : Int) (l : List Ru) : Int := (bestV x net what l).2
theorem step_out {x : Ln} {net what : Int} {b : Int × Int} {r : Ru} (h : appB x net r = false) : stepV x net what b r = b := by
 unfold stepV; rw [h]; split <;> rfl
end Go.Proofs.YtfoooldkmokjpaaGreatDoor.Ul
end
section
namespace Go.Proofs.YtfoooldkmokjpaaGreatDoor.Wo
def PlOk (s : Tx) : Nat → List Wd → Prop
 | _, [] => True
 | a, x :: r => a ≤ x.2 ∧ x.1 ≠ [] ∧ x.2 + x.1.length ≤ s.length ∧ (s.drop x.2).take x.1.length = x.1 ∧ PlOk s (x.2 + x.1.length) r
theorem PlOk.at {s : Tx} {a : Nat} {l : List Wd} {k : Nat} (h : PlOk s a (l.drop k)) (hk : k < l.length) : a ≤ l[k].2 ∧ l[k].1 ≠ [] ∧ l[k].2 + l[k].1.length ≤ s.length ∧ (s.drop l[k].2).take l[k].1.length = l[k].1 ∧ PlOk s (l[k].2 + l[k].1.length) (l.drop (k + 1)) := by
 rw [List.drop_eq_getElem_cons hk] at h
 exact h
end Go.Proofs.YtfoooldkmokjpaaGreatDoor.Wo
end
section
namespace Go.Proofs.YtfoooldkmokjpaaGreatDoor.Pl
open Wo (Wd kd)
end Go.Proofs.YtfoooldkmokjpaaGreatDoor.Pl
end
section
namespace Go.Proofs.YtfoooldkmokjpaaGreatDoor.Pl
open Wo (Wd)
end Go.Proofs.YtfoooldkmokjpaaGreatDoor.Pl
end
section
namespace Go.Proofs.YtfoooldkmokjpaaGreatDoor.Pl
open Wo (Wd kd)
def Lies (E : Nat) (l : List Wd) : Prop := ∀ x ∈ l, x.2 ≤ E
theorem Lies.pos {E : Nat} {l : List Wd} (h : Lies E l) : pos E l ≤ E := by
 cases l with
 | nil => exact Nat.le_refl _
 | cons x r => exact h x List.mem_cons_self
end Go.Proofs.YtfoooldkmokjpaaGreatDoor.Pl
end
section
namespace Go.Proofs.YtfoooldkmokjpaaGreatDoor.Pl
def cntC : Nat → Cd → Nat
 | 0, _ => 0
 | f + 1, .mk _ _ _ _ ks => 1 + (ks.map (cntC f)).sum
def cntR (r : Ru) : Nat := 1 + r.sets.length + cntC 16 r.cif + (r.unl.map (cntC 16)).sum
def cntP (p : Pn) : Nat := (p.rules.map cntR).sum
end Go.Proofs.YtfoooldkmokjpaaGreatDoor.Pl
end
