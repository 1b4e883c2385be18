/-
  Texts put together (merge.py): ZMath, ZLook, ZOrd, ZPrice, ZBound, XMath, QMem.
-/
import Derived.Sort.Walk0
import Derived.Below
import Derived.Laws.AppendOwn
import Derived.Deep.AppendLies
import Derived.Maps.AppendAt
import Derived.WalkKit
import Derived.Test.YtfoooldkmokjpaaGreatDoorMj2
set_option linter.unusedSimpArgs false
set_option linter.unusedVariables false
section
namespace Go.Proofs.YtfoooldkmokjpaaGreatDoor.Fe
open Wo (Wd)
open Pl (pos R)
structure Fee where
 proc : Tx
 mod : Tx
 net : Int
 frm : Int
 cents : Int
def lessT (a b : Tx) : Bool := Op.bytesLess a b
theorem less_irr (a : Tx) : lessT a a = false := by unfold lessT; rw [Go.Proofs.bytesLess_eq]; simp [List.lt_irrefl]
theorem less_asym {a b : Tx} (h : lessT a b = true) : lessT b a = false := by
 unfold lessT at *
 rw [Go.Proofs.bytesLess_eq] at h ⊢
 simp only [decide_eq_true_eq, decide_eq_false_iff_not] at *
 exact List.not_lt.2 (List.le_of_lt h)
theorem less_trans {a b c : Tx} (h : lessT a b = true) (h2 : lessT b c = true) : lessT a c = true := by
 unfold lessT at *
 rw [Go.Proofs.bytesLess_eq] at h h2 ⊢
 simp only [decide_eq_true_eq] at *
 exact List.lt_trans h h2
theorem less_tri (a b : Tx) : lessT a b = true ∨ a = b ∨ lessT b a = true := by
 unfold lessT
 rw [Go.Proofs.bytesLess_eq, Go.Proofs.bytesLess_eq]
 simp only [decide_eq_true_eq]
 rcases Classical.em (a < b) with h | h
 ·exact Or.inl h
 ·rcases Classical.em (b < a) with h2 | h2
  ·exact Or.inr (Or.inr h2)
  ·exact Or.inr (Or.inl (List.le_antisymm (List.not_lt.1 h2) (List.not_lt.1 h)))
def aheadB (a b : Fee) : Bool := if a.proc = b.proc then (if a.mod = b.mod then (if a.net = b.net then decide (a.frm < b.frm) else decide (a.net < b.net)) else lessT a.mod b.mod) else lessT a.proc b.proc
def sameP (a b : Fee) : Prop := a.proc = b.proc ∧ a.mod = b.mod ∧ a.net = b.net ∧ a.frm = b.frm
theorem sameP.symm {a b : Fee} (h : sameP a b) : sameP b a := ⟨h.1.symm, h.2.1.symm, h.2.2.1.symm, h.2.2.2.symm⟩
theorem ahead_irr {a b : Fee} (h : sameP a b) : aheadB a b = false := by
 obtain ⟨h1, h2, h3, h4⟩ := h
 unfold aheadB
 rw [if_pos h1, if_pos h2, if_pos h3, h4]; simp
theorem ahead_asym {a b : Fee} (h : aheadB a b = true) : aheadB b a = false := by
 unfold aheadB at *
 by_cases h1 : a.proc = b.proc
 ·rw [if_pos h1] at h; rw [if_pos h1.symm]
  by_cases h2 : a.mod = b.mod
  ·rw [if_pos h2] at h; rw [if_pos h2.symm]
   by_cases h3 : a.net = b.net
   ·rw [if_pos h3] at h; rw [if_pos h3.symm]; simp at *; omega
   ·rw [if_neg h3] at h; rw [if_neg (Ne.symm h3)]; simp at *; omega
  ·rw [if_neg h2] at h; rw [if_neg (Ne.symm h2)]; exact less_asym h
 ·rw [if_neg h1] at h; rw [if_neg (Ne.symm h1)]; exact less_asym h
theorem ahead_tri (a b : Fee) : aheadB a b = true ∨ sameP a b ∨ aheadB b a = true := by
 unfold aheadB sameP
 by_cases h1 : a.proc = b.proc
 ·rw [if_pos h1, if_pos h1.symm]
  by_cases h2 : a.mod = b.mod
  ·rw [if_pos h2, if_pos h2.symm]
   by_cases h3 : a.net = b.net
   ·rw [if_pos h3, if_pos h3.symm]; simp [h1, h2, h3]; omega
   ·rw [if_neg h3, if_neg (Ne.symm h3)]; simp; omega
  ·rw [if_neg h2, if_neg (Ne.symm h2)]
   rcases less_tri a.mod b.mod with h | h | h
   ·exact Or.inl h
   ·exact absurd h h2
   ·exact Or.inr (Or.inr h)
 ·rw [if_neg h1, if_neg (Ne.symm h1)]
  rcases less_tri a.proc b.proc with h | h | h
  ·exact Or.inl h
  ·exact absurd h h1
  ·exact Or.inr (Or.inr h)
theorem ahead_trans {a b c : Fee} (h : aheadB a b = true) (h' : aheadB b c = true) : aheadB a c = true := by
 unfold aheadB at *
 by_cases h1 : a.proc = b.proc
 ·rw [if_pos h1] at h
  by_cases k1 : b.proc = c.proc
  ·rw [if_pos k1] at h'; rw [if_pos (h1.trans k1)]
   by_cases h2 : a.mod = b.mod
   ·rw [if_pos h2] at h
    by_cases k2 : b.mod = c.mod
    ·rw [if_pos k2] at h'; rw [if_pos (h2.trans k2)]
     by_cases h3 : a.net = b.net
     ·rw [if_pos h3] at h
      by_cases k3 : b.net = c.net
      ·rw [if_pos k3] at h'; rw [if_pos (h3.trans k3)]; simp at *; omega
      ·rw [if_neg k3] at h'; rw [if_neg (by rw [h3]; exact k3)]; simp at *; omega
     ·rw [if_neg h3] at h
      by_cases k3 : b.net = c.net
      ·rw [if_neg (by rw [← k3]; exact h3)]; simp at *; omega
      ·rw [if_neg k3] at h'; simp at h h'; rw [if_neg (by omega)]; simp; omega
    ·rw [if_neg k2] at h'; rw [if_neg (by rw [h2]; exact k2), h2]; exact h'
   ·rw [if_neg h2] at h
    by_cases k2 : b.mod = c.mod
    ·rw [if_neg (by rw [← k2]; exact h2), ← k2]; exact h
    ·rw [if_neg k2] at h'
     have ht := less_trans h h'
     rw [if_neg (fun e => by rw [e, less_irr] at ht; cases ht)]; exact ht
  ·rw [if_neg k1] at h'; rw [if_neg (by rw [h1]; exact k1), h1]; exact h'
 ·rw [if_neg h1] at h
  by_cases k1 : b.proc = c.proc
  ·rw [if_neg (by rw [← k1]; exact h1), ← k1]; exact h
  ·rw [if_neg k1] at h'
   have ht := less_trans h h'
   rw [if_neg (fun e => by rw [e, less_irr] at ht; cases ht)]; exact ht
theorem ahead_same {a b c : Fee} (h : sameP a b) : aheadB a c = aheadB b c ∧ aheadB c a = aheadB c b := by
 obtain ⟨h1, h2, h3, h4⟩ := h
 unfold aheadB
 rw [h1, h2, h3, h4]
 exact ⟨rfl, rfl⟩
def oneE (f : Fee) : Int := if Cm.codeB f.proc 5 5 && (decide (f.mod = []) || Cm.codeB f.mod 2 2) then (if 0 ≤ f.net ∧ f.net ≤ 1 then (if Da.good f.frm = true then (if Pl.goodB f.cents = true then 0 else 8) else 7) else 3) else 9
def firstE : List Fee → Int
 | [] => 0
 | f :: r => if oneE f = 0 then firstE r else oneE f
def nbE : List Fee → Int
 | a :: b :: r => if aheadB b a = true then 11 else if aheadB a b = true then nbE (b :: r) else 12
 | _ => 0
def checkE (l : List Fee) : Int := if 512 < l.length then 10 else if firstE l = 0 then nbE l else firstE l
def Up (l : List Fee) : Prop := l.Pairwise fun a b => aheadB a b = true
def Wk (l : List Fee) : Prop := l.Pairwise fun a b => aheadB b a = false
theorem Up.wk {l : List Fee} (h : Up l) : Wk l := List.Pairwise.imp (fun h => ahead_asym h) h
theorem nb_up : ∀ (l : List Fee), nbE l = 0 ↔ Up l
 | [] => by simp [nbE, Up]
 | [a] => by simp [nbE, Up]
 | a :: b :: r => by
  have ih := nb_up (b :: r)
  unfold nbE
  by_cases h1 : aheadB b a = true
  ·rw [if_pos h1]
   refine ⟨fun h => (by cases h), fun h => ?_⟩
   have := (List.pairwise_cons.1 h).1 b List.mem_cons_self
   rw [ahead_asym this] at h1; cases h1
  ·rw [if_neg h1]
   by_cases h2 : aheadB a b = true
   ·rw [if_pos h2, ih]
    refine ⟨fun h => List.pairwise_cons.2 ⟨fun x hx => ?_, h⟩, fun h => (List.pairwise_cons.1 h).2⟩
    rcases List.mem_cons.1 hx with rfl | hx
    ·exact h2
    ·exact ahead_trans h2 ((List.pairwise_cons.1 h).1 x hx)
   ·rw [if_neg h2]
    refine ⟨fun h => (by cases h), fun h => ?_⟩
    exact absurd ((List.pairwise_cons.1 h).1 b List.mem_cons_self) h2
def put : List Fee → Fee → List Fee
 | [], f => [f]
 | x :: r, f => if aheadB f x = true then f :: x :: r else x :: put r f
def Apart (l : List Fee) : Prop := l.Pairwise fun a b => ¬ sameP a b
theorem wk_up {l : List Fee} (h : Wk l) : Up l ↔ Apart l := by
 constructor
 ·intro hu
  exact List.Pairwise.imp (fun {a b} hab hs => by rw [ahead_irr hs] at hab; cases hab) hu
 ·intro ha
  have := List.Pairwise.and h ha
  exact List.Pairwise.imp (fun {a b} hab => by
   rcases ahead_tri a b with h | h | h
   ·exact h
   ·exact absurd h hab.2
   ·rw [hab.1] at h; cases h) this
end Go.Proofs.YtfoooldkmokjpaaGreatDoor.Fe
end
section
namespace Go.Proofs.YtfoooldkmokjpaaGreatDoor.Fe
open Wo (Wd)
structure Key where
 proc : Tx
 mod : Tx
 net : Int
 day : Int
def hit (k : Key) (f : Fee) : Bool := decide (f.proc = k.proc) && (decide (f.mod = k.mod) && (decide (f.net = k.net) && decide (f.frm ≤ k.day)))
theorem hit_iff {k : Key} {f : Fee} : hit k f = true ↔ f.proc = k.proc ∧ f.mod = k.mod ∧ f.net = k.net ∧ f.frm ≤ k.day := by simp [hit]
def stepL (k : Key) (b : Option Fee) (f : Fee) : Option Fee := if hit k f = true then (match b with | none => some f | some g => if g.frm < f.frm then some f else some g) else b
def lookF (k : Key) (l : List Fee) : Option Fee := l.foldl (stepL k) none
def lookV (k : Key) (l : List Fee) : Int := ((lookF k l).map (·.cents)).getD 0
def lookB (k : Key) (l : List Fee) : Bool := (lookF k l).isSome
theorem step_no {k : Key} {b : Option Fee} {f : Fee} (h : hit k f = false) : stepL k b f = b := by unfold stepL; rw [h]; rfl
theorem look_mem (k : Key) : ∀ (l : List Fee) (b : Option Fee) (g : Fee), l.foldl (stepL k) b = some g → (g ∈ l ∧ hit k g = true) ∨ b = some g
 | [], b, g, h => Or.inr h
 | f :: r, b, g, h => by
  rw [List.foldl_cons] at h
  rcases look_mem k r _ g h with h1 | h1
  ·exact Or.inl ⟨List.mem_cons_of_mem _ h1.1, h1.2⟩
  ·cases hf : hit k f with
   | false => rw [step_no hf] at h1; exact Or.inr h1
   | true =>
    unfold stepL at h1
    rw [if_pos hf] at h1
    cases b with
    | none => simp only [Option.some.injEq] at h1; subst h1; exact Or.inl ⟨List.mem_cons_self, hf⟩
    | some q =>
     simp only at h1
     split at h1
     ·simp only [Option.some.injEq] at h1; subst h1; exact Or.inl ⟨List.mem_cons_self, hf⟩
     ·exact Or.inr h1
theorem look_all (k : Key) : ∀ (l : List Fee) (b : Option Fee), (∀ f ∈ l, hit k f = true → ∃ g, l.foldl (stepL k) b = some g ∧ f.frm ≤ g.frm) ∧ (∀ q, b = some q → ∃ g, l.foldl (stepL k) b = some g ∧ q.frm ≤ g.frm)
 | [], b => ⟨fun f hf => (by cases hf), fun q hq => ⟨q, hq, by omega⟩⟩
 | f :: r, b => by
  obtain ⟨i1, i2⟩ := look_all k r (stepL k b f)
  refine ⟨fun x hx hh => ?_, fun q hq => ?_⟩
  ·rcases List.mem_cons.1 hx with rfl | hx
   ·have : ∃ y, stepL k b x = some y ∧ x.frm ≤ y.frm := by
     unfold stepL
     rw [if_pos hh]
     cases b with
     | none => exact ⟨x, rfl, by omega⟩
     | some z =>
      simp only
      split
      ·exact ⟨x, rfl, by omega⟩
      ·exact ⟨z, rfl, by omega⟩
    obtain ⟨y, hy, hxy⟩ := this
    obtain ⟨g, hg, hyg⟩ := i2 y hy
    exact ⟨g, hg, by omega⟩
   ·exact i1 x hx hh
  ·have : ∃ y, stepL k b f = some y ∧ q.frm ≤ y.frm := by
    unfold stepL
    subst hq
    split
    ·simp only
     split
     ·exact ⟨f, rfl, by omega⟩
     ·exact ⟨q, rfl, by omega⟩
    ·exact ⟨q, rfl, by omega⟩
   obtain ⟨y, hy, hqy⟩ := this
   obtain ⟨g, hg, hyg⟩ := i2 y hy
   exact ⟨g, hg, by omega⟩
theorem look_some {k : Key} {l : List Fee} {g : Fee} (hd : Apart l) (hg : g ∈ l) (hh : hit k g = true) (hm : ∀ f ∈ l, hit k f = true → f.frm ≤ g.frm) : lookF k l = some g := by
 obtain ⟨y, hy, hle⟩ := (look_all k l none).1 g hg hh
 rcases look_mem k l none y hy with ⟨y1, y2⟩ | h
 ·have e1 := hm y y1 y2
  have e : y = g := by
   rcases Classical.em (y = g) with e | e
   ·exact e
   ·exfalso
    obtain ⟨a1, a2, a3, -⟩ := hit_iff.1 hh
    obtain ⟨b1, b2, b3, -⟩ := hit_iff.1 y2
    have hs : sameP y g := ⟨b1.trans a1.symm, b2.trans a2.symm, b3.trans a3.symm, by omega⟩
    have : ∀ (l : List Fee), Apart l → y ∈ l → g ∈ l → False := fun l => by
     induction l with
     | nil => intro _ h; cases h
     | cons z r ih =>
      intro ha h1 h2
      obtain ⟨k1, k2⟩ := List.pairwise_cons.1 ha
      rcases List.mem_cons.1 h1 with e1 | m1
      ·rcases List.mem_cons.1 h2 with e2 | m2
       ·exact e (e1.trans e2.symm)
       ·exact k1 g m2 (e1 ▸ hs)
      ·rcases List.mem_cons.1 h2 with e2 | m2
       ·exact k1 y m1 (e2 ▸ hs.symm)
       ·exact ih k2 m1 m2
    exact this l hd y1 hg
  rw [← e]; exact hy
 ·cases h
theorem look_none {k : Key} {l : List Fee} (h : ∀ f ∈ l, hit k f = false) : lookF k l = none := by
 cases hl : lookF k l with
 | none => rfl
 | some g =>
  rcases look_mem k l none g hl with ⟨h1, h2⟩ | h1
  ·rw [h g h1] at h2; cases h2
  ·cases h1
end Go.Proofs.YtfoooldkmokjpaaGreatDoor.Fe
end
section
namespace Go.Proofs.YtfoooldkmokjpaaGreatDoor.Fe
def cmpT (a b : Tx) : Int := if lessT a b = true then -1 else if lessT b a = true then 1 else 0
def cmpZ (a b : Int) : Int := if a < b then -1 else if b < a then 1 else 0
def orI (a b : Int) : Int := if a = 0 then b else a
def ordV (a b : Fee) : Int := orI (cmpT a.proc b.proc) (orI (cmpT a.mod b.mod) (orI (cmpZ a.net b.net) (cmpZ a.frm b.frm)))
theorem cmpT_self (a : Tx) : cmpT a a = 0 := by unfold cmpT; rw [less_irr]; simp
theorem cmpT_ne {a b : Tx} (h : a ≠ b) : cmpT a b = if lessT a b = true then -1 else 1 := by
 unfold cmpT
 rcases less_tri a b with h1 | h1 | h1
 ·rw [if_pos h1, if_pos h1]
 ·exact absurd h1 h
 ·rw [less_asym h1, h1]; rfl
theorem cmpT_nz {a b : Tx} (h : a ≠ b) : cmpT a b ≠ 0 := by rw [cmpT_ne h]; split <;> decide
theorem orI_z (b : Int) : orI 0 b = b := rfl
theorem orI_nz {a : Int} (b : Int) (h : a ≠ 0) : orI a b = a := if_neg h
theorem ord_neg (a b : Fee) : ordV a b < 0 ↔ aheadB a b = true := by
 unfold ordV aheadB
 by_cases h1 : a.proc = b.proc
 ·rw [if_pos h1, h1, cmpT_self, orI_z]
  by_cases h2 : a.mod = b.mod
  ·rw [if_pos h2, h2, cmpT_self, orI_z]
   by_cases h3 : a.net = b.net
   ·rw [if_pos h3, h3]
    have : cmpZ b.net b.net = 0 := by unfold cmpZ; rw [if_neg (by omega), if_neg (by omega)]
    rw [this, orI_z]
    unfold cmpZ
    by_cases h4 : a.frm < b.frm
    ·rw [if_pos h4]; simp [h4]
    ·rw [if_neg h4]; simp [h4]; split <;> omega
   ·rw [if_neg h3]
    have hz : cmpZ a.net b.net = if a.net < b.net then -1 else 1 := by unfold cmpZ; by_cases h : a.net < b.net; rw [if_pos h, if_pos h]; rw [if_neg h, if_neg h, if_pos (by omega)]
    rw [orI_nz _ (by rw [hz]; split <;> decide), hz]
    by_cases h : a.net < b.net
    ·rw [if_pos h]; simp [h]
    ·rw [if_neg h]; simp [h]
  ·rw [if_neg h2, orI_nz _ (cmpT_nz h2), cmpT_ne h2]
   cases lessT a.mod b.mod <;> decide
 ·rw [if_neg h1, orI_nz _ (cmpT_nz h1), cmpT_ne h1]
  cases lessT a.proc b.proc <;> decide
theorem ord_zero (a b : Fee) : ordV a b = 0 ↔ sameP a b := by
 unfold ordV sameP
 by_cases h1 : a.proc = b.proc
 ·rw [h1, cmpT_self, orI_z]
  by_cases h2 : a.mod = b.mod
  ·rw [h2, cmpT_self, orI_z]
   by_cases h3 : a.net = b.net
   ·rw [h3]
    have : cmpZ b.net b.net = 0 := by unfold cmpZ; rw [if_neg (by omega), if_neg (by omega)]
    rw [this, orI_z]
    unfold cmpZ
    by_cases h4 : a.frm < b.frm
    ·rw [if_pos h4]; exact ⟨fun h => absurd h (by decide), fun h => absurd h.2.2.2 (by omega)⟩
    ·rw [if_neg h4]
     by_cases h5 : b.frm < a.frm
     ·rw [if_pos h5]; exact ⟨fun h => absurd h (by decide), fun h => absurd h.2.2.2 (by omega)⟩
     ·rw [if_neg h5]; exact ⟨fun _ => ⟨rfl, rfl, rfl, by omega⟩, fun _ => rfl⟩
   ·have hz : cmpZ a.net b.net ≠ 0 := by unfold cmpZ; by_cases h : a.net < b.net; rw [if_pos h]; decide; rw [if_neg h, if_pos (by omega)]; decide
    rw [orI_nz _ hz]
    simp [hz, h3]
  ·rw [orI_nz _ (cmpT_nz h2)]; simp [cmpT_nz h2, h2]
 ·rw [orI_nz _ (cmpT_nz h1)]; simp [cmpT_nz h1, h1]
theorem ord_pos (a b : Fee) : 0 < ordV a b ↔ aheadB b a = true := by
 rcases ahead_tri a b with h | h | h
 ·have := (ord_neg a b).2 h
  rw [ahead_asym h]; simp; omega
 ·have := (ord_zero a b).2 h
  rw [ahead_irr h.symm]; simp; omega
 ·have h1 : ¬ ordV a b < 0 := fun e => by rw [ord_neg, ahead_asym h] at e; cases e
  have h2 : ordV a b ≠ 0 := fun e => by rw [ahead_irr ((ord_zero a b).1 e).symm] at h; cases h
  simp [h]; omega
theorem nb_step (a b : Fee) (r : List Fee) : nbE (a :: b :: r) = if ordV a b = 0 then 12 else if 0 < ordV a b then 11 else nbE (b :: r) := by
 conv => lhs; unfold nbE
 rcases ahead_tri a b with h | h | h
 ·have h1 := (ord_neg a b).2 h
  rw [ahead_asym h, h, if_neg (by decide), if_pos rfl, if_neg (by omega), if_neg (by omega)]
 ·rw [ahead_irr h, ahead_irr h.symm, if_neg (by decide), if_neg (by decide), if_pos ((ord_zero a b).2 h)]
 ·have h1 := (ord_pos a b).2 h
  rw [h, if_pos rfl, if_neg (by omega), if_pos h1]
def keyF (k : Key) : Fee := ⟨k.proc, k.mod, k.net, k.day, 0⟩
def subB (k : Key) (f : Fee) : Bool := decide (f.proc = k.proc) && (decide (f.mod = k.mod) && decide (f.net = k.net))
theorem sub_iff {k : Key} {f : Fee} : subB k f = true ↔ f.proc = k.proc ∧ f.mod = k.mod ∧ f.net = k.net := by simp [subB]
theorem up_at {l : List Fee} (h : Up l) {i j : Nat} (hi : i < l.length) (hj : j < l.length) (hij : i < j) : aheadB l[i] l[j] = true := List.pairwise_iff_getElem.1 h i j hi hj hij
theorem between {a b : Fee} {k : Key} (ha : subB k a = true) (h1 : aheadB a b = true) (h2 : aheadB b (keyF k) = true) : subB k b = true := by
 obtain ⟨p1, p2, p3⟩ := sub_iff.1 ha
 rw [sub_iff]
 unfold aheadB keyF at *
 simp only at h2
 by_cases e1 : b.proc = k.proc
 ·refine ⟨e1, ?_⟩
  rw [if_pos (p1.trans e1.symm)] at h1
  rw [if_pos e1] at h2
  by_cases e2 : b.mod = k.mod
  ·refine ⟨e2, ?_⟩
   rw [if_pos (p2.trans e2.symm)] at h1
   rw [if_pos e2] at h2
   rcases Classical.em (b.net = k.net) with e3 | e3
   ·exact e3
   ·exfalso
    rw [if_neg (by omega)] at h1
    rw [if_neg e3] at h2
    simp at h1 h2; omega
  ·exfalso
   rw [if_neg (by rw [p2]; exact Ne.symm e2), p2] at h1
   rw [if_neg e2] at h2
   have := less_trans h1 h2
   rw [less_irr] at this; cases this
 ·exfalso
  rw [if_neg (by rw [p1]; exact Ne.symm e1), p1] at h1
  rw [if_neg e1] at h2
  have := less_trans h1 h2
  rw [less_irr] at this; cases this
theorem key_same {k : Key} {f : Fee} : sameP f (keyF k) ↔ subB k f = true ∧ f.frm = k.day := by rw [sub_iff]; unfold sameP keyF; simp; exact ⟨fun ⟨a, b, c, d⟩ => ⟨⟨a, b, c⟩, d⟩, fun ⟨⟨a, b, c⟩, d⟩ => ⟨a, b, c, d⟩⟩
theorem sub_ahead {k : Key} {f : Fee} (h : subB k f = true) : aheadB f (keyF k) = decide (f.frm < k.day) := by
 obtain ⟨p1, p2, p3⟩ := sub_iff.1 h
 unfold aheadB keyF
 simp only
 rw [if_pos p1, if_pos p2, if_pos p3]
theorem hit_sub {k : Key} {f : Fee} : hit k f = true ↔ subB k f = true ∧ f.frm ≤ k.day := by rw [hit_iff, sub_iff]; exact ⟨fun ⟨a, b, c, d⟩ => ⟨⟨a, b, c⟩, d⟩, fun ⟨⟨a, b, c⟩, d⟩ => ⟨a, b, c, d⟩⟩
theorem look_found {l : List Fee} (h : Up l) (k : Key) (i : Nat) (hi : i < l.length) (hs : sameP l[i] (keyF k)) : lookF k l = some l[i] := by
 obtain ⟨s1, s2⟩ := key_same.1 hs
 exact look_some ((wk_up h.wk).1 h) (List.getElem_mem hi) (hit_sub.2 ⟨s1, by omega⟩) fun f _ hf => by have := (hit_sub.1 hf).2; omega
theorem hit_ahead {l : List Fee} (h : Up l) (k : Key) (i : Nat) (hle : i ≤ l.length) (h2 : ∀ t (ht : t < l.length), i ≤ t → aheadB l[t] (keyF k) = false) (hn : ∀ hi : i < l.length, ¬ sameP l[i] (keyF k)) (t : Nat) (ht : t < l.length) (hh : hit k l[t] = true) : t < i := by
 rcases Nat.lt_or_ge t i with c | c
 ·exact c
 ·exfalso
  obtain ⟨s1, s2⟩ := hit_sub.1 hh
  have e := h2 t ht c
  rw [sub_ahead s1] at e
  have hd : l[t].frm = k.day := by simp at e; omega
  have hst : sameP l[t] (keyF k) := key_same.2 ⟨s1, hd⟩
  rcases Nat.lt_or_ge i t with c2 | c2
  ·have hi : i < l.length := by omega
   have e2 := up_at h hi ht c2
   rw [(ahead_same hst (c := l[i])).2, h2 i hi (Nat.le_refl _)] at e2; cases e2
  ·have : t = i := by omega
   subst this
   exact hn ht hst
theorem look_last {l : List Fee} (h : Up l) (k : Key) (i : Nat) (hle : i + 1 ≤ l.length) (h1 : ∀ t (ht : t < l.length), t < i + 1 → aheadB l[t] (keyF k) = true) (h2 : ∀ t (ht : t < l.length), i + 1 ≤ t → aheadB l[t] (keyF k) = false) (hn : ∀ hi : i + 1 < l.length, ¬ sameP l[i + 1] (keyF k)) (hs : subB k (l[i]'(by omega)) = true) : lookF k l = some (l[i]'(by omega)) := by
 have hi : i < l.length := by omega
 refine look_some ((wk_up h.wk).1 h) (List.getElem_mem hi) (hit_sub.2 ⟨hs, ?_⟩) fun f hf hh => ?_
 ·have := h1 i hi (by omega)
  rw [sub_ahead hs] at this; simp at this; omega
 ·obtain ⟨t, ht, rfl⟩ := List.getElem_of_mem hf
  have ht2 := hit_ahead h k (i + 1) hle h2 hn t ht hh
  rcases Nat.lt_or_ge t i with c | c
  ·have e := up_at h ht hi c
   obtain ⟨a1, a2, a3⟩ := sub_iff.1 (hit_sub.1 hh).1
   obtain ⟨b1, b2, b3⟩ := sub_iff.1 hs
   unfold aheadB at e
   rw [if_pos (a1.trans b1.symm), if_pos (a2.trans b2.symm), if_pos (a3.trans b3.symm)] at e
   simp at e; omega
  ·have : t = i := by omega
   subst this; omega
theorem look_no {l : List Fee} (h : Up l) (k : Key) (i : Nat) (hle : i ≤ l.length) (h1 : ∀ t (ht : t < l.length), t < i → aheadB l[t] (keyF k) = true) (h2 : ∀ t (ht : t < l.length), i ≤ t → aheadB l[t] (keyF k) = false) (hn : ∀ hi : i < l.length, ¬ sameP l[i] (keyF k)) (hs : i = 0 ∨ ∃ h0 : i - 1 < l.length, subB k l[i - 1] = false) : lookF k l = none := by
 refine look_none fun f hf => ?_
 cases hh : hit k f with
 | false => rfl
 | true =>
  exfalso
  obtain ⟨t, ht, rfl⟩ := List.getElem_of_mem hf
  have ht2 := hit_ahead h k i hle h2 hn t ht hh
  rcases hs with rfl | ⟨h0, hs⟩
  ·omega
  ·have hsub := (hit_sub.1 hh).1
   rcases Nat.lt_or_ge t (i - 1) with c | c
   ·have := between hsub (up_at h ht h0 c) (h1 (i - 1) h0 (by omega))
    rw [hs] at this; cases this
   ·have e : t = i - 1 := by omega
    subst e
    rw [hs] at hsub; cases hsub
end Go.Proofs.YtfoooldkmokjpaaGreatDoor.Fe
end
section
namespace Go.Proofs.YtfoooldkmokjpaaGreatDoor.Fe
open Cm (Ln)
def firstF (l : List Fee) (x : Ln) (net : Int) : List Tx → Option Fee
 | [] => none
 | t :: r => if lookB ⟨x.proc, t, net, x.date⟩ l = true then lookF ⟨x.proc, t, net, x.date⟩ l else firstF l x net r
def priceF (l : List Fee) (x : Ln) (net : Int) : Option Fee := firstF l x net (x.mods ++ [[]])
def priceV (l : List Fee) (x : Ln) (net : Int) : Int := ((priceF l x net).map (·.cents)).getD 0
def priceB (l : List Fee) (x : Ln) (net : Int) : Bool := (priceF l x net).isSome
def allowV (l : List Fee) (x : Ln) (net : Int) : Int := if priceB l x net = true then (if Ce.scaleE (priceV l x net) x.units 1 ≠ 0 ∨ x.billed < Ce.scaleV (priceV l x net) x.units 1 then x.billed else Ce.scaleV (priceV l x net) x.units 1) else 0
theorem first_drop {l : List Fee} {x : Ln} {net : Int} {n : Nat} (h : n < x.mods.length) : firstF l x net (x.mods.drop n ++ [[]]) = if lookB ⟨x.proc, x.mods[n], net, x.date⟩ l = true then lookF ⟨x.proc, x.mods[n], net, x.date⟩ l else firstF l x net (x.mods.drop (n + 1) ++ [[]]) := by
 rw [List.drop_eq_getElem_cons h]; rfl
theorem price_hit {l : List Fee} {x : Ln} {net : Int} {b : Option Fee} {t : Tx} {V : Int} {s : List Tx} (h1 : firstF l x net s = firstF l x net (x.mods ++ [[]])) (h2 : firstF l x net s = if true = true then lookF ⟨x.proc, t, net, x.date⟩ l else b) (h3 : lookB ⟨x.proc, t, net, x.date⟩ l = true) (h4 : lookV ⟨x.proc, t, net, x.date⟩ l = V) : priceV l x net = V ∧ priceB l x net = true := by
 unfold priceV priceB priceF
 rw [← h1, h2, if_pos rfl]
 exact ⟨h4, h3⟩
theorem price_none {l : List Fee} {x : Ln} {net : Int} {n : Nat} (h : x.mods.length ≤ n) (h1 : firstF l x net (x.mods.drop n ++ [[]]) = firstF l x net (x.mods ++ [[]])) : priceV l x net = lookV ⟨x.proc, [], net, x.date⟩ l ∧ priceB l x net = lookB ⟨x.proc, [], net, x.date⟩ l := by
 rw [List.drop_eq_nil_of_le h] at h1
 unfold priceV priceB priceF
 rw [← h1]
 show ((if lookB ⟨x.proc, [], net, x.date⟩ l = true then lookF ⟨x.proc, [], net, x.date⟩ l else none).map (·.cents)).getD 0 = _ ∧ (if lookB ⟨x.proc, [], net, x.date⟩ l = true then lookF ⟨x.proc, [], net, x.date⟩ l else none).isSome = _
 cases hb : lookB ⟨x.proc, [], net, x.date⟩ l
 ·rw [if_neg (by decide)]
  refine ⟨?_, rfl⟩
  unfold lookB at hb
  unfold lookV
  cases hf : lookF ⟨x.proc, [], net, x.date⟩ l with
  | none => rfl
  | some f => rw [hf] at hb; cases hb
 ·rw [if_pos rfl]
  exact ⟨rfl, hb⟩
end Go.Proofs.YtfoooldkmokjpaaGreatDoor.Fe
end
section
namespace Go.Proofs.YtfoooldkmokjpaaGreatDoor.Fe
open Cm (Ln)
end Go.Proofs.YtfoooldkmokjpaaGreatDoor.Fe
end
section
namespace Go.Proofs.YtfoooldkmokjpaaGreatDoor.Ex
open Wo (Wd)
open Pl (R)
open Cm (Ln)
structure Ed where
 kind : Int
 a : Tx
 b : Tx
 bypass : Bool
 n : Int
def oneE (x : Ed) : Int :=
 if Cm.codeB x.a 5 5 = true then
  (if x.kind = 1 ∨ x.kind = 2 ∨ x.kind = 3 then
   (if x.kind = 3 then (if x.b = [] ∧ x.bypass = false ∧ 1 ≤ x.n ∧ x.n ≤ 9999 then 0 else 1)
   else (if x.a ≠ x.b ∧ Cm.codeB x.b 5 5 = true then (if x.n = 0 ∧ ¬ (x.kind = 2 ∧ x.bypass = true) then 0 else 1) else 9))
  else 1)
 else 9
def firstE : List Ed → Int
 | [] => 0
 | f :: r => if oneE f = 0 then firstE r else oneE f
def checkE (l : List Ed) : Int := if 256 < l.length then 10 else firstE l
def t59 : Tx := [53, 57]
def byB (x : Ln) : Bool := x.mods.any fun t => decide (t = t59)
def whyK (e : Ed) (a : Ln) (i k : Nat) (b : Ln) : Int :=
 if k = i ∨ b.date ≠ a.date then 0
 else if e.kind = 1 ∧ a.proc = e.b ∧ b.proc = e.a ∧ ¬ (e.bypass = true ∧ byB a = true) then 97
 else if e.kind = 2 ∧ k < i ∧ (a.proc = e.a ∧ b.proc = e.b ∨ a.proc = e.b ∧ b.proc = e.a) then 236 else 0
def whyF (e : Ed) (a : Ln) (i : Nat) : Nat → List Ln → Int
 | _, [] => 0
 | k, b :: r => if whyK e a i k b = 0 then whyF e a i (k + 1) r else whyK e a i k b
def whyV (e : Ed) (l : List Ln) (i : Nat) (a : Ln) : Int := if e.kind = 3 ∧ a.proc = e.a ∧ e.n < a.units then 151 else whyF e a i 0 l
def denyF (l : List Ln) (i : Nat) (a : Ln) : List Ed → Int
 | [] => 0
 | e :: r => if whyV e l i a = 0 then denyF l i a r else whyV e l i a
def denyV (t : List Ed) (l : List Ln) (i : Int) : Int := if 0 ≤ i then (match l[i.toNat]? with | some a => denyF l i.toNat a t | none => 0) else 0
end Go.Proofs.YtfoooldkmokjpaaGreatDoor.Ex
end
section
namespace Go.Proofs.YtfoooldkmokjpaaGreatDoor
open Go.RowKit
abbrev All : Nat → Prop := fun _ => True
def RowAt {α : Type} (K : Nat → Prop) (R : World → Value → α → Prop) (w : World) (v : Value) (xs : List α) : Prop :=
 ∃ a c, v = .slice a xs.length c ∧ xs.length ≤ c ∧ c ≤ maxLen ∧ (xs = [] ∨ ∃ b o, a = some ⟨b, o, none⟩ ∧ K b ∧ b < w.heap.size ∧ ∀ (j : Nat) x, xs[j]? = some x → ∃ u, w.cell? ⟨b, o + j, none⟩ = some u ∧ R w u x)
def StrAt (_ : World) (u : Value) (x : Tx) : Prop := u = .string (mk x)
def TxAt (K : Nat → Prop) : World → Value → List Tx → Prop := RowAt K StrAt
def ElAt (K : Nat → Prop) : World → Value → Sg → Prop := RowAt K (TxAt K)
def SgAt (K : Nat → Prop) : World → Value → List Sg → Prop := RowAt K (ElAt K)
def Moves (K K' : Nat → Prop) (w w' : World) : Prop := w.heap.size ≤ w'.heap.size ∧ ∀ b, b < w.heap.size → K b → K' b ∧ w'.heap[b]? = w.heap[b]?
theorem RowAt.move {α : Type} {K K' : Nat → Prop} {R R' : World → Value → α → Prop} {w w' : World} {v : Value} {xs : List α} (h : RowAt K R w v xs) (hm : Moves K K' w w') (hR : ∀ u x, x ∈ xs → R w u x → R' w' u x) : RowAt K' R' w' v xs := by
 obtain ⟨a, c, rfl, h1, h2, h3⟩ := h
 refine ⟨a, c, rfl, h1, h2, h3.imp id ?_⟩
 rintro ⟨b, o, rfl, hk, hb, hc⟩
 obtain ⟨k', hh⟩ := hm.2 b hb hk
 refine ⟨b, o, rfl, k', Nat.lt_of_lt_of_le hb hm.1, fun j x hj => ?_⟩
 obtain ⟨u, hu, hr⟩ := hc j x hj
 exact ⟨u, by rw [World.cell?_of_block (w := w) hh]; exact hu, hR u x (List.mem_of_getElem? hj) hr⟩
theorem TxAt.move {K K' : Nat → Prop} {w w' : World} {v : Value} {xs : List Tx} (h : TxAt K w v xs) (hm : Moves K K' w w') : TxAt K' w' v xs := RowAt.move h hm fun _ _ _ h => h
theorem ElAt.move {K K' : Nat → Prop} {w w' : World} {v : Value} {xs : Sg} (h : ElAt K w v xs) (hm : Moves K K' w w') : ElAt K' w' v xs := RowAt.move h hm fun _ _ _ h => TxAt.move h hm
theorem SgAt.move {K K' : Nat → Prop} {w w' : World} {v : Value} {xs : List Sg} (h : SgAt K w v xs) (hm : Moves K K' w w') : SgAt K' w' v xs := RowAt.move h hm fun _ _ _ h => ElAt.move h hm
theorem Below.moves {w w' : World} (h : Below w.heap.size w w') : Moves All All w w' := ⟨h.size, fun b hb _ => ⟨trivial, h.block b hb⟩⟩
theorem Below.moves_lo {B : Nat} {w w' : World} (h : Below B w w') : Moves (fun b => b < B) (fun b => b < B) w w' := ⟨h.size, fun b _ hk => ⟨hk, h.block b hk⟩⟩
theorem moves_alloc (K : Nat → Prop) (w : World) (o : Obj) : Moves K K w (w.alloc o) := ⟨by simp, fun b hb hk => ⟨hk, Below.heap_alloc w o b hb⟩⟩
theorem moves_weak {K K' : Nat → Prop} (w : World) (h : ∀ b, b < w.heap.size → K b → K' b) : Moves K K' w w := ⟨Nat.le_refl _, fun b hb hk => ⟨h b hb hk, rfl⟩⟩
theorem TxAt.nil (K : Nat → Prop) (w : World) : TxAt K w (.slice none 0 0) [] := ⟨none, 0, rfl, by simp, by simp [maxLen], Or.inl rfl⟩
theorem ElAt.nil (K : Nat → Prop) (w : World) : ElAt K w (.slice none 0 0) [] := ⟨none, 0, rfl, by simp, by simp [maxLen], Or.inl rfl⟩
theorem SgAt.nil (K : Nat → Prop) (w : World) : SgAt K w (.slice none 0 0) [] := ⟨none, 0, rfl, by simp, by simp [maxLen], Or.inl rfl⟩
end Go.Proofs.YtfoooldkmokjpaaGreatDoor
end
