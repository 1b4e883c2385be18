/-
  Texts put together (merge.py): ZLook, ZOrd, QMem.
-/
import Derived.Below
import Derived.Laws.AppendOwn
import Derived.Deep.AppendLies
import Derived.Maps.AppendAt
import Derived.WalkKit
import Derived.Test.YtmoldgmfhcmceaaGreatDoorMp8
import Derived.Test.YtmoldgmfhcmceaaGreatDoorMp1
/-
  What a unit costs, over plain lists; rows of two texts, one behind the other.
-/
section
set_option linter.unusedSimpArgs false
namespace Go.Proofs.YtmoldgmfhcmceaaGreatDoor.Fe
open Wo (Wd wOk txs wds)

structure Key where
  proc : Tx
  mod : Tx
  net : Int
  day : Int
def hit (k : Key) (f : Fee) : Bool := decide (f.proc = k.proc) && (decide (f.mod = k.mod) && (decide (f.net = k.net) && decide (f.frm ≤ k.day)))
theorem hit_iff {k : Key} {f : Fee} : hit k f = true ↔ f.proc = k.proc ∧ f.mod = k.mod ∧ f.net = k.net ∧ f.frm ≤ k.day := by simp [hit]
def stepL (k : Key) (b : Option Fee) (f : Fee) : Option Fee := if hit k f = true then (match b with | none => some f | some g => if g.frm < f.frm then some f else some g) else b
def lookF (k : Key) (l : List Fee) : Option Fee := l.foldl (stepL k) none
def lookV (k : Key) (l : List Fee) : Int := ((lookF k l).map (·.cents)).getD 0
def lookB (k : Key) (l : List Fee) : Bool := (lookF k l).isSome
theorem step_no {k : Key} {b : Option Fee} {f : Fee} (h : hit k f = false) : stepL k b f = b := by unfold stepL; rw [h]; rfl
theorem stepL_comm (k : Key) (b : Option Fee) (f g : Fee) (h : ¬ sameP f g) : stepL k (stepL k b f) g = stepL k (stepL k b g) f := by
  cases hf : hit k f with
  | false => rw [step_no hf, step_no hf]
  | true =>
    cases hg : hit k g with
    | false => rw [step_no hg, step_no hg]
    | true =>
      have hne : f.frm ≠ g.frm := fun e => by
        obtain ⟨a1, a2, a3, -⟩ := hit_iff.1 hf
        obtain ⟨b1, b2, b3, -⟩ := hit_iff.1 hg
        exact h ⟨a1.trans b1.symm, a2.trans b2.symm, a3.trans b3.symm, e⟩
      have ef : ∀ b, stepL k b f = match b with | none => some f | some q => if q.frm < f.frm then some f else some q := fun b => by unfold stepL; rw [if_pos hf]
      have eg : ∀ b, stepL k b g = match b with | none => some g | some q => if q.frm < g.frm then some g else some q := fun b => by unfold stepL; rw [if_pos hg]
      rw [ef, eg, eg, ef]
      cases b with
      | none =>
        show (if f.frm < g.frm then some g else some f) = (if g.frm < f.frm then some f else some g)
        by_cases h1 : f.frm < g.frm
        · rw [if_pos h1, if_neg (by omega)]
        · rw [if_neg h1, if_pos (by omega)]
      | some q =>
        by_cases h1 : q.frm < f.frm <;> by_cases h2 : q.frm < g.frm <;> by_cases h3 : f.frm < g.frm <;> by_cases h4 : g.frm < f.frm <;> simp only [h1, h2, h3, h4, if_true, if_false] <;> omega
theorem look_perm (k : Key) {l m : List Fee} (hp : l.Perm m) (hd : Apart l) : lookF k l = lookF k m := by
  have key : ∀ b, l.foldl (stepL k) b = m.foldl (stepL k) b := by
    induction hp with
    | nil => intro b; rfl
    | cons a _ ih => intro b; rw [List.foldl_cons, List.foldl_cons]; exact ih (List.pairwise_cons.1 hd).2 _
    | swap a c t =>
      intro b
      rw [List.foldl_cons, List.foldl_cons, List.foldl_cons, List.foldl_cons]
      rw [stepL_comm k b c a ((List.pairwise_cons.1 hd).1 a List.mem_cons_self)]
    | trans h1 _ ih1 ih2 =>
      intro b
      rw [ih1 hd, ih2 (apart_perm h1 hd)]
  exact key none
theorem look_mem (k : Key) : ∀ (l : List Fee) (b : Option Fee) (g : Fee), l.foldl (stepL k) b = some g → (g ∈ l ∧ hit k g = true) ∨ b = some g
  | [], b, g, h => Or.inr h
  | f :: r, b, g, h => by
    rw [List.foldl_cons] at h
    rcases look_mem k r _ g h with h1 | h1
    · exact Or.inl ⟨List.mem_cons_of_mem _ h1.1, h1.2⟩
    · cases hf : hit k f with
      | false => rw [step_no hf] at h1; exact Or.inr h1
      | true =>
        unfold stepL at h1
        rw [if_pos hf] at h1
        cases b with
        | none => simp only [Option.some.injEq] at h1; subst h1; exact Or.inl ⟨List.mem_cons_self, hf⟩
        | some q =>
          simp only at h1
          split at h1
          · simp only [Option.some.injEq] at h1; subst h1; exact Or.inl ⟨List.mem_cons_self, hf⟩
          · exact Or.inr h1
theorem look_all (k : Key) : ∀ (l : List Fee) (b : Option Fee), (∀ f ∈ l, hit k f = true → ∃ g, l.foldl (stepL k) b = some g ∧ f.frm ≤ g.frm) ∧ (∀ q, b = some q → ∃ g, l.foldl (stepL k) b = some g ∧ q.frm ≤ g.frm)
  | [], b => ⟨fun f hf => (by cases hf), fun q hq => ⟨q, hq, by omega⟩⟩
  | f :: r, b => by
    obtain ⟨i1, i2⟩ := look_all k r (stepL k b f)
    refine ⟨fun x hx hh => ?_, fun q hq => ?_⟩
    · rcases List.mem_cons.1 hx with rfl | hx
      · have : ∃ y, stepL k b x = some y ∧ x.frm ≤ y.frm := by
          unfold stepL
          rw [if_pos hh]
          cases b with
          | none => exact ⟨x, rfl, by omega⟩
          | some z =>
            simp only
            split
            · exact ⟨x, rfl, by omega⟩
            · exact ⟨z, rfl, by omega⟩
        obtain ⟨y, hy, hxy⟩ := this
        obtain ⟨g, hg, hyg⟩ := i2 y hy
        exact ⟨g, hg, by omega⟩
      · exact i1 x hx hh
    · have : ∃ y, stepL k b f = some y ∧ q.frm ≤ y.frm := by
        unfold stepL
        subst hq
        split
        · simp only
          split
          · exact ⟨f, rfl, by omega⟩
          · exact ⟨q, rfl, by omega⟩
        · exact ⟨q, rfl, by omega⟩
      obtain ⟨y, hy, hqy⟩ := this
      obtain ⟨g, hg, hyg⟩ := i2 y hy
      exact ⟨g, hg, by omega⟩
/-- The row with the latest day that is not behind. -/
theorem look_some {k : Key} {l : List Fee} {g : Fee} (hd : Apart l) (hg : g ∈ l) (hh : hit k g = true) (hm : ∀ f ∈ l, hit k f = true → f.frm ≤ g.frm) : lookF k l = some g := by
  obtain ⟨y, hy, hle⟩ := (look_all k l none).1 g hg hh
  rcases look_mem k l none y hy with ⟨y1, y2⟩ | h
  · have e1 := hm y y1 y2
    have e : y = g := by
      rcases Classical.em (y = g) with e | e
      · exact e
      · exfalso
        obtain ⟨a1, a2, a3, -⟩ := hit_iff.1 hh
        obtain ⟨b1, b2, b3, -⟩ := hit_iff.1 y2
        have hs : sameP y g := ⟨b1.trans a1.symm, b2.trans a2.symm, b3.trans a3.symm, by omega⟩
        have : ∀ (l : List Fee), Apart l → y ∈ l → g ∈ l → False := fun l => by
          induction l with
          | nil => intro _ h; cases h
          | cons z r ih =>
            intro ha h1 h2
            obtain ⟨k1, k2⟩ := List.pairwise_cons.1 ha
            rcases List.mem_cons.1 h1 with e1 | m1
            · rcases List.mem_cons.1 h2 with e2 | m2
              · exact e (e1.trans e2.symm)
              · exact k1 g m2 (e1 ▸ hs)
            · rcases List.mem_cons.1 h2 with e2 | m2
              · exact k1 y m1 (e2 ▸ hs.symm)
              · exact ih k2 m1 m2
        exact this l hd y1 hg
    rw [← e]; exact hy
  · cases h
theorem look_none {k : Key} {l : List Fee} (h : ∀ f ∈ l, hit k f = false) : lookF k l = none := by
  cases hl : lookF k l with
  | none => rfl
  | some g =>
    rcases look_mem k l none g hl with ⟨h1, h2⟩ | h1
    · rw [h g h1] at h2; cases h2
    · cases h1
/-- A row more, from a later day on: ahead of it as it was. -/
theorem look_ahead (k : Key) (l : List Fee) (f : Fee) (hd : Apart (l ++ [f])) (h : hit k f = false) : lookF k (srt (l ++ [f])) = lookF k l := by
  rw [look_perm k (srt_perm _) (apart_perm (srt_perm _).symm hd)]
  unfold lookF
  rw [List.foldl_append, List.foldl_cons, List.foldl_nil, step_no h]
theorem look_there (k : Key) (l : List Fee) (f : Fee) (h : hit k f = true) : lookB k (srt (l ++ [f])) = true := by
  obtain ⟨g, hg, -⟩ := (look_all k (srt (l ++ [f])) none).1 f ((srt_perm _).mem_iff.2 (by simp)) h
  unfold lookB lookF
  rw [hg]; rfl
theorem look_own (l : List Fee) (f : Fee) (hd : Apart (l ++ [f])) : lookF ⟨f.proc, f.mod, f.net, f.frm⟩ (srt (l ++ [f])) = some f :=
  look_some (apart_perm (srt_perm _).symm hd) ((srt_perm _).mem_iff.2 (by simp)) (by simp [hit]) fun g _ hg => (hit_iff.1 hg).2.2.2

/-! ### Two texts, one behind the other -/
theorem row_txs {a b c d e g a' b' c' d' e' g' : Wd} {x : Fee} (h : pRow a b c d e g = .ok x) (h1 : a.1 = a'.1) (h2 : b.1 = b'.1) (h3 : c.1 = c'.1) (h4 : d.1 = d'.1) (h5 : e.1 = e'.1) (h6 : g.1 = g'.1) : pRow a' b' c' d' e' g' = .ok x := by
  unfold pRow at *
  rw [h1, h2, h3, h4, h5, h6] at h
  split at h
  · next q1 =>
    rw [if_pos q1]
    split at h
    · next q2 =>
      rw [if_pos q2]
      split at h
      · next q3 =>
        rw [if_pos q3]
        split at h
        · next q4 =>
          rw [if_pos q4]
          split at h
          · next q5 =>
            rw [if_pos q5]
            split at h
            · next q6 => rw [if_pos q6]; exact h
            · cases h
          · cases h
        · cases h
      · cases h
    · cases h
  · cases h
theorem row_one {a b c d e g : Wd} {x : Fee} (h : pRow a b c d e g = .ok x) : oneE x = 0 := by
  unfold pRow at h
  split at h
  · next q1 =>
    split at h
    · next q2 =>
      split at h
      · next q3 =>
        split at h
        · next q4 =>
          split at h
          · next q5 =>
            split at h
            · next q6 =>
              simp only [Except.ok.injEq] at h
              subst h
              have hb := Nu.mn_bd g.1
              unfold oneE
              have e1 : (Cm.codeB b.1 5 5 && (decide ((if c.1 = tNone then [] else c.1) = []) || Cm.codeB (if c.1 = tNone then [] else c.1) 2 2)) = true := by
                rw [q2]
                by_cases e : c.1 = tNone
                · rw [if_pos e]; rfl
                · rw [if_neg e, q3.resolve_left e]; simp
              have e2 : (0 : Int) ≤ (if d.1 = tOut then 1 else 0) ∧ (if d.1 = tOut then (1 : Int) else 0) ≤ 1 := by split <;> omega
              simp only [e1, e2, and_self, if_true, q5.2, Pl.goodB, hb.1, hb.2, decide_true, Bool.and_self]
            · cases h
          · cases h
        · cases h
      · cases h
    · cases h
  · cases h
theorem rows_two (E E' : Nat) : ∀ (n : Nat) (f : Nat) (acc l : List Fee) (a a' b : List Wd), a.length ≤ n → txs a = txs a' → pRows E f acc a = .ok l → l.length + 0 ≤ acc.length + f ∧ pRows E' f acc (a' ++ b) = pRows E' (f - (l.length - acc.length)) l b ∧ acc.length ≤ l.length ∧ ((∀ x ∈ acc, oneE x = 0) → ∀ x ∈ l, oneE x = 0)
  | n, f, acc, l, [], a', b, hn, ht, h => by
    obtain rfl : a' = [] := Pl.map_nil ht.symm
    have : acc = l := by cases f <;> (simp only [pRows, Except.ok.injEq] at h; exact h)
    subst this
    exact ⟨by omega, by simp, Nat.le_refl _, fun h => h⟩
  | n, 0, acc, l, x :: r, a', b, hn, ht, h => by simp [pRows] at h
  | 0, f + 1, acc, l, x :: r, a', b, hn, ht, h => by simp at hn
  | n + 1, f + 1, acc, l, x1 :: x2 :: x3 :: x4 :: x5 :: x6 :: r, a', b, hn, ht, h => by
    obtain ⟨p1, r1, rfl, g1⟩ := Pl.map_cons (show a'.map (·.1) = x1.1 :: _ from ht.symm)
    obtain ⟨p2, r2, rfl, g2⟩ := Pl.map_cons g1
    obtain ⟨p3, r3, rfl, g3⟩ := Pl.map_cons g2
    obtain ⟨p4, r4, rfl, g4⟩ := Pl.map_cons g3
    obtain ⟨p5, r5, rfl, g5⟩ := Pl.map_cons g4
    obtain ⟨p6, r6, rfl, g6⟩ := Pl.map_cons g5
    unfold pRows at h
    split at h
    · cases h
    · next y hy =>
      obtain ⟨i1, i2, i3, i4⟩ := rows_two E E' n f (acc ++ [y]) l r r6 b (by simp at hn; omega) g6.symm h
      rw [List.length_append] at i1 i3
      simp only [List.length_cons, List.length_nil] at i1 i3
      refine ⟨by omega, ?_, by omega, fun ha => i4 fun x hx => ?_⟩
      · have e : pRows E' (f + 1) acc ((x1.1, p1) :: (x2.1, p2) :: (x3.1, p3) :: (x4.1, p4) :: (x5.1, p5) :: (x6.1, p6) :: (r6 ++ b)) = pRows E' f (acc ++ [y]) (r6 ++ b) := by
          conv => lhs; unfold pRows
          simp only [row_txs hy (a' := (x1.1, p1)) (b' := (x2.1, p2)) (c' := (x3.1, p3)) (d' := (x4.1, p4)) (e' := (x5.1, p5)) (g' := (x6.1, p6)) rfl rfl rfl rfl rfl rfl]
        simp only [List.cons_append]
        rw [e, i2, List.length_append]
        congr 1
        simp only [List.length_cons, List.length_nil]
        omega
      · rcases List.mem_append.1 hx with hx | hx
        · exact ha x hx
        · simp at hx; subst hx; exact row_one hy
  | n + 1, f + 1, acc, l, [x1], a', b, hn, ht, h => by simp [pRows] at h
  | n + 1, f + 1, acc, l, [x1, x2], a', b, hn, ht, h => by simp [pRows] at h
  | n + 1, f + 1, acc, l, [x1, x2, x3], a', b, hn, ht, h => by simp [pRows] at h
  | n + 1, f + 1, acc, l, [x1, x2, x3, x4], a', b, hn, ht, h => by simp [pRows] at h
  | n + 1, f + 1, acc, l, [x1, x2, x3, x4, x5], a', b, hn, ht, h => by simp [pRows] at h
end Go.Proofs.YtmoldgmfhcmceaaGreatDoor.Fe
end

/-
  The order of rows as one number; tables that are permutations of one another; the place at which a row would stand.
-/
section
set_option linter.unusedSimpArgs false
set_option linter.unusedVariables false
namespace Go.Proofs.YtmoldgmfhcmceaaGreatDoor.Fe

/-! ### Permutations in order -/
theorem wk_check {a b : List Fee} (hp : a.Perm b) (ha : Wk a) (hb : Wk b) (ho : ∀ f ∈ a, oneE f = 0) : checkE a = checkE b ∧ (checkE a = 0 → a = b) := by
  have key : nbE a = 0 ↔ nbE b = 0 := by
    rw [nb_up, nb_up, wk_up ha, wk_up hb]
    exact ⟨apart_perm hp, apart_perm hp.symm⟩
  have f1 : firstE a = 0 := (first_all _).2 ho
  have f2 : firstE b = 0 := (first_all _).2 fun f hf => ho f (hp.mem_iff.2 hf)
  have heq : nbE a = 0 → a = b := fun h => up_unique ((nb_up _).1 h) ((nb_up _).1 (key.1 h)) hp
  have hnb : nbE a = nbE b := by
    rcases nb_wk _ ha with h | h
    · rw [h, key.1 h]
    · rcases nb_wk _ hb with h2 | h2
      · rw [key.2 h2] at h; cases h
      · rw [h, h2]
  unfold checkE
  rw [if_pos f1, if_pos f2, hp.length_eq, hnb]
  refine ⟨rfl, fun h => heq ?_⟩
  split at h
  · cases h
  · rw [hnb]; exact h

/-! ### The order as a number -/
def cmpT (a b : Tx) : Int := if lessT a b = true then -1 else if lessT b a = true then 1 else 0
def cmpZ (a b : Int) : Int := if a < b then -1 else if b < a then 1 else 0
def orI (a b : Int) : Int := if a = 0 then b else a
def ordV (a b : Fee) : Int := orI (cmpT a.proc b.proc) (orI (cmpT a.mod b.mod) (orI (cmpZ a.net b.net) (cmpZ a.frm b.frm)))
theorem cmpT_self (a : Tx) : cmpT a a = 0 := by unfold cmpT; rw [less_irr]; simp
theorem cmpT_ne {a b : Tx} (h : a ≠ b) : cmpT a b = if lessT a b = true then -1 else 1 := by
  unfold cmpT
  rcases less_tri a b with h1 | h1 | h1
  · rw [if_pos h1, if_pos h1]
  · exact absurd h1 h
  · rw [less_asym h1, h1]; rfl
theorem cmpT_nz {a b : Tx} (h : a ≠ b) : cmpT a b ≠ 0 := by rw [cmpT_ne h]; split <;> decide
theorem orI_z (b : Int) : orI 0 b = b := rfl
theorem orI_nz {a : Int} (b : Int) (h : a ≠ 0) : orI a b = a := if_neg h
theorem ord_neg (a b : Fee) : ordV a b < 0 ↔ aheadB a b = true := by
  unfold ordV aheadB
  by_cases h1 : a.proc = b.proc
  · rw [if_pos h1, h1, cmpT_self, orI_z]
    by_cases h2 : a.mod = b.mod
    · rw [if_pos h2, h2, cmpT_self, orI_z]
      by_cases h3 : a.net = b.net
      · rw [if_pos h3, h3]
        have : cmpZ b.net b.net = 0 := by unfold cmpZ; rw [if_neg (by omega), if_neg (by omega)]
        rw [this, orI_z]
        unfold cmpZ
        by_cases h4 : a.frm < b.frm
        · rw [if_pos h4]; simp [h4]
        · rw [if_neg h4]; simp [h4]; split <;> omega
      · rw [if_neg h3]
        have hz : cmpZ a.net b.net = if a.net < b.net then -1 else 1 := by unfold cmpZ; by_cases h : a.net < b.net; rw [if_pos h, if_pos h]; rw [if_neg h, if_neg h, if_pos (by omega)]
        rw [orI_nz _ (by rw [hz]; split <;> decide), hz]
        by_cases h : a.net < b.net
        · rw [if_pos h]; simp [h]
        · rw [if_neg h]; simp [h]
    · rw [if_neg h2, orI_nz _ (cmpT_nz h2), cmpT_ne h2]
      cases lessT a.mod b.mod <;> decide
  · rw [if_neg h1, orI_nz _ (cmpT_nz h1), cmpT_ne h1]
    cases lessT a.proc b.proc <;> decide
theorem ord_zero (a b : Fee) : ordV a b = 0 ↔ sameP a b := by
  unfold ordV sameP
  by_cases h1 : a.proc = b.proc
  · rw [h1, cmpT_self, orI_z]
    by_cases h2 : a.mod = b.mod
    · rw [h2, cmpT_self, orI_z]
      by_cases h3 : a.net = b.net
      · rw [h3]
        have : cmpZ b.net b.net = 0 := by unfold cmpZ; rw [if_neg (by omega), if_neg (by omega)]
        rw [this, orI_z]
        unfold cmpZ
        by_cases h4 : a.frm < b.frm
        · rw [if_pos h4]; exact ⟨fun h => absurd h (by decide), fun h => absurd h.2.2.2 (by omega)⟩
        · rw [if_neg h4]
          by_cases h5 : b.frm < a.frm
          · rw [if_pos h5]; exact ⟨fun h => absurd h (by decide), fun h => absurd h.2.2.2 (by omega)⟩
          · rw [if_neg h5]; exact ⟨fun _ => ⟨rfl, rfl, rfl, by omega⟩, fun _ => rfl⟩
      · have hz : cmpZ a.net b.net ≠ 0 := by unfold cmpZ; by_cases h : a.net < b.net; rw [if_pos h]; decide; rw [if_neg h, if_pos (by omega)]; decide
        rw [orI_nz _ hz]
        simp [hz, h3]
    · rw [orI_nz _ (cmpT_nz h2)]; simp [cmpT_nz h2, h2]
  · rw [orI_nz _ (cmpT_nz h1)]; simp [cmpT_nz h1, h1]
theorem ord_pos (a b : Fee) : 0 < ordV a b ↔ aheadB b a = true := by
  rcases ahead_tri a b with h | h | h
  · have := (ord_neg a b).2 h
    rw [ahead_asym h]; simp; omega
  · have := (ord_zero a b).2 h
    rw [ahead_irr h.symm]; simp; omega
  · have h1 : ¬ ordV a b < 0 := fun e => by rw [ord_neg, ahead_asym h] at e; cases e
    have h2 : ordV a b ≠ 0 := fun e => by rw [ahead_irr ((ord_zero a b).1 e).symm] at h; cases h
    simp [h]; omega
theorem ord_bd (a b : Fee) : ordV a b = -1 ∨ ordV a b = 0 ∨ ordV a b = 1 := by
  have c1 : ∀ x y : Tx, cmpT x y = -1 ∨ cmpT x y = 0 ∨ cmpT x y = 1 := fun x y => by unfold cmpT; split; simp; split <;> simp
  have c2 : ∀ x y : Int, cmpZ x y = -1 ∨ cmpZ x y = 0 ∨ cmpZ x y = 1 := fun x y => by unfold cmpZ; split; simp; split <;> simp
  have c3 : ∀ x y : Int, (x = -1 ∨ x = 0 ∨ x = 1) → (y = -1 ∨ y = 0 ∨ y = 1) → orI x y = -1 ∨ orI x y = 0 ∨ orI x y = 1 := fun x y h1 h2 => by unfold orI; split <;> assumption
  exact c3 _ _ (c1 _ _) (c3 _ _ (c1 _ _) (c3 _ _ (c2 _ _) (c2 _ _)))

/-! ### Neighbours, as the program asks them -/
theorem nb_step (a b : Fee) (r : List Fee) : nbE (a :: b :: r) = if ordV a b = 0 then 12 else if 0 < ordV a b then 11 else nbE (b :: r) := by
  conv => lhs; unfold nbE
  rcases ahead_tri a b with h | h | h
  · have h1 := (ord_neg a b).2 h
    rw [ahead_asym h, h, if_neg (by decide), if_pos rfl, if_neg (by omega), if_neg (by omega)]
  · rw [ahead_irr h, ahead_irr h.symm, if_neg (by decide), if_neg (by decide), if_pos ((ord_zero a b).2 h)]
  · have h1 := (ord_pos a b).2 h
    rw [h, if_pos rfl, if_neg (by omega), if_pos h1]

/-! ### Where a row would stand -/
def keyF (k : Key) : Fee := ⟨k.proc, k.mod, k.net, k.day, 0⟩
def subB (k : Key) (f : Fee) : Bool := decide (f.proc = k.proc) && (decide (f.mod = k.mod) && decide (f.net = k.net))
theorem sub_iff {k : Key} {f : Fee} : subB k f = true ↔ f.proc = k.proc ∧ f.mod = k.mod ∧ f.net = k.net := by simp [subB]
theorem up_at {l : List Fee} (h : Up l) {i j : Nat} (hi : i < l.length) (hj : j < l.length) (hij : i < j) : aheadB l[i] l[j] = true := List.pairwise_iff_getElem.1 h i j hi hj hij
/-- Between two rows of one subject there is none of another. -/
theorem between {a b : Fee} {k : Key} (ha : subB k a = true) (h1 : aheadB a b = true) (h2 : aheadB b (keyF k) = true) : subB k b = true := by
  obtain ⟨p1, p2, p3⟩ := sub_iff.1 ha
  rw [sub_iff]
  unfold aheadB keyF at *
  simp only at h2
  by_cases e1 : b.proc = k.proc
  · refine ⟨e1, ?_⟩
    rw [if_pos (p1.trans e1.symm)] at h1
    rw [if_pos e1] at h2
    by_cases e2 : b.mod = k.mod
    · refine ⟨e2, ?_⟩
      rw [if_pos (p2.trans e2.symm)] at h1
      rw [if_pos e2] at h2
      rcases Classical.em (b.net = k.net) with e3 | e3
      · exact e3
      · exfalso
        rw [if_neg (by omega)] at h1
        rw [if_neg e3] at h2
        simp at h1 h2; omega
    · exfalso
      rw [if_neg (by rw [p2]; exact Ne.symm e2), p2] at h1
      rw [if_neg e2] at h2
      have := less_trans h1 h2
      rw [less_irr] at this; cases this
  · exfalso
    rw [if_neg (by rw [p1]; exact Ne.symm e1), p1] at h1
    rw [if_neg e1] at h2
    have := less_trans h1 h2
    rw [less_irr] at this; cases this
theorem key_same {k : Key} {f : Fee} : sameP f (keyF k) ↔ subB k f = true ∧ f.frm = k.day := by rw [sub_iff]; unfold sameP keyF; simp; exact ⟨fun ⟨a, b, c, d⟩ => ⟨⟨a, b, c⟩, d⟩, fun ⟨⟨a, b, c⟩, d⟩ => ⟨a, b, c, d⟩⟩
theorem sub_ahead {k : Key} {f : Fee} (h : subB k f = true) : aheadB f (keyF k) = decide (f.frm < k.day) := by
  obtain ⟨p1, p2, p3⟩ := sub_iff.1 h
  unfold aheadB keyF
  simp only
  rw [if_pos p1, if_pos p2, if_pos p3]
theorem hit_sub {k : Key} {f : Fee} : hit k f = true ↔ subB k f = true ∧ f.frm ≤ k.day := by rw [hit_iff, sub_iff]; exact ⟨fun ⟨a, b, c, d⟩ => ⟨⟨a, b, c⟩, d⟩, fun ⟨⟨a, b, c⟩, d⟩ => ⟨a, b, c, d⟩⟩
/-- What the program finds: i rows stand ahead. -/
theorem look_found {l : List Fee} (h : Up l) (k : Key) (i : Nat) (hi : i < l.length) (hs : sameP l[i] (keyF k)) : lookF k l = some l[i] := by
  obtain ⟨s1, s2⟩ := key_same.1 hs
  exact look_some ((wk_up h.wk).1 h) (List.getElem_mem hi) (hit_sub.2 ⟨s1, by omega⟩) fun f _ hf => by have := (hit_sub.1 hf).2; omega
theorem hit_ahead {l : List Fee} (h : Up l) (k : Key) (i : Nat) (hle : i ≤ l.length) (h2 : ∀ t (ht : t < l.length), i ≤ t → aheadB l[t] (keyF k) = false) (hn : ∀ hi : i < l.length, ¬ sameP l[i] (keyF k)) (t : Nat) (ht : t < l.length) (hh : hit k l[t] = true) : t < i := by
  rcases Nat.lt_or_ge t i with c | c
  · exact c
  · exfalso
    obtain ⟨s1, s2⟩ := hit_sub.1 hh
    have e := h2 t ht c
    rw [sub_ahead s1] at e
    have hd : l[t].frm = k.day := by simp at e; omega
    have hst : sameP l[t] (keyF k) := key_same.2 ⟨s1, hd⟩
    rcases Nat.lt_or_ge i t with c2 | c2
    · have hi : i < l.length := by omega
      have e2 := up_at h hi ht c2
      rw [(ahead_same hst (c := l[i])).2, h2 i hi (Nat.le_refl _)] at e2; cases e2
    · have : t = i := by omega
      subst this
      exact hn ht hst
theorem look_last {l : List Fee} (h : Up l) (k : Key) (i : Nat) (hle : i + 1 ≤ l.length) (h1 : ∀ t (ht : t < l.length), t < i + 1 → aheadB l[t] (keyF k) = true) (h2 : ∀ t (ht : t < l.length), i + 1 ≤ t → aheadB l[t] (keyF k) = false) (hn : ∀ hi : i + 1 < l.length, ¬ sameP l[i + 1] (keyF k)) (hs : subB k (l[i]'(by omega)) = true) : lookF k l = some (l[i]'(by omega)) := by
  have hi : i < l.length := by omega
  refine look_some ((wk_up h.wk).1 h) (List.getElem_mem hi) (hit_sub.2 ⟨hs, ?_⟩) fun f hf hh => ?_
  · have := h1 i hi (by omega)
    rw [sub_ahead hs] at this; simp at this; omega
  · obtain ⟨t, ht, rfl⟩ := List.getElem_of_mem hf
    have ht2 := hit_ahead h k (i + 1) hle h2 hn t ht hh
    rcases Nat.lt_or_ge t i with c | c
    · have e := up_at h ht hi c
      obtain ⟨a1, a2, a3⟩ := sub_iff.1 (hit_sub.1 hh).1
      obtain ⟨b1, b2, b3⟩ := sub_iff.1 hs
      unfold aheadB at e
      rw [if_pos (a1.trans b1.symm), if_pos (a2.trans b2.symm), if_pos (a3.trans b3.symm)] at e
      simp at e; omega
    · have : t = i := by omega
      subst this; omega
theorem look_no {l : List Fee} (h : Up l) (k : Key) (i : Nat) (hle : i ≤ l.length) (h1 : ∀ t (ht : t < l.length), t < i → aheadB l[t] (keyF k) = true) (h2 : ∀ t (ht : t < l.length), i ≤ t → aheadB l[t] (keyF k) = false) (hn : ∀ hi : i < l.length, ¬ sameP l[i] (keyF k)) (hs : i = 0 ∨ ∃ h0 : i - 1 < l.length, subB k l[i - 1] = false) : lookF k l = none := by
  refine look_none fun f hf => ?_
  cases hh : hit k f with
  | false => rfl
  | true =>
    exfalso
    obtain ⟨t, ht, rfl⟩ := List.getElem_of_mem hf
    have ht2 := hit_ahead h k i hle h2 hn t ht hh
    rcases hs with rfl | ⟨h0, hs⟩
    · omega
    · have hsub := (hit_sub.1 hh).1
      rcases Nat.lt_or_ge t (i - 1) with c | c
      · have := between hsub (up_at h ht h0 c) (h1 (i - 1) h0 (by omega))
        rw [hs] at this; cases this
      · have e : t = i - 1 := by omega
        subst e
        rw [hs] at hsub; cases hsub
end Go.Proofs.YtmoldgmfhcmceaaGreatDoor.Fe
end

/-
  Rows of texts, of elements and of segments, as they lie in memory; what stands while the rest is written.
-/
section
namespace Go.Proofs.YtmoldgmfhcmceaaGreatDoor
open Go.RowKit

abbrev All : Nat → Prop := fun _ => True
def RowAt {α : Type} (K : Nat → Prop) (R : World → Value → α → Prop) (w : World) (v : Value) (xs : List α) : Prop :=
  ∃ a c, v = .slice a xs.length c ∧ xs.length ≤ c ∧ c ≤ maxLen ∧ (xs = [] ∨ ∃ b o, a = some ⟨b, o, none⟩ ∧ K b ∧ b < w.heap.size ∧ ∀ (j : Nat) x, xs[j]? = some x → ∃ u, w.cell? ⟨b, o + j, none⟩ = some u ∧ R w u x)
def StrAt (_ : World) (u : Value) (x : Tx) : Prop := u = .string (mk x)
def TxAt (K : Nat → Prop) : World → Value → List Tx → Prop := RowAt K StrAt
def ElAt (K : Nat → Prop) : World → Value → Sg → Prop := RowAt K (TxAt K)
def SgAt (K : Nat → Prop) : World → Value → List Sg → Prop := RowAt K (ElAt K)

/-- What lies in the blocks of K lies there still, and these are blocks of K'. -/
def Moves (K K' : Nat → Prop) (w w' : World) : Prop := w.heap.size ≤ w'.heap.size ∧ ∀ b, b < w.heap.size → K b → K' b ∧ w'.heap[b]? = w.heap[b]?

theorem RowAt.move {α : Type} {K K' : Nat → Prop} {R R' : World → Value → α → Prop} {w w' : World} {v : Value} {xs : List α} (h : RowAt K R w v xs) (hm : Moves K K' w w') (hR : ∀ u x, x ∈ xs → R w u x → R' w' u x) : RowAt K' R' w' v xs := by
  obtain ⟨a, c, rfl, h1, h2, h3⟩ := h
  refine ⟨a, c, rfl, h1, h2, h3.imp id ?_⟩
  rintro ⟨b, o, rfl, hk, hb, hc⟩
  obtain ⟨k', hh⟩ := hm.2 b hb hk
  refine ⟨b, o, rfl, k', Nat.lt_of_lt_of_le hb hm.1, fun j x hj => ?_⟩
  obtain ⟨u, hu, hr⟩ := hc j x hj
  exact ⟨u, by rw [World.cell?_of_block (w := w) hh]; exact hu, hR u x (List.mem_of_getElem? hj) hr⟩
theorem TxAt.move {K K' : Nat → Prop} {w w' : World} {v : Value} {xs : List Tx} (h : TxAt K w v xs) (hm : Moves K K' w w') : TxAt K' w' v xs := RowAt.move h hm fun _ _ _ h => h
theorem ElAt.move {K K' : Nat → Prop} {w w' : World} {v : Value} {xs : Sg} (h : ElAt K w v xs) (hm : Moves K K' w w') : ElAt K' w' v xs := RowAt.move h hm fun _ _ _ h => TxAt.move h hm
theorem SgAt.move {K K' : Nat → Prop} {w w' : World} {v : Value} {xs : List Sg} (h : SgAt K w v xs) (hm : Moves K K' w w') : SgAt K' w' v xs := RowAt.move h hm fun _ _ _ h => ElAt.move h hm

theorem Below.moves {w w' : World} (h : Below w.heap.size w w') : Moves All All w w' := ⟨h.size, fun b hb _ => ⟨trivial, h.block b hb⟩⟩
theorem Below.moves_lo {B : Nat} {w w' : World} (h : Below B w w') : Moves (fun b => b < B) (fun b => b < B) w w' := ⟨h.size, fun b _ hk => ⟨hk, h.block b hk⟩⟩
theorem moves_alloc (K : Nat → Prop) (w : World) (o : Obj) : Moves K K w (w.alloc o) := ⟨by simp, fun b hb hk => ⟨hk, Below.heap_alloc w o b hb⟩⟩
theorem Moves.trans {K K' K'' : Nat → Prop} {a b c : World} (h : Moves K K' a b) (k : Moves K' K'' b c) : Moves K K'' a c :=
  ⟨Nat.le_trans h.1 k.1, fun x hx hk => by
    obtain ⟨k1, e1⟩ := h.2 x hx hk
    obtain ⟨k2, e2⟩ := k.2 x (Nat.lt_of_lt_of_le hx h.1) k1
    exact ⟨k2, e2.trans e1⟩⟩
theorem moves_grown {K K' : Nat → Prop} {w w' : World} {row : Option Nat} (hg : w.grownBy w' row) (h : ∀ b, b < w.heap.size → K b → K' b ∧ some b ≠ row) : Moves K K' w w' :=
  ⟨hg.size, fun b hb hk => ⟨(h b hb hk).1, hg.block b hb (h b hb hk).2⟩⟩
theorem moves_weak {K K' : Nat → Prop} (w : World) (h : ∀ b, b < w.heap.size → K b → K' b) : Moves K K' w w := ⟨Nat.le_refl _, fun b hb hk => ⟨h b hb hk, rfl⟩⟩

theorem TxAt.nil (K : Nat → Prop) (w : World) : TxAt K w (.slice none 0 0) [] := ⟨none, 0, rfl, by simp, by simp [maxLen], Or.inl rfl⟩
theorem ElAt.nil (K : Nat → Prop) (w : World) : ElAt K w (.slice none 0 0) [] := ⟨none, 0, rfl, by simp, by simp [maxLen], Or.inl rfl⟩
theorem SgAt.nil (K : Nat → Prop) (w : World) : SgAt K w (.slice none 0 0) [] := ⟨none, 0, rfl, by simp, by simp [maxLen], Or.inl rfl⟩

/-- A row of the call's own, cell by cell. -/
theorem row_of_own {α : Type} {K : Nat → Prop} {R : World → Value → α → Prop} {w : World} {base : Nat} {e : TypeId} {v : Value} {xs : List Value} {ys : List α}
    (h : w.ownsRow base e 1 v ys.length xs) (hK : ∀ b, v.ownBlock = some b → K b) (hR : ∀ (j : Nat) u y, xs[j]? = some u → ys[j]? = some y → R w u y) : RowAt K R w v ys := by
  obtain ⟨hl, h⟩ := h
  rcases h with ⟨rfl, h0⟩ | ⟨g, cap, cur, rfl, _, hg, h1, h2, hs, ht⟩
  · obtain rfl := List.length_eq_zero_iff.1 h0
    exact ⟨none, 0, rfl, by simp, by simp [maxLen], Or.inl rfl⟩
  · refine ⟨_, cap, rfl, h1, h2, Or.inr ⟨g, 0, rfl, hK g rfl, (Array.getElem?_eq_some_iff.1 hg).1, fun j y hj => ?_⟩⟩
    have hjl : j < ys.length := (List.getElem?_eq_some_iff.1 hj).1
    have hjx : j < xs.length := by omega
    refine ⟨xs[j], ?_, hR j _ y (List.getElem?_eq_getElem hjx) hj⟩
    rw [Nat.zero_add, cell_of_row w g j cur e (0, 0) hg]
    obtain ⟨u, hu⟩ : ∃ u, xs[j]? = some u := ⟨_, List.getElem?_eq_getElem hjx⟩
    have hu2 : xs[j] = u := by rw [List.getElem?_eq_getElem hjx] at hu; exact Option.some.inj hu
    rw [hu2]
    rw [← ht, List.getElem?_take] at hu
    split at hu
    · simpa using hu
    · cases hu
end Go.Proofs.YtmoldgmfhcmceaaGreatDoor
end
