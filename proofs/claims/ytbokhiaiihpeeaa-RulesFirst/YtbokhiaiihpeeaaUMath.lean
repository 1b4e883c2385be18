/-
  What a plan says of a service, over plain lists: what layer 11's calls answer, and what follows.
-/
import Derived.Test.YtbokhiaiihpeeaaPMath
set_option linter.unusedSimpArgs false
namespace Go.Proofs.Ytbokhiaiihpeeaa.Ul
open Pl (Cd St Ru Pn)
open Cm (Ln)

def holdsB (x : Ln) (net : Int) : Cd → Bool
  | ⟨k, lo, hi, n, ks⟩ =>
    if k = 0 then true
    else if k = 1 then !Op.bytesLess x.proc lo && !Op.bytesLess hi x.proc
    else if k = 2 then x.mods.any fun t => decide (t = lo)
    else if k = 3 then decide (n < x.units)
    else if k = 4 then decide (n < x.billed)
    else if k = 5 then decide (net = 1)
    else match ks with
      | [] => decide (k = 6)
      | [a] => if k = 6 then !holdsB x net a else if k = 8 then holdsB x net a else false
      | a :: b :: _ => if k = 6 then !holdsB x net a else if k = 7 then holdsB x net a && holdsB x net b else if k = 8 then holdsB x net a || holdsB x net b else false
def kidB (x : Ln) (net : Int) (ks : List Cd) (i : Nat) : Bool := (ks.map (holdsB x net)).getD i false
theorem kid_none (x : Ln) (net : Int) (ks : List Cd) (i : Nat) (h : ks.length ≤ i) : kidB x net ks i = false := by
  unfold kidB
  rw [List.getD_eq_getElem?_getD, List.getElem?_eq_none (by simpa using h)]; rfl
theorem kid_some (x : Ln) (net : Int) (ks : List Cd) (i : Nat) (c : Cd) (h : ks[i]? = some c) : kidB x net ks i = holdsB x net c := by
  unfold kidB
  rw [List.getD_eq_getElem?_getD, List.getElem?_map, h]; rfl
theorem holds_not (x : Ln) (net n : Int) (lo hi : Tx) (ks : List Cd) : holdsB x net (.mk 6 lo hi n ks) = !kidB x net ks 0 := by
  match ks with
  | [] => rw [holdsB]; rfl
  | [a] => rw [holdsB]; rfl
  | a :: b :: r => rw [holdsB]; rfl
theorem holds_and (x : Ln) (net n : Int) (lo hi : Tx) (ks : List Cd) : holdsB x net (.mk 7 lo hi n ks) = (kidB x net ks 0 && kidB x net ks 1) := by
  match ks with
  | [] => rw [holdsB]; rfl
  | [a] => rw [holdsB]; show false = (holdsB x net a && false); rw [Bool.and_false]
  | a :: b :: r => rw [holdsB]; rfl
theorem holds_or (x : Ln) (net n : Int) (lo hi : Tx) (ks : List Cd) : holdsB x net (.mk 8 lo hi n ks) = (kidB x net ks 0 || kidB x net ks 1) := by
  match ks with
  | [] => rw [holdsB]; rfl
  | [a] => rw [holdsB]; show holdsB x net a = (holdsB x net a || false); rw [Bool.or_false]
  | a :: b :: r => rw [holdsB]; rfl
theorem holds_none (x : Ln) (net n k : Int) (lo hi : Tx) (ks : List Cd) (h : k < 0 ∨ 8 < k) : holdsB x net (.mk k lo hi n ks) = false := by
  have e : ∀ j : Int, 0 ≤ j → j ≤ 8 → k ≠ j := fun j h0 h8 e => by omega
  match ks with
  | [] => rw [holdsB]; simp [e]
  | [a] => rw [holdsB]; simp [e]
  | a :: b :: r => rw [holdsB]; simp [e]
def appB (x : Ln) (net : Int) (r : Ru) : Bool := holdsB x net r.cif && !r.unl.any (holdsB x net)

/-! ### What is set -/
def setOf (what : Int) (l : List St) : Option Int := (l.find? fun s => decide (s.what = what)).map (·.n)
def stepV (x : Ln) (net what : Int) (b : Int × Int) (r : Ru) : Int × Int :=
  if r.rank ≤ b.1 then b else if appB x net r = true then (match setOf what r.sets with | some n => (r.rank, n) | none => b) else b
def bestV (x : Ln) (net what : Int) (l : List Ru) : Int × Int := l.foldl (stepV x net what) (-1, 0)
def valV (x : Ln) (net what : Int) (l : List Ru) : Int := (bestV x net what l).2
theorem step_out {x : Ln} {net what : Int} {b : Int × Int} {r : Ru} (h : appB x net r = false) : stepV x net what b r = b := by
  unfold stepV; rw [h]; split <;> rfl
theorem val_drop (x : Ln) (net what : Int) (a c : List Ru) (r : Ru) (h : appB x net r = false) : valV x net what (a ++ r :: c) = valV x net what (a ++ c) := by
  unfold valV bestV
  rw [List.foldl_append, List.foldl_cons, step_out h, List.foldl_append]
theorem step_comm (x : Ln) (net what : Int) (b : Int × Int) (r q : Ru) (h : r.rank ≠ q.rank) : stepV x net what (stepV x net what b r) q = stepV x net what (stepV x net what b q) r := by
  cases hr : appB x net r with
  | false => rw [step_out hr, step_out hr]
  | true =>
    cases hq : appB x net q with
    | false => rw [step_out hq, step_out hq]
    | true =>
      cases sr : setOf what r.sets with
      | none =>
        have e : ∀ b, stepV x net what b r = b := fun b => by unfold stepV; rw [hr, sr]; split <;> rfl
        rw [e, e]
      | some m =>
        cases sq : setOf what q.sets with
        | none =>
          have e : ∀ b, stepV x net what b q = b := fun b => by unfold stepV; rw [hq, sq]; split <;> rfl
          rw [e, e]
        | some n =>
          have er : ∀ b, stepV x net what b r = if r.rank ≤ b.1 then b else (r.rank, m) := fun b => by unfold stepV; rw [hr, sr]; rfl
          have eq : ∀ b, stepV x net what b q = if q.rank ≤ b.1 then b else (q.rank, n) := fun b => by unfold stepV; rw [hq, sq]; rfl
          rw [er, eq, eq, er]
          by_cases h1 : r.rank ≤ b.1
          · by_cases h2 : q.rank ≤ b.1
            · simp [h1, h2]
            · have h3 : r.rank ≤ q.rank := by omega
              simp [h1, h2, h3]
          · by_cases h2 : q.rank ≤ b.1
            · have h3 : q.rank ≤ r.rank := by omega
              simp [h1, h2, h3]
            · by_cases h3 : r.rank < q.rank
              · have h4 : ¬ q.rank ≤ r.rank := by omega
                have h5 : r.rank ≤ q.rank := by omega
                simp [h1, h2, h4, h5]
              · have h4 : q.rank ≤ r.rank := by omega
                have h5 : ¬ r.rank ≤ q.rank := by omega
                simp [h1, h2, h4, h5]
theorem val_perm (x : Ln) (net what : Int) {l m : List Ru} (hp : l.Perm m) (hd : l.Pairwise fun a b => a.rank ≠ b.rank) : valV x net what l = valV x net what m := by
  have key : ∀ b, l.foldl (stepV x net what) b = m.foldl (stepV x net what) b := by
    induction hp with
    | nil => intro b; rfl
    | cons a _ ih => intro b; rw [List.foldl_cons, List.foldl_cons]; exact ih (List.pairwise_cons.1 hd).2 _
    | swap a c t =>
      intro b
      rw [List.foldl_cons, List.foldl_cons, List.foldl_cons, List.foldl_cons]
      rw [step_comm x net what b c a ((List.pairwise_cons.1 hd).1 a List.mem_cons_self)]
    | trans h1 _ ih1 ih2 =>
      intro b
      rw [ih1 hd, ih2 ((h1.pairwise_iff fun h => Ne.symm h).1 hd)]
  unfold valV bestV
  rw [key]
theorem best_lt (x : Ln) (net what : Int) (M : Int) (hM : -1 < M) : ∀ (l : List Ru) (b : Int × Int), b.1 < M → (∀ r ∈ l, r.rank < M) → (l.foldl (stepV x net what) b).1 < M
  | [], b, h, _ => h
  | r :: q, b, h, hl => by
    rw [List.foldl_cons]
    refine best_lt x net what M hM q _ ?_ fun y hy => hl y (List.mem_cons_of_mem _ hy)
    have hr := hl r List.mem_cons_self
    unfold stepV
    split
    · exact h
    · split
      · split
        · exact hr
        · exact h
      · exact h
def top (s : St) : Ru := ⟨9999, Pl.cd0, [], [s]⟩
theorem top_app (x : Ln) (net : Int) (s : St) : appB x net (top s) = true := by
  show (holdsB x net (.mk 0 [] [] 0 []) && !([] : List Cd).any (holdsB x net)) = true
  rw [holdsB]
  rfl
theorem val_top (x : Ln) (net what : Int) (l : List Ru) (s : St) (h : ∀ r ∈ l, r.rank < 9999) : valV x net what (l ++ [top s]) = if s.what = what then s.n else valV x net what l := by
  unfold valV bestV
  rw [List.foldl_append, List.foldl_cons, List.foldl_nil]
  have hb := best_lt x net what 9999 (by omega) l (-1, 0) (by show (-1 : Int) < 9999; omega) h
  have e : stepV x net what (l.foldl (stepV x net what) (-1, 0)) (top s) = match setOf what [s] with | some n => (9999, n) | none => l.foldl (stepV x net what) (-1, 0) := by
    show (if (9999 : Int) ≤ _ then _ else if appB x net (top s) = true then _ else _) = _
    rw [if_neg (by omega), if_pos (top_app x net s)]; rfl
  rw [e]
  by_cases hw : s.what = what
  · rw [if_pos hw]
    have : setOf what [s] = some s.n := by simp [setOf, List.find?, hw]
    rw [this]
  · rw [if_neg hw]
    have : setOf what [s] = none := by simp [setOf, List.find?, hw]
    rw [this]

/-! ### Turned round -/
def turned (l : List Ru) (k : Nat) : List Nat := (List.range l.length).map fun i => (k + l.length - i) % l.length
theorem turn_perm (n k : Nat) (hk : k < n) : ((List.range n).map fun i => (k + n - i) % n).Perm (List.range n) := by
  have hv : ∀ i, i < n → (k + n - i) % n = if i ≤ k then k - i else k + n - i := fun i hi => by
    split
    · next h =>
      have : k + n - i = (k - i) + n := by omega
      rw [this, Nat.add_mod_right, Nat.mod_eq_of_lt (by omega)]
    · next h => exact Nat.mod_eq_of_lt (by omega)
  have e : ((List.range n).map fun i => (k + n - i) % n) = (List.range (k + 1)).reverse ++ ((List.range (n - (k + 1))).map fun j => j + (k + 1)).reverse := by
    apply List.ext_getElem?
    intro i
    rw [List.getElem?_map]
    rcases Nat.lt_or_ge i n with hi | hi
    · rw [List.getElem?_range hi]
      show some ((k + n - i) % n) = _
      rw [hv i hi]
      split
      · next h =>
        rw [List.getElem?_append_left (by simp; omega), List.getElem?_reverse (by simp; omega), List.length_range, List.getElem?_range (by omega)]
        exact congrArg some (by omega)
      · next h =>
        rw [List.getElem?_append_right (by simp; omega), List.getElem?_reverse (by simp; omega), List.length_map, List.length_range, List.length_reverse, List.length_range, List.getElem?_map, List.getElem?_range (by omega)]
        exact congrArg some (by show k + n - i = (n - (k + 1) - 1 - (i - (k + 1))) + (k + 1); omega)
    · rw [List.getElem?_eq_none (by simpa using hi), List.getElem?_eq_none (by simp; omega)]; rfl
  have e2 : List.range n = List.range (k + 1) ++ (List.range (n - (k + 1))).map fun j => j + (k + 1) := by
    apply List.ext_getElem?
    intro i
    rcases Nat.lt_or_ge i n with hi | hi
    · rw [List.getElem?_range hi]
      rcases Nat.lt_or_ge i (k + 1) with h | h
      · rw [List.getElem?_append_left (by simpa using h), List.getElem?_range h]
      · rw [List.getElem?_append_right (by simpa using h), List.length_range, List.getElem?_map, List.getElem?_range (by omega)]
        exact congrArg some (by show i = (i - (k + 1)) + (k + 1); omega)
    · rw [List.getElem?_eq_none (by simpa using hi), List.getElem?_eq_none (by simp; omega)]
  rw [e, e2]
  exact (List.reverse_perm _).append (List.reverse_perm _)
theorem turn_rules (l m : List Ru) (k : Nat) (hk : k < l.length) (hm : m.length = l.length) (h : ∀ i, i < l.length → m[i]? = l[(k + l.length - i) % l.length]?) : l.Perm m := by
  have hg : ∀ q : List Ru, q = (List.range q.length).map fun j => q.getD j l[k] := fun q => by
    apply List.ext_getElem?
    intro i
    rw [List.getElem?_map]
    rcases Nat.lt_or_ge i q.length with hi | hi
    · rw [List.getElem?_range hi, List.getElem?_eq_getElem hi]
      show _ = some (q.getD i l[k])
      rw [List.getD_eq_getElem?_getD, List.getElem?_eq_getElem hi]; rfl
    · rw [List.getElem?_eq_none hi, List.getElem?_eq_none (by simpa using hi)]; rfl
  have e1 := hg l
  have e2 : m = ((List.range l.length).map fun i => (k + l.length - i) % l.length).map fun j => l.getD j l[k] := by
    have := hg m
    rw [hm] at this
    refine this.trans ?_
    rw [List.map_map]
    apply List.map_congr_left
    intro i hi
    rw [List.mem_range] at hi
    show m.getD i l[k] = l.getD _ l[k]
    rw [List.getD_eq_getElem?_getD, List.getD_eq_getElem?_getD, h i hi]
  have hp := (turn_perm l.length k hk).map fun j => l.getD j l[k]
  rw [← e1, ← e2] at hp
  exact hp.symm
end Go.Proofs.Ytbokhiaiihpeeaa.Ul
