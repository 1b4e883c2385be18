/-
  Texts put together (merge.py): YOrd, YMem.
-/
import Derived.Laws.AppendOwn
import Derived.Deep.AppendLies
import Derived.Deep.RegionLaw
import Derived.Deep.LoopGhost
import Derived.Deep.RegionHeld3
import Derived.Deep.DeepCutAuto
import Derived.Maps.AppendAt
import Derived.Lib.Strings
import Derived.Lib.Hide
import Derived.Lib.Builder
import Derived.BigQuiet
import Derived.Handy
import Derived.WalkLawsBesides
import Derived.Test.YtfoooldkmokjpaaGreatDoorMj1
import Derived.Test.YtfoooldkmokjpaaGreatDoorMj3
import Derived.Test.YtfoooldkmokjpaaGreatDoorProg
set_option linter.unusedSimpArgs false
set_option linter.unusedVariables false
section
namespace Go.Proofs.YtfoooldkmokjpaaGreatDoor.Ac
def cmpT (a b : Tx) : Int := if a = b then 0 else if lessT a b = true then -1 else 1
def cmpZ (a b : Int) : Int := if a = b then 0 else if a < b then -1 else 1
def rankV (a : Row) : Int := if a.fam = true then 1 else 0
def orI (a b : Int) : Int := if a = 0 then b else a
def ordV (a b : Row) : Int := orI (cmpZ a.year b.year) (orI (cmpZ (rankV a) (rankV b)) (cmpT a.who b.who))
theorem cmpT_self (a : Tx) : cmpT a a = 0 := if_pos rfl
theorem cmpZ_self (a : Int) : cmpZ a a = 0 := if_pos rfl
theorem cmpT_nz {a b : Tx} (h : a ≠ b) : cmpT a b ≠ 0 := by unfold cmpT; rw [if_neg h]; split <;> decide
theorem cmpZ_nz {a b : Int} (h : a ≠ b) : cmpZ a b ≠ 0 := by unfold cmpZ; rw [if_neg h]; split <;> decide
theorem orI_z (b : Int) : orI 0 b = b := rfl
theorem orI_nz {a : Int} (b : Int) (h : a ≠ 0) : orI a b = a := if_neg h
theorem rank_ne {a b : Row} (h : a.fam ≠ b.fam) : rankV a ≠ rankV b := by
 unfold rankV
 cases e : a.fam <;> cases e2 : b.fam <;> simp_all
theorem rank_eq {a b : Row} (h : a.fam = b.fam) : rankV a = rankV b := by unfold rankV; rw [h]
theorem ord_neg (a b : Row) : ordV a b < 0 ↔ aheadB a b = true := by
 unfold ordV aheadB
 by_cases h1 : a.year = b.year
 ·rw [if_pos h1, h1, cmpZ_self, orI_z]
  by_cases h2 : a.fam = b.fam
  ·rw [if_pos h2, rank_eq h2, cmpZ_self, orI_z]
   unfold cmpT
   by_cases h3 : a.who = b.who
   ·rw [if_pos h3, h3, less_irr]; simp
   ·rw [if_neg h3]
    cases lessT a.who b.who <;> decide
  ·rw [if_neg h2, orI_nz _ (cmpZ_nz (rank_ne h2))]
   unfold cmpZ
   rw [if_neg (rank_ne h2)]
   unfold rankV
   cases e : a.fam <;> cases e2 : b.fam <;> simp_all
 ·rw [if_neg h1, orI_nz _ (cmpZ_nz h1)]
  unfold cmpZ
  rw [if_neg h1]
  by_cases h : a.year < b.year
  ·rw [if_pos h]; simp [h]
  ·rw [if_neg h]; simp [h]
theorem ord_zero (a b : Row) : ordV a b = 0 ↔ sameP a b := by
 unfold ordV sameP
 by_cases h1 : a.year = b.year
 ·rw [h1, cmpZ_self, orI_z]
  by_cases h2 : a.fam = b.fam
  ·rw [rank_eq h2, cmpZ_self, orI_z]
   by_cases h3 : a.who = b.who
   ·rw [h3, cmpT_self]; simp [h2]
   ·simp [cmpT_nz h3, h3]
  ·rw [orI_nz _ (cmpZ_nz (rank_ne h2))]; simp [cmpZ_nz (rank_ne h2), h2]
 ·rw [orI_nz _ (cmpZ_nz h1)]; simp [cmpZ_nz h1, h1]
theorem ord_ge (a b : Row) : decide (0 ≤ ordV a b) = !(aheadB a b) := by
 cases h : aheadB a b with
 | true => have := (ord_neg a b).2 h; simp; omega
 | false =>
  have : ¬ ordV a b < 0 := fun e => by rw [(ord_neg a b).1 e] at h; cases h
  simp; omega
def Up (l : List Row) : Prop := l.Pairwise (fun a b => aheadB a b = true)
theorem Ok.up {l : List Row} (h : Ok l) : Up l := h.2
theorem up_at {l : List Row} (h : Up l) {i j : Nat} (hi : i < l.length) (hj : j < l.length) (hij : i < j) : aheadB l[i] l[j] = true := List.pairwise_iff_getElem.1 h i j hi hj hij
theorem ahead_mono {l : List Row} (hU : Up l) (k : Row) (h : Nat) (hh : h < l.length) (e : aheadB l[h] k = true) (t : Nat) (ht : t < l.length) (htl : t < h + 1) : aheadB l[t] k = true := by
 rcases Nat.lt_or_ge t h with c | c
 ·exact ahead_trans (up_at hU ht hh c) e
 ·have : t = h := by omega
  subst this; exact e
theorem behind_mono {l : List Row} (hU : Up l) (k : Row) (h : Nat) (hh : h < l.length) (e : aheadB l[h] k = false) (t : Nat) (ht : t < l.length) (htl : h ≤ t) : aheadB l[t] k = false := by
 rcases Nat.lt_or_ge h t with c | c
 ·cases hv : aheadB l[t] k with
  | false => rfl
  | true =>
   have := ahead_trans (up_at hU hh ht c) hv
   rw [e] at this; cases this
 ·have : t = h := by omega
  subst this; exact e
def Stands (l : List Row) (k : Row) (i : Nat) (fb : Bool) : Prop := i ≤ l.length ∧ (∀ t (ht : t < l.length), t < i → aheadB l[t] k = true) ∧ (∀ t (ht : t < l.length), i ≤ t → aheadB l[t] k = false) ∧ (fb = true ↔ ∃ hi : i < l.length, sameP l[i] k)
theorem same_symm {a b : Row} (h : sameP a b) : sameP b a := ⟨h.1.symm, h.2.1.symm, h.2.2.symm⟩
theorem get_found {l : List Row} (hU : Up l) {w : Tx} {f : Bool} {y d o : Int} {i : Nat} (h : Stands l ⟨w, f, y, d, o⟩ i true) : ∃ hi : i < l.length, getV l w f y = l[i] := by
 obtain ⟨h0, h1, h2, h3⟩ := h
 obtain ⟨hi, hs⟩ := h3.1 rfl
 refine ⟨hi, ?_⟩
 obtain ⟨s1, s2, s3⟩ := hs
 simp only at s1 s2 s3
 have hm : ∀ (l : List Row), Up l → ∀ a ∈ l, hit w f y a = true → getV l w f y = a := by
  intro l
  induction l with
  | nil => intro _ a ha; simp at ha
  | cons x r ih =>
   intro hu a ha hh
   have hu2 := List.pairwise_cons.1 hu
   unfold getV
   rcases List.mem_cons.1 ha with rfl | ha
   ·rw [if_pos hh]
   ·rw [if_neg, ih hu2.2 a ha hh]
    intro e
    have q1 := (hit_iff _ _ _ _).1 hh
    have q2 := (hit_iff _ _ _ _).1 e
    have := hu2.1 a ha
    rw [ahead_irr ⟨q2.1.trans q1.1.symm, q2.2.1.trans q1.2.1.symm, q2.2.2.trans q1.2.2.symm⟩] at this
    cases this
 exact hm l hU _ (List.getElem_mem hi) ((hit_iff _ _ _ _).2 ⟨s1, s2, s3⟩)
theorem none_hit {l : List Row} {w : Tx} {f : Bool} {y d o : Int} {i : Nat} (hU : Up l) (h : Stands l ⟨w, f, y, d, o⟩ i false) : ∀ a ∈ l, hit w f y a = false := by
 obtain ⟨h0, h1, h2, h3⟩ := h
 intro a ha
 cases hh : hit w f y a with
 | false => rfl
 | true =>
  exfalso
  obtain ⟨t, ht, rfl⟩ := List.getElem_of_mem ha
  have hs : sameP l[t] ⟨w, f, y, d, o⟩ := (hit_iff _ _ _ _).1 hh
  have hti : i ≤ t := by
   rcases Nat.lt_or_ge t i with c | c
   ·have := h1 t ht c
    rw [ahead_irr hs] at this; cases this
   ·exact c
  rcases Nat.lt_or_ge i t with c | c
  ·have hi : i < l.length := by omega
   have e := up_at hU hi ht c
   rw [ahead_cong2 _ hs, h2 i hi (Nat.le_refl _)] at e; cases e
  ·have : t = i := by omega
   subst this
   have := h3.2 ⟨ht, hs⟩
   cases this
theorem get_none {l : List Row} (hU : Up l) {w : Tx} {f : Bool} {y d o : Int} {i : Nat} (h : Stands l ⟨w, f, y, d, o⟩ i false) : getV l w f y = ⟨w, f, y, 0, 0⟩ := by
 have hn := none_hit hU h
 rcases get_in l w f y with k | ⟨k, _⟩
 ·have := hn _ k
  rw [get_hit] at this; cases this
 ·exact k
theorem put_ahead {a : Row} : ∀ (l : List Row) (i : Nat), i ≤ l.length → (∀ t (ht : t < l.length), t < i → aheadB l[t] a = true) → (∀ t (ht : t < l.length), i ≤ t → aheadB l[t] a = false) → put a l = l.take i ++ (match l.drop i with | [] => [a] | x :: xs => if aheadB a x = true then a :: x :: xs else a :: xs)
 | [], i, _, _, _ => by simp [put]
 | x :: xs, 0, _, h1, h2 => by
  have := h2 0 (by simp) (Nat.le_refl _)
  simp only [List.getElem_cons_zero] at this
  simp [put, this]
 | x :: xs, i + 1, hi, h1, h2 => by
  have e := h1 0 (by simp) (by omega)
  simp only [List.getElem_cons_zero] at e
  have ih := put_ahead xs i (by simpa using hi) (fun t ht hti => h1 (t + 1) (Nat.succ_lt_succ ht) (by omega)) (fun t ht hti => h2 (t + 1) (Nat.succ_lt_succ ht) (by omega))
  simp only [put, e, if_true, List.take_succ_cons, List.drop_succ_cons, List.cons_append, ih]
theorem put_found {l : List Row} {a : Row} {i : Nat} (h : Stands l a i true) : ∃ hi : i < l.length, put a l = l.set i a := by
 obtain ⟨h0, h1, h2, h3⟩ := h
 obtain ⟨hi, hs⟩ := h3.1 rfl
 refine ⟨hi, ?_⟩
 rw [put_ahead l i h0 h1 h2, List.drop_eq_getElem_cons hi]
 have e : aheadB a l[i] = false := ahead_irr (same_symm hs)
 simp only [e]
 rw [List.set_eq_take_append_cons_drop, if_pos hi]
 rfl
theorem put_none {l : List Row} {a : Row} {i : Nat} (h : Stands l a i false) : put a l = l.take i ++ a :: l.drop i := by
 obtain ⟨h0, h1, h2, h3⟩ := h
 rw [put_ahead l i h0 h1 h2]
 rcases Nat.lt_or_ge i l.length with hi | hi
 ·rw [List.drop_eq_getElem_cons hi]
  have e : aheadB a l[i] = true := by
   rcases ahead_tri a l[i] with k | k | k
   ·exact k
   ·have := h3.2 ⟨hi, same_symm k⟩
    cases this
   ·rw [h2 i hi (Nat.le_refl _)] at k; cases k
  simp only [e, if_true]
 ·rw [List.drop_eq_nil_of_le hi]
end Go.Proofs.YtfoooldkmokjpaaGreatDoor.Ac
end
section
namespace Go.Proofs.YtfoooldkmokjpaaGreatDoor.Ac
open Go.RowKit
theorem keepB {w w' : World} {q : Nat} {o : Obj} (h : w.heap[q]? = some o) (hb : Below w.heap.size w w') : w'.heap[q]? = some o := by
 rw [hb.block q (Array.getElem?_eq_some_iff.1 h).1]; exact h
theorem heap_far {w : World} {b q j : Nat} {o : Obj} {u : Value} (h : w.heap[b]? = some o) (hne : b ≠ q) : (w.setCell ⟨q, j, none⟩ u).heap[b]? = some o := by
 rw [Below.heap_setCell _ _ _ _ hne]; exact h
theorem below_alloc (w : World) (o : Obj) : Below w.heap.size w (w.alloc o) := (Below.refl _ w).alloc (Nat.le_refl _) o
theorem below_trans {a b c : World} (h : Below a.heap.size a b) (k : Below b.heap.size b c) : Below a.heap.size a c := h.trans (k.mono h.size)
theorem below_tr {w a b : World} {p : Nat} (hp : w.heap.size = p) (h : Below p w a) (k : Below a.heap.size a b) : Below p w b := by subst hp; exact below_trans h k
theorem alloc_new (w : World) (cs : Array Value) (t : TypeId) : (w.alloc (.cells cs t)).heap[w.heap.size]? = some (.cells cs t (0, 0)) := heap_alloc_new w _
def rc (f : Row) : List Value := [.string (mk f.who), .bool f.fam, .int .i64 f.year, .int .i64 f.de, .int .i64 f.oo]
abbrev rwv (f : Row) : Value := .agg #[.string (mk f.who), .bool f.fam, .int .i64 f.year, .int .i64 f.de, .int .i64 f.oo]
def rcs : List Row → List Value
 | [] => []
 | f :: r => .string (mk f.who) :: .bool f.fam :: .int .i64 f.year :: .int .i64 f.de :: .int .i64 f.oo :: rcs r
theorem rcs_cons (f : Row) (r : List Row) : rcs (f :: r) = rc f ++ rcs r := rfl
theorem rcs_app (a b : List Row) : rcs (a ++ b) = rcs a ++ rcs b := by induction a <;> simp_all [rcs]
theorem rcs_len (a : List Row) : (rcs a).length = a.length * 5 := by induction a <;> simp_all [rcs]; omega
theorem rcs_at : ∀ (a : List Row) (j : Nat) (x : Row), a[j]? = some x → ∀ i, i < 5 → (rcs a)[j * 5 + i]? = (rc x)[i]?
 | [], j, x, h, _, _ => by simp at h
 | y :: r, 0, x, h, i, hi => by
  simp at h; subst h
  match i, hi with
  | 0, _ => rfl
  | 1, _ => rfl
  | 2, _ => rfl
  | 3, _ => rfl
  | 4, _ => rfl
 | y :: r, j + 1, x, h, i, hi => by
  have := rcs_at r j x (by simpa using h) i hi
  rw [show (j + 1) * 5 + i = (j * 5 + i) + 5 by omega]
  simpa [rcs] using this
theorem rcs_one : ∀ (a : List Row), ∀ u ∈ rcs a, u.oneCell' = true
 | [], u, h => by simp [rcs] at h
 | f :: r, u, h => by
  have ih := rcs_one r
  simp only [rcs, List.mem_cons] at h
  rcases h with rfl | rfl | rfl | rfl | rfl | h
  all_goals first | rfl | exact ih u h
theorem rcs_take (l : List Row) (i : Nat) : rcs (l.take i) = (rcs l).take (i * 5) := by
 rcases Nat.lt_or_ge i l.length with h | h
 ·have e : rcs l = rcs (l.take i) ++ rcs (l.drop i) := by rw [← rcs_app, List.take_append_drop]
  have hl : (rcs (l.take i)).length = i * 5 := by rw [rcs_len, List.length_take]; congr 1; omega
  rw [e, List.take_left' hl]
 ·rw [List.take_of_length_le h, List.take_of_length_le (by rw [rcs_len]; exact Nat.mul_le_mul_right _ h)]
theorem rcs_drop (l : List Row) (i : Nat) : rcs (l.drop i) = (rcs l).drop (i * 5) := by
 rcases Nat.lt_or_ge i l.length with h | h
 ·have e : rcs l = rcs (l.take i) ++ rcs (l.drop i) := by rw [← rcs_app, List.take_append_drop]
  have hl : (rcs (l.take i)).length = i * 5 := by rw [rcs_len, List.length_take]; congr 1; omega
  rw [e, List.drop_left' hl]
 ·rw [List.drop_eq_nil_of_le h, List.drop_eq_nil_of_le (by rw [rcs_len]; exact Nat.mul_le_mul_right _ h)]; rfl
def RwCells (w : World) (b o : Nat) (f : Row) : Prop :=
 w.cell? ⟨b, o, none⟩ = some (.string (mk f.who)) ∧ w.cell? ⟨b, o + 1, none⟩ = some (.bool f.fam) ∧ w.cell? ⟨b, o + 2, none⟩ = some (.int .i64 f.year) ∧ w.cell? ⟨b, o + 3, none⟩ = some (.int .i64 f.de) ∧ w.cell? ⟨b, o + 4, none⟩ = some (.int .i64 f.oo)
theorem RwCells.of {w w' : World} {b o : Nat} {x : Row} (h : RwCells w b o x) (he : w'.heap[b]? = w.heap[b]?) : RwCells w' b o x := by
 obtain ⟨h0, h1, h2, h3, h4⟩ := h
 refine ⟨?_, ?_, ?_, ?_, ?_⟩ <;> rw [World.cell?_of_block (w := w) he] <;> assumption
def RwsAt (K : Nat → Prop) (w : World) (v : Value) (l : List Row) : Prop :=
 ∃ a c, v = .slice a l.length c ∧ l.length ≤ c ∧ c ≤ maxLen ∧ (l = [] ∨ ∃ b o, a = some ⟨b, o, none⟩ ∧ K b ∧ b < w.heap.size ∧ ∀ (j : Nat) x, l[j]? = some x → RwCells w b (o + j * 5) x)
theorem RwsAt.move {K K' : Nat → Prop} {w w' : World} {v : Value} {l : List Row} (h : RwsAt K w v l) (hm : Moves K K' w w') : RwsAt K' w' v l := by
 obtain ⟨a, c, rfl, h1, h2, h3⟩ := h
 refine ⟨a, c, rfl, h1, h2, h3.imp id ?_⟩
 rintro ⟨b, o, rfl, hk, hb, hc⟩
 obtain ⟨k', hh⟩ := hm.2 b hb hk
 exact ⟨b, o, rfl, k', Nat.lt_of_lt_of_le hb hm.1, fun j x hj => (hc j x hj).of hh⟩
theorem RwsAt.grw {w w' : World} {v : Value} {l : List Row} (h : RwsAt All w v l) (hb : Below w.heap.size w w') : RwsAt All w' v l := h.move (Below.moves hb)
theorem RwsAt.all {K : Nat → Prop} {w : World} {v : Value} {l : List Row} (h : RwsAt K w v l) : RwsAt All w v l := h.move (moves_weak w fun _ _ _ => trivial)
theorem RwsAt.nil (K : Nat → Prop) (w : World) : RwsAt K w (.slice none 0 0) [] := ⟨none, 0, rfl, by simp, by simp [maxLen], Or.inl rfl⟩
theorem RwsAt.form {K : Nat → Prop} {w : World} {v : Value} {xs : List Row} (h : RwsAt K w v xs) : ∃ a c, v = .slice a xs.length c ∧ xs.length ≤ c ∧ c ≤ 9223372036854775807 := by
 obtain ⟨a, c, rfl, h1, h2, _⟩ := h
 exact ⟨a, c, rfl, h1, by unfold maxLen at h2; exact h2⟩
theorem RwsAt.get {K : Nat → Prop} {w : World} {a : Option Addr} {n c : Nat} {ls : List Row} (h : RwsAt K w (.slice a n c) ls) (k : Nat) (hk : k < ls.length) :
  ∃ b o, a = some ⟨b, o, none⟩ ∧ b < w.heap.size ∧ ls[k]? = some ls[k] ∧ RwCells w b (o + k * 5) ls[k] := by
 obtain ⟨a', c', he, h1, h2, h3⟩ := h
 have ha : a = a' := by injection he
 subst ha
 rcases h3 with h | ⟨b, o, ha, _, hb, hc⟩
 ·subst h; simp at hk
 ·have hx := List.getElem?_eq_getElem hk
  exact ⟨b, o, ha, hb, hx, hc k _ hx⟩
theorem cell_keep {l : List Row} {w : World} {b oo n c : Nat} (h : RwsAt All w (.slice (some ⟨b, oo, none⟩) n c) l) (t : Nat) (ht : t < l.length) : RwCells w b (oo + t * 5) l[t] := by
 obtain ⟨b1, o1, e1, -, -, c1⟩ := RwsAt.get h t ht
 simp only [Option.some.injEq, Addr.mk.injEq, and_true] at e1
 obtain ⟨rfl, rfl⟩ := e1
 exact c1
abbrev TA : TypeId := 51
def Own (B : Nat) (w : World) (v : Value) (l : List Row) : Prop := w.ownsRow B TA 5 v l.length (rcs l)
theorem rws_of_own {K : Nat → Prop} {w : World} {base : Nat} {v : Value} {l : List Row} (h : Own base w v l) (hK : ∀ b, base ≤ b → K b) : RwsAt K w v l := by
 obtain ⟨hl, h⟩ := h
 rcases h with ⟨rfl, h0⟩ | ⟨g, cap, cur, rfl, hbg, hg, h1, h2, hs, ht⟩
 ·obtain rfl := List.length_eq_zero_iff.1 h0
  exact RwsAt.nil _ _
 ·refine ⟨_, cap, rfl, h1, h2, Or.inr ⟨g, 0, rfl, hK g hbg, (Array.getElem?_eq_some_iff.1 hg).1, fun j x hj => ?_⟩⟩
  have hjl : j < l.length := (List.getElem?_eq_some_iff.1 hj).1
  have e : ∀ i, i < 5 → w.cell? ⟨g, 0 + j * 5 + i, none⟩ = (rc x)[i]? := fun i hi => by
   have q := rcs_at l j x hj i hi
   rw [← ht, List.getElem?_take, if_pos (by omega)] at q
   rw [cell_of_row w g _ cur _ (0, 0) hg, Nat.zero_add]
   simpa using q
  exact ⟨e 0 (by omega), e 1 (by omega), e 2 (by omega), e 3 (by omega), e 4 (by omega)⟩
theorem infoA : ∃ i, Tryz.prog.info? TA = some i ∧ i.zero = some (.agg #[.string ByteArray.empty, .bool false, .int .i64 0, .int .i64 0, .int .i64 0]) ∧ i.size = 5 ∧ i.bytes = 48 := by
 have hi : (Tryz.prog.info? TA).map (fun i => (i.zero, i.size, i.bytes)) = some (some (.agg #[.string ByteArray.empty, .bool false, .int .i64 0, .int .i64 0, .int .i64 0]), 5, 48) := by kernel_rfl
 cases hq : Tryz.prog.info? TA with
 | none => rw [hq] at hi; cases hi
 | some i =>
  rw [hq] at hi
  simp only [Option.map_some, Option.some.injEq, Prod.mk.injEq] at hi
  exact ⟨i, rfl, hi⟩
theorem wp_app {o : Oper} {a : Act} {w : World} {K : Act → World → Prop} {Q : Exit → Act → World → Prop} (s x : Operand) (ho : o.op = .call { callee := .builtin .append, args := #[s, x], argTypes := #[32, 32] })
  (B : Nat) (v : Value) (L : List Row) (hs : a.eval s = v) (hown : Own B w v L) (b c : Nat) (f : Row) (hx : a.eval x = .slice (some ⟨b, 0, none⟩) 1 c)
  (hc : w.heap[b]? = some (.cells #[.string (mk f.who), .bool f.fam, .int .i64 f.year, .int .i64 f.de, .int .i64 f.oo] TA (0, 0))) (hbd : L.length ≤ 1000000) (hB : B ≤ w.heap.size)
  (h : ∀ v' w', Own B w' v' (L ++ [f]) → w.grownBy w' v.ownBlock → (v'.ownBlock = v.ownBlock ∨ v'.ownBlock = some w.heap.size) → K (a.put o.dst v') w') : o.wp Tryz.prog a w K Q := by
 obtain ⟨i, q1, q2, q3, q4⟩ := infoA
 have hb0 : b < w.heap.size := (Array.getElem?_eq_some_iff.1 hc).1
 refine wp_append_lies w s x 32 ho B TA i _ 5 48 Tryz.underlying32 q1 q2 q3 q4 rfl (by omega) v L.length (rcs L) hs hown ⟨b, 0, none⟩ 1 c (rc f) hx rfl (fun j u hj => ?_) (fun u hu => rcs_one [f] u (by simpa [rcs, rc] using hu)) (by omega) (by unfold maxLen; omega) (by omega) hB w.heap.size rfl fun g cap w' hown' hg hat _ => ?_
 ·rw [show (⟨b, 0, none⟩ : Addr).add j = ⟨b, j, none⟩ by unfold Addr.add; split <;> simp_all]
  rw [cell_of_row w b j _ _ (0, 0) hc]
  match j, hj with
  | 0, hj => exact hj
  | 1, hj => exact hj
  | 2, hj => exact hj
  | 3, hj => exact hj
  | 4, hj => exact hj
  | n + 5, hj => simp [rc] at hj
 ·refine h _ w' (by unfold Own; rw [rcs_app, List.length_append]; exact hown') hg ?_
  rcases hat with e | e
  ·exact Or.inl (by rw [e]; rfl)
  ·exact Or.inr (by rw [e]; rfl)
theorem own_form {w : World} {B : Nat} {v : Value} {l : List Row} (h : Own B w v l) : ∃ a c, v = .slice a l.length c ∧ l.length ≤ c ∧ c ≤ 9223372036854775807 := (rws_of_own (K := All) h fun _ _ => trivial).form
theorem own_far {w w' : World} {B : Nat} {v : Value} {l : List Row} (h : Own B w v l) (hb : Below w.heap.size w w') : Own B w' v l := by
 refine ⟨h.1, h.2.imp id ?_⟩
 rintro ⟨g, c, cur, rfl, h0, hh, hr⟩
 exact ⟨g, c, cur, rfl, h0, keepB hh hb, hr⟩
theorem grow_low {w w' : World} {B : Nat} {v : Value} {l : List Row} (ho : Own B w v l) (hg : w.grownBy w' v.ownBlock) (hB : B ≤ w.heap.size) : Below B w w' :=
 ⟨hg.os, hg.tape, hg.output, hg.size, fun k hk => hg.block k (by omega) (fun e => by have := (ho.lt k e.symm).1; omega)⟩
theorem own_nil (B : Nat) (w : World) : Own B w (.slice none 0 0) [] := ⟨rfl, Or.inl ⟨rfl, rfl⟩⟩
def Grew (w w' : World) : Prop := Below w.heap.size w w' ∧ w.drawn ≤ w'.drawn
theorem cells3 {w : World} {g : Nat} {a b c : Value} {T : TypeId} (h : w.heap[g]? = some (.cells #[a, b, c] T (0, 0))) : w.cell? ⟨g, 0, none⟩ = some a ∧ w.cell? ⟨g, 1, none⟩ = some b ∧ w.cell? ⟨g, 2, none⟩ = some c := by
 refine ⟨?_, ?_, ?_⟩ <;> (rw [cell_of_row w g _ _ T (0, 0) h]; rfl)
theorem cells5 {w : World} {g : Nat} {a b c d e : Value} {T : TypeId} (h : w.heap[g]? = some (.cells #[a, b, c, d, e] T (0, 0))) : w.cell? ⟨g, 0, none⟩ = some a ∧ w.cell? ⟨g, 1, none⟩ = some b ∧ w.cell? ⟨g, 2, none⟩ = some c ∧ w.cell? ⟨g, 3, none⟩ = some d ∧ w.cell? ⟨g, 4, none⟩ = some e := by
 refine ⟨?_, ?_, ?_, ?_, ?_⟩ <;> (rw [cell_of_row w g _ _ T (0, 0) h]; rfl)
theorem frz5 {w : World} {g : Nat} {a b c d e : Value} {T : TypeId} (h : w.heap[g]? = some (.cells #[a, b, c, d, e] T (0, 0))) : w.frozen? ⟨g, 0, none⟩ = false ∧ w.frozen? ⟨g, 1, none⟩ = false ∧ w.frozen? ⟨g, 2, none⟩ = false ∧ w.frozen? ⟨g, 3, none⟩ = false ∧ w.frozen? ⟨g, 4, none⟩ = false := by
 refine ⟨?_, ?_, ?_, ?_, ?_⟩ <;> exact Lib.frozen_of_heap h _
theorem heap_set {w : World} {b : Nat} {cs : Array Value} {t : TypeId} (h : w.heap[b]? = some (.cells cs t (0, 0))) (j : Nat) (u : Value) : (w.setCell ⟨b, j, none⟩ u).heap[b]? = some (.cells (cs.setIfInBounds j u) t (0, 0)) := by
 simp [World.setCell, Array.getElem?_modify, h]
theorem put5_heap {w : World} {b : Nat} {a0 a1 a2 a3 a4 b0 b1 b2 b3 b4 : Value} {T : TypeId} (h : w.heap[b]? = some (.cells #[a0, a1, a2, a3, a4] T (0, 0))) :
  (((((w.setCell ⟨b, 0, none⟩ b0).setCell ⟨b, 1, none⟩ b1).setCell ⟨b, 2, none⟩ b2).setCell ⟨b, 3, none⟩ b3).setCell ⟨b, 4, none⟩ b4).heap[b]? = some (.cells #[b0, b1, b2, b3, b4] T (0, 0)) := by
 have h0 : (w.setCell ⟨b, 0, none⟩ b0).heap[b]? = some (.cells #[b0, a1, a2, a3, a4] T (0, 0)) := by rw [heap_set h]; rfl
 have h1 : ((w.setCell ⟨b, 0, none⟩ b0).setCell ⟨b, 1, none⟩ b1).heap[b]? = some (.cells #[b0, b1, a2, a3, a4] T (0, 0)) := by rw [heap_set h0]; rfl
 have h2 : (((w.setCell ⟨b, 0, none⟩ b0).setCell ⟨b, 1, none⟩ b1).setCell ⟨b, 2, none⟩ b2).heap[b]? = some (.cells #[b0, b1, b2, a3, a4] T (0, 0)) := by rw [heap_set h1]; rfl
 have h3 : ((((w.setCell ⟨b, 0, none⟩ b0).setCell ⟨b, 1, none⟩ b1).setCell ⟨b, 2, none⟩ b2).setCell ⟨b, 3, none⟩ b3).heap[b]? = some (.cells #[b0, b1, b2, b3, a4] T (0, 0)) := by rw [heap_set h2]; rfl
 rw [heap_set h3]; rfl
theorem put5_below {p : Nat} {w W : World} (h : Below p w W) (b : Nat) (hb : p ≤ b) (a0 a1 a2 a3 a4 : Value) : Below p w (((((W.setCell ⟨b, 0, none⟩ a0).setCell ⟨b, 1, none⟩ a1).setCell ⟨b, 2, none⟩ a2).setCell ⟨b, 3, none⟩ a3).setCell ⟨b, 4, none⟩ a4) :=
 ((((h.setCell (p := ⟨b, 0, none⟩) hb a0).setCell (p := ⟨b, 1, none⟩) hb a1).setCell (p := ⟨b, 2, none⟩) hb a2).setCell (p := ⟨b, 3, none⟩) hb a3).setCell (p := ⟨b, 4, none⟩) hb a4
end Go.Proofs.YtfoooldkmokjpaaGreatDoor.Ac
end
