/-
  Texts put together (merge.py): XMem, XApp.
-/
import Derived.Laws.AppendOwn
import Derived.Deep.AppendLies
import Derived.Maps.AppendAt
import Derived.Test.YtgloihilnbjmeaaDoorMc14
import Derived.Test.YtgloihilnbjmeaaDoorMc18
import Derived.Test.YtgloihilnbjmeaaDoorMc19
/-
  Rows of an edit table as they lie in memory; what stands while the rest is written.
-/
section
set_option linter.unusedSimpArgs false
set_option linter.unusedVariables false
namespace Go.Proofs.YtgloihilnbjmeaaDoor.Ex
open Go.RowKit
open Wo (keepB box_cell box_two heap_far below_alloc below_trans)

def ec (f : Ed) : List Value := [.int .i64 f.kind, .string (mk f.a), .string (mk f.b), .bool f.bypass, .int .i64 f.n]
abbrev edv (f : Ed) : Value := .agg #[.int .i64 f.kind, .string (mk f.a), .string (mk f.b), .bool f.bypass, .int .i64 f.n]
def ecs : List Ed → List Value
  | [] => []
  | f :: r => .int .i64 f.kind :: .string (mk f.a) :: .string (mk f.b) :: .bool f.bypass :: .int .i64 f.n :: ecs r
theorem ecs_cons (f : Ed) (r : List Ed) : ecs (f :: r) = ec f ++ ecs r := rfl
theorem ecs_app (a b : List Ed) : ecs (a ++ b) = ecs a ++ ecs b := by induction a <;> simp_all [ecs]
theorem ecs_len (a : List Ed) : (ecs a).length = a.length * 5 := by induction a <;> simp_all [ecs]; omega
theorem ecs_at : ∀ (a : List Ed) (j : Nat) (x : Ed), a[j]? = some x → ∀ i, i < 5 → (ecs a)[j * 5 + i]? = (ec x)[i]?
  | [], j, x, h, _, _ => by simp at h
  | y :: r, 0, x, h, i, hi => by
    simp at h; subst h
    match i, hi with
    | 0, _ => rfl
    | 1, _ => rfl
    | 2, _ => rfl
    | 3, _ => rfl
    | 4, _ => rfl
  | y :: r, j + 1, x, h, i, hi => by
    have := ecs_at r j x (by simpa using h) i hi
    rw [show (j + 1) * 5 + i = (j * 5 + i) + 5 by omega]
    simpa [ecs] using this
theorem ecs_one : ∀ (a : List Ed), ∀ u ∈ ecs a, u.oneCell' = true
  | [], u, h => by simp [ecs] at h
  | f :: r, u, h => by
    have ih := ecs_one r
    simp only [ecs, List.mem_cons] at h
    rcases h with rfl | rfl | rfl | rfl | rfl | h
    all_goals first | rfl | exact ih u h
def EdCells (w : World) (b o : Nat) (f : Ed) : Prop :=
  w.cell? ⟨b, o, none⟩ = some (.int .i64 f.kind) ∧ w.cell? ⟨b, o + 1, none⟩ = some (.string (mk f.a)) ∧ w.cell? ⟨b, o + 2, none⟩ = some (.string (mk f.b)) ∧ w.cell? ⟨b, o + 3, none⟩ = some (.bool f.bypass) ∧ w.cell? ⟨b, o + 4, none⟩ = some (.int .i64 f.n)
theorem EdCells.of {w w' : World} {b o : Nat} {x : Ed} (h : EdCells w b o x) (he : w'.heap[b]? = w.heap[b]?) : EdCells w' b o x := by
  obtain ⟨h0, h1, h2, h3, h4⟩ := h
  refine ⟨?_, ?_, ?_, ?_, ?_⟩ <;> rw [World.cell?_of_block (w := w) he] <;> assumption
def EdsAt (K : Nat → Prop) (w : World) (v : Value) (l : List Ed) : Prop :=
  ∃ a c, v = .slice a l.length c ∧ l.length ≤ c ∧ c ≤ maxLen ∧ (l = [] ∨ ∃ b o, a = some ⟨b, o, none⟩ ∧ K b ∧ b < w.heap.size ∧ ∀ (j : Nat) x, l[j]? = some x → EdCells w b (o + j * 5) x)
theorem EdsAt.move {K K' : Nat → Prop} {w w' : World} {v : Value} {l : List Ed} (h : EdsAt K w v l) (hm : Moves K K' w w') : EdsAt K' w' v l := by
  obtain ⟨a, c, rfl, h1, h2, h3⟩ := h
  refine ⟨a, c, rfl, h1, h2, h3.imp id ?_⟩
  rintro ⟨b, o, rfl, hk, hb, hc⟩
  obtain ⟨k', hh⟩ := hm.2 b hb hk
  exact ⟨b, o, rfl, k', Nat.lt_of_lt_of_le hb hm.1, fun j x hj => (hc j x hj).of hh⟩
theorem EdsAt.grw {w w' : World} {v : Value} {l : List Ed} (h : EdsAt All w v l) (hb : Below w.heap.size w w') : EdsAt All w' v l := h.move (Below.moves hb)
theorem EdsAt.nil (K : Nat → Prop) (w : World) : EdsAt K w (.slice none 0 0) [] := ⟨none, 0, rfl, by simp, by simp [maxLen], Or.inl rfl⟩
theorem EdsAt.form {K : Nat → Prop} {w : World} {v : Value} {xs : List Ed} (h : EdsAt K w v xs) : ∃ a c, v = .slice a xs.length c ∧ xs.length ≤ c ∧ c ≤ 9223372036854775807 := by
  obtain ⟨a, c, rfl, h1, h2, _⟩ := h
  exact ⟨a, c, rfl, h1, by unfold maxLen at h2; exact h2⟩
theorem EdsAt.get {K : Nat → Prop} {w : World} {a : Option Addr} {n c : Nat} {ls : List Ed} (h : EdsAt K w (.slice a n c) ls) (k : Nat) (hk : k < ls.length) :
    ∃ b o, a = some ⟨b, o, none⟩ ∧ b < w.heap.size ∧ ls[k]? = some ls[k] ∧ EdCells w b (o + k * 5) ls[k] := by
  obtain ⟨a', c', he, h1, h2, h3⟩ := h
  have ha : a = a' := by injection he
  subst ha
  rcases h3 with h | ⟨b, o, ha, _, hb, hc⟩
  · subst h; simp at hk
  · have hx := List.getElem?_eq_getElem hk
    exact ⟨b, o, ha, hb, hx, hc k _ hx⟩
theorem eds_of_own {K : Nat → Prop} {w : World} {base : Nat} {v : Value} {l : List Ed} (h : w.ownsRow base 49 5 v l.length (ecs l)) (hK : ∀ b, v.ownBlock = some b → K b) : EdsAt K w v l := by
  obtain ⟨hl, h⟩ := h
  rcases h with ⟨rfl, h0⟩ | ⟨g, cap, cur, rfl, _, hg, h1, h2, hs, ht⟩
  · obtain rfl := List.length_eq_zero_iff.1 h0
    exact EdsAt.nil _ _
  · refine ⟨_, cap, rfl, h1, h2, Or.inr ⟨g, 0, rfl, hK g rfl, (Array.getElem?_eq_some_iff.1 hg).1, fun j x hj => ?_⟩⟩
    have hjl : j < l.length := (List.getElem?_eq_some_iff.1 hj).1
    have e : ∀ i, i < 5 → w.cell? ⟨g, 0 + j * 5 + i, none⟩ = (ec x)[i]? := fun i hi => by
      have q := ecs_at l j x hj i hi
      rw [← ht, List.getElem?_take, if_pos (by omega)] at q
      rw [cell_of_row w g _ cur _ (0, 0) hg, Nat.zero_add]
      simpa using q
    exact ⟨e 0 (by omega), e 1 (by omega), e 2 (by omega), e 3 (by omega), e 4 (by omega)⟩
theorem infoE : ∃ i, Tryd.prog.info? 49 = some i ∧ i.zero = some (.agg #[.int .i64 0, .string ByteArray.empty, .string ByteArray.empty, .bool false, .int .i64 0]) ∧ i.size = 5 ∧ i.bytes = 56 := by
  have hi : (Tryd.prog.info? 49).map (fun i => (i.zero, i.size, i.bytes)) = some (some (.agg #[.int .i64 0, .string ByteArray.empty, .string ByteArray.empty, .bool false, .int .i64 0]), 5, 56) := by kernel_rfl
  cases hq : Tryd.prog.info? 49 with
  | none => rw [hq] at hi; cases hi
  | some i =>
    rw [hq] at hi
    simp only [Option.map_some, Option.some.injEq, Prod.mk.injEq] at hi
    exact ⟨i, rfl, hi⟩
end Go.Proofs.YtgloihilnbjmeaaDoor.Ex
end

/-
  A row of edits of the call's own: what append leaves of it.
-/
section
set_option linter.unusedSimpArgs false
set_option linter.unusedVariables false
set_option maxRecDepth 100000
namespace Go.Proofs.YtgloihilnbjmeaaDoor.Ex
open Go.RowKit
open Wo (Wd WdsAt keepB box_cell box_two heap_far below_alloc below_trans)

/-- append(v, x) over edits. -/
theorem wp_app {o : Oper} {a : Act} {w : World} {K : Act → World → Prop} {Q : Exit → Act → World → Prop} (s x : Operand) (ho : o.op = .call { callee := .builtin .append, args := #[s, x], argTypes := #[22, 22] })
    (B : Nat) (v : Value) (L : List Ed) (hs : a.eval s = v) (hown : w.ownsRow B 49 5 v L.length (ecs L)) (b c : Nat) (f : Ed) (hx : a.eval x = .slice (some ⟨b, 0, none⟩) 1 c)
    (hc : w.heap[b]? = some (.cells #[.int .i64 f.kind, .string (mk f.a), .string (mk f.b), .bool f.bypass, .int .i64 f.n] 49 (0, 0))) (hbd : L.length ≤ 1000000) (hB : B ≤ w.heap.size)
    (h : ∀ v' w', w'.ownsRow B 49 5 v' (L ++ [f]).length (ecs (L ++ [f])) → w.grownBy w' v.ownBlock → (v'.ownBlock = v.ownBlock ∨ v'.ownBlock = some w.heap.size) → K (a.put o.dst v') w') : o.wp Tryd.prog a w K Q := by
  obtain ⟨i, q1, q2, q3, q4⟩ := infoE
  have hb0 : b < w.heap.size := (Array.getElem?_eq_some_iff.1 hc).1
  refine wp_append_lies w s x 22 ho B 49 i _ 5 56 Tryd.underlying22 q1 q2 q3 q4 rfl (by omega) v L.length (ecs L) hs hown ⟨b, 0, none⟩ 1 c (ec f) hx rfl (fun j u hj => ?_) (fun u hu => ecs_one [f] u (by simpa [ecs, ec] using hu)) (by omega) (by unfold maxLen; omega) (by omega) hB w.heap.size rfl fun g cap w' hown' hg hat _ => ?_
  · rw [show (⟨b, 0, none⟩ : Addr).add j = ⟨b, j, none⟩ by unfold Addr.add; split <;> simp_all]
    rw [cell_of_row w b j _ _ (0, 0) hc]
    match j, hj with
    | 0, hj => exact hj
    | 1, hj => exact hj
    | 2, hj => exact hj
    | 3, hj => exact hj
    | 4, hj => exact hj
    | n + 5, hj => simp [ec] at hj
  · refine h _ w' (by rw [ecs_app, List.length_append]; exact hown') hg ?_
    rcases hat with e | e
    · exact Or.inl (by rw [e]; rfl)
    · exact Or.inr (by rw [e]; rfl)
theorem own_form {w : World} {B : Nat} {e : TypeId} {z : Nat} {v : Value} {n : Nat} {xs : List Value} (h : w.ownsRow B e z v n xs) : ∃ a c, v = .slice a n c := by
  rcases h.2 with ⟨rfl, rfl⟩ | ⟨g, c, cur, rfl, _⟩
  · exact ⟨none, 0, rfl⟩
  · exact ⟨_, c, rfl⟩
theorem own_far {w w' : World} {B : Nat} {e : TypeId} {z : Nat} {v : Value} {n : Nat} {xs : List Value} (h : w.ownsRow B e z v n xs) (hb : Below w.heap.size w w') : w'.ownsRow B e z v n xs := by
  refine ⟨h.1, h.2.imp id ?_⟩
  rintro ⟨g, c, cur, rfl, h0, hh, hr⟩
  exact ⟨g, c, cur, rfl, h0, keepB hh hb, hr⟩
theorem own_set {w : World} {B : Nat} {e : TypeId} {z : Nat} {v : Value} {n : Nat} {xs : List Value} (h : w.ownsRow B e z v n xs) {q : Nat} (hq : q < B) (j : Nat) (u : Value) : (w.setCell ⟨q, j, none⟩ u).ownsRow B e z v n xs := by
  refine ⟨h.1, h.2.imp id ?_⟩
  rintro ⟨g, c, cur, rfl, h0, hh, hr⟩
  exact ⟨g, c, cur, rfl, h0, heap_far hh (by omega), hr⟩
/-- What lies below the row's base stands where it grows. -/
theorem grow_low {w w' : World} {B : Nat} {e : TypeId} {z : Nat} {v : Value} {n : Nat} {xs : List Value} (ho : w.ownsRow B e z v n xs) (hg : w.grownBy w' v.ownBlock) (hB : B ≤ w.heap.size) : Below B w w' :=
  ⟨hg.os, hg.tape, hg.output, hg.size, fun k hk => hg.block k (by omega) (fun e => by have := (ho.lt k e.symm).1; omega)⟩
end Go.Proofs.YtgloihilnbjmeaaDoor.Ex
end
