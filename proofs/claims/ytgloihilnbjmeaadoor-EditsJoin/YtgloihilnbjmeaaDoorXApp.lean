/-
  A row of edits of the call's own: what append leaves of it.
-/
import Derived.Test.YtgloihilnbjmeaaDoorXMem
import Derived.Laws.AppendOwn
import Derived.Deep.AppendLies
import Derived.Maps.AppendAt
set_option linter.unusedSimpArgs false
set_option linter.unusedVariables false
set_option maxRecDepth 100000
namespace Go.Proofs.YtgloihilnbjmeaaDoor.Ex
open Go.RowKit
open Wo (Wd WdsAt keepB box_cell box_two heap_far below_alloc below_trans)

/-- append(v, x) over edits. -/
theorem wp_app {o : Oper} {a : Act} {w : World} {K : Act → World → Prop} {Q : Exit → Act → World → Prop} (s x : Operand) (ho : o.op = .call { callee := .builtin .append, args := #[s, x], argTypes := #[22, 22] })
    (B : Nat) (v : Value) (L : List Ed) (hs : a.eval s = v) (hown : w.ownsRow B 49 5 v L.length (ecs L)) (b c : Nat) (f : Ed) (hx : a.eval x = .slice (some ⟨b, 0, none⟩) 1 c)
    (hc : w.heap[b]? = some (.cells #[.int .i64 f.kind, .string (mk f.a), .string (mk f.b), .bool f.bypass, .int .i64 f.n] 49 (0, 0))) (hbd : L.length ≤ 1000000) (hB : B ≤ w.heap.size)
    (h : ∀ v' w', w'.ownsRow B 49 5 v' (L ++ [f]).length (ecs (L ++ [f])) → w.grownBy w' v.ownBlock → (v'.ownBlock = v.ownBlock ∨ v'.ownBlock = some w.heap.size) → K (a.put o.dst v') w') : o.wp Tryd.prog a w K Q := by
  obtain ⟨i, q1, q2, q3, q4⟩ := infoE
  have hb0 : b < w.heap.size := (Array.getElem?_eq_some_iff.1 hc).1
  refine wp_append_lies w s x 22 ho B 49 i _ 5 56 Tryd.underlying22 q1 q2 q3 q4 rfl (by omega) v L.length (ecs L) hs hown ⟨b, 0, none⟩ 1 c (ec f) hx rfl (fun j u hj => ?_) (fun u hu => ecs_one [f] u (by simpa [ecs, ec] using hu)) (by omega) (by unfold maxLen; omega) (by omega) hB w.heap.size rfl fun g cap w' hown' hg hat _ => ?_
  · rw [show (⟨b, 0, none⟩ : Addr).add j = ⟨b, j, none⟩ by unfold Addr.add; split <;> simp_all]
    rw [cell_of_row w b j _ _ (0, 0) hc]
    match j, hj with
    | 0, hj => exact hj
    | 1, hj => exact hj
    | 2, hj => exact hj
    | 3, hj => exact hj
    | 4, hj => exact hj
    | n + 5, hj => simp [ec] at hj
  · refine h _ w' (by rw [ecs_app, List.length_append]; exact hown') hg ?_
    rcases hat with e | e
    · exact Or.inl (by rw [e]; rfl)
    · exact Or.inr (by rw [e]; rfl)
theorem own_form {w : World} {B : Nat} {e : TypeId} {z : Nat} {v : Value} {n : Nat} {xs : List Value} (h : w.ownsRow B e z v n xs) : ∃ a c, v = .slice a n c := by
  rcases h.2 with ⟨rfl, rfl⟩ | ⟨g, c, cur, rfl, _⟩
  · exact ⟨none, 0, rfl⟩
  · exact ⟨_, c, rfl⟩
theorem own_far {w w' : World} {B : Nat} {e : TypeId} {z : Nat} {v : Value} {n : Nat} {xs : List Value} (h : w.ownsRow B e z v n xs) (hb : Below w.heap.size w w') : w'.ownsRow B e z v n xs := by
  refine ⟨h.1, h.2.imp id ?_⟩
  rintro ⟨g, c, cur, rfl, h0, hh, hr⟩
  exact ⟨g, c, cur, rfl, h0, keepB hh hb, hr⟩
theorem own_set {w : World} {B : Nat} {e : TypeId} {z : Nat} {v : Value} {n : Nat} {xs : List Value} (h : w.ownsRow B e z v n xs) {q : Nat} (hq : q < B) (j : Nat) (u : Value) : (w.setCell ⟨q, j, none⟩ u).ownsRow B e z v n xs := by
  refine ⟨h.1, h.2.imp id ?_⟩
  rintro ⟨g, c, cur, rfl, h0, hh, hr⟩
  exact ⟨g, c, cur, rfl, h0, heap_far hh (by omega), hr⟩
/-- What lies below the row's base stands where it grows. -/
theorem grow_low {w w' : World} {B : Nat} {e : TypeId} {z : Nat} {v : Value} {n : Nat} {xs : List Value} (ho : w.ownsRow B e z v n xs) (hg : w.grownBy w' v.ownBlock) (hB : B ≤ w.heap.size) : Below B w w' :=
  ⟨hg.os, hg.tape, hg.output, hg.size, fun k hk => hg.block k (by omega) (fun e => by have := (ho.lt k e.symm).1; omega)⟩
end Go.Proofs.YtgloihilnbjmeaaDoor.Ex
