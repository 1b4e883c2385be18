/-
  A set of keys in a map of the call's own; a row of truths.
-/
import Derived.Test.YtmgjnjbiljpneaaIKey
import Derived.Maps.OwnSet
import Derived.Deep.OwnRows
set_option linter.unusedSimpArgs false
set_option linter.unusedVariables false
set_option maxRecDepth 100000
namespace Go.Proofs.Ytmgjnjbiljpneaa.Tw
open Go.RowKit Go.Maps
open Cm (Ln lnv LnsAt LnBox below_alloc below_trans)

theorem law9 : Keyed Try.prog 9 := string_keyed Try.underlying9
theorem zeroU (w : World) : (zeroValue 45).run Try.prog w = .ok (.agg #[]) w := by kernel_rfl
theorem info4 : (Try.prog.info? 4).map (fun i => (i.zero, i.size, i.bytes)) = some (some (.bool false), 1, 1) := by kernel_rfl

/-- Block b is a map whose keys are those of these services. -/
def SetIs (w : World) (b n : Nat) (C : List Ln) : Prop := ∃ D : DataW Unit, w.ownsMap Try.prog 9 unitElem b n D ∧ ∀ s : List UInt8, Maps.has D (.string s) = C.any fun y => keyV y == s
theorem SetIs.new (w : World) : SetIs (w.alloc (.map #[] 0)) w.heap.size 0 [] := ⟨.map [], World.ownsMap_made _ _ _ _, fun s => rfl⟩
theorem SetIs.far {w w' : World} {b n : Nat} {C : List Ln} (h : SetIs w b n C) (hb : Below w.heap.size w w') : SetIs w' b n C := by
  obtain ⟨D, ⟨es, clock, hh, r⟩, h2⟩ := h
  exact ⟨D, ⟨es, clock, keepB hh hb, r⟩, h2⟩
theorem SetIs.set {w : World} {b n : Nat} {C : List Ln} (h : SetIs w b n C) {a : Addr} (ha : b ≠ a.block) (u : Value) : SetIs (w.setCell a u) b n C := by
  obtain ⟨D, h1, h2⟩ := h
  exact ⟨D, h1.setCell ha u, h2⟩
theorem SetIs.lt {w : World} {b n : Nat} {C : List Ln} (h : SetIs w b n C) : b < w.heap.size := by
  obtain ⟨D, h1, h2⟩ := h
  exact h1.lt
theorem set_put {ops : Array Oper} {rest : List Oper} {o : Oper} {a : Act} {w : World} {Q : Exit → Act → World → Prop} (hgd : o.guard = none) (m x v : Operand) (ho : o.op = Op.mapUpdate 44 m x v)
    (b n : Nat) (C : List Ln) (hm : a.eval m = .map (some b)) (h : SetIs w b n C) (hn : n ≤ 1000000) (y : Ln) (hy : (keyV y).length ≤ 1000000000) (hx : a.eval x = .string (mk (keyV y))) (hv : a.eval v = .agg #[])
    (hK : ∀ w', SetIs w' b (n + 1) (C ++ [y]) → w.grownBy w' (some b) → wpList Try.prog ops Q rest (a.put o.dst undef) w') : wpList Try.prog ops Q (o :: rest) a w := by
  obtain ⟨D, h1, h2⟩ := h
  have hkey : keyOf Try.prog 9 (.string (mk (keyV y))) = some (.string (keyV y)) := by
    have := Go.WideMaps.keyOf_string_mk (P := Try.prog) Try.underlying9 (s := mk (keyV y)) (by rw [mk_size]; unfold maxLen; omega)
    rwa [mk_list] at this
  refine wpList_mapUpdate_own _ hgd m x v 44 ho 9 45 law9 Try.underlying44 (unitElem (H := Unit)) b n D hm h1 (by unfold maxLen; omega) _ _ _ hx hv hkey _ [] unitElem_mk fun w' q1 q2 => hK w' ⟨_, q1, fun s => ?_⟩ q2
  rw [List.any_append]
  by_cases e : keyV y = s
  · subst e
    rw [has_put_same (k := .string (keyV y)) h1.isMap True.intro]
    simp
  · rw [has_put_other (fun h => e (by injection h with h; exact h.symm)), h2 s]
    simp [e]
theorem set_look {ops : Array Oper} {rest : List Oper} {o : Oper} {a : Act} {w : World} {Q : Exit → Act → World → Prop} (hgd : o.guard = none) (m x : Operand) (ho : o.op = Op.lookup 44 m x true)
    (b n : Nat) (C : List Ln) (hm : a.eval m = .map (some b)) (h : SetIs w b n C) (y : Ln) (hy : (keyV y).length ≤ 1000000000) (hx : a.eval x = .string (mk (keyV y))) (B : Bool) (hB : inB y C = B)
    (hK : wpList Try.prog ops Q rest (a.put o.dst (.tuple #[.agg #[], .bool B])) w) : wpList Try.prog ops Q (o :: rest) a w := by
  obtain ⟨D, h1, h2⟩ := h
  have hkey : keyOf Try.prog 9 (.string (mk (keyV y))) = some (.string (keyV y)) := by
    have := Go.WideMaps.keyOf_string_mk (P := Try.prog) Try.underlying9 (s := mk (keyV y)) (by rw [mk_size]; unfold maxLen; omega)
    rwa [mk_list] at this
  refine wpList_lookup_own_unit _ hgd m x 44 ho 9 45 law9 Try.underlying44 (zeroU _) b n D hm h1 _ _ hx hkey ?_
  rw [h2 (keyV y)]
  have e : (C.any fun z => keyV z == keyV y) = B := hB
  rw [e]
  exact hK

/-- A row of truths in memory. -/
def BlAt (w : World) (v : Value) (l : List Bool) : Prop := RowAt All (fun _ u x => u = .bool x) w v l
theorem BlAt.far {w w' : World} {v : Value} {l : List Bool} (h : BlAt w v l) (hb : Below w.heap.size w w') : BlAt w' v l := RowAt.move h (Below.moves hb) fun _ _ _ h => h
theorem BlAt.form {w : World} {v : Value} {l : List Bool} (h : BlAt w v l) : ∃ a c, v = .slice a l.length c ∧ l.length ≤ c ∧ c ≤ 9223372036854775807 := by
  obtain ⟨a, c, rfl, h1, h2, _⟩ := h
  exact ⟨a, c, rfl, h1, by unfold maxLen at h2; exact h2⟩
theorem BlAt.get {w : World} {a : Option Addr} {n c : Nat} {l : List Bool} (h : BlAt w (.slice a n c) l) (k : Nat) (hk : k < l.length) : ∃ b o, a = some ⟨b, o, none⟩ ∧ l[k]? = some l[k] ∧ w.cell? ⟨b, o + k, none⟩ = some (.bool l[k]) := by
  obtain ⟨a', c', he, h1, h2, h3⟩ := h
  have ha : a = a' := by injection he
  subst ha
  rcases h3 with h | ⟨b, o, ha, _, _, hc⟩
  · subst h; simp at hk
  · have hx := List.getElem?_eq_getElem hk
    obtain ⟨m, q1, rfl⟩ := hc k _ hx
    exact ⟨b, o, ha, hx, q1⟩
theorem bl_of_row {w : World} {g n : Nat} {l : List Bool} {f : Nat → Value} (h : w.rowIs g 4 n f) (hn : l.length = n) (hm : n ≤ 1000000) (hf : ∀ i, i < n → f i = .bool (l.getD i false)) : BlAt w (.slice (some ⟨g, 0, none⟩) n n) l := by
  subst hn
  refine ⟨some ⟨g, 0, none⟩, l.length, rfl, Nat.le_refl _, by unfold maxLen; omega, Or.inr ⟨g, 0, rfl, trivial, h.lt, fun j x hj => ?_⟩⟩
  have hjl : j < l.length := (List.getElem?_eq_some_iff.1 hj).1
  refine ⟨_, by rw [Nat.zero_add]; exact h.cell hjl, ?_⟩
  rw [hf j hjl, List.getD_eq_getElem?_getD, hj]
  rfl
end Go.Proofs.Ytmgjnjbiljpneaa.Tw
