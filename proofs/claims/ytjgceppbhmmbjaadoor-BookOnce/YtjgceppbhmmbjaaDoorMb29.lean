/-
  Texts put together (merge.py): BKeep.
-/
import Derived.Test.YtjgceppbhmmbjaaDoorMb24
/-
  A row of entries put onto none ('append(in, l...)'), and rows that are written into.
-/
section
set_option linter.unusedSimpArgs false
set_option linter.unusedVariables false
set_option maxRecDepth 100000
namespace Go.Proofs.YtjgceppbhmmbjaaDoor.Bk
open Go.RowKit
open Cm (Ln Cl cl0 LnsAt ClCells lnv clv LnOk ClOk boxc)
open Sh (Ot)

theorem evs_of (w : World) (b : Nat) : ∀ (l : List En) (o : Nat), (∀ (j : Nat) x, l[j]? = some x → ∃ m mo, EnCells w b (o + j * 10) x m mo ∧ Cont All w ⟨x, m, mo⟩) → ∃ L : List Ev, L.map (·.e) = l ∧ (∀ x ∈ L, Cont All w x) ∧ ∀ j u, (ecs L)[j]? = some u → w.cell? ⟨b, o + j, none⟩ = some u
  | [], o, _ => ⟨[], rfl, by simp, fun j u h => by simp [ecs] at h⟩
  | x :: l, o, h => by
    obtain ⟨m, mo, hc, hco⟩ := h 0 x rfl
    obtain ⟨L, h1, h2, h3⟩ := evs_of w b l (o + 10) (fun j y hj => by
      obtain ⟨m, mo, q1, q2⟩ := h (j + 1) y (by simpa using hj)
      refine ⟨m, mo, ?_, q2⟩
      rwa [show o + 10 + j * 10 = o + (j + 1) * 10 by omega])
    refine ⟨⟨x, m, mo⟩ :: L, by simp [h1], fun y hy => ?_, fun j u hj => ?_⟩
    · rcases List.mem_cons.1 hy with rfl | hy
      · exact hco
      · exact h2 y hy
    · rw [Nat.zero_mul, Nat.add_zero] at hc
      obtain ⟨c0, c1, c2, c3, c4, c5, c6, c7, c8, c9⟩ := hc
      match j, hj with
      | 0, hj => exact c0.trans (by simpa [ecs] using hj)
      | 1, hj => exact c1.trans (by simpa [ecs] using hj)
      | 2, hj => exact c2.trans (by simpa [ecs] using hj)
      | 3, hj => exact c3.trans (by simpa [ecs] using hj)
      | 4, hj => exact c4.trans (by simpa [ecs] using hj)
      | 5, hj => exact c5.trans (by simpa [ecs] using hj)
      | 6, hj => exact c6.trans (by simpa [ecs] using hj)
      | 7, hj => exact c7.trans (by simpa [ecs] using hj)
      | 8, hj => exact c8.trans (by simpa [ecs] using hj)
      | 9, hj => exact c9.trans (by simpa [ecs] using hj)
      | n + 10, hj =>
        have := h3 n u (by simpa [ecs] using hj)
        rwa [show o + 10 + n = o + (n + 10) by omega] at this
theorem ens_evs {w : World} {a : Option Addr} {n c : Nat} {l : List En} (h : EnsAt All w (.slice a n c) l) : ∃ L : List Ev, n = L.length ∧ L.map (·.e) = l ∧ (∀ x ∈ L, Cont All w x) ∧ (n = 0 ∨ ∃ b o, a = some ⟨b, o, none⟩ ∧ ∀ j u, (ecs L)[j]? = some u → w.cell? ⟨b, o + j, none⟩ = some u) := by
  obtain ⟨a', c', he, h1, h2, h3⟩ := h
  injection he with ha hn hc
  subst ha hn
  rcases h3 with h | ⟨b, o, ha, _, hb, hc⟩
  · subst h; exact ⟨[], rfl, rfl, by simp, Or.inl rfl⟩
  · obtain ⟨L, q1, q2, q3⟩ := evs_of w b l o hc
    exact ⟨L, by rw [← q1, List.length_map], q1, q2, Or.inr ⟨b, o, ha, q3⟩⟩
theorem app0 {w : World} (ty : Nat) (ad : Option Addr) (c : Nat) : (Builtin.append_ #[22, 22] ty #[.slice none 0 0, .slice ad 0 c]).run Tryd.prog w = .ok (.slice none 0 0) w := by
  obtain ⟨i, q1, _, q2, _⟩ := infoE
  cases ad <;> simp [Builtin.append_, run_underlying Tryd.underlying22, sizeOf, typeInfo, q1, Builtin.lenOf, Builtin.firstCells, loadCells, loadCellsFrom]
/-- append(nil, x...) over entries, whatever x holds. -/
theorem wp_appN {o : Oper} {a : Act} {w : World} {K : Act → World → Prop} {Q : Exit → Act → World → Prop} (s x : Operand) (ho : o.op = .call { callee := .builtin .append, args := #[s, x], argTypes := #[22, 22] })
    (hs : a.eval s = .slice none 0 0) (ad : Option Addr) (m c : Nat) (l : List En) (hx : a.eval x = .slice ad m c) (hl : EnsAt All w (.slice ad m c) l) (hbd : l.length ≤ 100000)
    (h : ∀ v' w', EnsAt All w' v' l → Below w.heap.size w w' → K (a.put o.dst v') w') : o.wp Tryd.prog a w K Q := by
  obtain ⟨L2, hm, hml, hco, hc⟩ := ens_evs hl
  have hLl : L2.length ≤ 100000 := by rw [← hml, List.length_map] at hbd; exact hbd
  by_cases hm0 : m = 0
  · subst hm0
    have e2 : L2 = [] := List.length_eq_zero_iff.1 hm.symm
    subst e2
    obtain rfl : l = [] := hml.symm
    have hrun := app0 (w := w) o.type ad c
    have hh := h (.slice none 0 0) w (EnsAt.nil _ _) (Below.refl _ _)
    unfold Oper.wp
    simp [execOp, ho, resolve, invoke, builtin, hs, hx, hrun, Result.andThen]
    exact hh
  · obtain ⟨b, o', rfl, hc2⟩ := hc.resolve_left hm0
    obtain ⟨i, q1, q2, q3, q4⟩ := infoE
    have hown : w.ownsRow w.heap.size TE 10 (.slice none 0 0) 0 (ecs []) := ⟨rfl, Or.inl ⟨rfl, rfl⟩⟩
    have hsl : ∀ x ∈ L2, Sl x := fun x hx => (hco x hx).sl
    refine wp_append_lies w s x 22 ho w.heap.size TE i _ 10 144 Tryd.underlying22 q1 q2 q3 q4 rfl (by omega) (.slice none 0 0) 0 (ecs []) hs hown ⟨b, o', none⟩ m c (ecs L2) hx (by rw [ecs_len, hm]) (fun j u hj => ?_) (ecs_one L2 hsl) (by omega) (by unfold maxLen; omega) (by omega) (Nat.le_refl _) w.heap.size rfl fun g cap w' hown' hg hat _ => ?_
    · rw [add_lit]; exact hc2 j u hj
    · have hbl : Below w.heap.size w w' := ⟨hg.os, hg.tape, hg.output, hg.size, fun k hk => hg.block k hk (by simp [Value.ownBlock])⟩
      have hO : OwnE w.heap.size w' (.slice (some ⟨g, 0, none⟩) (0 + m) cap) L2 := by unfold OwnE; rw [← hm]; simpa [ecs] using hown'
      refine h _ w' ?_ hbl
      have hF : Full w.heap.size w' (.slice (some ⟨g, 0, none⟩) (0 + m) cap) L2 := ⟨hO, fun x hx => (hco x hx).move ⟨hbl.size, fun b hb hk => ⟨fun e => by have := (hO.lt b e).1; omega, hbl.block b hb⟩⟩⟩
      have := hF.at
      rwa [hml] at this
/-- A row that is written into, cell by cell. -/
def Row (w : World) (g n : Nat) : Prop := ∃ cs, w.heap[g]? = some (.cells cs TE (0, 0)) ∧ n * 10 ≤ cs.size
theorem Row.set {w : World} {g n : Nat} (h : Row w g n) (j : Nat) (u : Value) : Row (w.setCell ⟨g, j, none⟩ u) g n := by
  obtain ⟨cs, h1, h2⟩ := h
  exact ⟨_, heap_set h1 j u, by simpa using h2⟩
theorem Row.get {w : World} {g n : Nat} (h : Row w g n) {k : Nat} (hk : k < n) : (∃ u, w.cell? ⟨g, k * 10 + 8, none⟩ = some u) ∧ w.frozen? ⟨g, k * 10 + 8, none⟩ = false ∧ g < w.heap.size := by
  obtain ⟨cs, h1, h2⟩ := h
  have hlt : k * 10 + 8 < cs.size := by omega
  refine ⟨⟨cs[k * 10 + 8], ?_⟩, frzn h1 _, (Array.getElem?_eq_some_iff.1 h1).1⟩
  rw [cell_of_row w g _ cs _ (0, 0) h1]
  exact Array.getElem?_eq_getElem hlt
theorem Full.row {B : Nat} {w : World} {v : Value} {L : List Ev} (h : Full B w v L) : (v = .slice none 0 0 ∧ L.length = 0) ∨ ∃ g cap, v = .slice (some ⟨g, 0, none⟩) L.length cap ∧ B ≤ g ∧ Row w g L.length ∧ L.length ≤ cap ∧ cap ≤ 9223372036854775807 := by
  rcases h.1.2 with ⟨e, h0⟩ | ⟨g, cap, cur, e, hbg, hg, h1, h2, hs, ht⟩
  · exact Or.inl ⟨e, h0⟩
  · refine Or.inr ⟨g, cap, e, hbg, ⟨cur, hg, ?_⟩, h1, by unfold maxLen at h2; exact h2⟩
    have : L.length * 10 ≤ cap * 10 := Nat.mul_le_mul_right _ h1
    omega
end Go.Proofs.YtjgceppbhmmbjaaDoor.Bk
end
