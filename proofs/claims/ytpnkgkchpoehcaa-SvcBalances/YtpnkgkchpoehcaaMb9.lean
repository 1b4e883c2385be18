/-
  Texts put together (merge.py): BOts.
-/
import Derived.Laws.AppendOwn
import Derived.Deep.AppendLies
import Derived.Deep.RegionLaw
import Derived.Maps.AppendAt
import Derived.Lib.Strings
import Derived.Lib.Builder
import Derived.Handy
import Derived.Lib.SliceRun
import Derived.Test.YtpnkgkchpoehcaaMb6
import Derived.Test.YtpnkgkchpoehcaaMb8
/-
  What became of services, as rows in memory; a copy of them; whether two are the same.
-/
section
set_option linter.unusedSimpArgs false
set_option linter.unusedVariables false
set_option maxRecDepth 100000
namespace Go.Proofs.Ytpnkgkchpoehcaa.Bk
open Go.RowKit
open Cm (Ln Cl LnsAt lnv clv LnOk ClOk)
open Sh (Ot)

theorem keepB {w w' : World} {q : Nat} {o : Obj} (h : w.heap[q]? = some o) (hb : Below w.heap.size w w') : w'.heap[q]? = some o := by
  rw [hb.block q (Array.getElem?_eq_some_iff.1 h).1]; exact h
theorem heap_far {w : World} {b q j : Nat} {o : Obj} {u : Value} (h : w.heap[b]? = some o) (hne : b ≠ q) : (w.setCell ⟨q, j, none⟩ u).heap[b]? = some o := by
  rw [Below.heap_setCell _ _ _ _ hne]; exact h
theorem below_alloc (w : World) (o : Obj) : Below w.heap.size w (w.alloc o) := (Below.refl _ w).alloc (Nat.le_refl _) o
theorem below_trans {a b c : World} (h : Below a.heap.size a b) (k : Below b.heap.size b c) : Below a.heap.size a c := h.trans (k.mono h.size)
theorem alloc_new (w : World) (cs : Array Value) (t : TypeId) : (w.alloc (.cells cs t)).heap[w.heap.size]? = some (.cells cs t (0, 0)) := heap_alloc_new w _
theorem heap_set {w : World} {b : Nat} {cs : Array Value} {t : TypeId} (h : w.heap[b]? = some (.cells cs t (0, 0))) (j : Nat) (u : Value) : (w.setCell ⟨b, j, none⟩ u).heap[b]? = some (.cells (cs.setIfInBounds j u) t (0, 0)) := by
  simp [World.setCell, Array.getElem?_modify, h]
theorem add_lit (b o j : Nat) : (⟨b, o, none⟩ : Addr).add j = ⟨b, o + j, none⟩ := by unfold Addr.add; split <;> simp_all
/-! ### What becomes of services -/
abbrev TO : TypeId := 40
def oc (o : Ot) : List Value := [.int .i64 o.al, .int .i64 o.de, .int .i64 o.cp, .int .i64 o.cn, .int .i64 o.plan, .int .i64 o.wr, .int .i64 o.pr, .int .i64 o.deny]
def ocs : List Ot → List Value
  | [] => []
  | o :: r => .int .i64 o.al :: .int .i64 o.de :: .int .i64 o.cp :: .int .i64 o.cn :: .int .i64 o.plan :: .int .i64 o.wr :: .int .i64 o.pr :: .int .i64 o.deny :: ocs r
theorem ocs_app (a b : List Ot) : ocs (a ++ b) = ocs a ++ ocs b := by induction a <;> simp_all [ocs]
theorem ocs_len (a : List Ot) : (ocs a).length = a.length * 8 := by induction a <;> simp_all [ocs]; omega
theorem ocs_at : ∀ (a : List Ot) (j : Nat) (x : Ot), a[j]? = some x → ∀ i, i < 8 → (ocs a)[j * 8 + i]? = (oc x)[i]?
  | [], j, x, h, _, _ => by simp at h
  | y :: r, 0, x, h, i, hi => by
    simp at h; subst h
    match i, hi with
    | 0, _ => rfl
    | 1, _ => rfl
    | 2, _ => rfl
    | 3, _ => rfl
    | 4, _ => rfl
    | 5, _ => rfl
    | 6, _ => rfl
    | 7, _ => rfl
  | y :: r, j + 1, x, h, i, hi => by
    have := ocs_at r j x (by simpa using h) i hi
    rw [show (j + 1) * 8 + i = (j * 8 + i) + 8 by omega]
    simpa [ocs] using this
theorem ocs_one : ∀ (a : List Ot), ∀ u ∈ ocs a, u.oneCell' = true
  | [], u, h => by simp [ocs] at h
  | f :: r, u, h => by
    have ih := ocs_one r
    simp only [ocs, List.mem_cons] at h
    rcases h with rfl | rfl | rfl | rfl | rfl | rfl | rfl | rfl | h
    all_goals first | rfl | exact ih u h
def OtCells (w : World) (b o : Nat) (x : Ot) : Prop := w.cell? ⟨b, o, none⟩ = some (.int .i64 x.al) ∧ w.cell? ⟨b, o + 1, none⟩ = some (.int .i64 x.de) ∧ w.cell? ⟨b, o + 2, none⟩ = some (.int .i64 x.cp) ∧ w.cell? ⟨b, o + 3, none⟩ = some (.int .i64 x.cn) ∧ w.cell? ⟨b, o + 4, none⟩ = some (.int .i64 x.plan) ∧ w.cell? ⟨b, o + 5, none⟩ = some (.int .i64 x.wr) ∧ w.cell? ⟨b, o + 6, none⟩ = some (.int .i64 x.pr) ∧ w.cell? ⟨b, o + 7, none⟩ = some (.int .i64 x.deny)
theorem OtCells.of {w w' : World} {b o : Nat} {x : Ot} (h : OtCells w b o x) (he : w'.heap[b]? = w.heap[b]?) : OtCells w' b o x := by
  obtain ⟨h0, h1, h2, h3, h4, h5, h6, h7⟩ := h
  refine ⟨?_, ?_, ?_, ?_, ?_, ?_, ?_, ?_⟩ <;> rw [World.cell?_of_block (w := w) he] <;> assumption
def OtsAt (K : Nat → Prop) (w : World) (v : Value) (l : List Ot) : Prop :=
  ∃ a c, v = .slice a l.length c ∧ l.length ≤ c ∧ c ≤ maxLen ∧ (l = [] ∨ ∃ b o, a = some ⟨b, o, none⟩ ∧ K b ∧ b < w.heap.size ∧ ∀ (j : Nat) x, l[j]? = some x → OtCells w b (o + j * 8) x)
theorem OtsAt.move {K K' : Nat → Prop} {w w' : World} {v : Value} {l : List Ot} (h : OtsAt K w v l) (hm : Moves K K' w w') : OtsAt K' w' v l := by
  obtain ⟨a, c, rfl, h1, h2, h3⟩ := h
  refine ⟨a, c, rfl, h1, h2, h3.imp id ?_⟩
  rintro ⟨b, o, rfl, hk, hb, hc⟩
  obtain ⟨k', hh⟩ := hm.2 b hb hk
  exact ⟨b, o, rfl, k', Nat.lt_of_lt_of_le hb hm.1, fun j x hj => (hc j x hj).of hh⟩
theorem OtsAt.grw {w w' : World} {v : Value} {l : List Ot} (h : OtsAt All w v l) (hb : Below w.heap.size w w') : OtsAt All w' v l := h.move (Below.moves hb)
theorem OtsAt.nil (K : Nat → Prop) (w : World) : OtsAt K w (.slice none 0 0) [] := ⟨none, 0, rfl, by simp, by simp [maxLen], Or.inl rfl⟩
theorem OtsAt.form {K : Nat → Prop} {w : World} {v : Value} {xs : List Ot} (h : OtsAt K w v xs) : ∃ a c, v = .slice a xs.length c ∧ xs.length ≤ c ∧ c ≤ 9223372036854775807 := by
  obtain ⟨a, c, rfl, h1, h2, _⟩ := h
  exact ⟨a, c, rfl, h1, by unfold maxLen at h2; exact h2⟩
theorem OtsAt.get {K : Nat → Prop} {w : World} {a : Option Addr} {n c : Nat} {ls : List Ot} (h : OtsAt K w (.slice a n c) ls) (k : Nat) (hk : k < ls.length) :
    ∃ b o, a = some ⟨b, o, none⟩ ∧ b < w.heap.size ∧ ls[k]? = some ls[k] ∧ OtCells w b (o + k * 8) ls[k] := by
  obtain ⟨a', c', he, h1, h2, h3⟩ := h
  have ha : a = a' := by injection he
  subst ha
  rcases h3 with h | ⟨b, o, ha, _, hb, hc⟩
  · subst h; simp at hk
  · have hx := List.getElem?_eq_getElem hk
    exact ⟨b, o, ha, hb, hx, hc k _ hx⟩
def OwnO (B : Nat) (w : World) (v : Value) (l : List Ot) : Prop := w.ownsRow B TO 8 v l.length (ocs l)
theorem ots_of_own {K : Nat → Prop} {w : World} {base : Nat} {v : Value} {l : List Ot} (h : OwnO base w v l) (hK : ∀ b, base ≤ b → K b) : OtsAt K w v l := by
  obtain ⟨hl, h⟩ := h
  rcases h with ⟨rfl, h0⟩ | ⟨g, cap, cur, rfl, hbg, hg, h1, h2, hs, ht⟩
  · obtain rfl := List.length_eq_zero_iff.1 h0
    exact OtsAt.nil _ _
  · refine ⟨_, cap, rfl, h1, h2, Or.inr ⟨g, 0, rfl, hK g hbg, (Array.getElem?_eq_some_iff.1 hg).1, fun j x hj => ?_⟩⟩
    have hjl : j < l.length := (List.getElem?_eq_some_iff.1 hj).1
    have e : ∀ i, i < 8 → w.cell? ⟨g, 0 + j * 8 + i, none⟩ = (oc x)[i]? := fun i hi => by
      have q := ocs_at l j x hj i hi
      rw [← ht, List.getElem?_take, if_pos (by omega)] at q
      rw [cell_of_row w g _ cur _ (0, 0) hg, Nat.zero_add]
      simpa using q
    exact ⟨e 0 (by omega), e 1 (by omega), e 2 (by omega), e 3 (by omega), e 4 (by omega), e 5 (by omega), e 6 (by omega), e 7 (by omega)⟩
theorem ownO_nil (B : Nat) (w : World) : OwnO B w (.slice none 0 0) [] := ⟨rfl, Or.inl ⟨rfl, rfl⟩⟩
theorem ownO_far {w w' : World} {B : Nat} {v : Value} {l : List Ot} (h : OwnO B w v l) (hb : Below w.heap.size w w') : OwnO B w' v l := by
  refine ⟨h.1, h.2.imp id ?_⟩
  rintro ⟨g, c, cur, rfl, h0, hh, hr⟩
  exact ⟨g, c, cur, rfl, h0, keepB hh hb, hr⟩
theorem ownO_form {w : World} {B : Nat} {v : Value} {l : List Ot} (h : OwnO B w v l) : ∃ a c, v = .slice a l.length c ∧ l.length ≤ c ∧ c ≤ 9223372036854775807 := (ots_of_own (K := All) h fun _ _ => trivial).form
theorem infoO : ∃ i, Try.prog.info? TO = some i ∧ i.zero = some (.agg #[.int .i64 0, .int .i64 0, .int .i64 0, .int .i64 0, .int .i64 0, .int .i64 0, .int .i64 0, .int .i64 0]) ∧ i.size = 8 ∧ i.bytes = 64 := by
  have hi : (Try.prog.info? TO).map (fun i => (i.zero, i.size, i.bytes)) = some (some (.agg #[.int .i64 0, .int .i64 0, .int .i64 0, .int .i64 0, .int .i64 0, .int .i64 0, .int .i64 0, .int .i64 0]), 8, 64) := by kernel_rfl
  cases hq : Try.prog.info? TO with
  | none => rw [hq] at hi; cases hi
  | some i =>
    rw [hq] at hi
    simp only [Option.map_some, Option.some.injEq, Prod.mk.injEq] at hi
    exact ⟨i, rfl, hi⟩
theorem outs_src {w : World} {b o : Nat} {l : List Ot} (h : ∀ (j : Nat) x, l[j]? = some x → OtCells w b (o + j * 8) x) (j : Nat) (u : Value) (hj : (ocs l)[j]? = some u) : w.cell? ⟨b, o + j, none⟩ = some u := by
  have hjl : j < l.length * 8 := by have := (List.getElem?_eq_some_iff.1 hj).1; rwa [ocs_len] at this
  have hq : j / 8 < l.length := by omega
  have hx := List.getElem?_eq_getElem hq
  obtain ⟨c0, c1, c2, c3, c4, c5, c6, c7⟩ := h _ _ hx
  have e := ocs_at l (j / 8) _ hx (j % 8) (Nat.mod_lt _ (by omega))
  rw [show j / 8 * 8 + j % 8 = j by omega, hj] at e
  have hr : j % 8 = 0 ∨ j % 8 = 1 ∨ j % 8 = 2 ∨ j % 8 = 3 ∨ j % 8 = 4 ∨ j % 8 = 5 ∨ j % 8 = 6 ∨ j % 8 = 7 := by omega
  rcases hr with r | r | r | r | r | r | r | r <;> rw [r] at e
  · rw [show o + j = o + j / 8 * 8 by omega, c0]; exact e.symm
  · rw [show o + j = o + j / 8 * 8 + 1 by omega, c1]; exact e.symm
  · rw [show o + j = o + j / 8 * 8 + 2 by omega, c2]; exact e.symm
  · rw [show o + j = o + j / 8 * 8 + 3 by omega, c3]; exact e.symm
  · rw [show o + j = o + j / 8 * 8 + 4 by omega, c4]; exact e.symm
  · rw [show o + j = o + j / 8 * 8 + 5 by omega, c5]; exact e.symm
  · rw [show o + j = o + j / 8 * 8 + 6 by omega, c6]; exact e.symm
  · rw [show o + j = o + j / 8 * 8 + 7 by omega, c7]; exact e.symm

end Go.Proofs.Ytpnkgkchpoehcaa.Bk
end
