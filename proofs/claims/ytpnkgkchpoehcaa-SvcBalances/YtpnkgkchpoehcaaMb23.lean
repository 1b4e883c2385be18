/-
  Texts put together (merge.py): HTake, CSubs, HOut.
-/
import Derived.OneCell
import Derived.Lib.Hide
import Derived.Laws.AppendOwn
import Derived.Deep.Cut
import Derived.Test.YtpnkgkchpoehcaaMb11
import Derived.Test.YtpnkgkchpoehcaaMb4
import Derived.Test.YtpnkgkchpoehcaaMb1
/-
  A function that takes of what is left, and what is left: one cell that it alone knows; whether all of a row are amounts; the references' lesser of two.
-/
section
set_option linter.unusedSimpArgs false
set_option linter.unusedVariables false
namespace Go.Proofs.Ytpnkgkchpoehcaa.Sh
open Go.RowKit

theorem keepB {w w' : World} {q : Nat} {o : Obj} (h : w.heap[q]? = some o) (hb : Below w.heap.size w w') : w'.heap[q]? = some o := by
  rw [hb.block q (Array.getElem?_eq_some_iff.1 h).1]; exact h
theorem below_alloc (w : World) (o : Obj) : Below w.heap.size w (w.alloc o) := (Below.refl _ w).alloc (Nat.le_refl _) o
theorem below_trans {a b c : World} (h : Below a.heap.size a b) (k : Below b.heap.size b c) : Below a.heap.size a c := h.trans (k.mono h.size)
theorem alloc_new (w : World) (cs : Array Value) (t : TypeId) : (w.alloc (.cells cs t)).heap[w.heap.size]? = some (.cells cs t (0, 0)) := heap_alloc_new w _
theorem box_cell {w : World} {q : Nat} {v : Value} {T : TypeId} (h : w.heap[q]? = some (.cells #[v] T (0, 0))) : w.cell? ⟨q, 0, none⟩ = some v ∧ w.frozen? ⟨q, 0, none⟩ = false :=
  ⟨cell_of_one h, free_of_one h⟩

/-- Behind a take: the cell holds what is left now, all else is as it was. -/
def Took (q : Nat) (l : Int) (w w' : World) : Prop :=
  w'.heap.size = w.heap.size ∧ w'.heap[q]? = some (.cells #[.int .i64 l] 2 (0, 0)) ∧ (∀ b, b ≠ q → w'.heap[b]? = w.heap[b]?) ∧ Below q w w'
theorem Took.keep {q : Nat} {l : Int} {w w' : World} (h : Took q l w w') {b : Nat} {o : Obj} (hb : w.heap[b]? = some o) (hne : b ≠ q) : w'.heap[b]? = some o := by
  rw [h.2.2.1 b hne]; exact hb

theorem below_took {p q : Nat} {l : Int} {a w w' : World} (h : Below p a w) (ht : Took q l w w') (hq : p ≤ q) : Below p a w' := h.trans (ht.2.2.2.mono hq)
theorem below_on {p : Nat} {a w w' : World} (h : Below p a w) (hb : Below w.heap.size w w') (hp : p ≤ w.heap.size) : Below p a w' := h.trans (hb.mono hp)

def ints (l : List Int) : List Value := l.map (Value.int .i64)
theorem ints_at {w : World} {b : Nat} {l : List Int} (h : w.heap[b]? = some (.cells (ints l).toArray 2 (0, 0))) (k : Nat) (hk : k < l.length) : w.cell? ⟨b, k, none⟩ = some (.int .i64 (l.getD k 0)) := by
  rw [cell_of_row w b k _ _ (0, 0) h]
  simp [ints, hk]
theorem allG_list (l : List Int) : ∀ k, k ≤ l.length → Ce.allG (fun i => l.getD i 0) k = (l.take k).all Ce.good := by
  intro k
  induction k with
  | zero => intro _; simp [Ce.allG]
  | succ k ih =>
    intro hk
    have hk' : k < l.length := by omega
    rw [List.take_add_one, List.all_append, ← ih (by omega), Ce.allG]
    simp [hk']
end Go.Proofs.Ytpnkgkchpoehcaa.Sh
end

/-
  What cents.Sub, and the references' Add and Sub, answer, as contracts: for every int64.
-/
section
namespace Go.Proofs.Ytpnkgkchpoehcaa.Ce
open Go.RowKit

end Go.Proofs.Ytpnkgkchpoehcaa.Ce
end

/-
  An Out in memory; what share.Member, share.Refuse and the references' Refuse and Balances answer, as contracts.
-/
section
set_option linter.unusedSimpArgs false
set_option linter.unusedVariables false
set_option maxRecDepth 100000
namespace Go.Proofs.Ytpnkgkchpoehcaa.Sh
open Go.RowKit

theorem heap_set {w : World} {b : Nat} {cs : Array Value} {t : TypeId} (h : w.heap[b]? = some (.cells cs t (0, 0))) (j : Nat) (u : Value) : (w.setCell ⟨b, j, none⟩ u).heap[b]? = some (.cells (cs.setIfInBounds j u) t (0, 0)) := by
  simp [World.setCell, Array.getElem?_modify, h]
theorem heap_far {w : World} {b q j : Nat} {o : Obj} {u : Value} (h : w.heap[b]? = some o) (hne : b ≠ q) : (w.setCell ⟨q, j, none⟩ u).heap[b]? = some o := by
  rw [Below.heap_setCell _ _ _ _ hne]; exact h
theorem eight {w : World} {b : Nat} {c0 c1 c2 c3 c4 c5 c6 c7 : Value} {T : TypeId} (h : w.heap[b]? = some (.cells #[c0, c1, c2, c3, c4, c5, c6, c7] T (0, 0))) : w.cell? ⟨b, 0, none⟩ = some c0 ∧ w.cell? ⟨b, 1, none⟩ = some c1 ∧ w.cell? ⟨b, 2, none⟩ = some c2 ∧ w.cell? ⟨b, 3, none⟩ = some c3 ∧ w.cell? ⟨b, 4, none⟩ = some c4 ∧ w.cell? ⟨b, 5, none⟩ = some c5 ∧ w.cell? ⟨b, 6, none⟩ = some c6 ∧ w.cell? ⟨b, 7, none⟩ = some c7 := by
  refine ⟨?_, ?_, ?_, ?_, ?_, ?_, ?_, ?_⟩ <;> (rw [cell_of_row w b _ _ T (0, 0) h]; rfl)
theorem frz {w : World} {b : Nat} {cs : Array Value} {T : TypeId} (h : w.heap[b]? = some (.cells cs T (0, 0))) : w.frozen? ⟨b, 0, none⟩ = false ∧ w.frozen? ⟨b, 1, none⟩ = false ∧ w.frozen? ⟨b, 2, none⟩ = false ∧ w.frozen? ⟨b, 3, none⟩ = false ∧ w.frozen? ⟨b, 4, none⟩ = false ∧ w.frozen? ⟨b, 5, none⟩ = false ∧ w.frozen? ⟨b, 6, none⟩ = false ∧ w.frozen? ⟨b, 7, none⟩ = false := by
  refine ⟨?_, ?_, ?_, ?_, ?_, ?_, ?_, ?_⟩ <;> simp [World.frozen?, h]
theorem put8_heap {W : World} {b : Nat} {c0 c1 c2 c3 c4 c5 c6 c7 a0 a1 a2 a3 a4 a5 a6 a7 : Value} {T : TypeId} (h : W.heap[b]? = some (.cells #[c0, c1, c2, c3, c4, c5, c6, c7] T (0, 0))) : ((((((((W.setCell ⟨b, 0, none⟩ (a0)).setCell ⟨b, 1, none⟩ (a1)).setCell ⟨b, 2, none⟩ (a2)).setCell ⟨b, 3, none⟩ (a3)).setCell ⟨b, 4, none⟩ (a4)).setCell ⟨b, 5, none⟩ (a5)).setCell ⟨b, 6, none⟩ (a6)).setCell ⟨b, 7, none⟩ (a7)).heap[b]? = some (.cells #[a0, a1, a2, a3, a4, a5, a6, a7] T (0, 0)) := by
  have h0 : (W.setCell ⟨b, 0, none⟩ (a0)).heap[b]? = some (.cells #[a0, c1, c2, c3, c4, c5, c6, c7] T (0, 0)) := by rw [heap_set h]; rfl
  have h1 : ((W.setCell ⟨b, 0, none⟩ (a0)).setCell ⟨b, 1, none⟩ (a1)).heap[b]? = some (.cells #[a0, a1, c2, c3, c4, c5, c6, c7] T (0, 0)) := by rw [heap_set h0]; rfl
  have h2 : (((W.setCell ⟨b, 0, none⟩ (a0)).setCell ⟨b, 1, none⟩ (a1)).setCell ⟨b, 2, none⟩ (a2)).heap[b]? = some (.cells #[a0, a1, a2, c3, c4, c5, c6, c7] T (0, 0)) := by rw [heap_set h1]; rfl
  have h3 : ((((W.setCell ⟨b, 0, none⟩ (a0)).setCell ⟨b, 1, none⟩ (a1)).setCell ⟨b, 2, none⟩ (a2)).setCell ⟨b, 3, none⟩ (a3)).heap[b]? = some (.cells #[a0, a1, a2, a3, c4, c5, c6, c7] T (0, 0)) := by rw [heap_set h2]; rfl
  have h4 : (((((W.setCell ⟨b, 0, none⟩ (a0)).setCell ⟨b, 1, none⟩ (a1)).setCell ⟨b, 2, none⟩ (a2)).setCell ⟨b, 3, none⟩ (a3)).setCell ⟨b, 4, none⟩ (a4)).heap[b]? = some (.cells #[a0, a1, a2, a3, a4, c5, c6, c7] T (0, 0)) := by rw [heap_set h3]; rfl
  have h5 : ((((((W.setCell ⟨b, 0, none⟩ (a0)).setCell ⟨b, 1, none⟩ (a1)).setCell ⟨b, 2, none⟩ (a2)).setCell ⟨b, 3, none⟩ (a3)).setCell ⟨b, 4, none⟩ (a4)).setCell ⟨b, 5, none⟩ (a5)).heap[b]? = some (.cells #[a0, a1, a2, a3, a4, a5, c6, c7] T (0, 0)) := by rw [heap_set h4]; rfl
  have h6 : (((((((W.setCell ⟨b, 0, none⟩ (a0)).setCell ⟨b, 1, none⟩ (a1)).setCell ⟨b, 2, none⟩ (a2)).setCell ⟨b, 3, none⟩ (a3)).setCell ⟨b, 4, none⟩ (a4)).setCell ⟨b, 5, none⟩ (a5)).setCell ⟨b, 6, none⟩ (a6)).heap[b]? = some (.cells #[a0, a1, a2, a3, a4, a5, a6, c7] T (0, 0)) := by rw [heap_set h5]; rfl
  have h7 : ((((((((W.setCell ⟨b, 0, none⟩ (a0)).setCell ⟨b, 1, none⟩ (a1)).setCell ⟨b, 2, none⟩ (a2)).setCell ⟨b, 3, none⟩ (a3)).setCell ⟨b, 4, none⟩ (a4)).setCell ⟨b, 5, none⟩ (a5)).setCell ⟨b, 6, none⟩ (a6)).setCell ⟨b, 7, none⟩ (a7)).heap[b]? = some (.cells #[a0, a1, a2, a3, a4, a5, a6, a7] T (0, 0)) := by rw [heap_set h6]; rfl
  exact h7
theorem put8_far {W : World} {b q : Nat} {a0 a1 a2 a3 a4 a5 a6 a7 : Value} {o : Obj} (h : W.heap[b]? = some o) (hne : b ≠ q) : ((((((((W.setCell ⟨q, 0, none⟩ (a0)).setCell ⟨q, 1, none⟩ (a1)).setCell ⟨q, 2, none⟩ (a2)).setCell ⟨q, 3, none⟩ (a3)).setCell ⟨q, 4, none⟩ (a4)).setCell ⟨q, 5, none⟩ (a5)).setCell ⟨q, 6, none⟩ (a6)).setCell ⟨q, 7, none⟩ (a7)).heap[b]? = some o :=
  heap_far (heap_far (heap_far (heap_far (heap_far (heap_far (heap_far (heap_far h hne) hne) hne) hne) hne) hne) hne) hne
theorem put8_below {p : Nat} {w W : World} (h : Below p w W) (b : Nat) (hb : p ≤ b) (a0 a1 a2 a3 a4 a5 a6 a7 : Value) : Below p w ((((((((W.setCell ⟨b, 0, none⟩ (a0)).setCell ⟨b, 1, none⟩ (a1)).setCell ⟨b, 2, none⟩ (a2)).setCell ⟨b, 3, none⟩ (a3)).setCell ⟨b, 4, none⟩ (a4)).setCell ⟨b, 5, none⟩ (a5)).setCell ⟨b, 6, none⟩ (a6)).setCell ⟨b, 7, none⟩ (a7)) :=
  (((((((h.setCell (p := ⟨b, 0, none⟩) hb a0).setCell (p := ⟨b, 1, none⟩) hb a1).setCell (p := ⟨b, 2, none⟩) hb a2).setCell (p := ⟨b, 3, none⟩) hb a3).setCell (p := ⟨b, 4, none⟩) hb a4).setCell (p := ⟨b, 5, none⟩) hb a5).setCell (p := ⟨b, 6, none⟩) hb a6).setCell (p := ⟨b, 7, none⟩) hb a7
/-- Of an Out that balances. -/
theorem bal_yes (bi : Int) (o : Ot) (w : World) (h : balB bi o = true) (h1 : bi ≤ 10000000000000) :
    Calls Try.prog 18 #[.int .i64 bi, .agg #[.int .i64 o.al, .int .i64 o.de, .int .i64 o.cp, .int .i64 o.cn, .int .i64 o.plan, .int .i64 o.wr, .int .i64 o.pr, .int .i64 o.deny]] w fun e w' => e = .returned (.bool true) ∧ Below w.heap.size w w' := by
  simp only [balB, Bool.and_eq_true, decide_eq_true_eq] at h
  obtain ⟨⟨p0, p1, p2, p3, p4, p5⟩, q0, q1, q2⟩ := h
  have r0 : o.plan ≤ 10000000000000 := by omega
  have r1 : o.wr ≤ 10000000000000 := by omega
  have r2 : o.pr ≤ 10000000000000 := by omega
  have r3 : o.de ≤ 10000000000000 := by omega
  have r4 : o.cp ≤ 10000000000000 := by omega
  have r5 : o.cn ≤ 10000000000000 := by omega
  have q0' : (o.plan + o.wr + o.pr + o.de + o.cp + o.cn == bi) = true := by simpa using q0
  clear q0
  have HB := Lib.hid (below_alloc w (.cells #[.int .i64 o.al, .int .i64 o.de, .int .i64 o.cp, .int .i64 o.cn, .int .i64 o.plan, .int .i64 o.wr, .int .i64 o.pr, .int .i64 o.deny] 40))
  have HX := Lib.hid (alloc_new w #[.int .i64 o.al, .int .i64 o.de, .int .i64 o.cp, .int .i64 o.cn, .int .i64 o.plan, .int .i64 o.wr, .int .i64 o.pr, .int .i64 o.deny] 40)
  go_enter Try.func18, Try.ntmps18
  go_upto_region 1 with fail
  generalize w.alloc (.cells #[.int .i64 o.al, .int .i64 o.de, .int .i64 o.cp, .int .i64 o.cn, .int .i64 o.plan, .int .i64 o.wr, .int .i64 o.pr, .int .i64 o.deny] 40) = W at *
  generalize hp : w.heap.size = p at *
  obtain ⟨b0, b1, b2, b3, b4, b5, b6, b7⟩ := eight HX.out
  go_wp2
  go_ret
  exact ⟨rfl, by first | exact HB.out | (rw [hp]; exact HB.out)⟩
end Go.Proofs.Ytpnkgkchpoehcaa.Sh
end
