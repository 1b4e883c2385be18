/-
  A function that takes of what is left, and what is left: one cell that it alone knows; whether all of a row are amounts; the references' lesser of two.
-/
import Derived.Test.YtpnkgkchpoehcaaCAdds
import Derived.Test.YtpnkgkchpoehcaaHMath
import Derived.Test.YtpnkgkchpoehcaaCSumMath
import Derived.OneCell
import Derived.Lib.Hide
import Derived.Laws.AppendOwn
set_option linter.unusedSimpArgs false
set_option linter.unusedVariables false
namespace Go.Proofs.Ytpnkgkchpoehcaa.Sh
open Go.RowKit

theorem keepB {w w' : World} {q : Nat} {o : Obj} (h : w.heap[q]? = some o) (hb : Below w.heap.size w w') : w'.heap[q]? = some o := by
  rw [hb.block q (Array.getElem?_eq_some_iff.1 h).1]; exact h
theorem below_alloc (w : World) (o : Obj) : Below w.heap.size w (w.alloc o) := (Below.refl _ w).alloc (Nat.le_refl _) o
theorem below_trans {a b c : World} (h : Below a.heap.size a b) (k : Below b.heap.size b c) : Below a.heap.size a c := h.trans (k.mono h.size)
theorem alloc_new (w : World) (cs : Array Value) (t : TypeId) : (w.alloc (.cells cs t)).heap[w.heap.size]? = some (.cells cs t (0, 0)) := heap_alloc_new w _
theorem box_cell {w : World} {q : Nat} {v : Value} {T : TypeId} (h : w.heap[q]? = some (.cells #[v] T (0, 0))) : w.cell? ⟨q, 0, none⟩ = some v ∧ w.frozen? ⟨q, 0, none⟩ = false :=
  ⟨cell_of_one h, free_of_one h⟩

/-- Behind a take: the cell holds what is left now, all else is as it was. -/
def Took (q : Nat) (l : Int) (w w' : World) : Prop :=
  w'.heap.size = w.heap.size ∧ w'.heap[q]? = some (.cells #[.int .i64 l] 2 (0, 0)) ∧ (∀ b, b ≠ q → w'.heap[b]? = w.heap[b]?) ∧ Below q w w'
theorem Took.keep {q : Nat} {l : Int} {w w' : World} (h : Took q l w w') {b : Nat} {o : Obj} (hb : w.heap[b]? = some o) (hne : b ≠ q) : w'.heap[b]? = some o := by
  rw [h.2.2.1 b hne]; exact hb

theorem below_took {p q : Nat} {l : Int} {a w w' : World} (h : Below p a w) (ht : Took q l w w') (hq : p ≤ q) : Below p a w' := h.trans (ht.2.2.2.mono hq)
theorem below_on {p : Nat} {a w w' : World} (h : Below p a w) (hb : Below w.heap.size w w') (hp : p ≤ w.heap.size) : Below p a w' := h.trans (hb.mono hp)

def ints (l : List Int) : List Value := l.map (Value.int .i64)
theorem ints_at {w : World} {b : Nat} {l : List Int} (h : w.heap[b]? = some (.cells (ints l).toArray 2 (0, 0))) (k : Nat) (hk : k < l.length) : w.cell? ⟨b, k, none⟩ = some (.int .i64 (l.getD k 0)) := by
  rw [cell_of_row w b k _ _ (0, 0) h]
  simp [ints, hk]
theorem allG_list (l : List Int) : ∀ k, k ≤ l.length → Ce.allG (fun i => l.getD i 0) k = (l.take k).all Ce.good := by
  intro k
  induction k with
  | zero => intro _; simp [Ce.allG]
  | succ k ih =>
    intro hk
    have hk' : k < l.length := by omega
    rw [List.take_add_one, List.all_append, ← ih (by omega), Ce.allG]
    simp [hk']
end Go.Proofs.Ytpnkgkchpoehcaa.Sh
