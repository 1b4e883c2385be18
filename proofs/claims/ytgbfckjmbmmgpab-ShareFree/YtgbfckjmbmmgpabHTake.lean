/-
  A function that takes of what is left, and what is left: one cell that it alone knows; whether all of a row are amounts; the references' lesser of two.
-/
import Derived.Test.YtgbfckjmbmmgpabCAdds
import Derived.Test.YtgbfckjmbmmgpabHMath
import Derived.Test.YtgbfckjmbmmgpabCSumMath
import Derived.OneCell
import Derived.Lib.Hide
import Derived.Laws.AppendOwn
set_option linter.unusedSimpArgs false
set_option linter.unusedVariables false
namespace Go.Proofs.Ytgbfckjmbmmgpab.Sh
open Go.RowKit

theorem keepB {w w' : World} {q : Nat} {o : Obj} (h : w.heap[q]? = some o) (hb : Below w.heap.size w w') : w'.heap[q]? = some o := by
  rw [hb.block q (Array.getElem?_eq_some_iff.1 h).1]; exact h
theorem below_alloc (w : World) (o : Obj) : Below w.heap.size w (w.alloc o) := (Below.refl _ w).alloc (Nat.le_refl _) o
theorem below_trans {a b c : World} (h : Below a.heap.size a b) (k : Below b.heap.size b c) : Below a.heap.size a c := h.trans (k.mono h.size)
theorem alloc_new (w : World) (cs : Array Value) (t : TypeId) : (w.alloc (.cells cs t)).heap[w.heap.size]? = some (.cells cs t (0, 0)) := heap_alloc_new w _
theorem box_cell {w : World} {q : Nat} {v : Value} {T : TypeId} (h : w.heap[q]? = some (.cells #[v] T (0, 0))) : w.cell? ⟨q, 0, none⟩ = some v ∧ w.frozen? ⟨q, 0, none⟩ = false :=
  ⟨cell_of_one h, free_of_one h⟩

/-- Behind a take: the cell holds what is left now, all else is as it was. -/
def Took (q : Nat) (l : Int) (w w' : World) : Prop :=
  w'.heap.size = w.heap.size ∧ w'.heap[q]? = some (.cells #[.int .i64 l] 2 (0, 0)) ∧ (∀ b, b ≠ q → w'.heap[b]? = w.heap[b]?) ∧ Below q w w'
theorem Took.keep {q : Nat} {l : Int} {w w' : World} (h : Took q l w w') {b : Nat} {o : Obj} (hb : w.heap[b]? = some o) (hne : b ≠ q) : w'.heap[b]? = some o := by
  rw [h.2.2.1 b hne]; exact hb

theorem from_any (n : Int) (w : World) :
    Calls Try.prog 7 #[.int .i64 n] w fun e w' => e = .returned (.func (.func 13) #[] #[.pointer (some ⟨w.heap.size, 0, none⟩)]) ∧ w' = w.alloc (.cells #[.int .i64 n] 2) := by
  have hmf : ∀ (fn : Fn) (first cap : Array Value) (w : World), (Instr.makeFunc fn first cap).run Try.prog w = .ok (.func fn first cap) w := fun _ _ _ _ => rfl
  go_enter Try.func7, Try.ntmps7
  go_wp2
  go_ret
  exact ⟨rfl, rfl⟩

/-- Behind 'from': a new cell. -/
theorem from_new (n : Int) (w : World) :
    Calls Try.prog 7 #[.int .i64 n] w fun e w' => e = .returned (.func (.func 13) #[] #[.pointer (some ⟨w.heap.size, 0, none⟩)]) ∧ w'.heap[w.heap.size]? = some (.cells #[.int .i64 n] 2 (0, 0)) ∧ Below w.heap.size w w' := by
  refine (from_any n w).mono ?_
  rintro e w' ⟨rfl, rfl⟩
  exact ⟨rfl, alloc_new w _ _, below_alloc w _⟩
theorem below_took {p q : Nat} {l : Int} {a w w' : World} (h : Below p a w) (ht : Took q l w w') (hq : p ≤ q) : Below p a w' := h.trans (ht.2.2.2.mono hq)
theorem below_on {p : Nat} {a w w' : World} (h : Below p a w) (hb : Below w.heap.size w w') (hp : p ≤ w.heap.size) : Below p a w' := h.trans (hb.mono hp)

set_option maxHeartbeats 1000000 in
theorem take_any (x l : Int) (q : Nat) (w : World) (h : w.heap[q]? = some (.cells #[.int .i64 l] 2 (0, 0))) (x0 : 0 ≤ x) (x1 : x ≤ 10000000000000) (l0 : 0 ≤ l) (l1 : l ≤ 10000000000000) :
    Calls Try.prog 13 #[.int .i64 x, .pointer (some ⟨q, 0, none⟩)] w fun e w' => e = .returned (.int .i64 (least x l)) ∧ Took q (l - least x l) w w' := by
  obtain ⟨c0, f0⟩ := box_cell h
  have HH := Lib.hid h
  have HQ : Hid (∀ v, Took q v w (w.setCell ⟨q, 0, none⟩ (.int .i64 v))) := fun v => by
    refine ⟨World.size_setCell _ _ _, one_setCell h, fun b hb => Below.heap_setCell _ _ _ _ hb, (Below.refl q w).setCell (p := ⟨q, 0, none⟩) (Nat.le_refl _) _⟩
  clear h
  by_cases hc : x ≤ l
  · have e1 : least x l = x := by unfold least; split <;> omega
    rw [e1]
    clear e1
    go_enter Try.func13, Try.ntmps13
    go_wp2
    go_ret
    exact ⟨rfl, HQ.out _⟩
  · have e1 : least x l = l := by unfold least; split <;> omega
    rw [e1]
    clear e1
    go_enter Try.func13, Try.ntmps13
    go_wp2
    go_ret
    exact ⟨rfl, HQ.out _⟩

/-! ### rows of amounts -/
def ints (l : List Int) : List Value := l.map (Value.int .i64)
theorem ints_at {w : World} {b : Nat} {l : List Int} (h : w.heap[b]? = some (.cells (ints l).toArray 2 (0, 0))) (k : Nat) (hk : k < l.length) : w.cell? ⟨b, k, none⟩ = some (.int .i64 (l.getD k 0)) := by
  rw [cell_of_row w b k _ _ (0, 0) h]
  simp [ints, hk]
theorem allG_list (l : List Int) : ∀ k, k ≤ l.length → Ce.allG (fun i => l.getD i 0) k = (l.take k).all Ce.good := by
  intro k
  induction k with
  | zero => intro _; simp [Ce.allG]
  | succ k ih =>
    intro hk
    have hk' : k < l.length := by omega
    rw [List.take_add_one, List.all_append, ← ih (by omega), Ce.allG]
    simp [hk']
set_option maxHeartbeats 400000 in
theorem amounts_row (a : Option Addr) (len cap : Nat) (f : Nat → Int) (w : World) (hm : len ≤ 9223372036854775807) (hc : ∀ i, i < len → ∃ b off, a = some ⟨b, off, none⟩ ∧ w.cell? ⟨b, off + i, none⟩ = some (.int .i64 (f i))) :
    Calls Try.prog 6 #[.slice a len cap] w fun e w' => e = .returned (.bool (Ce.allG f len)) ∧ w' = w := by
  go_enter Try.func6, Try.ntmps6
  go_wp2
  go_loop [7] (fun i => ∃ k : Nat, k ≤ len ∧ i = .int .i64 k ∧ Hid (Ce.allG f k = true)) (fun i => len - (intOf i).toNat)
  case atStart => exact ⟨0, Nat.zero_le _, rfl, rfl⟩
  case round =>
    obtain ⟨k, hk, rfl, hg⟩ := hrel
    by_cases hlt : k < len
    · obtain ⟨b, off, rfl, hcell⟩ := hc k hlt
      cases gk : Ce.good (f k)
      · go_wp2_with (go_at_call 12; refine (Ce.good_any _ _).mono ?_; rintro e w' ⟨rfl, rfl⟩)
        go_ret
        exact ⟨by rw [Ce.allG_not f len k hlt gk]; rfl, rfl⟩
      · go_wp2_with (go_at_call 12; refine (Ce.good_any _ _).mono ?_; rintro e w' ⟨rfl, rfl⟩)
        go_round
        case rel => exact ⟨k + 1, by omega, by go_num, Ce.allG_more f k hg.out gk⟩
        case measure => simp [intOf]; omega
    · have : k = len := by omega
      subst this
      go_wp2
      go_ret
      exact ⟨by rw [hg.out]; rfl, rfl⟩
theorem amounts_any (l : List Int) (b n c : Nat) (w : World) (h : w.heap[b]? = some (.cells (ints l).toArray 2 (0, 0))) (hn : n = l.length) (hl : l.length ≤ 100) :
    Calls Try.prog 6 #[.slice (some ⟨b, 0, none⟩) n c] w fun e w' => e = .returned (.bool (l.all Ce.good)) ∧ w' = w := by
  subst hn
  refine (amounts_row (some ⟨b, 0, none⟩) l.length c (fun i => l.getD i 0) w (by omega) fun i hi => ⟨b, 0, rfl, by rw [Nat.zero_add]; exact ints_at h i hi⟩).mono ?_
  rintro e w' ⟨rfl, rfl⟩
  refine ⟨?_, rfl⟩
  rw [allG_list l l.length (Nat.le_refl _), List.take_length]

end Go.Proofs.Ytgbfckjmbmmgpab.Sh
