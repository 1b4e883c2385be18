/-
  Texts put together (merge.py): WMem, WMemB, DDate, LMem, XMem, XApp.
-/
import Derived.Laws.AppendOwn
import Derived.Deep.AppendLies
import Derived.Deep.RegionLaw
import Derived.Deep.LoopGhost
import Derived.Deep.RegionHeld3
import Derived.Maps.AppendAt
import Derived.Lib.Strings
import Derived.Lib.Hide
import Derived.Lib.Builder
import Derived.WalkKit
import Derived.BigQuiet
import Derived.WalkLawsBesides
import Derived.Test.YtfoooldkmokjpaaGreatDoorMj3
import Derived.Test.YtfoooldkmokjpaaGreatDoorMj2
import Derived.Test.YtfoooldkmokjpaaGreatDoorProg
set_option linter.unusedSimpArgs false
set_option linter.unusedVariables false
section
namespace Go.Proofs.YtfoooldkmokjpaaGreatDoor.Wo
open Go.RowKit
theorem keepB {w w' : World} {q : Nat} {o : Obj} (h : w.heap[q]? = some o) (hb : Below w.heap.size w w') : w'.heap[q]? = some o := by
 rw [hb.block q (Array.getElem?_eq_some_iff.1 h).1]; exact h
theorem box_cell {w : World} {q : Nat} {v : Value} {T : TypeId} (h : w.heap[q]? = some (.cells #[v] T (0, 0))) : w.cell? ⟨q, 0, none⟩ = some v ∧ w.frozen? ⟨q, 0, none⟩ = false :=
 ⟨by rw [cell_of_row w q 0 _ T (0, 0) h]; rfl, Lib.frozen_of_heap h 0⟩
theorem box_two {w : World} {q : Nat} {v u : Value} {T : TypeId} (h : w.heap[q]? = some (.cells #[v, u] T (0, 0))) : w.cell? ⟨q, 0, none⟩ = some v ∧ w.cell? ⟨q, 1, none⟩ = some u ∧ w.frozen? ⟨q, 0, none⟩ = false ∧ w.frozen? ⟨q, 1, none⟩ = false :=
 ⟨by rw [cell_of_row w q 0 _ T (0, 0) h]; rfl, by rw [cell_of_row w q 1 _ T (0, 0) h]; rfl, Lib.frozen_of_heap h 0, Lib.frozen_of_heap h 1⟩
theorem heap_far {w : World} {b q j : Nat} {o : Obj} {u : Value} (h : w.heap[b]? = some o) (hne : b ≠ q) : (w.setCell ⟨q, j, none⟩ u).heap[b]? = some o := by
 rw [Below.heap_setCell _ _ _ _ hne]; exact h
end Go.Proofs.YtfoooldkmokjpaaGreatDoor.Wo
end
section
namespace Go.Proofs.YtfoooldkmokjpaaGreatDoor.Wo
open Go.RowKit
theorem below_alloc (w : World) (o : Obj) : Below w.heap.size w (w.alloc o) := (Below.refl _ w).alloc (Nat.le_refl _) o
theorem below_trans {a b c : World} (h : Below a.heap.size a b) (k : Below b.heap.size b c) : Below a.heap.size a c := h.trans (k.mono h.size)
end Go.Proofs.YtfoooldkmokjpaaGreatDoor.Wo
end
section
namespace Go.Proofs.YtfoooldkmokjpaaGreatDoor.Da
open Go.RowKit
def Tab (w : World) : Prop := ∀ i : Nat, i < 12 → w.cell? ⟨2, i, none⟩ = some (.int .i64 (lens.getD i 0))
theorem leap_any (y : Int) (w : World) (h : 0 ≤ y) :
  Calls Tryz.prog 167 #[.int .i64 y] w fun e w' => e = .returned (.bool (leapB y)) ∧ w' = w := by
 unfold leapB
 cases h1 : (y % 4 == 0) <;> cases h2 : (y % 100 != 0) <;> cases h3 : (y % 400 == 0) <;>
 ·go_enter Tryz.func167, Tryz.ntmps167
  go_wp2
  go_ret
  exact ⟨by first | rfl | simp [h1, h2, h3], rfl⟩
theorem tab_cells {w : World} (hT : Tab w) : w.cell? ⟨2, 0, none⟩ = some (.int .i64 31) ∧ w.cell? ⟨2, 1, none⟩ = some (.int .i64 28) ∧ w.cell? ⟨2, 2, none⟩ = some (.int .i64 31) ∧ w.cell? ⟨2, 3, none⟩ = some (.int .i64 30) ∧ w.cell? ⟨2, 4, none⟩ = some (.int .i64 31) ∧ w.cell? ⟨2, 5, none⟩ = some (.int .i64 30) ∧
  w.cell? ⟨2, 6, none⟩ = some (.int .i64 31) ∧ w.cell? ⟨2, 7, none⟩ = some (.int .i64 31) ∧ w.cell? ⟨2, 8, none⟩ = some (.int .i64 30) ∧ w.cell? ⟨2, 9, none⟩ = some (.int .i64 31) ∧ w.cell? ⟨2, 10, none⟩ = some (.int .i64 30) ∧ w.cell? ⟨2, 11, none⟩ = some (.int .i64 31) :=
 ⟨hT 0 (by decide), hT 1 (by decide), hT 2 (by decide), hT 3 (by decide), hT 4 (by decide), hT 5 (by decide), hT 6 (by decide), hT 7 (by decide), hT 8 (by decide), hT 9 (by decide), hT 10 (by decide), hT 11 (by decide)⟩
set_option maxHeartbeats 1000000 in
theorem length_any (y m : Int) (w : World) (hT : Tab w) (h : 0 ≤ y) (h1 : 1 ≤ m) (h2 : m ≤ 12) :
  Calls Tryz.prog 147 #[.int .i64 y, .int .i64 m] w fun e w' => e = .returned (.int .i64 (lenM y m)) ∧ w' = w := by
 obtain ⟨c0, c1, c2, c3, c4, c5, c6, c7, c8, c9, c10, c11⟩ := tab_cells hT
 clear hT
 rcases month_cases m h1 h2 with rfl | rfl | rfl | rfl | rfl | rfl | rfl | rfl | rfl | rfl | rfl | rfl
 case inr.inl =>
  cases b : leapB y
  ·go_enter Tryz.func147, Tryz.ntmps147
   go_wp2_with (go_at_call 167; refine (leap_any _ _ h).mono ?_; rintro e w' ⟨rfl, rfl⟩)
   go_ret
   exact ⟨by simp [lenM, b, lenT, lens], rfl⟩
  ·go_enter Tryz.func147, Tryz.ntmps147
   go_wp2_with (go_at_call 167; refine (leap_any _ _ h).mono ?_; rintro e w' ⟨rfl, rfl⟩)
   go_ret
   exact ⟨by simp [lenM, b], rfl⟩
 all_goals
  go_enter Tryz.func147, Tryz.ntmps147
  go_wp2
  go_ret
  exact ⟨rfl, rfl⟩
theorem quo_bd (n k : Int) (h : -9223372036854775808 ≤ n) (h' : n ≤ 9223372036854775807) (hk : 1 ≤ k) : -9223372036854775808 ≤ n.tdiv k ∧ n.tdiv k ≤ 9223372036854775807 := by
 have l : ∀ a : Int, 0 ≤ a → 0 ≤ a.tdiv k ∧ a.tdiv k ≤ a := fun a ha => by
  rw [Int.tdiv_eq_ediv_of_nonneg ha]
  exact ⟨Int.ediv_nonneg ha (by omega), Int.ediv_le_self _ ha⟩
 rcases Int.lt_or_le n 0 with c | c
 ·have := l (-n) (by omega)
  rw [Int.neg_tdiv] at this
  omega
 ·have := l n c
  omega
theorem split_any (n : Int) (w : World) (h : -9223372036854775808 ≤ n) (h' : n ≤ 9223372036854775807) :
  Calls Tryz.prog 121 #[.int .i64 n] w fun e w' => e = .returned (.tuple #[.int .i64 (yr n), .int .i64 (mo n), .int .i64 (da n)]) ∧ w' = w := by
 unfold yr mo da
 obtain ⟨b1, b2⟩ := quo_bd n 10000 h h' (by omega)
 obtain ⟨b3, b4⟩ := quo_bd n 100 h h' (by omega)
 go_enter Tryz.func121, Tryz.ntmps121
 go_wp2
 exact bodyPost_ret (v := .tuple #[.int .i64 (n.tdiv 10000), .int .i64 ((n.tdiv 100).tmod 100), .int .i64 (n.tmod 100)]) (by simp [results, Tryz.results121, go_sem]) rfl ⟨rfl, rfl⟩
theorem good_any (n : Int) (w : World) (hT : Tab w) (h : -9223372036854775808 ≤ n) (h' : n ≤ 9223372036854775807) :
  Calls Tryz.prog 110 #[.int .i64 n] w fun e w' => e = .returned (.bool (good n)) ∧ w' = w := by
 by_cases c1 : yr n < 1
 ·have g : good n = false := by simp [good]; omega
  rw [g]
  go_enter Tryz.func110, Tryz.ntmps110
  go_wp2_with (go_at_call 121; refine (split_any _ _ h h').mono ?_; rintro e w' ⟨rfl, rfl⟩)
  go_ret
  exact ⟨rfl, rfl⟩
 by_cases c2 : yr n > 9999
 ·have g : good n = false := by simp [good]; omega
  rw [g]
  go_enter Tryz.func110, Tryz.ntmps110
  go_wp2_with (go_at_call 121; refine (split_any _ _ h h').mono ?_; rintro e w' ⟨rfl, rfl⟩)
  go_ret
  exact ⟨rfl, rfl⟩
 by_cases c3 : mo n < 1
 ·have g : good n = false := by simp [good]; omega
  rw [g]
  go_enter Tryz.func110, Tryz.ntmps110
  go_wp2_with (go_at_call 121; refine (split_any _ _ h h').mono ?_; rintro e w' ⟨rfl, rfl⟩)
  go_ret
  exact ⟨rfl, rfl⟩
 by_cases c4 : mo n > 12
 ·have g : good n = false := by simp [good]; omega
  rw [g]
  go_enter Tryz.func110, Tryz.ntmps110
  go_wp2_with (go_at_call 121; refine (split_any _ _ h h').mono ?_; rintro e w' ⟨rfl, rfl⟩)
  go_ret
  exact ⟨rfl, rfl⟩
 by_cases c5 : 1 ≤ da n
 ·by_cases c6 : da n ≤ lenM (yr n) (mo n)
  ·have g : good n = true := by simp [good]; omega
   rw [g]
   go_enter Tryz.func110, Tryz.ntmps110
   go_wp2_with (first | (go_at_call 121; refine (split_any _ _ h h').mono ?_; rintro e w' ⟨rfl, rfl⟩) | (go_at_call 147; refine (length_any _ _ _ hT (by omega) (by omega) (by omega)).mono ?_; rintro e w' ⟨rfl, rfl⟩))
   go_ret
   exact ⟨rfl, rfl⟩
  ·have g : good n = false := by simp [good]; omega
   have d6 : decide (da n ≤ lenM (yr n) (mo n)) = false := by simpa using c6
   rw [g]
   go_enter Tryz.func110, Tryz.ntmps110
   go_wp2_with (first | (go_at_call 121; refine (split_any _ _ h h').mono ?_; rintro e w' ⟨rfl, rfl⟩) | (go_at_call 147; refine (length_any _ _ _ hT (by omega) (by omega) (by omega)).mono ?_; rintro e w' ⟨rfl, rfl⟩))
   go_ret
   exact ⟨rfl, rfl⟩
 ·have g : good n = false := by simp [good]; omega
  rw [g]
  go_enter Tryz.func110, Tryz.ntmps110
  go_wp2_with (go_at_call 121; refine (split_any _ _ h h').mono ?_; rintro e w' ⟨rfl, rfl⟩)
  go_ret
  exact ⟨rfl, rfl⟩
def yearV (n : Int) : Int := if good n = true then yr n else 0
theorem year_any (n : Int) (w : World) (hT : Tab w) (h : -9223372036854775808 ≤ n) (h' : n ≤ 9223372036854775807) :
  Calls Tryz.prog 77 #[.int .i64 n] w fun e w' => e = .returned (.int .i64 (yearV n)) ∧ w' = w := by
 cases g : good n
 ·have e : yearV n = 0 := by simp [yearV, g]
  go_enter Tryz.func77, Tryz.ntmps77
  go_wp2_with (go_at_call 110; refine (good_any _ _ hT h h').mono ?_; rintro e w' ⟨rfl, rfl⟩)
  go_ret
  exact ⟨by rw [e]; rfl, rfl⟩
 ·have e : yearV n = yr n := by simp [yearV, g]
  go_enter Tryz.func77, Tryz.ntmps77
  go_wp2_with (first | (go_at_call 110; refine (good_any _ _ hT h h').mono ?_; rintro e w' ⟨rfl, rfl⟩) | (go_at_call 121; refine (split_any _ _ h h').mono ?_; rintro e w' ⟨rfl, rfl⟩))
  go_ret
  exact ⟨by rw [e]; rfl, rfl⟩
end Go.Proofs.YtfoooldkmokjpaaGreatDoor.Da
end
section
namespace Go.Proofs.YtfoooldkmokjpaaGreatDoor.Cm
open Go.RowKit
abbrev lnv (x : Ln) (m : Value) : Value := .agg #[.string (mk x.proc), m, .int .i64 x.date, .int .i64 x.units, .int .i64 x.billed, .int .i64 x.prior]
abbrev clv (c : Cl) (m : Value) : Value := .agg #[.string (mk c.id), .string (mk c.mem), .string (mk c.fam), .int .i64 c.net, .int .i64 c.does, .string (mk c.ref), m]
def LnCells (w : World) (b o : Nat) (x : Ln) (m : Value) : Prop :=
 w.cell? ⟨b, o, none⟩ = some (.string (mk x.proc)) ∧ w.cell? ⟨b, o + 1, none⟩ = some m ∧ w.cell? ⟨b, o + 2, none⟩ = some (.int .i64 x.date) ∧ w.cell? ⟨b, o + 3, none⟩ = some (.int .i64 x.units) ∧ w.cell? ⟨b, o + 4, none⟩ = some (.int .i64 x.billed) ∧ w.cell? ⟨b, o + 5, none⟩ = some (.int .i64 x.prior)
def ClCells (w : World) (b o : Nat) (c : Cl) (m : Value) : Prop :=
 w.cell? ⟨b, o, none⟩ = some (.string (mk c.id)) ∧ w.cell? ⟨b, o + 1, none⟩ = some (.string (mk c.mem)) ∧ w.cell? ⟨b, o + 2, none⟩ = some (.string (mk c.fam)) ∧ w.cell? ⟨b, o + 3, none⟩ = some (.int .i64 c.net) ∧ w.cell? ⟨b, o + 4, none⟩ = some (.int .i64 c.does) ∧ w.cell? ⟨b, o + 5, none⟩ = some (.string (mk c.ref)) ∧ w.cell? ⟨b, o + 6, none⟩ = some m
def LnsAt (K : Nat → Prop) (w : World) (v : Value) (ls : List Ln) : Prop :=
 ∃ a c, v = .slice a ls.length c ∧ ls.length ≤ c ∧ c ≤ maxLen ∧ (ls = [] ∨ ∃ b o, a = some ⟨b, o, none⟩ ∧ K b ∧ b < w.heap.size ∧ ∀ (j : Nat) x, ls[j]? = some x → ∃ m, LnCells w b (o + j * 6) x m ∧ TxAt K w m x.mods)
def ClsAt (K : Nat → Prop) (w : World) (v : Value) (cs : List Cl) : Prop :=
 ∃ a c, v = .slice a cs.length c ∧ cs.length ≤ c ∧ c ≤ maxLen ∧ (cs = [] ∨ ∃ b o, a = some ⟨b, o, none⟩ ∧ K b ∧ b < w.heap.size ∧ ∀ (j : Nat) x, cs[j]? = some x → ∃ m, ClCells w b (o + j * 7) x m ∧ LnsAt K w m x.lines)
theorem LnCells.of {w w' : World} {b o : Nat} {x : Ln} {m : Value} (h : LnCells w b o x m) (he : w'.heap[b]? = w.heap[b]?) : LnCells w' b o x m := by
 obtain ⟨h0, h1, h2, h3, h4, h5⟩ := h
 refine ⟨?_, ?_, ?_, ?_, ?_, ?_⟩ <;> rw [World.cell?_of_block (w := w) he] <;> assumption
theorem ClCells.of {w w' : World} {b o : Nat} {x : Cl} {m : Value} (h : ClCells w b o x m) (he : w'.heap[b]? = w.heap[b]?) : ClCells w' b o x m := by
 obtain ⟨h0, h1, h2, h3, h4, h5, h6⟩ := h
 refine ⟨?_, ?_, ?_, ?_, ?_, ?_, ?_⟩ <;> rw [World.cell?_of_block (w := w) he] <;> assumption
theorem LnsAt.move {K K' : Nat → Prop} {w w' : World} {v : Value} {ls : List Ln} (h : LnsAt K w v ls) (hm : Moves K K' w w') : LnsAt K' w' v ls := by
 obtain ⟨a, c, rfl, h1, h2, h3⟩ := h
 refine ⟨a, c, rfl, h1, h2, h3.imp id ?_⟩
 rintro ⟨b, o, rfl, hk, hb, hc⟩
 obtain ⟨k', hh⟩ := hm.2 b hb hk
 refine ⟨b, o, rfl, k', Nat.lt_of_lt_of_le hb hm.1, fun j x hj => ?_⟩
 obtain ⟨m, hu, hr⟩ := hc j x hj
 exact ⟨m, hu.of hh, TxAt.move hr hm⟩
theorem ClsAt.move {K K' : Nat → Prop} {w w' : World} {v : Value} {cs : List Cl} (h : ClsAt K w v cs) (hm : Moves K K' w w') : ClsAt K' w' v cs := by
 obtain ⟨a, c, rfl, h1, h2, h3⟩ := h
 refine ⟨a, c, rfl, h1, h2, h3.imp id ?_⟩
 rintro ⟨b, o, rfl, hk, hb, hc⟩
 obtain ⟨k', hh⟩ := hm.2 b hb hk
 refine ⟨b, o, rfl, k', Nat.lt_of_lt_of_le hb hm.1, fun j x hj => ?_⟩
 obtain ⟨m, hu, hr⟩ := hc j x hj
 exact ⟨m, hu.of hh, LnsAt.move hr hm⟩
theorem LnsAt.get {K : Nat → Prop} {w : World} {a : Option Addr} {n c : Nat} {ls : List Ln} (h : LnsAt K w (.slice a n c) ls) (k : Nat) (hk : k < ls.length) :
  ∃ b o m, a = some ⟨b, o, none⟩ ∧ ls[k]? = some ls[k] ∧ LnCells w b (o + k * 6) ls[k] m ∧ TxAt K w m ls[k].mods := by
 obtain ⟨a', c', he, h1, h2, h3⟩ := h
 have ha : a = a' := by injection he
 subst ha
 rcases h3 with h | ⟨b, o, ha, _, _, hc⟩
 ·subst h; simp at hk
 ·have hx := List.getElem?_eq_getElem hk
  obtain ⟨m, q1, q2⟩ := hc k _ hx
  exact ⟨b, o, m, ha, hx, q1, q2⟩
theorem ClsAt.get {K : Nat → Prop} {w : World} {a : Option Addr} {n c : Nat} {ls : List Cl} (h : ClsAt K w (.slice a n c) ls) (k : Nat) (hk : k < ls.length) :
  ∃ b o m, a = some ⟨b, o, none⟩ ∧ ls[k]? = some ls[k] ∧ ClCells w b (o + k * 7) ls[k] m ∧ LnsAt K w m ls[k].lines := by
 obtain ⟨a', c', he, h1, h2, h3⟩ := h
 have ha : a = a' := by injection he
 subst ha
 rcases h3 with h | ⟨b, o, ha, _, _, hc⟩
 ·subst h; simp at hk
 ·have hx := List.getElem?_eq_getElem hk
  obtain ⟨m, q1, q2⟩ := hc k _ hx
  exact ⟨b, o, m, ha, hx, q1, q2⟩
theorem tx_get {K : Nat → Prop} {w : World} {a : Option Addr} {n c : Nat} {xs : List Tx} (h : TxAt K w (.slice a n c) xs) (k : Nat) (hk : k < xs.length) :
  ∃ b o, a = some ⟨b, o, none⟩ ∧ xs[k]? = some xs[k] ∧ w.cell? ⟨b, o + k, none⟩ = some (.string (mk xs[k])) := by
 obtain ⟨a', c', he, h1, h2, h3⟩ := h
 have ha : a = a' := by injection he
 subst ha
 rcases h3 with h | ⟨b, o, ha, _, _, hc⟩
 ·subst h; simp at hk
 ·have hx := List.getElem?_eq_getElem hk
  obtain ⟨m, q1, rfl⟩ := hc k _ hx
  exact ⟨b, o, ha, hx, q1⟩
theorem TxAt.form {K : Nat → Prop} {w : World} {v : Value} {xs : List Tx} (h : TxAt K w v xs) : ∃ a c, v = .slice a xs.length c ∧ xs.length ≤ c ∧ c ≤ 9223372036854775807 := by
 obtain ⟨a, c, rfl, h1, h2, _⟩ := h
 exact ⟨a, c, rfl, h1, by unfold maxLen at h2; exact h2⟩
theorem LnsAt.form {K : Nat → Prop} {w : World} {v : Value} {xs : List Ln} (h : LnsAt K w v xs) : ∃ a c, v = .slice a xs.length c ∧ xs.length ≤ c ∧ c ≤ 9223372036854775807 := by
 obtain ⟨a, c, rfl, h1, h2, _⟩ := h
 exact ⟨a, c, rfl, h1, by unfold maxLen at h2; exact h2⟩
theorem ClsAt.form {K : Nat → Prop} {w : World} {v : Value} {xs : List Cl} (h : ClsAt K w v xs) : ∃ a c, v = .slice a xs.length c ∧ xs.length ≤ c ∧ c ≤ 9223372036854775807 := by
 obtain ⟨a, c, rfl, h1, h2, _⟩ := h
 exact ⟨a, c, rfl, h1, by unfold maxLen at h2; exact h2⟩
theorem below_alloc (w : World) (o : Obj) : Below w.heap.size w (w.alloc o) := (Below.refl _ w).alloc (Nat.le_refl _) o
theorem below_trans {a b c : World} (h : Below a.heap.size a b) (k : Below b.heap.size b c) : Below a.heap.size a c := h.trans (k.mono h.size)
theorem below_drewq {w w' : World} (h : ∃ q, w' = w.drewN q) : Below w.heap.size w w' := by
 obtain ⟨q, rfl⟩ := h
 exact (Below.refl _ _).trans ⟨rfl, rfl, rfl, Nat.le_refl _, fun _ _ => rfl⟩
theorem tab_below {w w' : World} (h : Da.Tab w) (hb : Below w.heap.size w w') : Da.Tab w' := fun i hi => by
 have c := h i hi
 rw [hb.cell (p := ⟨2, i, none⟩) (World.block_lt_of_cell? w ⟨2, i, none⟩ c)]
 exact c
def LnBox (w : World) (b : Nat) (x : Ln) (m : Value) : Prop :=
 w.cell? ⟨b, 0, none⟩ = some (.string (mk x.proc)) ∧ w.cell? ⟨b, 1, none⟩ = some m ∧ w.cell? ⟨b, 2, none⟩ = some (.int .i64 x.date) ∧ w.cell? ⟨b, 3, none⟩ = some (.int .i64 x.units) ∧ w.cell? ⟨b, 4, none⟩ = some (.int .i64 x.billed) ∧ w.cell? ⟨b, 5, none⟩ = some (.int .i64 x.prior)
def ClBox (w : World) (b : Nat) (c : Cl) (m : Value) : Prop :=
 w.cell? ⟨b, 0, none⟩ = some (.string (mk c.id)) ∧ w.cell? ⟨b, 1, none⟩ = some (.string (mk c.mem)) ∧ w.cell? ⟨b, 2, none⟩ = some (.string (mk c.fam)) ∧ w.cell? ⟨b, 3, none⟩ = some (.int .i64 c.net) ∧ w.cell? ⟨b, 4, none⟩ = some (.int .i64 c.does) ∧ w.cell? ⟨b, 5, none⟩ = some (.string (mk c.ref)) ∧ w.cell? ⟨b, 6, none⟩ = some m
theorem LnBox.new (w : World) (x : Ln) (m : Value) (t : TypeId) : LnBox (w.alloc (.cells #[.string (mk x.proc), m, .int .i64 x.date, .int .i64 x.units, .int .i64 x.billed, .int .i64 x.prior] t)) w.heap.size x m := by
 refine ⟨?_, ?_, ?_, ?_, ?_, ?_⟩ <;> simp
theorem ClBox.new (w : World) (c : Cl) (m : Value) (t : TypeId) : ClBox (w.alloc (.cells #[.string (mk c.id), .string (mk c.mem), .string (mk c.fam), .int .i64 c.net, .int .i64 c.does, .string (mk c.ref), m] t)) w.heap.size c m := by
 refine ⟨?_, ?_, ?_, ?_, ?_, ?_, ?_⟩ <;> simp
theorem LnBox.grw {w w' : World} {b : Nat} {x : Ln} {m : Value} (h : LnBox w b x m) (hb : Below w.heap.size w w') : LnBox w' b x m := by
 obtain ⟨h0, h1, h2, h3, h4, h5⟩ := h
 have hl := World.block_lt_of_cell? w _ h0
 refine ⟨?_, ?_, ?_, ?_, ?_, ?_⟩ <;> rw [World.cell?_of_block (w := w) (hb.block b hl)] <;> assumption
theorem ClBox.grw {w w' : World} {b : Nat} {x : Cl} {m : Value} (h : ClBox w b x m) (hb : Below w.heap.size w w') : ClBox w' b x m := by
 obtain ⟨h0, h1, h2, h3, h4, h5, h6⟩ := h
 have hl := World.block_lt_of_cell? w _ h0
 refine ⟨?_, ?_, ?_, ?_, ?_, ?_, ?_⟩ <;> rw [World.cell?_of_block (w := w) (hb.block b hl)] <;> assumption
end Go.Proofs.YtfoooldkmokjpaaGreatDoor.Cm
end
section
namespace Go.Proofs.YtfoooldkmokjpaaGreatDoor.Ex
open Go.RowKit
open Wo (keepB box_cell box_two heap_far below_alloc below_trans)
def ec (f : Ed) : List Value := [.int .i64 f.kind, .string (mk f.a), .string (mk f.b), .bool f.bypass, .int .i64 f.n]
abbrev edv (f : Ed) : Value := .agg #[.int .i64 f.kind, .string (mk f.a), .string (mk f.b), .bool f.bypass, .int .i64 f.n]
def EdCells (w : World) (b o : Nat) (f : Ed) : Prop :=
 w.cell? ⟨b, o, none⟩ = some (.int .i64 f.kind) ∧ w.cell? ⟨b, o + 1, none⟩ = some (.string (mk f.a)) ∧ w.cell? ⟨b, o + 2, none⟩ = some (.string (mk f.b)) ∧ w.cell? ⟨b, o + 3, none⟩ = some (.bool f.bypass) ∧ w.cell? ⟨b, o + 4, none⟩ = some (.int .i64 f.n)
theorem EdCells.of {w w' : World} {b o : Nat} {x : Ed} (h : EdCells w b o x) (he : w'.heap[b]? = w.heap[b]?) : EdCells w' b o x := by
 obtain ⟨h0, h1, h2, h3, h4⟩ := h
 refine ⟨?_, ?_, ?_, ?_, ?_⟩ <;> rw [World.cell?_of_block (w := w) he] <;> assumption
def EdsAt (K : Nat → Prop) (w : World) (v : Value) (l : List Ed) : Prop :=
 ∃ a c, v = .slice a l.length c ∧ l.length ≤ c ∧ c ≤ maxLen ∧ (l = [] ∨ ∃ b o, a = some ⟨b, o, none⟩ ∧ K b ∧ b < w.heap.size ∧ ∀ (j : Nat) x, l[j]? = some x → EdCells w b (o + j * 5) x)
theorem EdsAt.move {K K' : Nat → Prop} {w w' : World} {v : Value} {l : List Ed} (h : EdsAt K w v l) (hm : Moves K K' w w') : EdsAt K' w' v l := by
 obtain ⟨a, c, rfl, h1, h2, h3⟩ := h
 refine ⟨a, c, rfl, h1, h2, h3.imp id ?_⟩
 rintro ⟨b, o, rfl, hk, hb, hc⟩
 obtain ⟨k', hh⟩ := hm.2 b hb hk
 exact ⟨b, o, rfl, k', Nat.lt_of_lt_of_le hb hm.1, fun j x hj => (hc j x hj).of hh⟩
theorem EdsAt.grw {w w' : World} {v : Value} {l : List Ed} (h : EdsAt All w v l) (hb : Below w.heap.size w w') : EdsAt All w' v l := h.move (Below.moves hb)
theorem EdsAt.nil (K : Nat → Prop) (w : World) : EdsAt K w (.slice none 0 0) [] := ⟨none, 0, rfl, by simp, by simp [maxLen], Or.inl rfl⟩
theorem EdsAt.form {K : Nat → Prop} {w : World} {v : Value} {xs : List Ed} (h : EdsAt K w v xs) : ∃ a c, v = .slice a xs.length c ∧ xs.length ≤ c ∧ c ≤ 9223372036854775807 := by
 obtain ⟨a, c, rfl, h1, h2, _⟩ := h
 exact ⟨a, c, rfl, h1, by unfold maxLen at h2; exact h2⟩
theorem EdsAt.get {K : Nat → Prop} {w : World} {a : Option Addr} {n c : Nat} {ls : List Ed} (h : EdsAt K w (.slice a n c) ls) (k : Nat) (hk : k < ls.length) :
  ∃ b o, a = some ⟨b, o, none⟩ ∧ b < w.heap.size ∧ ls[k]? = some ls[k] ∧ EdCells w b (o + k * 5) ls[k] := by
 obtain ⟨a', c', he, h1, h2, h3⟩ := h
 have ha : a = a' := by injection he
 subst ha
 rcases h3 with h | ⟨b, o, ha, _, hb, hc⟩
 ·subst h; simp at hk
 ·have hx := List.getElem?_eq_getElem hk
  exact ⟨b, o, ha, hb, hx, hc k _ hx⟩
end Go.Proofs.YtfoooldkmokjpaaGreatDoor.Ex
end
section
set_option maxRecDepth 100000
namespace Go.Proofs.YtfoooldkmokjpaaGreatDoor.Ex
open Go.RowKit
open Wo (Wd keepB box_cell box_two heap_far below_alloc below_trans)
end Go.Proofs.YtfoooldkmokjpaaGreatDoor.Ex
end
