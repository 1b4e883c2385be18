/-
  Boxes of rules, plans and services, laid one behind the other; rows of conditions of which one holds.
-/
import Derived.Test.YtbokhiaiihpeeaaUHold
set_option linter.unusedSimpArgs false
set_option linter.unusedVariables false
set_option maxRecDepth 100000
namespace Go.Proofs.Ytbokhiaiihpeeaa.Ul
open Go.RowKit
open Pl (Cd St Ru Pn KsAt StsAt RusAt RuIn Ok1 cdv stv ruv pnv below_alloc below_trans bfive bsix beight below_tr)
open Wo (box_cell box_two keepB heap_far)
open Cm (Ln)

/-- A rule's box and a service's. -/
theorem box_rl (w : World) (r : Ru) (k u s : Value) (x : Ln) (ml : Value) :
    Below w.heap.size w ((w.alloc (.cells #[.int .i64 r.rank, .int .i64 r.cif.kind, .string (mk r.cif.lo), .string (mk r.cif.hi), .int .i64 r.cif.n, k, u, s] 27)).alloc (.cells #[.string (mk x.proc), ml, .int .i64 x.date, .int .i64 x.units, .int .i64 x.billed, .int .i64 x.prior] 30)) ∧
    ((w.alloc (.cells #[.int .i64 r.rank, .int .i64 r.cif.kind, .string (mk r.cif.lo), .string (mk r.cif.hi), .int .i64 r.cif.n, k, u, s] 27)).alloc (.cells #[.string (mk x.proc), ml, .int .i64 x.date, .int .i64 x.units, .int .i64 x.billed, .int .i64 x.prior] 30)).heap[w.heap.size]? = some (.cells #[.int .i64 r.rank, .int .i64 r.cif.kind, .string (mk r.cif.lo), .string (mk r.cif.hi), .int .i64 r.cif.n, k, u, s] 27 (0, 0)) ∧
    ((w.alloc (.cells #[.int .i64 r.rank, .int .i64 r.cif.kind, .string (mk r.cif.lo), .string (mk r.cif.hi), .int .i64 r.cif.n, k, u, s] 27)).alloc (.cells #[.string (mk x.proc), ml, .int .i64 x.date, .int .i64 x.units, .int .i64 x.billed, .int .i64 x.prior] 30)).heap[w.heap.size + 1]? = some (.cells #[.string (mk x.proc), ml, .int .i64 x.date, .int .i64 x.units, .int .i64 x.billed, .int .i64 x.prior] 30 (0, 0)) := by
  refine ⟨below_trans (below_alloc w _) (below_alloc _ _), keepB (heap_alloc_new w _) (below_alloc _ _), ?_⟩
  have h := heap_alloc_new (w.alloc (.cells #[.int .i64 r.rank, .int .i64 r.cif.kind, .string (mk r.cif.lo), .string (mk r.cif.hi), .int .i64 r.cif.n, k, u, s] 27)) (.cells #[.string (mk x.proc), ml, .int .i64 x.date, .int .i64 x.units, .int .i64 x.billed, .int .i64 x.prior] 30)
  rwa [show (w.alloc (.cells #[.int .i64 r.rank, .int .i64 r.cif.kind, .string (mk r.cif.lo), .string (mk r.cif.hi), .int .i64 r.cif.n, k, u, s] 27)).heap.size = w.heap.size + 1 by simp] at h
/-- A plan's box and a service's. -/
theorem box_pl (w : World) (p : Pn) (m : Value) (x : Ln) (ml : Value) :
    Below w.heap.size w ((w.alloc (.cells #[.int .i64 p.mode, .int .i64 p.indDed, .int .i64 p.famDed, .int .i64 p.indOop, .int .i64 p.famOop, m] 34)).alloc (.cells #[.string (mk x.proc), ml, .int .i64 x.date, .int .i64 x.units, .int .i64 x.billed, .int .i64 x.prior] 30)) ∧
    ((w.alloc (.cells #[.int .i64 p.mode, .int .i64 p.indDed, .int .i64 p.famDed, .int .i64 p.indOop, .int .i64 p.famOop, m] 34)).alloc (.cells #[.string (mk x.proc), ml, .int .i64 x.date, .int .i64 x.units, .int .i64 x.billed, .int .i64 x.prior] 30)).heap[w.heap.size]? = some (.cells #[.int .i64 p.mode, .int .i64 p.indDed, .int .i64 p.famDed, .int .i64 p.indOop, .int .i64 p.famOop, m] 34 (0, 0)) ∧
    ((w.alloc (.cells #[.int .i64 p.mode, .int .i64 p.indDed, .int .i64 p.famDed, .int .i64 p.indOop, .int .i64 p.famOop, m] 34)).alloc (.cells #[.string (mk x.proc), ml, .int .i64 x.date, .int .i64 x.units, .int .i64 x.billed, .int .i64 x.prior] 30)).heap[w.heap.size + 1]? = some (.cells #[.string (mk x.proc), ml, .int .i64 x.date, .int .i64 x.units, .int .i64 x.billed, .int .i64 x.prior] 30 (0, 0)) := by
  refine ⟨below_trans (below_alloc w _) (below_alloc _ _), keepB (heap_alloc_new w _) (below_alloc _ _), ?_⟩
  have h := heap_alloc_new (w.alloc (.cells #[.int .i64 p.mode, .int .i64 p.indDed, .int .i64 p.famDed, .int .i64 p.indOop, .int .i64 p.famOop, m] 34)) (.cells #[.string (mk x.proc), ml, .int .i64 x.date, .int .i64 x.units, .int .i64 x.billed, .int .i64 x.prior] 30)
  rwa [show (w.alloc (.cells #[.int .i64 p.mode, .int .i64 p.indDed, .int .i64 p.famDed, .int .i64 p.indOop, .int .i64 p.famOop, m] 34)).heap.size = w.heap.size + 1 by simp] at h
/-- A row of one rule. -/
theorem rus_one {w : World} {b : Nat} {r : Ru} {k u s : Value} {T : TypeId} (h : w.heap[b]? = some (.cells #[.int .i64 r.rank, .int .i64 r.cif.kind, .string (mk r.cif.lo), .string (mk r.cif.hi), .int .i64 r.cif.n, k, u, s] T (0, 0))) (hin : RuIn All w r k u s) : RusAt All w (.slice (some ⟨b, 0, none⟩) 1 1) [r] := by
  refine ⟨_, _, rfl, Nat.le_refl _, by unfold maxLen; simp, by unfold Pl.Big; simp, Or.inr ⟨_, _, rfl, trivial, (Array.getElem?_eq_some_iff.1 h).1, fun j x hj => ?_⟩⟩
  have c := fun j => cell_of_row w b j _ _ (0, 0) h
  match j, hj with
  | 0, hj =>
    obtain rfl : r = x := Option.some.inj hj
    exact ⟨k, u, s, ⟨c 0, c 1, c 2, c 3, c 4, c 5, c 6, c 7⟩, hin⟩
  | n + 1, hj => simp at hj
theorem any_hitC (f : Cd → Bool) (xs : List Cd) (k : Nat) (y : Cd) (h : xs[k]? = some y) (hy : f y = true) : xs.any f = true := by
  rw [List.any_eq_true]
  exact ⟨y, List.mem_of_getElem? h, hy⟩
theorem any_more (f : Cd → Bool) (xs : List Cd) (k : Nat) (y : Cd) (h : xs[k]? = some y) : (xs.take (k + 1)).any f = ((xs.take k).any f || f y) := by
  rw [List.take_add_one, h]
  simp
theorem any_snocC (f : Cd → Bool) (xs : List Cd) (k : Nat) (y : Cd) (h : xs[k]? = some y) (ha : (xs.take k).any f = false) (hy : f y = false) : (xs.take (k + 1)).any f = false := by
  rw [any_more f xs k y h, ha, hy]; rfl
end Go.Proofs.Ytbokhiaiihpeeaa.Ul
