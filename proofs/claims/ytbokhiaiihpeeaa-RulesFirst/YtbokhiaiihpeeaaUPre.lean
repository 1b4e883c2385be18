/-
  A plan, a service and an answer in boxes; rows that lie below a block. (Written by gen_res.py.)
-/
import Derived.Test.YtbokhiaiihpeeaaUBen
import Derived.Test.YtbokhiaiihpeeaaUBox
set_option linter.unusedSimpArgs false
set_option linter.unusedVariables false
set_option maxRecDepth 100000
namespace Go.Proofs.Ytbokhiaiihpeeaa.Ul
open Go.RowKit
open Pl (Cd St Ru Pn KsAt StsAt RusAt RuIn Ok1 cdv stv ruv pnv below_alloc below_trans bfive bsix beight below_tr)
open Wo (box_cell box_two keepB heap_far)
open Cm (Ln)

theorem box_plb (w : World) (p : Pn) (m : Value) (x : Ln) (ml : Value) :
    Below w.heap.size w (((w.alloc (.cells #[.int .i64 p.mode, .int .i64 p.indDed, .int .i64 p.famDed, .int .i64 p.indOop, .int .i64 p.famOop, m] 34)).alloc (.cells #[.string (mk x.proc), ml, .int .i64 x.date, .int .i64 x.units, .int .i64 x.billed, .int .i64 x.prior] 30)).alloc (.cells #[.bool false, .bool false, .int .i64 0, .int .i64 0] 39)) ∧ (((w.alloc (.cells #[.int .i64 p.mode, .int .i64 p.indDed, .int .i64 p.famDed, .int .i64 p.indOop, .int .i64 p.famOop, m] 34)).alloc (.cells #[.string (mk x.proc), ml, .int .i64 x.date, .int .i64 x.units, .int .i64 x.billed, .int .i64 x.prior] 30)).alloc (.cells #[.bool false, .bool false, .int .i64 0, .int .i64 0] 39)).heap[w.heap.size]? = some (.cells #[.int .i64 p.mode, .int .i64 p.indDed, .int .i64 p.famDed, .int .i64 p.indOop, .int .i64 p.famOop, m] 34 (0, 0)) ∧ (((w.alloc (.cells #[.int .i64 p.mode, .int .i64 p.indDed, .int .i64 p.famDed, .int .i64 p.indOop, .int .i64 p.famOop, m] 34)).alloc (.cells #[.string (mk x.proc), ml, .int .i64 x.date, .int .i64 x.units, .int .i64 x.billed, .int .i64 x.prior] 30)).alloc (.cells #[.bool false, .bool false, .int .i64 0, .int .i64 0] 39)).heap[w.heap.size + 1]? = some (.cells #[.string (mk x.proc), ml, .int .i64 x.date, .int .i64 x.units, .int .i64 x.billed, .int .i64 x.prior] 30 (0, 0)) ∧ (((w.alloc (.cells #[.int .i64 p.mode, .int .i64 p.indDed, .int .i64 p.famDed, .int .i64 p.indOop, .int .i64 p.famOop, m] 34)).alloc (.cells #[.string (mk x.proc), ml, .int .i64 x.date, .int .i64 x.units, .int .i64 x.billed, .int .i64 x.prior] 30)).alloc (.cells #[.bool false, .bool false, .int .i64 0, .int .i64 0] 39)).heap[w.heap.size + 2]? = some (.cells #[.bool false, .bool false, .int .i64 0, .int .i64 0] 39 (0, 0)) ∧ (((w.alloc (.cells #[.int .i64 p.mode, .int .i64 p.indDed, .int .i64 p.famDed, .int .i64 p.indOop, .int .i64 p.famOop, m] 34)).alloc (.cells #[.string (mk x.proc), ml, .int .i64 x.date, .int .i64 x.units, .int .i64 x.billed, .int .i64 x.prior] 30)).alloc (.cells #[.bool false, .bool false, .int .i64 0, .int .i64 0] 39)).heap.size = w.heap.size + 3 := by
  obtain ⟨h1, h2, h3⟩ := box_pl w p m x ml
  have hb := below_alloc ((w.alloc (.cells #[.int .i64 p.mode, .int .i64 p.indDed, .int .i64 p.famDed, .int .i64 p.indOop, .int .i64 p.famOop, m] 34)).alloc (.cells #[.string (mk x.proc), ml, .int .i64 x.date, .int .i64 x.units, .int .i64 x.billed, .int .i64 x.prior] 30)) (.cells #[.bool false, .bool false, .int .i64 0, .int .i64 0] 39)
  refine ⟨below_trans h1 hb, keepB h2 hb, keepB h3 hb, ?_, by simp⟩
  have h := heap_alloc_new ((w.alloc (.cells #[.int .i64 p.mode, .int .i64 p.indDed, .int .i64 p.famDed, .int .i64 p.indOop, .int .i64 p.famOop, m] 34)).alloc (.cells #[.string (mk x.proc), ml, .int .i64 x.date, .int .i64 x.units, .int .i64 x.billed, .int .i64 x.prior] 30)) (.cells #[.bool false, .bool false, .int .i64 0, .int .i64 0] 39)
  rwa [show ((w.alloc (.cells #[.int .i64 p.mode, .int .i64 p.indDed, .int .i64 p.famDed, .int .i64 p.indOop, .int .i64 p.famOop, m] 34)).alloc (.cells #[.string (mk x.proc), ml, .int .i64 x.date, .int .i64 x.units, .int .i64 x.billed, .int .i64 x.prior] 30)).heap.size = w.heap.size + 2 by simp] at h
theorem keepLo {w w' : World} {q b : Nat} {o : Obj} (h : w.heap[b]? = some o) (hb : Below q w w') (hl : b < q) : w'.heap[b]? = some o := by rw [hb.block b hl]; exact h
theorem lo_rus {w W : World} {m : Value} {rs : List Ru} {q : Nat} (h : RusAt All w m rs) (hb : Below w.heap.size w W) (hq : w.heap.size ≤ q) : RusAt (fun b => b < q) W m rs := h.move ⟨hb.size, fun b hl _ => ⟨Nat.lt_of_lt_of_le hl hq, hb.block b hl⟩⟩
theorem lo_tx {w W : World} {m : Value} {rs : List Tx} {q : Nat} (h : TxAt All w m rs) (hb : Below w.heap.size w W) (hq : w.heap.size ≤ q) : TxAt (fun b => b < q) W m rs := TxAt.move h ⟨hb.size, fun b hl _ => ⟨Nat.lt_of_lt_of_le hl hq, hb.block b hl⟩⟩
theorem all_rus {w W : World} {m : Value} {rs : List Ru} {q : Nat} (h : RusAt (fun b => b < q) w m rs) (hb : Below q w W) : RusAt All W m rs := h.move ⟨hb.size, fun b _ hk => ⟨trivial, hb.block b hk⟩⟩
theorem all_tx {w W : World} {m : Value} {rs : List Tx} {q : Nat} (h : TxAt (fun b => b < q) w m rs) (hb : Below q w W) : TxAt All W m rs := TxAt.move h ⟨hb.size, fun b _ hk => ⟨trivial, hb.block b hk⟩⟩
theorem all_ru {w W : World} {r : Ru} {k u s : Value} {q : Nat} (h : RuIn (fun b => b < q) w r k u s) (hb : Below q w W) : RuIn All W r k u s := h.move ⟨hb.size, fun b _ hk => ⟨trivial, hb.block b hk⟩⟩
theorem best_snoc (x : Ln) (net k : Int) (l : List Ru) (j : Nat) (r : Ru) (h : l[j]? = some r) : bestV x net k (l.take (j + 1)) = stepV x net k (bestV x net k (l.take j)) r := by
  unfold bestV
  rw [List.take_add_one, h, List.foldl_append]
  rfl
abbrev benV (x : Ln) (net : Int) (l : List Ru) : Value := benv (valV x net 1 l) (valV x net 2 l) (valV x net 3 l) (valV x net 4 l)
theorem val_of {x : Ln} {net k A V : Int} {l : List Ru} (h : (A, V) = bestV x net k l) : valV x net k l = V := by unfold valV; rw [← h]
end Go.Proofs.Ytbokhiaiihpeeaa.Ul
