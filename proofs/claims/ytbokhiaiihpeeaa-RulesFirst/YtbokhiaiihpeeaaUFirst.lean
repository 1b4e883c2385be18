/-
  What RulesFirst leans on: three boxes; rows that may be none; a rule above all others; two answers in boxes.
-/
import Derived.Test.YtbokhiaiihpeeaaUMod
import Derived.Test.YtbokhiaiihpeeaaRTailX
set_option linter.unusedSimpArgs false
set_option linter.unusedVariables false
set_option maxRecDepth 100000
namespace Go.Proofs.Ytbokhiaiihpeeaa.Ul
open Go.RowKit
open Pl (Cd St Ru Pn KsAt StsAt RusAt RuIn Ok1 cdv stv ruv pnv below_alloc below_trans bfive bsix beight below_tr)
open Wo (box_cell box_two keepB heap_far)
open Cm (Ln)

theorem box_pls (w : World) (p : Pn) (m : Value) (x : Ln) (ml : Value) (a c : Value) :
    Below w.heap.size w (((w.alloc (.cells #[.int .i64 p.mode, .int .i64 p.indDed, .int .i64 p.famDed, .int .i64 p.indOop, .int .i64 p.famOop, m] 34)).alloc (.cells #[.string (mk x.proc), ml, .int .i64 x.date, .int .i64 x.units, .int .i64 x.billed, .int .i64 x.prior] 30)).alloc (.cells #[a, c] 45)) ∧
    (((w.alloc (.cells #[.int .i64 p.mode, .int .i64 p.indDed, .int .i64 p.famDed, .int .i64 p.indOop, .int .i64 p.famOop, m] 34)).alloc (.cells #[.string (mk x.proc), ml, .int .i64 x.date, .int .i64 x.units, .int .i64 x.billed, .int .i64 x.prior] 30)).alloc (.cells #[a, c] 45)).heap[w.heap.size]? = some (.cells #[.int .i64 p.mode, .int .i64 p.indDed, .int .i64 p.famDed, .int .i64 p.indOop, .int .i64 p.famOop, m] 34 (0, 0)) ∧
    (((w.alloc (.cells #[.int .i64 p.mode, .int .i64 p.indDed, .int .i64 p.famDed, .int .i64 p.indOop, .int .i64 p.famOop, m] 34)).alloc (.cells #[.string (mk x.proc), ml, .int .i64 x.date, .int .i64 x.units, .int .i64 x.billed, .int .i64 x.prior] 30)).alloc (.cells #[a, c] 45)).heap[w.heap.size + 1]? = some (.cells #[.string (mk x.proc), ml, .int .i64 x.date, .int .i64 x.units, .int .i64 x.billed, .int .i64 x.prior] 30 (0, 0)) ∧
    (((w.alloc (.cells #[.int .i64 p.mode, .int .i64 p.indDed, .int .i64 p.famDed, .int .i64 p.indOop, .int .i64 p.famOop, m] 34)).alloc (.cells #[.string (mk x.proc), ml, .int .i64 x.date, .int .i64 x.units, .int .i64 x.billed, .int .i64 x.prior] 30)).alloc (.cells #[a, c] 45)).heap[w.heap.size + 1 + 1]? = some (.cells #[a, c] 45 (0, 0)) := by
  obtain ⟨h1, h2, h3⟩ := box_pl w p m x ml
  have hb := below_alloc ((w.alloc (.cells #[.int .i64 p.mode, .int .i64 p.indDed, .int .i64 p.famDed, .int .i64 p.indOop, .int .i64 p.famOop, m] 34)).alloc (.cells #[.string (mk x.proc), ml, .int .i64 x.date, .int .i64 x.units, .int .i64 x.billed, .int .i64 x.prior] 30)) (.cells #[a, c] 45)
  refine ⟨below_trans h1 hb, keepB h2 hb, keepB h3 hb, ?_⟩
  have h := heap_alloc_new ((w.alloc (.cells #[.int .i64 p.mode, .int .i64 p.indDed, .int .i64 p.famDed, .int .i64 p.indOop, .int .i64 p.famOop, m] 34)).alloc (.cells #[.string (mk x.proc), ml, .int .i64 x.date, .int .i64 x.units, .int .i64 x.billed, .int .i64 x.prior] 30)) (.cells #[a, c] 45)
  rwa [show ((w.alloc (.cells #[.int .i64 p.mode, .int .i64 p.indDed, .int .i64 p.famDed, .int .i64 p.indOop, .int .i64 p.famOop, m] 34)).alloc (.cells #[.string (mk x.proc), ml, .int .i64 x.date, .int .i64 x.units, .int .i64 x.billed, .int .i64 x.prior] 30)).heap.size = w.heap.size + 1 + 1 by simp] at h
theorem rows_any {K : Nat → Prop} {w : World} {a : Option Addr} {n c : Nat} {rs : List Ru} (h : RusAt K w (.slice a n c) rs) :
    ∃ L : List Rr.Rw, L.map (·.1) = rs ∧ (n = 0 ∨ ∃ b o, a = some ⟨b, o, none⟩ ∧ b < w.heap.size ∧ ∀ j u, (Rr.rcs L)[j]? = some u → w.cell? ⟨b, o + j, none⟩ = some u) ∧ ∀ t ∈ L, RuIn K w t.1 t.2.1 t.2.2.1 t.2.2.2 := by
  obtain ⟨a', c', he, h1, h2, _, h3⟩ := h
  have ha : a = a' := by injection he
  have hn : n = rs.length := by injection he
  subst ha
  rcases h3 with h | ⟨b, o, ha, _, hb, hc⟩
  · subst h; exact ⟨[], rfl, Or.inl hn, by simp⟩
  · obtain ⟨L, q1, q2, q3⟩ := Rr.rows_of rs o hc
    exact ⟨L, q1, Or.inr ⟨b, o, ha, hb, q2⟩, q3⟩
abbrev t9 (x : St) (g : Nat) : Rr.Rw := (top x, .slice none 0 0, .slice none 0 0, .slice (some ⟨g, 0, none⟩) 1 1)
theorem top_in {w : World} {x : St} {g : Nat} {T : TypeId} (h : w.heap[g]? = some (.cells #[.int .i64 x.what, .int .i64 x.n] T (0, 0))) (hx : Cm.I64 x.what ∧ Cm.I64 x.n) : RuIn All w (top x) (.slice none 0 0) (.slice none 0 0) (.slice (some ⟨g, 0, none⟩) 1 1) := by
  refine ⟨by show Cm.I64 9999; unfold Cm.I64; decide, ⟨by show Cm.I64 0; unfold Cm.I64; decide, by show Cm.I64 0; unfold Cm.I64; decide, Nat.zero_le _, Nat.zero_le _, Nat.zero_le _⟩, Nat.zero_le _, KsAt.nil _ _, KsAt.nil _ _, ?_⟩
  exact sts_of (l := [x]) h (by simp) (by simpa using hx) (fun j y hj => by
    match j, hj with
    | 0, hj =>
      obtain rfl : x = y := Option.some.inj hj
      exact ⟨rfl, rfl⟩
    | n + 1, hj => simp at hj)
theorem put4_far {W : World} {a b : Nat} {o : Obj} {a0 a1 a2 a3 : Value} (h : W.heap[b]? = some o) (hne : b ≠ a) : (put4 W a a0 a1 a2 a3).heap[b]? = some o := heap_far (heap_far (heap_far (heap_far h hne) hne) hne) hne
theorem top_vals (x : Ln) (net : Int) (rs : List Ru) (s : St) (hr : ∀ c, c < rs.length → rankL rs c < 9999) : benV x net (rs ++ [top s]) = benv (if s.what = 1 then s.n else valV x net 1 rs) (if s.what = 2 then s.n else valV x net 2 rs) (if s.what = 3 then s.n else valV x net 3 rs) (if s.what = 4 then s.n else valV x net 4 rs) := by
  have h : ∀ r ∈ rs, r.rank < 9999 := fun r hm => by
    obtain ⟨j, hj, rfl⟩ := List.mem_iff_getElem.1 hm
    have := hr j hj
    unfold rankL at this
    rwa [List.getElem?_eq_getElem hj] at this
  show benv _ _ _ _ = benv _ _ _ _
  rw [val_top x net 1 rs s h, val_top x net 2 rs s h, val_top x net 3 rs s h, val_top x net 4 rs s h]
theorem own_lt {w : World} {B : Nat} {e : TypeId} {z : Nat} {v : Value} {n : Nat} {xs : List Value} (h : w.ownsRow B e z v n xs) (b : Nat) (hb : v.ownBlock = some b) : b < w.heap.size := (h.lt b hb).2
end Go.Proofs.Ytbokhiaiihpeeaa.Ul
