/-
  Texts put together (merge.py): XPair.
-/
import Derived.Test.YtgloihilnbjmeaaDoorMc27
/-
  What the reader's pair, bundle and units do, as contracts: the row that is made, and the fault that is kept.
-/
section
set_option linter.unusedSimpArgs false
set_option linter.unusedVariables false
set_option maxRecDepth 100000
namespace Go.Proofs.YtgloihilnbjmeaaDoor.Ex
open Go.RowKit
open Wo (Wd WdsAt box_cell box_two keepB heap_far below_alloc below_trans)

theorem rd_far {q E : Nat} {l : List Wd} {f : Int × Nat} {w : World} (h : RdAt q E l f w) {p : Nat} (hp : q < p) (j : Nat) (u : Value) : RdAt q E l f (w.setCell ⟨p, j, none⟩ u) := by
  obtain ⟨v, h1, h2, h3⟩ := h
  exact ⟨v, heap_far h1 (by omega), h2.move ⟨by simp [World.setCell], fun b _ hk => ⟨hk, Below.heap_setCell _ _ _ _ (by show b ≠ p; omega)⟩⟩, h3⟩
theorem rd_far5 {q E : Nat} {l : List Wd} {f : Int × Nat} {w : World} (h : RdAt q E l f w) {p : Nat} (hp : q < p) (a b c d e : Value) : RdAt q E l f (put5 w p a b c d e) := rd_far (rd_far (rd_far (rd_far (rd_far h hp 0 a) hp 1 b) hp 2 c) hp 3 d) hp 4 e
theorem grown_p5 {w W : World} {p : Option Nat} (h : w.grownBy W p) {q : Nat} (hq : w.heap.size ≤ q) (a b c d e : Value) : w.grownBy (put5 W q a b c d e) p := grown_new (grown_new (grown_new (grown_new (grown_new h hq 0 a) hq 1 b) hq 2 c) hq 3 d) hq 4 e
theorem frz5 {w : World} {q : Nat} {cs : Array Value} {T : TypeId} (h : w.heap[q]? = some (.cells cs T (0, 0))) : w.frozen? ⟨q, 0, none⟩ = false ∧ w.frozen? ⟨q, 1, none⟩ = false ∧ w.frozen? ⟨q, 2, none⟩ = false ∧ w.frozen? ⟨q, 3, none⟩ = false ∧ w.frozen? ⟨q, 4, none⟩ = false := ⟨Lib.frozen_of_heap h 0, Lib.frozen_of_heap h 1, Lib.frozen_of_heap h 2, Lib.frozen_of_heap h 3, Lib.frozen_of_heap h 4⟩
set_option maxHeartbeats 4000000 in
theorem rpair_any (q E : Nat) (k : Int) (l : List Wd) (f : Int × Nat) (w : World) (h : RdAt q E l f w) :
    Calls Tryd.prog 47 #[.pointer (some ⟨q, 0, none⟩), .int .i64 k] w fun e w' => e = .returned (edv (prX E k l)) ∧ RdAt q E l.tail.tail (prF E l f) w' ∧ w.grownBy w' (some q) := by
  show Calls _ _ _ _ fun e w' => e = .returned (.agg #[.int .i64 k, .string (mk (tkW E l).1), .string (mk (tkW E l.tail).1), .bool false, .int .i64 0]) ∧ RdAt q E l.tail.tail (cdF E (tkW E l).1 l.tail (cdF E [] l f)) w' ∧ w.grownBy w' (some q)
  have HC1 := Lib.hid fun W hW => code_any q E [] l f W hW
  have HC2 := Lib.hid fun W hW => code_any q E (tkW E l).1 l.tail (cdF E [] l f) W hW
  generalize cdF E (tkW E l).1 l.tail (cdF E [] l f) = ff at *
  generalize cdF E [] l f = g1 at *
  generalize tkW E l = x at *
  generalize tkW E l.tail = x2 at *
  have hb0 := below_alloc w (.cells #[.int .i64 0, .string ⟨#[]⟩, .string ⟨#[]⟩, .bool false, .int .i64 0] 49)
  have HR0 := Lib.hid (h.grw hb0)
  have HG0 := Lib.hid (grown_of (p := some q) hb0)
  have HZ0 := Lib.hid (heap_alloc_new w (.cells #[.int .i64 0, .string ⟨#[]⟩, .string ⟨#[]⟩, .bool false, .int .i64 0] 49))
  have hlt : q < w.heap.size := h.lt
  clear h hb0
  go_enter Tryd.func47, Tryd.ntmps47
  go_upto_region 1 with fail
  generalize w.alloc (.cells #[.int .i64 0, .string ⟨#[]⟩, .string ⟨#[]⟩, .bool false, .int .i64 0] 49) = W0 at *
  generalize hp : w.heap.size = p at *
  have HS0 : Hid (w.heap.size ≤ p) := Nat.le_of_eq hp
  clear hp
  go_wp2_with fail
  go_at_call 62
  refine (HC1.out _ HR0.out).mono ?_
  rintro e w1 ⟨rfl, hr, hg⟩
  have HR1 := Lib.hid hr
  have HG1 := Lib.hid (grown_tr HG0.out hg)
  have HZ1 := Lib.hid (grown_heap HZ0.out hg (Nat.ne_of_lt hlt).symm)
  clear hr hg HR0 HG0 HZ0
  go_wp2_with fail
  go_at_call 62
  refine (HC2.out _ HR1.out).mono ?_
  rintro e w2 ⟨rfl, hr, hg⟩
  have HR2 := Lib.hid hr
  have HG2 := Lib.hid (grown_tr HG1.out hg)
  have HZ2 := Lib.hid (grown_heap HZ1.out hg (Nat.ne_of_lt hlt).symm)
  clear hr hg HR1 HG1 HZ1
  obtain ⟨z0, z1, z2, z3, z4⟩ := cells5 HZ2.out
  obtain ⟨y0, y1, y2, y3, y4⟩ := frz5 HZ2.out
  go_wp2
  clear z0 z1 z2 z3 z4 y0 y1 y2 y3 y4
  have hn5 := hp5_same HZ2.out (.int .i64 k) (.string (mk x.1)) (.string (mk x2.1)) (.bool false) (.int .i64 0)
  have hr5 := rd_far5 HR2.out hlt (.int .i64 k) (.string (mk x.1)) (.string (mk x2.1)) (.bool false) (.int .i64 0)
  have hg5 := grown_p5 HG2.out HS0.out (.int .i64 k) (.string (mk x.1)) (.string (mk x2.1)) (.bool false) (.int .i64 0)
  simp only [put5] at hn5 hr5 hg5
  generalize ((((w2.setCell ⟨p, 0, none⟩ (.int .i64 k)).setCell ⟨p, 1, none⟩ (.string (mk x.1))).setCell ⟨p, 2, none⟩ (.string (mk x2.1))).setCell ⟨p, 3, none⟩ (.bool false)).setCell ⟨p, 4, none⟩ (.int .i64 0) = FW at *
  obtain ⟨r0, r1, r2, r3, r4⟩ := cells5 hn5
  refine bodyPost_ret (v := .agg #[.int .i64 k, .string (mk x.1), .string (mk x2.1), .bool false, .int .i64 0]) (by simp [results, Tryd.results47, go_sem, r0, r1, r2, r3, r4]) rfl ?_
  exact ⟨rfl, hr5, hg5⟩
set_option maxHeartbeats 4000000 in
theorem runits_any (q E : Nat) (l : List Wd) (f : Int × Nat) (w : World) (h : RdAt q E l f w) :
    Calls Tryd.prog 48 #[.pointer (some ⟨q, 0, none⟩)] w fun e w' => e = .returned (edv (unX E l)) ∧ RdAt q E l.tail.tail (unF E l f) w' ∧ w.grownBy w' (some q) := by
  show Calls _ _ _ _ fun e w' => e = .returned (.agg #[.int .i64 3, .string (mk (tkW E l).1), .string ⟨#[]⟩, .bool false, .int .i64 (Nu.riV (tkW E l.tail).1 4)]) ∧ RdAt q E l.tail.tail (nmF E l.tail (cdF E [] l f)) w' ∧ w.grownBy w' (some q)
  have HC1 := Lib.hid fun W hW => code_any q E [] l f W hW
  have HC2 := Lib.hid fun W hW => number_any q E l.tail (cdF E [] l f) W hW
  generalize nmF E l.tail (cdF E [] l f) = ff at *
  generalize cdF E [] l f = g1 at *
  generalize tkW E l = x at *
  generalize Nu.riV (tkW E l.tail).1 4 = nv at *
  have hb0 := below_alloc w (.cells #[.int .i64 0, .string ⟨#[]⟩, .string ⟨#[]⟩, .bool false, .int .i64 0] 49)
  have HR0 := Lib.hid (h.grw hb0)
  have HG0 := Lib.hid (grown_of (p := some q) hb0)
  have HZ0 := Lib.hid (heap_alloc_new w (.cells #[.int .i64 0, .string ⟨#[]⟩, .string ⟨#[]⟩, .bool false, .int .i64 0] 49))
  have hlt : q < w.heap.size := h.lt
  clear h hb0
  go_enter Tryd.func48, Tryd.ntmps48
  go_upto_region 1 with fail
  generalize w.alloc (.cells #[.int .i64 0, .string ⟨#[]⟩, .string ⟨#[]⟩, .bool false, .int .i64 0] 49) = W0 at *
  generalize hp : w.heap.size = p at *
  have HS0 : Hid (w.heap.size ≤ p) := Nat.le_of_eq hp
  clear hp
  go_wp2_with fail
  go_at_call 62
  refine (HC1.out _ HR0.out).mono ?_
  rintro e w1 ⟨rfl, hr, hg⟩
  have HR1 := Lib.hid hr
  have HG1 := Lib.hid (grown_tr HG0.out hg)
  have HZ1 := Lib.hid (grown_heap HZ0.out hg (Nat.ne_of_lt hlt).symm)
  clear hr hg HR0 HG0 HZ0
  go_wp2_with fail
  go_at_call 63
  refine (HC2.out _ HR1.out).mono ?_
  rintro e w2 ⟨rfl, hr, hg⟩
  have HR2 := Lib.hid hr
  have HG2 := Lib.hid (grown_tr HG1.out hg)
  have HZ2 := Lib.hid (grown_heap HZ1.out hg (Nat.ne_of_lt hlt).symm)
  clear hr hg HR1 HG1 HZ1
  obtain ⟨z0, z1, z2, z3, z4⟩ := cells5 HZ2.out
  obtain ⟨y0, y1, y2, y3, y4⟩ := frz5 HZ2.out
  go_wp2
  clear z0 z1 z2 z3 z4 y0 y1 y2 y3 y4
  have hn5 := hp5_same HZ2.out (.int .i64 3) (.string (mk x.1)) (.string ⟨#[]⟩) (.bool false) (.int .i64 nv)
  have hr5 := rd_far5 HR2.out hlt (.int .i64 3) (.string (mk x.1)) (.string ⟨#[]⟩) (.bool false) (.int .i64 nv)
  have hg5 := grown_p5 HG2.out HS0.out (.int .i64 3) (.string (mk x.1)) (.string ⟨#[]⟩) (.bool false) (.int .i64 nv)
  simp only [put5] at hn5 hr5 hg5
  generalize ((((w2.setCell ⟨p, 0, none⟩ (.int .i64 3)).setCell ⟨p, 1, none⟩ (.string (mk x.1))).setCell ⟨p, 2, none⟩ (.string ⟨#[]⟩)).setCell ⟨p, 3, none⟩ (.bool false)).setCell ⟨p, 4, none⟩ (.int .i64 nv) = FW at *
  obtain ⟨r0, r1, r2, r3, r4⟩ := cells5 hn5
  refine bodyPost_ret (v := .agg #[.int .i64 3, .string (mk x.1), .string ⟨#[]⟩, .bool false, .int .i64 nv]) (by simp [results, Tryd.results48, go_sem, r0, r1, r2, r3, r4]) rfl ?_
  exact ⟨rfl, hr5, hg5⟩
set_option maxHeartbeats 4000000 in
theorem bundle_any (q E : Nat) (l : List Wd) (f : Int × Nat) (w : World) (h : RdAt q E l f w) :
    Calls Tryd.prog 46 #[.pointer (some ⟨q, 0, none⟩)] w fun e w' => e = .returned (edv (buX E l)) ∧ RdAt q E l.tail.tail.tail (buF E l f) w' ∧ w.grownBy w' (some q) := by
  have HAn := Lib.hid fun W (hW : RdAt q E l.tail.tail (prF E l f) W) => answer_any q E l.tail.tail _ W hW
  show Calls _ _ _ _ fun e w' => e = .returned (.agg #[.int .i64 1, .string (mk (tkW E l).1), .string (mk (tkW E l.tail).1), .bool (decide ((tkW E l.tail.tail).1 = Pl.tYes)), .int .i64 0]) ∧ RdAt q E l.tail.tail.tail (anF E l.tail.tail (prF E l f)) w' ∧ w.grownBy w' (some q)
  have HPr : Hid (∀ W0, RdAt q E l f W0 → Calls Tryd.prog 47 #[.pointer (some ⟨q, 0, none⟩), .int .i64 1] W0 fun e w' => e = .returned (.agg #[.int .i64 1, .string (mk (tkW E l).1), .string (mk (tkW E l.tail).1), .bool false, .int .i64 0]) ∧ RdAt q E l.tail.tail (prF E l f) w' ∧ W0.grownBy w' (some q)) := fun W0 hW => rpair_any q E 1 l f W0 hW
  generalize anF E l.tail.tail (prF E l f) = ff at *
  generalize decide ((tkW E l.tail.tail).1 = Pl.tYes) = V at *
  generalize tkW E l = x at *
  generalize tkW E l.tail = x2 at *
  generalize prF E l f = g1 at *
  have hb0 := below_alloc w (.cells #[.int .i64 0, .string ⟨#[]⟩, .string ⟨#[]⟩, .bool false, .int .i64 0] 49)
  have HR0 := Lib.hid (h.grw hb0)
  have HG0 := Lib.hid (grown_of (p := some q) hb0)
  have HZ0 := Lib.hid (heap_alloc_new w (.cells #[.int .i64 0, .string ⟨#[]⟩, .string ⟨#[]⟩, .bool false, .int .i64 0] 49))
  have hlt : q < w.heap.size := h.lt
  clear h hb0
  go_enter Tryd.func46, Tryd.ntmps46
  go_upto_region 1 with fail
  generalize w.alloc (.cells #[.int .i64 0, .string ⟨#[]⟩, .string ⟨#[]⟩, .bool false, .int .i64 0] 49) = W0 at *
  generalize hp : w.heap.size = p at *
  have HS0 : Hid (w.heap.size ≤ p) := Nat.le_of_eq hp
  clear hp
  go_wp2_with fail
  go_at_call 47
  refine (HPr.out _ HR0.out).mono ?_
  rintro e w1 ⟨rfl, hr, hg⟩
  have HR1 := Lib.hid hr
  have HG1 := Lib.hid (grown_tr HG0.out hg)
  have HZ1 := Lib.hid (grown_heap HZ0.out hg (Nat.ne_of_lt hlt).symm)
  clear hr hg HR0 HG0 HZ0
  clear HPr
  have hb2 := below_alloc w1 (.cells #[.int .i64 1, .string (mk x.1), .string (mk x2.1), .bool false, .int .i64 0] 49)
  have HR2 := Lib.hid (HR1.out.grw hb2)
  have HG2 := Lib.hid (grown_alloc HG1.out (.cells #[.int .i64 1, .string (mk x.1), .string (mk x2.1), .bool false, .int .i64 0] 49))
  have HZ2 := Lib.hid (keepB HZ1.out hb2)
  have HY2 := Lib.hid (heap_alloc_new w1 (.cells #[.int .i64 1, .string (mk x.1), .string (mk x2.1), .bool false, .int .i64 0] 49))
  have hqb : q < w1.heap.size := HR1.out.lt
  have hpb : p < w1.heap.size := (Array.getElem?_eq_some_iff.1 HZ1.out).1
  clear HR1 HG1 HZ1 hb2
  go_upto_region 2 with fail
  generalize w1.alloc (.cells #[.int .i64 1, .string (mk x.1), .string (mk x2.1), .bool false, .int .i64 0] 49) = W2 at *
  generalize w1.heap.size = b at *
  have HAn2 := Lib.hid (HAn.out W2 HR2.out)
  clear HAn
  go_wp2_with fail
  go_at_call 61
  refine HAn2.out.mono ?_
  rintro e w3 ⟨rfl, hr, hg⟩
  have HR3 := Lib.hid hr
  have HG3 := Lib.hid (grown_tr HG2.out hg)
  have HZ3 := Lib.hid (grown_heap HZ2.out hg (Nat.ne_of_lt hlt).symm)
  have HY3 := Lib.hid (grown_heap HY2.out hg (Nat.ne_of_lt hqb).symm)
  clear hr hg HR2 HG2 HZ2 HY2 HAn2
  obtain ⟨z0, z1, z2, z3, z4⟩ := cells5 HY3.out
  obtain ⟨y0, y1, y2, y3, y4⟩ := frz5 HY3.out
  go_upto_region 3 with fail
  clear z0 z1 z2 z3 z4 y0 y1 y2 y3 y4
  have HR4 := Lib.hid (rd_far HR3.out hqb 3 (.bool V))
  have HG4 : Hid (w.grownBy (w3.setCell ⟨b, 3, none⟩ (.bool V)) (some q)) := grown_new HG3.out (by have := HS0.out; omega) 3 (.bool V)
  have HZ4 : Hid ((w3.setCell ⟨b, 3, none⟩ (.bool V)).heap[p]? = _) := heap_far HZ3.out (Nat.ne_of_lt hpb)
  have HY4 : Hid ((w3.setCell ⟨b, 3, none⟩ (.bool V)).heap[b]? = some (.cells #[.int .i64 1, .string (mk x.1), .string (mk x2.1), .bool V, .int .i64 0] 49 (0, 0))) := heap_setCell_same w3 b 3 _ _ _ HY3.out
  clear HR3 HG3 HZ3 HY3
  generalize w3.setCell ⟨b, 3, none⟩ (.bool V) = W4 at *
  obtain ⟨u0, u1, u2, u3, u4⟩ := cells5 HY4.out
  obtain ⟨z0, z1, z2, z3, z4⟩ := cells5 HZ4.out
  obtain ⟨y0, y1, y2, y3, y4⟩ := frz5 HZ4.out
  go_wp2
  clear u0 u1 u2 u3 u4 z0 z1 z2 z3 z4 y0 y1 y2 y3 y4
  have hn5 := hp5_same HZ4.out (.int .i64 1) (.string (mk x.1)) (.string (mk x2.1)) (.bool V) (.int .i64 0)
  have hr5 := rd_far5 HR4.out hlt (.int .i64 1) (.string (mk x.1)) (.string (mk x2.1)) (.bool V) (.int .i64 0)
  have hg5 := grown_p5 HG4.out HS0.out (.int .i64 1) (.string (mk x.1)) (.string (mk x2.1)) (.bool V) (.int .i64 0)
  simp only [put5] at hn5 hr5 hg5
  generalize ((((W4.setCell ⟨p, 0, none⟩ (.int .i64 1)).setCell ⟨p, 1, none⟩ (.string (mk x.1))).setCell ⟨p, 2, none⟩ (.string (mk x2.1))).setCell ⟨p, 3, none⟩ (.bool V)).setCell ⟨p, 4, none⟩ (.int .i64 0) = FW at *
  obtain ⟨r0, r1, r2, r3, r4⟩ := cells5 hn5
  refine bodyPost_ret (v := .agg #[.int .i64 1, .string (mk x.1), .string (mk x2.1), .bool V, .int .i64 0]) (by simp [results, Tryd.results46, go_sem, r0, r1, r2, r3, r4]) rfl ?_
  exact ⟨rfl, hr5, hg5⟩
end Go.Proofs.YtgloihilnbjmeaaDoor.Ex
end
