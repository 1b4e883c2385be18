/-
  Texts put together (merge.py): HOut.
-/
import Derived.Deep.Cut
import Derived.Test.YtfoooldkmokjpaaGreatDoorMj19
import Derived.Test.YtfoooldkmokjpaaGreatDoorMj13
set_option linter.unusedSimpArgs false
set_option linter.unusedVariables false
section
set_option maxRecDepth 100000
namespace Go.Proofs.YtfoooldkmokjpaaGreatDoor.Sh
open Go.RowKit
theorem heap_set {w : World} {b : Nat} {cs : Array Value} {t : TypeId} (h : w.heap[b]? = some (.cells cs t (0, 0))) (j : Nat) (u : Value) : (w.setCell ⟨b, j, none⟩ u).heap[b]? = some (.cells (cs.setIfInBounds j u) t (0, 0)) := by
 simp [World.setCell, Array.getElem?_modify, h]
theorem heap_far {w : World} {b q j : Nat} {o : Obj} {u : Value} (h : w.heap[b]? = some o) (hne : b ≠ q) : (w.setCell ⟨q, j, none⟩ u).heap[b]? = some o := by
 rw [Below.heap_setCell _ _ _ _ hne]; exact h
theorem eight {w : World} {b : Nat} {c0 c1 c2 c3 c4 c5 c6 c7 : Value} {T : TypeId} (h : w.heap[b]? = some (.cells #[c0, c1, c2, c3, c4, c5, c6, c7] T (0, 0))) : w.cell? ⟨b, 0, none⟩ = some c0 ∧ w.cell? ⟨b, 1, none⟩ = some c1 ∧ w.cell? ⟨b, 2, none⟩ = some c2 ∧ w.cell? ⟨b, 3, none⟩ = some c3 ∧ w.cell? ⟨b, 4, none⟩ = some c4 ∧ w.cell? ⟨b, 5, none⟩ = some c5 ∧ w.cell? ⟨b, 6, none⟩ = some c6 ∧ w.cell? ⟨b, 7, none⟩ = some c7 := by
 refine ⟨?_, ?_, ?_, ?_, ?_, ?_, ?_, ?_⟩ <;> (rw [cell_of_row w b _ _ T (0, 0) h]; rfl)
theorem frz {w : World} {b : Nat} {cs : Array Value} {T : TypeId} (h : w.heap[b]? = some (.cells cs T (0, 0))) : w.frozen? ⟨b, 0, none⟩ = false ∧ w.frozen? ⟨b, 1, none⟩ = false ∧ w.frozen? ⟨b, 2, none⟩ = false ∧ w.frozen? ⟨b, 3, none⟩ = false ∧ w.frozen? ⟨b, 4, none⟩ = false ∧ w.frozen? ⟨b, 5, none⟩ = false ∧ w.frozen? ⟨b, 6, none⟩ = false ∧ w.frozen? ⟨b, 7, none⟩ = false := by
 refine ⟨?_, ?_, ?_, ?_, ?_, ?_, ?_, ?_⟩ <;> simp [World.frozen?, h]
theorem put8_heap {W : World} {b : Nat} {c0 c1 c2 c3 c4 c5 c6 c7 a0 a1 a2 a3 a4 a5 a6 a7 : Value} {T : TypeId} (h : W.heap[b]? = some (.cells #[c0, c1, c2, c3, c4, c5, c6, c7] T (0, 0))) : ((((((((W.setCell ⟨b, 0, none⟩ (a0)).setCell ⟨b, 1, none⟩ (a1)).setCell ⟨b, 2, none⟩ (a2)).setCell ⟨b, 3, none⟩ (a3)).setCell ⟨b, 4, none⟩ (a4)).setCell ⟨b, 5, none⟩ (a5)).setCell ⟨b, 6, none⟩ (a6)).setCell ⟨b, 7, none⟩ (a7)).heap[b]? = some (.cells #[a0, a1, a2, a3, a4, a5, a6, a7] T (0, 0)) := by
 have h0 : (W.setCell ⟨b, 0, none⟩ (a0)).heap[b]? = some (.cells #[a0, c1, c2, c3, c4, c5, c6, c7] T (0, 0)) := by rw [heap_set h]; rfl
 have h1 : ((W.setCell ⟨b, 0, none⟩ (a0)).setCell ⟨b, 1, none⟩ (a1)).heap[b]? = some (.cells #[a0, a1, c2, c3, c4, c5, c6, c7] T (0, 0)) := by rw [heap_set h0]; rfl
 have h2 : (((W.setCell ⟨b, 0, none⟩ (a0)).setCell ⟨b, 1, none⟩ (a1)).setCell ⟨b, 2, none⟩ (a2)).heap[b]? = some (.cells #[a0, a1, a2, c3, c4, c5, c6, c7] T (0, 0)) := by rw [heap_set h1]; rfl
 have h3 : ((((W.setCell ⟨b, 0, none⟩ (a0)).setCell ⟨b, 1, none⟩ (a1)).setCell ⟨b, 2, none⟩ (a2)).setCell ⟨b, 3, none⟩ (a3)).heap[b]? = some (.cells #[a0, a1, a2, a3, c4, c5, c6, c7] T (0, 0)) := by rw [heap_set h2]; rfl
 have h4 : (((((W.setCell ⟨b, 0, none⟩ (a0)).setCell ⟨b, 1, none⟩ (a1)).setCell ⟨b, 2, none⟩ (a2)).setCell ⟨b, 3, none⟩ (a3)).setCell ⟨b, 4, none⟩ (a4)).heap[b]? = some (.cells #[a0, a1, a2, a3, a4, c5, c6, c7] T (0, 0)) := by rw [heap_set h3]; rfl
 have h5 : ((((((W.setCell ⟨b, 0, none⟩ (a0)).setCell ⟨b, 1, none⟩ (a1)).setCell ⟨b, 2, none⟩ (a2)).setCell ⟨b, 3, none⟩ (a3)).setCell ⟨b, 4, none⟩ (a4)).setCell ⟨b, 5, none⟩ (a5)).heap[b]? = some (.cells #[a0, a1, a2, a3, a4, a5, c6, c7] T (0, 0)) := by rw [heap_set h4]; rfl
 have h6 : (((((((W.setCell ⟨b, 0, none⟩ (a0)).setCell ⟨b, 1, none⟩ (a1)).setCell ⟨b, 2, none⟩ (a2)).setCell ⟨b, 3, none⟩ (a3)).setCell ⟨b, 4, none⟩ (a4)).setCell ⟨b, 5, none⟩ (a5)).setCell ⟨b, 6, none⟩ (a6)).heap[b]? = some (.cells #[a0, a1, a2, a3, a4, a5, a6, c7] T (0, 0)) := by rw [heap_set h5]; rfl
 have h7 : ((((((((W.setCell ⟨b, 0, none⟩ (a0)).setCell ⟨b, 1, none⟩ (a1)).setCell ⟨b, 2, none⟩ (a2)).setCell ⟨b, 3, none⟩ (a3)).setCell ⟨b, 4, none⟩ (a4)).setCell ⟨b, 5, none⟩ (a5)).setCell ⟨b, 6, none⟩ (a6)).setCell ⟨b, 7, none⟩ (a7)).heap[b]? = some (.cells #[a0, a1, a2, a3, a4, a5, a6, a7] T (0, 0)) := by rw [heap_set h6]; rfl
 exact h7
theorem put8_far {W : World} {b q : Nat} {a0 a1 a2 a3 a4 a5 a6 a7 : Value} {o : Obj} (h : W.heap[b]? = some o) (hne : b ≠ q) : ((((((((W.setCell ⟨q, 0, none⟩ (a0)).setCell ⟨q, 1, none⟩ (a1)).setCell ⟨q, 2, none⟩ (a2)).setCell ⟨q, 3, none⟩ (a3)).setCell ⟨q, 4, none⟩ (a4)).setCell ⟨q, 5, none⟩ (a5)).setCell ⟨q, 6, none⟩ (a6)).setCell ⟨q, 7, none⟩ (a7)).heap[b]? = some o :=
 heap_far (heap_far (heap_far (heap_far (heap_far (heap_far (heap_far (heap_far h hne) hne) hne) hne) hne) hne) hne) hne
theorem put8_below {p : Nat} {w W : World} (h : Below p w W) (b : Nat) (hb : p ≤ b) (a0 a1 a2 a3 a4 a5 a6 a7 : Value) : Below p w ((((((((W.setCell ⟨b, 0, none⟩ (a0)).setCell ⟨b, 1, none⟩ (a1)).setCell ⟨b, 2, none⟩ (a2)).setCell ⟨b, 3, none⟩ (a3)).setCell ⟨b, 4, none⟩ (a4)).setCell ⟨b, 5, none⟩ (a5)).setCell ⟨b, 6, none⟩ (a6)).setCell ⟨b, 7, none⟩ (a7)) :=
 (((((((h.setCell (p := ⟨b, 0, none⟩) hb a0).setCell (p := ⟨b, 1, none⟩) hb a1).setCell (p := ⟨b, 2, none⟩) hb a2).setCell (p := ⟨b, 3, none⟩) hb a3).setCell (p := ⟨b, 4, none⟩) hb a4).setCell (p := ⟨b, 5, none⟩) hb a5).setCell (p := ⟨b, 6, none⟩) hb a6).setCell (p := ⟨b, 7, none⟩) hb a7
set_option maxHeartbeats 1000000 in
theorem member_any (o : Ot) (w : World) (h1 : 0 ≤ o.de) (h2 : o.de ≤ 10000000000000) (h3 : 0 ≤ o.cp) (h4 : o.cp ≤ 10000000000000) (h5 : 0 ≤ o.cn) (h6 : o.cn ≤ 10000000000000) :
  Calls Tryz.prog 138 #[.agg #[.int .i64 o.al, .int .i64 o.de, .int .i64 o.cp, .int .i64 o.cn, .int .i64 o.plan, .int .i64 o.wr, .int .i64 o.pr, .int .i64 o.deny]] w fun e w' => e = .returned (.int .i64 (member o)) ∧ Below w.heap.size w w' := by
 have HB := Lib.hid (below_alloc w (.cells #[.int .i64 o.al, .int .i64 o.de, .int .i64 o.cp, .int .i64 o.cn, .int .i64 o.plan, .int .i64 o.wr, .int .i64 o.pr, .int .i64 o.deny] 48))
 have HX := Lib.hid (alloc_new w #[.int .i64 o.al, .int .i64 o.de, .int .i64 o.cp, .int .i64 o.cn, .int .i64 o.plan, .int .i64 o.wr, .int .i64 o.pr, .int .i64 o.deny] 48)
 rw [show member o = o.de + o.cp + o.cn from rfl]
 go_enter Tryz.func138, Tryz.ntmps138
 go_upto_region 1 with fail
 generalize w.alloc (.cells #[.int .i64 o.al, .int .i64 o.de, .int .i64 o.cp, .int .i64 o.cn, .int .i64 o.plan, .int .i64 o.wr, .int .i64 o.pr, .int .i64 o.deny] 48) = W at *
 generalize hp : w.heap.size = p at *
 obtain ⟨b0, b1, b2, b3, b4, b5, b6, b7⟩ := eight HX.out
 go_wp2
 go_ret
 exact ⟨rfl, by first | exact HB.out | (rw [hp]; exact HB.out)⟩
set_option maxHeartbeats 1000000 in
theorem ref_no (bi pr why : Int) (w : World) (hy : (why == 0) = true) :
  Calls Tryz.prog 85 #[.int .i64 bi, .int .i64 pr, .int .i64 why] w fun e w' => e = .returned (.tuple #[.agg #[.int .i64 0, .int .i64 0, .int .i64 0, .int .i64 0, .int .i64 0, .int .i64 0, .int .i64 0, .int .i64 0], .int .i64 1]) ∧ Below w.heap.size w w' := by
 have HB := Lib.hid (below_alloc w (.cells #[.int .i64 0, .int .i64 0, .int .i64 0, .int .i64 0, .int .i64 0, .int .i64 0, .int .i64 0, .int .i64 0] 48))
 have HX := Lib.hid (alloc_new w #[.int .i64 0, .int .i64 0, .int .i64 0, .int .i64 0, .int .i64 0, .int .i64 0, .int .i64 0, .int .i64 0] 48)
 go_enter Tryz.func85, Tryz.ntmps85
 go_upto_region 1 with fail
 generalize w.alloc (.cells #[.int .i64 0, .int .i64 0, .int .i64 0, .int .i64 0, .int .i64 0, .int .i64 0, .int .i64 0, .int .i64 0] 48) = W at *
 generalize hp : w.heap.size = p at *
 obtain ⟨b0, b1, b2, b3, b4, b5, b6, b7⟩ := eight HX.out
 obtain ⟨f0, f1, f2, f3, f4, f5, f6, f7⟩ := frz HX.out
 go_wp2
 clear b0 b1 b2 b3 b4 b5 b6 b7 f0 f1 f2 f3 f4 f5 f6 f7
 have HXF : Hid (((((((((W.setCell ⟨p, 0, none⟩ (.int .i64 0)).setCell ⟨p, 1, none⟩ (.int .i64 0)).setCell ⟨p, 2, none⟩ (.int .i64 0)).setCell ⟨p, 3, none⟩ (.int .i64 0)).setCell ⟨p, 4, none⟩ (.int .i64 0)).setCell ⟨p, 5, none⟩ (.int .i64 0)).setCell ⟨p, 6, none⟩ (.int .i64 0)).setCell ⟨p, 7, none⟩ (.int .i64 0)).heap[p]? = some (.cells #[.int .i64 0, .int .i64 0, .int .i64 0, .int .i64 0, .int .i64 0, .int .i64 0, .int .i64 0, .int .i64 0] 48 (0, 0))) := put8_heap HX.out
 have HBF : Hid (Below p w ((((((((W.setCell ⟨p, 0, none⟩ (.int .i64 0)).setCell ⟨p, 1, none⟩ (.int .i64 0)).setCell ⟨p, 2, none⟩ (.int .i64 0)).setCell ⟨p, 3, none⟩ (.int .i64 0)).setCell ⟨p, 4, none⟩ (.int .i64 0)).setCell ⟨p, 5, none⟩ (.int .i64 0)).setCell ⟨p, 6, none⟩ (.int .i64 0)).setCell ⟨p, 7, none⟩ (.int .i64 0))) := put8_below HB.out p (Nat.le_refl _) _ _ _ _ _ _ _ _
 generalize ((((((((W.setCell ⟨p, 0, none⟩ (.int .i64 0)).setCell ⟨p, 1, none⟩ (.int .i64 0)).setCell ⟨p, 2, none⟩ (.int .i64 0)).setCell ⟨p, 3, none⟩ (.int .i64 0)).setCell ⟨p, 4, none⟩ (.int .i64 0)).setCell ⟨p, 5, none⟩ (.int .i64 0)).setCell ⟨p, 6, none⟩ (.int .i64 0)).setCell ⟨p, 7, none⟩ (.int .i64 0)) = WF at *
 obtain ⟨b0, b1, b2, b3, b4, b5, b6, b7⟩ := eight HXF.out
 refine bodyPost_ret (v := .tuple #[.agg #[.int .i64 0, .int .i64 0, .int .i64 0, .int .i64 0, .int .i64 0, .int .i64 0, .int .i64 0, .int .i64 0], .int .i64 1]) (by simp [results, Tryz.results85, go_sem, b0, b1, b2, b3, b4, b5, b6, b7]) rfl ?_
 exact ⟨rfl, by first | exact HBF.out | (rw [hp]; exact HBF.out)⟩
set_option maxHeartbeats 1000000 in
theorem ref_e (bi pr why : Int) (w : World) (E : Int) (hE : (E != 0) = true) (hy : (why == 0) = false) (HS : Hid (∀ w : World, Calls Tryz.prog 125 #[.int .i64 bi, .int .i64 pr] w fun e w' => e = .returned (.tuple #[.int .i64 0, .int .i64 E]) ∧ w' = w)) :
  Calls Tryz.prog 85 #[.int .i64 bi, .int .i64 pr, .int .i64 why] w fun e w' => e = .returned (.tuple #[.agg #[.int .i64 0, .int .i64 0, .int .i64 0, .int .i64 0, .int .i64 0, .int .i64 0, .int .i64 0, .int .i64 0], .int .i64 E]) ∧ Below w.heap.size w w' := by
 have HB := Lib.hid (below_alloc w (.cells #[.int .i64 0, .int .i64 0, .int .i64 0, .int .i64 0, .int .i64 0, .int .i64 0, .int .i64 0, .int .i64 0] 48))
 have HX := Lib.hid (alloc_new w #[.int .i64 0, .int .i64 0, .int .i64 0, .int .i64 0, .int .i64 0, .int .i64 0, .int .i64 0, .int .i64 0] 48)
 go_enter Tryz.func85, Tryz.ntmps85
 go_upto_region 1 with fail
 generalize w.alloc (.cells #[.int .i64 0, .int .i64 0, .int .i64 0, .int .i64 0, .int .i64 0, .int .i64 0, .int .i64 0, .int .i64 0] 48) = W at *
 generalize hp : w.heap.size = p at *
 obtain ⟨b0, b1, b2, b3, b4, b5, b6, b7⟩ := eight HX.out
 obtain ⟨f0, f1, f2, f3, f4, f5, f6, f7⟩ := frz HX.out
 go_wp2_with (go_at_call 125; refine (HS.out _).mono ?_; rintro e w' ⟨rfl, hw⟩; rw [hw]; clear hw w')
 clear b0 b1 b2 b3 b4 b5 b6 b7 f0 f1 f2 f3 f4 f5 f6 f7
 have HXF : Hid (((((((((W.setCell ⟨p, 0, none⟩ (.int .i64 0)).setCell ⟨p, 1, none⟩ (.int .i64 0)).setCell ⟨p, 2, none⟩ (.int .i64 0)).setCell ⟨p, 3, none⟩ (.int .i64 0)).setCell ⟨p, 4, none⟩ (.int .i64 0)).setCell ⟨p, 5, none⟩ (.int .i64 0)).setCell ⟨p, 6, none⟩ (.int .i64 0)).setCell ⟨p, 7, none⟩ (.int .i64 0)).heap[p]? = some (.cells #[.int .i64 0, .int .i64 0, .int .i64 0, .int .i64 0, .int .i64 0, .int .i64 0, .int .i64 0, .int .i64 0] 48 (0, 0))) := put8_heap HX.out
 have HBF : Hid (Below p w ((((((((W.setCell ⟨p, 0, none⟩ (.int .i64 0)).setCell ⟨p, 1, none⟩ (.int .i64 0)).setCell ⟨p, 2, none⟩ (.int .i64 0)).setCell ⟨p, 3, none⟩ (.int .i64 0)).setCell ⟨p, 4, none⟩ (.int .i64 0)).setCell ⟨p, 5, none⟩ (.int .i64 0)).setCell ⟨p, 6, none⟩ (.int .i64 0)).setCell ⟨p, 7, none⟩ (.int .i64 0))) := put8_below HB.out p (Nat.le_refl _) _ _ _ _ _ _ _ _
 generalize ((((((((W.setCell ⟨p, 0, none⟩ (.int .i64 0)).setCell ⟨p, 1, none⟩ (.int .i64 0)).setCell ⟨p, 2, none⟩ (.int .i64 0)).setCell ⟨p, 3, none⟩ (.int .i64 0)).setCell ⟨p, 4, none⟩ (.int .i64 0)).setCell ⟨p, 5, none⟩ (.int .i64 0)).setCell ⟨p, 6, none⟩ (.int .i64 0)).setCell ⟨p, 7, none⟩ (.int .i64 0)) = WF at *
 obtain ⟨b0, b1, b2, b3, b4, b5, b6, b7⟩ := eight HXF.out
 refine bodyPost_ret (v := .tuple #[.agg #[.int .i64 0, .int .i64 0, .int .i64 0, .int .i64 0, .int .i64 0, .int .i64 0, .int .i64 0, .int .i64 0], .int .i64 E]) (by simp [results, Tryz.results85, go_sem, b0, b1, b2, b3, b4, b5, b6, b7]) rfl ?_
 exact ⟨rfl, by first | exact HBF.out | (rw [hp]; exact HBF.out)⟩
set_option maxHeartbeats 1000000 in
theorem ref_ok (bi pr why : Int) (w : World) (hy : (why == 0) = false) (HS : Hid (∀ w : World, Calls Tryz.prog 125 #[.int .i64 bi, .int .i64 pr] w fun e w' => e = .returned (.tuple #[.int .i64 (bi - pr), .int .i64 0]) ∧ w' = w)) :
  Calls Tryz.prog 85 #[.int .i64 bi, .int .i64 pr, .int .i64 why] w fun e w' => e = .returned (.tuple #[.agg #[.int .i64 0, .int .i64 0, .int .i64 0, .int .i64 0, .int .i64 0, .int .i64 (bi - pr), .int .i64 pr, .int .i64 why], .int .i64 0]) ∧ Below w.heap.size w w' := by
 have HB := Lib.hid (below_alloc w (.cells #[.int .i64 0, .int .i64 0, .int .i64 0, .int .i64 0, .int .i64 0, .int .i64 0, .int .i64 0, .int .i64 0] 48))
 have HX := Lib.hid (alloc_new w #[.int .i64 0, .int .i64 0, .int .i64 0, .int .i64 0, .int .i64 0, .int .i64 0, .int .i64 0, .int .i64 0] 48)
 go_enter Tryz.func85, Tryz.ntmps85
 go_upto_region 1 with fail
 generalize w.alloc (.cells #[.int .i64 0, .int .i64 0, .int .i64 0, .int .i64 0, .int .i64 0, .int .i64 0, .int .i64 0, .int .i64 0] 48) = W at *
 generalize hp : w.heap.size = p at *
 obtain ⟨b0, b1, b2, b3, b4, b5, b6, b7⟩ := eight HX.out
 obtain ⟨f0, f1, f2, f3, f4, f5, f6, f7⟩ := frz HX.out
 go_wp2_with (go_at_call 125; refine (HS.out _).mono ?_; rintro e w' ⟨rfl, hw⟩; rw [hw]; clear hw w')
 clear b0 b1 b2 b3 b4 b5 b6 b7 f0 f1 f2 f3 f4 f5 f6 f7
 have HXF : Hid (((((((((W.setCell ⟨p, 0, none⟩ (.int .i64 0)).setCell ⟨p, 1, none⟩ (.int .i64 0)).setCell ⟨p, 2, none⟩ (.int .i64 0)).setCell ⟨p, 3, none⟩ (.int .i64 0)).setCell ⟨p, 4, none⟩ (.int .i64 0)).setCell ⟨p, 5, none⟩ (.int .i64 (bi - pr))).setCell ⟨p, 6, none⟩ (.int .i64 pr)).setCell ⟨p, 7, none⟩ (.int .i64 why)).heap[p]? = some (.cells #[.int .i64 0, .int .i64 0, .int .i64 0, .int .i64 0, .int .i64 0, .int .i64 (bi - pr), .int .i64 pr, .int .i64 why] 48 (0, 0))) := put8_heap HX.out
 have HBF : Hid (Below p w ((((((((W.setCell ⟨p, 0, none⟩ (.int .i64 0)).setCell ⟨p, 1, none⟩ (.int .i64 0)).setCell ⟨p, 2, none⟩ (.int .i64 0)).setCell ⟨p, 3, none⟩ (.int .i64 0)).setCell ⟨p, 4, none⟩ (.int .i64 0)).setCell ⟨p, 5, none⟩ (.int .i64 (bi - pr))).setCell ⟨p, 6, none⟩ (.int .i64 pr)).setCell ⟨p, 7, none⟩ (.int .i64 why))) := put8_below HB.out p (Nat.le_refl _) _ _ _ _ _ _ _ _
 generalize ((((((((W.setCell ⟨p, 0, none⟩ (.int .i64 0)).setCell ⟨p, 1, none⟩ (.int .i64 0)).setCell ⟨p, 2, none⟩ (.int .i64 0)).setCell ⟨p, 3, none⟩ (.int .i64 0)).setCell ⟨p, 4, none⟩ (.int .i64 0)).setCell ⟨p, 5, none⟩ (.int .i64 (bi - pr))).setCell ⟨p, 6, none⟩ (.int .i64 pr)).setCell ⟨p, 7, none⟩ (.int .i64 why)) = WF at *
 obtain ⟨b0, b1, b2, b3, b4, b5, b6, b7⟩ := eight HXF.out
 refine bodyPost_ret (v := .tuple #[.agg #[.int .i64 0, .int .i64 0, .int .i64 0, .int .i64 0, .int .i64 0, .int .i64 (bi - pr), .int .i64 pr, .int .i64 why], .int .i64 0]) (by simp [results, Tryz.results85, go_sem, b0, b1, b2, b3, b4, b5, b6, b7]) rfl ?_
 exact ⟨rfl, by first | exact HBF.out | (rw [hp]; exact HBF.out)⟩
theorem refuse_any (bi pr why : Int) (w : World) :
  Calls Tryz.prog 85 #[.int .i64 bi, .int .i64 pr, .int .i64 why] w fun e w' => e = .returned (.tuple #[.agg #[.int .i64 (refV bi pr why).al, .int .i64 (refV bi pr why).de, .int .i64 (refV bi pr why).cp, .int .i64 (refV bi pr why).cn, .int .i64 (refV bi pr why).plan, .int .i64 (refV bi pr why).wr, .int .i64 (refV bi pr why).pr, .int .i64 (refV bi pr why).deny], .int .i64 (refE bi pr why)]) ∧ Below w.heap.size w w' := by
 have hZ (E : Int) (h : refE bi pr why = E) (hE : E ≠ 0) : refV bi pr why = ot0 := by unfold refV; rw [h, if_neg hE]
 by_cases hy : why = 0
 ·have e : refE bi pr why = 1 := by unfold refE; rw [if_neg (by simp [hy])]
  rw [hZ 1 e (by decide), e]
  exact ref_no bi pr why w (by simpa using hy)
 have hy' : (why == 0) = false := by simpa using hy
 have hS (v E : Int) (h1 : Ce.subV bi pr = v) (h2 : Ce.subE bi pr = E) : Hid (∀ w : World, Calls Tryz.prog 125 #[.int .i64 bi, .int .i64 pr] w fun e w' => e = .returned (.tuple #[.int .i64 v, .int .i64 E]) ∧ w' = w) := fun w => by
  rw [← h1, ← h2]
  exact Ce.sub_any bi pr w
 by_cases hg : Ce.good bi = true ∧ Ce.good pr = true
 ·by_cases hl : pr ≤ bi
  ·have e : refE bi pr why = 0 := by unfold refE; rw [if_pos ⟨hy, hg⟩, if_pos hl]
   have ev : refV bi pr why = ⟨0, 0, 0, 0, 0, bi - pr, pr, why⟩ := by unfold refV; rw [if_pos e]
   rw [ev, e]
   exact ref_ok bi pr why w hy' (hS _ _ (by unfold Ce.subV; rw [if_pos ⟨hg.1, hg.2, hl⟩]) (by unfold Ce.subE; rw [if_pos hg, if_pos hl]))
  ·have e : refE bi pr why = 3 := by unfold refE; rw [if_pos ⟨hy, hg⟩, if_neg hl]
   rw [hZ 3 e (by decide), e]
   exact ref_e bi pr why w 3 rfl hy' (hS _ _ (by unfold Ce.subV; rw [if_neg (fun h => hl h.2.2)]) (by unfold Ce.subE; rw [if_pos hg, if_neg hl]))
 ·have e : refE bi pr why = 1 := by unfold refE; rw [if_neg (fun h => hg h.2)]
  rw [hZ 1 e (by decide), e]
  exact ref_e bi pr why w 1 rfl hy' (hS _ _ (by unfold Ce.subV; rw [if_neg (fun h => hg ⟨h.1, h.2.1⟩)]) (by unfold Ce.subE; rw [if_neg hg]))
theorem bal_yes (bi : Int) (o : Ot) (w : World) (h : balB bi o = true) (h1 : bi ≤ 10000000000000) :
  Calls Tryz.prog 17 #[.int .i64 bi, .agg #[.int .i64 o.al, .int .i64 o.de, .int .i64 o.cp, .int .i64 o.cn, .int .i64 o.plan, .int .i64 o.wr, .int .i64 o.pr, .int .i64 o.deny]] w fun e w' => e = .returned (.bool true) ∧ Below w.heap.size w w' := by
 simp only [balB, Bool.and_eq_true, decide_eq_true_eq] at h
 obtain ⟨⟨p0, p1, p2, p3, p4, p5⟩, q0, q1, q2⟩ := h
 have r0 : o.plan ≤ 10000000000000 := by omega
 have r1 : o.wr ≤ 10000000000000 := by omega
 have r2 : o.pr ≤ 10000000000000 := by omega
 have r3 : o.de ≤ 10000000000000 := by omega
 have r4 : o.cp ≤ 10000000000000 := by omega
 have r5 : o.cn ≤ 10000000000000 := by omega
 have q0' : (o.plan + o.wr + o.pr + o.de + o.cp + o.cn == bi) = true := by simpa using q0
 clear q0
 have HB := Lib.hid (below_alloc w (.cells #[.int .i64 o.al, .int .i64 o.de, .int .i64 o.cp, .int .i64 o.cn, .int .i64 o.plan, .int .i64 o.wr, .int .i64 o.pr, .int .i64 o.deny] 48))
 have HX := Lib.hid (alloc_new w #[.int .i64 o.al, .int .i64 o.de, .int .i64 o.cp, .int .i64 o.cn, .int .i64 o.plan, .int .i64 o.wr, .int .i64 o.pr, .int .i64 o.deny] 48)
 go_enter Tryz.func17, Tryz.ntmps17
 go_upto_region 1 with fail
 generalize w.alloc (.cells #[.int .i64 o.al, .int .i64 o.de, .int .i64 o.cp, .int .i64 o.cn, .int .i64 o.plan, .int .i64 o.wr, .int .i64 o.pr, .int .i64 o.deny] 48) = W at *
 generalize hp : w.heap.size = p at *
 obtain ⟨b0, b1, b2, b3, b4, b5, b6, b7⟩ := eight HX.out
 go_wp2
 go_ret
 exact ⟨rfl, by first | exact HB.out | (rw [hp]; exact HB.out)⟩
end Go.Proofs.YtfoooldkmokjpaaGreatDoor.Sh
end
