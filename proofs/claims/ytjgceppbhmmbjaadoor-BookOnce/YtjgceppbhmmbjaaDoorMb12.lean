/-
  Texts put together (merge.py): BFresh, BOne.
-/
import Derived.Test.YtjgceppbhmmbjaaDoorMb10
import Derived.Test.YtjgceppbhmmbjaaDoorMb11
/-
  What fresh answers, as a contract: the same entry, with rows in new memory.
-/
section
set_option linter.unusedSimpArgs false
set_option linter.unusedVariables false
set_option maxRecDepth 100000
namespace Go.Proofs.YtjgceppbhmmbjaaDoor.Bk
open Go.RowKit
open Cm (Ln Cl cl0 LnsAt ClCells lnv clv LnOk ClOk boxc)
open Sh (Ot)

/-- What Copy asks of a claim. -/
def Fit (c : Cl) : Prop := c.lines.length ≤ 1000000 ∧ ∀ x ∈ c.lines, x.mods.length ≤ 1000000
def FitE (x : En) : Prop := Fit x.cl ∧ x.outs.length ≤ 1000000
theorem copy_new {B : Nat} {w : World} {v : Value} {c : Cl} (h : Cm.NewLns B w v c.lines) (hf : Fit c) : LnsAt (fun b => B ≤ b) w v c.lines := h.at (by have := hf.1; unfold maxLen; omega) (fun x hx => by have := hf.2 x hx; unfold maxLen; omega)
theorem frzn {W : World} {b : Nat} {cs : Array Value} {T : TypeId} (h : W.heap[b]? = some (.cells cs T (0, 0))) (i : Nat) : W.frozen? ⟨b, i, none⟩ = false := Lib.frozen_of_heap h i
theorem p7_heap {W : World} {b : Nat} {a0 a1 a2 a3 a4 a5 a6 a7 a8 a9 : Value} {T : TypeId} (h : W.heap[b]? = some (.cells #[a0, a1, a2, a3, a4, a5, a6, a7, a8, a9] T (0, 0))) (b0 b1 b2 b3 b4 b5 b6 : Value) : (((((((W.setCell ⟨b, 0, none⟩ b0).setCell ⟨b, 1, none⟩ b1).setCell ⟨b, 2, none⟩ b2).setCell ⟨b, 3, none⟩ b3).setCell ⟨b, 4, none⟩ b4).setCell ⟨b, 5, none⟩ b5).setCell ⟨b, 6, none⟩ b6).heap[b]? = some (.cells #[b0, b1, b2, b3, b4, b5, b6, a7, a8, a9] T (0, 0)) := by
  have h0 : (W.setCell ⟨b, 0, none⟩ b0).heap[b]? = some (.cells #[b0, a1, a2, a3, a4, a5, a6, a7, a8, a9] T (0, 0)) := heap_setCell_same _ b 0 _ _ _ h
  have h1 : ((W.setCell ⟨b, 0, none⟩ b0).setCell ⟨b, 1, none⟩ b1).heap[b]? = some (.cells #[b0, b1, a2, a3, a4, a5, a6, a7, a8, a9] T (0, 0)) := heap_setCell_same _ b 1 _ _ _ h0
  have h2 : (((W.setCell ⟨b, 0, none⟩ b0).setCell ⟨b, 1, none⟩ b1).setCell ⟨b, 2, none⟩ b2).heap[b]? = some (.cells #[b0, b1, b2, a3, a4, a5, a6, a7, a8, a9] T (0, 0)) := heap_setCell_same _ b 2 _ _ _ h1
  have h3 : ((((W.setCell ⟨b, 0, none⟩ b0).setCell ⟨b, 1, none⟩ b1).setCell ⟨b, 2, none⟩ b2).setCell ⟨b, 3, none⟩ b3).heap[b]? = some (.cells #[b0, b1, b2, b3, a4, a5, a6, a7, a8, a9] T (0, 0)) := heap_setCell_same _ b 3 _ _ _ h2
  have h4 : (((((W.setCell ⟨b, 0, none⟩ b0).setCell ⟨b, 1, none⟩ b1).setCell ⟨b, 2, none⟩ b2).setCell ⟨b, 3, none⟩ b3).setCell ⟨b, 4, none⟩ b4).heap[b]? = some (.cells #[b0, b1, b2, b3, b4, a5, a6, a7, a8, a9] T (0, 0)) := heap_setCell_same _ b 4 _ _ _ h3
  have h5 : ((((((W.setCell ⟨b, 0, none⟩ b0).setCell ⟨b, 1, none⟩ b1).setCell ⟨b, 2, none⟩ b2).setCell ⟨b, 3, none⟩ b3).setCell ⟨b, 4, none⟩ b4).setCell ⟨b, 5, none⟩ b5).heap[b]? = some (.cells #[b0, b1, b2, b3, b4, b5, a6, a7, a8, a9] T (0, 0)) := heap_setCell_same _ b 5 _ _ _ h4
  have h6 : (((((((W.setCell ⟨b, 0, none⟩ b0).setCell ⟨b, 1, none⟩ b1).setCell ⟨b, 2, none⟩ b2).setCell ⟨b, 3, none⟩ b3).setCell ⟨b, 4, none⟩ b4).setCell ⟨b, 5, none⟩ b5).setCell ⟨b, 6, none⟩ b6).heap[b]? = some (.cells #[b0, b1, b2, b3, b4, b5, b6, a7, a8, a9] T (0, 0)) := heap_setCell_same _ b 6 _ _ _ h5
  exact h6
theorem p7_far {W : World} {a q : Nat} {o : Obj} (h : W.heap[a]? = some o) (hne : a ≠ q) (b0 b1 b2 b3 b4 b5 b6 : Value) : (((((((W.setCell ⟨q, 0, none⟩ b0).setCell ⟨q, 1, none⟩ b1).setCell ⟨q, 2, none⟩ b2).setCell ⟨q, 3, none⟩ b3).setCell ⟨q, 4, none⟩ b4).setCell ⟨q, 5, none⟩ b5).setCell ⟨q, 6, none⟩ b6).heap[a]? = some o := heap_far (heap_far (heap_far (heap_far (heap_far (heap_far (heap_far h hne) hne) hne) hne) hne) hne) hne
theorem p7_below {B : Nat} {w W : World} (h : Below B w W) (b : Nat) (hb : B ≤ b) (b0 b1 b2 b3 b4 b5 b6 : Value) : Below B w (((((((W.setCell ⟨b, 0, none⟩ b0).setCell ⟨b, 1, none⟩ b1).setCell ⟨b, 2, none⟩ b2).setCell ⟨b, 3, none⟩ b3).setCell ⟨b, 4, none⟩ b4).setCell ⟨b, 5, none⟩ b5).setCell ⟨b, 6, none⟩ b6) := (((((((h.setCell (p := ⟨b, 0, none⟩) hb _).setCell (p := ⟨b, 1, none⟩) hb _).setCell (p := ⟨b, 2, none⟩) hb _).setCell (p := ⟨b, 3, none⟩) hb _).setCell (p := ⟨b, 4, none⟩) hb _).setCell (p := ⟨b, 5, none⟩) hb _).setCell (p := ⟨b, 6, none⟩) hb _)
theorem p7_keep {W : World} {k q : Nat} (hne : k ≠ q) (b0 b1 b2 b3 b4 b5 b6 : Value) : (((((((W.setCell ⟨q, 0, none⟩ b0).setCell ⟨q, 1, none⟩ b1).setCell ⟨q, 2, none⟩ b2).setCell ⟨q, 3, none⟩ b3).setCell ⟨q, 4, none⟩ b4).setCell ⟨q, 5, none⟩ b5).setCell ⟨q, 6, none⟩ b6).heap[k]? = W.heap[k]? := by
  repeat rw [Below.heap_setCell _ _ _ _ hne]
theorem p10_heap {W : World} {b : Nat} {a0 a1 a2 a3 a4 a5 a6 a7 a8 a9 : Value} {T : TypeId} (h : W.heap[b]? = some (.cells #[a0, a1, a2, a3, a4, a5, a6, a7, a8, a9] T (0, 0))) (b0 b1 b2 b3 b4 b5 b6 b7 b8 b9 : Value) : ((((((((((W.setCell ⟨b, 0, none⟩ b0).setCell ⟨b, 1, none⟩ b1).setCell ⟨b, 2, none⟩ b2).setCell ⟨b, 3, none⟩ b3).setCell ⟨b, 4, none⟩ b4).setCell ⟨b, 5, none⟩ b5).setCell ⟨b, 6, none⟩ b6).setCell ⟨b, 7, none⟩ b7).setCell ⟨b, 8, none⟩ b8).setCell ⟨b, 9, none⟩ b9).heap[b]? = some (.cells #[b0, b1, b2, b3, b4, b5, b6, b7, b8, b9] T (0, 0)) := by
  have h0 : (W.setCell ⟨b, 0, none⟩ b0).heap[b]? = some (.cells #[b0, a1, a2, a3, a4, a5, a6, a7, a8, a9] T (0, 0)) := heap_setCell_same _ b 0 _ _ _ h
  have h1 : ((W.setCell ⟨b, 0, none⟩ b0).setCell ⟨b, 1, none⟩ b1).heap[b]? = some (.cells #[b0, b1, a2, a3, a4, a5, a6, a7, a8, a9] T (0, 0)) := heap_setCell_same _ b 1 _ _ _ h0
  have h2 : (((W.setCell ⟨b, 0, none⟩ b0).setCell ⟨b, 1, none⟩ b1).setCell ⟨b, 2, none⟩ b2).heap[b]? = some (.cells #[b0, b1, b2, a3, a4, a5, a6, a7, a8, a9] T (0, 0)) := heap_setCell_same _ b 2 _ _ _ h1
  have h3 : ((((W.setCell ⟨b, 0, none⟩ b0).setCell ⟨b, 1, none⟩ b1).setCell ⟨b, 2, none⟩ b2).setCell ⟨b, 3, none⟩ b3).heap[b]? = some (.cells #[b0, b1, b2, b3, a4, a5, a6, a7, a8, a9] T (0, 0)) := heap_setCell_same _ b 3 _ _ _ h2
  have h4 : (((((W.setCell ⟨b, 0, none⟩ b0).setCell ⟨b, 1, none⟩ b1).setCell ⟨b, 2, none⟩ b2).setCell ⟨b, 3, none⟩ b3).setCell ⟨b, 4, none⟩ b4).heap[b]? = some (.cells #[b0, b1, b2, b3, b4, a5, a6, a7, a8, a9] T (0, 0)) := heap_setCell_same _ b 4 _ _ _ h3
  have h5 : ((((((W.setCell ⟨b, 0, none⟩ b0).setCell ⟨b, 1, none⟩ b1).setCell ⟨b, 2, none⟩ b2).setCell ⟨b, 3, none⟩ b3).setCell ⟨b, 4, none⟩ b4).setCell ⟨b, 5, none⟩ b5).heap[b]? = some (.cells #[b0, b1, b2, b3, b4, b5, a6, a7, a8, a9] T (0, 0)) := heap_setCell_same _ b 5 _ _ _ h4
  have h6 : (((((((W.setCell ⟨b, 0, none⟩ b0).setCell ⟨b, 1, none⟩ b1).setCell ⟨b, 2, none⟩ b2).setCell ⟨b, 3, none⟩ b3).setCell ⟨b, 4, none⟩ b4).setCell ⟨b, 5, none⟩ b5).setCell ⟨b, 6, none⟩ b6).heap[b]? = some (.cells #[b0, b1, b2, b3, b4, b5, b6, a7, a8, a9] T (0, 0)) := heap_setCell_same _ b 6 _ _ _ h5
  have h7 : ((((((((W.setCell ⟨b, 0, none⟩ b0).setCell ⟨b, 1, none⟩ b1).setCell ⟨b, 2, none⟩ b2).setCell ⟨b, 3, none⟩ b3).setCell ⟨b, 4, none⟩ b4).setCell ⟨b, 5, none⟩ b5).setCell ⟨b, 6, none⟩ b6).setCell ⟨b, 7, none⟩ b7).heap[b]? = some (.cells #[b0, b1, b2, b3, b4, b5, b6, b7, a8, a9] T (0, 0)) := heap_setCell_same _ b 7 _ _ _ h6
  have h8 : (((((((((W.setCell ⟨b, 0, none⟩ b0).setCell ⟨b, 1, none⟩ b1).setCell ⟨b, 2, none⟩ b2).setCell ⟨b, 3, none⟩ b3).setCell ⟨b, 4, none⟩ b4).setCell ⟨b, 5, none⟩ b5).setCell ⟨b, 6, none⟩ b6).setCell ⟨b, 7, none⟩ b7).setCell ⟨b, 8, none⟩ b8).heap[b]? = some (.cells #[b0, b1, b2, b3, b4, b5, b6, b7, b8, a9] T (0, 0)) := heap_setCell_same _ b 8 _ _ _ h7
  have h9 : ((((((((((W.setCell ⟨b, 0, none⟩ b0).setCell ⟨b, 1, none⟩ b1).setCell ⟨b, 2, none⟩ b2).setCell ⟨b, 3, none⟩ b3).setCell ⟨b, 4, none⟩ b4).setCell ⟨b, 5, none⟩ b5).setCell ⟨b, 6, none⟩ b6).setCell ⟨b, 7, none⟩ b7).setCell ⟨b, 8, none⟩ b8).setCell ⟨b, 9, none⟩ b9).heap[b]? = some (.cells #[b0, b1, b2, b3, b4, b5, b6, b7, b8, b9] T (0, 0)) := heap_setCell_same _ b 9 _ _ _ h8
  exact h9
theorem p10_far {W : World} {a q : Nat} {o : Obj} (h : W.heap[a]? = some o) (hne : a ≠ q) (b0 b1 b2 b3 b4 b5 b6 b7 b8 b9 : Value) : ((((((((((W.setCell ⟨q, 0, none⟩ b0).setCell ⟨q, 1, none⟩ b1).setCell ⟨q, 2, none⟩ b2).setCell ⟨q, 3, none⟩ b3).setCell ⟨q, 4, none⟩ b4).setCell ⟨q, 5, none⟩ b5).setCell ⟨q, 6, none⟩ b6).setCell ⟨q, 7, none⟩ b7).setCell ⟨q, 8, none⟩ b8).setCell ⟨q, 9, none⟩ b9).heap[a]? = some o := heap_far (heap_far (heap_far (heap_far (heap_far (heap_far (heap_far (heap_far (heap_far (heap_far h hne) hne) hne) hne) hne) hne) hne) hne) hne) hne
theorem p10_below {B : Nat} {w W : World} (h : Below B w W) (b : Nat) (hb : B ≤ b) (b0 b1 b2 b3 b4 b5 b6 b7 b8 b9 : Value) : Below B w ((((((((((W.setCell ⟨b, 0, none⟩ b0).setCell ⟨b, 1, none⟩ b1).setCell ⟨b, 2, none⟩ b2).setCell ⟨b, 3, none⟩ b3).setCell ⟨b, 4, none⟩ b4).setCell ⟨b, 5, none⟩ b5).setCell ⟨b, 6, none⟩ b6).setCell ⟨b, 7, none⟩ b7).setCell ⟨b, 8, none⟩ b8).setCell ⟨b, 9, none⟩ b9) := ((((((((((h.setCell (p := ⟨b, 0, none⟩) hb _).setCell (p := ⟨b, 1, none⟩) hb _).setCell (p := ⟨b, 2, none⟩) hb _).setCell (p := ⟨b, 3, none⟩) hb _).setCell (p := ⟨b, 4, none⟩) hb _).setCell (p := ⟨b, 5, none⟩) hb _).setCell (p := ⟨b, 6, none⟩) hb _).setCell (p := ⟨b, 7, none⟩) hb _).setCell (p := ⟨b, 8, none⟩) hb _).setCell (p := ⟨b, 9, none⟩) hb _)
theorem p10_keep {W : World} {k q : Nat} (hne : k ≠ q) (b0 b1 b2 b3 b4 b5 b6 b7 b8 b9 : Value) : ((((((((((W.setCell ⟨q, 0, none⟩ b0).setCell ⟨q, 1, none⟩ b1).setCell ⟨q, 2, none⟩ b2).setCell ⟨q, 3, none⟩ b3).setCell ⟨q, 4, none⟩ b4).setCell ⟨q, 5, none⟩ b5).setCell ⟨q, 6, none⟩ b6).setCell ⟨q, 7, none⟩ b7).setCell ⟨q, 8, none⟩ b8).setCell ⟨q, 9, none⟩ b9).heap[k]? = W.heap[k]? := by
  repeat rw [Below.heap_setCell _ _ _ _ hne]

abbrev zeroe : Array Value := #[.string { data := #[] }, .string { data := #[] }, .string { data := #[] }, .int .i64 0, .int .i64 0, .string { data := #[] }, .slice none 0 0, .int .i64 0, .int .i64 0, .slice none 0 0]
set_option maxHeartbeats 4000000 in
theorem fresh_any (x : En) (m mo : Value) (w : World) (h : Cont All w ⟨x, m, mo⟩) (hx : FitE x) :
    Calls Tryd.prog 26 #[env x m mo] w fun e w' => ∃ u uo, e = .returned (env x u uo) ∧ Cont (fun b => w.heap.size ≤ b) w' ⟨x, u, uo⟩ ∧ Below w.heap.size w w' := by
  have hb0 : Below w.heap.size w ((w.alloc (.cells (enc x m mo) TE)).alloc (.cells zeroe TE)) := below_trans (below_alloc w _) (below_alloc _ _)
  have HC := Lib.hid (Cm.copy_any x.cl m ((w.alloc (.cells (enc x m mo) TE)).alloc (.cells zeroe TE)) (LnsAt.move h.1 (Below.moves hb0)) hx.1.1 hx.1.2)
  have HK : Hid (∀ W, Below w.heap.size w W → Calls Tryd.prog 35 #[mo] W fun e w' => ∃ v', e = .returned v' ∧ OwnO W.heap.size w' v' x.outs ∧ Below W.heap.size W w') := fun W hb => clone_any x.outs mo W (h.2.grw hb) hx.2
  have HX : Hid (∀ w1, Below ((w.alloc (.cells (enc x m mo) TE)).alloc (.cells zeroe TE)).heap.size ((w.alloc (.cells (enc x m mo) TE)).alloc (.cells zeroe TE)) w1 → w1.heap[w.heap.size]? = some (.cells (enc x m mo) TE (0, 0)) ∧ w1.heap[w.heap.size + 1]? = some (.cells zeroe TE (0, 0)) ∧ Below w.heap.size w w1 ∧ w.heap.size + 2 ≤ w1.heap.size) := fun w1 hb => by
    have e1 : (w.alloc (.cells (enc x m mo) TE)).heap.size = w.heap.size + 1 := by simp
    have e2 : ((w.alloc (.cells (enc x m mo) TE)).alloc (.cells zeroe TE)).heap.size = w.heap.size + 2 := by simp
    refine ⟨?_, ?_, below_trans hb0 hb, by have := hb.size; omega⟩
    · have := keepB (keepB (alloc_new w (enc x m mo) TE) (below_alloc _ (.cells zeroe TE))) hb
      exact this
    · have := keepB (alloc_new (w.alloc (.cells (enc x m mo) TE)) zeroe TE) hb
      rwa [e1] at this
  have HN : Hid (∀ w1 u, Cm.NewLns (((w.alloc (.cells (enc x m mo) TE)).alloc (.cells zeroe TE)).heap.size + 2) w1 u x.cl.lines → LnsAt (fun b => w.heap.size + 2 ≤ b) w1 u x.cl.lines) := fun w1 u hn => by
    have e2 : ((w.alloc (.cells (enc x m mo) TE)).alloc (.cells zeroe TE)).heap.size = w.heap.size + 2 := by simp
    refine LnsAt.move (copy_new hn hx.1) (moves_weak w1 fun b _ hk => ?_)
    omega
  obtain ⟨a, k, hmm, -, -⟩ := Cm.LnsAt.form h.1
  obtain ⟨a2, k2, hmo, -, -⟩ := h.2.form
  dsimp only at hmm hmo
  subst hmm hmo
  clear h hx hb0
  go_enter Tryd.func26, Tryd.ntmps26
  go_wp2_with (first | (go_at_call 27; refine (HC.out).mono ?_; rintro e w1 ⟨⟨u, rfl, hu⟩, hb⟩; obtain ⟨g1, g2, hb1, hs1⟩ := HX.out _ hb; have HU := Lib.hid (HN.out _ _ hu); obtain ⟨ua, uc, hue⟩ := Cm.NewLns.form hu; subst hue; have G1 := Lib.hid g1; have G2 := Lib.hid g2; have HB1 := Lib.hid hb1; have HS1 := Lib.hid hs1; obtain ⟨n0, n1, n2, n3, n4, n5, n6, n7, n8, n9⟩ := ten g1; have f1 := frzn g1; clear hb hu g1 g2 hb1 hs1) | (go_at_call 35; refine (HK.out _ (p7_below HB1.out w.heap.size (Nat.le_refl _) _ _ _ _ _ _ _)).mono ?_; rintro e w2 ⟨uo, rfl, ho, hb2⟩; have G3 := Lib.hid (keepB (p7_heap G1.out _ _ _ _ _ _ _) hb2); have G4 := Lib.hid (keepB (p7_far (q := w.heap.size) G2.out (by omega) _ _ _ _ _ _ _) hb2); have HB2 := Lib.hid hb2; have HO := Lib.hid ho; obtain ⟨va, vc, hoe, -, -⟩ := ownO_form ho; subst hoe; clear hb2 ho n0 n1 n2 n3 n4 n5 n6 n7 n8 n9 f1; obtain ⟨n0, n1, n2, n3, n4, n5, n6, n7, n8, n9⟩ := ten G3.out; obtain ⟨y0, y1, y2, y3, y4, y5, y6, y7, y8, y9⟩ := ten G4.out; have f1 := frzn G3.out; have f2 := frzn G4.out))
  refine bodyPost_ret (v := env x (.slice ua x.cl.lines.length uc) (.slice va x.outs.length vc)) (by simp [results, Tryd.results26, go_sem, n0, n1, n2, n3, n4, n5, n6, n7, n8, n9, y0, y1, y2, y3, y4, y5, y6, y7, y8, y9]) rfl ?_
  refine ⟨_, _, rfl, ⟨?_, ?_⟩, ?_⟩
  · refine LnsAt.move HU.out ⟨?_, fun b hb hk => ⟨by omega, ?_⟩⟩
    · have := HB2.out.size
      simpa using this
    · rw [p10_keep (by omega), Below.heap_setCell _ _ _ _ (show b ≠ w.heap.size by omega), HB2.out.block b (by simpa using hb), p7_keep (by omega)]
  · refine OtsAt.move (ots_of_own (K := fun b => w.heap.size + 2 ≤ b) HO.out fun b hb => ?_) ⟨?_, fun b hb hk => ⟨by omega, ?_⟩⟩
    · have := HS1.out
      simp at hb
      omega
    · simp
    · rw [p10_keep (by omega), Below.heap_setCell _ _ _ _ (show b ≠ w.heap.size by omega)]
  · refine p10_below ?_ (w.heap.size + 1) (by omega) _ _ _ _ _ _ _ _ _ _
    refine Below.setCell (p := ⟨w.heap.size, 9, none⟩) ?_ (Nat.le_refl _) _
    exact (p7_below HB1.out w.heap.size (Nat.le_refl _) _ _ _ _ _ _ _).trans (HB2.out.mono (by simpa using HB1.out.size))
end Go.Proofs.YtjgceppbhmmbjaaDoor.Bk
end

/-
  What layer 18's law's own claim ('one') is, as a contract.
-/
section
set_option linter.unusedSimpArgs false
set_option linter.unusedVariables false
set_option maxRecDepth 100000
namespace Go.Proofs.YtjgceppbhmmbjaaDoor.Bk
open Go.RowKit
open Cm (Ln Cl cl0 LnsAt ClCells lnv clv LnOk ClOk boxc)
open Sh (Ot)

def wkL : Ln := ⟨[57, 57, 50, 49, 51], [], 20240301, 1, 100, 0⟩
theorem wk_lns {w : World} {g : Nat} {T : TypeId} (h : w.heap[g]? = some (.cells #[.string ⟨#[57, 57, 50, 49, 51]⟩, .slice none 0 0, .int .i64 20240301, .int .i64 1, .int .i64 100, .int .i64 0] T (0, 0))) : LnsAt All w (.slice (some ⟨g, 0, none⟩) 1 1) [wkL] := by
  refine ⟨_, 1, rfl, by simp, by simp [maxLen], Or.inr ⟨g, 0, rfl, trivial, (Array.getElem?_eq_some_iff.1 h).1, fun j x hj => ?_⟩⟩
  match j, hj with
  | 0, hj =>
    obtain rfl := Option.some.inj hj
    refine ⟨.slice none 0 0, ⟨?_, ?_, ?_, ?_, ?_, ?_⟩, TxAt.nil _ _⟩ <;> (rw [cell_of_row w g _ _ T (0, 0) h]; rfl)
  | n + 1, hj => simp at hj
set_option maxHeartbeats 2000000 in
theorem oneL (i r : ByteArray) (d : Int) (hd : d ≠ 8) (w : World) :
    Calls Tryd.prog 25 #[.string i, .int .i64 d, .string r] w fun e w' => ∃ m, e = .returned (.agg #[.string i, .string ⟨#[77, 49]⟩, .string ⟨#[70, 49]⟩, .int .i64 0, .int .i64 d, .string r, m]) ∧ LnsAt All w' m [wkL] ∧ Below w.heap.size w w' := by
  have hd1 : (d != 8) = true := by simp [hd]
  clear hd
  go_enter Tryd.func25, Tryd.ntmps25
  go_wp2
  refine bodyPost_ret (v := .agg #[.string i, .string ⟨#[77, 49]⟩, .string ⟨#[70, 49]⟩, .int .i64 0, .int .i64 d, .string r, .slice (some ⟨w.heap.size + 1 + 1, 0, none⟩) 1 1]) (by simp [results, Tryd.results25, go_sem]) rfl ?_
  refine ⟨_, rfl, ?_, ?_⟩
  · have h2 : ∀ a b : Obj, ((w.alloc a).alloc b).heap.size = w.heap.size + 1 + 1 := fun a b => by simp
    have := alloc_new ((w.alloc (.cells #[.string i, .string ⟨#[77, 49]⟩, .string ⟨#[70, 49]⟩, .int .i64 0, .int .i64 d, .string r, .slice (some ⟨w.heap.size + 1 + 1, 0, none⟩) 1 1] 25)).alloc (.cells #[.string i, .string ⟨#[77, 49]⟩, .string ⟨#[70, 49]⟩, .int .i64 0, .int .i64 d, .string r, .slice (some ⟨w.heap.size + 1 + 1, 0, none⟩) 1 1] 25)) #[.string ⟨#[57, 57, 50, 49, 51]⟩, .slice none 0 0, .int .i64 20240301, .int .i64 1, .int .i64 100, .int .i64 0] 58
    rw [h2] at this
    exact wk_lns this
  · exact below_trans (below_trans (below_alloc _ _) (below_alloc _ _)) (below_alloc _ _)
set_option maxHeartbeats 2000000 in
theorem oneV (i r : ByteArray) (w : World) :
    Calls Tryd.prog 25 #[.string i, .int .i64 8, .string r] w fun e w' => e = .returned (.agg #[.string i, .string ⟨#[77, 49]⟩, .string ⟨#[70, 49]⟩, .int .i64 0, .int .i64 8, .string r, .slice none 0 0]) ∧ Below w.heap.size w w' := by
  go_enter Tryd.func25, Tryd.ntmps25
  go_wp2
  refine bodyPost_ret (v := .agg #[.string i, .string ⟨#[77, 49]⟩, .string ⟨#[70, 49]⟩, .int .i64 0, .int .i64 8, .string r, .slice none 0 0]) (by simp [results, Tryd.results25, go_sem]) rfl ?_
  exact ⟨rfl, below_trans (below_alloc _ _) (below_alloc _ _)⟩
end Go.Proofs.YtjgceppbhmmbjaaDoor.Bk
end
