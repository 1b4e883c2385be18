/-
  The walk of the law on heads.
-/
import Derived.Test.YtclbejgnaphekaaDoorQWorks
import Derived.Test.YtclbejgnaphekaaDoorQHeadX
import Derived.Test.YtclbejgnaphekaaDoorQFind
import Derived.Test.YtclbejgnaphekaaDoorQRFind
set_option linter.unusedSimpArgs false
namespace Go.Proofs.YtclbejgnaphekaaDoor
open Go.RowKit
attribute [local go_sem ↓] Go.wp_at_zero Go.wp_at_succ

set_option maxHeartbeats 2000000 in
theorem finds_walk (w : World) (a0 : ByteArray) (w0 : a0.size ≤ maxLen) (e1 p1 s1 : UInt8) (hT : Tab w) :
    Calls Tryd.prog 3 #[.string a0, dv e1 p1 s1] w fun e w' => e = .returned (.bool true) ∧ Below w.heap.size w w' := by
  have HTb := Lib.hid hT
  have HB := Lib.hid (below_alloc w (.cells #[.int .u8 e1.toNat, .int .u8 p1.toNat, .int .u8 s1.toNat] 23))
  have HF := Lib.hid fun W => find_any a0 W w0
  have HRF := Lib.hid fun W => rfind_any a0 W w0
  obtain ⟨x0, y0, z0, hf⟩ := fdV_form (findO a0.data.toList)
  rw [hf] at HF HRF
  have HX : Hid (∀ W, Below (w.alloc (.cells #[.int .u8 e1.toNat, .int .u8 p1.toNat, .int .u8 s1.toNat] 23)).heap.size (w.alloc (.cells #[.int .u8 e1.toNat, .int .u8 p1.toNat, .int .u8 s1.toNat] 23)) W → DBox W w.heap.size e1 p1 s1 ∧ Below w.heap.size w W) := fun W h => ⟨DBox.grw (DBox.new w e1 p1 s1) h, below_trans HB.out h⟩
  have HGo := Lib.hid (good_any e1 p1 s1)
  have HRGo := Lib.hid (rgood_any e1 p1 s1)
  have HHd := Lib.hid (head_any e1 p1 s1)
  have HRHd := Lib.hid fun W => (rhead_any e1 p1 s1 W).mono fun x w' ⟨h1, h2⟩ => (⟨h1, by rw [h2]; exact below_trans (below_alloc _ _) (below_alloc _ _)⟩ : _ ∧ Below W.heap.size W w')
  generalize fdE (findO a0.data.toList) = E at *
  generalize goodB e1 p1 s1 = G at *
  generalize mk (headL e1 p1 s1) = M at *
  clear hT hf w0
  go_enter Tryd.func3, Tryd.ntmps3
  go_upto_region 3 with (first | (go_at_call 9; refine (HF.out _).mono ?_; rintro x x1 ⟨rfl, hb⟩; have HB1 := Lib.hid hb; clear hb) | (go_at_call 10; refine (HRF.out _).mono ?_; rintro x x2 ⟨rfl, hb⟩; have HB2 := Lib.hid hb; clear hb))
  have HBa := Lib.hid (below_trans HB1.out (below_trans (below_alloc x1 (.cells #[.int .u8 x0, .int .u8 y0, .int .u8 z0] 23)) (below_trans HB2.out (below_alloc x2 (.cells #[.int .u8 x0, .int .u8 y0, .int .u8 z0] 23)))))
  have hc5 : x2.cell? ⟨x1.heap.size, 0, none⟩ = some (.int .u8 x0) ∧ x2.cell? ⟨x1.heap.size, 1, none⟩ = some (.int .u8 y0) ∧ x2.cell? ⟨x1.heap.size, 2, none⟩ = some (.int .u8 z0) := by
    refine ⟨?_, ?_, ?_⟩ <;> (rw [HB2.out.cell (by simp)]; simp)
  obtain ⟨f0, f1, f2⟩ := hc5
  obtain ⟨-, d0, d1, d2⟩ := (HX.out _ (below_trans HB1.out (below_trans (below_alloc x1 (.cells #[.int .u8 x0, .int .u8 y0, .int .u8 z0] 23)) HB2.out))).1
  have HAL : Hid (∀ a v, x2.cell? a = some v → (x2.alloc (.cells #[.int .u8 x0, .int .u8 y0, .int .u8 z0] 23)).cell? a = some v) := fun a v h => by rw [World.cell?_alloc_some _ _ _ (by rw [h]; rfl)]; exact h
  have f0' := HAL.out _ _ f0
  have f1' := HAL.out _ _ f1
  have f2' := HAL.out _ _ f2
  have d0' := HAL.out _ _ d0
  have d1' := HAL.out _ _ d1
  have d2' := HAL.out _ _ d2
  have HNine : Hid (∀ W, Below (x2.alloc (.cells #[.int .u8 x0, .int .u8 y0, .int .u8 z0] 23)).heap.size (x2.alloc (.cells #[.int .u8 x0, .int .u8 y0, .int .u8 z0] 23)) W → (W.cell? ⟨w.heap.size, 0, none⟩ = some (.int .u8 e1.toNat) ∧ W.cell? ⟨w.heap.size, 1, none⟩ = some (.int .u8 p1.toNat) ∧ W.cell? ⟨w.heap.size, 2, none⟩ = some (.int .u8 s1.toNat) ∧ W.cell? ⟨x1.heap.size, 0, none⟩ = some (.int .u8 x0) ∧ W.cell? ⟨x1.heap.size, 1, none⟩ = some (.int .u8 y0) ∧ W.cell? ⟨x1.heap.size, 2, none⟩ = some (.int .u8 z0) ∧ W.cell? ⟨x2.heap.size, 0, none⟩ = some (.int .u8 x0) ∧ W.cell? ⟨x2.heap.size, 1, none⟩ = some (.int .u8 y0) ∧ W.cell? ⟨x2.heap.size, 2, none⟩ = some (.int .u8 z0)) ∧ Tab W ∧ Below w.heap.size w W) := fun W h => by
    have hm : ∀ a v, (x2.alloc (.cells #[.int .u8 x0, .int .u8 y0, .int .u8 z0] 23)).cell? a = some v → W.cell? a = some v := fun a v ha => by rw [h.cell (World.block_lt_of_cell? _ _ ha)]; exact ha
    have hb := below_trans HB.out (below_trans HBa.out h)
    exact ⟨⟨hm _ _ d0', hm _ _ d1', hm _ _ d2', hm _ _ f0', hm _ _ f1', hm _ _ f2', hm _ _ (by simp), hm _ _ (by simp), hm _ _ (by simp)⟩, tab_grw HTb.out hb, hb⟩
  have HC : Hid (Below (x2.alloc (.cells #[.int .u8 x0, .int .u8 y0, .int .u8 z0] 23)).heap.size (x2.alloc (.cells #[.int .u8 x0, .int .u8 y0, .int .u8 z0] 23)) (x2.alloc (.cells #[.int .u8 x0, .int .u8 y0, .int .u8 z0] 23)).drew) := Below.drew (Below.refl _ _)
  clear HAL f0 f1 f2 d0 d1 d2
  go_region_held3 (fun w' => w'.cell? ⟨w.heap.size, 0, none⟩ = some (.int .u8 e1.toNat) ∧ w'.cell? ⟨w.heap.size, 1, none⟩ = some (.int .u8 p1.toNat) ∧ w'.cell? ⟨w.heap.size, 2, none⟩ = some (.int .u8 s1.toNat) ∧ w'.cell? ⟨x1.heap.size, 0, none⟩ = some (.int .u8 x0) ∧ w'.cell? ⟨x1.heap.size, 1, none⟩ = some (.int .u8 y0) ∧ w'.cell? ⟨x1.heap.size, 2, none⟩ = some (.int .u8 z0) ∧ w'.cell? ⟨x2.heap.size, 0, none⟩ = some (.int .u8 x0) ∧ w'.cell? ⟨x2.heap.size, 1, none⟩ = some (.int .u8 y0) ∧ w'.cell? ⟨x2.heap.size, 2, none⟩ = some (.int .u8 z0)) (go_keep) (first | (go_at_call 11; refine (HGo.out _).mono ?_; rintro x x3 ⟨rfl, hb⟩; have HC := Lib.hid (below_trans HC.out hb); obtain ⟨⟨g0, g1, g2, g3, g4, g5, g6, g7, g8⟩, -, -⟩ := HNine.out _ HC.out; clear hb) | (go_at_call 12; refine (HRGo.out _).mono ?_; rintro x x3 ⟨rfl, hb⟩; have HC := Lib.hid (below_trans HC.out hb); obtain ⟨⟨g0, g1, g2, g3, g4, g5, g6, g7, g8⟩, -, -⟩ := HNine.out _ HC.out; clear hb) | (go_at_call 13; refine (HHd.out _).mono ?_; rintro x x3 ⟨rfl, hb⟩; have HC := Lib.hid (below_trans HC.out hb); obtain ⟨⟨g0, g1, g2, g3, g4, g5, g6, g7, g8⟩, -, -⟩ := HNine.out _ HC.out; clear hb) | (go_at_call 14; refine (HRHd.out _).mono ?_; rintro x x3 ⟨rfl, hb⟩; have HC := Lib.hid (below_trans HC.out hb); obtain ⟨⟨g0, g1, g2, g3, g4, g5, g6, g7, g8⟩, -, -⟩ := HNine.out _ HC.out; clear hb) | (go_at_call 15; refine (works_any _ (HNine.out _ HC.out).2.1).mono ?_; rintro x x3 ⟨rfl, hb⟩; have HBz := Lib.hid (below_trans (HNine.out _ HC.out).2.2 hb); have HC := Lib.hid (below_trans HC.out hb); obtain ⟨⟨g0, g1, g2, g3, g4, g5, g6, g7, g8⟩, -, -⟩ := HNine.out _ HC.out; clear hb))
  all_goals
    go_wp2
    go_ret
    exact ⟨rfl, HBz.out⟩
end Go.Proofs.YtclbejgnaphekaaDoor
