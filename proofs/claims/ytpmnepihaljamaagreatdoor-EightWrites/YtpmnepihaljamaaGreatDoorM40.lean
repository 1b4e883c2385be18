/-
  Texts put together (merge.py): EWorks, ERPl.
-/
import Derived.Deep.DeepCutAuto
import Derived.Deep.RegionLaw
import Derived.Test.YtpmnepihaljamaaGreatDoorM35
import Derived.Test.YtpmnepihaljamaaGreatDoorM39
import Derived.Test.YtpmnepihaljamaaGreatDoorM24
import Derived.Test.YtpmnepihaljamaaGreatDoorM36
/-
  The example of the statements holds.
-/
section
set_option linter.unusedSimpArgs false
set_option linter.unusedVariables false
set_option maxRecDepth 100000
namespace Go.Proofs.YtpmnepihaljamaaGreatDoor
open Go.RowKit
open Cm (Ln lnv ln0 Cl clv cl0 btv exC exLn exS)

abbrev wA (w : World) : World := w.alloc (.cells #[.int .u8 42, .int .u8 58, .int .u8 126] 23)
abbrev wB (w : World) : World := (wA w).alloc (.cells #[.string ⟨#[50, 53]⟩] 9)
abbrev wC (w : World) : World := (wB w).alloc (.cells #[.string ⟨#[57, 57, 50, 49, 51]⟩, .slice (some ⟨w.heap.size + 1, 0, none⟩) 1 1, .int .i64 20240301, .int .i64 1, .int .i64 100, .int .i64 0] 47)
abbrev wD (w : World) : World := (wC w).alloc (.cells #[.string ⟨#[67, 49]⟩, .string ⟨#[77, 49]⟩, .string ⟨#[70, 49]⟩, .int .i64 0, .int .i64 1, .string ByteArray.empty, .slice (some ⟨w.heap.size + 2, 0, none⟩) 1 1] 43)
abbrev wE (w : World) : World := (wD w).alloc (.cells #[.int .i64 7, .slice (some ⟨w.heap.size + 3, 0, none⟩) 1 1] 26)
theorem new_at' (w : World) (o : Obj) (q : Nat) (hq : w.heap.size = q) : (w.alloc o).heap[q]? = some o := by subst hq; exact heap_alloc_new w o
theorem ex_at (w : World) : Cm.ClsAt All (wE w) (.slice (some ⟨w.heap.size + 3, 0, none⟩) 1 1) [exC] ∧ (wE w).heap[w.heap.size]? = some (.cells #[.int .u8 42, .int .u8 58, .int .u8 126] 23 (0, 0)) ∧ (wE w).heap[w.heap.size + 4]? = some (.cells #[.int .i64 7, .slice (some ⟨w.heap.size + 3, 0, none⟩) 1 1] 26 (0, 0)) ∧ Below w.heap.size w (wE w) := by
  have b1 := below_alloc w (.cells #[.int .u8 42, .int .u8 58, .int .u8 126] 23)
  have b2 := below_alloc (wA w) (.cells #[.string ⟨#[50, 53]⟩] 9)
  have b3 := below_alloc (wB w) (.cells #[.string ⟨#[57, 57, 50, 49, 51]⟩, .slice (some ⟨w.heap.size + 1, 0, none⟩) 1 1, .int .i64 20240301, .int .i64 1, .int .i64 100, .int .i64 0] 47)
  have b4 := below_alloc (wC w) (.cells #[.string ⟨#[67, 49]⟩, .string ⟨#[77, 49]⟩, .string ⟨#[70, 49]⟩, .int .i64 0, .int .i64 1, .string ByteArray.empty, .slice (some ⟨w.heap.size + 2, 0, none⟩) 1 1] 43)
  have b5 := below_alloc (wD w) (.cells #[.int .i64 7, .slice (some ⟨w.heap.size + 3, 0, none⟩) 1 1] 26)
  have h1 := keepB (heap_alloc_new w (.cells #[.int .u8 42, .int .u8 58, .int .u8 126] 23)) (below_trans b2 (below_trans b3 (below_trans b4 b5)))
  have h2 := keepB (new_at' (wA w) (.cells #[.string ⟨#[50, 53]⟩] 9) (w.heap.size + 1) (by simp)) (below_trans b3 (below_trans b4 b5))
  have h3 := keepB (new_at' (wB w) (.cells #[.string ⟨#[57, 57, 50, 49, 51]⟩, .slice (some ⟨w.heap.size + 1, 0, none⟩) 1 1, .int .i64 20240301, .int .i64 1, .int .i64 100, .int .i64 0] 47) (w.heap.size + 2) (by simp)) (below_trans b4 b5)
  have h4 := keepB (new_at' (wC w) (.cells #[.string ⟨#[67, 49]⟩, .string ⟨#[77, 49]⟩, .string ⟨#[70, 49]⟩, .int .i64 0, .int .i64 1, .string ByteArray.empty, .slice (some ⟨w.heap.size + 2, 0, none⟩) 1 1] 43) (w.heap.size + 3) (by simp)) b5
  have h5 := new_at' (wD w) (.cells #[.int .i64 7, .slice (some ⟨w.heap.size + 3, 0, none⟩) 1 1] 26) (w.heap.size + 4) (by simp)
  refine ⟨⟨_, 1, rfl, by simp, by simp [maxLen], Or.inr ⟨w.heap.size + 3, 0, rfl, trivial, (Array.getElem?_eq_some_iff.1 h4).1, fun j x hj => ?_⟩⟩, h1, h5, below_trans b1 (below_trans b2 (below_trans b3 (below_trans b4 b5)))⟩
  match j, hj with
  | 0, hj =>
    simp at hj
    subst hj
    obtain ⟨c0, c1, c2, c3, c4, c5, c6⟩ := claim_cells h4
    refine ⟨_, ⟨c0, c1, c2, c3, c4, c5, c6⟩, ⟨_, 1, rfl, by simp [exC], by simp [maxLen], Or.inr ⟨w.heap.size + 2, 0, rfl, trivial, (Array.getElem?_eq_some_iff.1 h3).1, fun j x hj => ?_⟩⟩⟩
    match j, hj with
    | 0, hj =>
      simp [exC] at hj
      subst hj
      obtain ⟨d0, d1, d2, d3, d4, d5⟩ := line_cells h3
      refine ⟨_, ⟨d0, d1, d2, d3, d4, d5⟩, ⟨_, 1, rfl, by simp [exLn], by simp [maxLen], Or.inr ⟨w.heap.size + 1, 0, rfl, trivial, (Array.getElem?_eq_some_iff.1 h2).1, fun j x hj => ?_⟩⟩⟩
      match j, hj with
      | 0, hj =>
        simp [exLn] at hj
        subst hj
        exact ⟨_, by rw [cell_of_row _ _ _ _ _ (0, 0) h2]; rfl, rfl⟩
theorem ex_ok : ∀ c ∈ [exC], Cm.ClOk c := fun c hc => by
  rw [List.mem_singleton.1 hc]
  refine ⟨by unfold Cm.I64 exC; decide, by unfold Cm.I64 exC; decide, by decide, by decide, by decide, by decide, by decide, fun x hx => ?_⟩
  have hx' : x ∈ [exLn] := hx
  rw [List.mem_singleton.1 hx']
  refine ⟨by unfold Cm.I64 exLn; decide, by unfold Cm.I64 exLn; decide, by unfold Cm.I64 exLn; decide, by unfold Cm.I64 exLn; decide, by decide, by decide, fun t ht => ?_⟩
  have ht' : t ∈ [[50, 53]] := ht
  rw [List.mem_singleton.1 ht']
  decide

set_option maxHeartbeats 8000000 in
theorem works_any (w : World) (hT : Tab w) (hD : Da.Tab w) :
    Calls Tryz.prog 10 #[] w fun x w' => x = .returned (.bool true) ∧ Below w.heap.size w w' := by
  obtain ⟨x1, x2, x3, x4⟩ := ex_at w
  obtain ⟨r1, r2, r3, r4⟩ := Et.eight_back ex_wt.1
  rw [ex_wt.2] at r1 r2 r3 r4
  have HW := Lib.hid (ewrite_any 42 58 126 7 _ [exC] (wE w) x1 ex_ok (tab_grw hT x4) (Cm.tab_below hD x4) (fun _ => ex_sg))
  rw [ex_wt.1, ex_wt.2] at HW
  have HW2 : Hid (Calls Tryz.prog 11 #[.agg #[.int .u8 42, .int .u8 58, .int .u8 126], .agg #[.int .i64 7, .slice (some ⟨w.heap.size + 3, 0, none⟩) 1 1]] (wE w) fun x w' => x = .returned (.tuple #[.string (mk exS), .int .i64 0]) ∧ Below (wE w).heap.size (wE w) w') := HW.out
  have HR : Hid (∀ W, Below w.heap.size w W → Calls Tryz.prog 13 #[.string (mk exS)] W fun x w' => (∃ u, x = .returned (.tuple #[.agg #[.int .u8 42, .int .u8 58, .int .u8 126], .agg #[.int .i64 7, u], .int .i64 0]) ∧ Cm.ClsAt (fun b => W.heap.size ≤ b) w' u [exC]) ∧ Below W.heap.size W w') := fun W hW => by
    have := eread_any (mk exS) W (tab_grw hT hW) (Cm.tab_below hD hW) (by rw [mk_size]; simp only [maxLen]; decide)
    rw [mk_list, r1, r2, r3, r4] at this
    exact this
  obtain ⟨n1, n2, n3⟩ := r_no (s := [73, 83, 65, 42, 58, 126]) (by rw [ex_no]; decide)
  have HN : Hid (∀ W, Below w.heap.size w W → Calls Tryz.prog 13 #[.string ⟨#[73, 83, 65, 42, 58, 126]⟩] W fun x w' => (∃ u, x = .returned (.tuple #[.agg #[.int .u8 0, .int .u8 0, .int .u8 0], .agg #[.int .i64 0, u], .int .i64 5]) ∧ Cm.ClsAt (fun b => W.heap.size ≤ b) w' u []) ∧ Below W.heap.size W w') := fun W hW => by
    have := eread_any ⟨#[73, 83, 65, 42, 58, 126]⟩ W (tab_grw hT hW) (Cm.tab_below hD hW) (by decide)
    rw [show (⟨#[73, 83, 65, 42, 58, 126]⟩ : ByteArray).data.toList = [73, 83, 65, 42, 58, 126] from rfl, ex_no, n1, n2, n3] at this
    exact this
  have hms : (mk exS).toList = [73, 83, 65, 42, 58, 126, 71, 83, 42, 56, 51, 55, 42, 55, 126, 83, 84, 42, 56, 51, 55, 42, 55, 126, 66, 72, 84, 42, 49, 126, 72, 76, 42, 49, 126, 78, 77, 42, 77, 49, 42, 70, 49, 126, 67, 76, 77, 42, 67, 49, 42, 49, 46, 48, 48, 42, 48, 42, 49, 42, 126, 76, 88, 42, 49, 126, 83, 86, 42, 72, 67, 58, 57, 57, 50, 49, 51, 58, 50, 53, 42, 49, 46, 48, 48, 42, 49, 126, 68, 84, 80, 42, 52, 55, 50, 42, 50, 48, 50, 52, 48, 51, 48, 49, 126, 83, 69, 42, 57, 42, 55, 126, 71, 69, 42, 49, 42, 55, 126, 73, 69, 65, 42, 49, 42, 55, 126] := by rw [Lib.toList_data, mk_list]; rfl
  have HX := Lib.hid (And.intro x1 (And.intro x2 (And.intro x3 x4)))
  obtain ⟨a0, a1, a2, -⟩ := cells3 x2
  obtain ⟨b0, b1, -⟩ := cells2 x3
  clear hT hD x1 x2 x3 x4 r1 r2 r3 r4 HW n1 n2 n3
  generalize mk exS = T at *
  go_enter Tryz.func10, Tryz.ntmps10
  go_upto_region 3 with fail
  have HY : Hid (Cm.ClsAt All (((((w.alloc (.cells #[.int .u8 42, .int .u8 58, .int .u8 126] 23)).alloc (.cells #[.string ⟨#[50, 53]⟩] 9)).alloc (.cells #[.string ⟨#[57, 57, 50, 49, 51]⟩, .slice (some ⟨w.heap.size + 1, 0, none⟩) 1 1, .int .i64 20240301, .int .i64 1, .int .i64 100, .int .i64 0] 47)).alloc (.cells #[.string ⟨#[67, 49]⟩, .string ⟨#[77, 49]⟩, .string ⟨#[70, 49]⟩, .int .i64 0, .int .i64 1, .string ⟨#[]⟩, .slice (some ⟨w.heap.size + 1 + 1, 0, none⟩) 1 1] 43)).alloc (.cells #[.int .i64 7, .slice (some ⟨w.heap.size + 1 + 1 + 1, 0, none⟩) 1 1] 26)) (.slice (some ⟨w.heap.size + 1 + 1 + 1, 0, none⟩) 1 1) [exC] ∧ (((((w.alloc (.cells #[.int .u8 42, .int .u8 58, .int .u8 126] 23)).alloc (.cells #[.string ⟨#[50, 53]⟩] 9)).alloc (.cells #[.string ⟨#[57, 57, 50, 49, 51]⟩, .slice (some ⟨w.heap.size + 1, 0, none⟩) 1 1, .int .i64 20240301, .int .i64 1, .int .i64 100, .int .i64 0] 47)).alloc (.cells #[.string ⟨#[67, 49]⟩, .string ⟨#[77, 49]⟩, .string ⟨#[70, 49]⟩, .int .i64 0, .int .i64 1, .string ⟨#[]⟩, .slice (some ⟨w.heap.size + 1 + 1, 0, none⟩) 1 1] 43)).alloc (.cells #[.int .i64 7, .slice (some ⟨w.heap.size + 1 + 1 + 1, 0, none⟩) 1 1] 26)).heap[w.heap.size]? = some (.cells #[.int .u8 42, .int .u8 58, .int .u8 126] 23 (0, 0)) ∧ (((((w.alloc (.cells #[.int .u8 42, .int .u8 58, .int .u8 126] 23)).alloc (.cells #[.string ⟨#[50, 53]⟩] 9)).alloc (.cells #[.string ⟨#[57, 57, 50, 49, 51]⟩, .slice (some ⟨w.heap.size + 1, 0, none⟩) 1 1, .int .i64 20240301, .int .i64 1, .int .i64 100, .int .i64 0] 47)).alloc (.cells #[.string ⟨#[67, 49]⟩, .string ⟨#[77, 49]⟩, .string ⟨#[70, 49]⟩, .int .i64 0, .int .i64 1, .string ⟨#[]⟩, .slice (some ⟨w.heap.size + 1 + 1, 0, none⟩) 1 1] 43)).alloc (.cells #[.int .i64 7, .slice (some ⟨w.heap.size + 1 + 1 + 1, 0, none⟩) 1 1] 26)).heap[w.heap.size + 1 + 1 + 1 + 1]? = some (.cells #[.int .i64 7, .slice (some ⟨w.heap.size + 1 + 1 + 1, 0, none⟩) 1 1] 26 (0, 0)) ∧ Below w.heap.size w (((((w.alloc (.cells #[.int .u8 42, .int .u8 58, .int .u8 126] 23)).alloc (.cells #[.string ⟨#[50, 53]⟩] 9)).alloc (.cells #[.string ⟨#[57, 57, 50, 49, 51]⟩, .slice (some ⟨w.heap.size + 1, 0, none⟩) 1 1, .int .i64 20240301, .int .i64 1, .int .i64 100, .int .i64 0] 47)).alloc (.cells #[.string ⟨#[67, 49]⟩, .string ⟨#[77, 49]⟩, .string ⟨#[70, 49]⟩, .int .i64 0, .int .i64 1, .string ⟨#[]⟩, .slice (some ⟨w.heap.size + 1 + 1, 0, none⟩) 1 1] 43)).alloc (.cells #[.int .i64 7, .slice (some ⟨w.heap.size + 1 + 1 + 1, 0, none⟩) 1 1] 26))) := HX.out
  have HW3 : Hid (Calls Tryz.prog 11 #[.agg #[.int .u8 42, .int .u8 58, .int .u8 126], .agg #[.int .i64 7, .slice (some ⟨w.heap.size + 1 + 1 + 1, 0, none⟩) 1 1]] (((((w.alloc (.cells #[.int .u8 42, .int .u8 58, .int .u8 126] 23)).alloc (.cells #[.string ⟨#[50, 53]⟩] 9)).alloc (.cells #[.string ⟨#[57, 57, 50, 49, 51]⟩, .slice (some ⟨w.heap.size + 1, 0, none⟩) 1 1, .int .i64 20240301, .int .i64 1, .int .i64 100, .int .i64 0] 47)).alloc (.cells #[.string ⟨#[67, 49]⟩, .string ⟨#[77, 49]⟩, .string ⟨#[70, 49]⟩, .int .i64 0, .int .i64 1, .string ⟨#[]⟩, .slice (some ⟨w.heap.size + 1 + 1, 0, none⟩) 1 1] 43)).alloc (.cells #[.int .i64 7, .slice (some ⟨w.heap.size + 1 + 1 + 1, 0, none⟩) 1 1] 26)) fun x w' => x = .returned (.tuple #[.string T, .int .i64 0]) ∧ Below (((((w.alloc (.cells #[.int .u8 42, .int .u8 58, .int .u8 126] 23)).alloc (.cells #[.string ⟨#[50, 53]⟩] 9)).alloc (.cells #[.string ⟨#[57, 57, 50, 49, 51]⟩, .slice (some ⟨w.heap.size + 1, 0, none⟩) 1 1, .int .i64 20240301, .int .i64 1, .int .i64 100, .int .i64 0] 47)).alloc (.cells #[.string ⟨#[67, 49]⟩, .string ⟨#[77, 49]⟩, .string ⟨#[70, 49]⟩, .int .i64 0, .int .i64 1, .string ⟨#[]⟩, .slice (some ⟨w.heap.size + 1 + 1, 0, none⟩) 1 1] 43)).alloc (.cells #[.int .i64 7, .slice (some ⟨w.heap.size + 1 + 1 + 1, 0, none⟩) 1 1] 26)).heap.size (((((w.alloc (.cells #[.int .u8 42, .int .u8 58, .int .u8 126] 23)).alloc (.cells #[.string ⟨#[50, 53]⟩] 9)).alloc (.cells #[.string ⟨#[57, 57, 50, 49, 51]⟩, .slice (some ⟨w.heap.size + 1, 0, none⟩) 1 1, .int .i64 20240301, .int .i64 1, .int .i64 100, .int .i64 0] 47)).alloc (.cells #[.string ⟨#[67, 49]⟩, .string ⟨#[77, 49]⟩, .string ⟨#[70, 49]⟩, .int .i64 0, .int .i64 1, .string ⟨#[]⟩, .slice (some ⟨w.heap.size + 1 + 1, 0, none⟩) 1 1] 43)).alloc (.cells #[.int .i64 7, .slice (some ⟨w.heap.size + 1 + 1 + 1, 0, none⟩) 1 1] 26)) w') := HW2.out
  clear a0 a1 a2 b0 b1 HX HW2
  generalize (((((w.alloc (.cells #[.int .u8 42, .int .u8 58, .int .u8 126] 23)).alloc (.cells #[.string ⟨#[50, 53]⟩] 9)).alloc (.cells #[.string ⟨#[57, 57, 50, 49, 51]⟩, .slice (some ⟨w.heap.size + 1, 0, none⟩) 1 1, .int .i64 20240301, .int .i64 1, .int .i64 100, .int .i64 0] 47)).alloc (.cells #[.string ⟨#[67, 49]⟩, .string ⟨#[77, 49]⟩, .string ⟨#[70, 49]⟩, .int .i64 0, .int .i64 1, .string ⟨#[]⟩, .slice (some ⟨w.heap.size + 1 + 1, 0, none⟩) 1 1] 43)).alloc (.cells #[.int .i64 7, .slice (some ⟨w.heap.size + 1 + 1 + 1, 0, none⟩) 1 1] 26)) = w0 at *
  obtain ⟨a0, a1, a2, -⟩ := cells3 HY.out.2.1
  obtain ⟨b0, b1, -⟩ := cells2 HY.out.2.2.1
  go_wp2_with fail
  go_at_call 11
  refine HW3.out.mono ?_
  rintro x w1 ⟨rfl, hb1⟩
  have HB1 := Lib.hid (below_trans HY.out.2.2.2 hb1)
  have HW1 := Lib.hid hb1
  clear hb1 a0 a1 a2 b0 b1
  go_wp2_with fail
  go_at_call 13
  refine (HR.out _ HB1.out).mono ?_
  rintro x w2 ⟨⟨u, rfl, hu⟩, hb2⟩
  have HU := Lib.hid hu
  obtain ⟨ua, uc, rfl, -, -, -⟩ := hu
  have hb3 := below_trans (below_alloc w2 (.cells #[.int .u8 42, .int .u8 58, .int .u8 126] 23)) (below_alloc _ (.cells #[.int .i64 7, .slice ua 1 uc] 26))
  have HB3 := Lib.hid (below_trans HB1.out (below_trans hb2 hb3))
  have HW3 := Lib.hid (below_trans HW1.out (below_trans hb2 hb3))
  have HU3 := Lib.hid (Cm.ClsAt.move (K' := All) HU.out (Moves.trans (moves_weak _ fun _ _ _ => trivial) (Below.moves hb3)))
  have HD3 := Lib.hid (keepB (heap_alloc_new w2 (.cells #[.int .u8 42, .int .u8 58, .int .u8 126] 23)) (below_alloc (w2.alloc (.cells #[.int .u8 42, .int .u8 58, .int .u8 126] 23)) (.cells #[.int .i64 7, .slice ua 1 uc] 26)))
  have HE3 := Lib.hid (new_at' (w2.alloc (.cells #[.int .u8 42, .int .u8 58, .int .u8 126] 23)) (.cells #[.int .i64 7, .slice ua 1 uc] 26) (w2.heap.size + 1) (by simp))
  clear hb2 hb3 HU
  go_upto_region 5 with fail
  have hl1 : [exC].length = 1 := rfl
  generalize (w2.alloc (.cells #[.int .u8 42, .int .u8 58, .int .u8 126] 23)).alloc (.cells #[.int .i64 7, .slice ua 1 uc] 26) = w4 at *
  go_wp2_with fail
  go_at_call 13
  refine (HN.out _ HB3.out).mono ?_
  rintro x w5 ⟨⟨u5, rfl, hu5⟩, hb5⟩
  obtain ⟨va, vc, rfl, -, -, -⟩ := hu5
  have hb6 := below_trans (below_alloc w5 (.cells #[.int .u8 0, .int .u8 0, .int .u8 0] 23)) (below_alloc _ (.cells #[.int .i64 0, .slice va 0 vc] 26))
  have hb56 := below_trans hb5 hb6
  have HB6 := Lib.hid (below_trans HB3.out hb56)
  have HU6 := Lib.hid (Cm.ClsAt.move HU3.out (Below.moves hb56))
  have HD6 := Lib.hid (keepB HD3.out hb56)
  have HE6 := Lib.hid (keepB HE3.out hb56)
  have hb06 := below_trans HW3.out hb56
  have HX6 := Lib.hid (Cm.ClsAt.move HY.out.1 (Below.moves hb06))
  have HP6 := Lib.hid (keepB HY.out.2.1 hb06)
  have HQ6 := Lib.hid (keepB HY.out.2.2.1 hb06)
  clear hb5 hb6 hb56 hb06
  go_upto_region 6 with fail
  generalize (w5.alloc (.cells #[.int .u8 0, .int .u8 0, .int .u8 0] 23)).alloc (.cells #[.int .i64 0, .slice va 0 vc] 26) = w6 at *
  obtain ⟨a0, a1, a2, -⟩ := cells3 HP6.out
  obtain ⟨b0, b1, -⟩ := cells2 HQ6.out
  obtain ⟨c0, c1, c2, -⟩ := cells3 HD6.out
  obtain ⟨d0, d1, -⟩ := cells2 HE6.out
  have HSm := Lib.hid (Cm.bsame_eq 7 _ _ [exC] w6 HX6.out HU6.out)
  have HSm2 : Hid (Calls Tryz.prog 15 #[.agg #[.int .i64 7, .slice (some ⟨w.heap.size + 1 + 1 + 1, 0, none⟩) 1 1], .agg #[.int .i64 7, .slice ua 1 uc]] w6 fun e w' => e = .returned (.bool true) ∧ Below w6.heap.size w6 w') := HSm.out
  clear HSm
  go_wp2_with (go_at_call 15; refine HSm2.out.mono ?_; rintro x w7 ⟨rfl, hb7⟩; have HB7 := Lib.hid (below_trans HB6.out hb7); clear hb7)
  go_ret
  exact ⟨rfl, HB7.out⟩
end Go.Proofs.YtpmnepihaljamaaGreatDoor
end

/-
  What the reference's plain and num answer, as contracts: a segment of so many elements, each of one part, in new memory; a number as a text.
-/
section
set_option linter.unusedSimpArgs false
set_option linter.unusedVariables false
set_option maxRecDepth 100000
namespace Go.Proofs.YtpmnepihaljamaaGreatDoor
open Go.RowKit

theorem rnum_any (n : Int) (w : World) (h0 : -9223372036854775808 ≤ n) (h1 : n ≤ 9223372036854775807) :
    Calls Tryz.prog 26 #[.int .i64 n] w fun e w' => e = .returned (.string (mk (Lib.itoa n))) ∧ Below w.heap.size w w' := by
  have HI : Hid (∀ W : World, Calls Tryz.prog 52 #[.int .i64 n] W fun e w' => e = .returned (.string (mk (Lib.itoa n))) ∧ Below W.heap.size W w') := fun W => Nu.rint_any n h0 h1 W
  generalize mk (Lib.itoa n) = q at *
  go_enter Tryz.func26, Tryz.ntmps26
  go_wp2_with (first | (go_at_call 52; refine (HI.out _).mono ?_; rintro e w1 ⟨rfl, hb⟩; have HB := Lib.hid hb; clear hb))
  go_ret
  exact ⟨rfl, HB.out⟩
theorem kept_oth {w w' : World} {q : Nat} {cs : Array Value} {T : TypeId} {B : Nat} {e : TypeId} {z : Nat} {v : Value} {n : Nat} {xs : List Value} (h : w.heap[q]? = some (.cells cs T (0, 0))) (ho : w.ownsRow B e z v n xs) (hT : T ≠ e) (hg : w.grownBy w' v.ownBlock) : w'.heap[q]? = some (.cells cs T (0, 0)) := by
  rw [hg.block q (Array.getElem?_eq_some_iff.1 h).1 ?_]
  · exact h
  · intro e
    rcases ho.2 with ⟨rfl, -⟩ | ⟨g, c, cur, rfl, _, hh, _⟩
    · cases e
    · simp only [Value.ownBlock, Option.some.injEq] at e
      subst e
      rw [hh] at h
      simp only [Option.some.injEq, Obj.cells.injEq] at h
      exact hT h.2.1.symm
theorem Sq.start0 (w : World) : Sq w.heap.size (w.heap.size + 1) [] [] (.slice none 0 0) ((w.alloc (.cells #[.slice none 0 0] 50)).alloc (.cells #[.slice none 0 0] 50)) :=
  ⟨new_at _ _ (w.heap.size + 1) (by simp), World.ownsRow_nil _ _ _ _, PtsAt.nil _ _⟩

set_option maxHeartbeats 4000000 in
theorem rpl_any (v : Value) (ts : List Tx) (w : World) (h : TxAt All w v ts) (hn : ts.length ≤ 1000) :
    Calls Tryz.prog 25 #[v] w fun x w' => (∃ u, x = .returned (.agg #[u]) ∧ SegAt w.heap.size ts u w') ∧ Below w.heap.size w w' := by
  have HV := Lib.hid h
  obtain ⟨a, c, rfl, h1, h2, -⟩ := h
  unfold maxLen at h2
  obtain ⟨i48, t1, t2, t3, t4⟩ := info48
  have HST := Lib.hid (Sq.start0 w)
  have hb0 := below_trans (below_alloc w (.cells #[.slice none 0 0] 50)) (below_alloc _ (.cells #[.slice none 0 0] 50))
  have HB0 := Lib.hid hb0
  have HR0 := Lib.hid (keepB (heap_alloc_new w (.cells #[.slice none 0 0] 50)) (below_alloc (w.alloc (.cells #[.slice none 0 0] 50)) (.cells #[.slice none 0 0] 50)))
  clear hb0
  go_enter Tryz.func25, Tryz.ntmps25
  go_wp2
  go_loopg [4] (ts.length) (fun gg i wr => ∃ (k : Nat) (gv : Value) (ps : List Nat) (tk : List Tx), tk.length ≤ 1000 ∧ Hid (tk = ts.take k) ∧ k ≤ ts.length ∧ gg = ts.length - k ∧ i = .int .i64 k ∧ Hid (Sq w.heap.size (w.heap.size + 1) tk ps gv wr) ∧ Hid (wr.heap[w.heap.size]? = some (.cells #[.slice none 0 0] 50 (0, 0))) ∧ Hid (Below w.heap.size w wr))
  case atStart => exact ⟨0, _, _, [], by simp, by show _ = _; simp, Nat.zero_le _, rfl, rfl, HST.out, HR0.out, HB0.out⟩
  case round =>
    clear HST HR0 HB0
    obtain ⟨k, gv, ps, tk, hlen, HTK, hk, hgk, rfl, HSt, HR, HB⟩ := hrel
    obtain ⟨hbx, hfx⟩ := box_cell HSt.out.box
    have hlx := HSt.out.lt
    have hBw := HB.out.size
    obtain ⟨ga0, gc0, rfl⟩ := own_form HSt.out.own
    by_cases hlt : k < ts.length
    · obtain ⟨b, o, u, rfl, hx, hu, rfl⟩ := RowAt.get (TxAt.move HV.out (Below.moves HB.out)) k hlt
      have HO : Hid (tk ++ [ts[k]] = ts.take (k + 1)) := by show _ = _; rw [List.take_add_one, hx, HTK.out]; rfl
      have hlen1 : (tk ++ [ts[k]]).length ≤ 1000 := by rw [HO.out, List.length_take]; omega
      have HLN := Lib.hid hlen1
      clear hlen1 hx
      generalize ts[k] = x at *
      have HL1 : Hid ((tk ++ [x]).length = tk.length + 1) := by show _ = _; simp
      have hlay := Sq.lay HSt.out x hBw (.cells #[slc wr.heap.size] 45)
      have HOE : Hid ((((wr.alloc (.cells #[.string (mk x)] 9)).alloc (.cells #[slc wr.heap.size] 45)).drew).ownsRow w.heap.size 45 1 (.slice ga0 tk.length gc0) tk.length (ps.map slc)) := hlay.1
      have HPT : Hid (PtsAt w.heap.size (tk ++ [x]) (ps ++ [wr.heap.size]) (((wr.alloc (.cells #[.string (mk x)] 9)).alloc (.cells #[slc wr.heap.size] 45)).drew)) := hlay.2.1
      have HBX : Hid ((((wr.alloc (.cells #[.string (mk x)] 9)).alloc (.cells #[slc wr.heap.size] 45)).drew).heap[w.heap.size + 1]? = some (.cells #[.slice ga0 tk.length gc0] 50 (0, 0))) := hlay.2.2
      have hb2 := Below.drew (below_trans (below_alloc wr (.cells #[.string (mk x)] 9)) (below_alloc _ (.cells #[slc wr.heap.size] 45)))
      have HB2 := Lib.hid (below_trans HB.out hb2)
      have HR2 := Lib.hid (keepB HR.out hb2)
      have hN2 : ((wr.alloc (.cells #[.string (mk x)] 9)).alloc (.cells #[slc wr.heap.size] 45)).drew.heap[wr.heap.size + 1]? = some (.cells #[slc wr.heap.size] 45 (0, 0)) := new_at (wr.alloc (.cells #[.string (mk x)] 9)) _ (wr.heap.size + 1) (by simp)
      have HNW := Lib.hid (World.news_of_block hN2)
      have HHS : Hid (((wr.alloc (.cells #[.string (mk x)] 9)).alloc (.cells #[slc wr.heap.size] 45)).drew.heap.size = wr.heap.size + 2) := by show ((wr.alloc _).alloc _).heap.size = _; simp
      have HON : Hid (∀ u ∈ [slc wr.heap.size], u.oneCell' = true) := fun u hu => by simp at hu; subst hu; rfl
      have HLE : Hid (w.heap.size ≤ ((wr.alloc (.cells #[.string (mk x)] 9)).alloc (.cells #[slc wr.heap.size] 45)).drew.heap.size) := HB2.out.size
      obtain ⟨e1, -⟩ := box_cell HBX.out
      have hub : b < wr.heap.size := World.block_lt_of_cell? _ _ hu
      clear hlay hb2 hN2
      go_wp2_with fail
      go_region_law (first | (refine step_append_lies _ rfl _ _ 48 rfl w.heap.size 45 i48 (.slice none 0 0) 1 24 Tryz.underlying48 t1 t2 t3 t4 rfl (by omega) (.slice ga0 tk.length gc0) tk.length (ps.map slc) (by simp [Act.eval, Act.put]) HOE.out ⟨wr.heap.size + 1, 0, none⟩ 1 1 [slc wr.heap.size] (by simp [Act.eval, Act.put]) rfl HNW.out HON.out (by omega) (by simp only [maxLen]; omega) (by omega) HLE.out (wr.heap.size + 2) HHS.out ?_; intro g1 cap1 w1 hown hgrow hat hlt1; have hq1 := kept_oth HBX.out HOE.out (by decide) hgrow; have hr1 := kept_oth HR2.out HOE.out (by decide) hgrow; obtain ⟨x1, x2⟩ := box_cell hq1; have HR3 := Lib.hid hr1; have HS3 : Hid (Sq w.heap.size (w.heap.size + 1) (tk ++ [x]) (ps ++ [wr.heap.size]) (.slice (some ⟨g1, 0, none⟩) (tk.length + 1) cap1) (w1.setCell ⟨w.heap.size + 1, 0, none⟩ (.slice (some ⟨g1, 0, none⟩) (tk.length + 1) cap1))) := Lib.hid (Sq.elem HOE.out HPT.out HBX.out (by rw [HL1.out]; exact hown) hgrow); have HB3 := Lib.hid (HB2.out.grown hgrow HLE.out fun k hk => (HOE.out.lt k hk).1); clear hown hgrow hat hlt1 hq1 hr1))
      all_goals
        go_wp2
        go_roundg (ts.length - (k + 1))
        case rel => exact ⟨k + 1, _, _, _, HLN.out, HO.out, by omega, rfl, by go_num, HS3.out, heap_far HR3.out (by omega), HB3.out.setCell (p := ⟨w.heap.size + 1, 0, none⟩) (by show w.heap.size ≤ w.heap.size + 1; omega) _⟩
        case measure => omega
    · have HO : Hid (tk = ts) := by show _ = _; rw [HTK.out, List.take_of_length_le (by omega)]
      obtain ⟨hcs, hfr⟩ := box_cell HR.out
      have HE9 := Lib.hid (Sq.done (v := .slice ga0 tk.length gc0) HSt.out HR.out)
      have HB9 := Lib.hid (HB.out.setCell (p := ⟨w.heap.size, 0, none⟩) (Nat.le_refl _) (.slice ga0 tk.length gc0))
      go_wp2
      refine bodyPost_ret (v := .agg #[.slice ga0 tk.length gc0]) (by simp [results, Tryz.results25, go_sem, hcs]) rfl ?_
      refine ⟨⟨_, rfl, ?_⟩, HB9.out⟩
      have := HE9.out
      rw [HO.out] at this ⊢
      exact this
end Go.Proofs.YtpmnepihaljamaaGreatDoor
end
