/-
  Texts put together (merge.py): ZRRead.
-/
import Derived.Test.YtmoldgmfhcmceaaGreatDoorMp19
import Derived.Test.YtmoldgmfhcmceaaGreatDoorMp36
import Derived.Test.YtmoldgmfhcmceaaGreatDoorMp14
import Derived.Test.YtmoldgmfhcmceaaGreatDoorMp32
/-
  A row that six words are, as the reference says: read, as a contract. (Written by gen_rread.py.)
-/
section
set_option linter.unusedSimpArgs false
set_option linter.unusedVariables false
set_option maxRecDepth 100000
namespace Go.Proofs.YtmoldgmfhcmceaaGreatDoor.Fe
open Go.RowKit
open Wo (Wd WdsAt keepB box_cell box_two heap_far below_alloc below_trans)

def RdV (x0 x1 x2 x3 x4 x5 : Wd) : Except (Int × Nat) Fee → Ending → Prop
  | .ok f, e => e = .returned (.tuple #[fev f, .int .i64 (-1), .int .i64 0])
  | .error y, e => ∃ (u : Fee) (k : Nat), e = .returned (.tuple #[fev u, .int .i64 (k : Nat), .int .i64 y.1]) ∧ k < 6 ∧ ∀ z, [x0, x1, x2, x3, x4, x5][k]? = some z → z.2 = y.2
set_option maxHeartbeats 16000000 in
theorem rread_any (x0 x1 x2 x3 x4 x5 : Wd) (v : Value) (w : World) (h : WdsAt All w v [x0, x1, x2, x3, x4, x5]) (hl : ∀ x ∈ [x0, x1, x2, x3, x4, x5], x.1.length ≤ 65536) :
    Calls Tryz.prog 39 #[v] w fun e w' => RdV x0 x1 x2 x3 x4 x5 (pRow x0 x1 x2 x3 x4 x5) e ∧ Below w.heap.size w w' := by
  have l1 := hl x1 (by simp)
  have l2 := hl x2 (by simp)
  have l5 := hl x5 (by simp)
  obtain ⟨b, oo, ck, rfl⟩ := wds_six h
  have hb1 := below_alloc w (.cells #[.string ⟨#[]⟩, .string ⟨#[]⟩, .int .i64 0, .int .i64 0, .int .i64 0] 45)
  have hb2 := below_alloc (w.alloc (.cells #[.string ⟨#[]⟩, .string ⟨#[]⟩, .int .i64 0, .int .i64 0, .int .i64 0] 45)) (.cells #[.string (mk x1.1), .string ⟨#[]⟩, .int .i64 0, .int .i64 0, .int .i64 0] 45)
  have hb0 := below_trans hb1 hb2
  have HZP0 := Lib.hid (keepB (heap_alloc_new w (.cells #[.string ⟨#[]⟩, .string ⟨#[]⟩, .int .i64 0, .int .i64 0, .int .i64 0] 45)) hb2)
  have hzq := heap_alloc_new (w.alloc (.cells #[.string ⟨#[]⟩, .string ⟨#[]⟩, .int .i64 0, .int .i64 0, .int .i64 0] 45)) (.cells #[.string (mk x1.1), .string ⟨#[]⟩, .int .i64 0, .int .i64 0, .int .i64 0] 45)
  rw [show (w.alloc (.cells #[.string ⟨#[]⟩, .string ⟨#[]⟩, .int .i64 0, .int .i64 0, .int .i64 0] 45)).heap.size = w.heap.size + 1 by simp] at hzq
  have HZQ0 := Lib.hid hzq
  have HB0 := Lib.hid hb0
  have HS := Lib.hid fun W' (hW : Below w.heap.size w W') => six_of (h.move (Below.moves hW))
  have HS0 := Lib.hid (six_of h)
  have HC1 := Lib.hid fun W' => Cm.rcode_any x1.1 5 5 W' (by omega)
  have HC2 := Lib.hid fun W' => Cm.rcode_any x2.1 2 2 W' (by omega)
  have HRI : Hid (∀ W' : World, Calls Tryz.prog 67 #[.string (mk x4.1), .int .i64 8] W' fun e w' => e = .returned (.tuple #[.int .i64 (Nu.riV x4.1 8), .int .i64 (Nu.riE x4.1 8)]) ∧ Below W'.heap.size W' w') := fun W' => by
    have := Nu.rreadInt_any (mk x4.1) 8 W'
    rw [mk_list] at this
    exact this
  have HRM : Hid (∀ W' : World, Calls Tryz.prog 68 #[.string (mk x5.1)] W' fun e w' => e = .returned (.tuple #[.int .i64 (Nu.mnV x5.1), .int .i64 (Nu.mnE x5.1)]) ∧ Below W'.heap.size W' w') := fun W' => by
    have := Nu.rreadMoney_any (mk x5.1) W' (by rw [mk_size]; unfold maxLen; omega)
    rw [mk_list] at this
    exact this
  have HGd := Lib.hid fun W' => Da.rgood_b (Nu.riV x4.1 8) W'
  obtain ⟨RES, HRES⟩ : ∃ z, Hid (pRow x0 x1 x2 x3 x4 x5 = z) := ⟨pRow x0 x1 x2 x3 x4 x5, (rfl : pRow x0 x1 x2 x3 x4 x5 = _)⟩
  have HQ := HRES
  rw [HRES.out]
  unfold pRow at HQ
  generalize Nu.riV x4.1 8 = NV at *
  generalize Nu.riE x4.1 8 = NE at *
  generalize Nu.mnV x5.1 = QV at *
  generalize Nu.mnE x5.1 = QE at *
  obtain ⟨CB, hCB⟩ : ∃ z, Cm.codeB x1.1 5 5 = z := ⟨_, rfl⟩
  obtain ⟨MB, hMB⟩ : ∃ z, Cm.codeB x2.1 2 2 = z := ⟨_, rfl⟩
  obtain ⟨GB, hGB⟩ : ∃ z, Da.good NV = z := ⟨_, rfl⟩
  rw [hCB] at HC1 HQ
  rw [hMB] at HC2 HQ
  rw [hGB] at HGd HQ
  clear h hl hb0 hb1 hb2 hzq l1 l2 l5 hCB hMB hGB HRES
  obtain ⟨⟨c0, d0⟩, ⟨c1, d1⟩, ⟨c2, d2⟩, ⟨c3, d3⟩, ⟨c4, d4⟩, ⟨c5, d5⟩⟩ := HS0.out
  obtain ⟨⟨g0, k0⟩, ⟨g1, k1⟩, ⟨g2, k2⟩, ⟨g3, k3⟩, ⟨g4, k4⟩, ⟨g5, k5⟩⟩ := HS.out (w.alloc (.cells #[.string ⟨#[]⟩, .string ⟨#[]⟩, .int .i64 0, .int .i64 0, .int .i64 0] 45)) (below_alloc w (.cells #[.string ⟨#[]⟩, .string ⟨#[]⟩, .int .i64 0, .int .i64 0, .int .i64 0] 45))
  go_enter Tryz.func39, Tryz.ntmps39
  go_upto_region 2 with fail
  clear c0 d0 c1 d1 c2 d2 c3 d3 c4 d4 c5 d5 g0 k0 g1 k1 g2 k2 g3 k3 g4 k4 g5 k5 HS0
  generalize (w.alloc (.cells #[.string ⟨#[]⟩, .string ⟨#[]⟩, .int .i64 0, .int .i64 0, .int .i64 0] 45)).alloc (.cells #[.string (mk x1.1), .string ⟨#[]⟩, .int .i64 0, .int .i64 0, .int .i64 0] 45) = W0 at *
  generalize hp : w.heap.size = p at *
  obtain ⟨q, hq⟩ : ∃ q, q = p + 1 := ⟨_, rfl⟩
  rw [← hq] at HZQ0 ⊢
  have hpq : p ≤ q := by omega
  have hne : p ≠ q := by omega
  clear hq
  by_cases h0 : x0.1 = tFee
  rotate_left
  · have b0 : ((mk x0.1).toList == [102, 101, 101]) = false := lit_f h0
    obtain ⟨⟨c0, d0⟩, ⟨c1, d1⟩, ⟨c2, d2⟩, ⟨c3, d3⟩, ⟨c4, d4⟩, ⟨c5, d5⟩⟩ := HS.out W0 HB0.out
    have f5 := Lib.frozen_of_heap HZQ0.out
    have f2 := Lib.frozen_of_heap HZP0.out
    obtain ⟨z0, z1, z2, z3, z4⟩ := cells5 HZQ0.out
    obtain ⟨y0, y1, y2, y3, y4⟩ := cells5 HZP0.out
    go_wp2_with fail
    clear c0 d0 c1 d1 c2 d2 c3 d3 c4 d4 c5 d5 z0 z1 z2 z3 z4 y0 y1 y2 y3 y4 f5 f2
    have hr5 := hp5_same HZP0.out (.string (mk x1.1)) (.string ⟨#[]⟩) (.int .i64 0) (.int .i64 0) (.int .i64 0)
    have hbf := below_p5 HB0.out (Nat.le_refl p) (.string (mk x1.1)) (.string ⟨#[]⟩) (.int .i64 0) (.int .i64 0) (.int .i64 0)
    simp only [put5] at hr5 hbf
    obtain ⟨FW, hFW⟩ : ∃ z, z = ((((W0.setCell ⟨p, 0, none⟩ (.string (mk x1.1))).setCell ⟨p, 1, none⟩ (.string ⟨#[]⟩)).setCell ⟨p, 2, none⟩ (.int .i64 0)).setCell ⟨p, 3, none⟩ (.int .i64 0)).setCell ⟨p, 4, none⟩ (.int .i64 0) := ⟨_, rfl⟩
    rw [← hFW] at hr5 hbf ⊢
    clear hFW
    obtain ⟨r0, r1, r2, r3, r4⟩ := cells5 hr5
    refine bodyPost_ret (v := .tuple #[.agg #[.string (mk x1.1), .string ⟨#[]⟩, .int .i64 0, .int .i64 0, .int .i64 0], .int .i64 0, .int .i64 4]) (by simp [results, Tryz.results39, go_sem, r0, r1, r2, r3, r4]) rfl ?_
    refine ⟨?_, by first | exact hbf | (rw [hp]; exact hbf)⟩
    have HX := HQ.out
    rw [if_neg h0] at HX
    rw [← HX]
    exact ⟨⟨x1.1, [], 0, 0, 0⟩, 0, rfl, by decide, fun z hz => by obtain rfl := Option.some.inj hz; rfl⟩
  have b0 : ((mk x0.1).toList == [102, 101, 101]) = true := lit_t h0
  rw [if_pos h0] at HQ
  clear h0
  cases CB with
  | false =>
    obtain ⟨⟨c0, d0⟩, ⟨c1, d1⟩, ⟨c2, d2⟩, ⟨c3, d3⟩, ⟨c4, d4⟩, ⟨c5, d5⟩⟩ := HS.out W0 HB0.out
    have f5 := Lib.frozen_of_heap HZQ0.out
    have f2 := Lib.frozen_of_heap HZP0.out
    obtain ⟨z0, z1, z2, z3, z4⟩ := cells5 HZQ0.out
    obtain ⟨y0, y1, y2, y3, y4⟩ := cells5 HZP0.out
    go_wp2_with (go_at_call 46; refine (HC1.out _).mono ?_; rintro e w9 ⟨rfl, hw9⟩; rw [hw9]; clear hw9 w9)
    clear c0 d0 c1 d1 c2 d2 c3 d3 c4 d4 c5 d5 z0 z1 z2 z3 z4 y0 y1 y2 y3 y4 f5 f2
    have hr5 := hp5_same HZP0.out (.string (mk x1.1)) (.string ⟨#[]⟩) (.int .i64 0) (.int .i64 0) (.int .i64 0)
    have hbf := below_p5 HB0.out (Nat.le_refl p) (.string (mk x1.1)) (.string ⟨#[]⟩) (.int .i64 0) (.int .i64 0) (.int .i64 0)
    simp only [put5] at hr5 hbf
    obtain ⟨FW, hFW⟩ : ∃ z, z = ((((W0.setCell ⟨p, 0, none⟩ (.string (mk x1.1))).setCell ⟨p, 1, none⟩ (.string ⟨#[]⟩)).setCell ⟨p, 2, none⟩ (.int .i64 0)).setCell ⟨p, 3, none⟩ (.int .i64 0)).setCell ⟨p, 4, none⟩ (.int .i64 0) := ⟨_, rfl⟩
    rw [← hFW] at hr5 hbf ⊢
    clear hFW
    obtain ⟨r0, r1, r2, r3, r4⟩ := cells5 hr5
    refine bodyPost_ret (v := .tuple #[.agg #[.string (mk x1.1), .string ⟨#[]⟩, .int .i64 0, .int .i64 0, .int .i64 0], .int .i64 1, .int .i64 9]) (by simp [results, Tryz.results39, go_sem, r0, r1, r2, r3, r4]) rfl ?_
    refine ⟨?_, by first | exact hbf | (rw [hp]; exact hbf)⟩
    have HX := HQ.out
    rw [if_neg (by decide)] at HX
    rw [← HX]
    exact ⟨⟨x1.1, [], 0, 0, 0⟩, 1, rfl, by decide, fun z hz => by obtain rfl := Option.some.inj hz; rfl⟩
  | true =>
  rw [if_pos rfl] at HQ
  obtain ⟨V2, t2⟩ : ∃ V, ((mk x2.1).toList == [110, 111, 110, 101]) = V := ⟨_, rfl⟩
  have HV2 : Hid (V2 = true ↔ x2.1 = tNone) := by
    show _ ↔ _
    rw [← t2, mk_list']
    exact beq_iff_eq
  obtain ⟨⟨c0, d0⟩, ⟨c1, d1⟩, ⟨c2, d2⟩, ⟨c3, d3⟩, ⟨c4, d4⟩, ⟨c5, d5⟩⟩ := HS.out W0 HB0.out
  have f5 := Lib.frozen_of_heap HZQ0.out
  have f2 := Lib.frozen_of_heap HZP0.out
  obtain ⟨z0, z1, z2, z3, z4⟩ := cells5 HZQ0.out
  obtain ⟨y0, y1, y2, y3, y4⟩ := cells5 HZP0.out
  go_upto_if 30 with (go_at_call 46; refine (HC1.out _).mono ?_; rintro e w9 ⟨rfl, hw9⟩; rw [hw9]; clear hw9 w9)
  go_cut [] (fun wx => ∃ M : Tx, Hid ((if x3.1 = tOut ∨ x3.1 = tIn then (if NE = 0 ∧ GB = true then (if QE = 0 then .ok ⟨x1.1, M, if x3.1 = tOut then 1 else 0, NV, QV⟩ else .error (QE, x5.2)) else .error (7, x4.2)) else .error (4, x3.2) : Except (Int × Nat) Fee) = RES) ∧ Hid (wx.heap[q]? = some (.cells #[.string (mk x1.1), .string (mk M), .int .i64 0, .int .i64 0, .int .i64 0] 45 (0, 0))) ∧ Hid (wx.heap[p]? = some (.cells #[.string ⟨#[]⟩, .string ⟨#[]⟩, .int .i64 0, .int .i64 0, .int .i64 0] 45 (0, 0))) ∧ Hid (Below p w wx))
  case first =>
    cases V2 with
    | true =>
      have h2 := HV2.out.1 rfl
      have HQ3 : Hid ((if x3.1 = tOut ∨ x3.1 = tIn then (if NE = 0 ∧ GB = true then (if QE = 0 then .ok ⟨x1.1, [], if x3.1 = tOut then 1 else 0, NV, QV⟩ else .error (QE, x5.2)) else .error (7, x4.2)) else .error (4, x3.2) : Except (Int × Nat) Fee) = RES) := by
        have := HQ.out
        rw [if_pos (Or.inl h2), if_pos h2] at this
        exact this
      clear h2 HQ
      go_wp2
      go_meet
      exact ⟨[], HQ3.out, HZQ0.out, HZP0.out, HB0.out⟩
    | false =>
      have h2 : ¬ x2.1 = tNone := fun h => by cases HV2.out.2 h
      have H2 := Lib.hid h2
      clear h2
      cases MB with
      | false =>
        go_upto_region 8 with fail
        clear c0 d0 c1 d1 c2 d2 c3 d3 c4 d4 c5 d5 z0 z1 z2 z3 z4 y0 y1 y2 y3 y4 f5 f2
        have HZQ1 : Hid ((W0.setCell ⟨q, 1, none⟩ (.string (mk x2.1))).heap[q]? = some (.cells #[.string (mk x1.1), .string (mk x2.1), .int .i64 0, .int .i64 0, .int .i64 0] 45 (0, 0))) := heap_setCell_same W0 q 1 _ _ _ HZQ0.out
        have HZP1 : Hid ((W0.setCell ⟨q, 1, none⟩ (.string (mk x2.1))).heap[p]? = some (.cells #[.string ⟨#[]⟩, .string ⟨#[]⟩, .int .i64 0, .int .i64 0, .int .i64 0] 45 (0, 0))) := heap_far HZP0.out hne
        have HB1 := Lib.hid (HB0.out.setCell (p := ⟨q, 1, none⟩) hpq (.string (mk x2.1)))
        clear HZQ0 HZP0 HB0
        generalize W0.setCell ⟨q, 1, none⟩ (.string (mk x2.1)) = W1 at *
        obtain ⟨⟨c0, d0⟩, ⟨c1, d1⟩, ⟨c2, d2⟩, ⟨c3, d3⟩, ⟨c4, d4⟩, ⟨c5, d5⟩⟩ := HS.out W1 HB1.out
        have f5 := Lib.frozen_of_heap HZQ1.out
        have f2 := Lib.frozen_of_heap HZP1.out
        obtain ⟨z0, z1, z2, z3, z4⟩ := cells5 HZQ1.out
        obtain ⟨y0, y1, y2, y3, y4⟩ := cells5 HZP1.out
        go_wp2_with (go_at_call 46; refine (HC2.out _).mono ?_; rintro e w9 ⟨rfl, hw9⟩; rw [hw9]; clear hw9 w9)
        clear c0 d0 c1 d1 c2 d2 c3 d3 c4 d4 c5 d5 z0 z1 z2 z3 z4 y0 y1 y2 y3 y4 f5 f2
        have hr5 := hp5_same HZP1.out (.string (mk x1.1)) (.string (mk x2.1)) (.int .i64 0) (.int .i64 0) (.int .i64 0)
        have hbf := below_p5 HB1.out (Nat.le_refl p) (.string (mk x1.1)) (.string (mk x2.1)) (.int .i64 0) (.int .i64 0) (.int .i64 0)
        simp only [put5] at hr5 hbf
        obtain ⟨FW, hFW⟩ : ∃ z, z = ((((W1.setCell ⟨p, 0, none⟩ (.string (mk x1.1))).setCell ⟨p, 1, none⟩ (.string (mk x2.1))).setCell ⟨p, 2, none⟩ (.int .i64 0)).setCell ⟨p, 3, none⟩ (.int .i64 0)).setCell ⟨p, 4, none⟩ (.int .i64 0) := ⟨_, rfl⟩
        rw [← hFW] at hr5 hbf ⊢
        clear hFW
        obtain ⟨r0, r1, r2, r3, r4⟩ := cells5 hr5
        refine bodyPost_ret (v := .tuple #[.agg #[.string (mk x1.1), .string (mk x2.1), .int .i64 0, .int .i64 0, .int .i64 0], .int .i64 2, .int .i64 9]) (by simp [results, Tryz.results39, go_sem, r0, r1, r2, r3, r4]) rfl ?_
        refine ⟨?_, by first | exact hbf | (rw [hp]; exact hbf)⟩
        have HX := HQ.out
        rw [if_neg (fun h => h.elim H2.out (by decide))] at HX
        rw [← HX]
        exact ⟨⟨x1.1, x2.1, 0, 0, 0⟩, 2, rfl, by decide, fun z hz => by obtain rfl := Option.some.inj hz; rfl⟩
      | true =>
        have HQ3 : Hid ((if x3.1 = tOut ∨ x3.1 = tIn then (if NE = 0 ∧ GB = true then (if QE = 0 then .ok ⟨x1.1, x2.1, if x3.1 = tOut then 1 else 0, NV, QV⟩ else .error (QE, x5.2)) else .error (7, x4.2)) else .error (4, x3.2) : Except (Int × Nat) Fee) = RES) := by
          have := HQ.out
          rw [if_pos (Or.inr rfl), if_neg H2.out] at this
          exact this
        clear HQ
        go_upto_region 8 with fail
        clear c0 d0 c1 d1 c2 d2 c3 d3 c4 d4 c5 d5 z0 z1 z2 z3 z4 y0 y1 y2 y3 y4 f5 f2
        have HZQ1 : Hid ((W0.setCell ⟨q, 1, none⟩ (.string (mk x2.1))).heap[q]? = some (.cells #[.string (mk x1.1), .string (mk x2.1), .int .i64 0, .int .i64 0, .int .i64 0] 45 (0, 0))) := heap_setCell_same W0 q 1 _ _ _ HZQ0.out
        have HZP1 : Hid ((W0.setCell ⟨q, 1, none⟩ (.string (mk x2.1))).heap[p]? = some (.cells #[.string ⟨#[]⟩, .string ⟨#[]⟩, .int .i64 0, .int .i64 0, .int .i64 0] 45 (0, 0))) := heap_far HZP0.out hne
        have HB1 := Lib.hid (HB0.out.setCell (p := ⟨q, 1, none⟩) hpq (.string (mk x2.1)))
        clear HZQ0 HZP0 HB0
        generalize W0.setCell ⟨q, 1, none⟩ (.string (mk x2.1)) = W1 at *
        obtain ⟨⟨c0, d0⟩, ⟨c1, d1⟩, ⟨c2, d2⟩, ⟨c3, d3⟩, ⟨c4, d4⟩, ⟨c5, d5⟩⟩ := HS.out W1 HB1.out
        have f5 := Lib.frozen_of_heap HZQ1.out
        have f2 := Lib.frozen_of_heap HZP1.out
        obtain ⟨z0, z1, z2, z3, z4⟩ := cells5 HZQ1.out
        obtain ⟨y0, y1, y2, y3, y4⟩ := cells5 HZP1.out
        go_wp2_with (go_at_call 46; refine (HC2.out _).mono ?_; rintro e w9 ⟨rfl, hw9⟩; rw [hw9]; clear hw9 w9)
        go_meet
        exact ⟨x2.1, HQ3.out, HZQ1.out, HZP1.out, HB1.out⟩
  case rest =>
  clear HQ HZQ0 HZP0 HB0 HV2 HC1 HC2 c0 d0 c1 d1 c2 d2 c3 d3 c4 d4 c5 d5 z0 z1 z2 z3 z4 y0 y1 y2 y3 y4 f5 f2
  obtain ⟨M, HQ, HZQ1, HZP1, HB1⟩ := hcut
  obtain ⟨W1, hW1⟩ : ∃ x, x = wc := ⟨_, rfl⟩
  subst hW1
  obtain ⟨V3, t3⟩ : ∃ V, ((mk x3.1).toList == [111, 117, 116]) = V := ⟨_, rfl⟩
  obtain ⟨V4, t4⟩ : ∃ V, ((mk x3.1).toList == [105, 110]) = V := ⟨_, rfl⟩
  have HV3 : Hid (V3 = true ↔ x3.1 = tOut) := by show _ ↔ _; rw [← t3, mk_list']; exact beq_iff_eq
  have HV4 : Hid (V4 = true ↔ x3.1 = tIn) := by show _ ↔ _; rw [← t4, mk_list']; exact beq_iff_eq
  obtain ⟨⟨c0, d0⟩, ⟨c1, d1⟩, ⟨c2, d2⟩, ⟨c3, d3⟩, ⟨c4, d4⟩, ⟨c5, d5⟩⟩ := HS.out W1 HB1.out
  have f5 := Lib.frozen_of_heap HZQ1.out
  have f2 := Lib.frozen_of_heap HZP1.out
  obtain ⟨z0, z1, z2, z3, z4⟩ := cells5 HZQ1.out
  obtain ⟨y0, y1, y2, y3, y4⟩ := cells5 HZP1.out
  go_upto_if 45 with fail
  go_cut [] (fun wx => ∃ N : Int, Hid ((if NE = 0 ∧ GB = true then (if QE = 0 then .ok ⟨x1.1, M, N, NV, QV⟩ else .error (QE, x5.2)) else .error (7, x4.2) : Except (Int × Nat) Fee) = RES) ∧ Hid (wx.heap[q]? = some (.cells #[.string (mk x1.1), .string (mk M), .int .i64 N, .int .i64 0, .int .i64 0] 45 (0, 0))) ∧ Hid (wx.heap[p]? = some (.cells #[.string ⟨#[]⟩, .string ⟨#[]⟩, .int .i64 0, .int .i64 0, .int .i64 0] 45 (0, 0))) ∧ Hid (Below p w wx))
  case first =>
    cases V3 with
    | true =>
      have h3 := HV3.out.1 rfl
      have HQ4 : Hid ((if NE = 0 ∧ GB = true then (if QE = 0 then .ok ⟨x1.1, M, 1, NV, QV⟩ else .error (QE, x5.2)) else .error (7, x4.2) : Except (Int × Nat) Fee) = RES) := by
        have := HQ.out
        rw [if_pos (Or.inl h3), if_pos h3] at this
        exact this
      clear h3 HQ
      have HZQ2 : Hid ((W1.setCell ⟨q, 2, none⟩ (.int .i64 1)).heap[q]? = some (.cells #[.string (mk x1.1), .string (mk M), .int .i64 1, .int .i64 0, .int .i64 0] 45 (0, 0))) := heap_setCell_same W1 q 2 _ _ _ HZQ1.out
      have HZP2 : Hid ((W1.setCell ⟨q, 2, none⟩ (.int .i64 1)).heap[p]? = some (.cells #[.string ⟨#[]⟩, .string ⟨#[]⟩, .int .i64 0, .int .i64 0, .int .i64 0] 45 (0, 0))) := heap_far HZP1.out hne
      have HB2 := Lib.hid (HB1.out.setCell (p := ⟨q, 2, none⟩) hpq (.int .i64 1))
      go_wp2
      go_meet
      exact ⟨1, HQ4.out, HZQ2.out, HZP2.out, HB2.out⟩
    | false =>
      have h3 : ¬ x3.1 = tOut := fun h => by cases HV3.out.2 h
      cases V4 with
      | true =>
        have h4 := HV4.out.1 rfl
        have HQ4 : Hid ((if NE = 0 ∧ GB = true then (if QE = 0 then .ok ⟨x1.1, M, 0, NV, QV⟩ else .error (QE, x5.2)) else .error (7, x4.2) : Except (Int × Nat) Fee) = RES) := by
          have := HQ.out
          rw [if_pos (Or.inr h4), if_neg h3] at this
          exact this
        clear h3 h4 HQ
        go_wp2
        go_meet
        exact ⟨0, HQ4.out, HZQ1.out, HZP1.out, HB1.out⟩
      | false =>
        have h4 : ¬ x3.1 = tIn := fun h => by cases HV4.out.2 h
        have H34 := Lib.hid (And.intro h3 h4)
        clear h3 h4
        go_wp2
        clear c0 d0 c1 d1 c2 d2 c3 d3 c4 d4 c5 d5 z0 z1 z2 z3 z4 y0 y1 y2 y3 y4 f5 f2
        have hr5 := hp5_same HZP1.out (.string (mk x1.1)) (.string (mk M)) (.int .i64 0) (.int .i64 0) (.int .i64 0)
        have hbf := below_p5 HB1.out (Nat.le_refl p) (.string (mk x1.1)) (.string (mk M)) (.int .i64 0) (.int .i64 0) (.int .i64 0)
        simp only [put5] at hr5 hbf
        obtain ⟨FW, hFW⟩ : ∃ z, z = ((((W1.setCell ⟨p, 0, none⟩ (.string (mk x1.1))).setCell ⟨p, 1, none⟩ (.string (mk M))).setCell ⟨p, 2, none⟩ (.int .i64 0)).setCell ⟨p, 3, none⟩ (.int .i64 0)).setCell ⟨p, 4, none⟩ (.int .i64 0) := ⟨_, rfl⟩
        rw [← hFW] at hr5 hbf ⊢
        clear hFW
        obtain ⟨r0, r1, r2, r3, r4⟩ := cells5 hr5
        refine bodyPost_ret (v := .tuple #[.agg #[.string (mk x1.1), .string (mk M), .int .i64 0, .int .i64 0, .int .i64 0], .int .i64 3, .int .i64 4]) (by simp [results, Tryz.results39, go_sem, r0, r1, r2, r3, r4]) rfl ?_
        refine ⟨?_, by first | exact hbf | (rw [hp]; exact hbf)⟩
        have HX := HQ.out
        rw [if_neg (fun h => h.elim H34.out.1 H34.out.2)] at HX
        rw [← HX]
        exact ⟨⟨x1.1, M, 0, 0, 0⟩, 3, rfl, by decide, fun z hz => by obtain rfl := Option.some.inj hz; rfl⟩
  case rest =>
  clear HQ HZQ1 HZP1 HB1 HV3 HV4 c0 d0 c1 d1 c2 d2 c3 d3 c4 d4 c5 d5 z0 z1 z2 z3 z4 y0 y1 y2 y3 y4 f5 f2
  obtain ⟨N, HQ, HZQ3, HZP3, HB3⟩ := hcut
  obtain ⟨W3, hW3⟩ : ∃ x, x = wc := ⟨_, rfl⟩
  subst hW3
  obtain ⟨⟨c0, d0⟩, ⟨c1, d1⟩, ⟨c2, d2⟩, ⟨c3, d3⟩, ⟨c4, d4⟩, ⟨c5, d5⟩⟩ := HS.out W3 HB3.out
  have f5 := Lib.frozen_of_heap HZQ3.out
  have f2 := Lib.frozen_of_heap HZP3.out
  obtain ⟨z0, z1, z2, z3, z4⟩ := cells5 HZQ3.out
  obtain ⟨y0, y1, y2, y3, y4⟩ := cells5 HZP3.out
  go_wp2_with fail
  go_at_call 67
  refine (HRI.out _).mono ?_
  rintro e W4 ⟨rfl, hb⟩
  clear c0 d0 c1 d1 c2 d2 c3 d3 c4 d4 c5 d5 z0 z1 z2 z3 z4 y0 y1 y2 y3 y4 f5 f2
  have HZQ4 := Lib.hid (keepB HZQ3.out hb)
  have HZP4 := Lib.hid (keepB HZP3.out hb)
  have HB4 := Lib.hid (below_tr hp HB3.out hb)
  clear hb HZQ3 HZP3 HB3
  by_cases h4 : NE = 0
  rotate_left
  · have q1 : (NE != 0) = true := by simpa using h4
    obtain ⟨⟨c0, d0⟩, ⟨c1, d1⟩, ⟨c2, d2⟩, ⟨c3, d3⟩, ⟨c4, d4⟩, ⟨c5, d5⟩⟩ := HS.out W4 HB4.out
    have f5 := Lib.frozen_of_heap HZQ4.out
    have f2 := Lib.frozen_of_heap HZP4.out
    obtain ⟨z0, z1, z2, z3, z4⟩ := cells5 HZQ4.out
    obtain ⟨y0, y1, y2, y3, y4⟩ := cells5 HZP4.out
    go_wp2_with fail
    clear c0 d0 c1 d1 c2 d2 c3 d3 c4 d4 c5 d5 z0 z1 z2 z3 z4 y0 y1 y2 y3 y4 f5 f2
    have hr5 := hp5_same HZP4.out (.string (mk x1.1)) (.string (mk M)) (.int .i64 N) (.int .i64 0) (.int .i64 0)
    have hbf := below_p5 HB4.out (Nat.le_refl p) (.string (mk x1.1)) (.string (mk M)) (.int .i64 N) (.int .i64 0) (.int .i64 0)
    simp only [put5] at hr5 hbf
    obtain ⟨FW, hFW⟩ : ∃ z, z = ((((W4.setCell ⟨p, 0, none⟩ (.string (mk x1.1))).setCell ⟨p, 1, none⟩ (.string (mk M))).setCell ⟨p, 2, none⟩ (.int .i64 N)).setCell ⟨p, 3, none⟩ (.int .i64 0)).setCell ⟨p, 4, none⟩ (.int .i64 0) := ⟨_, rfl⟩
    rw [← hFW] at hr5 hbf ⊢
    clear hFW
    obtain ⟨r0, r1, r2, r3, r4⟩ := cells5 hr5
    refine bodyPost_ret (v := .tuple #[.agg #[.string (mk x1.1), .string (mk M), .int .i64 N, .int .i64 0, .int .i64 0], .int .i64 4, .int .i64 7]) (by simp [results, Tryz.results39, go_sem, r0, r1, r2, r3, r4]) rfl ?_
    refine ⟨?_, by first | exact hbf | (rw [hp]; exact hbf)⟩
    have HX := HQ.out
    rw [if_neg (fun h => h4 h.1)] at HX
    rw [← HX]
    exact ⟨⟨x1.1, M, N, 0, 0⟩, 4, rfl, by decide, fun z hz => by obtain rfl := Option.some.inj hz; rfl⟩
  have q1 : (NE != 0) = false := by rw [h4]; rfl
  cases GB with
  | false =>
    obtain ⟨⟨c0, d0⟩, ⟨c1, d1⟩, ⟨c2, d2⟩, ⟨c3, d3⟩, ⟨c4, d4⟩, ⟨c5, d5⟩⟩ := HS.out W4 HB4.out
    have f5 := Lib.frozen_of_heap HZQ4.out
    have f2 := Lib.frozen_of_heap HZP4.out
    obtain ⟨z0, z1, z2, z3, z4⟩ := cells5 HZQ4.out
    obtain ⟨y0, y1, y2, y3, y4⟩ := cells5 HZP4.out
    go_wp2_with fail
    go_at_call 47
    refine (HGd.out _).mono ?_
    rintro e W5 ⟨rfl, hb⟩
    clear c0 d0 c1 d1 c2 d2 c3 d3 c4 d4 c5 d5 z0 z1 z2 z3 z4 y0 y1 y2 y3 y4 f5 f2
    have HZQ5 := Lib.hid (keepB HZQ4.out hb)
    have HZP5 := Lib.hid (keepB HZP4.out hb)
    have HB5 := Lib.hid (below_tr hp HB4.out hb)
    clear hb HZQ4 HZP4 HB4
    obtain ⟨⟨c0, d0⟩, ⟨c1, d1⟩, ⟨c2, d2⟩, ⟨c3, d3⟩, ⟨c4, d4⟩, ⟨c5, d5⟩⟩ := HS.out W5 HB5.out
    have f5 := Lib.frozen_of_heap HZQ5.out
    have f2 := Lib.frozen_of_heap HZP5.out
    obtain ⟨z0, z1, z2, z3, z4⟩ := cells5 HZQ5.out
    obtain ⟨y0, y1, y2, y3, y4⟩ := cells5 HZP5.out
    go_wp2_with fail
    clear c0 d0 c1 d1 c2 d2 c3 d3 c4 d4 c5 d5 z0 z1 z2 z3 z4 y0 y1 y2 y3 y4 f5 f2
    have hr5 := hp5_same HZP5.out (.string (mk x1.1)) (.string (mk M)) (.int .i64 N) (.int .i64 0) (.int .i64 0)
    have hbf := below_p5 HB5.out (Nat.le_refl p) (.string (mk x1.1)) (.string (mk M)) (.int .i64 N) (.int .i64 0) (.int .i64 0)
    simp only [put5] at hr5 hbf
    obtain ⟨FW, hFW⟩ : ∃ z, z = ((((W5.setCell ⟨p, 0, none⟩ (.string (mk x1.1))).setCell ⟨p, 1, none⟩ (.string (mk M))).setCell ⟨p, 2, none⟩ (.int .i64 N)).setCell ⟨p, 3, none⟩ (.int .i64 0)).setCell ⟨p, 4, none⟩ (.int .i64 0) := ⟨_, rfl⟩
    rw [← hFW] at hr5 hbf ⊢
    clear hFW
    obtain ⟨r0, r1, r2, r3, r4⟩ := cells5 hr5
    refine bodyPost_ret (v := .tuple #[.agg #[.string (mk x1.1), .string (mk M), .int .i64 N, .int .i64 0, .int .i64 0], .int .i64 4, .int .i64 7]) (by simp [results, Tryz.results39, go_sem, r0, r1, r2, r3, r4]) rfl ?_
    refine ⟨?_, by first | exact hbf | (rw [hp]; exact hbf)⟩
    have HX := HQ.out
    rw [if_neg (fun h => by cases h.2)] at HX
    rw [← HX]
    exact ⟨⟨x1.1, M, N, 0, 0⟩, 4, rfl, by decide, fun z hz => by obtain rfl := Option.some.inj hz; rfl⟩
  | true =>
  obtain ⟨⟨c0, d0⟩, ⟨c1, d1⟩, ⟨c2, d2⟩, ⟨c3, d3⟩, ⟨c4, d4⟩, ⟨c5, d5⟩⟩ := HS.out W4 HB4.out
  have f5 := Lib.frozen_of_heap HZQ4.out
  have f2 := Lib.frozen_of_heap HZP4.out
  obtain ⟨z0, z1, z2, z3, z4⟩ := cells5 HZQ4.out
  obtain ⟨y0, y1, y2, y3, y4⟩ := cells5 HZP4.out
  rw [if_pos ⟨h4, rfl⟩] at HQ
  clear h4
  go_wp2_with fail
  go_at_call 47
  refine (HGd.out _).mono ?_
  rintro e W5 ⟨rfl, hb⟩
  clear c0 d0 c1 d1 c2 d2 c3 d3 c4 d4 c5 d5 z0 z1 z2 z3 z4 y0 y1 y2 y3 y4 f5 f2
  have HZQ5 := Lib.hid (keepB HZQ4.out hb)
  have HZP5 := Lib.hid (keepB HZP4.out hb)
  have HB5 := Lib.hid (below_tr hp HB4.out hb)
  clear hb HZQ4 HZP4 HB4
  obtain ⟨⟨c0, d0⟩, ⟨c1, d1⟩, ⟨c2, d2⟩, ⟨c3, d3⟩, ⟨c4, d4⟩, ⟨c5, d5⟩⟩ := HS.out W5 HB5.out
  have f5 := Lib.frozen_of_heap HZQ5.out
  have f2 := Lib.frozen_of_heap HZP5.out
  obtain ⟨z0, z1, z2, z3, z4⟩ := cells5 HZQ5.out
  obtain ⟨y0, y1, y2, y3, y4⟩ := cells5 HZP5.out
  go_upto_region 18 with fail
  clear c0 d0 c1 d1 c2 d2 c3 d3 c4 d4 c5 d5 z0 z1 z2 z3 z4 y0 y1 y2 y3 y4 f5 f2
  have HZQ6 : Hid ((W5.setCell ⟨q, 3, none⟩ (.int .i64 NV)).heap[q]? = some (.cells #[.string (mk x1.1), .string (mk M), .int .i64 N, .int .i64 NV, .int .i64 0] 45 (0, 0))) := heap_setCell_same W5 q 3 _ _ _ HZQ5.out
  have HZP6 : Hid ((W5.setCell ⟨q, 3, none⟩ (.int .i64 NV)).heap[p]? = some (.cells #[.string ⟨#[]⟩, .string ⟨#[]⟩, .int .i64 0, .int .i64 0, .int .i64 0] 45 (0, 0))) := heap_far HZP5.out hne
  have HB6 := Lib.hid (HB5.out.setCell (p := ⟨q, 3, none⟩) hpq (.int .i64 NV))
  clear HZQ5 HZP5 HB5
  generalize W5.setCell ⟨q, 3, none⟩ (.int .i64 NV) = W6 at *
  obtain ⟨⟨c0, d0⟩, ⟨c1, d1⟩, ⟨c2, d2⟩, ⟨c3, d3⟩, ⟨c4, d4⟩, ⟨c5, d5⟩⟩ := HS.out W6 HB6.out
  have f5 := Lib.frozen_of_heap HZQ6.out
  have f2 := Lib.frozen_of_heap HZP6.out
  obtain ⟨z0, z1, z2, z3, z4⟩ := cells5 HZQ6.out
  obtain ⟨y0, y1, y2, y3, y4⟩ := cells5 HZP6.out
  go_wp2_with fail
  go_at_call 68
  refine (HRM.out _).mono ?_
  rintro e W7 ⟨rfl, hb⟩
  clear c0 d0 c1 d1 c2 d2 c3 d3 c4 d4 c5 d5 z0 z1 z2 z3 z4 y0 y1 y2 y3 y4 f5 f2
  have HZQ7 := Lib.hid (keepB HZQ6.out hb)
  have HZP7 := Lib.hid (keepB HZP6.out hb)
  have HB7 := Lib.hid (below_tr hp HB6.out hb)
  clear hb HZQ6 HZP6 HB6
  obtain ⟨⟨c0, d0⟩, ⟨c1, d1⟩, ⟨c2, d2⟩, ⟨c3, d3⟩, ⟨c4, d4⟩, ⟨c5, d5⟩⟩ := HS.out W7 HB7.out
  have f5 := Lib.frozen_of_heap HZQ7.out
  have f2 := Lib.frozen_of_heap HZP7.out
  obtain ⟨z0, z1, z2, z3, z4⟩ := cells5 HZQ7.out
  obtain ⟨y0, y1, y2, y3, y4⟩ := cells5 HZP7.out
  go_upto_region 20 with fail
  clear c0 d0 c1 d1 c2 d2 c3 d3 c4 d4 c5 d5 z0 z1 z2 z3 z4 y0 y1 y2 y3 y4 f5 f2
  have HZQ8 : Hid ((W7.setCell ⟨q, 4, none⟩ (.int .i64 QV)).heap[q]? = some (.cells #[.string (mk x1.1), .string (mk M), .int .i64 N, .int .i64 NV, .int .i64 QV] 45 (0, 0))) := heap_setCell_same W7 q 4 _ _ _ HZQ7.out
  have HZP8 : Hid ((W7.setCell ⟨q, 4, none⟩ (.int .i64 QV)).heap[p]? = some (.cells #[.string ⟨#[]⟩, .string ⟨#[]⟩, .int .i64 0, .int .i64 0, .int .i64 0] 45 (0, 0))) := heap_far HZP7.out hne
  have HB8 := Lib.hid (HB7.out.setCell (p := ⟨q, 4, none⟩) hpq (.int .i64 QV))
  clear HZQ7 HZP7 HB7
  generalize W7.setCell ⟨q, 4, none⟩ (.int .i64 QV) = W8 at *
  by_cases h5 : QE = 0
  rotate_left
  · have q2 : (QE != 0) = true := by simpa using h5
    have H5 := Lib.hid h5
    clear h5
    obtain ⟨⟨c0, d0⟩, ⟨c1, d1⟩, ⟨c2, d2⟩, ⟨c3, d3⟩, ⟨c4, d4⟩, ⟨c5, d5⟩⟩ := HS.out W8 HB8.out
    have f5 := Lib.frozen_of_heap HZQ8.out
    have f2 := Lib.frozen_of_heap HZP8.out
    obtain ⟨z0, z1, z2, z3, z4⟩ := cells5 HZQ8.out
    obtain ⟨y0, y1, y2, y3, y4⟩ := cells5 HZP8.out
    go_wp2_with fail
    clear c0 d0 c1 d1 c2 d2 c3 d3 c4 d4 c5 d5 z0 z1 z2 z3 z4 y0 y1 y2 y3 y4 f5 f2
    have hr5 := hp5_same HZP8.out (.string (mk x1.1)) (.string (mk M)) (.int .i64 N) (.int .i64 NV) (.int .i64 QV)
    have hbf := below_p5 HB8.out (Nat.le_refl p) (.string (mk x1.1)) (.string (mk M)) (.int .i64 N) (.int .i64 NV) (.int .i64 QV)
    simp only [put5] at hr5 hbf
    obtain ⟨FW, hFW⟩ : ∃ z, z = ((((W8.setCell ⟨p, 0, none⟩ (.string (mk x1.1))).setCell ⟨p, 1, none⟩ (.string (mk M))).setCell ⟨p, 2, none⟩ (.int .i64 N)).setCell ⟨p, 3, none⟩ (.int .i64 NV)).setCell ⟨p, 4, none⟩ (.int .i64 QV) := ⟨_, rfl⟩
    rw [← hFW] at hr5 hbf ⊢
    clear hFW
    obtain ⟨r0, r1, r2, r3, r4⟩ := cells5 hr5
    refine bodyPost_ret (v := .tuple #[.agg #[.string (mk x1.1), .string (mk M), .int .i64 N, .int .i64 NV, .int .i64 QV], .int .i64 5, .int .i64 QE]) (by simp [results, Tryz.results39, go_sem, r0, r1, r2, r3, r4]) rfl ?_
    refine ⟨?_, by first | exact hbf | (rw [hp]; exact hbf)⟩
    have HX := HQ.out
    rw [if_neg H5.out] at HX
    rw [← HX]
    exact ⟨⟨x1.1, M, N, NV, QV⟩, 5, rfl, by decide, fun z hz => by obtain rfl := Option.some.inj hz; rfl⟩
  have q2 : (QE != 0) = false := by rw [h5]; rfl
  have H5 := Lib.hid h5
  clear h5
  obtain ⟨⟨c0, d0⟩, ⟨c1, d1⟩, ⟨c2, d2⟩, ⟨c3, d3⟩, ⟨c4, d4⟩, ⟨c5, d5⟩⟩ := HS.out W8 HB8.out
  have f5 := Lib.frozen_of_heap HZQ8.out
  have f2 := Lib.frozen_of_heap HZP8.out
  obtain ⟨z0, z1, z2, z3, z4⟩ := cells5 HZQ8.out
  obtain ⟨y0, y1, y2, y3, y4⟩ := cells5 HZP8.out
  go_wp2_with fail
  clear c0 d0 c1 d1 c2 d2 c3 d3 c4 d4 c5 d5 z0 z1 z2 z3 z4 y0 y1 y2 y3 y4 f5 f2
  have hr5 := hp5_same HZP8.out (.string (mk x1.1)) (.string (mk M)) (.int .i64 N) (.int .i64 NV) (.int .i64 QV)
  have hbf := below_p5 HB8.out (Nat.le_refl p) (.string (mk x1.1)) (.string (mk M)) (.int .i64 N) (.int .i64 NV) (.int .i64 QV)
  simp only [put5] at hr5 hbf
  obtain ⟨FW, hFW⟩ : ∃ z, z = ((((W8.setCell ⟨p, 0, none⟩ (.string (mk x1.1))).setCell ⟨p, 1, none⟩ (.string (mk M))).setCell ⟨p, 2, none⟩ (.int .i64 N)).setCell ⟨p, 3, none⟩ (.int .i64 NV)).setCell ⟨p, 4, none⟩ (.int .i64 QV) := ⟨_, rfl⟩
  rw [← hFW] at hr5 hbf ⊢
  clear hFW
  obtain ⟨r0, r1, r2, r3, r4⟩ := cells5 hr5
  refine bodyPost_ret (v := .tuple #[.agg #[.string (mk x1.1), .string (mk M), .int .i64 N, .int .i64 NV, .int .i64 QV], .int .i64 (-1), .int .i64 0]) (by simp [results, Tryz.results39, go_sem, r0, r1, r2, r3, r4]) rfl ?_
  refine ⟨?_, by first | exact hbf | (rw [hp]; exact hbf)⟩
  have HX := HQ.out
  rw [if_pos H5.out] at HX
  rw [← HX]
  rfl
end Go.Proofs.YtmoldgmfhcmceaaGreatDoor.Fe
end
