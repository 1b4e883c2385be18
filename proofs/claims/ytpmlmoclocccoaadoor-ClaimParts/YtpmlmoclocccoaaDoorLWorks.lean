/-
  The laws' example: that works answers true.
-/
import Derived.Test.YtpmlmoclocccoaaDoorLCopy
import Derived.Test.YtpmlmoclocccoaaDoorLSame
set_option linter.unusedSimpArgs false
namespace Go.Proofs.YtpmlmoclocccoaaDoor.Cm
open Go.RowKit
open Classical

def exLn : Ln := ⟨[57, 57, 50, 49, 51], [], 20240301, 1, 100, 0⟩
def exC : Cl := ⟨[67, 49], [77, 49], [70, 49], 0, 1, [], [exLn]⟩
def exD : Cl := ⟨[67, 49], [77, 49], [70, 49], 0, 8, [], [exLn]⟩
def exN : Ln := ⟨[], [], 0, 0, 0, 0⟩
theorem ex_check : checkE exC = 0 ∧ checkE exD = 9 ∧ lineE exN = 9 ∧ batchE (-1) [] = 3 ∧ codeB [57, 57, 50, 49, 51] 5 5 = true := by decide +kernel
theorem ex_total : totV exC.lines = 100 ∧ totE exC.lines = 0 := by decide +kernel
theorem ex_same : decide (exC = exC) = true ∧ decide (exC = exD) = false := ⟨decide_eq_true rfl, decide_eq_false (by simp [exC, exD])⟩
theorem ok_ln : LnOk exLn := by unfold LnOk exLn I64; simp
theorem ok_C : ClOk exC := ⟨by unfold I64 exC; simp, by unfold I64 exC; simp, by simp [exC], by simp [exC], by simp [exC], by simp [exC], by simp [exC], fun x hx => by simp [exC] at hx; rw [hx]; exact ok_ln⟩
theorem ok_D : ClOk exD := ⟨by unfold I64 exD; simp, by unfold I64 exD; simp, by simp [exD], by simp [exD], by simp [exD], by simp [exD], by simp [exD], fun x hx => by simp [exD] at hx; rw [hx]; exact ok_ln⟩
theorem ok_N : LnOk exN := by unfold LnOk exN I64; simp
abbrev exM (w : World) : Value := .slice (some ⟨w.heap.size, 0, none⟩) 1 1
abbrev exO : Obj := .cells #[.string { data := #[57, 57, 50, 49, 51] }, .slice none 0 0, .int .i64 20240301, .int .i64 1, .int .i64 100, .int .i64 0] 35
theorem ex_lines (w : World) : LnsAt All (w.alloc exO) (exM w) [exLn] := by
  refine ⟨_, 1, rfl, by simp, by simp [maxLen], Or.inr ⟨w.heap.size, 0, rfl, trivial, by simp, fun j x hj => ?_⟩⟩
  match j, hj with
  | 0, hj =>
    simp at hj
    subst hj
    refine ⟨.slice none 0 0, ?_, TxAt.nil _ _⟩
    refine ⟨?_, ?_, ?_, ?_, ?_, ?_⟩ <;> simp [exLn, mk]

/-- All that the example lays, while the rest is made. -/
structure Ex (w : World) (b d : Nat) (m u : Value) (D : Cl) (W : World) : Prop where
  boxC : ClBox W b exC m
  boxD : ClBox W d D u
  lnC : LnsAt (fun x => x < d) W m exC.lines
  lnD : LnsAt (fun x => x < d) W u exC.lines
  tab : Da.Tab W
  bel : Below w.heap.size w W
  far : w.heap.size ≤ d ∧ 0 < d ∧ b ≠ d
theorem lo_moves {w w' : World} {d : Nat} (hb : Below w.heap.size w w') : Moves (fun x => x < d) (fun x => x < d) w w' := ⟨hb.size, fun b hb' hk => ⟨hk, hb.block b hb'⟩⟩
theorem lo_all {w : World} {d : Nat} {v : Value} {ls : List Ln} (h : LnsAt (fun x => x < d) w v ls) : LnsAt All w v ls := LnsAt.move h (moves_weak w fun _ _ _ => trivial)
theorem Ex.grw {w : World} {b d : Nat} {m u : Value} {D : Cl} {W W' : World} (h : Ex w b d m u D W) (hb : Below W.heap.size W W') : Ex w b d m u D W' :=
  ⟨h.boxC.grw hb, h.boxD.grw hb, LnsAt.move h.lnC (lo_moves hb), LnsAt.move h.lnD (lo_moves hb), tab_below h.tab hb, below_trans h.bel hb, h.far⟩
theorem Ex.void {w : World} {b d : Nat} {m u : Value} {W : World} (h : Ex w b d m u exC W) : Ex w b d m u exD (W.setCell ⟨d, 4, none⟩ (.int .i64 8)) := by
  obtain ⟨hC, hD, l1, l2, ht, hb, f1, f2, f3⟩ := h
  have hblk : ∀ x, x ≠ d → (W.setCell ⟨d, 4, none⟩ (.int .i64 8)).heap[x]? = W.heap[x]? := fun x hx => Below.heap_setCell _ _ _ _ hx
  have hm : Moves (fun x => x < d) (fun x => x < d) W (W.setCell ⟨d, 4, none⟩ (.int .i64 8)) := ⟨by simp, fun x _ hk => ⟨hk, hblk x (Nat.ne_of_lt hk)⟩⟩
  refine ⟨?_, ?_, LnsAt.move l1 hm, LnsAt.move l2 hm, fun i hi => ?_, hb.setCell (p := ⟨d, 4, none⟩) f1 _, f1, f2, f3⟩
  · obtain ⟨h0, h1, h2, h3, h4, h5, h6⟩ := hC
    refine ⟨?_, ?_, ?_, ?_, ?_, ?_, ?_⟩ <;> rw [World.cell?_of_block (w := W) (hblk b f3)] <;> assumption
  · obtain ⟨h0, h1, h2, h3, h4, h5, h6⟩ := hD
    have e : ∀ i, i ≠ 4 → (W.setCell ⟨d, 4, none⟩ (.int .i64 8)).cell? ⟨d, i, none⟩ = W.cell? ⟨d, i, none⟩ := fun i hi => by
      exact World.cell?_setCell_other _ _ _ _ (by intro h; injection h with h1 h2; exact hi h2.symm)
    refine ⟨(e 0 (by omega)).trans h0, (e 1 (by omega)).trans h1, (e 2 (by omega)).trans h2, (e 3 (by omega)).trans h3, ?_, (e 5 (by omega)).trans h5, (e 6 (by omega)).trans h6⟩
    exact World.cell?_setCell_same _ _ _ h4
  · rw [World.cell?_of_block (w := W) (hblk _ (Nat.ne_of_lt f2))]
    exact ht i hi

set_option maxHeartbeats 4000000 in
theorem works_any (w : World) (hT : Da.Tab w) :
    Calls Tryd.prog 10 #[] w fun e w' => e = .returned (.bool true) ∧ Below w.heap.size w w' := by
  obtain ⟨k1, k2, k3, k4, k5⟩ := ex_check
  obtain ⟨t1, t2⟩ := ex_total
  have hb1 := below_trans (below_alloc w exO) (below_alloc (w.alloc exO) (boxc exC (exM w)))
  have HX : Hid (∀ W, Below ((w.alloc exO).alloc (boxc exC (exM w))).heap.size ((w.alloc exO).alloc (boxc exC (exM w))) W → ClBox W (w.heap.size + 1) exC (exM w) ∧ LnsAt All W (exM w) exC.lines ∧ Da.Tab W ∧ Below w.heap.size w W) := fun W hb => by
    refine ⟨?_, LnsAt.move (ex_lines w) (Below.moves (below_trans (below_alloc _ _) hb)), tab_below (tab_below hT hb1) hb, below_trans hb1 hb⟩
    have := (ClBox.new (w.alloc exO) exC (exM w) 24).grw hb
    rwa [show (w.alloc exO).heap.size = w.heap.size + 1 from by simp] at this
  have HTo := Lib.hid fun W (h : LnsAt All W (exM w) exC.lines) => total_any exC (exM w) W h (by simp [exC])
  have HCo := Lib.hid fun W (h : LnsAt All W (exM w) exC.lines) => copy_any exC (exM w) W h (by simp [exC]) (fun x hx => by simp [exC] at hx; rw [hx]; simp [exLn])
  have HCk := Lib.hid fun W (h : LnsAt All W (exM w) exC.lines) (hT : Da.Tab W) => check_any exC (exM w) W h ok_C hT
  rw [t1, t2] at HTo
  rw [k1] at HCk
  have HB0 : Hid (Below ((w.alloc exO).alloc (boxc exC (exM w))).heap.size ((w.alloc exO).alloc (boxc exC (exM w))) ((w.alloc exO).alloc (boxc exC (exM w)))) := Below.refl _ _
  clear hb1 hT
  go_enter Tryd.func10, Tryd.ntmps10
  go_wp2_with fail
  go_at_call 11
  refine (HTo.out _ (HX.out _ HB0.out).2.1).mono ?_
  rintro e w1 ⟨rfl, hb⟩
  have HB1 := Lib.hid (below_trans HB0.out hb)
  obtain ⟨⟨a0, a1, a2, a3, a4, a5, a6⟩, -, -, -⟩ := HX.out _ HB1.out
  clear hb
  go_wp2_with fail
  go_at_call 23
  refine (HCo.out _ (HX.out _ HB1.out).2.1).mono ?_
  rintro e w2 ⟨⟨u, rfl, hu⟩, hb⟩
  have HB2 := Lib.hid (below_trans HB1.out hb)
  have hU := NewLns.at hu (by simp [exC, maxLen]) (fun x hx => by simp [exC] at hx; rw [hx]; simp [exLn])
  have HE : Hid (Ex w (w.heap.size + 1) w2.heap.size (exM w) u exC (w2.alloc (boxc exC u))) := by
    have hq := below_alloc w2 (boxc exC u)
    obtain ⟨g1, g2, g3, g4⟩ := HX.out _ HB2.out
    have hlo : Moves All (fun x => x < w2.heap.size) w2 w2 := moves_weak w2 fun b hb _ => hb
    exact ⟨g1.grw hq, ClBox.new w2 exC u _, LnsAt.move (LnsAt.move g2 hlo) (lo_moves hq), LnsAt.move (LnsAt.move (LnsAt.move hU (moves_weak w2 fun _ _ _ => trivial)) hlo) (lo_moves hq), tab_below g3 hq, below_trans g4 hq, g4.size, World.block_lt_of_cell? w2 _ (g3 0 (by omega)), Nat.ne_of_lt (World.block_lt_of_cell? w2 _ g1.1)⟩
  obtain ⟨ua, uc, rfl⟩ := NewLns.form hu
  clear hb hu hU a0 a1 a2 a3 a4 a5 a6
  obtain ⟨⟨a0, a1, a2, a3, a4, a5, a6⟩, -, -, -⟩ := HX.out _ HB2.out
  have hne : w.heap.size + 1 ≠ w2.heap.size := by
    have := World.block_lt_of_cell? w2 _ a0
    exact Nat.ne_of_lt this
  have HS1 := Lib.hid fun W (h : LnsAt All W (exM w) exC.lines) (h' : LnsAt All W (.slice ua exC.lines.length uc) exC.lines) => same_any exC exC (exM w) (.slice ua exC.lines.length uc) W h h'
  have HS2 := Lib.hid fun W (h : LnsAt All W (exM w) exC.lines) (h' : LnsAt All W (.slice ua exC.lines.length uc) exC.lines) => same_any exC exD (exM w) (.slice ua exC.lines.length uc) W h h'
  have HCk2 := Lib.hid fun W (h : LnsAt All W (.slice ua exC.lines.length uc) exC.lines) (hT : Da.Tab W) => check_any exD (.slice ua exC.lines.length uc) W h ok_D hT
  rw [ex_same.1] at HS1
  rw [ex_same.2] at HS2
  rw [k2] at HCk2
  obtain ⟨f0, f1, f2, f3, f4, f5, f6⟩ := HE.out.boxC
  unfold boxc at f0 f1 f2 f3 f4 f5 f6
  go_wp2_with fail
  go_at_call 13
  refine (HCk.out _ (lo_all HE.out.lnC) HE.out.tab).mono ?_
  rintro e w3 ⟨rfl, hb⟩
  have HE3 := Lib.hid (HE.out.grw hb)
  have HF3 := Lib.hid (frozen_new w2 w3 _ _ hb)
  obtain ⟨b0, b1, b2, b3, b4, b5, b6⟩ := HE3.out.boxC
  obtain ⟨d0, d1, d2, d3, d4, d5, d6⟩ := HE3.out.boxD
  have HBc := Lib.hid hb
  clear hb
  go_wp2_with fail
  go_at_call 21
  refine (HS1.out _ (lo_all HE3.out.lnC) (lo_all HE3.out.lnD)).mono ?_
  rintro e w4 ⟨rfl, hb⟩
  have HE4 := Lib.hid (HE3.out.grw hb)
  have hfz := frozen_new w2 w4 _ _ (below_trans HBc.out hb) 4
  clear b0 b1 b2 b3 b4 b5 b6 d0 d1 d2 d3 d4 d5 d6 hb
  obtain ⟨b0, b1, b2, b3, b4, b5, b6⟩ := HE4.out.boxC
  obtain ⟨d0, d1, d2, d3, d4, d5, d6⟩ := HE4.out.boxD
  have HE5 := Lib.hid HE4.out.void
  have HBt := Lib.hid fun W => batch_any (-1) (.slice none 0 0) [] W ⟨none, 0, rfl, by simp, by simp [maxLen], Or.inl rfl⟩ (fun c hc => by simp at hc)
  have HLn := Lib.hid fun W => line_any exN (.slice none 0 0) W (TxAt.nil _ _) ok_N
  have HCd := Lib.hid fun W => code_any [57, 57, 50, 49, 51] 5 5 W (by simp)
  rw [k4] at HBt
  rw [k3] at HLn
  rw [k5] at HCd
  clear k1 k2 k3 k4 k5 t1 t2
  go_wp2_with fail
  go_at_call 13
  refine (HCk2.out _ (lo_all HE5.out.lnD) HE5.out.tab).mono ?_
  rintro e w5 ⟨rfl, hb⟩
  have HE6 := Lib.hid (HE5.out.grw hb)
  clear b0 b1 b2 b3 b4 b5 b6 d0 d1 d2 d3 d4 d5 d6 hb
  obtain ⟨b0, b1, b2, b3, b4, b5, b6⟩ := HE6.out.boxC
  obtain ⟨d0, d1, d2, d3, d4, d5, d6⟩ := HE6.out.boxD
  go_wp2_with fail
  go_at_call 21
  refine (HS2.out _ (lo_all HE6.out.lnC) (lo_all HE6.out.lnD)).mono ?_
  rintro e w6 ⟨rfl, hb⟩
  have HE7 := Lib.hid (HE6.out.grw hb)
  clear b0 b1 b2 b3 b4 b5 b6 d0 d1 d2 d3 d4 d5 d6 hb
  go_wp2_with (first | (go_at_call 17; refine (HCd.out _).mono ?_; rintro e w' ⟨rfl, rfl⟩) | (go_at_call 19; refine (HBt.out _ HE7.out.tab).mono ?_; rintro e w7 ⟨rfl, hb⟩; have HE8 := Lib.hid (HE7.out.grw hb); clear hb) | (go_at_call 15; refine (HLn.out _ HE8.out.tab).mono ?_; rintro e w8 ⟨rfl, hb⟩; have HE9 := Lib.hid (HE8.out.grw hb); clear hb))
  go_ret
  exact ⟨rfl, HE9.out.bel⟩
end Go.Proofs.YtpmlmoclocccoaaDoor.Cm
