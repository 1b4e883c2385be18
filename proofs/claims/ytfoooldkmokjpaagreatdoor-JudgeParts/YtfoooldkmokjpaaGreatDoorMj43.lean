/-
  Texts put together (merge.py): JChk, LLine, LLines.
-/
import Derived.Test.YtfoooldkmokjpaaGreatDoorMj23
import Derived.Test.YtfoooldkmokjpaaGreatDoorMj17
import Derived.Test.YtfoooldkmokjpaaGreatDoorMj42
import Derived.Test.YtfoooldkmokjpaaGreatDoorMj6
import Derived.Test.YtfoooldkmokjpaaGreatDoorMj5
import Derived.Test.YtfoooldkmokjpaaGreatDoorMj21
import Derived.Test.YtfoooldkmokjpaaGreatDoorMj13
set_option linter.unusedSimpArgs false
set_option linter.unusedVariables false
section
set_option maxRecDepth 100000
namespace Go.Proofs.YtfoooldkmokjpaaGreatDoor.Ju
open Go.RowKit
open Ac (Row getV addE addV bothE bothV rowN roomV left RwsAt Own keepB heap_far below_alloc below_trans below_tr alloc_new)
open Sh (Ot bD bC bK bE setE setV refE refV member balB)
open Cm (Ln Cl LnsAt lnv clv LnOk ClOk)
set_option maxHeartbeats 1000000 in
theorem or_any (a b c : Int) (g : Nat) (w : World) (T : TypeId) (h : w.heap[g]? = some (.cells #[.int .i64 a, .int .i64 b, .int .i64 c] T (0, 0))) :
  Calls Tryz.prog 23 #[.slice (some ⟨g, 0, none⟩) 3 3] w fun e w' => e = .returned (.int .i64 (orE a (orE b c))) ∧ w' = w := by
 obtain ⟨c0, c1, c2⟩ := Ac.cells3 h
 clear h
 by_cases ha : a = 0
 ·subst ha
  by_cases hb : b = 0
  ·subst hb
   have e : orE 0 (orE 0 c) = c := rfl
   rw [e]
   by_cases hc : c = 0
   ·subst hc
    go_enter Tryz.func23, Tryz.ntmps23
    go_wp2
    go_rounds 4
    go_ret
    exact ⟨rfl, rfl⟩
   ·have hc' : (c != 0) = true := by simp [hc]
    go_enter Tryz.func23, Tryz.ntmps23
    go_wp2
    go_rounds 3
    go_ret
    exact ⟨rfl, rfl⟩
  ·have e : orE 0 (orE b c) = b := by rw [orE_z, orE_nz _ hb]
   rw [e]
   have hb' : (b != 0) = true := by simp [hb]
   go_enter Tryz.func23, Tryz.ntmps23
   go_wp2
   go_rounds 2
   go_ret
   exact ⟨rfl, rfl⟩
 ·have e : orE a (orE b c) = a := orE_nz _ ha
  rw [e]
  have ha' : (a != 0) = true := by simp [ha]
  go_enter Tryz.func23, Tryz.ntmps23
  go_wp2
  go_rounds 1
  go_ret
  exact ⟨rfl, rfl⟩
set_option maxHeartbeats 4000000 in
theorem check_any (t : Tb) (m mf me : Value) (w : World) (h : TbAt w m mf me t) (hz : TbOk t) (hT : Da.Tab w) :
  Calls Tryz.prog 15 #[.agg #[.int .i64 t.plan.mode, .int .i64 t.plan.indDed, .int .i64 t.plan.famDed, .int .i64 t.plan.indOop, .int .i64 t.plan.famOop, m, mf, me]] w fun e w' => e = .returned (.int .i64 (tabE t)) ∧ Below w.heap.size w w' := by
 obtain ⟨ma, mc, fa, fc, ea, ec, rfl, rfl, rfl⟩ := h.form
 have HG0 := Lib.hid (below_alloc w (.cells #[.int .i64 t.plan.mode, .int .i64 t.plan.indDed, .int .i64 t.plan.famDed, .int .i64 t.plan.indOop, .int .i64 t.plan.famOop, .slice ma t.plan.rules.length mc, .slice fa t.fees.length fc, .slice ea t.edits.length ec] 28))
 have HA0 := Lib.hid (alloc_new w #[.int .i64 t.plan.mode, .int .i64 t.plan.indDed, .int .i64 t.plan.famDed, .int .i64 t.plan.indOop, .int .i64 t.plan.famOop, .slice ma t.plan.rules.length mc, .slice fa t.fees.length fc, .slice ea t.edits.length ec] 28)
 have HP := Lib.hid fun W (hW : Below w.heap.size w W) => Pl.check_any t.plan _ W (h.grw hW).1
 have HF := Lib.hid fun W (hW : Below w.heap.size w W) => Fe.check_any t.fees _ W (h.grw hW).2.1 hz.1.1 hz.1.2 (Cm.tab_below hT hW)
 have HE := Lib.hid fun W (hW : Below w.heap.size w W) => Ex.check_any t.edits _ W (h.grw hW).2.2 hz.2.1 hz.2.2
 rw [show tabE t = orE (Pl.checkE t.plan) (orE (Fe.checkE t.fees) (Ex.checkE t.edits)) from rfl]
 generalize Pl.checkE t.plan = E1 at *
 generalize Fe.checkE t.fees = E2 at *
 generalize Ex.checkE t.edits = E3 at *
 clear h hz hT
 go_enter Tryz.func15, Tryz.ntmps15
 go_upto_region 1 with fail
 generalize w.alloc (.cells #[.int .i64 t.plan.mode, .int .i64 t.plan.indDed, .int .i64 t.plan.famDed, .int .i64 t.plan.indOop, .int .i64 t.plan.famOop, .slice ma t.plan.rules.length mc, .slice fa t.fees.length fc, .slice ea t.edits.length ec] 28) = W at *
 generalize hp : w.heap.size = p at *
 have HD := Lib.hid (Below.drew (Below.refl W.heap.size W))
 have HXA := Lib.hid fun W' (hW : Below W.heap.size W W') => Pl.beight (keepB HA0.out hW)
 refine Ri.wp_region_lasting (by kernel_rfl) (by kernel_rfl) (by kernel_rfl) (fun Wx => Below W.heap.size W Wx) (fun kz vs wz => (fun kx vx wx => match kx with | 0 => vx = .pointer (some ⟨p, 0, none⟩) | 1 => vx = .agg #[.int .i64 t.plan.mode, .int .i64 t.plan.indDed, .int .i64 t.plan.famDed, .int .i64 t.plan.indOop, .int .i64 t.plan.famOop, .slice ma t.plan.rules.length mc] | 2 => vx = .int .i64 E1 | 3 => vx = .pointer (some ⟨p, 6, none⟩) | 4 => vx = .slice fa t.fees.length fc | 5 => vx = .int .i64 E2 | 6 => vx = .pointer (some ⟨p, 7, none⟩) | 7 => vx = .slice ea t.edits.length ec | 8 => vx = .int .i64 E3 | 9 => (∃ g, vx = .slice (some ⟨g, 0, none⟩) 3 3 ∧ wx.heap[g]? = some (.cells #[.int .i64 E1, .int .i64 E2, .int .i64 E3] 36 (0, 0))) | 10 => vx = .int .i64 (orE E1 (orE E2 E3)) | 11 => vx = .int .i64 (orE E1 (orE E2 E3)) | _ => True : Nat → Value → World → Prop) kz (vs kz) wz) (fun kz => [kz]) (by kernel_rfl) (fun jz vs iz vz wz hiz hz => Ri.loc_own (F := (fun kx vx wx => match kx with | 0 => vx = .pointer (some ⟨p, 0, none⟩) | 1 => vx = .agg #[.int .i64 t.plan.mode, .int .i64 t.plan.indDed, .int .i64 t.plan.famDed, .int .i64 t.plan.indOop, .int .i64 t.plan.famOop, .slice ma t.plan.rules.length mc] | 2 => vx = .int .i64 E1 | 3 => vx = .pointer (some ⟨p, 6, none⟩) | 4 => vx = .slice fa t.fees.length fc | 5 => vx = .int .i64 E2 | 6 => vx = .pointer (some ⟨p, 7, none⟩) | 7 => vx = .slice ea t.edits.length ec | 8 => vx = .int .i64 E3 | 9 => (∃ g, vx = .slice (some ⟨g, 0, none⟩) 3 3 ∧ wx.heap[g]? = some (.cells #[.int .i64 E1, .int .i64 E2, .int .i64 E3] 36 (0, 0))) | 10 => vx = .int .i64 (orE E1 (orE E2 E3)) | 11 => vx = .int .i64 (orE E1 (orE E2 E3)) | _ => True : Nat → Value → World → Prop)) jz vs iz vz wz hiz hz) HD.out ⟨⟨rfl, ?_⟩, ⟨rfl, ?_⟩, ⟨rfl, ?_⟩, ⟨rfl, ?_⟩, ⟨rfl, ?_⟩, ⟨rfl, ?_⟩, ⟨rfl, ?_⟩, ⟨rfl, ?_⟩, ⟨rfl, ?_⟩, ⟨rfl, ?_⟩, ⟨rfl, ?_⟩, ⟨rfl, ?_⟩, trivial⟩ ?_
 ·intro vs Wx A hA hB hpre K hK
  have e1 := (hA 1).trans (show _ = Value.pointer (some ⟨p, 0, none⟩) by kernel_rfl)
  clear hA hpre
  go_simp
  exact hK _ _ hB rfl (fun _ _ h => h)
 ·intro vs Wx A hA hB hpre K hK
  have e3 := ((hA 3).trans (show _ = vs 0 by kernel_rfl)).trans (hpre.1 rfl)
  obtain ⟨x0, x1, x2, x3, x4, x5, x6, x7⟩ := HXA.out Wx hB
  clear hA hpre
  go_simp
  exact hK _ _ hB rfl (fun _ _ h => h)
 ·intro vs Wx A hA hB hpre K hK
  have e4 := ((hA 4).trans (show _ = vs 1 by kernel_rfl)).trans (hpre.1 rfl)
  clear hA hpre
  go_simp
  go_at_call 35
  refine (HP.out _ (below_tr hp HG0.out hB)).mono ?_
  rintro e w3 ⟨rfl, hg⟩
  refine hK _ _ (below_trans hB hg) rfl (fun jz hj hz => ?_)
  match jz, hj, hz with
  | 0, _, hz => exact hz
  | 1, _, hz => exact hz
  | 2, _, hz => exact hz
  | 3, _, hz => exact hz
  | 4, _, hz => exact hz
  | 5, _, hz => exact hz
  | 6, _, hz => exact hz
  | 7, _, hz => exact hz
  | 8, _, hz => exact hz
  | 9, _, hz => exact (by obtain ⟨g, h1, h2⟩ := hz; exact ⟨g, h1, keepB h2 hg⟩)
  | 10, _, hz => exact hz
  | 11, _, hz => exact hz
  | n + 12, _, hz => exact hz
 ·intro vs Wx A hA hB hpre K hK
  have e1 := (hA 1).trans (show _ = Value.pointer (some ⟨p, 0, none⟩) by kernel_rfl)
  clear hA hpre
  go_simp
  exact hK _ _ hB rfl (fun _ _ h => h)
 ·intro vs Wx A hA hB hpre K hK
  have e6 := ((hA 6).trans (show _ = vs 3 by kernel_rfl)).trans (hpre.1 rfl)
  obtain ⟨x0, x1, x2, x3, x4, x5, x6, x7⟩ := HXA.out Wx hB
  clear hA hpre
  go_simp
  exact hK _ _ hB rfl (fun _ _ h => h)
 ·intro vs Wx A hA hB hpre K hK
  have e7 := ((hA 7).trans (show _ = vs 4 by kernel_rfl)).trans (hpre.1 rfl)
  clear hA hpre
  go_simp
  go_at_call 36
  refine (HF.out _ (below_tr hp HG0.out hB)).mono ?_
  rintro e w3 ⟨rfl, hg⟩
  refine hK _ _ (below_trans hB hg) rfl (fun jz hj hz => ?_)
  match jz, hj, hz with
  | 0, _, hz => exact hz
  | 1, _, hz => exact hz
  | 2, _, hz => exact hz
  | 3, _, hz => exact hz
  | 4, _, hz => exact hz
  | 5, _, hz => exact hz
  | 6, _, hz => exact hz
  | 7, _, hz => exact hz
  | 8, _, hz => exact hz
  | 9, _, hz => exact (by obtain ⟨g, h1, h2⟩ := hz; exact ⟨g, h1, keepB h2 hg⟩)
  | 10, _, hz => exact hz
  | 11, _, hz => exact hz
  | n + 12, _, hz => exact hz
 ·intro vs Wx A hA hB hpre K hK
  have e1 := (hA 1).trans (show _ = Value.pointer (some ⟨p, 0, none⟩) by kernel_rfl)
  clear hA hpre
  go_simp
  exact hK _ _ hB rfl (fun _ _ h => h)
 ·intro vs Wx A hA hB hpre K hK
  have e9 := ((hA 9).trans (show _ = vs 6 by kernel_rfl)).trans (hpre.1 rfl)
  obtain ⟨x0, x1, x2, x3, x4, x5, x6, x7⟩ := HXA.out Wx hB
  clear hA hpre
  go_simp
  exact hK _ _ hB rfl (fun _ _ h => h)
 ·intro vs Wx A hA hB hpre K hK
  have e10 := ((hA 10).trans (show _ = vs 7 by kernel_rfl)).trans (hpre.1 rfl)
  clear hA hpre
  go_simp
  go_at_call 37
  refine (HE.out _ (below_tr hp HG0.out hB)).mono ?_
  rintro e w3 ⟨rfl, hg⟩
  refine hK _ _ (below_trans hB hg) rfl (fun jz hj hz => ?_)
  match jz, hj, hz with
  | 0, _, hz => exact hz
  | 1, _, hz => exact hz
  | 2, _, hz => exact hz
  | 3, _, hz => exact hz
  | 4, _, hz => exact hz
  | 5, _, hz => exact hz
  | 6, _, hz => exact hz
  | 7, _, hz => exact hz
  | 8, _, hz => exact hz
  | 9, _, hz => exact (by obtain ⟨g, h1, h2⟩ := hz; exact ⟨g, h1, keepB h2 hg⟩)
  | 10, _, hz => exact hz
  | 11, _, hz => exact hz
  | n + 12, _, hz => exact hz
 ·intro vs Wx A hA hB hpre K hK
  have e5 := ((hA 5).trans (show _ = vs 2 by kernel_rfl)).trans (hpre.1 rfl)
  have e8 := ((hA 8).trans (show _ = vs 5 by kernel_rfl)).trans (hpre.2.1 rfl)
  have e11 := ((hA 11).trans (show _ = vs 8 by kernel_rfl)).trans (hpre.2.2.1 rfl)
  clear hA hpre
  go_simp
  refine hK _ _ (below_trans hB (below_alloc _ _)) ⟨_, rfl, heap_alloc_new Wx _⟩ (fun jz hj hz => ?_)
  match jz, hj, hz with
  | 0, _, hz => exact hz
  | 1, _, hz => exact hz
  | 2, _, hz => exact hz
  | 3, _, hz => exact hz
  | 4, _, hz => exact hz
  | 5, _, hz => exact hz
  | 6, _, hz => exact hz
  | 7, _, hz => exact hz
  | 8, _, hz => exact hz
  | 9, hj, _ => exact absurd rfl hj
  | 10, _, hz => exact hz
  | 11, _, hz => exact hz
  | n + 12, _, hz => exact hz
 ·intro vs Wx A hA hB hpre K hK
  have hx9 : (∃ g, vs 9 = .slice (some ⟨g, 0, none⟩) 3 3 ∧ Wx.heap[g]? = some (.cells #[.int .i64 E1, .int .i64 E2, .int .i64 E3] 36 (0, 0))) := hpre.1 rfl
  obtain ⟨gx9, hv9, hh9⟩ := hx9
  have e12 := ((hA 12).trans (show _ = vs 9 by kernel_rfl)).trans hv9
  clear hA hpre
  go_simp
  go_at_call 23
  refine (or_any _ _ _ _ _ _ hh9).mono ?_
  rintro e w3 ⟨rfl, rfl⟩
  exact hK _ _ hB rfl (fun _ _ h => h)
 ·intro vs Wx A hA hB hpre K hK
  have e13 := ((hA 13).trans (show _ = vs 10 by kernel_rfl)).trans (hpre.1 rfl)
  clear hA hpre
  go_simp
  exact hK _ _ hB rfl (fun _ _ h => h)
 ·intro vs Wx hB hF
  have hL : vs 11 = .int .i64 (orE E1 (orE E2 E3)) := hF 11 (by decide)
  have HBW := Lib.hid (below_tr hp HG0.out hB)
  clear hF hB
  simp only [Ri.puts]
  go_simp
  go_wp2_with fail
  go_ret
  exact ⟨by first | rfl | (rw [hL]) | simp [hL], by first | exact HBW.out | (rw [hp]; exact HBW.out)⟩
end Go.Proofs.YtfoooldkmokjpaaGreatDoor.Ju
end
section
namespace Go.Proofs.YtfoooldkmokjpaaGreatDoor.Cm
open Go.RowKit
theorem line9 {x : Ln} (h : codesB x = false) : lineE x = 9 := by simp [lineE, h]
theorem line7 {x : Ln} (h : codesB x = true) (h1 : Da.good x.date = false) : lineE x = 7 := by simp [lineE, h, h1]
theorem line3 {x : Ln} (h : codesB x = true) (h1 : Da.good x.date = true) (h2 : unitsB x.units = false) : lineE x = 3 := by simp [lineE, h, h1, h2]
theorem line8 {x : Ln} (h : codesB x = true) (h1 : Da.good x.date = true) (h2 : unitsB x.units = true) (h3 : moneyB x = false) : lineE x = 8 := by simp [lineE, h, h1, h2, h3]
theorem line0 {x : Ln} (h : codesB x = true) (h1 : Da.good x.date = true) (h2 : unitsB x.units = true) (h3 : moneyB x = true) : lineE x = 0 := by simp [lineE, h, h1, h2, h3]
set_option maxHeartbeats 1000000 in
theorem line_any (x : Ln) (m : Value) (w : World) (hm : TxAt All w m x.mods) (hx : LnOk x) (hT : Da.Tab w) :
  Calls Tryz.prog 76 #[lnv x m] w fun e w' => e = .returned (.int .i64 (lineE x)) ∧ Below w.heap.size w w' := by
 obtain ⟨i1, i2, i3, i4, z1, z2, z3⟩ := hx
 have HC := Lib.hid fun w => code_any x.proc 5 5 w (by omega)
 have HM := Lib.hid fun o => mods_any m x.mods (w.alloc o) (TxAt.move hm (Below.moves (below_alloc w o))) z3
 have HD := Lib.hid fun o => Da.good_any x.date (w.alloc o) (tab_below hT (below_alloc w o)) i1.1 i1.2
 have HB := Lib.hid fun o => below_alloc w o
 have H9 := Lib.hid (@line9 x)
 have H7 := Lib.hid (@line7 x)
 have H3 := Lib.hid (@line3 x)
 have H8 := Lib.hid (@line8 x)
 have H0 := Lib.hid (@line0 x)
 obtain ⟨a, c, rfl, -, -⟩ := TxAt.form hm
 unfold codesB at H9 H7 H3 H8 H0
 unfold unitsB at H3 H8 H0
 unfold moneyB at H8 H0
 clear hm hT i1 i2 i3 i4 z1 z2 z3
 generalize lineE x = R at *
 cases h1 : codeB x.proc 5 5
 ·rw [h1] at HC
  rw [H9.out (by rw [h1]; rfl)]
  clear h1 H9 H7 H3 H8 H0
  go_enter Tryz.func76, Tryz.ntmps76
  go_wp2_with (go_at_call 119; refine (HC.out _).mono ?_; rintro e w' ⟨rfl, rfl⟩)
  go_ret
  exact ⟨rfl, HB.out _⟩
 cases h2 : modsB x.mods
 ·rw [h1] at HC
  rw [h2] at HM
  rw [H9.out (by rw [h1, h2]; rfl)]
  clear h1 h2 H9 H7 H3 H8 H0
  go_enter Tryz.func76, Tryz.ntmps76
  go_wp2_with (first | (go_at_call 119; refine (HC.out _).mono ?_; rintro e w' ⟨rfl, rfl⟩) | (go_at_call 120; refine (HM.out _).mono ?_; rintro e w' ⟨rfl, rfl⟩))
  go_ret
  exact ⟨rfl, HB.out _⟩
 rw [h1] at HC
 rw [h2] at HM
 have hcd : (codeB x.proc 5 5 && modsB x.mods) = true := by rw [h1, h2]; rfl
 clear h1 h2
 cases h3 : Da.good x.date
 ·rw [h3] at HD
  rw [H7.out hcd h3]
  clear hcd h3 H9 H7 H3 H8 H0
  go_enter Tryz.func76, Tryz.ntmps76
  go_wp2_with (first | (go_at_call 119; refine (HC.out _).mono ?_; rintro e w' ⟨rfl, rfl⟩) | (go_at_call 120; refine (HM.out _).mono ?_; rintro e w' ⟨rfl, rfl⟩) | (go_at_call 110; refine (HD.out _).mono ?_; rintro e w' ⟨rfl, rfl⟩))
  go_ret
  exact ⟨rfl, HB.out _⟩
 rw [h3] at HD
 by_cases h4 : x.units < 1
 ·have d4 : decide (x.units < 1) = true := decide_eq_true h4
  rw [H3.out hcd h3 (by rw [decide_eq_false (by omega)]; rfl)]
  clear hcd h3 H9 H7 H3 H8 H0
  go_enter Tryz.func76, Tryz.ntmps76
  go_wp2_with (first | (go_at_call 119; refine (HC.out _).mono ?_; rintro e w' ⟨rfl, rfl⟩) | (go_at_call 120; refine (HM.out _).mono ?_; rintro e w' ⟨rfl, rfl⟩) | (go_at_call 110; refine (HD.out _).mono ?_; rintro e w' ⟨rfl, rfl⟩))
  go_ret
  exact ⟨rfl, HB.out _⟩
 have d4 : decide (x.units < 1) = false := decide_eq_false h4
 by_cases h5 : 9999 < x.units
 ·have d5 : decide (9999 < x.units) = true := decide_eq_true h5
  rw [H3.out hcd h3 (by rw [decide_eq_false (p := x.units ≤ 9999) (by omega), Bool.and_false])]
  clear hcd h3 H9 H7 H3 H8 H0
  go_enter Tryz.func76, Tryz.ntmps76
  go_wp2_with (first | (go_at_call 119; refine (HC.out _).mono ?_; rintro e w' ⟨rfl, rfl⟩) | (go_at_call 120; refine (HM.out _).mono ?_; rintro e w' ⟨rfl, rfl⟩) | (go_at_call 110; refine (HD.out _).mono ?_; rintro e w' ⟨rfl, rfl⟩))
  go_ret
  exact ⟨rfl, HB.out _⟩
 have d5 : decide (9999 < x.units) = false := decide_eq_false h5
 have hu : (decide (1 ≤ x.units) && decide (x.units ≤ 9999)) = true := by rw [decide_eq_true (by omega), decide_eq_true (by omega)]; rfl
 have HGB := Lib.hid fun w => Ce.good_any x.billed w
 have HGP := Lib.hid fun w => Ce.good_any x.prior w
 cases h6 : Ce.good x.billed
 ·rw [h6] at HGB
  rw [H8.out hcd h3 hu (by rw [h6]; rfl)]
  clear hcd h3 hu h6 H9 H7 H3 H8 H0 HGP
  go_enter Tryz.func76, Tryz.ntmps76
  go_wp2_with (first | (go_at_call 119; refine (HC.out _).mono ?_; rintro e w' ⟨rfl, rfl⟩) | (go_at_call 120; refine (HM.out _).mono ?_; rintro e w' ⟨rfl, rfl⟩) | (go_at_call 110; refine (HD.out _).mono ?_; rintro e w' ⟨rfl, rfl⟩) | (go_at_call 79; refine (HGB.out _).mono ?_; rintro e w' ⟨rfl, rfl⟩))
  go_ret
  exact ⟨rfl, HB.out _⟩
 cases h7 : Ce.good x.prior
 ·rw [h6] at HGB
  rw [h7] at HGP
  rw [H8.out hcd h3 hu (by rw [h6, h7]; rfl)]
  clear hcd h3 hu H9 H7 H3 H8 H0 HGB HGP
  go_enter Tryz.func76, Tryz.ntmps76
  go_wp2_with (first | (go_at_call 119; refine (HC.out _).mono ?_; rintro e w' ⟨rfl, rfl⟩) | (go_at_call 120; refine (HM.out _).mono ?_; rintro e w' ⟨rfl, rfl⟩) | (go_at_call 110; refine (HD.out _).mono ?_; rintro e w' ⟨rfl, rfl⟩) | (go_at_call 79; refine (Ce.good_any _ _).mono ?_; rintro e w' ⟨rfl, rfl⟩))
  go_ret
  exact ⟨rfl, HB.out _⟩
 by_cases h8 : x.billed < x.prior
 ·have d8 : decide (x.billed < x.prior) = true := decide_eq_true h8
  rw [H8.out hcd h3 hu (by rw [decide_eq_false (by omega), Bool.and_false])]
  clear hcd h3 hu H9 H7 H3 H8 H0 HGB HGP
  go_enter Tryz.func76, Tryz.ntmps76
  go_wp2_with (first | (go_at_call 119; refine (HC.out _).mono ?_; rintro e w' ⟨rfl, rfl⟩) | (go_at_call 120; refine (HM.out _).mono ?_; rintro e w' ⟨rfl, rfl⟩) | (go_at_call 110; refine (HD.out _).mono ?_; rintro e w' ⟨rfl, rfl⟩) | (go_at_call 79; refine (Ce.good_any _ _).mono ?_; rintro e w' ⟨rfl, rfl⟩))
  go_ret
  exact ⟨rfl, HB.out _⟩
 have d8 : decide (x.billed < x.prior) = false := decide_eq_false h8
 rw [H0.out hcd h3 hu (by rw [h6, h7, decide_eq_true (by omega)]; rfl)]
 clear hcd h3 hu H9 H7 H3 H8 H0 HGB HGP
 go_enter Tryz.func76, Tryz.ntmps76
 go_wp2_with (first | (go_at_call 119; refine (HC.out _).mono ?_; rintro e w' ⟨rfl, rfl⟩) | (go_at_call 120; refine (HM.out _).mono ?_; rintro e w' ⟨rfl, rfl⟩) | (go_at_call 110; refine (HD.out _).mono ?_; rintro e w' ⟨rfl, rfl⟩) | (go_at_call 79; refine (Ce.good_any _ _).mono ?_; rintro e w' ⟨rfl, rfl⟩))
 go_ret
 exact ⟨rfl, HB.out _⟩
end Go.Proofs.YtfoooldkmokjpaaGreatDoor.Cm
end
section
namespace Go.Proofs.YtfoooldkmokjpaaGreatDoor.Cm
open Go.RowKit
theorem yearV_good {n : Int} (h : Da.good n = true) : Da.yearV n = Da.yr n := by simp [Da.yearV, h]
set_option maxHeartbeats 2000000 in
theorem lines_any (v : Value) (ls : List Ln) (w : World) (h : LnsAt All w v ls) (hz : ∀ x ∈ ls, LnOk x) (hT : Da.Tab w) :
  Calls Tryz.prog 43 #[v] w fun e w' => e = .returned (.int .i64 (linesE ls)) ∧ Below w.heap.size w w' := by
 have HV := Lib.hid h
 have HZ := Lib.hid hz
 have HT := Lib.hid hT
 obtain ⟨a, c, rfl, h1, h2⟩ := LnsAt.form h
 clear h hz hT
 unfold linesE
 obtain ⟨y, hy⟩ : ∃ y, y = Da.yr (ls.getD 0 ln0).date := ⟨_, rfl⟩
 rw [← hy]
 have HY := Lib.hid hy
 clear hy
 go_enter Tryz.func43, Tryz.ntmps43
 go_wp2
 go_step3
 go_wp2
 go_step3
 go_wp2
 go_loopg [7] (ls.length) (fun g i wr => ∃ k : Nat, k ≤ ls.length ∧ g = ls.length - k ∧ i = .int .i64 k ∧ Hid (Below w.heap.size w wr) ∧ Hid (firstE y (ls.drop k) = firstE y ls) ∧ Hid (∀ x, ls[0]? = some x → 0 < k → lineE x = 0))
 case atStart => exact ⟨0, Nat.zero_le _, rfl, rfl, Below.refl _ _, by rfl, fun _ _ h => absurd h (by omega)⟩
 case round =>
  obtain ⟨k, hk, hg, rfl, HB, HF, H0⟩ := hrel
  by_cases hlt : k < ls.length
  ·have hL := LnsAt.move HV.out (Below.moves HB.out)
   have hpos : 0 < ls.length := by omega
   obtain ⟨b, o, m, rfl, hx, hc, hr⟩ := LnsAt.get hL k hlt
   obtain ⟨b', o', m0, e0, hx0, hc0, -⟩ := LnsAt.get hL 0 hpos
   injection e0 with e0
   injection e0 with e1 e2
   subst e1 e2
   have hzk := HZ.out _ (List.mem_of_getElem? hx)
   have hz0 := HZ.out _ (List.mem_of_getElem? hx0)
   have HC := Lib.hid (line_any ls[k] m wr hr hzk (tab_below HT.out HB.out))
   have HX : Hid (∀ w1, Below wr.heap.size wr w1 → w1.cell? ⟨b, o + k * 6 + 2, none⟩ = some (.int .i64 ls[k].date) ∧ w1.cell? ⟨b, o + 2, none⟩ = some (.int .i64 ls[0].date) ∧ Da.Tab w1) := fun w1 hb => by
    have hbl := World.block_lt_of_cell? wr _ hc.1
    refine ⟨(hc.of (hb.block _ hbl)).2.2.1, ?_, tab_below (tab_below HT.out HB.out) hb⟩
    have := (hc0.of (hb.block _ hbl)).2.2.1
    simpa using this
   obtain ⟨c0, c1, c2, c3, c4, c5⟩ := hc
   obtain ⟨am, cm, rfl, -, -⟩ := TxAt.form hr
   have hik := hzk.1
   have hi0 := hz0.1
   obtain ⟨l1, l2⟩ := hik
   obtain ⟨l3, l4⟩ := hi0
   have HBAD := Lib.hid (firstE_bad y ls k _ hx HF.out)
   have HYR := Lib.hid (firstE_yr y ls k _ hx HF.out)
   have HST := Lib.hid (firstE_step y ls k _ hx HF.out)
   by_cases he : lineE ls[k] = 0
   ·have hgk := lineE_date he
    have hg0 : Da.good ls[0].date = true := by
     by_cases hk0 : k = 0
     ·subst hk0; exact hgk
     ·exact lineE_date (H0.out _ hx0 (by omega))
    have hy0 : y = Da.yr ls[0].date := by rw [HY.out, List.getD_eq_getElem?_getD, hx0]; rfl
    have H0' : Hid (∀ x, ls[0]? = some x → 0 < k + 1 → lineE x = 0) := fun x hx1 _ => by
     by_cases hk0 : k = 0
     ·subst hk0
      rw [hx] at hx1
      rw [← Option.some.inj hx1]; exact he
     ·exact H0.out x hx1 (by omega)
    rw [he] at HC
    have hyk := yearV_good hgk
    have hy0' := yearV_good hg0
    rw [← hy0] at hy0'
    clear hy0 hx hx0 hr hL hzk hz0 hc0 HBAD
    by_cases hyy : Da.yr ls[k].date = y
    ·have HQ := Lib.hid (HST.out he hyy)
     have hbe : (Da.yearV ls[k].date == Da.yearV ls[0].date) = true := by rw [hyk, hy0', hyy]; simp
     clear hyy hyk hy0' hgk hg0 he
     go_wp2_with (first | (go_at_call 76; refine (HC.out).mono ?_; rintro e w1 ⟨rfl, hb⟩; obtain ⟨n1, n2, n3⟩ := HX.out _ hb; have HB2 := Lib.hid (below_trans HB.out hb); have HT1 := Lib.hid n3; clear n3 hb))
     go_quiet (first | (go_at_call 77; refine Calls.quiet_of_same (Da.year_any _ _ HT1.out (by assumption) (by assumption))))
     go_wp2
     go_roundg (ls.length - (k + 1))
     case rel => exact ⟨k + 1, by omega, rfl, by go_num, below_trans HB2.out (below_drewq ⟨_, rfl⟩), HQ.out, H0'.out⟩
     case measure => omega
    ·have HQ := Lib.hid (HYR.out he hyy)
     have hbe : (Da.yearV ls[k].date == Da.yearV ls[0].date) = false := by rw [hyk, hy0']; simpa using hyy
     clear hyy hyk hy0' hgk hg0 he
     go_wp2_with (first | (go_at_call 76; refine (HC.out).mono ?_; rintro e w1 ⟨rfl, hb⟩; obtain ⟨n1, n2, n3⟩ := HX.out _ hb; have HB2 := Lib.hid (below_trans HB.out hb); have HT1 := Lib.hid n3; clear n3 hb))
     go_quiet (first | (go_at_call 77; refine Calls.quiet_of_same (Da.year_any _ _ HT1.out (by assumption) (by assumption))))
     go_wp2
     try rw [Exit.noGoto_ret]
     go_ret
     exact ⟨by rw [HQ.out]; rfl, below_trans HB2.out (below_drewq ⟨_, rfl⟩)⟩
   ·have HQ := Lib.hid (HBAD.out he)
    have hbe : (lineE ls[k] != 0) = true := by simpa using he
    clear hx hx0 hr hL hzk hz0 hc0 HBAD he HX
    go_wp2_with (first | (go_at_call 76; refine (HC.out).mono ?_; rintro e w1 ⟨rfl, hb⟩; have HB2 := Lib.hid (below_trans HB.out hb); clear hb))
    try rw [Exit.noGoto_ret]
    go_ret
    exact ⟨by rw [HQ.out]; rfl, HB2.out⟩
  ·have HQ := Lib.hid (firstE_end y ls k (by omega) HF.out)
   go_wp2
   try rw [Exit.noGoto_ret]
   go_ret
   exact ⟨by rw [HQ.out]; rfl, HB.out⟩
end Go.Proofs.YtfoooldkmokjpaaGreatDoor.Cm
end
