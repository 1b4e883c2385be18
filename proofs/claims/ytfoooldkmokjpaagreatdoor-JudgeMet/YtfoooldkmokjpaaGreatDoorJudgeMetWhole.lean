/-
  The statement JudgeMet (17.5): where the member's limit, or the family's, is met, no service in the network costs the member anything: for all tables, claims, rows and services ahead; without a condition.
-/
import Derived.WalkKit
import Derived.ProofKit
import Derived.OpenShut
import Derived.ShutString
import Derived.Below
import Derived.Carry
import Derived.LaidMore
import Derived.Stop.Joined
import Derived.SevenTiedAt
import Derived.Deep.DeepCutAuto
import Derived.Test.YtfoooldkmokjpaaGreatDoorRows
import Derived.Test.YtfoooldkmokjpaaGreatDoorMj47
import Derived.Test.YtfoooldkmokjpaaGreatDoorMj48
import Derived.Test.YtfoooldkmokjpaaGreatDoorMj49
import Derived.Test.YtfoooldkmokjpaaGreatDoorMj53
import Derived.Test.YtfoooldkmokjpaaGreatDoorMj13
import Derived.Test.YtfoooldkmokjpaaGreatDoorMj5
import Derived.Test.YtfoooldkmokjpaaGreatDoorMj9
import Derived.Test.YtfoooldkmokjpaaGreatDoorMj51
import Derived.Test.YtfoooldkmokjpaaGreatDoorTie
import Derived.Test.YtfoooldkmokjpaaGreatDoorCards
namespace Go.Proofs.YtfoooldkmokjpaaGreatDoor.judgeMet
open Go.ChangeShapes Go.WideShapes Go.ChangeAt Go.RowKit
open Cm (Ln Cl LnsAt clv lnv LnOk ClOk laidL lift open_claim)
open Ju
open Ac (Row RwsAt Own keepB below_alloc below_trans below_tr alloc_new getV)
open Sh (Ot)
open Go.ChangeMaps (open_string)
set_option linter.unusedVariables false
set_option linter.unusedSimpArgs false
set_option maxRecDepth 100000
theorem own : ownKnob Tryz.prog.godebug = none := by kernel_rfl
set_option maxHeartbeats 16000000 in
theorem walk (w : World) (t : Ju.Tb) (m mf me : Value) (hA : Ju.TbAt w m mf me t) (hz : Ju.TbOk t) (c : Cl) (ml : Value) (hL : LnsAt All w ml c.lines) (hc : ClOk c) (vr : Value) (r : List Ac.Row) (hR : Ac.RwsAt All w vr r) (hyr : ∀ x ∈ r, Ao.I64 x.year) (va : Value) (Ah : List Ln) (hV : LnsAt All w va Ah) (hxl : Ah.length ≤ 281474976710656) (hx : ∀ x ∈ Ah, LnOk x) (hT : Da.Tab w) :
  Calls Tryz.prog 6 #[.agg #[.int .i64 t.plan.mode, .int .i64 t.plan.indDed, .int .i64 t.plan.famDed, .int .i64 t.plan.indOop, .int .i64 t.plan.famOop, m, mf, me], clv c ml, vr, va] w fun e w' => e = .returned (.bool true) ∧ Below w.heap.size w w' := by
 have HW := Lib.hid fun W (hW : Below w.heap.size w W) => works_any W (Cm.tab_below hT hW)
 obtain ⟨ma, mc, fa, fc, ea, ec, rfl, rfl, rfl⟩ := hA.form
 obtain ⟨la, lc, rfl, hl1, hl2⟩ := Cm.LnsAt.form hL
 obtain ⟨ra, rc, rfl, hr1, hr2⟩ := hR.form
 obtain ⟨aa, ac, rfl, ha1, ha2⟩ := Cm.LnsAt.form hV
 have HLi := Lib.hid fun W (hW : Below w.heap.size w W) => light_any t c r Ah _ _ _ _ _ _ W (hA.grw hW) (Ex.lns_grw hL hW) (hR.grw hW) (Ex.lns_grw hV hW) hz hc hx hxl
 have HJu : Hid (LtP c r Ah → ∀ W, Below w.heap.size w W → Calls Tryz.prog 11 #[.agg #[.int .i64 t.plan.mode, .int .i64 t.plan.indDed, .int .i64 t.plan.famDed, .int .i64 t.plan.indOop, .int .i64 t.plan.famOop, .slice ma t.plan.rules.length mc, .slice fa t.fees.length fc, .slice ea t.edits.length ec], .agg #[.string (mk c.id), .string (mk c.mem), .string (mk c.fam), .int .i64 c.net, .int .i64 c.does, .string (mk c.ref), .slice la c.lines.length lc], .slice ra r.length rc, .slice aa Ah.length ac] W fun e w' => JdV W.heap.size w' e (judE t c r Ah) (judO t c r Ah) (judR t c r Ah) ∧ Below W.heap.size W w') := fun h W hW => judge_any t c r Ah _ _ _ _ _ _ W (hA.grw hW) (Ex.lns_grw hL hW) (hR.grw hW) (Ex.lns_grw hV hW) ⟨hz, hc, h.2.1.1, h.2.2.1, Nat.le_trans h.2.2.2 (by decide), Nat.le_trans h.2.1.2 (by decide)⟩ (Nat.le_trans h.1 (by decide)) (Cm.tab_below hT hW)
 have HLn := Lib.hid fun W (hW : Below w.heap.size w W) => Ex.lns_grw hL hW
 have HRo := Lib.hid fun W (hW : Below w.heap.size w W) => hR.grw hW
 have HCO := Lib.hid hc
 have HMe : Hid (c.net = 0 → judE t c r Ah = 0 → ∀ x : Ln, c.lines[0]? = some x → (t.plan.famOop ≤ (getV r c.fam true (Da.yr x.date)).oo ∨ (t.plan.mode = 0 ∧ t.plan.indOop ≤ (getV r c.mem false (Da.yr x.date)).oo)) → judR t c r Ah = r ∧ ∀ o ∈ judO t c r Ah, o.de + o.cp + o.cn = 0) := fun hn h x hx hm => jud_met t c r Ah hn h x hx hm
 have HBa : Hid (judE t c r Ah = 0 → ∀ (k : Nat) (o : Ot), (judO t c r Ah)[k]? = some o → (0 ≤ o.de ∧ o.de ≤ 10000000000000) ∧ (0 ≤ o.cp ∧ o.cp ≤ 10000000000000) ∧ (0 ≤ o.cn ∧ o.cn ≤ 10000000000000)) := fun h k o ho => by
  obtain ⟨h1, h2⟩ := jud_balances t c r Ah h
  have hk : k < c.lines.length := by rw [← h1]; exact (List.getElem?_eq_some_iff.1 ho).1
  exact (h2 k _ o (List.getElem?_eq_getElem hk) ho).2.2.2.2
 clear hA hL hR hV hz hx hT
 have hbx : Below w.heap.size w ((w.alloc (.cells #[.int .i64 t.plan.mode, .int .i64 t.plan.indDed, .int .i64 t.plan.famDed, .int .i64 t.plan.indOop, .int .i64 t.plan.famOop, .slice ma t.plan.rules.length mc, .slice fa t.fees.length fc, .slice ea t.edits.length ec] 28)).alloc (.cells #[.string (mk c.id), .string (mk c.mem), .string (mk c.fam), .int .i64 c.net, .int .i64 c.does, .string (mk c.ref), .slice la c.lines.length lc] 31)) := below_trans (below_alloc _ _) (below_alloc _ _)
 have hz1 := keepB (alloc_new w #[.int .i64 t.plan.mode, .int .i64 t.plan.indDed, .int .i64 t.plan.famDed, .int .i64 t.plan.indOop, .int .i64 t.plan.famOop, .slice ma t.plan.rules.length mc, .slice fa t.fees.length fc, .slice ea t.edits.length ec] 28) (below_alloc _ (.cells #[.string (mk c.id), .string (mk c.mem), .string (mk c.fam), .int .i64 c.net, .int .i64 c.does, .string (mk c.ref), .slice la c.lines.length lc] 31))
 have hz2 := alloc_new (w.alloc (.cells #[.int .i64 t.plan.mode, .int .i64 t.plan.indDed, .int .i64 t.plan.famDed, .int .i64 t.plan.indOop, .int .i64 t.plan.famOop, .slice ma t.plan.rules.length mc, .slice fa t.fees.length fc, .slice ea t.edits.length ec] 28)) #[.string (mk c.id), .string (mk c.mem), .string (mk c.fam), .int .i64 c.net, .int .i64 c.does, .string (mk c.ref), .slice la c.lines.length lc] 31
 rw [show (w.alloc (.cells #[.int .i64 t.plan.mode, .int .i64 t.plan.indDed, .int .i64 t.plan.famDed, .int .i64 t.plan.indOop, .int .i64 t.plan.famOop, .slice ma t.plan.rules.length mc, .slice fa t.fees.length fc, .slice ea t.edits.length ec] 28)).heap.size = w.heap.size + 1 by simp] at hz2
 have HX := Lib.hid hz1
 have HY := Lib.hid hz2
 have HB0 := Lib.hid hbx
 clear hbx hz1 hz2 hc
 go_enter Tryz.func6, Tryz.ntmps6
 go_upto_region 1 with fail
 generalize ((w.alloc (.cells #[.int .i64 t.plan.mode, .int .i64 t.plan.indDed, .int .i64 t.plan.famDed, .int .i64 t.plan.indOop, .int .i64 t.plan.famOop, .slice ma t.plan.rules.length mc, .slice fa t.fees.length fc, .slice ea t.edits.length ec] 28)).alloc (.cells #[.string (mk c.id), .string (mk c.mem), .string (mk c.fam), .int .i64 c.net, .int .i64 c.does, .string (mk c.ref), .slice la c.lines.length lc] 31)) = W at *
 generalize hp : w.heap.size = p at *
 obtain ⟨p1, hp1⟩ : ∃ u, u = p + 1 := ⟨_, rfl⟩
 rw [← hp1] at HY ⊢
 clear hp1
 obtain ⟨x0, x1, x2, x3, x4, x5, x6, x7⟩ := Pl.beight HX.out
 obtain ⟨y0, y1, y2, y3, y4, y5, y6⟩ := bseven HY.out
 go_wp2_with fail
 try (go_at_call 9)
 refine (HLi.out W HB0.out).mono ?_
 rintro e w1 ⟨⟨n1, rfl, hn1⟩, hb1⟩
 have HB1 := Lib.hid (below_tr hp HB0.out hb1)
 have HX1 := Lib.hid (keepB HX.out hb1)
 have HY1 := Lib.hid (keepB HY.out hb1)
 clear hb1 HX HY HB0 HLi x0 x1 x2 x3 x4 x5 x6 x7 y0 y1 y2 y3 y4 y5 y6
 obtain ⟨x0, x1, x2, x3, x4, x5, x6, x7⟩ := Pl.beight HX1.out
 obtain ⟨y0, y1, y2, y3, y4, y5, y6⟩ := bseven HY1.out
 by_cases g1 : (0 : Int) < n1
 ·go_wp2_with fail
  try (go_at_call 10)
  refine (HW.out w1 HB1.out).mono ?_
  rintro e w9 ⟨rfl, hb9⟩
  have HB9 := Lib.hid (below_tr hp HB1.out hb9)
  clear hb9
  go_wp2
  go_ret
  exact ⟨rfl, by first | exact HB9.out | (rw [hp]; exact HB9.out)⟩
 have HLt := Lib.hid (hn1 (by omega))
 have hlen : c.lines.length ≤ 3000 := HLt.out.2.1.2
 have hrl : r.length ≤ 100 := HLt.out.1
 have HJ := Lib.hid (HJu.out HLt.out)
 clear HJu hn1
 by_cases g2 : c.net = 0
 case neg =>
  have q2 : (c.net != 0) = true := by simp [g2]
  clear g2
  go_wp2_with fail
  try (go_at_call 10)
  refine (HW.out w1 HB1.out).mono ?_
  rintro e w9 ⟨rfl, hb9⟩
  have HB9 := Lib.hid (below_tr hp HB1.out hb9)
  clear hb9
  go_wp2
  go_ret
  exact ⟨rfl, by first | exact HB9.out | (rw [hp]; exact HB9.out)⟩
 case pos =>
  have q2 : (c.net != 0) = false := by simp [g2]
  have HN0 := Lib.hid g2
  clear g2
  by_cases g3 : c.lines.length = 0
  ·have q3 : ((c.lines.length : Int) == 0) = true := by simp [g3]
   clear g3
   go_wp2_with fail
   try (go_at_call 10)
   refine (HW.out w1 HB1.out).mono ?_
   rintro e w9 ⟨rfl, hb9⟩
   have HB9 := Lib.hid (below_tr hp HB1.out hb9)
   clear hb9
   go_wp2
   go_ret
   exact ⟨rfl, by first | exact HB9.out | (rw [hp]; exact HB9.out)⟩
  have q3 : ((c.lines.length : Int) == 0) = false := by rw [beq_eq_false_iff_ne]; omega
  have q3n : (0 : Int) < (c.lines.length : Int) := by omega
  obtain ⟨b, lo, mx, rfl, hbl, hxc, hxm⟩ := lns_at (HLn.out w1 HB1.out) (List.getElem?_eq_getElem (i := 0) (by omega))
  have HX0 : Hid (c.lines[0]? = some (c.lines[0]'(by omega))) := List.getElem?_eq_getElem (by omega)
  have hxo := HCO.out.2.2.2.2.2.2.2 _ (List.mem_of_getElem? HX0.out)
  obtain ⟨td1, td2⟩ := tdiv_bd _ hxo.1.1 hxo.1.2
  generalize c.lines[0]'(by omega) = x at *
  have HYd : Hid (x.date.tdiv 10000 = Da.yr x.date) := rfl
  obtain ⟨Y, hY⟩ : ∃ Y, x.date.tdiv 10000 = Y := ⟨_, rfl⟩
  rw [hY] at td1 td2
  have HYr : Hid (Da.yr x.date = Y) := hY
  unfold Cm.LnCells at hxc
  simp only [Nat.zero_mul, Nat.add_zero] at hxc
  obtain ⟨l0, l1, l2, l3, l4, l5⟩ := hxc
  clear hxm hxo HYd
  have HM1 := Lib.hid (fun hn h => HMe.out hn h x HX0.out)
  rw [HYr.out] at HM1
  have HGf := Lib.hid fun W (hW : Below p w W) => Ac.rget_any r c.fam true Y _ W (HRo.out W hW) (by omega)
  have HGm := Lib.hid fun W (hW : Below p w W) => Ac.rget_any r c.mem false Y _ W (HRo.out W hW) (by omega)
  generalize getV r c.fam true Y = Gf at *
  generalize getV r c.mem false Y = Gm at *
  obtain ⟨B1, hB1⟩ : ∃ B, decide (t.plan.famOop ≤ Gf.oo) = B := ⟨_, rfl⟩
  obtain ⟨B2, hB2⟩ : ∃ B, decide (t.plan.indOop ≤ Gm.oo) = B := ⟨_, rfl⟩
  obtain ⟨MM, HMM⟩ : ∃ MM : Bool, Hid (MM = (B1 || (decide (t.plan.mode = 0) && B2))) := ⟨_, rfl⟩
  have HM2 : Hid (MM = true → c.net = 0 → judE t c r Ah = 0 → judR t c r Ah = r ∧ ∀ o ∈ judO t c r Ah, o.de + o.cp + o.cn = 0) := fun hm hn h => HM1.out hn h (by
   rw [HMM.out, ← hB1, ← hB2, Bool.or_eq_true, Bool.and_eq_true, decide_eq_true_eq, decide_eq_true_eq, decide_eq_true_eq] at hm
   exact hm)
  have HXK := Lib.hid fun W' (hW : Below w1.heap.size w1 W') => And.intro (Pl.beight (keepB HX1.out hW)) (bseven (keepB HY1.out hW))
  have HD := Lib.hid (Below.drew (Below.refl w1.heap.size w1))
  clear HMe HM1 HX0 HYr
  go_upto_region 4 with fail
  clear x0 x1 x2 x3 x4 x5 x6 x7 y0 y1 y2 y3 y4 y5 y6 l0 l1 l2 l3 l4 l5 hY
  go_cut [10] (fun s10 wx => s10 = .bool B1 ∧ Hid (Below w1.heap.size w1 wx))
  case first =>
   refine Ri.wp_region_lastingB (by kernel_rfl) (by kernel_rfl) (by kernel_rfl) (fun Wx => Below w1.heap.size w1 Wx) (fun kz vs wz => (fun kx vx wx => match kx with | 0 => vx = .slice ra r.length rc | 1 => vx = .pointer (some ⟨p1, 2, none⟩) | 2 => vx = .string (mk c.fam) | 3 => vx = .int .i64 Y | 4 => vx = Ac.rwv Gf | 5 => vx = .int .i64 Gf.oo | 6 => vx = .pointer (some ⟨p, 0, none⟩) | 7 => vx = .pointer (some ⟨p, 4, none⟩) | 8 => vx = .int .i64 t.plan.famOop | 9 => vx = .bool B1 | 10 => vx = .bool B1 | _ => True : Nat → Value → World → Prop) kz (vs kz) wz) (fun kz => [kz]) (by kernel_rfl) (fun jz vs iz vz wz hiz hz => Ri.loc_own (F := (fun kx vx wx => match kx with | 0 => vx = .slice ra r.length rc | 1 => vx = .pointer (some ⟨p1, 2, none⟩) | 2 => vx = .string (mk c.fam) | 3 => vx = .int .i64 Y | 4 => vx = Ac.rwv Gf | 5 => vx = .int .i64 Gf.oo | 6 => vx = .pointer (some ⟨p, 0, none⟩) | 7 => vx = .pointer (some ⟨p, 4, none⟩) | 8 => vx = .int .i64 t.plan.famOop | 9 => vx = .bool B1 | 10 => vx = .bool B1 | _ => True : Nat → Value → World → Prop)) jz vs iz vz wz hiz hz) HD.out ⟨⟨rfl, ?_⟩, ⟨rfl, ?_⟩, ⟨rfl, ?_⟩, ⟨rfl, ?_⟩, ⟨rfl, ?_⟩, ⟨rfl, ?_⟩, ⟨rfl, ?_⟩, ⟨rfl, ?_⟩, ⟨rfl, ?_⟩, ⟨rfl, ?_⟩, ⟨rfl, ?_⟩, trivial⟩ ?_
   ·intro vs Wx A hA hB hpre K hK
    have e2 := (hA 2).trans (show _ = Value.slice ra r.length rc by kernel_rfl)
    clear hA hpre
    go_simp
    exact hK _ _ hB rfl (fun _ _ h => h)
   ·intro vs Wx A hA hB hpre K hK
    have e5 := (hA 5).trans (show _ = Value.pointer (some ⟨p1, 0, none⟩) by kernel_rfl)
    clear hA hpre
    go_simp
    exact hK _ _ hB rfl (fun _ _ h => h)
   ·intro vs Wx A hA hB hpre K hK
    have e40 := ((hA 40).trans (show _ = vs 1 by kernel_rfl)).trans (hpre.1 rfl)
    obtain ⟨⟨x0, x1, x2, x3, x4, x5, x6, x7⟩, y0, y1, y2, y3, y4, y5, y6⟩ := HXK.out Wx hB
    clear hA hpre
    go_simp
    exact hK _ _ hB rfl (fun _ _ h => h)
   ·intro vs Wx A hA hB hpre K hK
    have e9 := (hA 9).trans (show _ = Value.int .i64 Y by kernel_rfl)
    clear hA hpre
    go_simp
    exact hK _ _ hB rfl (fun _ _ h => h)
   ·intro vs Wx A hA hB hpre K hK
    have e39 := ((hA 39).trans (show _ = vs 0 by kernel_rfl)).trans (hpre.1 rfl)
    have e41 := ((hA 41).trans (show _ = vs 2 by kernel_rfl)).trans (hpre.2.1 rfl)
    have e42 := ((hA 42).trans (show _ = vs 3 by kernel_rfl)).trans (hpre.2.2.1 rfl)
    clear hA hpre
    go_simp
    go_at_call 19
    refine (HGf.out Wx (below_tr hp HB1.out hB)).mono ?_
    rintro e w3 ⟨rfl, hg⟩
    exact hK _ _ (below_trans hB hg) rfl (fun _ _ h => h)
   ·intro vs Wx A hA hB hpre K hK
    have e43 := ((hA 43).trans (show _ = vs 4 by kernel_rfl)).trans (hpre.1 rfl)
    have hfld := run_oop (.string (mk Gf.who)) (.bool Gf.fam) (.int .i64 Gf.year) (.int .i64 Gf.de) (.int .i64 Gf.oo) rfl Wx
    clear hA hpre
    go_simp
    exact hK _ _ hB rfl (fun _ _ h => h)
   ·intro vs Wx A hA hB hpre K hK
    have e4 := (hA 4).trans (show _ = Value.pointer (some ⟨p, 0, none⟩) by kernel_rfl)
    clear hA hpre
    go_simp
    exact hK _ _ hB rfl (fun _ _ h => h)
   ·intro vs Wx A hA hB hpre K hK
    have e45 := ((hA 45).trans (show _ = vs 6 by kernel_rfl)).trans (hpre.1 rfl)
    clear hA hpre
    go_simp
    exact hK _ _ hB rfl (fun _ _ h => h)
   ·intro vs Wx A hA hB hpre K hK
    have e46 := ((hA 46).trans (show _ = vs 7 by kernel_rfl)).trans (hpre.1 rfl)
    obtain ⟨⟨x0, x1, x2, x3, x4, x5, x6, x7⟩, y0, y1, y2, y3, y4, y5, y6⟩ := HXK.out Wx hB
    clear hA hpre
    go_simp
    exact hK _ _ hB rfl (fun _ _ h => h)
   ·intro vs Wx A hA hB hpre K hK
    have e44 := ((hA 44).trans (show _ = vs 5 by kernel_rfl)).trans (hpre.1 rfl)
    have e47 := ((hA 47).trans (show _ = vs 8 by kernel_rfl)).trans (hpre.2.1 rfl)
    clear hA hpre
    go_simp
    exact hK _ _ hB rfl (fun _ _ h => h)
   ·intro vs Wx A hA hB hpre K hK
    have e48 := ((hA 48).trans (show _ = vs 9 by kernel_rfl)).trans (hpre.1 rfl)
    clear hA hpre
    go_simp
    exact hK _ _ hB rfl (fun _ _ h => h)
   ·intro vs Wx hB hF
    have hq : vs 10 = .bool B1 := hF 10 (by decide)
    have HBW := Lib.hid hB
    clear hF hB
    simp only [Ri.puts]
    go_simp
    go_wp2_with fail
    go_meet
    exact ⟨by first | exact hq | (go_simp; done) | (go_simp; exact hq), HBW.out⟩
  case rest =>
   obtain ⟨rfl, HBx⟩ := hcut
   obtain ⟨w2, hw2⟩ : ∃ z, z = wc := ⟨_, rfl⟩
   subst hw2
   have HB2 := Lib.hid (below_tr hp HB1.out HBx.out)
   have HX2 := Lib.hid (keepB HX1.out HBx.out)
   have HY2 := Lib.hid (keepB HY1.out HBx.out)
   clear HBx HXK HD HB1 HX1 HY1 HGf hB1
   obtain ⟨x0, x1, x2, x3, x4, x5, x6, x7⟩ := Pl.beight HX2.out
   obtain ⟨y0, y1, y2, y3, y4, y5, y6⟩ := bseven HY2.out
   by_cases g4 : t.plan.mode = 0
   case neg =>
    have q4 : (t.plan.mode == 0) = false := by simp [g4]
    have hMM : MM = B1 := by rw [HMM.out, decide_eq_false g4]; simp
    subst hMM
    clear g4 HMM hB2 HGm
    cases MM with
    | false =>
     go_wp2_with fail
     try (go_at_call 10)
     refine (HW.out w2 HB2.out).mono ?_
     rintro e w9 ⟨rfl, hb9⟩
     have HB9 := Lib.hid (below_tr hp HB2.out hb9)
     clear hb9
     go_wp2
     go_ret
     exact ⟨rfl, by first | exact HB9.out | (rw [hp]; exact HB9.out)⟩
    | true =>
     have HM3 := Lib.hid (HM2.out rfl HN0.out)
     clear HM2
     go_wp2_with fail
     try (go_at_call 11)
     refine (HJ.out w2 HB2.out).mono ?_
     rintro e w3 ⟨⟨vo3, vr3, rfl, ho3, hr3⟩, hb3⟩
     have HB3 := Lib.hid (below_tr hp HB2.out hb3)
     have HX3 := Lib.hid (keepB HX2.out hb3)
     have HY3 := Lib.hid (keepB HY2.out hb3)
     have HO3 := Lib.hid (ots_of_own (K := All) ho3 fun _ _ => trivial)
     have HR3 := Lib.hid (Ac.rws_of_own (K := All) hr3 fun _ _ => trivial)
     obtain ⟨oa3, oc3, rfl, ol3, om3⟩ := ownO_form ho3
     obtain ⟨ra3, rc3, rfl, rl3, rm3⟩ := Ac.own_form hr3
     clear ho3 hr3 hb3 x0 x1 x2 x3 x4 x5 x6 x7 y0 y1 y2 y3 y4 y5 y6 HJ HX2 HY2 HB2
     obtain ⟨x0, x1, x2, x3, x4, x5, x6, x7⟩ := Pl.beight HX3.out
     obtain ⟨y0, y1, y2, y3, y4, y5, y6⟩ := bseven HY3.out
     generalize judE t c r Ah = JE at *
     generalize judR t c r Ah = JR at *
     generalize judO t c r Ah = JO at *
     by_cases e1 : JE = 0
     case neg =>
      have q1 : (JE != 0) = true := by simp [e1]
      clear e1 HM3 HBa
      go_wp2_with fail
      try (go_at_call 10)
      refine (HW.out w3 HB3.out).mono ?_
      rintro e w9 ⟨rfl, hb9⟩
      have HB9 := Lib.hid (below_tr hp HB3.out hb9)
      clear hb9
      go_wp2
      go_ret
      exact ⟨rfl, by first | exact HB9.out | (rw [hp]; exact HB9.out)⟩
     case pos =>
      subst e1
      obtain ⟨hJR, hall⟩ := HM3.out rfl
      subst hJR
      have HAll := Lib.hid hall
      have HBb := Lib.hid (HBa.out rfl)
      clear HM3 HBa hall
      go_wp2
      clear x0 x1 x2 x3 x4 x5 x6 x7 y0 y1 y2 y3 y4 y5 y6
      go_loopg [14] (JO.length) (fun g i wr => ∃ k : Nat, k ≤ JO.length ∧ g = JO.length - k ∧ i = .int .i64 (k : Nat) ∧ Hid (Below p w wr) ∧ Hid (Below w3.heap.size w3 wr))
      case atStart => exact ⟨0, Nat.zero_le _, rfl, rfl, HB3.out, Below.refl _ _⟩
      case round =>
       obtain ⟨k, hk, hgk, rfl, HB, HBr⟩ := hrel
       by_cases hlt : k < JO.length
       ·have hltz : (k : Int) < (JO.length : Int) := by omega
        obtain ⟨ob, oo, rfl, hobl, hox, hoc⟩ := OtsAt.get (HO3.out.grw HBr.out) k hlt
        have hsum := HAll.out _ (List.getElem_mem hlt)
        obtain ⟨⟨f5a, f5b⟩, ⟨f6a, f6b⟩, f7a, f7b⟩ := HBb.out k _ hox
        generalize JO[k] = o at *
        unfold OtCells at hoc
        obtain ⟨o0, o1, o2, o3, o4, o5, o6, o7⟩ := hoc
        have hs1 : IntKind.i64.wrap (o.de + o.cp) = o.de + o.cp := by rw [IntKind.wrap_i64]; omega
        have hs2 : IntKind.i64.wrap (o.de + o.cp + o.cn) = o.de + o.cp + o.cn := by rw [IntKind.wrap_i64]; omega
        have q4 : (o.de + o.cp + o.cn != 0) = false := by simp [hsum]
        clear hsum hox
        go_wp2_with fail
        go_quiet (fail)
        go_wp2
        go_roundg (JO.length - (k + 1))
        case measure => omega
        case rel => exact ⟨k + 1, by omega, rfl, by first | rfl | go_num | (congr 1; omega), HB.out.trans (below_dq _ _ _), HBr.out.trans (below_dq _ _ _)⟩
       ·have hltz : ¬ (k : Int) < (JO.length : Int) := by omega
        have HSm := Lib.hid (Ac.same_eq JR _ _ wr (HR3.out.grw HBr.out) (HRo.out wr HB.out) (by omega))
        go_wp2_with fail
        try (go_at_call 14)
        refine HSm.out.mono ?_
        rintro e w6 ⟨rfl, hb6⟩
        have HB6 := Lib.hid (below_tr hp HB.out hb6)
        clear hb6 HSm
        go_wp2_with fail
        try (go_at_call 10)
        refine (HW.out w6 HB6.out).mono ?_
        rintro e w9 ⟨rfl, hb9⟩
        have HB9 := Lib.hid (below_tr hp HB6.out hb9)
        clear hb9
        go_wp2
        go_ret
        exact ⟨rfl, by first | exact HB9.out | (rw [hp]; exact HB9.out)⟩
   case pos =>
    have q4 : (t.plan.mode == 0) = true := by simp [g4]
    have HV : Hid (MM = (B1 || B2)) := by show _ = _; rw [HMM.out, decide_eq_true g4]; simp
    have HXK := Lib.hid fun W' (hW : Below w2.heap.size w2 W') => And.intro (Pl.beight (keepB HX2.out hW)) (bseven (keepB HY2.out hW))
    have HD := Lib.hid (Below.drew (Below.refl w2.heap.size w2))
    clear g4 HMM
    go_upto_region 6 with fail
    clear x0 x1 x2 x3 x4 x5 x6 x7 y0 y1 y2 y3 y4 y5 y6
    go_cut [10] (fun s10 wx => s10 = .bool MM ∧ Hid (Below w2.heap.size w2 wx))
    case first =>
     cases B1 with
     | true =>
      have HVt : Hid (MM = true) := HV.out
      obtain ⟨⟨x0, x1, x2, x3, x4, x5, x6, x7⟩, y0, y1, y2, y3, y4, y5, y6⟩ := HXK.out w2 (Below.refl _ _)
      clear HGm HXK HM2 HW HJ
      go_wp2_with fail
      go_quiet (fail)
      go_wp2
      go_meet
      exact ⟨by first | (rw [HVt.out]; done) | (rw [HVt.out]; rfl), below_dq _ _ _⟩
     | false =>
      have HVt : Hid (MM = B2) := HV.out
      refine Ri.wp_region_tailG 13 (by kernel_rfl) (by kernel_rfl) (by kernel_rfl) (by decide) (by kernel_rfl) (fun Wx => Below w2.heap.size w2 Wx) (fun kz vs wz => (fun kx vx wx => match kx with | 0 => vx = .bool false | 1 => vx = .bool false | 2 => vx = .slice ra r.length rc | 3 => vx = .pointer (some ⟨p1, 1, none⟩) | 4 => vx = .string (mk c.mem) | 5 => vx = .int .i64 Y | 6 => vx = Ac.rwv Gm | 7 => vx = .int .i64 Gm.oo | 8 => vx = .pointer (some ⟨p, 0, none⟩) | 9 => vx = .pointer (some ⟨p, 3, none⟩) | 10 => vx = .int .i64 t.plan.indOop | 11 => vx = .bool B2 | 12 => vx = .bool B2 | _ => True : Nat → Value → World → Prop) kz (vs kz) wz) (fun lst vs => lst 13 = false → vs 13 = .bool false) (fun kz => [kz]) (by kernel_rfl) (fun jz vs iz vz wz hiz hz => Ri.loc_own (F := (fun kx vx wx => match kx with | 0 => vx = .bool false | 1 => vx = .bool false | 2 => vx = .slice ra r.length rc | 3 => vx = .pointer (some ⟨p1, 1, none⟩) | 4 => vx = .string (mk c.mem) | 5 => vx = .int .i64 Y | 6 => vx = Ac.rwv Gm | 7 => vx = .int .i64 Gm.oo | 8 => vx = .pointer (some ⟨p, 0, none⟩) | 9 => vx = .pointer (some ⟨p, 3, none⟩) | 10 => vx = .int .i64 t.plan.indOop | 11 => vx = .bool B2 | 12 => vx = .bool B2 | _ => True : Nat → Value → World → Prop)) jz vs iz vz wz hiz hz) HD.out ?_ ⟨Or.inl ⟨rfl, ?_⟩, Or.inl ⟨rfl, ?_⟩, Or.inr ⟨1, false, 54, rfl, rfl, ?_⟩, Or.inr ⟨1, false, 54, rfl, rfl, ?_⟩, Or.inr ⟨1, false, 54, rfl, rfl, ?_⟩, Or.inr ⟨1, false, 54, rfl, rfl, ?_⟩, Or.inr ⟨1, false, 54, rfl, rfl, ?_⟩, Or.inr ⟨1, false, 54, rfl, rfl, ?_⟩, Or.inr ⟨1, false, 54, rfl, rfl, ?_⟩, Or.inr ⟨1, false, 54, rfl, rfl, ?_⟩, Or.inr ⟨1, false, 54, rfl, rfl, ?_⟩, Or.inr ⟨1, false, 54, rfl, rfl, ?_⟩, Or.inl ⟨rfl, ?_⟩, trivial⟩ ?_
      ·intro vs hvs
       intro _
       have h1 := congrArg (fun a => a.tmps[10]?.getD undef) hvs
       exact (show vs 13 = _ by kernel_rfl).trans (h1.trans (show _ = Value.bool false by kernel_rfl))
      ·intro vs Wx A lst hA hB hls hX hno hpre K hK
       have e10 := ((hA 10).trans (show _ = vs 13 by kernel_rfl)).trans (hX (hno 13 (by decide)))
       clear hA hpre
       go_simp
       exact hK _ _ hB rfl (fun _ _ h => h) hX
      ·intro vs Wx A lst hA hB hls hX hno hpre K hK
       have e53 := ((hA 53).trans (show _ = vs 0 by kernel_rfl)).trans (hpre.1 rfl)
       clear hA hpre
       go_simp
       exact hK _ _ hB rfl (fun _ _ h => h) hX
      ·intro vs Wx A lst hA hB hls hX hno hpre
       have eg := ((hA 54).trans (show _ = vs 1 by kernel_rfl)).trans (hpre.1 rfl)
       refine ⟨false, eg, fun _ K hK => ?_, fun h => absurd rfl h⟩
       have e2 := (hA 2).trans (show _ = Value.slice ra r.length rc by kernel_rfl)
       clear hA hpre
       go_simp
       exact hK _ _ hB rfl (fun _ _ h => h) hX
      ·intro vs Wx A lst hA hB hls hX hno hpre
       have eg := ((hA 54).trans (show _ = vs 1 by kernel_rfl)).trans (hpre.1 rfl)
       refine ⟨false, eg, fun _ K hK => ?_, fun h => absurd rfl h⟩
       have e5 := (hA 5).trans (show _ = Value.pointer (some ⟨p1, 0, none⟩) by kernel_rfl)
       clear hA hpre
       go_simp
       exact hK _ _ hB rfl (fun _ _ h => h) hX
      ·intro vs Wx A lst hA hB hls hX hno hpre
       have eg := ((hA 54).trans (show _ = vs 1 by kernel_rfl)).trans (hpre.2.1 rfl)
       refine ⟨false, eg, fun _ K hK => ?_, fun h => absurd rfl h⟩
       have e56 := ((hA 56).trans (show _ = vs 3 by kernel_rfl)).trans (hpre.1 rfl)
       obtain ⟨⟨x0, x1, x2, x3, x4, x5, x6, x7⟩, y0, y1, y2, y3, y4, y5, y6⟩ := HXK.out Wx hB
       clear hA hpre
       go_simp
       exact hK _ _ hB rfl (fun _ _ h => h) hX
      ·intro vs Wx A lst hA hB hls hX hno hpre
       have eg := ((hA 54).trans (show _ = vs 1 by kernel_rfl)).trans (hpre.1 rfl)
       refine ⟨false, eg, fun _ K hK => ?_, fun h => absurd rfl h⟩
       have e9 := (hA 9).trans (show _ = Value.int .i64 Y by kernel_rfl)
       clear hA hpre
       go_simp
       exact hK _ _ hB rfl (fun _ _ h => h) hX
      ·intro vs Wx A lst hA hB hls hX hno hpre
       have eg := ((hA 54).trans (show _ = vs 1 by kernel_rfl)).trans (hpre.2.2.2.1 rfl)
       refine ⟨false, eg, fun _ K hK => ?_, fun h => absurd rfl h⟩
       have e55 := ((hA 55).trans (show _ = vs 2 by kernel_rfl)).trans (hpre.1 rfl)
       have e57 := ((hA 57).trans (show _ = vs 4 by kernel_rfl)).trans (hpre.2.1 rfl)
       have e58 := ((hA 58).trans (show _ = vs 5 by kernel_rfl)).trans (hpre.2.2.1 rfl)
       clear hA hpre
       go_simp
       go_at_call 19
       refine (HGm.out Wx (below_tr hp HB2.out hB)).mono ?_
       rintro e w3 ⟨rfl, hg⟩
       exact hK _ _ (below_trans hB hg) rfl (fun _ _ h => h) hX
      ·intro vs Wx A lst hA hB hls hX hno hpre
       have eg := ((hA 54).trans (show _ = vs 1 by kernel_rfl)).trans (hpre.2.1 rfl)
       refine ⟨false, eg, fun _ K hK => ?_, fun h => absurd rfl h⟩
       have e59 := ((hA 59).trans (show _ = vs 6 by kernel_rfl)).trans (hpre.1 rfl)
       have hfld := run_oop (.string (mk Gm.who)) (.bool Gm.fam) (.int .i64 Gm.year) (.int .i64 Gm.de) (.int .i64 Gm.oo) rfl Wx
       clear hA hpre
       go_simp
       exact hK _ _ hB rfl (fun _ _ h => h) hX
      ·intro vs Wx A lst hA hB hls hX hno hpre
       have eg := ((hA 54).trans (show _ = vs 1 by kernel_rfl)).trans (hpre.1 rfl)
       refine ⟨false, eg, fun _ K hK => ?_, fun h => absurd rfl h⟩
       have e4 := (hA 4).trans (show _ = Value.pointer (some ⟨p, 0, none⟩) by kernel_rfl)
       clear hA hpre
       go_simp
       exact hK _ _ hB rfl (fun _ _ h => h) hX
      ·intro vs Wx A lst hA hB hls hX hno hpre
       have eg := ((hA 54).trans (show _ = vs 1 by kernel_rfl)).trans (hpre.2.1 rfl)
       refine ⟨false, eg, fun _ K hK => ?_, fun h => absurd rfl h⟩
       have e61 := ((hA 61).trans (show _ = vs 8 by kernel_rfl)).trans (hpre.1 rfl)
       clear hA hpre
       go_simp
       exact hK _ _ hB rfl (fun _ _ h => h) hX
      ·intro vs Wx A lst hA hB hls hX hno hpre
       have eg := ((hA 54).trans (show _ = vs 1 by kernel_rfl)).trans (hpre.2.1 rfl)
       refine ⟨false, eg, fun _ K hK => ?_, fun h => absurd rfl h⟩
       have e62 := ((hA 62).trans (show _ = vs 9 by kernel_rfl)).trans (hpre.1 rfl)
       obtain ⟨⟨x0, x1, x2, x3, x4, x5, x6, x7⟩, y0, y1, y2, y3, y4, y5, y6⟩ := HXK.out Wx hB
       clear hA hpre
       go_simp
       exact hK _ _ hB rfl (fun _ _ h => h) hX
      ·intro vs Wx A lst hA hB hls hX hno hpre
       have eg := ((hA 54).trans (show _ = vs 1 by kernel_rfl)).trans (hpre.2.2.1 rfl)
       refine ⟨false, eg, fun _ K hK => ?_, fun h => absurd rfl h⟩
       have e60 := ((hA 60).trans (show _ = vs 7 by kernel_rfl)).trans (hpre.1 rfl)
       have e63 := ((hA 63).trans (show _ = vs 10 by kernel_rfl)).trans (hpre.2.1 rfl)
       clear hA hpre
       go_simp
       exact hK _ _ hB rfl (fun _ _ h => h) hX
      ·intro vs Wx A lst hA hB hls hX hno hpre K hK
       have e54 := ((hA 54).trans (show _ = vs 1 by kernel_rfl)).trans (hpre.1 rfl)
       have e64 := ((hA 64).trans (show _ = vs 11 by kernel_rfl)).trans (hpre.2.1 rfl)
       clear hA hpre
       go_simp
       exact hK _ _ hB rfl (fun _ _ h => h) hX
      ·intro vs Wx lst hall hX hB hF
       refine fun A13 hA K13 hK13 => ?_
       have e65 := ((hA 65).trans (show _ = vs 12 by kernel_rfl)).trans (hF 12 (by decide))
       clear hA
       clear hF
       go_simp
       refine hK13 _ _ ?_
       have HBW := Lib.hid hB
       clear hB hX hall
       simp only [Ri.Tail, Ri.puts]
       go_simp
       go_wp2_with fail
       go_meet
       exact ⟨by first | (rw [HVt.out]; done) | (rw [HVt.out]; rfl) | (go_simp; rw [HVt.out]), HBW.out⟩
    case rest =>
     obtain ⟨rfl, HBx⟩ := hcut
     obtain ⟨w3, hw3⟩ : ∃ z, z = wc := ⟨_, rfl⟩
     subst hw3
     have HB3 := Lib.hid (below_tr hp HB2.out HBx.out)
     have HX3 := Lib.hid (keepB HX2.out HBx.out)
     have HY3 := Lib.hid (keepB HY2.out HBx.out)
     clear HBx HB2 HX2 HY2 HGm hB2 HV HXK HD
     obtain ⟨x0, x1, x2, x3, x4, x5, x6, x7⟩ := Pl.beight HX3.out
     obtain ⟨y0, y1, y2, y3, y4, y5, y6⟩ := bseven HY3.out
     cases MM with
     | false =>
      go_wp2_with fail
      try (go_at_call 10)
      refine (HW.out w3 HB3.out).mono ?_
      rintro e w9 ⟨rfl, hb9⟩
      have HB9 := Lib.hid (below_tr hp HB3.out hb9)
      clear hb9
      go_wp2
      go_ret
      exact ⟨rfl, by first | exact HB9.out | (rw [hp]; exact HB9.out)⟩
     | true =>
      have HM3 := Lib.hid (HM2.out rfl HN0.out)
      clear HM2
      go_wp2_with fail
      try (go_at_call 11)
      refine (HJ.out w3 HB3.out).mono ?_
      rintro e w4 ⟨⟨vo4, vr4, rfl, ho4, hr4⟩, hb4⟩
      have HB4 := Lib.hid (below_tr hp HB3.out hb4)
      have HX4 := Lib.hid (keepB HX3.out hb4)
      have HY4 := Lib.hid (keepB HY3.out hb4)
      have HO4 := Lib.hid (ots_of_own (K := All) ho4 fun _ _ => trivial)
      have HR4 := Lib.hid (Ac.rws_of_own (K := All) hr4 fun _ _ => trivial)
      obtain ⟨oa4, oc4, rfl, ol4, om4⟩ := ownO_form ho4
      obtain ⟨ra4, rc4, rfl, rl4, rm4⟩ := Ac.own_form hr4
      clear ho4 hr4 hb4 x0 x1 x2 x3 x4 x5 x6 x7 y0 y1 y2 y3 y4 y5 y6 HJ HX3 HY3 HB3
      obtain ⟨x0, x1, x2, x3, x4, x5, x6, x7⟩ := Pl.beight HX4.out
      obtain ⟨y0, y1, y2, y3, y4, y5, y6⟩ := bseven HY4.out
      generalize judE t c r Ah = JE at *
      generalize judR t c r Ah = JR at *
      generalize judO t c r Ah = JO at *
      by_cases e1 : JE = 0
      case neg =>
       have q1 : (JE != 0) = true := by simp [e1]
       clear e1 HM3 HBa
       go_wp2_with fail
       try (go_at_call 10)
       refine (HW.out w4 HB4.out).mono ?_
       rintro e w9 ⟨rfl, hb9⟩
       have HB9 := Lib.hid (below_tr hp HB4.out hb9)
       clear hb9
       go_wp2
       go_ret
       exact ⟨rfl, by first | exact HB9.out | (rw [hp]; exact HB9.out)⟩
      case pos =>
       subst e1
       obtain ⟨hJR, hall⟩ := HM3.out rfl
       subst hJR
       have HAll := Lib.hid hall
       have HBb := Lib.hid (HBa.out rfl)
       clear HM3 HBa hall
       go_wp2
       clear x0 x1 x2 x3 x4 x5 x6 x7 y0 y1 y2 y3 y4 y5 y6
       go_loopg [14] (JO.length) (fun g i wr => ∃ k : Nat, k ≤ JO.length ∧ g = JO.length - k ∧ i = .int .i64 (k : Nat) ∧ Hid (Below p w wr) ∧ Hid (Below w4.heap.size w4 wr))
       case atStart => exact ⟨0, Nat.zero_le _, rfl, rfl, HB4.out, Below.refl _ _⟩
       case round =>
        obtain ⟨k, hk, hgk, rfl, HB, HBr⟩ := hrel
        by_cases hlt : k < JO.length
        ·have hltz : (k : Int) < (JO.length : Int) := by omega
         obtain ⟨ob, oo, rfl, hobl, hox, hoc⟩ := OtsAt.get (HO4.out.grw HBr.out) k hlt
         have hsum := HAll.out _ (List.getElem_mem hlt)
         obtain ⟨⟨f5a, f5b⟩, ⟨f6a, f6b⟩, f7a, f7b⟩ := HBb.out k _ hox
         generalize JO[k] = o at *
         unfold OtCells at hoc
         obtain ⟨o0, o1, o2, o3, o4, o5, o6, o7⟩ := hoc
         have hs1 : IntKind.i64.wrap (o.de + o.cp) = o.de + o.cp := by rw [IntKind.wrap_i64]; omega
         have hs2 : IntKind.i64.wrap (o.de + o.cp + o.cn) = o.de + o.cp + o.cn := by rw [IntKind.wrap_i64]; omega
         have q4 : (o.de + o.cp + o.cn != 0) = false := by simp [hsum]
         clear hsum hox
         go_wp2_with fail
         go_quiet (fail)
         go_wp2
         go_roundg (JO.length - (k + 1))
         case measure => omega
         case rel => exact ⟨k + 1, by omega, rfl, by first | rfl | go_num | (congr 1; omega), HB.out.trans (below_dq _ _ _), HBr.out.trans (below_dq _ _ _)⟩
        ·have hltz : ¬ (k : Int) < (JO.length : Int) := by omega
         have HSm := Lib.hid (Ac.same_eq JR _ _ wr (HR4.out.grw HBr.out) (HRo.out wr HB.out) (by omega))
         go_wp2_with fail
         try (go_at_call 14)
         refine HSm.out.mono ?_
         rintro e w6 ⟨rfl, hb6⟩
         have HB6 := Lib.hid (below_tr hp HB.out hb6)
         clear hb6 HSm
         go_wp2_with fail
         try (go_at_call 10)
         refine (HW.out w6 HB6.out).mono ?_
         rintro e w9 ⟨rfl, hb9⟩
         have HB9 := Lib.hid (below_tr hp HB6.out hb9)
         clear hb9
         go_wp2
         go_ret
         exact ⟨rfl, by first | exact HB9.out | (rw [hp]; exact HB9.out)⟩
theorem laidOut : laidOutB Tryz.prog = true := by kernel_rfl
set_option maxRecDepth 100000 in
theorem lifted (os : Os) (started : os.Started) (H : Type) (enc : TypeId × Value → H) :
  ReturnsInHanded {} Tryz.checked os 6 .any (fun w args => (Rows.judgeMetSpec.pre enc Tryz.prog Tryz.f6 [] false w args ∧ laidMetH Tryz.prog laidL w) ∧ sizedMet enc Tryz.prog Tryz.f6 (OpenSpec.ofChange Rows.judgeMetSpec) false w args) (Rows.judgeMetSpec.post enc Tryz.prog Tryz.f6 false true false false) := by
 refine lift own started (by kernel_rfl) Tryz.func6
  (ChangeSpec.witness_shaped (enc := enc) (C := Tryz.checked) (os := os) (X := fun w _ => laidMetH Tryz.prog laidL w) false (World.laidAll Tryz.prog os laidL) #[.agg #[.int .i64 0, .int .i64 0, .int .i64 0, .int .i64 0, .int .i64 0, .slice none 0 0, .slice none 0 0, .slice none 0 0], .agg #[.string ByteArray.empty, .string ByteArray.empty, .string ByteArray.empty, .int .i64 0, .int .i64 0, .string ByteArray.empty, .slice none 0 0], .slice none 0 0, .slice none 0 0] 8 (World.laidAll_os _ _ _)
   (World.shaped_of_ZipB (by kernel_rfl) (by kernel_rfl)) (by kernel_rfl) (by kernel_rfl) (by kernel_rfl)
   (by rw [MakeChecks.laidMetH_plain _ _ _ (by kernel_rfl)]; exact laidMet_laidAll _ (by kernel_rfl) (by kernel_rfl))) ?_
 intro W base args ds gs before hval0 hW hwt hT
 have hval : ∀ (j : Nat) t v, Tryz.f6.params[j]? = some t → args[j]? = some v → Value.okWide Tryz.prog W .any base t v := hval0
 have hW' := hW
 obtain ⟨p, q, hA0, hV, rfl, hfz, hnd⟩ := hW
 have hA : DataW.TrodAll enc Tryz.prog W 0 (fun _ => true) true Tryz.f6.params.toList args.toList ds p := hA0
 rw [Tryz.params6] at hA hval hwt
 obtain ⟨v0, vs0, d0, ds0, p0, q0, hargs, rfl, rfl, h0, r0⟩ := trodAll_cons hA
 obtain ⟨v1, vs1, d1, ds1, p1, q1, rfl, rfl, rfl, h1, r1⟩ := trodAll_cons r0
 obtain ⟨v2, vs2, d2, ds2, p2, q2, rfl, rfl, rfl, h2, r2⟩ := trodAll_cons r1
 obtain ⟨v3, vs3, d3, ds3, p3, q3, rfl, rfl, rfl, h3, r3⟩ := trodAll_cons r2
 obtain ⟨rfl, rfl, rfl⟩ := trodAll_nil r3
 obtain rfl : args = #[v0, v1, v2, v3] := by cases args; simp_all
 obtain ⟨rfl, rfl⟩ := trodVars_none hV
 have hwl : ∀ z, (z ∈ d0.weights Tryz.prog 28 → z ≤ reachBytes) ∧ (z ∈ d1.weights Tryz.prog 31 → z ≤ reachBytes) ∧ (z ∈ d2.weights Tryz.prog 32 → z ≤ reachBytes) ∧ (z ∈ d3.weights Tryz.prog 29 → z ≤ reachBytes) := fun z => by
  have h := List.all_eq_true.1 hwt z
  simp only [decide_eq_true_eq] at h
  refine ⟨fun hz => h ?_, fun hz => h ?_, fun hz => h ?_, fun hz => h ?_⟩
  all_goals
   simp only [List.cons_append, List.nil_append, List.toList_toArray, List.append_nil, DataW.weightsEach, List.mem_append]
   simp [hz]
 have k0 := h0
 have lt0 : ∀ x ∈ p0, x.block < W.heap.size := by obtain ⟨m, hm⟩ := k0; exact DataW.trod_lt m _ _ _ hm
 obtain ⟨t0, m0, mf0, me0, rfl, g0, z0⟩ := Jo.open_tables (hval 0 28 v0 rfl rfl) h0 (fun z hz => (hwl z).1 hz)
 have k1 := h1
 have lt1 : ∀ x ∈ p1, x.block < W.heap.size := by obtain ⟨m, hm⟩ := k1; exact DataW.trod_lt m _ _ _ hm
 obtain ⟨x1, m1, rfl, g1, z1⟩ := open_claim (hval 1 31 v1 rfl rfl) h1 (fun z hz => (hwl z).2.1 hz)
 have k2 := h2
 have lt2 : ∀ x ∈ p2, x.block < W.heap.size := by obtain ⟨m, hm⟩ := k2; exact DataW.trod_lt m _ _ _ hm
 obtain ⟨l2, g2, z2⟩ := Ao.open_rows (okWide_slice Tryz.underlying32 (hval 2 32 v2 rfl rfl)) h2
 have k3 := h3
 have lt3 : ∀ x ∈ p3, x.block < W.heap.size := by obtain ⟨m, hm⟩ := k3; exact DataW.trod_lt m _ _ _ hm
 obtain ⟨l3, g3, n3, z3⟩ := Jo.open_lns (okWide_slice Tryz.underlying29 (hval 3 29 v3 rfl rfl)) h3 (fun z hz => (hwl z).2.2.2 hz)
 clear hA0 hval0
 refine (walk W t0 m0 mf0 me0 g0 z0 x1 m1 g1 z1 v2 l2 g2 z2 v3 l3 g3 n3 z3 hT).mono fun e W' ⟨he, bel⟩ => ?_
 subst he
 exact ⟨_, rfl, _, _, _, [], _, [], hW', (trodAll_cons_mk (shut_bool Tryz.underlying4 _) trodAll_mk0), (trodAll_cons_mk (Below.trod laidOut (by kernel_rfl) (of_decide_eq_true (by kernel_rfl)) k0 bel lt0) (trodAll_cons_mk (Below.trod laidOut (by kernel_rfl) (of_decide_eq_true (by kernel_rfl)) k1 bel lt1) (trodAll_cons_mk (Below.trod laidOut (by kernel_rfl) (of_decide_eq_true (by kernel_rfl)) k2 bel lt2) (trodAll_cons_mk (Below.trod laidOut (by kernel_rfl) (of_decide_eq_true (by kernel_rfl)) k3 bel lt3) trodAll_mk0)))), rfl, bel.frame _, fun h => by cases h⟩
theorem over : Rows.judgeMetRow.holds Tryz.pinned (OpenSpec.ofChange Rows.judgeMetSpec) :=
 OpenClaim.holds_of_wide 6 Tryz.f6 rfl rfl rfl rfl rfl rfl rfl ⟨rfl, rfl, rfl, rfl, rfl⟩ rfl rfl rfl rfl rfl (by kernel_rfl) Tryz.func6 (by kernel_rfl)
  (of_decide_eq_true (by kernel_rfl)) (by unfold Func.isWrapper; first | (rw [if_pos (by decide +kernel)]; kernel_rfl) | (rw [if_neg (by decide +kernel)]; exact ⟨rfl, rfl⟩))
  (fun os started H enc _ => lifted os started H enc)
theorem proved : Rows.JudgeMetSaid := over
end Go.Proofs.YtfoooldkmokjpaaGreatDoor.judgeMet
namespace Go.Proofs.YtfoooldkmokjpaaGreatDoor
theorem judgeMet_holds : Rows.JudgeMetCardSaid :=
 Claim7.holds_tied_plain_at .later [] [.data] true (true, "203a673702dc739383e77bc5b6f001fe9522524a9effc6b154593a7a6936cfba") false
  judgeMet.proved (fun _ h => by cases h) (by kernel_rfl) (fun _ h => by cases h) judgeMet_row_tie rfl ⟨rfl, rfl⟩ (by kernel_rfl) rfl
  (fun f fn hf hfn => by
   obtain rfl : f = 6 := Option.some.inj ((show Tryz.prog.funcNamed "leechbook/leechbooklaw17.JudgeMet" = some 6 by kernel_rfl).symm.trans hf) |>.symm
   obtain rfl : fn = Tryz.f6 := (Option.some.inj (Tryz.func6.symm.trans hfn)).symm
   exact ⟨by kernel_rfl, fun j t ht => by
    rw [Tryz.params6] at ht
    have hm : t ∈ [28, 31, 32, 29] := by simpa using Array.mem_of_getElem? ht
    have hall : ([28, 31, 32, 29].all fun u => !Tryz.prog.wantsStandIn u) = true := by kernel_rfl
    exact (show Tryz.prog.wantsStandIn t = false by simpa using List.all_eq_true.1 hall t hm)⟩)
  (by kernel_rfl)
#print axioms judgeMet_holds
end Go.Proofs.YtfoooldkmokjpaaGreatDoor
