/-
  The statement JudgeBalances (17.5): of each service of a claim that is judged all that was billed goes somewhere; what is denied is neither paid nor borne: for all tables, claims, rows and services ahead; without a condition.
-/
import Derived.WalkKit
import Derived.ProofKit
import Derived.OpenShut
import Derived.ShutString
import Derived.Below
import Derived.Carry
import Derived.LaidMore
import Derived.Stop.Joined
import Derived.SevenTiedAt
import Derived.Deep.DeepCutAuto
import Derived.Test.YtfoooldkmokjpaaGreatDoorRows
import Derived.Test.YtfoooldkmokjpaaGreatDoorMj47
import Derived.Test.YtfoooldkmokjpaaGreatDoorMj48
import Derived.Test.YtfoooldkmokjpaaGreatDoorMj49
import Derived.Test.YtfoooldkmokjpaaGreatDoorMj51
import Derived.Test.YtfoooldkmokjpaaGreatDoorTie
import Derived.Test.YtfoooldkmokjpaaGreatDoorCards
namespace Go.Proofs.YtfoooldkmokjpaaGreatDoor.judgeBalances
open Go.ChangeShapes Go.WideShapes Go.ChangeAt Go.RowKit
open Cm (Ln Cl LnsAt clv lnv LnOk ClOk laidL lift open_claim)
open Ju
open Ac (Row RwsAt Own keepB below_alloc below_trans below_tr alloc_new getV)
open Sh (Ot)
open Go.ChangeMaps (open_string)
set_option linter.unusedVariables false
set_option linter.unusedSimpArgs false
set_option maxRecDepth 100000
theorem own : ownKnob Tryz.prog.godebug = none := by kernel_rfl
set_option maxHeartbeats 16000000 in
theorem walk (w : World) (t : Ju.Tb) (m mf me : Value) (hA : Ju.TbAt w m mf me t) (hz : Ju.TbOk t) (c : Cl) (ml : Value) (hL : LnsAt All w ml c.lines) (hc : ClOk c) (vr : Value) (r : List Ac.Row) (hR : Ac.RwsAt All w vr r) (hyr : ∀ x ∈ r, Ao.I64 x.year) (va : Value) (Ah : List Ln) (hV : LnsAt All w va Ah) (hxl : Ah.length ≤ 281474976710656) (hx : ∀ x ∈ Ah, LnOk x) (hT : Da.Tab w) :
  Calls Tryz.prog 4 #[.agg #[.int .i64 t.plan.mode, .int .i64 t.plan.indDed, .int .i64 t.plan.famDed, .int .i64 t.plan.indOop, .int .i64 t.plan.famOop, m, mf, me], clv c ml, vr, va] w fun e w' => e = .returned (.bool true) ∧ Below w.heap.size w w' := by
 have HW := Lib.hid fun W (hW : Below w.heap.size w W) => works_any W (Cm.tab_below hT hW)
 obtain ⟨ma, mc, fa, fc, ea, ec, rfl, rfl, rfl⟩ := hA.form
 obtain ⟨la, lc, rfl, hl1, hl2⟩ := Cm.LnsAt.form hL
 obtain ⟨ra, rc, rfl, hr1, hr2⟩ := hR.form
 obtain ⟨aa, ac, rfl, ha1, ha2⟩ := Cm.LnsAt.form hV
 have HLi := Lib.hid fun W (hW : Below w.heap.size w W) => light_any t c r Ah _ _ _ _ _ _ W (hA.grw hW) (Ex.lns_grw hL hW) (hR.grw hW) (Ex.lns_grw hV hW) hz hc hx hxl
 have HJu : Hid (LtP c r Ah → ∀ W, Below w.heap.size w W → Calls Tryz.prog 11 #[.agg #[.int .i64 t.plan.mode, .int .i64 t.plan.indDed, .int .i64 t.plan.famDed, .int .i64 t.plan.indOop, .int .i64 t.plan.famOop, .slice ma t.plan.rules.length mc, .slice fa t.fees.length fc, .slice ea t.edits.length ec], .agg #[.string (mk c.id), .string (mk c.mem), .string (mk c.fam), .int .i64 c.net, .int .i64 c.does, .string (mk c.ref), .slice la c.lines.length lc], .slice ra r.length rc, .slice aa Ah.length ac] W fun e w' => JdV W.heap.size w' e (judE t c r Ah) (judO t c r Ah) (judR t c r Ah) ∧ Below W.heap.size W w') := fun h W hW => judge_any t c r Ah _ _ _ _ _ _ W (hA.grw hW) (Ex.lns_grw hL hW) (hR.grw hW) (Ex.lns_grw hV hW) ⟨hz, hc, h.2.1.1, h.2.2.1, Nat.le_trans h.2.2.2 (by decide), Nat.le_trans h.2.1.2 (by decide)⟩ (Nat.le_trans h.1 (by decide)) (Cm.tab_below hT hW)
 have HLn := Lib.hid fun W (hW : Below w.heap.size w W) => Ex.lns_grw hL hW
 have HRo := Lib.hid fun W (hW : Below w.heap.size w W) => hR.grw hW
 have HCO := Lib.hid hc
 have HBa : Hid (judE t c r Ah = 0 → (judO t c r Ah).length = c.lines.length ∧ ∀ (k : Nat) (x : Ln) (o : Ot), c.lines[k]? = some x → (judO t c r Ah)[k]? = some o → Sh.balB x.billed o = true ∧ o.pr = x.prior ∧ (o.deny ≠ 0 → o.plan = 0 ∧ o.de + o.cp + o.cn = 0 ∧ o.al = 0) ∧ x.billed ≤ 10000000000000 ∧ (0 ≤ o.de ∧ o.de ≤ 10000000000000) ∧ (0 ≤ o.cp ∧ o.cp ≤ 10000000000000) ∧ (0 ≤ o.cn ∧ o.cn ≤ 10000000000000)) := jud_balances t c r Ah
 have HNo : Hid (judE t c r Ah ≠ 0 → judO t c r Ah = []) := fun h => by unfold judO; rw [if_neg h]
 clear hA hL hR hV hz hx hT
 have hbx : Below w.heap.size w ((w.alloc (.cells #[.int .i64 t.plan.mode, .int .i64 t.plan.indDed, .int .i64 t.plan.famDed, .int .i64 t.plan.indOop, .int .i64 t.plan.famOop, .slice ma t.plan.rules.length mc, .slice fa t.fees.length fc, .slice ea t.edits.length ec] 28)).alloc (.cells #[.string (mk c.id), .string (mk c.mem), .string (mk c.fam), .int .i64 c.net, .int .i64 c.does, .string (mk c.ref), .slice la c.lines.length lc] 31)) := below_trans (below_alloc _ _) (below_alloc _ _)
 have hz1 := keepB (alloc_new w #[.int .i64 t.plan.mode, .int .i64 t.plan.indDed, .int .i64 t.plan.famDed, .int .i64 t.plan.indOop, .int .i64 t.plan.famOop, .slice ma t.plan.rules.length mc, .slice fa t.fees.length fc, .slice ea t.edits.length ec] 28) (below_alloc _ (.cells #[.string (mk c.id), .string (mk c.mem), .string (mk c.fam), .int .i64 c.net, .int .i64 c.does, .string (mk c.ref), .slice la c.lines.length lc] 31))
 have hz2 := alloc_new (w.alloc (.cells #[.int .i64 t.plan.mode, .int .i64 t.plan.indDed, .int .i64 t.plan.famDed, .int .i64 t.plan.indOop, .int .i64 t.plan.famOop, .slice ma t.plan.rules.length mc, .slice fa t.fees.length fc, .slice ea t.edits.length ec] 28)) #[.string (mk c.id), .string (mk c.mem), .string (mk c.fam), .int .i64 c.net, .int .i64 c.does, .string (mk c.ref), .slice la c.lines.length lc] 31
 rw [show (w.alloc (.cells #[.int .i64 t.plan.mode, .int .i64 t.plan.indDed, .int .i64 t.plan.famDed, .int .i64 t.plan.indOop, .int .i64 t.plan.famOop, .slice ma t.plan.rules.length mc, .slice fa t.fees.length fc, .slice ea t.edits.length ec] 28)).heap.size = w.heap.size + 1 by simp] at hz2
 have HX := Lib.hid hz1
 have HY := Lib.hid hz2
 have HB0 := Lib.hid hbx
 clear hbx hz1 hz2 hc
 go_enter Tryz.func4, Tryz.ntmps4
 go_upto_region 1 with fail
 generalize ((w.alloc (.cells #[.int .i64 t.plan.mode, .int .i64 t.plan.indDed, .int .i64 t.plan.famDed, .int .i64 t.plan.indOop, .int .i64 t.plan.famOop, .slice ma t.plan.rules.length mc, .slice fa t.fees.length fc, .slice ea t.edits.length ec] 28)).alloc (.cells #[.string (mk c.id), .string (mk c.mem), .string (mk c.fam), .int .i64 c.net, .int .i64 c.does, .string (mk c.ref), .slice la c.lines.length lc] 31)) = W at *
 generalize hp : w.heap.size = p at *
 obtain ⟨p1, hp1⟩ : ∃ u, u = p + 1 := ⟨_, rfl⟩
 rw [← hp1] at HY ⊢
 clear hp1
 obtain ⟨x0, x1, x2, x3, x4, x5, x6, x7⟩ := Pl.beight HX.out
 obtain ⟨y0, y1, y2, y3, y4, y5, y6⟩ := bseven HY.out
 go_wp2_with fail
 try (go_at_call 9)
 refine (HLi.out W HB0.out).mono ?_
 rintro e w1 ⟨⟨n1, rfl, hn1⟩, hb1⟩
 have HB1 := Lib.hid (below_tr hp HB0.out hb1)
 have HX1 := Lib.hid (keepB HX.out hb1)
 have HY1 := Lib.hid (keepB HY.out hb1)
 clear hb1 HX HY HB0 HLi x0 x1 x2 x3 x4 x5 x6 x7 y0 y1 y2 y3 y4 y5 y6
 obtain ⟨x0, x1, x2, x3, x4, x5, x6, x7⟩ := Pl.beight HX1.out
 obtain ⟨y0, y1, y2, y3, y4, y5, y6⟩ := bseven HY1.out
 by_cases g1 : (0 : Int) < n1
 ·obtain ⟨x0, x1, x2, x3, x4, x5, x6, x7⟩ := Pl.beight HX1.out
  obtain ⟨y0, y1, y2, y3, y4, y5, y6⟩ := bseven HY1.out
  go_wp2_with fail
  try (go_at_call 10)
  refine (HW.out w1 HB1.out).mono ?_
  rintro e w9 ⟨rfl, hb9⟩
  have HB9 := Lib.hid (below_tr hp HB1.out hb9)
  clear hb9
  go_wp2
  go_ret
  exact ⟨rfl, by first | exact HB9.out | (rw [hp]; exact HB9.out)⟩
 have HJ := Lib.hid (HJu.out (hn1 (by omega)))
 have HLt := Lib.hid (hn1 (by omega))
 clear HJu hn1
 go_wp2_with fail
 try (go_at_call 11)
 refine (HJ.out w1 HB1.out).mono ?_
 rintro e w2 ⟨⟨vo2, vr2, rfl, ho2, hr2⟩, hb2⟩
 have HB2 := Lib.hid (below_tr hp HB1.out hb2)
 have HX2 := Lib.hid (keepB HX1.out hb2)
 have HY2 := Lib.hid (keepB HY1.out hb2)
 have HO2 := Lib.hid (ots_of_own (K := All) ho2 fun _ _ => trivial)
 have HR2 := Lib.hid (Ac.rws_of_own (K := All) hr2 fun _ _ => trivial)
 obtain ⟨oa2, oc2, rfl, ol2, om2⟩ := ownO_form ho2
 obtain ⟨ra2, rc2, rfl, rl2, rm2⟩ := Ac.own_form hr2
 clear ho2 hr2 hb2 x0 x1 x2 x3 x4 x5 x6 x7 y0 y1 y2 y3 y4 y5 y6 HJ HX1 HY1 HB1 HR2
 obtain ⟨x0, x1, x2, x3, x4, x5, x6, x7⟩ := Pl.beight HX2.out
 obtain ⟨y0, y1, y2, y3, y4, y5, y6⟩ := bseven HY2.out
 generalize judE t c r Ah = JE at *
 generalize judO t c r Ah = JO at *
 by_cases e1 : JE = 0
 case neg =>
  have q1 : (JE != 0) = true := by simp [e1]
  have hJO := HNo.out e1
  subst hJO
  clear e1 HBa HNo
  go_wp2_with fail
  try (go_at_call 10)
  refine (HW.out w2 HB2.out).mono ?_
  rintro e w9 ⟨rfl, hb9⟩
  have HB9 := Lib.hid (below_tr hp HB2.out hb9)
  clear hb9
  go_wp2
  go_ret
  exact ⟨rfl, by first | exact HB9.out | (rw [hp]; exact HB9.out)⟩
 case pos =>
  subst e1
  obtain ⟨hjl, hba⟩ := HBa.out rfl
  have HBb := Lib.hid hba
  have HJl := Lib.hid hjl
  clear HBa HNo hba
  rw [hjl] at ol2 HO2 ⊢
  have hne : ((c.lines.length : Int) != (c.lines.length : Int)) = false := by simp
  clear hjl
  go_wp2
  clear x0 x1 x2 x3 x4 x5 x6 x7 y0 y1 y2 y3 y4 y5 y6 hne
  go_loopg [12] (c.lines.length) (fun g i wr => ∃ k : Nat, k ≤ c.lines.length ∧ g = c.lines.length - k ∧ i = .int .i64 (k : Nat) ∧ Hid (Below p w wr) ∧ Hid (wr.heap[p1]? = some (.cells #[.string (mk c.id), .string (mk c.mem), .string (mk c.fam), .int .i64 c.net, .int .i64 c.does, .string (mk c.ref), .slice la c.lines.length lc] 31 (0, 0))) ∧ Hid (OtsAt All wr (.slice oa2 c.lines.length oc2) JO))
  case atStart => exact ⟨0, Nat.zero_le _, rfl, rfl, HB2.out, HY2.out, HO2.out⟩
  case round =>
   clear HB2 HY2 HO2 HX2
   obtain ⟨k, hk, hgk, rfl, HB, HY, HO⟩ := hrel
   by_cases hlt : k < c.lines.length
   ·have hltz : (k : Int) < (c.lines.length : Int) := by omega
    have hkj : k < JO.length := by rw [HJl.out]; exact hlt
    obtain ⟨ob, oo, rfl, hobl, hox, hoc⟩ := OtsAt.get HO.out k hkj
    obtain ⟨b, lo, mx, rfl, hbl, hxc, hxm⟩ := lns_at (HLn.out wr HB.out) (List.getElem?_eq_getElem hlt)
    obtain ⟨f1, f2, f3, f4, f5, f6, f7⟩ := HBb.out k _ _ (List.getElem?_eq_getElem hlt) hox
    generalize JO[k] = o at *
    generalize c.lines[k] = x at *
    have HBal := Lib.hid fun W => Sh.bal_yes x.billed o W f1 f4
    have HXK := Lib.hid fun W' (hW : Below wr.heap.size wr W') => And.intro (hoc.of (hW.block ob hobl)) (And.intro (hxc.of (hW.block b hbl)) (bseven (keepB HY.out hW)))
    have HD := Lib.hid (Below.drew (Below.refl wr.heap.size wr))
    obtain ⟨wo, hwo⟩ : ∃ z, z = wr := ⟨_, rfl⟩
    subst hwo
    have HPq := Lib.hid f2
    clear hoc hxc hxm f1 f2 f4 hox hobl hbl
    unfold OtCells Cm.LnCells at HXK
    go_upto_region 11 with fail
    go_cut [74] (fun s74 wx => s74 = .bool false ∧ Hid (Below wo.heap.size wo wx))
    case first =>
     refine Ri.wp_region_lastingB_g (by kernel_rfl) (by kernel_rfl) (by kernel_rfl) (fun Wx => Below wo.heap.size wo Wx) (fun kz vs wz => (fun kx vx wx => match kx with | 0 => vx = .pointer (some ⟨p1, 6, none⟩) | 1 => vx = .slice (some ⟨b, lo, none⟩) c.lines.length lc | 2 => vx = .int .i64 (k : Nat) | 3 => vx = .pointer (some ⟨b, lo + k * 6, none⟩) | 4 => vx = .pointer (some ⟨b, lo + k * 6 + 4, none⟩) | 5 => vx = .int .i64 x.billed | 6 => vx = .slice (some ⟨ob, oo, none⟩) c.lines.length oc2 | 7 => vx = .int .i64 (k : Nat) | 8 => vx = .pointer (some ⟨ob, oo + k * 8, none⟩) | 9 => vx = .agg #[.int .i64 o.al, .int .i64 o.de, .int .i64 o.cp, .int .i64 o.cn, .int .i64 o.plan, .int .i64 o.wr, .int .i64 o.pr, .int .i64 o.deny] | 10 => vx = .bool true | 11 => vx = .bool false | 12 => vx = .bool false | 13 => vx = .slice (some ⟨ob, oo, none⟩) c.lines.length oc2 | 14 => vx = .int .i64 (k : Nat) | 15 => vx = .pointer (some ⟨ob, oo + k * 8, none⟩) | 16 => vx = .pointer (some ⟨ob, oo + k * 8 + 6, none⟩) | 17 => vx = .int .i64 o.pr | 18 => vx = .pointer (some ⟨p1, 6, none⟩) | 19 => vx = .slice (some ⟨b, lo, none⟩) c.lines.length lc | 20 => vx = .int .i64 (k : Nat) | 21 => vx = .pointer (some ⟨b, lo + k * 6, none⟩) | 22 => vx = .pointer (some ⟨b, lo + k * 6 + 5, none⟩) | 23 => vx = .int .i64 x.prior | 24 => vx = .bool false | 25 => vx = .bool false | _ => True : Nat → Value → World → Prop) kz (vs kz) wz) (fun kz => [kz]) (by kernel_rfl) (fun jz vs iz vz wz hiz hz => Ri.loc_own (F := (fun kx vx wx => match kx with | 0 => vx = .pointer (some ⟨p1, 6, none⟩) | 1 => vx = .slice (some ⟨b, lo, none⟩) c.lines.length lc | 2 => vx = .int .i64 (k : Nat) | 3 => vx = .pointer (some ⟨b, lo + k * 6, none⟩) | 4 => vx = .pointer (some ⟨b, lo + k * 6 + 4, none⟩) | 5 => vx = .int .i64 x.billed | 6 => vx = .slice (some ⟨ob, oo, none⟩) c.lines.length oc2 | 7 => vx = .int .i64 (k : Nat) | 8 => vx = .pointer (some ⟨ob, oo + k * 8, none⟩) | 9 => vx = .agg #[.int .i64 o.al, .int .i64 o.de, .int .i64 o.cp, .int .i64 o.cn, .int .i64 o.plan, .int .i64 o.wr, .int .i64 o.pr, .int .i64 o.deny] | 10 => vx = .bool true | 11 => vx = .bool false | 12 => vx = .bool false | 13 => vx = .slice (some ⟨ob, oo, none⟩) c.lines.length oc2 | 14 => vx = .int .i64 (k : Nat) | 15 => vx = .pointer (some ⟨ob, oo + k * 8, none⟩) | 16 => vx = .pointer (some ⟨ob, oo + k * 8 + 6, none⟩) | 17 => vx = .int .i64 o.pr | 18 => vx = .pointer (some ⟨p1, 6, none⟩) | 19 => vx = .slice (some ⟨b, lo, none⟩) c.lines.length lc | 20 => vx = .int .i64 (k : Nat) | 21 => vx = .pointer (some ⟨b, lo + k * 6, none⟩) | 22 => vx = .pointer (some ⟨b, lo + k * 6 + 5, none⟩) | 23 => vx = .int .i64 x.prior | 24 => vx = .bool false | 25 => vx = .bool false | _ => True : Nat → Value → World → Prop)) jz vs iz vz wz hiz hz) HD.out ⟨Or.inl ⟨rfl, ?_⟩, Or.inl ⟨rfl, ?_⟩, Or.inl ⟨rfl, ?_⟩, Or.inl ⟨rfl, ?_⟩, Or.inl ⟨rfl, ?_⟩, Or.inl ⟨rfl, ?_⟩, Or.inl ⟨rfl, ?_⟩, Or.inl ⟨rfl, ?_⟩, Or.inl ⟨rfl, ?_⟩, Or.inl ⟨rfl, ?_⟩, Or.inl ⟨rfl, ?_⟩, Or.inl ⟨rfl, ?_⟩, Or.inl ⟨rfl, ?_⟩, Or.inr ⟨12, false, 61, rfl, rfl, ?_⟩, Or.inr ⟨12, false, 61, rfl, rfl, ?_⟩, Or.inr ⟨12, false, 61, rfl, rfl, ?_⟩, Or.inr ⟨12, false, 61, rfl, rfl, ?_⟩, Or.inr ⟨12, false, 61, rfl, rfl, ?_⟩, Or.inr ⟨12, false, 61, rfl, rfl, ?_⟩, Or.inr ⟨12, false, 61, rfl, rfl, ?_⟩, Or.inr ⟨12, false, 61, rfl, rfl, ?_⟩, Or.inr ⟨12, false, 61, rfl, rfl, ?_⟩, Or.inr ⟨12, false, 61, rfl, rfl, ?_⟩, Or.inr ⟨12, false, 61, rfl, rfl, ?_⟩, Or.inr ⟨12, false, 61, rfl, rfl, ?_⟩, Or.inl ⟨rfl, ?_⟩, trivial⟩ ?_
     ·intro vs Wx A hA hB hpre K hK
      have e5 := (hA 5).trans (show _ = Value.pointer (some ⟨p1, 0, none⟩) by kernel_rfl)
      clear hA hpre
      go_simp
      exact hK _ _ hB rfl (fun _ _ h => h)
     ·intro vs Wx A hA hB hpre K hK
      have e49 := ((hA 49).trans (show _ = vs 0 by kernel_rfl)).trans (hpre.1 rfl)
      obtain ⟨⟨o0, o1, o2, o3, o4, o5, o6, o7⟩, ⟨l0, l1, l2, l3, l4, l5⟩, y0, y1, y2, y3, y4, y5, y6⟩ := HXK.out Wx hB
      clear hA hpre
      go_simp
      exact hK _ _ hB rfl (fun _ _ h => h)
     ·intro vs Wx A hA hB hpre K hK
      have e12 := (hA 12).trans (show _ = Value.int .i64 (k : Nat) by kernel_rfl)
      clear hA hpre
      go_simp
      exact hK _ _ hB rfl (fun _ _ h => h)
     ·intro vs Wx A hA hB hpre K hK
      have e50 := ((hA 50).trans (show _ = vs 1 by kernel_rfl)).trans (hpre.1 rfl)
      have e51 := ((hA 51).trans (show _ = vs 2 by kernel_rfl)).trans (hpre.2.1 rfl)
      clear hA hpre
      go_simp
      exact hK _ _ hB rfl (fun _ _ h => h)
     ·intro vs Wx A hA hB hpre K hK
      have e52 := ((hA 52).trans (show _ = vs 3 by kernel_rfl)).trans (hpre.1 rfl)
      clear hA hpre
      go_simp
      exact hK _ _ hB rfl (fun _ _ h => h)
     ·intro vs Wx A hA hB hpre K hK
      have e53 := ((hA 53).trans (show _ = vs 4 by kernel_rfl)).trans (hpre.1 rfl)
      obtain ⟨⟨o0, o1, o2, o3, o4, o5, o6, o7⟩, ⟨l0, l1, l2, l3, l4, l5⟩, y0, y1, y2, y3, y4, y5, y6⟩ := HXK.out Wx hB
      clear hA hpre
      go_simp
      exact hK _ _ hB rfl (fun _ _ h => h)
     ·intro vs Wx A hA hB hpre K hK
      have e9 := (hA 9).trans (show _ = Value.slice (some ⟨ob, oo, none⟩) c.lines.length oc2 by kernel_rfl)
      clear hA hpre
      go_simp
      exact hK _ _ hB rfl (fun _ _ h => h)
     ·intro vs Wx A hA hB hpre K hK
      have e12 := (hA 12).trans (show _ = Value.int .i64 (k : Nat) by kernel_rfl)
      clear hA hpre
      go_simp
      exact hK _ _ hB rfl (fun _ _ h => h)
     ·intro vs Wx A hA hB hpre K hK
      have e55 := ((hA 55).trans (show _ = vs 6 by kernel_rfl)).trans (hpre.1 rfl)
      have e56 := ((hA 56).trans (show _ = vs 7 by kernel_rfl)).trans (hpre.2.1 rfl)
      clear hA hpre
      go_simp
      exact hK _ _ hB rfl (fun _ _ h => h)
     ·intro vs Wx A hA hB hpre K hK
      have e57 := ((hA 57).trans (show _ = vs 8 by kernel_rfl)).trans (hpre.1 rfl)
      obtain ⟨⟨o0, o1, o2, o3, o4, o5, o6, o7⟩, ⟨l0, l1, l2, l3, l4, l5⟩, y0, y1, y2, y3, y4, y5, y6⟩ := HXK.out Wx hB
      clear hA hpre
      go_simp
      exact hK _ _ hB rfl (fun _ _ h => h)
     ·intro vs Wx A hA hB hpre K hK
      have e54 := ((hA 54).trans (show _ = vs 5 by kernel_rfl)).trans (hpre.1 rfl)
      have e58 := ((hA 58).trans (show _ = vs 9 by kernel_rfl)).trans (hpre.2.1 rfl)
      clear hA hpre
      go_simp
      go_at_call 17
      refine (HBal.out Wx).mono ?_
      rintro e w3 ⟨rfl, hg⟩
      exact hK _ _ (below_trans hB hg) rfl (fun _ _ h => h)
     ·intro vs Wx A hA hB hpre K hK
      have e59 := ((hA 59).trans (show _ = vs 10 by kernel_rfl)).trans (hpre.1 rfl)
      clear hA hpre
      go_simp
      exact hK _ _ hB rfl (fun _ _ h => h)
     ·intro vs Wx A hA hB hpre K hK
      have e60 := ((hA 60).trans (show _ = vs 11 by kernel_rfl)).trans (hpre.1 rfl)
      clear hA hpre
      go_simp
      exact hK _ _ hB rfl (fun _ _ h => h)
     ·intro vs Wx A hA hB hpre
      have eg := ((hA 61).trans (show _ = vs 12 by kernel_rfl)).trans (hpre.1 rfl)
      refine ⟨false, eg, fun _ K hK => ?_, fun h => absurd rfl h⟩
      have e9 := (hA 9).trans (show _ = Value.slice (some ⟨ob, oo, none⟩) c.lines.length oc2 by kernel_rfl)
      clear hA hpre
      go_simp
      exact hK _ _ hB rfl (fun _ _ h => h)
     ·intro vs Wx A hA hB hpre
      have eg := ((hA 61).trans (show _ = vs 12 by kernel_rfl)).trans (hpre.1 rfl)
      refine ⟨false, eg, fun _ K hK => ?_, fun h => absurd rfl h⟩
      have e12 := (hA 12).trans (show _ = Value.int .i64 (k : Nat) by kernel_rfl)
      clear hA hpre
      go_simp
      exact hK _ _ hB rfl (fun _ _ h => h)
     ·intro vs Wx A hA hB hpre
      have eg := ((hA 61).trans (show _ = vs 12 by kernel_rfl)).trans (hpre.2.2.1 rfl)
      refine ⟨false, eg, fun _ K hK => ?_, fun h => absurd rfl h⟩
      have e62 := ((hA 62).trans (show _ = vs 13 by kernel_rfl)).trans (hpre.1 rfl)
      have e63 := ((hA 63).trans (show _ = vs 14 by kernel_rfl)).trans (hpre.2.1 rfl)
      clear hA hpre
      go_simp
      exact hK _ _ hB rfl (fun _ _ h => h)
     ·intro vs Wx A hA hB hpre
      have eg := ((hA 61).trans (show _ = vs 12 by kernel_rfl)).trans (hpre.2.1 rfl)
      refine ⟨false, eg, fun _ K hK => ?_, fun h => absurd rfl h⟩
      have e64 := ((hA 64).trans (show _ = vs 15 by kernel_rfl)).trans (hpre.1 rfl)
      clear hA hpre
      go_simp
      exact hK _ _ hB rfl (fun _ _ h => h)
     ·intro vs Wx A hA hB hpre
      have eg := ((hA 61).trans (show _ = vs 12 by kernel_rfl)).trans (hpre.2.1 rfl)
      refine ⟨false, eg, fun _ K hK => ?_, fun h => absurd rfl h⟩
      have e65 := ((hA 65).trans (show _ = vs 16 by kernel_rfl)).trans (hpre.1 rfl)
      obtain ⟨⟨o0, o1, o2, o3, o4, o5, o6, o7⟩, ⟨l0, l1, l2, l3, l4, l5⟩, y0, y1, y2, y3, y4, y5, y6⟩ := HXK.out Wx hB
      clear hA hpre
      go_simp
      exact hK _ _ hB rfl (fun _ _ h => h)
     ·intro vs Wx A hA hB hpre
      have eg := ((hA 61).trans (show _ = vs 12 by kernel_rfl)).trans (hpre.1 rfl)
      refine ⟨false, eg, fun _ K hK => ?_, fun h => absurd rfl h⟩
      have e5 := (hA 5).trans (show _ = Value.pointer (some ⟨p1, 0, none⟩) by kernel_rfl)
      clear hA hpre
      go_simp
      exact hK _ _ hB rfl (fun _ _ h => h)
     ·intro vs Wx A hA hB hpre
      have eg := ((hA 61).trans (show _ = vs 12 by kernel_rfl)).trans (hpre.2.1 rfl)
      refine ⟨false, eg, fun _ K hK => ?_, fun h => absurd rfl h⟩
      have e67 := ((hA 67).trans (show _ = vs 18 by kernel_rfl)).trans (hpre.1 rfl)
      obtain ⟨⟨o0, o1, o2, o3, o4, o5, o6, o7⟩, ⟨l0, l1, l2, l3, l4, l5⟩, y0, y1, y2, y3, y4, y5, y6⟩ := HXK.out Wx hB
      clear hA hpre
      go_simp
      exact hK _ _ hB rfl (fun _ _ h => h)
     ·intro vs Wx A hA hB hpre
      have eg := ((hA 61).trans (show _ = vs 12 by kernel_rfl)).trans (hpre.1 rfl)
      refine ⟨false, eg, fun _ K hK => ?_, fun h => absurd rfl h⟩
      have e12 := (hA 12).trans (show _ = Value.int .i64 (k : Nat) by kernel_rfl)
      clear hA hpre
      go_simp
      exact hK _ _ hB rfl (fun _ _ h => h)
     ·intro vs Wx A hA hB hpre
      have eg := ((hA 61).trans (show _ = vs 12 by kernel_rfl)).trans (hpre.2.2.1 rfl)
      refine ⟨false, eg, fun _ K hK => ?_, fun h => absurd rfl h⟩
      have e68 := ((hA 68).trans (show _ = vs 19 by kernel_rfl)).trans (hpre.1 rfl)
      have e69 := ((hA 69).trans (show _ = vs 20 by kernel_rfl)).trans (hpre.2.1 rfl)
      clear hA hpre
      go_simp
      exact hK _ _ hB rfl (fun _ _ h => h)
     ·intro vs Wx A hA hB hpre
      have eg := ((hA 61).trans (show _ = vs 12 by kernel_rfl)).trans (hpre.2.1 rfl)
      refine ⟨false, eg, fun _ K hK => ?_, fun h => absurd rfl h⟩
      have e70 := ((hA 70).trans (show _ = vs 21 by kernel_rfl)).trans (hpre.1 rfl)
      clear hA hpre
      go_simp
      exact hK _ _ hB rfl (fun _ _ h => h)
     ·intro vs Wx A hA hB hpre
      have eg := ((hA 61).trans (show _ = vs 12 by kernel_rfl)).trans (hpre.2.1 rfl)
      refine ⟨false, eg, fun _ K hK => ?_, fun h => absurd rfl h⟩
      have e71 := ((hA 71).trans (show _ = vs 22 by kernel_rfl)).trans (hpre.1 rfl)
      obtain ⟨⟨o0, o1, o2, o3, o4, o5, o6, o7⟩, ⟨l0, l1, l2, l3, l4, l5⟩, y0, y1, y2, y3, y4, y5, y6⟩ := HXK.out Wx hB
      clear hA hpre
      go_simp
      exact hK _ _ hB rfl (fun _ _ h => h)
     ·intro vs Wx A hA hB hpre
      have eg := ((hA 61).trans (show _ = vs 12 by kernel_rfl)).trans (hpre.2.2.1 rfl)
      refine ⟨false, eg, fun _ K hK => ?_, fun h => absurd rfl h⟩
      have e66 := ((hA 66).trans (show _ = vs 17 by kernel_rfl)).trans (hpre.1 rfl)
      have e72 := ((hA 72).trans (show _ = vs 23 by kernel_rfl)).trans (hpre.2.1 rfl)
      have hpq : (o.pr != x.prior) = false := by simp [HPq.out]
      clear hA hpre
      go_simp
      exact hK _ _ hB rfl (fun _ _ h => h)
     ·intro vs Wx A hA hB hpre K hK
      have e61 := ((hA 61).trans (show _ = vs 12 by kernel_rfl)).trans (hpre.1 rfl)
      have e73 := ((hA 73).trans (show _ = vs 24 by kernel_rfl)).trans (hpre.2.1 rfl)
      clear hA hpre
      go_simp
      exact hK _ _ hB rfl (fun _ _ h => h)
     ·intro vs Wx hB hF
      have h25 : vs 25 = .bool false := hF 25 (by decide)
      have HBW := Lib.hid hB
      clear hF hB
      simp only [Ri.puts]
      go_simp
      go_wp2_with fail
      go_meet
      exact ⟨by first | exact h25 | (go_simp; done) | (go_simp; exact h25), HBW.out⟩
    case rest =>
     obtain ⟨rfl, HBx⟩ := hcut
     obtain ⟨w5, hw5⟩ : ∃ z, z = wc := ⟨_, rfl⟩
     subst hw5
     have HB5 := Lib.hid (below_tr hp HB.out HBx.out)
     have HY5 := Lib.hid (keepB HY.out HBx.out)
     have HO5 := Lib.hid (HO.out.grw HBx.out)
     obtain ⟨⟨o0, o1, o2, o3, o4, o5, o6, o7⟩, -⟩ := HXK.out _ HBx.out
     obtain ⟨f5a, f5b⟩ := f5
     obtain ⟨f6a, f6b⟩ := f6
     obtain ⟨f7a, f7b⟩ := f7
     clear HXK HD HBx HB HY HO HBal
     have hs1 : IntKind.i64.wrap (o.de + o.cp) = o.de + o.cp := by rw [IntKind.wrap_i64]; omega
     have hs2 : IntKind.i64.wrap (o.de + o.cp + o.cn) = o.de + o.cp + o.cn := by rw [IntKind.wrap_i64]; omega
     by_cases e2 : o.deny = 0
     ·have q2 : (o.deny != 0) = false := by simp [e2]
      clear f3 e2
      go_wp2_with fail
      go_quiet (fail)
      go_wp2
      go_roundg (c.lines.length - (k + 1))
      case measure => omega
      case rel => exact ⟨k + 1, by omega, rfl, by first | rfl | go_num | (congr 1; omega), HB5.out.trans (below_dq _ _ _), keep_dq HY5.out _, HO5.out.grw (below_dq _ _ _)⟩
     ·have q2 : (o.deny != 0) = true := by simp [e2]
      obtain ⟨g3, g4, g5⟩ := f3 e2
      have q3 : (o.plan != 0) = false := by simp [g3]
      have q4 : (o.de + o.cp + o.cn != 0) = false := by simp [g4]
      have q5 : (o.al != 0) = false := by simp [g5]
      clear f3 e2 g3 g4 g5
      go_wp2_with fail
      go_quiet (fail)
      go_wp2
      go_roundg (c.lines.length - (k + 1))
      case measure => omega
      case rel => exact ⟨k + 1, by omega, rfl, by first | rfl | go_num | (congr 1; omega), HB5.out.trans (below_dq _ _ _), keep_dq HY5.out _, HO5.out.grw (below_dq _ _ _)⟩
   ·have hltz : ¬ (k : Int) < (c.lines.length : Int) := by omega
    go_wp2_with fail
    try (go_at_call 10)
    refine (HW.out wr HB.out).mono ?_
    rintro e w9 ⟨rfl, hb9⟩
    have HB9 := Lib.hid (below_tr hp HB.out hb9)
    clear hb9
    go_wp2
    go_ret
    exact ⟨rfl, by first | exact HB9.out | (rw [hp]; exact HB9.out)⟩
theorem laidOut : laidOutB Tryz.prog = true := by kernel_rfl
set_option maxRecDepth 100000 in
theorem lifted (os : Os) (started : os.Started) (H : Type) (enc : TypeId × Value → H) :
  ReturnsInHanded {} Tryz.checked os 4 .any (fun w args => (Rows.judgeBalancesSpec.pre enc Tryz.prog Tryz.f4 [] false w args ∧ laidMetH Tryz.prog laidL w) ∧ sizedMet enc Tryz.prog Tryz.f4 (OpenSpec.ofChange Rows.judgeBalancesSpec) false w args) (Rows.judgeBalancesSpec.post enc Tryz.prog Tryz.f4 false true false false) := by
 refine lift own started (by kernel_rfl) Tryz.func4
  (ChangeSpec.witness_shaped (enc := enc) (C := Tryz.checked) (os := os) (X := fun w _ => laidMetH Tryz.prog laidL w) false (World.laidAll Tryz.prog os laidL) #[.agg #[.int .i64 0, .int .i64 0, .int .i64 0, .int .i64 0, .int .i64 0, .slice none 0 0, .slice none 0 0, .slice none 0 0], .agg #[.string ByteArray.empty, .string ByteArray.empty, .string ByteArray.empty, .int .i64 0, .int .i64 0, .string ByteArray.empty, .slice none 0 0], .slice none 0 0, .slice none 0 0] 8 (World.laidAll_os _ _ _)
   (World.shaped_of_ZipB (by kernel_rfl) (by kernel_rfl)) (by kernel_rfl) (by kernel_rfl) (by kernel_rfl)
   (by rw [MakeChecks.laidMetH_plain _ _ _ (by kernel_rfl)]; exact laidMet_laidAll _ (by kernel_rfl) (by kernel_rfl))) ?_
 intro W base args ds gs before hval0 hW hwt hT
 have hval : ∀ (j : Nat) t v, Tryz.f4.params[j]? = some t → args[j]? = some v → Value.okWide Tryz.prog W .any base t v := hval0
 have hW' := hW
 obtain ⟨p, q, hA0, hV, rfl, hfz, hnd⟩ := hW
 have hA : DataW.TrodAll enc Tryz.prog W 0 (fun _ => true) true Tryz.f4.params.toList args.toList ds p := hA0
 rw [Tryz.params4] at hA hval hwt
 obtain ⟨v0, vs0, d0, ds0, p0, q0, hargs, rfl, rfl, h0, r0⟩ := trodAll_cons hA
 obtain ⟨v1, vs1, d1, ds1, p1, q1, rfl, rfl, rfl, h1, r1⟩ := trodAll_cons r0
 obtain ⟨v2, vs2, d2, ds2, p2, q2, rfl, rfl, rfl, h2, r2⟩ := trodAll_cons r1
 obtain ⟨v3, vs3, d3, ds3, p3, q3, rfl, rfl, rfl, h3, r3⟩ := trodAll_cons r2
 obtain ⟨rfl, rfl, rfl⟩ := trodAll_nil r3
 obtain rfl : args = #[v0, v1, v2, v3] := by cases args; simp_all
 obtain ⟨rfl, rfl⟩ := trodVars_none hV
 have hwl : ∀ z, (z ∈ d0.weights Tryz.prog 28 → z ≤ reachBytes) ∧ (z ∈ d1.weights Tryz.prog 31 → z ≤ reachBytes) ∧ (z ∈ d2.weights Tryz.prog 32 → z ≤ reachBytes) ∧ (z ∈ d3.weights Tryz.prog 29 → z ≤ reachBytes) := fun z => by
  have h := List.all_eq_true.1 hwt z
  simp only [decide_eq_true_eq] at h
  refine ⟨fun hz => h ?_, fun hz => h ?_, fun hz => h ?_, fun hz => h ?_⟩
  all_goals
   simp only [List.cons_append, List.nil_append, List.toList_toArray, List.append_nil, DataW.weightsEach, List.mem_append]
   simp [hz]
 have k0 := h0
 have lt0 : ∀ x ∈ p0, x.block < W.heap.size := by obtain ⟨m, hm⟩ := k0; exact DataW.trod_lt m _ _ _ hm
 obtain ⟨t0, m0, mf0, me0, rfl, g0, z0⟩ := Jo.open_tables (hval 0 28 v0 rfl rfl) h0 (fun z hz => (hwl z).1 hz)
 have k1 := h1
 have lt1 : ∀ x ∈ p1, x.block < W.heap.size := by obtain ⟨m, hm⟩ := k1; exact DataW.trod_lt m _ _ _ hm
 obtain ⟨x1, m1, rfl, g1, z1⟩ := open_claim (hval 1 31 v1 rfl rfl) h1 (fun z hz => (hwl z).2.1 hz)
 have k2 := h2
 have lt2 : ∀ x ∈ p2, x.block < W.heap.size := by obtain ⟨m, hm⟩ := k2; exact DataW.trod_lt m _ _ _ hm
 obtain ⟨l2, g2, z2⟩ := Ao.open_rows (okWide_slice Tryz.underlying32 (hval 2 32 v2 rfl rfl)) h2
 have k3 := h3
 have lt3 : ∀ x ∈ p3, x.block < W.heap.size := by obtain ⟨m, hm⟩ := k3; exact DataW.trod_lt m _ _ _ hm
 obtain ⟨l3, g3, n3, z3⟩ := Jo.open_lns (okWide_slice Tryz.underlying29 (hval 3 29 v3 rfl rfl)) h3 (fun z hz => (hwl z).2.2.2 hz)
 clear hA0 hval0
 refine (walk W t0 m0 mf0 me0 g0 z0 x1 m1 g1 z1 v2 l2 g2 z2 v3 l3 g3 n3 z3 hT).mono fun e W' ⟨he, bel⟩ => ?_
 subst he
 exact ⟨_, rfl, _, _, _, [], _, [], hW', (trodAll_cons_mk (shut_bool Tryz.underlying4 _) trodAll_mk0), (trodAll_cons_mk (Below.trod laidOut (by kernel_rfl) (of_decide_eq_true (by kernel_rfl)) k0 bel lt0) (trodAll_cons_mk (Below.trod laidOut (by kernel_rfl) (of_decide_eq_true (by kernel_rfl)) k1 bel lt1) (trodAll_cons_mk (Below.trod laidOut (by kernel_rfl) (of_decide_eq_true (by kernel_rfl)) k2 bel lt2) (trodAll_cons_mk (Below.trod laidOut (by kernel_rfl) (of_decide_eq_true (by kernel_rfl)) k3 bel lt3) trodAll_mk0)))), rfl, bel.frame _, fun h => by cases h⟩
theorem over : Rows.judgeBalancesRow.holds Tryz.pinned (OpenSpec.ofChange Rows.judgeBalancesSpec) :=
 OpenClaim.holds_of_wide 4 Tryz.f4 rfl rfl rfl rfl rfl rfl rfl ⟨rfl, rfl, rfl, rfl, rfl⟩ rfl rfl rfl rfl rfl (by kernel_rfl) Tryz.func4 (by kernel_rfl)
  (of_decide_eq_true (by kernel_rfl)) (by unfold Func.isWrapper; first | (rw [if_pos (by decide +kernel)]; kernel_rfl) | (rw [if_neg (by decide +kernel)]; exact ⟨rfl, rfl⟩))
  (fun os started H enc _ => lifted os started H enc)
theorem proved : Rows.JudgeBalancesSaid := over
end Go.Proofs.YtfoooldkmokjpaaGreatDoor.judgeBalances
namespace Go.Proofs.YtfoooldkmokjpaaGreatDoor
theorem judgeBalances_holds : Rows.JudgeBalancesCardSaid :=
 Claim7.holds_tied_plain_at .later [] [.data] true (true, "203a673702dc739383e77bc5b6f001fe9522524a9effc6b154593a7a6936cfba") false
  judgeBalances.proved (fun _ h => by cases h) (by kernel_rfl) (fun _ h => by cases h) judgeBalances_row_tie rfl ⟨rfl, rfl⟩ (by kernel_rfl) rfl
  (fun f fn hf hfn => by
   obtain rfl : f = 4 := Option.some.inj ((show Tryz.prog.funcNamed "leechbook/leechbooklaw17.JudgeBalances" = some 4 by kernel_rfl).symm.trans hf) |>.symm
   obtain rfl : fn = Tryz.f4 := (Option.some.inj (Tryz.func4.symm.trans hfn)).symm
   exact ⟨by kernel_rfl, fun j t ht => by
    rw [Tryz.params4] at ht
    have hm : t ∈ [28, 31, 32, 29] := by simpa using Array.mem_of_getElem? ht
    have hall : ([28, 31, 32, 29].all fun u => !Tryz.prog.wantsStandIn u) = true := by kernel_rfl
    exact (show Tryz.prog.wantsStandIn t = false by simpa using List.all_eq_true.1 hall t hm)⟩)
  (by kernel_rfl)
#print axioms judgeBalances_holds
end Go.Proofs.YtfoooldkmokjpaaGreatDoor
