/-
  The statement JudgeParts (17.5): a claim's first services become what they become by themselves, but for edits with later ones: for all tables, claims, rows, services ahead and cuts; without a condition.
-/
import Derived.WalkKit
import Derived.ProofKit
import Derived.OpenShut
import Derived.ShutString
import Derived.Below
import Derived.Carry
import Derived.LaidMore
import Derived.Stop.Joined
import Derived.SevenTiedAt
import Derived.Deep.DeepCutAuto
import Derived.Test.YtfoooldkmokjpaaGreatDoorRows
import Derived.Test.YtfoooldkmokjpaaGreatDoorMj47
import Derived.Test.YtfoooldkmokjpaaGreatDoorMj48
import Derived.Test.YtfoooldkmokjpaaGreatDoorMj49
import Derived.Test.YtfoooldkmokjpaaGreatDoorMj52
import Derived.Test.YtfoooldkmokjpaaGreatDoorMj51
import Derived.Test.YtfoooldkmokjpaaGreatDoorTie
import Derived.Test.YtfoooldkmokjpaaGreatDoorCards
namespace Go.Proofs.YtfoooldkmokjpaaGreatDoor.judgeParts
open Go.ChangeShapes Go.WideShapes Go.ChangeAt Go.RowKit
open Cm (Ln Cl LnsAt clv lnv LnOk ClOk laidL lift open_claim)
open Ju
open Ac (Row RwsAt Own keepB below_alloc below_trans below_tr alloc_new getV)
open Sh (Ot)
open Go.ChangeMaps (open_string)
set_option linter.unusedVariables false
set_option linter.unusedSimpArgs false
set_option maxRecDepth 100000
theorem own : ownKnob Tryz.prog.godebug = none := by kernel_rfl
set_option maxHeartbeats 16000000 in
theorem walk (w : World) (t : Ju.Tb) (m mf me : Value) (hA : Ju.TbAt w m mf me t) (hz : Ju.TbOk t) (c : Cl) (ml : Value) (hL : LnsAt All w ml c.lines) (hc : ClOk c) (vr : Value) (r : List Ac.Row) (hR : Ac.RwsAt All w vr r) (hyr : ∀ x ∈ r, Ao.I64 x.year) (va : Value) (Ah : List Ln) (hV : LnsAt All w va Ah) (hxl : Ah.length ≤ 281474976710656) (hx : ∀ x ∈ Ah, LnOk x) (ci : Int) (wi : (Lit.int .i64 ci).wf = true) (hT : Da.Tab w) :
  Calls Tryz.prog 7 #[.agg #[.int .i64 t.plan.mode, .int .i64 t.plan.indDed, .int .i64 t.plan.famDed, .int .i64 t.plan.indOop, .int .i64 t.plan.famOop, m, mf, me], clv c ml, vr, va, .int .i64 ci] w fun e w' => e = .returned (.bool true) ∧ Below w.heap.size w w' := by
 have HW := Lib.hid fun W (hW : Below w.heap.size w W) => works_any W (Cm.tab_below hT hW)
 obtain ⟨ma, mc, fa, fc, ea, ec, rfl, rfl, rfl⟩ := hA.form
 obtain ⟨la, lc, rfl, hl1, hl2⟩ := Cm.LnsAt.form hL
 obtain ⟨ra, rc, rfl, hr1, hr2⟩ := hR.form
 obtain ⟨aa, ac, rfl, ha1, ha2⟩ := Cm.LnsAt.form hV
 have HLi := Lib.hid fun W (hW : Below w.heap.size w W) => light_any t c r Ah _ _ _ _ _ _ W (hA.grw hW) (Ex.lns_grw hL hW) (hR.grw hW) (Ex.lns_grw hV hW) hz hc hx hxl
 have HJu : Hid (LtP c r Ah → ∀ W, Below w.heap.size w W → Calls Tryz.prog 11 #[.agg #[.int .i64 t.plan.mode, .int .i64 t.plan.indDed, .int .i64 t.plan.famDed, .int .i64 t.plan.indOop, .int .i64 t.plan.famOop, .slice ma t.plan.rules.length mc, .slice fa t.fees.length fc, .slice ea t.edits.length ec], .agg #[.string (mk c.id), .string (mk c.mem), .string (mk c.fam), .int .i64 c.net, .int .i64 c.does, .string (mk c.ref), .slice la c.lines.length lc], .slice ra r.length rc, .slice aa Ah.length ac] W fun e w' => JdV W.heap.size w' e (judE t c r Ah) (judO t c r Ah) (judR t c r Ah) ∧ Below W.heap.size W w') := fun h W hW => judge_any t c r Ah _ _ _ _ _ _ W (hA.grw hW) (Ex.lns_grw hL hW) (hR.grw hW) (Ex.lns_grw hV hW) ⟨hz, hc, h.2.1.1, h.2.2.1, Nat.le_trans h.2.2.2 (by decide), Nat.le_trans h.2.1.2 (by decide)⟩ (Nat.le_trans h.1 (by decide)) (Cm.tab_below hT hW)
 have HLn := Lib.hid fun W (hW : Below w.heap.size w W) => Ex.lns_grw hL hW
 have HRo := Lib.hid fun W (hW : Below w.heap.size w W) => hR.grw hW
 have HCO := Lib.hid hc
 have HJd : Hid (LtP c r Ah → ∀ k, k ≤ c.lines.length → ∀ W, Below w.heap.size w W → Calls Tryz.prog 11 #[.agg #[.int .i64 t.plan.mode, .int .i64 t.plan.indDed, .int .i64 t.plan.famDed, .int .i64 t.plan.indOop, .int .i64 t.plan.famOop, .slice ma t.plan.rules.length mc, .slice fa t.fees.length fc, .slice ea t.edits.length ec], .agg #[.string (mk c.id), .string (mk c.mem), .string (mk c.fam), .int .i64 c.net, .int .i64 c.does, .string (mk c.ref), .slice la k lc], .slice ra r.length rc, .slice aa Ah.length ac] W fun e w' => JdV W.heap.size w' e (judE t { c with lines := c.lines.take k } r Ah) (judO t { c with lines := c.lines.take k } r Ah) (judR t { c with lines := c.lines.take k } r Ah) ∧ Below W.heap.size W w') := fun h k hk W hW => judge_any t { c with lines := c.lines.take k } r Ah _ _ _ _ _ _ W (hA.grw hW) (Ex.lns_take (Ex.lns_grw hL hW) hk) (hR.grw hW) (Ex.lns_grw hV hW) ⟨hz, ⟨hc.1, hc.2.1, hc.2.2.1, hc.2.2.2.1, hc.2.2.2.2.1, hc.2.2.2.2.2.1, (by have h7 := hc.2.2.2.2.2.2.1; show (c.lines.take k).length ≤ _; rw [List.length_take]; omega), fun x hx => hc.2.2.2.2.2.2.2 x (List.mem_of_mem_take hx)⟩, fun x hx => h.2.1.1 x (List.mem_of_mem_take hx), h.2.2.1, Nat.le_trans h.2.2.2 (by decide), (by have h7 := h.2.1.2; show (c.lines.take k).length ≤ _; rw [List.length_take]; omega)⟩ (Nat.le_trans h.1 (by decide)) (Cm.tab_below hT hW)
 have HEd := Lib.hid fun W (hW : Below w.heap.size w W) => (hA.grw hW).2.2
 have HJO : Hid ((∀ e ∈ t.edits, e.kind ≠ 1) → ∀ k, judE t c r Ah = 0 → judE t { c with lines := c.lines.take k } r Ah = 0 → judO t { c with lines := c.lines.take k } r Ah = (judO t c r Ah).take k ∧ (judO t c r Ah).length = c.lines.length) := fun hb k h h2 => ⟨jud_parts t c r Ah hb k h h2, judO_len h⟩
 have hel : t.edits.length ≤ 281474976710656 := hz.2.2
 clear hA hL hR hV hz hx hT
 have hbx : Below w.heap.size w ((w.alloc (.cells #[.int .i64 t.plan.mode, .int .i64 t.plan.indDed, .int .i64 t.plan.famDed, .int .i64 t.plan.indOop, .int .i64 t.plan.famOop, .slice ma t.plan.rules.length mc, .slice fa t.fees.length fc, .slice ea t.edits.length ec] 28)).alloc (.cells #[.string (mk c.id), .string (mk c.mem), .string (mk c.fam), .int .i64 c.net, .int .i64 c.does, .string (mk c.ref), .slice la c.lines.length lc] 31)) := below_trans (below_alloc _ _) (below_alloc _ _)
 have hz1 := keepB (alloc_new w #[.int .i64 t.plan.mode, .int .i64 t.plan.indDed, .int .i64 t.plan.famDed, .int .i64 t.plan.indOop, .int .i64 t.plan.famOop, .slice ma t.plan.rules.length mc, .slice fa t.fees.length fc, .slice ea t.edits.length ec] 28) (below_alloc _ (.cells #[.string (mk c.id), .string (mk c.mem), .string (mk c.fam), .int .i64 c.net, .int .i64 c.does, .string (mk c.ref), .slice la c.lines.length lc] 31))
 have hz2 := alloc_new (w.alloc (.cells #[.int .i64 t.plan.mode, .int .i64 t.plan.indDed, .int .i64 t.plan.famDed, .int .i64 t.plan.indOop, .int .i64 t.plan.famOop, .slice ma t.plan.rules.length mc, .slice fa t.fees.length fc, .slice ea t.edits.length ec] 28)) #[.string (mk c.id), .string (mk c.mem), .string (mk c.fam), .int .i64 c.net, .int .i64 c.does, .string (mk c.ref), .slice la c.lines.length lc] 31
 rw [show (w.alloc (.cells #[.int .i64 t.plan.mode, .int .i64 t.plan.indDed, .int .i64 t.plan.famDed, .int .i64 t.plan.indOop, .int .i64 t.plan.famOop, .slice ma t.plan.rules.length mc, .slice fa t.fees.length fc, .slice ea t.edits.length ec] 28)).heap.size = w.heap.size + 1 by simp] at hz2
 have HX := Lib.hid hz1
 have HY := Lib.hid hz2
 have HB0 := Lib.hid hbx
 clear hbx hz1 hz2 hc
 go_enter Tryz.func7, Tryz.ntmps7
 go_upto_region 1 with fail
 generalize ((w.alloc (.cells #[.int .i64 t.plan.mode, .int .i64 t.plan.indDed, .int .i64 t.plan.famDed, .int .i64 t.plan.indOop, .int .i64 t.plan.famOop, .slice ma t.plan.rules.length mc, .slice fa t.fees.length fc, .slice ea t.edits.length ec] 28)).alloc (.cells #[.string (mk c.id), .string (mk c.mem), .string (mk c.fam), .int .i64 c.net, .int .i64 c.does, .string (mk c.ref), .slice la c.lines.length lc] 31)) = W at *
 generalize hp : w.heap.size = p at *
 obtain ⟨p1, hp1⟩ : ∃ u, u = p + 1 := ⟨_, rfl⟩
 rw [← hp1] at HY ⊢
 clear hp1
 obtain ⟨x0, x1, x2, x3, x4, x5, x6, x7⟩ := Pl.beight HX.out
 obtain ⟨y0, y1, y2, y3, y4, y5, y6⟩ := bseven HY.out
 go_wp2_with fail
 try (go_at_call 9)
 refine (HLi.out W HB0.out).mono ?_
 rintro e w1 ⟨⟨n1, rfl, hn1⟩, hb1⟩
 have HB1 := Lib.hid (below_tr hp HB0.out hb1)
 have HX1 := Lib.hid (keepB HX.out hb1)
 have HY1 := Lib.hid (keepB HY.out hb1)
 clear hb1 HX HY HB0 HLi x0 x1 x2 x3 x4 x5 x6 x7 y0 y1 y2 y3 y4 y5 y6
 obtain ⟨x0, x1, x2, x3, x4, x5, x6, x7⟩ := Pl.beight HX1.out
 obtain ⟨y0, y1, y2, y3, y4, y5, y6⟩ := bseven HY1.out
 by_cases g1 : (0 : Int) < n1
 ·go_wp2_with fail
  try (go_at_call 10)
  refine (HW.out w1 HB1.out).mono ?_
  rintro e w9 ⟨rfl, hb9⟩
  have HB9 := Lib.hid (below_tr hp HB1.out hb9)
  clear hb9
  go_wp2
  go_ret
  exact ⟨rfl, by first | exact HB9.out | (rw [hp]; exact HB9.out)⟩
 have HLt := Lib.hid (hn1 (by omega))
 have hlen : c.lines.length ≤ 3000 := HLt.out.2.1.2
 have HJ := Lib.hid (HJu.out HLt.out)
 have HJ2 := Lib.hid (HJd.out HLt.out)
 clear HJu HJd hn1
 by_cases g2 : c.lines.length = 0
 ·have q2 : ((c.lines.length : Int) == 0) = true := by simp [g2]
  clear g2
  go_wp2_with fail
  try (go_at_call 10)
  refine (HW.out w1 HB1.out).mono ?_
  rintro e w9 ⟨rfl, hb9⟩
  have HB9 := Lib.hid (below_tr hp HB1.out hb9)
  clear hb9
  go_wp2
  go_ret
  exact ⟨rfl, by first | exact HB9.out | (rw [hp]; exact HB9.out)⟩
 have q2 : ((c.lines.length : Int) == 0) = false := by rw [beq_eq_false_iff_ne]; omega
 have q2n : ¬ ((c.lines.length : Int) = 0) := by omega
 obtain ⟨k0, hk0, hk0n⟩ := mod_fact ci c.lines.length g2 hlen
 obtain ⟨k, hk⟩ : ∃ k, k = k0 + 1 := ⟨_, rfl⟩
 have hk1 : (1 : Int) + (k0 : Int) = (k : Int) := by omega
 have hkn : k ≤ c.lines.length := by omega
 have hkI : (k : Int) ≤ (c.lines.length : Int) := by omega
 have hkc : (k : Int) ≤ (lc : Int) := by omega
 have hkp : (0 : Int) ≤ (k : Int) := by omega
 have HJk := Lib.hid (HJ2.out k hkn)
 have HJOk := Lib.hid fun hb => HJO.out hb k
 clear HJ2 HJO hk g2
 go_upto_region 4 with fail
 rw [hk0]
 try rw [hk1]
 clear hk0 hk0n hk1 q2 q2n
 go_wp2
 clear x0 x1 x2 x3 x4 x5 x6 x7 y0 y1 y2 y3 y4 y5 y6
 go_loopg [12] (t.edits.length) (fun g i wr => ∃ n : Nat, n ≤ t.edits.length ∧ g = t.edits.length - n ∧ i = .int .i64 (n : Nat) ∧ wr = w1 ∧ Hid (∀ e ∈ t.edits.take n, e.kind ≠ 1))
 case atStart => exact ⟨0, Nat.zero_le _, rfl, rfl, rfl, fun e he => by simp at he⟩
 case round =>
  obtain ⟨n, hn, hgk, rfl, hwr, HKi⟩ := hrel
  rw [hwr]
  clear hwr wr
  obtain ⟨x0, x1, x2, x3, x4, x5, x6, x7⟩ := Pl.beight HX1.out
  obtain ⟨y0, y1, y2, y3, y4, y5, y6⟩ := bseven HY1.out
  by_cases hlt : n < t.edits.length
  ·have hltz : (n : Int) < (t.edits.length : Int) := by omega
   obtain ⟨b, oo, ha, hbs, hex, hcc⟩ := Ex.EdsAt.get (HEd.out _ HB1.out) n hlt
   subst ha
   have HTk : Hid (t.edits.take (n + 1) = t.edits.take n ++ [t.edits[n]]) := by show _ = _; rw [List.take_add_one, hex]; rfl
   generalize t.edits[n] = x at *
   unfold Ex.EdCells at hcc
   obtain ⟨c0, c1, c2, c3, c4⟩ := hcc
   by_cases h1 : x.kind = 1
   ·have q1 : (x.kind == 1) = true := by simp [h1]
    clear h1 HTk HKi
    go_wp2_with fail
    try (go_at_call 10)
    refine (HW.out w1 HB1.out).mono ?_
    rintro e w9 ⟨rfl, hb9⟩
    have HB9 := Lib.hid (below_tr hp HB1.out hb9)
    clear hb9
    go_wp2
    go_ret
    exact ⟨rfl, by first | exact HB9.out | (rw [hp]; exact HB9.out)⟩
   ·have q1 : (x.kind == 1) = false := by simp [h1]
    have HK1 : Hid (∀ e ∈ t.edits.take (n + 1), e.kind ≠ 1) := by
     show ∀ e ∈ t.edits.take (n + 1), e.kind ≠ 1
     intro e he
     rw [HTk.out] at he
     rcases List.mem_append.1 he with he | he
     ·exact HKi.out e he
     ·obtain rfl : e = x := by simpa using he
      exact h1
    clear h1 HTk
    go_wp2
    go_roundg (t.edits.length - (n + 1))
    case measure => omega
    case rel => exact ⟨n + 1, by omega, rfl, by first | rfl | go_num | (congr 1; omega), rfl, HK1.out⟩
  ·have hltz : ¬ (n : Int) < (t.edits.length : Int) := by omega
   have HAl : Hid (∀ e ∈ t.edits, e.kind ≠ 1) := by
    have h := HKi.out
    rw [List.take_of_length_le (by omega)] at h
    exact h
   have HJO2 := Lib.hid (HJOk.out HAl.out)
   clear HKi HAl HJOk hgk hn hlt
   have hb2 := below_alloc w1 (.cells #[.string (mk c.id), .string (mk c.mem), .string (mk c.fam), .int .i64 c.net, .int .i64 c.does, .string (mk c.ref), .slice la c.lines.length lc] 31)
   have HD2 := Lib.hid (alloc_new w1 #[.string (mk c.id), .string (mk c.mem), .string (mk c.fam), .int .i64 c.net, .int .i64 c.does, .string (mk c.ref), .slice la c.lines.length lc] 31)
   have HX2 := Lib.hid (keepB HX1.out hb2)
   have HY2 := Lib.hid (keepB HY1.out hb2)
   have HB2 := Lib.hid (below_tr hp HB1.out hb2)
   have HPd : Hid (p ≤ w1.heap.size) := by have h := HB1.out.size; rw [hp] at h; exact h
   have HPl : Hid (p < w1.heap.size ∧ p1 < w1.heap.size) := ⟨(Array.getElem?_eq_some_iff.1 HX1.out).1, (Array.getElem?_eq_some_iff.1 HY1.out).1⟩
   clear hb2
   go_upto_region 10 with fail
   clear x0 x1 x2 x3 x4 x5 x6 x7 y0 y1 y2 y3 y4 y5 y6
   generalize w1.alloc (.cells #[.string (mk c.id), .string (mk c.mem), .string (mk c.fam), .int .i64 c.net, .int .i64 c.does, .string (mk c.ref), .slice la c.lines.length lc] 31) = w2 at *
   generalize w1.heap.size = db at *
   obtain ⟨d0, d1, d2, d3, d4, d5, d6⟩ := bseven HD2.out
   have fz := Lib.frozen_of_heap HD2.out 6
   obtain ⟨x0, x1, x2, x3, x4, x5, x6, x7⟩ := Pl.beight HX2.out
   obtain ⟨y0, y1, y2, y3, y4, y5, y6⟩ := bseven HY2.out
   have HD3 := Lib.hid (set6 (u := .slice la k lc) HD2.out)
   have HX3 := Lib.hid (Ac.heap_far (j := 6) (u := .slice la k lc) HX2.out (show p ≠ db by have := HPl.out; omega))
   have HY3 := Lib.hid (Ac.heap_far (j := 6) (u := .slice la k lc) HY2.out (show p1 ≠ db by have := HPl.out; omega))
   have HB3 := Lib.hid (HB2.out.setCell (p := ⟨db, 6, none⟩) HPd.out (.slice la k lc))
   go_upto_region 11 with fail
   clear x0 x1 x2 x3 x4 x5 x6 x7 y0 y1 y2 y3 y4 y5 y6 d0 d1 d2 d3 d4 d5 d6 fz
   generalize w2.setCell ⟨db, 6, none⟩ (.slice la k lc) = w3 at *
   obtain ⟨x0, x1, x2, x3, x4, x5, x6, x7⟩ := Pl.beight HX3.out
   obtain ⟨y0, y1, y2, y3, y4, y5, y6⟩ := bseven HY3.out
   go_wp2_with fail
   try (go_at_call 11)
   refine (HJ.out w3 HB3.out).mono ?_
   rintro e w4 ⟨⟨vo4, vr4, rfl, ho4, hr4⟩, hb4⟩
   have HD4 := Lib.hid (keepB HD3.out hb4)
   have HB4 := Lib.hid (below_tr hp HB3.out hb4)
   have HX4 := Lib.hid (keepB HX3.out hb4)
   have HY4 := Lib.hid (keepB HY3.out hb4)
   have HO4 := Lib.hid (ots_of_own (K := All) ho4 fun _ _ => trivial)
   have HR4 := Lib.hid (Ac.rws_of_own (K := All) hr4 fun _ _ => trivial)
   obtain ⟨oa4, oc4, rfl, ol4, om4⟩ := ownO_form ho4
   obtain ⟨ra4, rc4, rfl, rl4, rm4⟩ := Ac.own_form hr4
   clear ho4 hr4 hb4 x0 x1 x2 x3 x4 x5 x6 x7 y0 y1 y2 y3 y4 y5 y6 HJ HR4
   obtain ⟨x0, x1, x2, x3, x4, x5, x6, x7⟩ := Pl.beight HX4.out
   obtain ⟨y0, y1, y2, y3, y4, y5, y6⟩ := bseven HY4.out
   obtain ⟨d0, d1, d2, d3, d4, d5, d6⟩ := bseven HD4.out
   go_wp2_with fail
   try (go_at_call 11)
   refine (HJk.out w4 HB4.out).mono ?_
   rintro e w5 ⟨⟨vo5, vr5, rfl, ho5, hr5⟩, hb5⟩
   have HB5 := Lib.hid (below_tr hp HB4.out hb5)
   have HX5 := Lib.hid (keepB HX4.out hb5)
   have HY5 := Lib.hid (keepB HY4.out hb5)
   have HO5 := Lib.hid (ots_of_own (K := All) ho5 fun _ _ => trivial)
   have HR5 := Lib.hid (Ac.rws_of_own (K := All) hr5 fun _ _ => trivial)
   obtain ⟨oa5, oc5, rfl, ol5, om5⟩ := ownO_form ho5
   obtain ⟨ra5, rc5, rfl, rl5, rm5⟩ := Ac.own_form hr5
   have HO45 := Lib.hid (HO4.out.grw hb5)
   clear ho5 hr5 hb5 x0 x1 x2 x3 x4 x5 x6 x7 y0 y1 y2 y3 y4 y5 y6 d0 d1 d2 d3 d4 d5 d6 HR5 HJk
   obtain ⟨x0, x1, x2, x3, x4, x5, x6, x7⟩ := Pl.beight HX5.out
   obtain ⟨y0, y1, y2, y3, y4, y5, y6⟩ := bseven HY5.out
   generalize judE t c r Ah = E1 at *
   generalize judE t { c with lines := c.lines.take k } r Ah = E2 at *
   generalize judO t { c with lines := c.lines.take k } r Ah = O2 at *
   generalize judO t c r Ah = O1 at *
   by_cases g4 : E1 = 0
   case neg =>
    have q4 : (E1 != 0) = true := by simp [g4]
    clear g4 HJO2
    go_wp2_with fail
    try (go_at_call 10)
    refine (HW.out w5 HB5.out).mono ?_
    rintro e w9 ⟨rfl, hb9⟩
    have HB9 := Lib.hid (below_tr hp HB5.out hb9)
    clear hb9
    go_wp2
    go_ret
    exact ⟨rfl, by first | exact HB9.out | (rw [hp]; exact HB9.out)⟩
   case pos =>
    by_cases g5 : E2 = 0
    case neg =>
     have q4 : (E1 != 0) = false := by simp [g4]
     have q5 : (E2 != 0) = true := by simp [g5]
     clear g4 g5 HJO2
     go_wp2_with fail
     try (go_at_call 10)
     refine (HW.out w5 HB5.out).mono ?_
     rintro e w9 ⟨rfl, hb9⟩
     have HB9 := Lib.hid (below_tr hp HB5.out hb9)
     clear hb9
     go_wp2
     go_ret
     exact ⟨rfl, by first | exact HB9.out | (rw [hp]; exact HB9.out)⟩
    case pos =>
     obtain ⟨hO, hOl⟩ := HJO2.out g4 g5
     subst hO
     have q4 : (E1 != 0) = false := by simp [g4]
     have q5 : (E2 != 0) = false := by simp [g5]
     have HSm := Lib.hid fun W (hW : Below w5.heap.size w5 W) => osame_eq (O1.take k) _ _ W (ots_take (HO45.out.grw hW) (by omega)) (HO5.out.grw hW) (Nat.le_trans (List.length_take_le _ _) (by omega))
     have htl : (O1.take k).length = k := by rw [List.length_take]; omega
     rw [htl] at HSm ol5 ⊢
     rw [hOl] at ol4 ⊢
     clear g4 g5 HJO2 hOl HO45 HO5 HO4 htl
     have hko : (k : Int) ≤ (oc4 : Int) := by omega
     have hee : ((c.lines.length : Int) == (c.lines.length : Int)) = true := by simp
     go_wp2_with fail
     try (go_at_call 13)
     refine (HSm.out w5 (Below.refl _ _)).mono ?_
     rintro e w6 ⟨rfl, hb6⟩
     have HB6 := Lib.hid (below_tr hp HB5.out hb6)
     clear hb6 HSm
     go_wp2_with fail
     try (go_at_call 10)
     refine (HW.out w6 HB6.out).mono ?_
     rintro e w9 ⟨rfl, hb9⟩
     have HB9 := Lib.hid (below_tr hp HB6.out hb9)
     clear hb9
     go_wp2
     go_ret
     exact ⟨rfl, by first | exact HB9.out | (rw [hp]; exact HB9.out)⟩
theorem laidOut : laidOutB Tryz.prog = true := by kernel_rfl
set_option maxRecDepth 100000 in
theorem lifted (os : Os) (started : os.Started) (H : Type) (enc : TypeId × Value → H) :
  ReturnsInHanded {} Tryz.checked os 7 .any (fun w args => (Rows.judgePartsSpec.pre enc Tryz.prog Tryz.f7 [] false w args ∧ laidMetH Tryz.prog laidL w) ∧ sizedMet enc Tryz.prog Tryz.f7 (OpenSpec.ofChange Rows.judgePartsSpec) false w args) (Rows.judgePartsSpec.post enc Tryz.prog Tryz.f7 false true false false) := by
 refine lift own started (by kernel_rfl) Tryz.func7
  (ChangeSpec.witness_shaped (enc := enc) (C := Tryz.checked) (os := os) (X := fun w _ => laidMetH Tryz.prog laidL w) false (World.laidAll Tryz.prog os laidL) #[.agg #[.int .i64 0, .int .i64 0, .int .i64 0, .int .i64 0, .int .i64 0, .slice none 0 0, .slice none 0 0, .slice none 0 0], .agg #[.string ByteArray.empty, .string ByteArray.empty, .string ByteArray.empty, .int .i64 0, .int .i64 0, .string ByteArray.empty, .slice none 0 0], .slice none 0 0, .slice none 0 0, .int .i64 0] 8 (World.laidAll_os _ _ _)
   (World.shaped_of_ZipB (by kernel_rfl) (by kernel_rfl)) (by kernel_rfl) (by kernel_rfl) (by kernel_rfl)
   (by rw [MakeChecks.laidMetH_plain _ _ _ (by kernel_rfl)]; exact laidMet_laidAll _ (by kernel_rfl) (by kernel_rfl))) ?_
 intro W base args ds gs before hval0 hW hwt hT
 have hval : ∀ (j : Nat) t v, Tryz.f7.params[j]? = some t → args[j]? = some v → Value.okWide Tryz.prog W .any base t v := hval0
 have hW' := hW
 obtain ⟨p, q, hA0, hV, rfl, hfz, hnd⟩ := hW
 have hA : DataW.TrodAll enc Tryz.prog W 0 (fun _ => true) true Tryz.f7.params.toList args.toList ds p := hA0
 rw [Tryz.params7] at hA hval hwt
 obtain ⟨v0, vs0, d0, ds0, p0, q0, hargs, rfl, rfl, h0, r0⟩ := trodAll_cons hA
 obtain ⟨v1, vs1, d1, ds1, p1, q1, rfl, rfl, rfl, h1, r1⟩ := trodAll_cons r0
 obtain ⟨v2, vs2, d2, ds2, p2, q2, rfl, rfl, rfl, h2, r2⟩ := trodAll_cons r1
 obtain ⟨v3, vs3, d3, ds3, p3, q3, rfl, rfl, rfl, h3, r3⟩ := trodAll_cons r2
 obtain ⟨v4, vs4, d4, ds4, p4, q4, rfl, rfl, rfl, h4, r4⟩ := trodAll_cons r3
 obtain ⟨rfl, rfl, rfl⟩ := trodAll_nil r4
 obtain rfl : args = #[v0, v1, v2, v3, v4] := by cases args; simp_all
 obtain ⟨rfl, rfl⟩ := trodVars_none hV
 have hwl : ∀ z, (z ∈ d0.weights Tryz.prog 28 → z ≤ reachBytes) ∧ (z ∈ d1.weights Tryz.prog 31 → z ≤ reachBytes) ∧ (z ∈ d2.weights Tryz.prog 32 → z ≤ reachBytes) ∧ (z ∈ d3.weights Tryz.prog 29 → z ≤ reachBytes) ∧ (z ∈ d4.weights Tryz.prog 3 → z ≤ reachBytes) := fun z => by
  have h := List.all_eq_true.1 hwt z
  simp only [decide_eq_true_eq] at h
  refine ⟨fun hz => h ?_, fun hz => h ?_, fun hz => h ?_, fun hz => h ?_, fun hz => h ?_⟩
  all_goals
   simp only [List.cons_append, List.nil_append, List.toList_toArray, List.append_nil, DataW.weightsEach, List.mem_append]
   simp [hz]
 have k0 := h0
 have lt0 : ∀ x ∈ p0, x.block < W.heap.size := by obtain ⟨m, hm⟩ := k0; exact DataW.trod_lt m _ _ _ hm
 obtain ⟨t0, m0, mf0, me0, rfl, g0, z0⟩ := Jo.open_tables (hval 0 28 v0 rfl rfl) h0 (fun z hz => (hwl z).1 hz)
 have k1 := h1
 have lt1 : ∀ x ∈ p1, x.block < W.heap.size := by obtain ⟨m, hm⟩ := k1; exact DataW.trod_lt m _ _ _ hm
 obtain ⟨x1, m1, rfl, g1, z1⟩ := open_claim (hval 1 31 v1 rfl rfl) h1 (fun z hz => (hwl z).2.1 hz)
 have k2 := h2
 have lt2 : ∀ x ∈ p2, x.block < W.heap.size := by obtain ⟨m, hm⟩ := k2; exact DataW.trod_lt m _ _ _ hm
 obtain ⟨l2, g2, z2⟩ := Ao.open_rows (okWide_slice Tryz.underlying32 (hval 2 32 v2 rfl rfl)) h2
 have k3 := h3
 have lt3 : ∀ x ∈ p3, x.block < W.heap.size := by obtain ⟨m, hm⟩ := k3; exact DataW.trod_lt m _ _ _ hm
 obtain ⟨l3, g3, n3, z3⟩ := Jo.open_lns (okWide_slice Tryz.underlying29 (hval 3 29 v3 rfl rfl)) h3 (fun z hz => (hwl z).2.2.2.1 hz)
 have k4 := h4
 have lt4 : ∀ x ∈ p4, x.block < W.heap.size := by obtain ⟨m, hm⟩ := k4; exact DataW.trod_lt m _ _ _ hm
 obtain ⟨a4, rfl, _, _, w4⟩ := open_int Tryz.underlying3 (hval 4 3 v4 rfl rfl) h4
 clear hA0 hval0
 refine (walk W t0 m0 mf0 me0 g0 z0 x1 m1 g1 z1 v2 l2 g2 z2 v3 l3 g3 n3 z3 a4 w4 hT).mono fun e W' ⟨he, bel⟩ => ?_
 subst he
 exact ⟨_, rfl, _, _, _, [], _, [], hW', (trodAll_cons_mk (shut_bool Tryz.underlying4 _) trodAll_mk0), (trodAll_cons_mk (Below.trod laidOut (by kernel_rfl) (of_decide_eq_true (by kernel_rfl)) k0 bel lt0) (trodAll_cons_mk (Below.trod laidOut (by kernel_rfl) (of_decide_eq_true (by kernel_rfl)) k1 bel lt1) (trodAll_cons_mk (Below.trod laidOut (by kernel_rfl) (of_decide_eq_true (by kernel_rfl)) k2 bel lt2) (trodAll_cons_mk (Below.trod laidOut (by kernel_rfl) (of_decide_eq_true (by kernel_rfl)) k3 bel lt3) (trodAll_cons_mk (Below.trod laidOut (by kernel_rfl) (of_decide_eq_true (by kernel_rfl)) k4 bel lt4) trodAll_mk0))))), rfl, bel.frame _, fun h => by cases h⟩
theorem over : Rows.judgePartsRow.holds Tryz.pinned (OpenSpec.ofChange Rows.judgePartsSpec) :=
 OpenClaim.holds_of_wide 7 Tryz.f7 rfl rfl rfl rfl rfl rfl rfl ⟨rfl, rfl, rfl, rfl, rfl⟩ rfl rfl rfl rfl rfl (by kernel_rfl) Tryz.func7 (by kernel_rfl)
  (of_decide_eq_true (by kernel_rfl)) (by unfold Func.isWrapper; first | (rw [if_pos (by decide +kernel)]; kernel_rfl) | (rw [if_neg (by decide +kernel)]; exact ⟨rfl, rfl⟩))
  (fun os started H enc _ => lifted os started H enc)
theorem proved : Rows.JudgePartsSaid := over
end Go.Proofs.YtfoooldkmokjpaaGreatDoor.judgeParts
namespace Go.Proofs.YtfoooldkmokjpaaGreatDoor
theorem judgeParts_holds : Rows.JudgePartsCardSaid :=
 Claim7.holds_tied_plain_at .later [] [.data] true (true, "203a673702dc739383e77bc5b6f001fe9522524a9effc6b154593a7a6936cfba") false
  judgeParts.proved (fun _ h => by cases h) (by kernel_rfl) (fun _ h => by cases h) judgeParts_row_tie rfl ⟨rfl, rfl⟩ (by kernel_rfl) rfl
  (fun f fn hf hfn => by
   obtain rfl : f = 7 := Option.some.inj ((show Tryz.prog.funcNamed "leechbook/leechbooklaw17.JudgeParts" = some 7 by kernel_rfl).symm.trans hf) |>.symm
   obtain rfl : fn = Tryz.f7 := (Option.some.inj (Tryz.func7.symm.trans hfn)).symm
   exact ⟨by kernel_rfl, fun j t ht => by
    rw [Tryz.params7] at ht
    have hm : t ∈ [28, 31, 32, 29, 3] := by simpa using Array.mem_of_getElem? ht
    have hall : ([28, 31, 32, 29, 3].all fun u => !Tryz.prog.wantsStandIn u) = true := by kernel_rfl
    exact (show Tryz.prog.wantsStandIn t = false by simpa using List.all_eq_true.1 hall t hm)⟩)
  (by kernel_rfl)
#print axioms judgeParts_holds
end Go.Proofs.YtfoooldkmokjpaaGreatDoor
