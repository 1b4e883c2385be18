/-
  The statement JudgeOwn (17.5): what is handed in stays as it was; what is told shares nothing with it: for all tables, claims, rows and services ahead; without a condition.
-/
import Derived.WalkKit
import Derived.ProofKit
import Derived.OpenShut
import Derived.ShutString
import Derived.Below
import Derived.Carry
import Derived.LaidMore
import Derived.Stop.Joined
import Derived.SevenTiedAt
import Derived.Deep.DeepCutAuto
import Derived.Deep.CutBlock
import Derived.Test.YtfbfeoplldjbpaaGreatDoorRows
import Derived.Test.YtfbfeoplldjbpaaGreatDoorMo42
import Derived.Test.YtfbfeoplldjbpaaGreatDoorMo43
import Derived.Test.YtfbfeoplldjbpaaGreatDoorMo44
import Derived.Test.YtfbfeoplldjbpaaGreatDoorMo46
import Derived.Test.YtfbfeoplldjbpaaGreatDoorTie
import Derived.Test.YtfbfeoplldjbpaaGreatDoorCards
namespace Go.Proofs.YtfbfeoplldjbpaaGreatDoor.judgeOwn
open Go.ChangeShapes Go.WideShapes Go.ChangeAt Go.RowKit
open Cm (Ln Cl bH clv lnv bG aC uJ lift yU)
open Ju
open Ac (Row cu Own tV iU jg jf fK pU)
open Sh (Ot)
open Go.ChangeMaps (open_string)
set_option linter.unusedVariables false
set_option linter.unusedSimpArgs false
set_option maxRecDepth 100000
theorem own:ownKnob Tryz.prog.godebug=none:=by kernel_rfl
set_option maxHeartbeats 16000000 in
theorem walk (w:World) (t:Ju.Tb) (m mf me:Value) (hA:Ju.dF w m mf me t) (hz:Ju.dG t) (c:Cl) (ml:Value) (hL:bH All w ml c.lines) (hc:aC c) (vr:Value) (r:List Ac.Row) (hR:Ac.cu All w vr r) (hyr:∀x ∈ r,Ao.I64 x.year) (va:Value) (Ah:List Ln) (hV:bH All w va Ah) (hxl:Ah.length<=281474976710656) (hx:∀x ∈ Ah,bG x) (hT:Da.Tab w) :
  Calls Tryz.prog 5 #[.agg #[.int .i64 t.plan.mode,.int .i64 t.plan.indDed,.int .i64 t.plan.famDed,.int .i64 t.plan.indOop,.int .i64 t.plan.famOop,m,mf,me],clv c ml,vr,va] w fun e w'=>e=.returned (.bool true)/\Below w.heap.size w w':=by
 have HW:=Lib.hid fun W (hW:Below w.heap.size w W)=>IJ W (Cm.tab_below hT hW)
 obtain ⟨ma,mc,fa,fc,ea,ec,rfl,rfl,rfl⟩:=hA.form
 obtain ⟨la,lc,rfl,hl1,hl2⟩:=Cm.bH.form hL
 obtain ⟨ra,rc,rfl,hr1,hr2⟩:=hR.form
 obtain ⟨aa,ac,rfl,ha1,ha2⟩:=Cm.bH.form hV
 have HLi:=Lib.hid fun W (hW:Below w.heap.size w W)=>vH t c r Ah _ _ _ _ _ _ W (hA.grw hW) (Ex.wB hL hW) (hR.grw hW) (Ex.wB hV hW) hz hc hx hxl
 have HJu:Hid (LtP c r Ah->∀W,Below w.heap.size w W->Calls Tryz.prog 9 #[.agg #[.int .i64 t.plan.mode,.int .i64 t.plan.indDed,.int .i64 t.plan.famDed,.int .i64 t.plan.indOop,.int .i64 t.plan.famOop,.slice ma t.plan.rules.length mc,.slice fa t.fees.length fc,.slice ea t.edits.length ec],.agg #[.string (mk c.id),.string (mk c.mem),.string (mk c.fam),.int .i64 c.net,.int .i64 c.does,.string (mk c.ref),.slice la c.lines.length lc],.slice ra r.length rc,.slice aa Ah.length ac] W fun e w'=>JdV W.heap.size w' e (tC t c r Ah) (tH t c r Ah) (tJ t c r Ah)/\Below W.heap.size W w'):=fun h W hW=>tK t c r Ah _ _ _ _ _ _ W (hA.grw hW) (Ex.wB hL hW) (hR.grw hW) (Ex.wB hV hW) ⟨hz,hc,h.2.1.1,h.2.2.1,Nat.le_trans h.2.2.2 (by decide),Nat.le_trans h.2.1.2 (by decide)⟩ (Nat.le_trans h.1 (by decide)) (Cm.tab_below hT hW)
 have HLn:=Lib.hid fun W (hW:Below w.heap.size w W)=>Ex.wB hL hW
 have HRo:=Lib.hid fun W (hW:Below w.heap.size w W)=>hR.grw hW
 have HCO:=Lib.hid hc
 have HJi:Hid (LtP c r Ah->∀W v,Below w.heap.size w W->cu All W v r->Calls Tryz.prog 9 #[.agg #[.int .i64 t.plan.mode,.int .i64 t.plan.indDed,.int .i64 t.plan.famDed,.int .i64 t.plan.indOop,.int .i64 t.plan.famOop,.slice ma t.plan.rules.length mc,.slice fa t.fees.length fc,.slice ea t.edits.length ec],.agg #[.string (mk c.id),.string (mk c.mem),.string (mk c.fam),.int .i64 c.net,.int .i64 c.does,.string (mk c.ref),.slice la c.lines.length lc],v,.slice aa Ah.length ac] W fun e w'=>JdV W.heap.size w' e (tC t c r Ah) (tH t c r Ah) (tJ t c r Ah)/\Below W.heap.size W w'):=fun h W v hW hv=>tK t c r Ah _ _ _ _ _ _ W (hA.grw hW) (Ex.wB hL hW) hv (Ex.wB hV hW) ⟨hz,hc,h.2.1.1,h.2.2.1,Nat.le_trans h.2.2.2 (by decide),Nat.le_trans h.2.1.2 (by decide)⟩ (Nat.le_trans h.1 (by decide)) (Cm.tab_below hT hW)
 have HOl:Hid (LtP c r Ah->(tH t c r Ah).length<=100000/\(tJ t c r Ah).length<=100000):=fun h=>by
  unfold tH tJ
  split
  ·rw [Ef,sS]
   have h1:=D8 (cxV t c) (its t c Ah) r
   rw [sS] at h1
   have:=h.1
   have:=h.2.1.2
   omega
  ·simp
 clear hA hL hR hV hz hx hT
 have hbx:Below w.heap.size w ((w.alloc (.cells #[.int .i64 t.plan.mode,.int .i64 t.plan.indDed,.int .i64 t.plan.famDed,.int .i64 t.plan.indOop,.int .i64 t.plan.famOop,.slice ma t.plan.rules.length mc,.slice fa t.fees.length fc,.slice ea t.edits.length ec] 28)).alloc (.cells #[.string (mk c.id),.string (mk c.mem),.string (mk c.fam),.int .i64 c.net,.int .i64 c.does,.string (mk c.ref),.slice la c.lines.length lc] 31)):=jg (iU _ _) (iU _ _)
 have hz1:=tV (fK w #[.int .i64 t.plan.mode,.int .i64 t.plan.indDed,.int .i64 t.plan.famDed,.int .i64 t.plan.indOop,.int .i64 t.plan.famOop,.slice ma t.plan.rules.length mc,.slice fa t.fees.length fc,.slice ea t.edits.length ec] 28) (iU _ (.cells #[.string (mk c.id),.string (mk c.mem),.string (mk c.fam),.int .i64 c.net,.int .i64 c.does,.string (mk c.ref),.slice la c.lines.length lc] 31))
 have hz2:=fK (w.alloc (.cells #[.int .i64 t.plan.mode,.int .i64 t.plan.indDed,.int .i64 t.plan.famDed,.int .i64 t.plan.indOop,.int .i64 t.plan.famOop,.slice ma t.plan.rules.length mc,.slice fa t.fees.length fc,.slice ea t.edits.length ec] 28)) #[.string (mk c.id),.string (mk c.mem),.string (mk c.fam),.int .i64 c.net,.int .i64 c.does,.string (mk c.ref),.slice la c.lines.length lc] 31
 rw [show (w.alloc (.cells #[.int .i64 t.plan.mode,.int .i64 t.plan.indDed,.int .i64 t.plan.famDed,.int .i64 t.plan.indOop,.int .i64 t.plan.famOop,.slice ma t.plan.rules.length mc,.slice fa t.fees.length fc,.slice ea t.edits.length ec] 28)).heap.size=w.heap.size+1 by simp] at hz2
 have HX:=Lib.hid hz1
 have HY:=Lib.hid hz2
 have HB0:=Lib.hid hbx
 clear hbx hz1 hz2 hc
 go_enter Tryz.func5,Tryz.ntmps5
 go_upto_region 1 with fail
 generalize ((w.alloc (.cells #[.int .i64 t.plan.mode,.int .i64 t.plan.indDed,.int .i64 t.plan.famDed,.int .i64 t.plan.indOop,.int .i64 t.plan.famOop,.slice ma t.plan.rules.length mc,.slice fa t.fees.length fc,.slice ea t.edits.length ec] 28)).alloc (.cells #[.string (mk c.id),.string (mk c.mem),.string (mk c.fam),.int .i64 c.net,.int .i64 c.does,.string (mk c.ref),.slice la c.lines.length lc] 31))=W at *
 generalize hp:w.heap.size=p at *
 obtain ⟨p1,hp1⟩:∃u,u=p+1:=⟨_,rfl⟩
 rw [←hp1] at HY ⊢
 clear hp1
 obtain ⟨x0,x1,x2,x3,x4,x5,x6,x7⟩:=Pl.iR HX.out
 obtain ⟨y0,y1,y2,y3,y4,y5,y6⟩:=jT HY.out
 go_wp2_with fail
 try (go_at_call 7)
 refine (HLi.out W HB0.out).mono ?_
 rintro e w1 ⟨⟨n1,rfl,hn1⟩,hb1⟩
 have HB1:=Lib.hid (jf hp HB0.out hb1)
 have HX1:=Lib.hid (tV HX.out hb1)
 have HY1:=Lib.hid (tV HY.out hb1)
 clear hb1 HX HY HB0 HLi x0 x1 x2 x3 x4 x5 x6 x7 y0 y1 y2 y3 y4 y5 y6
 obtain ⟨x0,x1,x2,x3,x4,x5,x6,x7⟩:=Pl.iR HX1.out
 obtain ⟨y0,y1,y2,y3,y4,y5,y6⟩:=jT HY1.out
 by_cases g1:(0:Int) < n1
 ·go_wp2_with fail
  try (go_at_call 8)
  refine (HW.out w1 HB1.out).mono ?_
  rintro e w9 ⟨rfl,hb9⟩
  have HB9:=Lib.hid (jf hp HB1.out hb9)
  clear hb9
  go_wp2
  go_ret
  exact ⟨rfl,by first|exact HB9.out|(rw [hp];exact HB9.out)⟩
 have HLt:=Lib.hid (hn1 (by omega))
 have hrl:r.length<=100:=HLt.out.1
 have HJ:=Lib.hid (HJi.out HLt.out)
 obtain ⟨hol,hrw⟩:=HOl.out HLt.out
 clear HJu HJi hn1 HOl HLt
 go_wp2_with (at_builtin;refine wpList_plain (by rfl) (fun K hK=>?_);refine IU _ _ rfl rfl _ _ _ r rfl (HRo.out w1 HB1.out) (by omega) (fun v2 w2 he2 hb2=>?_);refine hK _ _ ?_;obtain ⟨ia,ic,rfl,-,-⟩:=cu.form he2;have HI2:=Lib.hid he2;have HB2:=Lib.hid (jf hp HB1.out hb2);have HX2:=Lib.hid (tV HX1.out hb2);have HY2:=Lib.hid (tV HY1.out hb2);clear x0 x1 x2 x3 x4 x5 x6 x7 y0 y1 y2 y3 y4 y5 y6 he2 hb2 hK HX1 HY1 HB1;obtain ⟨x0,x1,x2,x3,x4,x5,x6,x7⟩:=Pl.iR HX2.out;obtain ⟨y0,y1,y2,y3,y4,y5,y6⟩:=jT HY2.out)
 try (go_at_call 9)
 refine (HJ.out w2 _ HB2.out HI2.out).mono ?_
 rintro e w3 ⟨⟨vo3,vr3,rfl,ho3,hr3⟩,hb3⟩
 have HB3:=Lib.hid (jf hp HB2.out hb3)
 have HI3:=Lib.hid (HI2.out.grw hb3)
 have H23:=Lib.hid hb3
 have HX3:=Lib.hid (tV HX2.out hb3)
 have HY3:=Lib.hid (tV HY2.out hb3)
 have HO3:=Lib.hid ho3
 have HR3:=Lib.hid hr3
 obtain ⟨oa3,oc3,rfl,-,-⟩:=Ad ho3
 obtain ⟨ra3,rc3,rfl,-,-⟩:=Ac.Am hr3
 clear ho3 hr3 hb3 x0 x1 x2 x3 x4 x5 x6 x7 y0 y1 y2 y3 y4 y5 y6
 obtain ⟨x0,x1,x2,x3,x4,x5,x6,x7⟩:=Pl.iR HX3.out
 obtain ⟨y0,y1,y2,y3,y4,y5,y6⟩:=jT HY3.out
 go_wp2_with fail
 try (go_at_call 9)
 refine (HJ.out w3 _ HB3.out HI3.out).mono ?_
 rintro e w4 ⟨⟨vo4,vr4,rfl,ho4,hr4⟩,hb4⟩
 have HB4:=Lib.hid (jf hp HB3.out hb4)
 have HI4:=Lib.hid (HI3.out.grw hb4)
 have HX4:=Lib.hid (tV HX3.out hb4)
 have HY4:=Lib.hid (tV HY3.out hb4)
 have H24:Hid (Below w2.heap.size w2 w4):=Lib.hid (jg H23.out hb4)
 obtain ⟨oa4,oc4,ho4e,ol4,om4⟩:=Ad ho4
 obtain ⟨ra4,rc4,hr4e,rl4,rm4⟩:=Ac.Am hr4
 subst ho4e hr4e
 have HO4:=Lib.hid ho4
 have HR4:=Lib.hid hr4
 obtain ⟨oa,oc,eo,ol,om,hwo⟩:=Aj HO3.out hb4
 obtain ⟨ra',rc',er,rl,rm,hwr⟩:=Az HR3.out hb4
 injection eo with eo1 _ eo2
 injection er with er1 _ er2
 subst eo1 eo2 er1 er2
 have HWO:=Lib.hid hwo
 have HWR:=Lib.hid hwr
 have HLH:Hid (w2.heap.size<=w3.heap.size):=H23.out.size
 generalize tC t c r Ah=JE at *
 generalize tH t c r Ah=JO at *
 generalize tJ t c r Ah=JR at *
 generalize hlo:w2.heap.size=lo at *
 generalize hhi:w3.heap.size=hi at *
 clear ho4 hr4 hb4 hwo hwr x0 x1 x2 x3 x4 x5 x6 x7 y0 y1 y2 y3 y4 y5 y6 HO3 HR3 H23 HX3 HY3 HI3 HB3
 go_wp2
 go_loopg [16] (JR.length) (fun gg s16 wr=>∃k:Nat,s16=.int .i64 (k:Nat)/\k<=JR.length/\JR.length - k<=gg/\Hid (Mid lo hi w4 wr)/\Hid (Wr wr Ac.TA ra3 JR.length 5 4 lo hi)/\Hid (Wr wr TO oa3 JO.length 8 4 lo hi))
 case atStart=>exact ⟨0,rfl,Nat.zero_le _,by omega,Mid.refl _ _ _,HWR.out,HWO.out⟩
 case round =>
  clear HWR HWO
  obtain ⟨k,rfl,hk,hgk,HMd,HWR,HWO⟩:=hrel
  by_cases hlt:k < JR.length
  ·have hltz:(k:Int) < (JR.length:Int):=by omega
   have hi1:k < JR.length:=hlt
   obtain ⟨g,rfl,hg1,hg2,hri⟩:=HWR.out.resolve_left (by omega)
   obtain ⟨⟨xx,hu⟩,hfz,hgs⟩:=hri.get hlt
   obtain ⟨yy,hy⟩:∃y,IntKind.i64.wrap (xx+1)=y:=⟨_,rfl⟩
   have HM2:=Lib.hid (HMd.out.set hg1 hg2 (k * 5+4) (.int .i64 yy))
   have HR2:Hid (Wr (wr.setCell ⟨g,k * 5+4,none⟩ (.int .i64 yy)) Ac.TA (some ⟨g,0,none⟩) JR.length 5 4 lo hi):=Or.inr ⟨g,rfl,hg1,hg2,hri.set k yy⟩
   have HO2:=Lib.hid (HWO.out.far hri (k * 5+4) (.int .i64 yy))
   clear HMd HWR HWO hri
   go_wp2
   go_roundg (JR.length - (k+1))
   case measure=>omega
   case rel=>exact ⟨k+1,by first|rfl|go_num|(congr 1;omega),by omega,by omega,by first|exact HM2.out|(simpa [hy] using HM2.out),by first|exact HR2.out|(simpa [hy] using HR2.out),by first|exact HO2.out|(simpa [hy] using HO2.out)⟩
  ·have hltz:¬ (k:Int) < (JR.length:Int):=by omega
   clear HWR hk hgk hlt
   obtain ⟨w5,hw5⟩:∃z,z=wr:=⟨_,rfl⟩
   subst hw5
   go_wp2
   go_loopg [17] (JO.length) (fun gg s17 wr=>∃k:Nat,s17=.int .i64 (k:Nat)/\k<=JO.length/\JO.length - k<=gg/\Hid (Mid lo hi w4 wr)/\Hid (Wr wr TO oa3 JO.length 8 4 lo hi))
   case atStart=>exact ⟨0,rfl,Nat.zero_le _,by omega,HMd.out,HWO.out⟩
   case round =>
    clear HMd HWO hltz
    obtain ⟨k,rfl,hk,hgk,HMd,HWO⟩:=hrel
    by_cases hlt:k < JO.length
    ·have hltz:(k:Int) < (JO.length:Int):=by omega
     have hi1:k < JO.length:=hlt
     obtain ⟨g,rfl,hg1,hg2,hri⟩:=HWO.out.resolve_left (by omega)
     obtain ⟨⟨xx,hu⟩,hfz,hgs⟩:=hri.get hlt
     obtain ⟨yy,hy⟩:∃y,IntKind.i64.wrap (xx+1)=y:=⟨_,rfl⟩
     have HM2:=Lib.hid (HMd.out.set hg1 hg2 (k * 8+4) (.int .i64 yy))
     have HO2:Hid (Wr (wr.setCell ⟨g,k * 8+4,none⟩ (.int .i64 yy)) TO (some ⟨g,0,none⟩) JO.length 8 4 lo hi):=Or.inr ⟨g,rfl,hg1,hg2,hri.set k yy⟩
     clear HMd HWO hri
     go_wp2
     go_roundg (JO.length - (k+1))
     case measure=>omega
     case rel=>exact ⟨k+1,by first|rfl|go_num|(congr 1;omega),by omega,by omega,by first|exact HM2.out|(simpa [hy] using HM2.out),by first|exact HO2.out|(simpa [hy] using HO2.out)⟩
    ·have hltz:¬ (k:Int) < (JO.length:Int):=by omega
     obtain ⟨w6,hw6⟩:∃z,z=wr:=⟨_,rfl⟩
     subst hw6
     have hb6:Below w2.heap.size w2 w6:=by rw [hlo];exact H24.out.trans HMd.out.1
     have HB6:=Lib.hid (jf hp HB2.out hb6)
     have HI6:=Lib.hid (HI2.out.grw hb6)
     have HX6:=Lib.hid (tV HX2.out hb6)
     have HY6:=Lib.hid (tV HY2.out hb6)
     have HR6:=Lib.hid (Aw HR4.out HMd.out.2)
     have HO6:=Lib.hid (Ai HO4.out HMd.out.2)
     clear HMd HWO hb6 hk hgk hlt HX2 HY2 HI2 HB2 HI4 HB4 HX4 HY4 HR4 HO4 H24
     obtain ⟨x0,x1,x2,x3,x4,x5,x6,x7⟩:=Pl.iR HX6.out
     obtain ⟨y0,y1,y2,y3,y4,y5,y6⟩:=jT HY6.out
     go_wp2_with fail
     try (go_at_call 9)
     refine (HJ.out w6 _ HB6.out HI6.out).mono ?_
     rintro e w7 ⟨⟨vo7,vr7,rfl,ho7,hr7⟩,hb7⟩
     have HB7:=Lib.hid (jf hp HB6.out hb7)
     have HI7:=Lib.hid (HI6.out.grw hb7)
     have HR7:=Lib.hid (Ac.Eo (K:=All) hr7 fun _ _=>trivial)
     have HO7:=Lib.hid (zK (K:=All) ho7 fun _ _=>trivial)
     have HM7:=Lib.hid (Ac.Eo (K:=All) (Ac.Ak HR6.out hb7) fun _ _=>trivial)
     have HP7:=Lib.hid (zK (K:=All) (Aa HO6.out hb7) fun _ _=>trivial)
     obtain ⟨oa7,oc7,ho7e,-,-⟩:=Ad ho7
     obtain ⟨ra7,rc7,hr7e,-,-⟩:=Ac.Am hr7
     subst ho7e hr7e
     clear ho7 hr7 hb7 x0 x1 x2 x3 x4 x5 x6 x7 y0 y1 y2 y3 y4 y5 y6 HR6 HO6 HX6 HY6 HI6 HB6
     have qe:(JE == JE)=true:=by simp
     go_wp2_with fail
     try (go_at_call 12)
     refine (Ac.same_eq r _ _ w7 HI7.out (HRo.out w7 HB7.out) (by omega)).mono ?_
     rintro e w8 ⟨rfl,hb8⟩
     have HB8:=Lib.hid (jf hp HB7.out hb8)
     have HR8:=Lib.hid (HR7.out.grw hb8)
     have HM8:=Lib.hid (HM7.out.grw hb8)
     have HO8:=Lib.hid (HO7.out.grw hb8)
     have HP8:=Lib.hid (HP7.out.grw hb8)
     clear hb8 HR7 HM7 HO7 HP7 HI7 HB7
     go_wp2_with fail
     try (go_at_call 12)
     refine (Ac.same_eq JR _ _ w8 HM8.out HR8.out hrw).mono ?_
     rintro e w9 ⟨rfl,hb9⟩
     have HB9:=Lib.hid (jf hp HB8.out hb9)
     have HO9:=Lib.hid (HO8.out.grw hb9)
     have HP9:=Lib.hid (HP8.out.grw hb9)
     clear hb9 HR8 HM8 HO8 HP8 HB8
     go_wp2_with fail
     try (go_at_call 11)
     refine (zJ JO _ _ w9 HP9.out HO9.out hol).mono ?_
     rintro e w10 ⟨rfl,hb10⟩
     have HB10:=Lib.hid (jf hp HB9.out hb10)
     clear hb10 HO9 HP9 HB9
     go_wp2_with fail
     try (go_at_call 8)
     refine (HW.out w10 HB10.out).mono ?_
     rintro e w9 ⟨rfl,hb9⟩
     have HB9:=Lib.hid (jf hp HB10.out hb9)
     clear hb9
     go_wp2
     go_ret
     exact ⟨rfl,by first|exact HB9.out|(rw [hp];exact HB9.out)⟩
theorem laidOut:laidOutB Tryz.prog=true:=by kernel_rfl
set_option maxRecDepth 100000 in
theorem lifted (os:Os) (started:os.Started) (H:Type) (enc:TypeId × Value->H) :
  ReturnsInHanded {} Tryz.checked os 5 .any (fun w args=>(Rows.judgeOwnSpec.pre enc Tryz.prog Tryz.f5 [] false w args/\laidMetH Tryz.prog uJ w)/\sizedMet enc Tryz.prog Tryz.f5 (OpenSpec.ofChange Rows.judgeOwnSpec) false w args) (Rows.judgeOwnSpec.post enc Tryz.prog Tryz.f5 false true false false):=by
 refine lift own started (by kernel_rfl) Tryz.func5
  (ChangeSpec.witness_shaped (enc:=enc) (C:=Tryz.checked) (os:=os) (X:=fun w _=>laidMetH Tryz.prog uJ w) false (World.laidAll Tryz.prog os uJ) #[.agg #[.int .i64 0,.int .i64 0,.int .i64 0,.int .i64 0,.int .i64 0,.slice none 0 0,.slice none 0 0,.slice none 0 0],.agg #[.string ByteArray.empty,.string ByteArray.empty,.string ByteArray.empty,.int .i64 0,.int .i64 0,.string ByteArray.empty,.slice none 0 0],.slice none 0 0,.slice none 0 0] 8 (World.laidAll_os _ _ _)
   (World.shaped_of_ZipB (by kernel_rfl) (by kernel_rfl)) (by kernel_rfl) (by kernel_rfl) (by kernel_rfl)
   (by rw [MakeChecks.laidMetH_plain _ _ _ (by kernel_rfl)];exact laidMet_laidAll _ (by kernel_rfl) (by kernel_rfl))) ?_
 intro W base args ds gs before hval0 hW hwt hT
 have hval:∀(j:Nat) t v,Tryz.f5.params[j]?=some t->args[j]?=some v->Value.okWide Tryz.prog W .any base t v:=hval0
 have hW':=hW
 obtain ⟨p,q,hA0,hV,rfl,hfz,hnd⟩:=hW
 have hA:DataW.TrodAll enc Tryz.prog W 0 (fun _=>true) true Tryz.f5.params.toList args.toList ds p:=hA0
 rw [Tryz.params5] at hA hval hwt
 obtain ⟨v0,vs0,d0,ds0,p0,q0,hargs,rfl,rfl,h0,r0⟩:=trodAll_cons hA
 obtain ⟨v1,vs1,d1,ds1,p1,q1,rfl,rfl,rfl,h1,r1⟩:=trodAll_cons r0
 obtain ⟨v2,vs2,d2,ds2,p2,q2,rfl,rfl,rfl,h2,r2⟩:=trodAll_cons r1
 obtain ⟨v3,vs3,d3,ds3,p3,q3,rfl,rfl,rfl,h3,r3⟩:=trodAll_cons r2
 obtain ⟨rfl,rfl,rfl⟩:=trodAll_nil r3
 obtain rfl:args=#[v0,v1,v2,v3]:=by cases args;simp_all
 obtain ⟨rfl,rfl⟩:=trodVars_none hV
 have hwl:∀z,(z ∈ d0.weights Tryz.prog 28->z<=reachBytes)/\(z ∈ d1.weights Tryz.prog 31->z<=reachBytes)/\(z ∈ d2.weights Tryz.prog 32->z<=reachBytes)/\(z ∈ d3.weights Tryz.prog 29->z<=reachBytes):=fun z=>by
  have h:=List.all_eq_true.1 hwt z
  simp only [decide_eq_true_eq] at h
  refine ⟨fun hz=>h ?_,fun hz=>h ?_,fun hz=>h ?_,fun hz=>h ?_⟩
  all_goals
   simp only [List.cons_append,List.nil_append,List.toList_toArray,List.append_nil,DataW.weightsEach,List.mem_append]
   simp [hz]
 have k0:=h0
 have lt0:∀x ∈ p0,x.block < W.heap.size:=by obtain ⟨m,hm⟩:=k0;exact DataW.trod_lt m _ _ _ hm
 obtain ⟨t0,m0,mf0,me0,rfl,g0,z0⟩:=Jo.zk (hval 0 28 v0 rfl rfl) h0 (fun z hz=>(hwl z).1 hz)
 have k1:=h1
 have lt1:∀x ∈ p1,x.block < W.heap.size:=by obtain ⟨m,hm⟩:=k1;exact DataW.trod_lt m _ _ _ hm
 obtain ⟨x1,m1,rfl,g1,z1⟩:=yU (hval 1 31 v1 rfl rfl) h1 (fun z hz=>(hwl z).2.1 hz)
 have k2:=h2
 have lt2:∀x ∈ p2,x.block < W.heap.size:=by obtain ⟨m,hm⟩:=k2;exact DataW.trod_lt m _ _ _ hm
 obtain ⟨l2,g2,z2⟩:=Ao.zf (okWide_slice Tryz.underlying32 (hval 2 32 v2 rfl rfl)) h2
 have k3:=h3
 have lt3:∀x ∈ p3,x.block < W.heap.size:=by obtain ⟨m,hm⟩:=k3;exact DataW.trod_lt m _ _ _ hm
 obtain ⟨l3,g3,n3,z3⟩:=Jo.y9 (okWide_slice Tryz.underlying29 (hval 3 29 v3 rfl rfl)) h3 (fun z hz=>(hwl z).2.2.2 hz)
 clear hA0 hval0
 refine (walk W t0 m0 mf0 me0 g0 z0 x1 m1 g1 z1 v2 l2 g2 z2 v3 l3 g3 n3 z3 hT).mono fun e W' ⟨he,bel⟩=>?_
 subst he
 exact ⟨_,rfl,_,_,_,[],_,[],hW',(trodAll_cons_mk (shut_bool Tryz.underlying4 _) trodAll_mk0),(trodAll_cons_mk (Below.trod laidOut (by kernel_rfl) (of_decide_eq_true (by kernel_rfl)) k0 bel lt0) (trodAll_cons_mk (Below.trod laidOut (by kernel_rfl) (of_decide_eq_true (by kernel_rfl)) k1 bel lt1) (trodAll_cons_mk (Below.trod laidOut (by kernel_rfl) (of_decide_eq_true (by kernel_rfl)) k2 bel lt2) (trodAll_cons_mk (Below.trod laidOut (by kernel_rfl) (of_decide_eq_true (by kernel_rfl)) k3 bel lt3) trodAll_mk0)))),rfl,bel.frame _,fun h=>by cases h⟩
theorem over:Rows.judgeOwnRow.holds Tryz.pinned (OpenSpec.ofChange Rows.judgeOwnSpec):=
 OpenClaim.holds_of_wide 5 Tryz.f5 rfl rfl rfl rfl rfl rfl rfl ⟨rfl,rfl,rfl,rfl,rfl⟩ rfl rfl rfl rfl rfl (by kernel_rfl) Tryz.func5 (by kernel_rfl)
  (of_decide_eq_true (by kernel_rfl)) (by unfold Func.isWrapper;first|(rw [if_pos (by decide +kernel)];kernel_rfl)|(rw [if_neg (by decide +kernel)];exact ⟨rfl,rfl⟩))
  (fun os started H enc _=>lifted os started H enc)
theorem proved:Rows.JudgeOwnSaid:=over
end Go.Proofs.YtfbfeoplldjbpaaGreatDoor.judgeOwn
namespace Go.Proofs.YtfbfeoplldjbpaaGreatDoor
theorem judgeOwn_holds:Rows.JudgeOwnCardSaid:=
 Claim7.holds_tied_plain_at .later [] [.data] true (true, "a7234eaa9ffd422425590d7ea42e97148f15fc950a71eabb14290e7ec31fcac2") false
  judgeOwn.proved (fun _ h=>by cases h) (by kernel_rfl) (fun _ h=>by cases h) judgeOwn_row_tie rfl ⟨rfl,rfl⟩ (by kernel_rfl) rfl
  (fun f fn hf hfn=>by
   obtain rfl:f=5:=Option.some.inj ((show Tryz.prog.funcNamed "leechbook/leechbooklaw17.JudgeOwn" = some 5 by kernel_rfl).symm.trans hf) |>.symm
   obtain rfl:fn=Tryz.f5:=(Option.some.inj (Tryz.func5.symm.trans hfn)).symm
   exact ⟨by kernel_rfl,fun j t ht=>by
    rw [Tryz.params5] at ht
    have hm:t ∈ [28,31,32,29]:=by simpa using Array.mem_of_getElem? ht
    have hall:([28,31,32,29].all fun u=>!Tryz.prog.wantsStandIn u)=true:=by kernel_rfl
    exact (show Tryz.prog.wantsStandIn t=false by simpa using List.all_eq_true.1 hall t hm)⟩)
  (by kernel_rfl)
#print axioms judgeOwn_holds
end Go.Proofs.YtfbfeoplldjbpaaGreatDoor
