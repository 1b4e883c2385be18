/-
  The statement JudgeLimits (17.5): in rows in which nobody is above the plan's limits nobody is behind a claim; and what is counted is just what its services say: for all tables, claims, rows and services ahead; without a condition.
-/
import Derived.WalkKit
import Derived.ProofKit
import Derived.OpenShut
import Derived.ShutString
import Derived.Below
import Derived.Carry
import Derived.LaidMore
import Derived.Stop.Joined
import Derived.SevenTiedAt
import Derived.Deep.DeepCutAuto
import Derived.Deep.CutBlock
import Derived.Test.YtfbfeoplldjbpaaGreatDoorRows
import Derived.Test.YtfbfeoplldjbpaaGreatDoorMo42
import Derived.Test.YtfbfeoplldjbpaaGreatDoorMo43
import Derived.Test.YtfbfeoplldjbpaaGreatDoorMo48
import Derived.Test.YtfbfeoplldjbpaaGreatDoorMo12
import Derived.Test.YtfbfeoplldjbpaaGreatDoorMo5
import Derived.Test.YtfbfeoplldjbpaaGreatDoorMo9
import Derived.Test.YtfbfeoplldjbpaaGreatDoorMo23
import Derived.Test.YtfbfeoplldjbpaaGreatDoorMo44
import Derived.Test.YtfbfeoplldjbpaaGreatDoorMo46
import Derived.Test.YtfbfeoplldjbpaaGreatDoorTie
import Derived.Test.YtfbfeoplldjbpaaGreatDoorCards
namespace Go.Proofs.YtfbfeoplldjbpaaGreatDoor.judgeLimits
open Go.ChangeShapes Go.WideShapes Go.ChangeAt Go.RowKit
open Cm (Ln Cl bH clv lnv bG aC uJ lift yU)
open Ju
open Ac (Row cu Own tV iU jg jf fK pU)
open Sh (Ot)
open Go.ChangeMaps (open_string)
set_option linter.unusedVariables false
set_option linter.unusedSimpArgs false
set_option maxRecDepth 100000
theorem own:ownKnob Tryz.prog.godebug=none:=by kernel_rfl
set_option maxHeartbeats 16000000 in
theorem walk (w:World) (t:Ju.Tb) (m mf me:Value) (hA:Ju.dF w m mf me t) (hz:Ju.dG t) (c:Cl) (ml:Value) (hL:bH All w ml c.lines) (hc:aC c) (vr:Value) (r:List Ac.Row) (hR:Ac.cu All w vr r) (hyr:∀x ∈ r,Ao.I64 x.year) (va:Value) (Ah:List Ln) (hV:bH All w va Ah) (hxl:Ah.length<=281474976710656) (hx:∀x ∈ Ah,bG x) (hT:Da.Tab w) :
  Calls Tryz.prog 4 #[.agg #[.int .i64 t.plan.mode,.int .i64 t.plan.indDed,.int .i64 t.plan.famDed,.int .i64 t.plan.indOop,.int .i64 t.plan.famOop,m,mf,me],clv c ml,vr,va] w fun e w'=>e=.returned (.bool true)/\Below w.heap.size w w':=by
 have HW:=Lib.hid fun W (hW:Below w.heap.size w W)=>IJ W (Cm.tab_below hT hW)
 obtain ⟨ma,mc,fa,fc,ea,ec,rfl,rfl,rfl⟩:=hA.form
 obtain ⟨la,lc,rfl,hl1,hl2⟩:=Cm.bH.form hL
 obtain ⟨ra,rc,rfl,hr1,hr2⟩:=hR.form
 obtain ⟨aa,ac,rfl,ha1,ha2⟩:=Cm.bH.form hV
 have HLi:=Lib.hid fun W (hW:Below w.heap.size w W)=>vH t c r Ah _ _ _ _ _ _ W (hA.grw hW) (Ex.wB hL hW) (hR.grw hW) (Ex.wB hV hW) hz hc hx hxl
 have HJu:Hid (LtP c r Ah->∀W,Below w.heap.size w W->Calls Tryz.prog 9 #[.agg #[.int .i64 t.plan.mode,.int .i64 t.plan.indDed,.int .i64 t.plan.famDed,.int .i64 t.plan.indOop,.int .i64 t.plan.famOop,.slice ma t.plan.rules.length mc,.slice fa t.fees.length fc,.slice ea t.edits.length ec],.agg #[.string (mk c.id),.string (mk c.mem),.string (mk c.fam),.int .i64 c.net,.int .i64 c.does,.string (mk c.ref),.slice la c.lines.length lc],.slice ra r.length rc,.slice aa Ah.length ac] W fun e w'=>JdV W.heap.size w' e (tC t c r Ah) (tH t c r Ah) (tJ t c r Ah)/\Below W.heap.size W w'):=fun h W hW=>tK t c r Ah _ _ _ _ _ _ W (hA.grw hW) (Ex.wB hL hW) (hR.grw hW) (Ex.wB hV hW) ⟨hz,hc,h.2.1.1,h.2.2.1,Nat.le_trans h.2.2.2 (by decide),Nat.le_trans h.2.1.2 (by decide)⟩ (Nat.le_trans h.1 (by decide)) (Cm.tab_below hT hW)
 have HLn:=Lib.hid fun W (hW:Below w.heap.size w W)=>Ex.wB hL hW
 have HRo:=Lib.hid fun W (hW:Below w.heap.size w W)=>hR.grw hW
 have HCO:=Lib.hid hc
 have HWi:Hid (LtP c r Ah->∀W,Below w.heap.size w W->Calls Tryz.prog 15 #[.agg #[.int .i64 t.plan.mode,.int .i64 t.plan.indDed,.int .i64 t.plan.famDed,.int .i64 t.plan.indOop,.int .i64 t.plan.famOop,.slice ma t.plan.rules.length mc],.slice ra r.length rc] W fun e w'=>e=.returned (.bool (Kq t.plan r))/\Below W.heap.size W w'):=fun h W hW=>Kt t _ r _ W ⟨ma,mc,rfl⟩ (hR.grw hW) (Nat.le_trans h.1 (by decide))
 have HWl:Hid (∀(l:List Row) (v:Value) W,cu All W v l->l.length<=100000->Calls Tryz.prog 15 #[.agg #[.int .i64 t.plan.mode,.int .i64 t.plan.indDed,.int .i64 t.plan.famDed,.int .i64 t.plan.indOop,.int .i64 t.plan.famOop,.slice ma t.plan.rules.length mc],v] W fun e w'=>e=.returned (.bool (Kq t.plan l))/\Below W.heap.size W w'):=fun l v W hv hl=>Kt t _ l _ W ⟨ma,mc,rfl⟩ hv hl
 have HLm:Hid (tC t c r Ah=0->Kq t.plan r=true->_):=fun h hw=>Jv t c r Ah h hw
 have HRl:Hid (LtP c r Ah->(tJ t c r Ah).length<=100000/\(tH t c r Ah).length<=3000):=fun h=>by
  unfold tH tJ
  have h1:=D8 (cxV t c) (its t c Ah) r
  rw [sS] at h1
  have h2:=h.1
  have h3:=h.2.1.2
  split
  ·rw [Ef,sS];omega
  ·simp
 have HNo:Hid (tC t c r Ah ≠ 0->tJ t c r Ah=[]):=fun h=>by unfold tJ;rw [if_neg h]
 have HBa:Hid (tC t c r Ah=0->∀(k:Nat) (o:Ot),(tH t c r Ah)[k]?=some o->(0<=o.de/\o.de<=10000000000000)/\(0<=o.cp/\o.cp<=10000000000000)/\(0<=o.cn/\o.cn<=10000000000000)):=fun h k o ho=>by
  obtain ⟨h1,h2⟩:=Jt t c r Ah h
  have hk:k < c.lines.length:=by rw [←h1];exact (List.getElem?_eq_some_iff.1 ho).1
  exact (h2 k _ o (List.getElem?_eq_getElem hk) ho).2.2.2.2
 clear hA hL hR hV hz hx hT
 have hbx:Below w.heap.size w ((w.alloc (.cells #[.int .i64 t.plan.mode,.int .i64 t.plan.indDed,.int .i64 t.plan.famDed,.int .i64 t.plan.indOop,.int .i64 t.plan.famOop,.slice ma t.plan.rules.length mc,.slice fa t.fees.length fc,.slice ea t.edits.length ec] 28)).alloc (.cells #[.string (mk c.id),.string (mk c.mem),.string (mk c.fam),.int .i64 c.net,.int .i64 c.does,.string (mk c.ref),.slice la c.lines.length lc] 31)):=jg (iU _ _) (iU _ _)
 have hz1:=tV (fK w #[.int .i64 t.plan.mode,.int .i64 t.plan.indDed,.int .i64 t.plan.famDed,.int .i64 t.plan.indOop,.int .i64 t.plan.famOop,.slice ma t.plan.rules.length mc,.slice fa t.fees.length fc,.slice ea t.edits.length ec] 28) (iU _ (.cells #[.string (mk c.id),.string (mk c.mem),.string (mk c.fam),.int .i64 c.net,.int .i64 c.does,.string (mk c.ref),.slice la c.lines.length lc] 31))
 have hz2:=fK (w.alloc (.cells #[.int .i64 t.plan.mode,.int .i64 t.plan.indDed,.int .i64 t.plan.famDed,.int .i64 t.plan.indOop,.int .i64 t.plan.famOop,.slice ma t.plan.rules.length mc,.slice fa t.fees.length fc,.slice ea t.edits.length ec] 28)) #[.string (mk c.id),.string (mk c.mem),.string (mk c.fam),.int .i64 c.net,.int .i64 c.does,.string (mk c.ref),.slice la c.lines.length lc] 31
 rw [show (w.alloc (.cells #[.int .i64 t.plan.mode,.int .i64 t.plan.indDed,.int .i64 t.plan.famDed,.int .i64 t.plan.indOop,.int .i64 t.plan.famOop,.slice ma t.plan.rules.length mc,.slice fa t.fees.length fc,.slice ea t.edits.length ec] 28)).heap.size=w.heap.size+1 by simp] at hz2
 have HX:=Lib.hid hz1
 have HY:=Lib.hid hz2
 have HB0:=Lib.hid hbx
 clear hbx hz1 hz2 hc
 go_enter Tryz.func4,Tryz.ntmps4
 go_upto_region 1 with fail
 generalize ((w.alloc (.cells #[.int .i64 t.plan.mode,.int .i64 t.plan.indDed,.int .i64 t.plan.famDed,.int .i64 t.plan.indOop,.int .i64 t.plan.famOop,.slice ma t.plan.rules.length mc,.slice fa t.fees.length fc,.slice ea t.edits.length ec] 28)).alloc (.cells #[.string (mk c.id),.string (mk c.mem),.string (mk c.fam),.int .i64 c.net,.int .i64 c.does,.string (mk c.ref),.slice la c.lines.length lc] 31))=W at *
 generalize hp:w.heap.size=p at *
 obtain ⟨p1,hp1⟩:∃u,u=p+1:=⟨_,rfl⟩
 rw [←hp1] at HY ⊢
 clear hp1
 obtain ⟨x0,x1,x2,x3,x4,x5,x6,x7⟩:=Pl.iR HX.out
 obtain ⟨y0,y1,y2,y3,y4,y5,y6⟩:=jT HY.out
 go_wp2_with fail
 try (go_at_call 7)
 refine (HLi.out W HB0.out).mono ?_
 rintro e w1 ⟨⟨n1,rfl,hn1⟩,hb1⟩
 have HB1:=Lib.hid (jf hp HB0.out hb1)
 have HX1:=Lib.hid (tV HX.out hb1)
 have HY1:=Lib.hid (tV HY.out hb1)
 clear hb1 HX HY HB0 HLi x0 x1 x2 x3 x4 x5 x6 x7 y0 y1 y2 y3 y4 y5 y6
 obtain ⟨x0,x1,x2,x3,x4,x5,x6,x7⟩:=Pl.iR HX1.out
 obtain ⟨y0,y1,y2,y3,y4,y5,y6⟩:=jT HY1.out
 by_cases g1:(0:Int) < n1
 ·go_wp2_with fail
  try (go_at_call 8)
  refine (HW.out w1 HB1.out).mono ?_
  rintro e w9 ⟨rfl,hb9⟩
  have HB9:=Lib.hid (jf hp HB1.out hb9)
  clear hb9
  go_wp2
  go_ret
  exact ⟨rfl,by first|exact HB9.out|(rw [hp];exact HB9.out)⟩
 have HLt:=Lib.hid (hn1 (by omega))
 have hrl:r.length<=100:=HLt.out.1
 have HJ:=Lib.hid (HJu.out HLt.out)
 have HW1:=Lib.hid (HWi.out HLt.out)
 obtain ⟨hjr,hjo⟩:=HRl.out HLt.out
 clear HJu hn1 HWi HRl HLt
 go_wp2_with fail
 try (go_at_call 15)
 refine (HW1.out w1 HB1.out).mono ?_
 rintro e w2 ⟨rfl,hb2⟩
 have HB2:=Lib.hid (jf hp HB1.out hb2)
 have HX2:=Lib.hid (tV HX1.out hb2)
 have HY2:=Lib.hid (tV HY1.out hb2)
 clear hb2 x0 x1 x2 x3 x4 x5 x6 x7 y0 y1 y2 y3 y4 y5 y6 HX1 HY1 HB1 HW1
 obtain ⟨WB,hWB⟩:∃b,Kq t.plan r=b:=⟨_,rfl⟩
 rw [hWB] at HLm ⊢
 clear hWB
 cases WB with
 | false =>
  obtain ⟨x0,x1,x2,x3,x4,x5,x6,x7⟩:=Pl.iR HX2.out
  obtain ⟨y0,y1,y2,y3,y4,y5,y6⟩:=jT HY2.out
  go_wp2_with fail
  try (go_at_call 8)
  refine (HW.out w2 HB2.out).mono ?_
  rintro e w9 ⟨rfl,hb9⟩
  have HB9:=Lib.hid (jf hp HB2.out hb9)
  clear hb9
  go_wp2
  go_ret
  exact ⟨rfl,by first|exact HB9.out|(rw [hp];exact HB9.out)⟩
 | true =>
  have HLw:=Lib.hid fun h=>HLm.out h rfl
  clear HLm
  obtain ⟨x0,x1,x2,x3,x4,x5,x6,x7⟩:=Pl.iR HX2.out
  obtain ⟨y0,y1,y2,y3,y4,y5,y6⟩:=jT HY2.out
  go_wp2_with fail
  try (go_at_call 9)
  refine (HJ.out w2 HB2.out).mono ?_
  rintro e w3 ⟨⟨vo3,vr3,rfl,ho3,hr3⟩,hb3⟩
  have HB3:=Lib.hid (jf hp HB2.out hb3)
  have HX3:=Lib.hid (tV HX2.out hb3)
  have HY3:=Lib.hid (tV HY2.out hb3)
  have HO3:=Lib.hid (zK (K:=All) ho3 fun _ _=>trivial)
  have HR3:=Lib.hid (Ac.Eo (K:=All) hr3 fun _ _=>trivial)
  obtain ⟨oa3,oc3,rfl,ol3,om3⟩:=Ad ho3
  obtain ⟨ra3,rc3,rfl,rl3,rm3⟩:=Ac.Am hr3
  clear ho3 hr3 hb3 x0 x1 x2 x3 x4 x5 x6 x7 y0 y1 y2 y3 y4 y5 y6 HJ HX2 HY2 HB2
  generalize tC t c r Ah=JE at *
  generalize tJ t c r Ah=JR at *
  generalize tH t c r Ah=JO at *
  by_cases e1:JE=0
  case neg =>
   have q1:(JE != 0)=true:=by simp [e1]
   have hN:=HNo.out e1
   subst hN
   clear e1 HLw HNo HBa
   obtain ⟨x0,x1,x2,x3,x4,x5,x6,x7⟩:=Pl.iR HX3.out
   obtain ⟨y0,y1,y2,y3,y4,y5,y6⟩:=jT HY3.out
   go_wp2_with fail
   try (go_at_call 8)
   refine (HW.out w3 HB3.out).mono ?_
   rintro e w9 ⟨rfl,hb9⟩
   have HB9:=Lib.hid (jf hp HB3.out hb9)
   clear hb9
   go_wp2
   go_ret
   exact ⟨rfl,by first|exact HB9.out|(rw [hp];exact HB9.out)⟩
  subst e1
  have hLw:=HLw.out rfl
  have HBb:=Lib.hid (HBa.out rfl)
  clear HLw HNo HBa
  obtain ⟨Y,hY⟩:∃Y,Y=yrC c:=⟨_,rfl⟩
  obtain ⟨DD,hDD⟩:∃z,z=(if c.net=0 then J6 JO else 0):=⟨_,rfl⟩
  obtain ⟨MM,hMM⟩:∃z,z=(if c.net=0 then J7 JO else 0):=⟨_,rfl⟩
  rw [←hY,←hDD,←hMM] at hLw
  have HDD:=Lib.hid hDD
  have HMM:=Lib.hid hMM
  have HYY:=Lib.hid hY
  have hbd:(0<=DD/\DD<=30000000000000000)/\(0<=MM/\MM<=90000000000000000):=by
   have h:=J8 JO HBb.out JO.length (Nat.le_refl _)
   rw [List.take_length] at h
   rw [hDD,hMM]
   split<;>omega
  obtain ⟨⟨bd1,bd2⟩,bd3,bd4⟩:=hbd
  clear hDD hMM hY
  have HGa:=Lib.hid fun W (hW:Below p w W)=>Ac.JL r c.mem false Y _ W (HRo.out W hW) (by omega)
  have HGx:=Lib.hid fun W (hW:Below p w W)=>Ac.JL r c.fam true Y _ W (HRo.out W hW) (by omega)
  have HGb:=Lib.hid fun W (hW:Below w3.heap.size w3 W)=>Ac.JL JR c.mem false Y _ W (HR3.out.grw hW) hjr
  have HGy:=Lib.hid fun W (hW:Below w3.heap.size w3 W)=>Ac.JL JR c.fam true Y _ W (HR3.out.grw hW) hjr
  have HWj:=Lib.hid fun W (hW:Below w3.heap.size w3 W)=>HWl.out JR _ W (HR3.out.grw hW) hjr
  generalize pU r c.mem false Y=Ga at *
  generalize pU JR c.mem false Y=Gb at *
  generalize pU r c.fam true Y=Gx at *
  generalize pU JR c.fam true Y=Gy at *
  obtain ⟨hwi,s1,s2,s3,s4⟩:=hLw
  have HWn:=Lib.hid hwi
  clear HWl hwi HR3
  have HXK:=Lib.hid fun W' (hW:Below w3.heap.size w3 W')=>And.intro (Pl.iR (tV HX3.out hW)) (jT (tV HY3.out hW))
  have HOt:=Lib.hid fun W' (hW:Below w3.heap.size w3 W')=>HO3.out.grw hW
  clear HX3 HY3 HO3
  have hpp:Hid (∀W,Below w3.heap.size w3 W->Below p w W):=fun W hW=>jf hp HB3.out hW
  have HZ3:=Lib.hid (HXK.out w3 (Below.refl _ _))
  obtain ⟨⟨x0,x1,x2,x3,x4,x5,x6,x7⟩,y0,y1,y2,y3,y4,y5,y6⟩:=HZ3.out
  go_upto_block 0 with fail
  clear x0 x1 x2 x3 x4 x5 x6 x7 y0 y1 y2 y3 y4 y5 y6 HZ3
  go_cut [12,13] (fun s12 s13 wx=>s12=.int .i64 DD/\s13=.int .i64 MM/\Hid (Below w3.heap.size w3 wx))
  case first =>
   have hs1:=s1
   clear hs1 s1 s2 s3 s4 HWn HGa HGb HGx HGy HWj HW
   go_wp2_with fail
   go_loopg [12,13,14] (JO.length) (fun gg s12 s13 s14 wr=>∃(k:Nat) (D M:Int),s14=.int .i64 (k:Nat)/\s12=.int .i64 D/\s13=.int .i64 M/\k<=JO.length/\JO.length - k<=gg/\Hid (D=J6 (JO.take k)/\M=J7 (JO.take k))/\Hid (Below w3.heap.size w3 wr)/\Hid (c.net ≠ 0->k=0))
   case atStart=>exact ⟨0,0,0,rfl,rfl,rfl,Nat.zero_le _,by omega,⟨by simp [J6],by simp [J7]⟩,Below.refl _ _,fun _=>rfl⟩
   case round =>
    obtain ⟨k,D,M,rfl,rfl,rfl,hk,hgk,HS,HBr,HK0⟩:=hrel
    obtain ⟨-,y0,y1,y2,y3,y4,y5,y6⟩:=HXK.out wr HBr.out
    by_cases hlt:k < JO.length
    ·have hltz:(k:Int) < (JO.length:Int):=by omega
     by_cases hn:c.net=0
     ·have qn:(c.net == 0)=true:=by simp [hn]
      have hbk:=J8 JO HBb.out k hk
      rw [←HS.out.1,←HS.out.2] at hbk
      obtain ⟨⟨hb1,hb2⟩,hb3,hb4⟩:=hbk
      have hk3:(k:Int)<=3000:=by omega
      obtain ⟨ob,oo,rfl,hobl,hox,hoc⟩:=bJ.get (HOt.out wr HBr.out) k hlt
      obtain ⟨⟨f5a,f5b⟩,⟨f6a,f6b⟩,f7a,f7b⟩:=HBb.out k _ hox
      have hst:=J9 JO k _ hox
      generalize JO[k]=o at *
      have HS2:Hid (D+o.de=J6 (JO.take (k+1))/\M+o.de+o.cp+o.cn=J7 (JO.take (k+1))):=⟨by rw [hst.1,←HS.out.1],by rw [hst.2,←HS.out.2];unfold Sh.member;omega⟩
      unfold bI at hoc
      obtain ⟨o0,o1,o2,o3,o4,o5,o6,o7⟩:=hoc
      have hi1:k < JO.length:=hlt
      have z0:IntKind.i64.wrap (D+o.de)=D+o.de:=by rw [IntKind.wrap_i64];omega
      have z1:IntKind.i64.wrap (M+o.de)=M+o.de:=by rw [IntKind.wrap_i64];omega
      have z2:IntKind.i64.wrap (M+o.de+o.cp)=M+o.de+o.cp:=by rw [IntKind.wrap_i64];omega
      have z3:IntKind.i64.wrap (M+o.de+o.cp+o.cn)=M+o.de+o.cp+o.cn:=by rw [IntKind.wrap_i64];omega
      have HK2:Hid (c.net ≠ 0->k+1=0):=fun h=>absurd hn h
      clear hst HS hn HK0 hox HXK HOt HBb HDD HMM HYY hpp HB3
      go_wp2_with fail
      go_quiet (fail)
      go_wp2
      go_roundg (JO.length - (k+1))
      case measure=>omega
      case rel=>exact ⟨k+1,_,_,by first|rfl|go_num|(congr 1;omega),rfl,rfl,by omega,by omega,HS2.out,HBr.out.trans (iW _ _ _),HK2.out⟩
     ·have qn:(c.net == 0)=false:=by simp [hn]
      have hE:D=DD/\M=MM:=by
       have h0:=HK0.out hn
       have h:=HS.out
       rw [h0] at h
       rw [HDD.out,HMM.out,if_neg hn,if_neg hn]
       simpa [J6,J7] using h
      clear hn HK0 HS
      obtain ⟨rfl,rfl⟩:=hE
      go_wp2
      go_meet
      exact ⟨rfl,rfl,HBr.out⟩
    ·have hltz:¬ (k:Int) < (JO.length:Int):=by omega
     have hE:D=DD/\M=MM:=by
      have h:=HS.out
      rw [List.take_of_length_le (by omega)] at h
      rw [HDD.out,HMM.out]
      by_cases hn:c.net=0
      ·rw [if_pos hn,if_pos hn];exact h
      ·have h0:=HK0.out hn
       have hl:JO=[]:=List.length_eq_zero_iff.1 (by omega)
       rw [if_neg hn,if_neg hn]
       rw [hl] at h
       simpa [J6,J7] using h
     clear HK0 HS
     obtain ⟨rfl,rfl⟩:=hE
     go_wp2
     go_meet
     exact ⟨rfl,rfl,HBr.out⟩
  case rest =>
   obtain ⟨rfl,rfl,HB34⟩:=hcut
   obtain ⟨w4,hw4⟩:∃z,z=wc:=⟨_,rfl⟩
   subst hw4
   clear HDD HMM HBb HOt
   obtain ⟨-,y0,y1,y2,y3,y4,y5,y6⟩:=HXK.out w4 HB34.out
   go_upto_if 91 with fail
   go_cut [15] (fun s15 wx=>s15=.int .i64 Y/\wx=w4)
   case first =>
    clear HW HGa HGb HGx HGy HWj HWn
    by_cases g3:c.lines.length=0
    ·have hY0:Y=0:=by rw [HYY.out];unfold yrC;rw [if_pos g3]
     have q3:¬ (0:Int) < (c.lines.length:Int):=by omega
     have q4:decide ((0:Int) < (c.lines.length:Int))=false:=decide_eq_false q3
     clear g3
     subst hY0
     go_wp2
     go_meet
     exact ⟨rfl,rfl⟩
    ·have q3:(0:Int) < (c.lines.length:Int):=by omega
     have q4:decide ((0:Int) < (c.lines.length:Int))=true:=decide_eq_true q3
     obtain ⟨b,lo,mx,rfl,hbl,hxc,hxm⟩:=vZ (HLn.out w4 (hpp.out w4 HB34.out)) (List.getElem?_eq_getElem (i:=0) (by omega))
     have HX0:Hid (c.lines[0]?=some (c.lines[0]'(by omega))):=List.getElem?_eq_getElem (by omega)
     have hxo:=HCO.out.2.2.2.2.2.2.2 _ (List.mem_of_getElem? HX0.out)
     have hYx:Y=(c.lines[0]'(by omega)).date.tdiv 10000:=by
      rw [HYY.out];unfold yrC;rw [if_neg g3]
      have:c.lines.getD 0 Cm.ln0=c.lines[0]'(by omega):=by simp [List.getD,HX0.out]
      rw [this];rfl
     obtain ⟨td1,td2⟩:=Ko _ hxo.1.1 hxo.1.2
     generalize c.lines[0]'(by omega)=x at *
     rw [←hYx] at td1 td2
     have hYe:=hYx.symm
     unfold Cm.bg at hxc
     simp only [Nat.zero_mul,Nat.add_zero] at hxc
     obtain ⟨l0,l1,l2,l3,l4,l5⟩:=hxc
     clear hxm hxo hYx HX0
     go_wp2
     go_meet
     exact ⟨by first|rfl|(go_simp;done)|(rw [hYe]),rfl⟩
   case rest =>
    obtain ⟨rfl,hwc⟩:=hcut
    rw [hwc]
    clear hwc
    clear y0 y1 y2 y3 y4 y5 y6
    have HYK:=Lib.hid fun W' (hW:Below w4.heap.size w4 W')=>(HXK.out W' (jg HB34.out hW)).2
    have HD:=Lib.hid (Below.drew (Below.refl w4.heap.size w4))
    go_upto_region 15 with fail
    go_cut [16,17] (fun sa sb wx=>∃ga gb:Nat,sa=.pointer (some ⟨ga,0,none⟩)/\sb=.pointer (some ⟨gb,0,none⟩)/\Hid (wx.heap[ga]?=some (.cells #[.string (mk Ga.who),.bool Ga.fam,.int .i64 Ga.year,.int .i64 Ga.de,.int .i64 Ga.oo] 50 (0,0)))/\Hid (wx.heap[gb]?=some (.cells #[.string (mk Gb.who),.bool Gb.fam,.int .i64 Gb.year,.int .i64 Gb.de,.int .i64 Gb.oo] 50 (0,0)))/\Hid (Below w4.heap.size w4 wx))
    case first =>
     refine Ri.I7 12 (by kernel_rfl) (by kernel_rfl) (by kernel_rfl) (by decide) (by kernel_rfl) (fun Wx=>Below w4.heap.size w4 Wx) (fun kz vs wz=>(fun kx vx wx=>match kx with|0=>vx=.slice ra r.length rc|1=>vx=.pointer (some ⟨p1,1,none⟩)|2=>vx=.string (mk c.mem)|3=>vx=.int .i64 Y|4=>vx=Ac.rwv Ga|5=>vx=.slice ra3 JR.length rc3|6=>vx=.pointer (some ⟨p1,1,none⟩)|7=>vx=.string (mk c.mem)|8=>vx=.int .i64 Y|9=>vx=Ac.rwv Gb|10=>(∃g,vx=.pointer (some ⟨g,0,none⟩)/\w4.heap.size<=g/\wx.heap[g]?=some (.cells #[.string ⟨#[]⟩,.bool false,.int .i64 0,.int .i64 0,.int .i64 0] 50 (0,0)))|11=>(∃g,vx=.pointer (some ⟨g,0,none⟩)/\w4.heap.size<=g/\wx.heap[g]?=some (.cells #[.string ⟨#[]⟩,.bool false,.int .i64 0,.int .i64 0,.int .i64 0] 50 (0,0)))|_=>True:Nat->Value->World->Prop) kz (vs kz) wz) (fun lst vs=>lst 10=true->lst 11=true->vs 10 ≠ vs 11) (fun kz=>[kz]) (by kernel_rfl) (fun jz vs iz vz wz hiz hz=>Ri.wI (F:=(fun kx vx wx=>match kx with|0=>vx=.slice ra r.length rc|1=>vx=.pointer (some ⟨p1,1,none⟩)|2=>vx=.string (mk c.mem)|3=>vx=.int .i64 Y|4=>vx=Ac.rwv Ga|5=>vx=.slice ra3 JR.length rc3|6=>vx=.pointer (some ⟨p1,1,none⟩)|7=>vx=.string (mk c.mem)|8=>vx=.int .i64 Y|9=>vx=Ac.rwv Gb|10=>(∃g,vx=.pointer (some ⟨g,0,none⟩)/\w4.heap.size<=g/\wx.heap[g]?=some (.cells #[.string ⟨#[]⟩,.bool false,.int .i64 0,.int .i64 0,.int .i64 0] 50 (0,0)))|11=>(∃g,vx=.pointer (some ⟨g,0,none⟩)/\w4.heap.size<=g/\wx.heap[g]?=some (.cells #[.string ⟨#[]⟩,.bool false,.int .i64 0,.int .i64 0,.int .i64 0] 50 (0,0)))|_=>True:Nat->Value->World->Prop)) jz vs iz vz wz hiz hz) HD.out ?_ ⟨⟨rfl,?_⟩,⟨rfl,?_⟩,⟨rfl,?_⟩,⟨rfl,?_⟩,⟨rfl,?_⟩,⟨rfl,?_⟩,⟨rfl,?_⟩,⟨rfl,?_⟩,⟨rfl,?_⟩,⟨rfl,?_⟩,⟨rfl,?_⟩,⟨rfl,?_⟩,trivial⟩ ?_
     ·intro vs hvs
      intro h1
      cases h1
     ·intro vs Wx A lst hA hB hls hX hno hpre K hK
      have e2:=(hA 2).trans (show _=Value.slice ra r.length rc by kernel_rfl)
      clear hA hpre
      go_simp
      first|exact hK _ _ hB (by trivial) (fun _ _ h=>h) hX|(rw [if_neg (by omega)];go_simp;exact hK _ _ hB rfl (fun _ _ h=>h) hX)
     ·intro vs Wx A lst hA hB hls hX hno hpre K hK
      have e5:=(hA 5).trans (show _=Value.pointer (some ⟨p1,0,none⟩) by kernel_rfl)
      clear hA hpre
      go_simp
      first|exact hK _ _ hB (by trivial) (fun _ _ h=>h) hX|(rw [if_neg (by omega)];go_simp;exact hK _ _ hB rfl (fun _ _ h=>h) hX)
     ·intro vs Wx A lst hA hB hls hX hno hpre K hK
      have e99:=((hA 99).trans (show _=vs 1 by kernel_rfl)).trans (by repeat first|exact hpre.1 rfl|replace hpre:=hpre.2)
      obtain ⟨y0,y1,y2,y3,y4,y5,y6⟩:=HYK.out Wx hB
      clear hA hpre
      go_simp
      first|exact hK _ _ hB (by trivial) (fun _ _ h=>h) hX|(rw [if_neg (by omega)];go_simp;exact hK _ _ hB rfl (fun _ _ h=>h) hX)
     ·intro vs Wx A lst hA hB hls hX hno hpre K hK
      have e15:=(hA 15).trans (show _=Value.int .i64 Y by kernel_rfl)
      clear hA hpre
      go_simp
      first|exact hK _ _ hB (by trivial) (fun _ _ h=>h) hX|(rw [if_neg (by omega)];go_simp;exact hK _ _ hB rfl (fun _ _ h=>h) hX)
     ·intro vs Wx A lst hA hB hls hX hno hpre K hK
      have e98:=((hA 98).trans (show _=vs 0 by kernel_rfl)).trans (by repeat first|exact hpre.1 rfl|replace hpre:=hpre.2)
      have e100:=((hA 100).trans (show _=vs 2 by kernel_rfl)).trans (by repeat first|exact hpre.1 rfl|replace hpre:=hpre.2)
      have e101:=((hA 101).trans (show _=vs 3 by kernel_rfl)).trans (by repeat first|exact hpre.1 rfl|replace hpre:=hpre.2)
      clear hA hpre
      go_simp
      go_at_call 16
      refine (HGa.out Wx (hpp.out Wx (jg HB34.out hB))).mono ?_
      rintro e w9 ⟨rfl,hg⟩
      refine hK _ _ (jg hB hg) rfl (fun jz hj hz=>?_) hX
      match jz,hj,hz with
      | 0,_,hz=>exact hz
      | 1,_,hz=>exact hz
      | 2,_,hz=>exact hz
      | 3,_,hz=>exact hz
      | 4,_,hz=>exact hz
      | 5,_,hz=>exact hz
      | 6,_,hz=>exact hz
      | 7,_,hz=>exact hz
      | 8,_,hz=>exact hz
      | 9,_,hz=>exact hz
      | 10,_,hz=>exact (hz.elim fun g h=>⟨g,h.1,h.2.1,tV h.2.2 hg⟩)
      | 11,_,hz=>exact (hz.elim fun g h=>⟨g,h.1,h.2.1,tV h.2.2 hg⟩)
      | n+12,_,hz=>exact hz
     ·intro vs Wx A lst hA hB hls hX hno hpre K hK
      have e10:=(hA 10).trans (show _=Value.slice ra3 JR.length rc3 by kernel_rfl)
      clear hA hpre
      go_simp
      first|exact hK _ _ hB (by trivial) (fun _ _ h=>h) hX|(rw [if_neg (by omega)];go_simp;exact hK _ _ hB rfl (fun _ _ h=>h) hX)
     ·intro vs Wx A lst hA hB hls hX hno hpre K hK
      have e5:=(hA 5).trans (show _=Value.pointer (some ⟨p1,0,none⟩) by kernel_rfl)
      clear hA hpre
      go_simp
      first|exact hK _ _ hB (by trivial) (fun _ _ h=>h) hX|(rw [if_neg (by omega)];go_simp;exact hK _ _ hB rfl (fun _ _ h=>h) hX)
     ·intro vs Wx A lst hA hB hls hX hno hpre K hK
      have e104:=((hA 104).trans (show _=vs 6 by kernel_rfl)).trans (by repeat first|exact hpre.1 rfl|replace hpre:=hpre.2)
      obtain ⟨y0,y1,y2,y3,y4,y5,y6⟩:=HYK.out Wx hB
      clear hA hpre
      go_simp
      first|exact hK _ _ hB (by trivial) (fun _ _ h=>h) hX|(rw [if_neg (by omega)];go_simp;exact hK _ _ hB rfl (fun _ _ h=>h) hX)
     ·intro vs Wx A lst hA hB hls hX hno hpre K hK
      have e15:=(hA 15).trans (show _=Value.int .i64 Y by kernel_rfl)
      clear hA hpre
      go_simp
      first|exact hK _ _ hB (by trivial) (fun _ _ h=>h) hX|(rw [if_neg (by omega)];go_simp;exact hK _ _ hB rfl (fun _ _ h=>h) hX)
     ·intro vs Wx A lst hA hB hls hX hno hpre K hK
      have e103:=((hA 103).trans (show _=vs 5 by kernel_rfl)).trans (by repeat first|exact hpre.1 rfl|replace hpre:=hpre.2)
      have e105:=((hA 105).trans (show _=vs 7 by kernel_rfl)).trans (by repeat first|exact hpre.1 rfl|replace hpre:=hpre.2)
      have e106:=((hA 106).trans (show _=vs 8 by kernel_rfl)).trans (by repeat first|exact hpre.1 rfl|replace hpre:=hpre.2)
      clear hA hpre
      go_simp
      go_at_call 16
      refine (HGb.out Wx (jg HB34.out hB)).mono ?_
      rintro e w9 ⟨rfl,hg⟩
      refine hK _ _ (jg hB hg) rfl (fun jz hj hz=>?_) hX
      match jz,hj,hz with
      | 0,_,hz=>exact hz
      | 1,_,hz=>exact hz
      | 2,_,hz=>exact hz
      | 3,_,hz=>exact hz
      | 4,_,hz=>exact hz
      | 5,_,hz=>exact hz
      | 6,_,hz=>exact hz
      | 7,_,hz=>exact hz
      | 8,_,hz=>exact hz
      | 9,_,hz=>exact hz
      | 10,_,hz=>exact (hz.elim fun g h=>⟨g,h.1,h.2.1,tV h.2.2 hg⟩)
      | 11,_,hz=>exact (hz.elim fun g h=>⟨g,h.1,h.2.1,tV h.2.2 hg⟩)
      | n+12,_,hz=>exact hz
     ·intro vs Wx A lst hA hB hls hX hno hpre K hK
      clear hA hpre
      go_simp
      refine hK _ _ (jg hB (iU Wx _)) ⟨_,rfl,hB.size,heap_alloc_new Wx _⟩ (fun jz hj hz=>?_) (fun _ hl e=>?_)
      ·match jz,hj,hz with
       | 0,_,hz=>exact hz
       | 1,_,hz=>exact hz
       | 2,_,hz=>exact hz
       | 3,_,hz=>exact hz
       | 4,_,hz=>exact hz
       | 5,_,hz=>exact hz
       | 6,_,hz=>exact hz
       | 7,_,hz=>exact hz
       | 8,_,hz=>exact hz
       | 9,_,hz=>exact hz
       | 10,hj,_=>exact absurd rfl hj
       | 11,_,hz=>exact (hz.elim fun g h=>⟨g,h.1,h.2.1,tV h.2.2 (iU Wx _)⟩)
       | n+12,_,hz=>exact hz
      ·obtain ⟨g,e1,-,h3⟩:=hls 11 hl
       have e2:Value.pointer (some ⟨Wx.heap.size,0,none⟩)=vs 11:=e
       rw [e1] at e2
       have e3:Wx.heap.size=g:=by simpa using e2
       have:=(Array.getElem?_eq_some_iff.1 h3).1
       omega
     ·intro vs Wx A lst hA hB hls hX hno hpre K hK
      clear hA hpre
      go_simp
      refine hK _ _ (jg hB (iU Wx _)) ⟨_,rfl,hB.size,heap_alloc_new Wx _⟩ (fun jz hj hz=>?_) (fun hl _ e=>?_)
      ·match jz,hj,hz with
       | 0,_,hz=>exact hz
       | 1,_,hz=>exact hz
       | 2,_,hz=>exact hz
       | 3,_,hz=>exact hz
       | 4,_,hz=>exact hz
       | 5,_,hz=>exact hz
       | 6,_,hz=>exact hz
       | 7,_,hz=>exact hz
       | 8,_,hz=>exact hz
       | 9,_,hz=>exact hz
       | 10,_,hz=>exact (hz.elim fun g h=>⟨g,h.1,h.2.1,tV h.2.2 (iU Wx _)⟩)
       | 11,hj,_=>exact absurd rfl hj
       | n+12,_,hz=>exact hz
      ·obtain ⟨g,e1,-,h3⟩:=hls 10 hl
       have e2:Value.pointer (some ⟨Wx.heap.size,0,none⟩)=vs 10:=e.symm
       rw [e1] at e2
       have e3:Wx.heap.size=g:=by simpa using e2
       have:=(Array.getElem?_eq_some_iff.1 h3).1
       omega
     ·intro vs Wx lst hall hX hB hF
      refine fun A12 hA K12 hK12=>?_
      have e16:=(hA 16).trans (show _=vs 10 by kernel_rfl)
      have e102:=((hA 102).trans (show _=vs 4 by kernel_rfl)).trans (hF 4 (by decide))
      clear hA
      obtain ⟨ga,ea,hga,hza⟩:=hF 10 (by decide)
      obtain ⟨gb,eb,hgb,hzb⟩:=hF 11 (by decide)
      have hne:ga ≠ gb:=fun e=>hX (hall 10 (by decide)) (hall 11 (by decide)) (by rw [ea,eb,e])
      rw [ea] at e16
      obtain ⟨m0,m1,m2,m3,m4⟩:=Ac.cells5 hza
      obtain ⟨f0,f1,f2,f3,f4⟩:=Ac.pO hza
      have HNA:=Lib.hid (Ac.BO (b0:=.string (mk Ga.who)) (b1:=.bool Ga.fam) (b2:=.int .i64 Ga.year) (b3:=.int .i64 Ga.de) (b4:=.int .i64 Ga.oo) hza)
      have HNB:=Lib.hid (Ac.JH (q:=ga) (a0:=.string (mk Ga.who)) (a1:=.bool Ga.fam) (a2:=.int .i64 Ga.year) (a3:=.int .i64 Ga.de) (a4:=.int .i64 Ga.oo) hzb (Ne.symm hne))
      have HBP:=Lib.hid (Ac.BN hB ga hga (.string (mk Ga.who)) (.bool Ga.fam) (.int .i64 Ga.year) (.int .i64 Ga.de) (.int .i64 Ga.oo))
      have HNE:=Lib.hid hne
      have HGB:=Lib.hid hgb
      have HEA:=Lib.hid (And.intro ea eb)
      clear hga hgb hza hzb hne
      go_simp
      refine hK12 undef _ ?_
      clear m0 m1 m2 m3 m4 f0 f1 f2 f3 f4 e16 e102
      refine fun A13 hA K13 hK13=>?_
      have e17:=(hA 17).trans (show _=vs 11 by kernel_rfl)
      have e107:=((hA 107).trans (show _=vs 9 by kernel_rfl)).trans (hF 9 (by decide))
      clear hA
      rw [eb] at e17
      generalize (((((Wx.setCell ⟨ga,0,none⟩ (.string (mk Ga.who))).setCell ⟨ga,1,none⟩ (.bool Ga.fam)).setCell ⟨ga,2,none⟩ (.int .i64 Ga.year)).setCell ⟨ga,3,none⟩ (.int .i64 Ga.de)).setCell ⟨ga,4,none⟩ (.int .i64 Ga.oo))=Wy at *
      obtain ⟨m0,m1,m2,m3,m4⟩:=Ac.cells5 HNB.out
      obtain ⟨f0,f1,f2,f3,f4⟩:=Ac.pO HNB.out
      have HMA:=Lib.hid (Ac.JH (q:=gb) (a0:=.string (mk Gb.who)) (a1:=.bool Gb.fam) (a2:=.int .i64 Gb.year) (a3:=.int .i64 Gb.de) (a4:=.int .i64 Gb.oo) HNA.out HNE.out)
      have HMB:=Lib.hid (Ac.BO (b0:=.string (mk Gb.who)) (b1:=.bool Gb.fam) (b2:=.int .i64 Gb.year) (b3:=.int .i64 Gb.de) (b4:=.int .i64 Gb.oo) HNB.out)
      have HBM:=Lib.hid (Ac.BN HBP.out gb HGB.out (.string (mk Gb.who)) (.bool Gb.fam) (.int .i64 Gb.year) (.int .i64 Gb.de) (.int .i64 Gb.oo))
      go_simp
      refine hK13 undef _ ?_
      clear m0 m1 m2 m3 m4 f0 f1 f2 f3 f4 e17 e107
      clear hB hX hall hF
      simp only [Ri.Tail,Ri.puts]
      go_simp
      go_wp2_with fail
      go_meet
      exact ⟨ga,gb,by first|exact HEA.out.1|(go_simp;exact HEA.out.1)|(simpa [Ri.upd] using HEA.out.1),by first|exact HEA.out.2|(go_simp;exact HEA.out.2)|(simpa [Ri.upd] using HEA.out.2),HMA.out,HMB.out,HBM.out⟩
    case rest =>
     obtain ⟨qa,qb,rfl,rfl,Hqa,Hqb,HBM⟩:=hcut
     clear HYK HD
     obtain ⟨w5,hw5⟩:∃z,z=wc:=⟨_,rfl⟩
     subst hw5
     have HB35:=Lib.hid (jg HB34.out HBM.out)
     clear HBM HGa HGb
     have HYK:=Lib.hid fun W' (hW:Below w5.heap.size w5 W')=>(HXK.out W' (jg HB35.out hW)).2
     have HD:=Lib.hid (Below.drew (Below.refl w5.heap.size w5))
     go_upto_region 16 with fail
     go_cut [18,19] (fun sa sb wx=>∃ga gb:Nat,sa=.pointer (some ⟨ga,0,none⟩)/\sb=.pointer (some ⟨gb,0,none⟩)/\Hid (wx.heap[ga]?=some (.cells #[.string (mk Gx.who),.bool Gx.fam,.int .i64 Gx.year,.int .i64 Gx.de,.int .i64 Gx.oo] 50 (0,0)))/\Hid (wx.heap[gb]?=some (.cells #[.string (mk Gy.who),.bool Gy.fam,.int .i64 Gy.year,.int .i64 Gy.de,.int .i64 Gy.oo] 50 (0,0)))/\Hid (Below w5.heap.size w5 wx))
     case first =>
      refine Ri.I7 12 (by kernel_rfl) (by kernel_rfl) (by kernel_rfl) (by decide) (by kernel_rfl) (fun Wx=>Below w5.heap.size w5 Wx) (fun kz vs wz=>(fun kx vx wx=>match kx with|0=>vx=.slice ra r.length rc|1=>vx=.pointer (some ⟨p1,2,none⟩)|2=>vx=.string (mk c.fam)|3=>vx=.int .i64 Y|4=>vx=Ac.rwv Gx|5=>vx=.slice ra3 JR.length rc3|6=>vx=.pointer (some ⟨p1,2,none⟩)|7=>vx=.string (mk c.fam)|8=>vx=.int .i64 Y|9=>vx=Ac.rwv Gy|10=>(∃g,vx=.pointer (some ⟨g,0,none⟩)/\w5.heap.size<=g/\wx.heap[g]?=some (.cells #[.string ⟨#[]⟩,.bool false,.int .i64 0,.int .i64 0,.int .i64 0] 50 (0,0)))|11=>(∃g,vx=.pointer (some ⟨g,0,none⟩)/\w5.heap.size<=g/\wx.heap[g]?=some (.cells #[.string ⟨#[]⟩,.bool false,.int .i64 0,.int .i64 0,.int .i64 0] 50 (0,0)))|_=>True:Nat->Value->World->Prop) kz (vs kz) wz) (fun lst vs=>lst 10=true->lst 11=true->vs 10 ≠ vs 11) (fun kz=>[kz]) (by kernel_rfl) (fun jz vs iz vz wz hiz hz=>Ri.wI (F:=(fun kx vx wx=>match kx with|0=>vx=.slice ra r.length rc|1=>vx=.pointer (some ⟨p1,2,none⟩)|2=>vx=.string (mk c.fam)|3=>vx=.int .i64 Y|4=>vx=Ac.rwv Gx|5=>vx=.slice ra3 JR.length rc3|6=>vx=.pointer (some ⟨p1,2,none⟩)|7=>vx=.string (mk c.fam)|8=>vx=.int .i64 Y|9=>vx=Ac.rwv Gy|10=>(∃g,vx=.pointer (some ⟨g,0,none⟩)/\w5.heap.size<=g/\wx.heap[g]?=some (.cells #[.string ⟨#[]⟩,.bool false,.int .i64 0,.int .i64 0,.int .i64 0] 50 (0,0)))|11=>(∃g,vx=.pointer (some ⟨g,0,none⟩)/\w5.heap.size<=g/\wx.heap[g]?=some (.cells #[.string ⟨#[]⟩,.bool false,.int .i64 0,.int .i64 0,.int .i64 0] 50 (0,0)))|_=>True:Nat->Value->World->Prop)) jz vs iz vz wz hiz hz) HD.out ?_ ⟨⟨rfl,?_⟩,⟨rfl,?_⟩,⟨rfl,?_⟩,⟨rfl,?_⟩,⟨rfl,?_⟩,⟨rfl,?_⟩,⟨rfl,?_⟩,⟨rfl,?_⟩,⟨rfl,?_⟩,⟨rfl,?_⟩,⟨rfl,?_⟩,⟨rfl,?_⟩,trivial⟩ ?_
      ·intro vs hvs
       intro h1
       cases h1
      ·intro vs Wx A lst hA hB hls hX hno hpre K hK
       have e2:=(hA 2).trans (show _=Value.slice ra r.length rc by kernel_rfl)
       clear hA hpre
       go_simp
       first|exact hK _ _ hB (by trivial) (fun _ _ h=>h) hX|(rw [if_neg (by omega)];go_simp;exact hK _ _ hB rfl (fun _ _ h=>h) hX)
      ·intro vs Wx A lst hA hB hls hX hno hpre K hK
       have e5:=(hA 5).trans (show _=Value.pointer (some ⟨p1,0,none⟩) by kernel_rfl)
       clear hA hpre
       go_simp
       first|exact hK _ _ hB (by trivial) (fun _ _ h=>h) hX|(rw [if_neg (by omega)];go_simp;exact hK _ _ hB rfl (fun _ _ h=>h) hX)
      ·intro vs Wx A lst hA hB hls hX hno hpre K hK
       have e109:=((hA 109).trans (show _=vs 1 by kernel_rfl)).trans (by repeat first|exact hpre.1 rfl|replace hpre:=hpre.2)
       obtain ⟨y0,y1,y2,y3,y4,y5,y6⟩:=HYK.out Wx hB
       clear hA hpre
       go_simp
       first|exact hK _ _ hB (by trivial) (fun _ _ h=>h) hX|(rw [if_neg (by omega)];go_simp;exact hK _ _ hB rfl (fun _ _ h=>h) hX)
      ·intro vs Wx A lst hA hB hls hX hno hpre K hK
       have e15:=(hA 15).trans (show _=Value.int .i64 Y by kernel_rfl)
       clear hA hpre
       go_simp
       first|exact hK _ _ hB (by trivial) (fun _ _ h=>h) hX|(rw [if_neg (by omega)];go_simp;exact hK _ _ hB rfl (fun _ _ h=>h) hX)
      ·intro vs Wx A lst hA hB hls hX hno hpre K hK
       have e108:=((hA 108).trans (show _=vs 0 by kernel_rfl)).trans (by repeat first|exact hpre.1 rfl|replace hpre:=hpre.2)
       have e110:=((hA 110).trans (show _=vs 2 by kernel_rfl)).trans (by repeat first|exact hpre.1 rfl|replace hpre:=hpre.2)
       have e111:=((hA 111).trans (show _=vs 3 by kernel_rfl)).trans (by repeat first|exact hpre.1 rfl|replace hpre:=hpre.2)
       clear hA hpre
       go_simp
       go_at_call 16
       refine (HGx.out Wx (hpp.out Wx (jg HB35.out hB))).mono ?_
       rintro e w9 ⟨rfl,hg⟩
       refine hK _ _ (jg hB hg) rfl (fun jz hj hz=>?_) hX
       match jz,hj,hz with
       | 0,_,hz=>exact hz
       | 1,_,hz=>exact hz
       | 2,_,hz=>exact hz
       | 3,_,hz=>exact hz
       | 4,_,hz=>exact hz
       | 5,_,hz=>exact hz
       | 6,_,hz=>exact hz
       | 7,_,hz=>exact hz
       | 8,_,hz=>exact hz
       | 9,_,hz=>exact hz
       | 10,_,hz=>exact (hz.elim fun g h=>⟨g,h.1,h.2.1,tV h.2.2 hg⟩)
       | 11,_,hz=>exact (hz.elim fun g h=>⟨g,h.1,h.2.1,tV h.2.2 hg⟩)
       | n+12,_,hz=>exact hz
      ·intro vs Wx A lst hA hB hls hX hno hpre K hK
       have e10:=(hA 10).trans (show _=Value.slice ra3 JR.length rc3 by kernel_rfl)
       clear hA hpre
       go_simp
       first|exact hK _ _ hB (by trivial) (fun _ _ h=>h) hX|(rw [if_neg (by omega)];go_simp;exact hK _ _ hB rfl (fun _ _ h=>h) hX)
      ·intro vs Wx A lst hA hB hls hX hno hpre K hK
       have e5:=(hA 5).trans (show _=Value.pointer (some ⟨p1,0,none⟩) by kernel_rfl)
       clear hA hpre
       go_simp
       first|exact hK _ _ hB (by trivial) (fun _ _ h=>h) hX|(rw [if_neg (by omega)];go_simp;exact hK _ _ hB rfl (fun _ _ h=>h) hX)
      ·intro vs Wx A lst hA hB hls hX hno hpre K hK
       have e114:=((hA 114).trans (show _=vs 6 by kernel_rfl)).trans (by repeat first|exact hpre.1 rfl|replace hpre:=hpre.2)
       obtain ⟨y0,y1,y2,y3,y4,y5,y6⟩:=HYK.out Wx hB
       clear hA hpre
       go_simp
       first|exact hK _ _ hB (by trivial) (fun _ _ h=>h) hX|(rw [if_neg (by omega)];go_simp;exact hK _ _ hB rfl (fun _ _ h=>h) hX)
      ·intro vs Wx A lst hA hB hls hX hno hpre K hK
       have e15:=(hA 15).trans (show _=Value.int .i64 Y by kernel_rfl)
       clear hA hpre
       go_simp
       first|exact hK _ _ hB (by trivial) (fun _ _ h=>h) hX|(rw [if_neg (by omega)];go_simp;exact hK _ _ hB rfl (fun _ _ h=>h) hX)
      ·intro vs Wx A lst hA hB hls hX hno hpre K hK
       have e113:=((hA 113).trans (show _=vs 5 by kernel_rfl)).trans (by repeat first|exact hpre.1 rfl|replace hpre:=hpre.2)
       have e115:=((hA 115).trans (show _=vs 7 by kernel_rfl)).trans (by repeat first|exact hpre.1 rfl|replace hpre:=hpre.2)
       have e116:=((hA 116).trans (show _=vs 8 by kernel_rfl)).trans (by repeat first|exact hpre.1 rfl|replace hpre:=hpre.2)
       clear hA hpre
       go_simp
       go_at_call 16
       refine (HGy.out Wx (jg HB35.out hB)).mono ?_
       rintro e w9 ⟨rfl,hg⟩
       refine hK _ _ (jg hB hg) rfl (fun jz hj hz=>?_) hX
       match jz,hj,hz with
       | 0,_,hz=>exact hz
       | 1,_,hz=>exact hz
       | 2,_,hz=>exact hz
       | 3,_,hz=>exact hz
       | 4,_,hz=>exact hz
       | 5,_,hz=>exact hz
       | 6,_,hz=>exact hz
       | 7,_,hz=>exact hz
       | 8,_,hz=>exact hz
       | 9,_,hz=>exact hz
       | 10,_,hz=>exact (hz.elim fun g h=>⟨g,h.1,h.2.1,tV h.2.2 hg⟩)
       | 11,_,hz=>exact (hz.elim fun g h=>⟨g,h.1,h.2.1,tV h.2.2 hg⟩)
       | n+12,_,hz=>exact hz
      ·intro vs Wx A lst hA hB hls hX hno hpre K hK
       clear hA hpre
       go_simp
       refine hK _ _ (jg hB (iU Wx _)) ⟨_,rfl,hB.size,heap_alloc_new Wx _⟩ (fun jz hj hz=>?_) (fun _ hl e=>?_)
       ·match jz,hj,hz with
        | 0,_,hz=>exact hz
        | 1,_,hz=>exact hz
        | 2,_,hz=>exact hz
        | 3,_,hz=>exact hz
        | 4,_,hz=>exact hz
        | 5,_,hz=>exact hz
        | 6,_,hz=>exact hz
        | 7,_,hz=>exact hz
        | 8,_,hz=>exact hz
        | 9,_,hz=>exact hz
        | 10,hj,_=>exact absurd rfl hj
        | 11,_,hz=>exact (hz.elim fun g h=>⟨g,h.1,h.2.1,tV h.2.2 (iU Wx _)⟩)
        | n+12,_,hz=>exact hz
       ·obtain ⟨g,e1,-,h3⟩:=hls 11 hl
        have e2:Value.pointer (some ⟨Wx.heap.size,0,none⟩)=vs 11:=e
        rw [e1] at e2
        have e3:Wx.heap.size=g:=by simpa using e2
        have:=(Array.getElem?_eq_some_iff.1 h3).1
        omega
      ·intro vs Wx A lst hA hB hls hX hno hpre K hK
       clear hA hpre
       go_simp
       refine hK _ _ (jg hB (iU Wx _)) ⟨_,rfl,hB.size,heap_alloc_new Wx _⟩ (fun jz hj hz=>?_) (fun hl _ e=>?_)
       ·match jz,hj,hz with
        | 0,_,hz=>exact hz
        | 1,_,hz=>exact hz
        | 2,_,hz=>exact hz
        | 3,_,hz=>exact hz
        | 4,_,hz=>exact hz
        | 5,_,hz=>exact hz
        | 6,_,hz=>exact hz
        | 7,_,hz=>exact hz
        | 8,_,hz=>exact hz
        | 9,_,hz=>exact hz
        | 10,_,hz=>exact (hz.elim fun g h=>⟨g,h.1,h.2.1,tV h.2.2 (iU Wx _)⟩)
        | 11,hj,_=>exact absurd rfl hj
        | n+12,_,hz=>exact hz
       ·obtain ⟨g,e1,-,h3⟩:=hls 10 hl
        have e2:Value.pointer (some ⟨Wx.heap.size,0,none⟩)=vs 10:=e.symm
        rw [e1] at e2
        have e3:Wx.heap.size=g:=by simpa using e2
        have:=(Array.getElem?_eq_some_iff.1 h3).1
        omega
      ·intro vs Wx lst hall hX hB hF
       refine fun A12 hA K12 hK12=>?_
       have e18:=(hA 18).trans (show _=vs 10 by kernel_rfl)
       have e112:=((hA 112).trans (show _=vs 4 by kernel_rfl)).trans (hF 4 (by decide))
       clear hA
       obtain ⟨ga,ea,hga,hza⟩:=hF 10 (by decide)
       obtain ⟨gb,eb,hgb,hzb⟩:=hF 11 (by decide)
       have hne:ga ≠ gb:=fun e=>hX (hall 10 (by decide)) (hall 11 (by decide)) (by rw [ea,eb,e])
       rw [ea] at e18
       obtain ⟨m0,m1,m2,m3,m4⟩:=Ac.cells5 hza
       obtain ⟨f0,f1,f2,f3,f4⟩:=Ac.pO hza
       have HNA:=Lib.hid (Ac.BO (b0:=.string (mk Gx.who)) (b1:=.bool Gx.fam) (b2:=.int .i64 Gx.year) (b3:=.int .i64 Gx.de) (b4:=.int .i64 Gx.oo) hza)
       have HNB:=Lib.hid (Ac.JH (q:=ga) (a0:=.string (mk Gx.who)) (a1:=.bool Gx.fam) (a2:=.int .i64 Gx.year) (a3:=.int .i64 Gx.de) (a4:=.int .i64 Gx.oo) hzb (Ne.symm hne))
       have HBP:=Lib.hid (Ac.BN hB ga hga (.string (mk Gx.who)) (.bool Gx.fam) (.int .i64 Gx.year) (.int .i64 Gx.de) (.int .i64 Gx.oo))
       have HNE:=Lib.hid hne
       have HGB:=Lib.hid hgb
       have HEA:=Lib.hid (And.intro ea eb)
       clear hga hgb hza hzb hne
       go_simp
       refine hK12 undef _ ?_
       clear m0 m1 m2 m3 m4 f0 f1 f2 f3 f4 e18 e112
       refine fun A13 hA K13 hK13=>?_
       have e19:=(hA 19).trans (show _=vs 11 by kernel_rfl)
       have e117:=((hA 117).trans (show _=vs 9 by kernel_rfl)).trans (hF 9 (by decide))
       clear hA
       rw [eb] at e19
       generalize (((((Wx.setCell ⟨ga,0,none⟩ (.string (mk Gx.who))).setCell ⟨ga,1,none⟩ (.bool Gx.fam)).setCell ⟨ga,2,none⟩ (.int .i64 Gx.year)).setCell ⟨ga,3,none⟩ (.int .i64 Gx.de)).setCell ⟨ga,4,none⟩ (.int .i64 Gx.oo))=Wy at *
       obtain ⟨m0,m1,m2,m3,m4⟩:=Ac.cells5 HNB.out
       obtain ⟨f0,f1,f2,f3,f4⟩:=Ac.pO HNB.out
       have HMA:=Lib.hid (Ac.JH (q:=gb) (a0:=.string (mk Gy.who)) (a1:=.bool Gy.fam) (a2:=.int .i64 Gy.year) (a3:=.int .i64 Gy.de) (a4:=.int .i64 Gy.oo) HNA.out HNE.out)
       have HMB:=Lib.hid (Ac.BO (b0:=.string (mk Gy.who)) (b1:=.bool Gy.fam) (b2:=.int .i64 Gy.year) (b3:=.int .i64 Gy.de) (b4:=.int .i64 Gy.oo) HNB.out)
       have HBM:=Lib.hid (Ac.BN HBP.out gb HGB.out (.string (mk Gy.who)) (.bool Gy.fam) (.int .i64 Gy.year) (.int .i64 Gy.de) (.int .i64 Gy.oo))
       go_simp
       refine hK13 undef _ ?_
       clear m0 m1 m2 m3 m4 f0 f1 f2 f3 f4 e19 e117
       clear hB hX hall hF
       simp only [Ri.Tail,Ri.puts]
       go_simp
       go_wp2_with fail
       go_meet
       exact ⟨ga,gb,by first|exact HEA.out.1|(go_simp;exact HEA.out.1)|(simpa [Ri.upd] using HEA.out.1),by first|exact HEA.out.2|(go_simp;exact HEA.out.2)|(simpa [Ri.upd] using HEA.out.2),HMA.out,HMB.out,HBM.out⟩
     case rest =>
      obtain ⟨qx,qy,rfl,rfl,Hqx,Hqy,HBM⟩:=hcut
      clear HYK HD
      obtain ⟨w6,hw6⟩:∃z,z=wc:=⟨_,rfl⟩
      subst hw6
      have HB36:=Lib.hid (jg HB35.out HBM.out)
      have hqa:=tV Hqa.out HBM.out
      have hqb:=tV Hqb.out HBM.out
      obtain ⟨a0,a1,a2,a3,a4⟩:=Ac.cells5 hqa
      obtain ⟨b0,b1,b2,b3,b4⟩:=Ac.cells5 hqb
      obtain ⟨c0,c1,c2,c3,c4⟩:=Ac.cells5 Hqx.out
      obtain ⟨d0,d1,d2,d3,d4⟩:=Ac.cells5 Hqy.out
      have HB6:=Lib.hid (hpp.out w6 HB36.out)
      have HC:=Lib.hid fun W (hW:Below w6.heap.size w6 W)=>And.intro (Ac.cells5 (tV hqa hW)) (And.intro (Ac.cells5 (tV hqb hW)) (And.intro (Ac.cells5 (tV Hqx.out hW)) (Ac.cells5 (tV Hqy.out hW))))
      clear hqa hqb Hqa Hqb Hqx Hqy HBM HGx HGy
      obtain ⟨CB,hCB⟩:∃b,b=(decide (t.plan.mode=0) || (decide (Ga.de<=Gx.de) && decide (Ga.oo<=Gx.oo))):=⟨_,rfl⟩
      have HCB:=Lib.hid hCB
      clear hCB
      have z1:IntKind.i64.wrap (Gb.de - Ga.de)=DD:=by rw [s1,IntKind.wrap_i64];omega
      have z2:IntKind.i64.wrap (Gb.oo - Ga.oo)=MM:=by rw [s2,IntKind.wrap_i64];omega
      have z3:IntKind.i64.wrap (Gy.de - Gx.de)=DD:=by rw [s3,IntKind.wrap_i64];omega
      have z4:IntKind.i64.wrap (Gy.oo - Gx.oo)=MM:=by rw [s4,IntKind.wrap_i64];omega
      clear s1 s2 s3 s4 bd1 bd2 bd3 bd4
      go_upto_region 17 with fail
      go_cut [135] (fun s135 wx=>s135=.bool CB/\wx=w6)
      case first =>
       obtain ⟨⟨x0,x1,x2,x3,x4,x5,x6,x7⟩,-⟩:=HXK.out w6 HB36.out
       clear z1 z2 z3 z4 HW HWj HWn HC
       by_cases k0:t.plan.mode=0
       ·have q0:(t.plan.mode == 0)=true:=by simp [k0]
        have hC:CB=true:=by rw [HCB.out,decide_eq_true k0];rfl
        subst hC
        clear k0 HCB
        go_wp2
        go_meet
        exact ⟨by first|rfl|(go_simp;done),rfl⟩
       ·have q0:(t.plan.mode == 0)=false:=by simp [k0]
        by_cases k1:Ga.de<=Gx.de
        ·by_cases k2:Ga.oo<=Gx.oo
         ·have hC:CB=true:=by rw [HCB.out,decide_eq_true k1,decide_eq_true k2];simp
          subst hC
          clear k0 HCB
          go_wp2
          go_meet
          exact ⟨by first|rfl|(go_simp;done),rfl⟩
         ·have hC:CB=false:=by rw [HCB.out,decide_eq_false k0,decide_eq_false k2];simp
          subst hC
          clear k0 HCB
          go_wp2
          go_meet
          exact ⟨by first|rfl|(go_simp;done),rfl⟩
        ·have hC:CB=false:=by rw [HCB.out,decide_eq_false k0,decide_eq_false k1];simp
         subst hC
         clear k0 HCB
         go_wp2
         go_meet
         exact ⟨by first|rfl|(go_simp;done),rfl⟩
      case rest =>
       obtain ⟨rfl,hwc⟩:=hcut
       rw [hwc]
       clear hwc
       have qd:(DD == DD)=true:=by simp
       have qm:(MM == MM)=true:=by simp
       clear a0 a1 a2 a3 a4 b0 b1 b2 b3 b4 c0 c1 c2 c3 c4 d0 d1 d2 d3 d4
       cases CB with
       | false =>
        obtain ⟨⟨a0,a1,a2,a3,a4⟩,⟨b0,b1,b2,b3,b4⟩,⟨c0,c1,c2,c3,c4⟩,d0,d1,d2,d3,d4⟩:=HC.out w6 (Below.refl _ _)
        clear HC HWn HWj HCB
        go_wp2_with fail
        try (go_at_call 8)
        refine (HW.out w6 HB6.out).mono ?_
        rintro e w9 ⟨rfl,hb9⟩
        have HB9:=Lib.hid (jf hp HB6.out hb9)
        clear hb9
        go_wp2
        go_ret
        exact ⟨rfl,by first|exact HB9.out|(rw [hp];exact HB9.out)⟩
       | true =>
        obtain ⟨⟨x0,x1,x2,x3,x4,x5,x6,x7⟩,-⟩:=HXK.out w6 HB36.out
        have hwt:Kq t.plan JR=true:=HWn.out (by
         have h:=HCB.out.symm
         rw [Bool.or_eq_true,Bool.and_eq_true,decide_eq_true_eq,decide_eq_true_eq,decide_eq_true_eq] at h
         exact h)
        rw [hwt] at HWj
        clear hwt HCB HWn
        go_wp2_with fail
        try (go_at_call 15)
        refine (HWj.out w6 HB36.out).mono ?_
        rintro e w7 ⟨rfl,hb7⟩
        have HB7:=Lib.hid (jf hp HB6.out hb7)
        obtain ⟨⟨a0,a1,a2,a3,a4⟩,⟨b0,b1,b2,b3,b4⟩,⟨c0,c1,c2,c3,c4⟩,d0,d1,d2,d3,d4⟩:=HC.out w7 hb7
        clear HC HWj hb7 x0 x1 x2 x3 x4 x5 x6 x7 HXK
        go_wp2_with fail
        try (go_at_call 8)
        refine (HW.out w7 HB7.out).mono ?_
        rintro e w9 ⟨rfl,hb9⟩
        have HB9:=Lib.hid (jf hp HB7.out hb9)
        clear hb9
        go_wp2
        go_ret
        exact ⟨rfl,by first|exact HB9.out|(rw [hp];exact HB9.out)⟩
theorem laidOut:laidOutB Tryz.prog=true:=by kernel_rfl
set_option maxRecDepth 100000 in
theorem lifted (os:Os) (started:os.Started) (H:Type) (enc:TypeId × Value->H) :
  ReturnsInHanded {} Tryz.checked os 4 .any (fun w args=>(Rows.judgeLimitsSpec.pre enc Tryz.prog Tryz.f4 [] false w args/\laidMetH Tryz.prog uJ w)/\sizedMet enc Tryz.prog Tryz.f4 (OpenSpec.ofChange Rows.judgeLimitsSpec) false w args) (Rows.judgeLimitsSpec.post enc Tryz.prog Tryz.f4 false true false false):=by
 refine lift own started (by kernel_rfl) Tryz.func4
  (ChangeSpec.witness_shaped (enc:=enc) (C:=Tryz.checked) (os:=os) (X:=fun w _=>laidMetH Tryz.prog uJ w) false (World.laidAll Tryz.prog os uJ) #[.agg #[.int .i64 0,.int .i64 0,.int .i64 0,.int .i64 0,.int .i64 0,.slice none 0 0,.slice none 0 0,.slice none 0 0],.agg #[.string ByteArray.empty,.string ByteArray.empty,.string ByteArray.empty,.int .i64 0,.int .i64 0,.string ByteArray.empty,.slice none 0 0],.slice none 0 0,.slice none 0 0] 8 (World.laidAll_os _ _ _)
   (World.shaped_of_ZipB (by kernel_rfl) (by kernel_rfl)) (by kernel_rfl) (by kernel_rfl) (by kernel_rfl)
   (by rw [MakeChecks.laidMetH_plain _ _ _ (by kernel_rfl)];exact laidMet_laidAll _ (by kernel_rfl) (by kernel_rfl))) ?_
 intro W base args ds gs before hval0 hW hwt hT
 have hval:∀(j:Nat) t v,Tryz.f4.params[j]?=some t->args[j]?=some v->Value.okWide Tryz.prog W .any base t v:=hval0
 have hW':=hW
 obtain ⟨p,q,hA0,hV,rfl,hfz,hnd⟩:=hW
 have hA:DataW.TrodAll enc Tryz.prog W 0 (fun _=>true) true Tryz.f4.params.toList args.toList ds p:=hA0
 rw [Tryz.params4] at hA hval hwt
 obtain ⟨v0,vs0,d0,ds0,p0,q0,hargs,rfl,rfl,h0,r0⟩:=trodAll_cons hA
 obtain ⟨v1,vs1,d1,ds1,p1,q1,rfl,rfl,rfl,h1,r1⟩:=trodAll_cons r0
 obtain ⟨v2,vs2,d2,ds2,p2,q2,rfl,rfl,rfl,h2,r2⟩:=trodAll_cons r1
 obtain ⟨v3,vs3,d3,ds3,p3,q3,rfl,rfl,rfl,h3,r3⟩:=trodAll_cons r2
 obtain ⟨rfl,rfl,rfl⟩:=trodAll_nil r3
 obtain rfl:args=#[v0,v1,v2,v3]:=by cases args;simp_all
 obtain ⟨rfl,rfl⟩:=trodVars_none hV
 have hwl:∀z,(z ∈ d0.weights Tryz.prog 28->z<=reachBytes)/\(z ∈ d1.weights Tryz.prog 31->z<=reachBytes)/\(z ∈ d2.weights Tryz.prog 32->z<=reachBytes)/\(z ∈ d3.weights Tryz.prog 29->z<=reachBytes):=fun z=>by
  have h:=List.all_eq_true.1 hwt z
  simp only [decide_eq_true_eq] at h
  refine ⟨fun hz=>h ?_,fun hz=>h ?_,fun hz=>h ?_,fun hz=>h ?_⟩
  all_goals
   simp only [List.cons_append,List.nil_append,List.toList_toArray,List.append_nil,DataW.weightsEach,List.mem_append]
   simp [hz]
 have k0:=h0
 have lt0:∀x ∈ p0,x.block < W.heap.size:=by obtain ⟨m,hm⟩:=k0;exact DataW.trod_lt m _ _ _ hm
 obtain ⟨t0,m0,mf0,me0,rfl,g0,z0⟩:=Jo.zk (hval 0 28 v0 rfl rfl) h0 (fun z hz=>(hwl z).1 hz)
 have k1:=h1
 have lt1:∀x ∈ p1,x.block < W.heap.size:=by obtain ⟨m,hm⟩:=k1;exact DataW.trod_lt m _ _ _ hm
 obtain ⟨x1,m1,rfl,g1,z1⟩:=yU (hval 1 31 v1 rfl rfl) h1 (fun z hz=>(hwl z).2.1 hz)
 have k2:=h2
 have lt2:∀x ∈ p2,x.block < W.heap.size:=by obtain ⟨m,hm⟩:=k2;exact DataW.trod_lt m _ _ _ hm
 obtain ⟨l2,g2,z2⟩:=Ao.zf (okWide_slice Tryz.underlying32 (hval 2 32 v2 rfl rfl)) h2
 have k3:=h3
 have lt3:∀x ∈ p3,x.block < W.heap.size:=by obtain ⟨m,hm⟩:=k3;exact DataW.trod_lt m _ _ _ hm
 obtain ⟨l3,g3,n3,z3⟩:=Jo.y9 (okWide_slice Tryz.underlying29 (hval 3 29 v3 rfl rfl)) h3 (fun z hz=>(hwl z).2.2.2 hz)
 clear hA0 hval0
 refine (walk W t0 m0 mf0 me0 g0 z0 x1 m1 g1 z1 v2 l2 g2 z2 v3 l3 g3 n3 z3 hT).mono fun e W' ⟨he,bel⟩=>?_
 subst he
 exact ⟨_,rfl,_,_,_,[],_,[],hW',(trodAll_cons_mk (shut_bool Tryz.underlying4 _) trodAll_mk0),(trodAll_cons_mk (Below.trod laidOut (by kernel_rfl) (of_decide_eq_true (by kernel_rfl)) k0 bel lt0) (trodAll_cons_mk (Below.trod laidOut (by kernel_rfl) (of_decide_eq_true (by kernel_rfl)) k1 bel lt1) (trodAll_cons_mk (Below.trod laidOut (by kernel_rfl) (of_decide_eq_true (by kernel_rfl)) k2 bel lt2) (trodAll_cons_mk (Below.trod laidOut (by kernel_rfl) (of_decide_eq_true (by kernel_rfl)) k3 bel lt3) trodAll_mk0)))),rfl,bel.frame _,fun h=>by cases h⟩
theorem over:Rows.judgeLimitsRow.holds Tryz.pinned (OpenSpec.ofChange Rows.judgeLimitsSpec):=
 OpenClaim.holds_of_wide 4 Tryz.f4 rfl rfl rfl rfl rfl rfl rfl ⟨rfl,rfl,rfl,rfl,rfl⟩ rfl rfl rfl rfl rfl (by kernel_rfl) Tryz.func4 (by kernel_rfl)
  (of_decide_eq_true (by kernel_rfl)) (by unfold Func.isWrapper;first|(rw [if_pos (by decide +kernel)];kernel_rfl)|(rw [if_neg (by decide +kernel)];exact ⟨rfl,rfl⟩))
  (fun os started H enc _=>lifted os started H enc)
theorem proved:Rows.JudgeLimitsSaid:=over
end Go.Proofs.YtfbfeoplldjbpaaGreatDoor.judgeLimits
namespace Go.Proofs.YtfbfeoplldjbpaaGreatDoor
theorem judgeLimits_holds:Rows.JudgeLimitsCardSaid:=
 Claim7.holds_tied_plain_at .later [] [.data] true (true, "a7234eaa9ffd422425590d7ea42e97148f15fc950a71eabb14290e7ec31fcac2") false
  judgeLimits.proved (fun _ h=>by cases h) (by kernel_rfl) (fun _ h=>by cases h) judgeLimits_row_tie rfl ⟨rfl,rfl⟩ (by kernel_rfl) rfl
  (fun f fn hf hfn=>by
   obtain rfl:f=4:=Option.some.inj ((show Tryz.prog.funcNamed "leechbook/leechbooklaw17.JudgeLimits" = some 4 by kernel_rfl).symm.trans hf) |>.symm
   obtain rfl:fn=Tryz.f4:=(Option.some.inj (Tryz.func4.symm.trans hfn)).symm
   exact ⟨by kernel_rfl,fun j t ht=>by
    rw [Tryz.params4] at ht
    have hm:t ∈ [28,31,32,29]:=by simpa using Array.mem_of_getElem? ht
    have hall:([28,31,32,29].all fun u=>!Tryz.prog.wantsStandIn u)=true:=by kernel_rfl
    exact (show Tryz.prog.wantsStandIn t=false by simpa using List.all_eq_true.1 hall t hm)⟩)
  (by kernel_rfl)
#print axioms judgeLimits_holds
end Go.Proofs.YtfbfeoplldjbpaaGreatDoor
