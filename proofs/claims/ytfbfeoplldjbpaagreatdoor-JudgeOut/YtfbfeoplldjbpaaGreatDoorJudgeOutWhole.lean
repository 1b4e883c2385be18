/-
  The statement JudgeOut (17.5): a claim out of the network is never counted, and no deductible is borne; what stands in the rows plays no part for it: for all tables, claims, rows and services ahead; without a condition.
-/
import Derived.WalkKit
import Derived.ProofKit
import Derived.OpenShut
import Derived.ShutString
import Derived.Below
import Derived.Carry
import Derived.LaidMore
import Derived.Stop.Joined
import Derived.SevenTiedAt
import Derived.Deep.DeepCutAuto
import Derived.Deep.CutBlock
import Derived.Test.YtfbfeoplldjbpaaGreatDoorRows
import Derived.Test.YtfbfeoplldjbpaaGreatDoorMo42
import Derived.Test.YtfbfeoplldjbpaaGreatDoorMo43
import Derived.Test.YtfbfeoplldjbpaaGreatDoorMo47
import Derived.Test.YtfbfeoplldjbpaaGreatDoorMo44
import Derived.Test.YtfbfeoplldjbpaaGreatDoorMo46
import Derived.Test.YtfbfeoplldjbpaaGreatDoorTie
import Derived.Test.YtfbfeoplldjbpaaGreatDoorCards
namespace Go.Proofs.YtfbfeoplldjbpaaGreatDoor.judgeOut
open Go.ChangeShapes Go.WideShapes Go.ChangeAt Go.RowKit
open Cm (Ln Cl bH clv lnv bG aC uJ lift yU)
open Ju
open Ac (Row cu Own tV iU jg jf fK pU)
open Sh (Ot)
open Go.ChangeMaps (open_string)
set_option linter.unusedVariables false
set_option linter.unusedSimpArgs false
set_option maxRecDepth 100000
theorem own:ownKnob Tryz.prog.godebug=none:=by kernel_rfl
set_option maxHeartbeats 16000000 in
theorem walk (w:World) (t:Ju.Tb) (m mf me:Value) (hA:Ju.dF w m mf me t) (hz:Ju.dG t) (c:Cl) (ml:Value) (hL:bH All w ml c.lines) (hc:aC c) (vr:Value) (r:List Ac.Row) (hR:Ac.cu All w vr r) (hyr:∀x ∈ r,Ao.I64 x.year) (va:Value) (Ah:List Ln) (hV:bH All w va Ah) (hxl:Ah.length<=281474976710656) (hx:∀x ∈ Ah,bG x) (hT:Da.Tab w) :
  Calls Tryz.prog 6 #[.agg #[.int .i64 t.plan.mode,.int .i64 t.plan.indDed,.int .i64 t.plan.famDed,.int .i64 t.plan.indOop,.int .i64 t.plan.famOop,m,mf,me],clv c ml,vr,va] w fun e w'=>e=.returned (.bool true)/\Below w.heap.size w w':=by
 have HW:=Lib.hid fun W (hW:Below w.heap.size w W)=>IJ W (Cm.tab_below hT hW)
 obtain ⟨ma,mc,fa,fc,ea,ec,rfl,rfl,rfl⟩:=hA.form
 obtain ⟨la,lc,rfl,hl1,hl2⟩:=Cm.bH.form hL
 obtain ⟨ra,rc,rfl,hr1,hr2⟩:=hR.form
 obtain ⟨aa,ac,rfl,ha1,ha2⟩:=Cm.bH.form hV
 have HLi:=Lib.hid fun W (hW:Below w.heap.size w W)=>vH t c r Ah _ _ _ _ _ _ W (hA.grw hW) (Ex.wB hL hW) (hR.grw hW) (Ex.wB hV hW) hz hc hx hxl
 have HJu:Hid (LtP c r Ah->∀W,Below w.heap.size w W->Calls Tryz.prog 9 #[.agg #[.int .i64 t.plan.mode,.int .i64 t.plan.indDed,.int .i64 t.plan.famDed,.int .i64 t.plan.indOop,.int .i64 t.plan.famOop,.slice ma t.plan.rules.length mc,.slice fa t.fees.length fc,.slice ea t.edits.length ec],.agg #[.string (mk c.id),.string (mk c.mem),.string (mk c.fam),.int .i64 c.net,.int .i64 c.does,.string (mk c.ref),.slice la c.lines.length lc],.slice ra r.length rc,.slice aa Ah.length ac] W fun e w'=>JdV W.heap.size w' e (tC t c r Ah) (tH t c r Ah) (tJ t c r Ah)/\Below W.heap.size W w'):=fun h W hW=>tK t c r Ah _ _ _ _ _ _ W (hA.grw hW) (Ex.wB hL hW) (hR.grw hW) (Ex.wB hV hW) ⟨hz,hc,h.2.1.1,h.2.2.1,Nat.le_trans h.2.2.2 (by decide),Nat.le_trans h.2.1.2 (by decide)⟩ (Nat.le_trans h.1 (by decide)) (Cm.tab_below hT hW)
 have HLn:=Lib.hid fun W (hW:Below w.heap.size w W)=>Ex.wB hL hW
 have HRo:=Lib.hid fun W (hW:Below w.heap.size w W)=>hR.grw hW
 have HCO:=Lib.hid hc
 have HJn:Hid (LtP c r Ah->∀W,Below w.heap.size w W->Calls Tryz.prog 9 #[.agg #[.int .i64 t.plan.mode,.int .i64 t.plan.indDed,.int .i64 t.plan.famDed,.int .i64 t.plan.indOop,.int .i64 t.plan.famOop,.slice ma t.plan.rules.length mc,.slice fa t.fees.length fc,.slice ea t.edits.length ec],.agg #[.string (mk c.id),.string (mk c.mem),.string (mk c.fam),.int .i64 c.net,.int .i64 c.does,.string (mk c.ref),.slice la c.lines.length lc],.slice none 0 0,.slice aa Ah.length ac] W fun e w'=>JdV W.heap.size w' e (tC t c [] Ah) (tH t c [] Ah) (tJ t c [] Ah)/\Below W.heap.size W w'):=fun h W hW=>tK t c [] Ah _ _ _ _ _ _ W (hA.grw hW) (Ex.wB hL hW) (Ac.cu.nil _ _) (Ex.wB hV hW) ⟨hz,hc,h.2.1.1,h.2.2.1,Nat.le_trans h.2.2.2 (by decide),Nat.le_trans h.2.1.2 (by decide)⟩ (by simp) (Cm.tab_below hT hW)
 have HOut:Hid (c.net ≠ 0->tC t c r Ah=0->tC t c [] Ah=0/\tH t c [] Ah=tH t c r Ah/\tJ t c [] Ah=[]/\tJ t c r Ah=r/\∀o ∈ tH t c r Ah,o.de=0):=fun hn h=>Ku t c r Ah hn h
 have HOl:Hid (LtP c r Ah->(tH t c r Ah).length<=100000):=fun h=>by
  unfold tH
  split
  ·rw [Ef,sS]
   have:=h.2.1.2
   omega
  ·simp
 clear hA hL hR hV hz hx hT
 have hbx:Below w.heap.size w ((w.alloc (.cells #[.int .i64 t.plan.mode,.int .i64 t.plan.indDed,.int .i64 t.plan.famDed,.int .i64 t.plan.indOop,.int .i64 t.plan.famOop,.slice ma t.plan.rules.length mc,.slice fa t.fees.length fc,.slice ea t.edits.length ec] 28)).alloc (.cells #[.string (mk c.id),.string (mk c.mem),.string (mk c.fam),.int .i64 c.net,.int .i64 c.does,.string (mk c.ref),.slice la c.lines.length lc] 31)):=jg (iU _ _) (iU _ _)
 have hz1:=tV (fK w #[.int .i64 t.plan.mode,.int .i64 t.plan.indDed,.int .i64 t.plan.famDed,.int .i64 t.plan.indOop,.int .i64 t.plan.famOop,.slice ma t.plan.rules.length mc,.slice fa t.fees.length fc,.slice ea t.edits.length ec] 28) (iU _ (.cells #[.string (mk c.id),.string (mk c.mem),.string (mk c.fam),.int .i64 c.net,.int .i64 c.does,.string (mk c.ref),.slice la c.lines.length lc] 31))
 have hz2:=fK (w.alloc (.cells #[.int .i64 t.plan.mode,.int .i64 t.plan.indDed,.int .i64 t.plan.famDed,.int .i64 t.plan.indOop,.int .i64 t.plan.famOop,.slice ma t.plan.rules.length mc,.slice fa t.fees.length fc,.slice ea t.edits.length ec] 28)) #[.string (mk c.id),.string (mk c.mem),.string (mk c.fam),.int .i64 c.net,.int .i64 c.does,.string (mk c.ref),.slice la c.lines.length lc] 31
 rw [show (w.alloc (.cells #[.int .i64 t.plan.mode,.int .i64 t.plan.indDed,.int .i64 t.plan.famDed,.int .i64 t.plan.indOop,.int .i64 t.plan.famOop,.slice ma t.plan.rules.length mc,.slice fa t.fees.length fc,.slice ea t.edits.length ec] 28)).heap.size=w.heap.size+1 by simp] at hz2
 have HX:=Lib.hid hz1
 have HY:=Lib.hid hz2
 have HB0:=Lib.hid hbx
 clear hbx hz1 hz2 hc
 go_enter Tryz.func6,Tryz.ntmps6
 go_upto_region 1 with fail
 generalize ((w.alloc (.cells #[.int .i64 t.plan.mode,.int .i64 t.plan.indDed,.int .i64 t.plan.famDed,.int .i64 t.plan.indOop,.int .i64 t.plan.famOop,.slice ma t.plan.rules.length mc,.slice fa t.fees.length fc,.slice ea t.edits.length ec] 28)).alloc (.cells #[.string (mk c.id),.string (mk c.mem),.string (mk c.fam),.int .i64 c.net,.int .i64 c.does,.string (mk c.ref),.slice la c.lines.length lc] 31))=W at *
 generalize hp:w.heap.size=p at *
 obtain ⟨p1,hp1⟩:∃u,u=p+1:=⟨_,rfl⟩
 rw [←hp1] at HY ⊢
 clear hp1
 obtain ⟨x0,x1,x2,x3,x4,x5,x6,x7⟩:=Pl.iR HX.out
 obtain ⟨y0,y1,y2,y3,y4,y5,y6⟩:=jT HY.out
 go_wp2_with fail
 try (go_at_call 7)
 refine (HLi.out W HB0.out).mono ?_
 rintro e w1 ⟨⟨n1,rfl,hn1⟩,hb1⟩
 have HB1:=Lib.hid (jf hp HB0.out hb1)
 have HX1:=Lib.hid (tV HX.out hb1)
 have HY1:=Lib.hid (tV HY.out hb1)
 clear hb1 HX HY HB0 HLi x0 x1 x2 x3 x4 x5 x6 x7 y0 y1 y2 y3 y4 y5 y6
 obtain ⟨x0,x1,x2,x3,x4,x5,x6,x7⟩:=Pl.iR HX1.out
 obtain ⟨y0,y1,y2,y3,y4,y5,y6⟩:=jT HY1.out
 by_cases g1:(0:Int) < n1
 ·go_wp2_with fail
  try (go_at_call 8)
  refine (HW.out w1 HB1.out).mono ?_
  rintro e w9 ⟨rfl,hb9⟩
  have HB9:=Lib.hid (jf hp HB1.out hb9)
  clear hb9
  go_wp2
  go_ret
  exact ⟨rfl,by first|exact HB9.out|(rw [hp];exact HB9.out)⟩
 have HLt:=Lib.hid (hn1 (by omega))
 have hrl:r.length<=100:=HLt.out.1
 have HJ:=Lib.hid (HJu.out HLt.out)
 have HJ2:=Lib.hid (HJn.out HLt.out)
 have hol:=HOl.out HLt.out
 clear HJu HJn hn1 HOl HLt
 by_cases g2:c.net=0
 case pos =>
  have q2:(c.net == 0)=true:=by simp [g2]
  clear g2
  go_wp2_with fail
  try (go_at_call 8)
  refine (HW.out w1 HB1.out).mono ?_
  rintro e w9 ⟨rfl,hb9⟩
  have HB9:=Lib.hid (jf hp HB1.out hb9)
  clear hb9
  go_wp2
  go_ret
  exact ⟨rfl,by first|exact HB9.out|(rw [hp];exact HB9.out)⟩
 case neg =>
  have q2:(c.net == 0)=false:=by simp [g2]
  have HM:=Lib.hid (HOut.out g2)
  clear g2 HOut
  go_wp2_with fail
  try (go_at_call 9)
  refine (HJ.out w1 HB1.out).mono ?_
  rintro e w2 ⟨⟨vo2,vr2,rfl,ho2,hr2⟩,hb2⟩
  have HB2:=Lib.hid (jf hp HB1.out hb2)
  have HX2:=Lib.hid (tV HX1.out hb2)
  have HY2:=Lib.hid (tV HY1.out hb2)
  have HO2:=Lib.hid (zK (K:=All) ho2 fun _ _=>trivial)
  have HR2:=Lib.hid (Ac.Eo (K:=All) hr2 fun _ _=>trivial)
  obtain ⟨oa2,oc2,rfl,ol2,om2⟩:=Ad ho2
  obtain ⟨ra2,rc2,rfl,rl2,rm2⟩:=Ac.Am hr2
  clear ho2 hr2 hb2 x0 x1 x2 x3 x4 x5 x6 x7 y0 y1 y2 y3 y4 y5 y6 HJ HX1 HY1 HB1
  obtain ⟨x0,x1,x2,x3,x4,x5,x6,x7⟩:=Pl.iR HX2.out
  obtain ⟨y0,y1,y2,y3,y4,y5,y6⟩:=jT HY2.out
  generalize tC t c r Ah=JE at *
  generalize tJ t c r Ah=JR at *
  generalize tH t c r Ah=JO at *
  by_cases e1:JE=0
  case neg =>
   have q1:(JE != 0)=true:=by simp [e1]
   clear e1 HM HJ2
   go_wp2_with fail
   try (go_at_call 8)
   refine (HW.out w2 HB2.out).mono ?_
   rintro e w9 ⟨rfl,hb9⟩
   have HB9:=Lib.hid (jf hp HB2.out hb9)
   clear hb9
   go_wp2
   go_ret
   exact ⟨rfl,by first|exact HB9.out|(rw [hp];exact HB9.out)⟩
  case pos =>
   subst e1
   obtain ⟨m1,m2,m3,m4,m5⟩:=HM.out rfl
   rw [m1,m2,m3] at HJ2
   subst m4
   have HAll:=Lib.hid m5
   clear HM m1 m2 m3 m5
   go_wp2_with fail
   try (go_at_call 9)
   refine (HJ2.out w2 HB2.out).mono ?_
   rintro e w3 ⟨⟨vo3,vr3,rfl,ho3,hr3⟩,hb3⟩
   have HB3:=Lib.hid (jf hp HB2.out hb3)
   have HO3:=Lib.hid (zK (K:=All) ho3 fun _ _=>trivial)
   have HO2':=Lib.hid (HO2.out.grw hb3)
   have HR2':=Lib.hid (HR2.out.grw hb3)
   obtain ⟨oa3,oc3,rfl,-,-⟩:=Ad ho3
   obtain ⟨ra3,rc3,hv3,-,-⟩:=Ac.Am hr3
   have hv4:vr3=.slice ra3 0 rc3:=hv3
   subst hv4
   clear hv3 ho3 hr3 hb3 HJ2 HO2 HR2 HX2 HY2 HB2 x0 x1 x2 x3 x4 x5 x6 x7 y0 y1 y2 y3 y4 y5 y6
   go_wp2_with fail
   try (go_at_call 11)
   refine (zJ JO _ _ w3 HO2'.out HO3.out hol).mono ?_
   rintro e w4 ⟨rfl,hb4⟩
   have HB4:=Lib.hid (jf hp HB3.out hb4)
   have HO4:=Lib.hid (HO2'.out.grw hb4)
   have HR4:=Lib.hid (HR2'.out.grw hb4)
   clear hb4 HO3 HO2' HR2' HB3
   go_wp2_with fail
   try (go_at_call 12)
   refine (Ac.same_eq JR _ _ w4 HR4.out (HRo.out w4 HB4.out) (by omega)).mono ?_
   rintro e w5 ⟨rfl,hb5⟩
   have HB5:=Lib.hid (jf hp HB4.out hb5)
   have HO5:=Lib.hid (HO4.out.grw hb5)
   clear hb5 HO4 HR4 HB4
   go_wp2
   go_loopg [15] (JO.length) (fun g i wr=>∃k:Nat,k<=JO.length/\g=JO.length - k/\i=.int .i64 (k:Nat)/\Hid (Below p w wr)/\Hid (Below w5.heap.size w5 wr))
   case atStart=>exact ⟨0,Nat.zero_le _,rfl,rfl,HB5.out,Below.refl _ _⟩
   case round =>
    obtain ⟨k,hk,hgk,rfl,HB,HBr⟩:=hrel
    by_cases hlt:k < JO.length
    ·have hltz:(k:Int) < (JO.length:Int):=by omega
     obtain ⟨ob,oo,rfl,hobl,hox,hoc⟩:=bJ.get (HO5.out.grw HBr.out) k hlt
     have hz0:=HAll.out _ (List.getElem_mem hlt)
     generalize JO[k]=o at *
     unfold bI at hoc
     obtain ⟨o0,o1,o2,o3,o4,o5,o6,o7⟩:=hoc
     have q4:(o.de != 0)=false:=by simp [hz0]
     clear hz0 hox
     go_wp2
     go_roundg (JO.length - (k+1))
     case measure=>omega
     case rel=>exact ⟨k+1,by omega,rfl,by first|rfl|go_num|(congr 1;omega),HB.out,HBr.out⟩
    ·have hltz:¬ (k:Int) < (JO.length:Int):=by omega
     go_wp2_with fail
     try (go_at_call 8)
     refine (HW.out wr HB.out).mono ?_
     rintro e w9 ⟨rfl,hb9⟩
     have HB9:=Lib.hid (jf hp HB.out hb9)
     clear hb9
     go_wp2
     go_ret
     exact ⟨rfl,by first|exact HB9.out|(rw [hp];exact HB9.out)⟩
theorem laidOut:laidOutB Tryz.prog=true:=by kernel_rfl
set_option maxRecDepth 100000 in
theorem lifted (os:Os) (started:os.Started) (H:Type) (enc:TypeId × Value->H) :
  ReturnsInHanded {} Tryz.checked os 6 .any (fun w args=>(Rows.judgeOutSpec.pre enc Tryz.prog Tryz.f6 [] false w args/\laidMetH Tryz.prog uJ w)/\sizedMet enc Tryz.prog Tryz.f6 (OpenSpec.ofChange Rows.judgeOutSpec) false w args) (Rows.judgeOutSpec.post enc Tryz.prog Tryz.f6 false true false false):=by
 refine lift own started (by kernel_rfl) Tryz.func6
  (ChangeSpec.witness_shaped (enc:=enc) (C:=Tryz.checked) (os:=os) (X:=fun w _=>laidMetH Tryz.prog uJ w) false (World.laidAll Tryz.prog os uJ) #[.agg #[.int .i64 0,.int .i64 0,.int .i64 0,.int .i64 0,.int .i64 0,.slice none 0 0,.slice none 0 0,.slice none 0 0],.agg #[.string ByteArray.empty,.string ByteArray.empty,.string ByteArray.empty,.int .i64 0,.int .i64 0,.string ByteArray.empty,.slice none 0 0],.slice none 0 0,.slice none 0 0] 8 (World.laidAll_os _ _ _)
   (World.shaped_of_ZipB (by kernel_rfl) (by kernel_rfl)) (by kernel_rfl) (by kernel_rfl) (by kernel_rfl)
   (by rw [MakeChecks.laidMetH_plain _ _ _ (by kernel_rfl)];exact laidMet_laidAll _ (by kernel_rfl) (by kernel_rfl))) ?_
 intro W base args ds gs before hval0 hW hwt hT
 have hval:∀(j:Nat) t v,Tryz.f6.params[j]?=some t->args[j]?=some v->Value.okWide Tryz.prog W .any base t v:=hval0
 have hW':=hW
 obtain ⟨p,q,hA0,hV,rfl,hfz,hnd⟩:=hW
 have hA:DataW.TrodAll enc Tryz.prog W 0 (fun _=>true) true Tryz.f6.params.toList args.toList ds p:=hA0
 rw [Tryz.params6] at hA hval hwt
 obtain ⟨v0,vs0,d0,ds0,p0,q0,hargs,rfl,rfl,h0,r0⟩:=trodAll_cons hA
 obtain ⟨v1,vs1,d1,ds1,p1,q1,rfl,rfl,rfl,h1,r1⟩:=trodAll_cons r0
 obtain ⟨v2,vs2,d2,ds2,p2,q2,rfl,rfl,rfl,h2,r2⟩:=trodAll_cons r1
 obtain ⟨v3,vs3,d3,ds3,p3,q3,rfl,rfl,rfl,h3,r3⟩:=trodAll_cons r2
 obtain ⟨rfl,rfl,rfl⟩:=trodAll_nil r3
 obtain rfl:args=#[v0,v1,v2,v3]:=by cases args;simp_all
 obtain ⟨rfl,rfl⟩:=trodVars_none hV
 have hwl:∀z,(z ∈ d0.weights Tryz.prog 28->z<=reachBytes)/\(z ∈ d1.weights Tryz.prog 31->z<=reachBytes)/\(z ∈ d2.weights Tryz.prog 32->z<=reachBytes)/\(z ∈ d3.weights Tryz.prog 29->z<=reachBytes):=fun z=>by
  have h:=List.all_eq_true.1 hwt z
  simp only [decide_eq_true_eq] at h
  refine ⟨fun hz=>h ?_,fun hz=>h ?_,fun hz=>h ?_,fun hz=>h ?_⟩
  all_goals
   simp only [List.cons_append,List.nil_append,List.toList_toArray,List.append_nil,DataW.weightsEach,List.mem_append]
   simp [hz]
 have k0:=h0
 have lt0:∀x ∈ p0,x.block < W.heap.size:=by obtain ⟨m,hm⟩:=k0;exact DataW.trod_lt m _ _ _ hm
 obtain ⟨t0,m0,mf0,me0,rfl,g0,z0⟩:=Jo.zk (hval 0 28 v0 rfl rfl) h0 (fun z hz=>(hwl z).1 hz)
 have k1:=h1
 have lt1:∀x ∈ p1,x.block < W.heap.size:=by obtain ⟨m,hm⟩:=k1;exact DataW.trod_lt m _ _ _ hm
 obtain ⟨x1,m1,rfl,g1,z1⟩:=yU (hval 1 31 v1 rfl rfl) h1 (fun z hz=>(hwl z).2.1 hz)
 have k2:=h2
 have lt2:∀x ∈ p2,x.block < W.heap.size:=by obtain ⟨m,hm⟩:=k2;exact DataW.trod_lt m _ _ _ hm
 obtain ⟨l2,g2,z2⟩:=Ao.zf (okWide_slice Tryz.underlying32 (hval 2 32 v2 rfl rfl)) h2
 have k3:=h3
 have lt3:∀x ∈ p3,x.block < W.heap.size:=by obtain ⟨m,hm⟩:=k3;exact DataW.trod_lt m _ _ _ hm
 obtain ⟨l3,g3,n3,z3⟩:=Jo.y9 (okWide_slice Tryz.underlying29 (hval 3 29 v3 rfl rfl)) h3 (fun z hz=>(hwl z).2.2.2 hz)
 clear hA0 hval0
 refine (walk W t0 m0 mf0 me0 g0 z0 x1 m1 g1 z1 v2 l2 g2 z2 v3 l3 g3 n3 z3 hT).mono fun e W' ⟨he,bel⟩=>?_
 subst he
 exact ⟨_,rfl,_,_,_,[],_,[],hW',(trodAll_cons_mk (shut_bool Tryz.underlying4 _) trodAll_mk0),(trodAll_cons_mk (Below.trod laidOut (by kernel_rfl) (of_decide_eq_true (by kernel_rfl)) k0 bel lt0) (trodAll_cons_mk (Below.trod laidOut (by kernel_rfl) (of_decide_eq_true (by kernel_rfl)) k1 bel lt1) (trodAll_cons_mk (Below.trod laidOut (by kernel_rfl) (of_decide_eq_true (by kernel_rfl)) k2 bel lt2) (trodAll_cons_mk (Below.trod laidOut (by kernel_rfl) (of_decide_eq_true (by kernel_rfl)) k3 bel lt3) trodAll_mk0)))),rfl,bel.frame _,fun h=>by cases h⟩
theorem over:Rows.judgeOutRow.holds Tryz.pinned (OpenSpec.ofChange Rows.judgeOutSpec):=
 OpenClaim.holds_of_wide 6 Tryz.f6 rfl rfl rfl rfl rfl rfl rfl ⟨rfl,rfl,rfl,rfl,rfl⟩ rfl rfl rfl rfl rfl (by kernel_rfl) Tryz.func6 (by kernel_rfl)
  (of_decide_eq_true (by kernel_rfl)) (by unfold Func.isWrapper;first|(rw [if_pos (by decide +kernel)];kernel_rfl)|(rw [if_neg (by decide +kernel)];exact ⟨rfl,rfl⟩))
  (fun os started H enc _=>lifted os started H enc)
theorem proved:Rows.JudgeOutSaid:=over
end Go.Proofs.YtfbfeoplldjbpaaGreatDoor.judgeOut
namespace Go.Proofs.YtfbfeoplldjbpaaGreatDoor
theorem judgeOut_holds:Rows.JudgeOutCardSaid:=
 Claim7.holds_tied_plain_at .later [] [.data] true (true, "a7234eaa9ffd422425590d7ea42e97148f15fc950a71eabb14290e7ec31fcac2") false
  judgeOut.proved (fun _ h=>by cases h) (by kernel_rfl) (fun _ h=>by cases h) judgeOut_row_tie rfl ⟨rfl,rfl⟩ (by kernel_rfl) rfl
  (fun f fn hf hfn=>by
   obtain rfl:f=6:=Option.some.inj ((show Tryz.prog.funcNamed "leechbook/leechbooklaw17.JudgeOut" = some 6 by kernel_rfl).symm.trans hf) |>.symm
   obtain rfl:fn=Tryz.f6:=(Option.some.inj (Tryz.func6.symm.trans hfn)).symm
   exact ⟨by kernel_rfl,fun j t ht=>by
    rw [Tryz.params6] at ht
    have hm:t ∈ [28,31,32,29]:=by simpa using Array.mem_of_getElem? ht
    have hall:([28,31,32,29].all fun u=>!Tryz.prog.wantsStandIn u)=true:=by kernel_rfl
    exact (show Tryz.prog.wantsStandIn t=false by simpa using List.all_eq_true.1 hall t hm)⟩)
  (by kernel_rfl)
#print axioms judgeOut_holds
end Go.Proofs.YtfbfeoplldjbpaaGreatDoor
