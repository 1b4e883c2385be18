/-
  The statement JudgeDoes (17.1 to 17.4): what becomes of any claim, by any tables, in any rows, behind any services, is what the chapter says: for all tables, claims, rows and services ahead; without a condition.
-/
import Derived.SevenTiedAt
import Derived.Test.YtfbfeoplldjbpaaGreatDoorMd49
import Derived.Test.YtfbfeoplldjbpaaGreatDoorMd51
import Derived.Test.YtfbfeoplldjbpaaGreatDoorTie
import Derived.Test.YtfbfeoplldjbpaaGreatDoorCards
namespace Go.Proofs.YtfbfeoplldjbpaaGreatDoor.judgeDoes
open Go.ChangeShapes Go.WideShapes Go.ChangeAt Go.RowKit
open Cm (Ln Cl bH clv lnv bG aC uJ lift yU)
open Ju
open Ac (Row cu Own tV iU jg jf fK pU)
open Sh (Ot)
open Go.ChangeMaps (open_string)
set_option linter.unusedVariables false
set_option linter.unusedSimpArgs false
set_option maxRecDepth 100000
theorem own:ownKnob Tryz.prog.godebug=none:=by kernel_rfl
set_option maxHeartbeats 16000000 in
theorem walk (w:World) (t:Ju.Tb) (m mf me:Value) (hA:Ju.dF w m mf me t) (hz:Ju.dG t) (c:Cl) (ml:Value) (hL:bH All w ml c.lines) (hc:aC c) (vr:Value) (r:List Ac.Row) (hR:Ac.cu All w vr r) (hyr:∀x ∈ r,Ao.I64 x.year) (va:Value) (Ah:List Ln) (hV:bH All w va Ah) (hxl:Ah.length<=281474976710656) (hx:∀x ∈ Ah,bG x) (hT:Da.Tab w) :
  Calls Tryz.prog 3 #[.agg #[iI t.plan.mode,iI t.plan.Ay,iI t.plan.AR,iI t.plan.Bb,iI t.plan.AJ,m,mf,me],clv c ml,vr,va] w fun e w'=>e=.returned (.bool true)/\Below w.heap.size w w':=by
 have HW:=zZ fun W (hW:Below w.heap.size w W)=>IJ W (Cm.gP hT hW);obtain ⟨ma,mc,fa,fc,ea,ec,rfl,rfl,rfl⟩:=hA.form;obtain ⟨la,lc,rfl,hl1,hl2⟩:=Cm.bH.form hL;obtain ⟨ra,rc,rfl,hr1,hr2⟩:=hR.form;obtain ⟨aa,ac,rfl,ha1,ha2⟩:=Cm.bH.form hV;have HLi:=zZ fun W (hW:Below w.heap.size w W)=>vH t c r Ah _ _ _ _ _ _ W (hA.Bu hW) (Ex.wB hL hW) (hR.Bu hW) (Ex.wB hV hW) hz hc hx hxl;have HJu:Hid (LtP c r Ah->∀W,Below w.heap.size w W->Calls Tryz.prog 9 #[.agg #[iI t.plan.mode,iI t.plan.Ay,iI t.plan.AR,iI t.plan.Bb,iI t.plan.AJ,.slice ma t.plan.rules.length mc,.slice fa t.Bp.length fc,.slice ea t.edits.length ec],.agg #[sS c.id,sS c.mem,sS c.Br,iI c.net,iI c.does,sS c.ref,.slice la c.lines.length lc],.slice ra r.length rc,.slice aa Ah.length ac] W fun e w'=>JdV W.heap.size w' e (tC t c r Ah) (tH t c r Ah) (tJ t c r Ah)/\Below W.heap.size W w'):=fun h W hW=>tK t c r Ah _ _ _ _ _ _ W (hA.Bu hW) (Ex.wB hL hW) (hR.Bu hW) (Ex.wB hV hW) ⟨hz,hc,h.2.1.1,h.2.2.1,Nat.le_trans h.2.2.2 (by decide),Nat.le_trans h.2.1.2 (by decide)⟩ (Nat.le_trans h.1 (by decide)) (Cm.gP hT hW);have HLn:=zZ fun W (hW:Below w.heap.size w W)=>Ex.wB hL hW;have HRo:=zZ fun W (hW:Below w.heap.size w W)=>hR.Bu hW;have HCO:=zZ hc;have HJr:Hid (LtP c r Ah->∀W,Below w.heap.size w W->Calls Tryz.prog 10 #[.agg #[iI t.plan.mode,iI t.plan.Ay,iI t.plan.AR,iI t.plan.Bb,iI t.plan.AJ,.slice ma t.plan.rules.length mc,.slice fa t.Bp.length fc,.slice ea t.edits.length ec],.agg #[sS c.id,sS c.mem,sS c.Br,iI c.net,iI c.does,sS c.ref,.slice la c.lines.length lc],.slice ra r.length rc,.slice aa Ah.length ac] W fun e w'=>(∃vo v,e=.returned (.tuple #[vo,v,iI (tC t c r Ah)])/\bJ All w' vo (tH t c r Ah)/\cu All w' v (tJ t c r Ah))/\Below W.heap.size W w'):=fun h W hW=>Ob t c r Ah _ _ _ _ _ _ W (hA.Bu hW) (Ex.wB hL hW) (hR.Bu hW) (Ex.wB hV hW) ⟨hz,hc,h.2.1.1,h.2.2.1,Nat.le_trans h.2.2.2 (by decide),Nat.le_trans h.2.1.2 (by decide)⟩ (Nat.le_trans h.1 (by decide));have HC1:=zZ fun W (hW:Below w.heap.size w W)=>bL t _ _ _ W (hA.Bu hW) hz (Cm.gP hT hW);have HC2:=zZ fun W (hW:Below w.heap.size w W)=>Nv t _ _ _ W (hA.Bu hW) hz;have HOl:Hid (LtP c r Ah->(tH t c r Ah).length<=100000/\(tJ t c r Ah).length<=100000):=fun h=>by
  unfold tH tJ;split
  ·rw [Ef,qzB];have h1:=D8 (Bw t c) (its t c Ah) r;rw [qzB] at h1;have:=h.1;have:=h.2.1.2;omega
  ·simp
 clear hA hL hR hV hz hx hT;have hbx:Below w.heap.size w ((w.alloc (.cells #[iI t.plan.mode,iI t.plan.Ay,iI t.plan.AR,iI t.plan.Bb,iI t.plan.AJ,.slice ma t.plan.rules.length mc,.slice fa t.Bp.length fc,.slice ea t.edits.length ec] 28)).alloc (.cells #[sS c.id,sS c.mem,sS c.Br,iI c.net,iI c.does,sS c.ref,.slice la c.lines.length lc] 31)):=jg (iU _ _) (iU _ _);have hz1:=tV (fK w #[iI t.plan.mode,iI t.plan.Ay,iI t.plan.AR,iI t.plan.Bb,iI t.plan.AJ,.slice ma t.plan.rules.length mc,.slice fa t.Bp.length fc,.slice ea t.edits.length ec] 28) (iU _ (.cells #[sS c.id,sS c.mem,sS c.Br,iI c.net,iI c.does,sS c.ref,.slice la c.lines.length lc] 31));have hz2:=fK (w.alloc (.cells #[iI t.plan.mode,iI t.plan.Ay,iI t.plan.AR,iI t.plan.Bb,iI t.plan.AJ,.slice ma t.plan.rules.length mc,.slice fa t.Bp.length fc,.slice ea t.edits.length ec] 28)) #[sS c.id,sS c.mem,sS c.Br,iI c.net,iI c.does,sS c.ref,.slice la c.lines.length lc] 31;rw [show (w.alloc (.cells #[iI t.plan.mode,iI t.plan.Ay,iI t.plan.AR,iI t.plan.Bb,iI t.plan.AJ,.slice ma t.plan.rules.length mc,.slice fa t.Bp.length fc,.slice ea t.edits.length ec] 28)).heap.size=w.heap.size+1 by simp] at hz2;have HX:=zZ hz1;have HY:=zZ hz2;have HB0:=zZ hbx;clear hbx hz1 hz2 hc;go_enter Tryz.func3,Tryz.ntmps3
 go_upto_region 1 with fail
 generalize ((w.alloc (.cells #[iI t.plan.mode,iI t.plan.Ay,iI t.plan.AR,iI t.plan.Bb,iI t.plan.AJ,.slice ma t.plan.rules.length mc,.slice fa t.Bp.length fc,.slice ea t.edits.length ec] 28)).alloc (.cells #[sS c.id,sS c.mem,sS c.Br,iI c.net,iI c.does,sS c.ref,.slice la c.lines.length lc] 31))=W at *;generalize hp:w.heap.size=p at *;obtain ⟨p1,hp1⟩:∃u,u=p+1:=⟨_,rfl⟩;rw [←hp1] at HY ⊢;clear hp1;obtain ⟨x0,x1,x2,x3,x4,x5,x6,x7⟩:=Pl.iR HX.out;obtain ⟨y0,y1,y2,y3,y4,y5,y6⟩:=jT HY.out;go_wp2_with fail
 try (go_at_call 7)
 refine (HLi.out W HB0.out).mono ?_;rintro e w1 ⟨⟨n1,rfl,hn1⟩,hb1⟩;have HB1:=zZ (jf hp HB0.out hb1);have Cz:=zZ (tV HX.out hb1);have HY1:=zZ (tV HY.out hb1);clear hb1 HX HY HB0 HLi x0 x1 x2 x3 x4 x5 x6 x7 y0 y1 y2 y3 y4 y5 y6;obtain ⟨x0,x1,x2,x3,x4,x5,x6,x7⟩:=Pl.iR Cz.out;obtain ⟨y0,y1,y2,y3,y4,y5,y6⟩:=jT HY1.out;by_cases g1:(0:Int) < n1
 ·go_wp2_with fail
  try (go_at_call 8)
  refine (HW.out w1 HB1.out).mono ?_;rintro e w9 ⟨rfl,hb9⟩;have HB9:=zZ (jf hp HB1.out hb9);clear hb9;go_wp2;go_ret;exact ⟨rfl,by first|exact HB9.out|(rw [hp];exact HB9.out)⟩
 have HLt:=zZ (hn1 (by omega));have HJ:=zZ (HJu.out HLt.out);have HJ2:=zZ (HJr.out HLt.out);obtain ⟨hol,hrw⟩:=HOl.out HLt.out;clear HJu HJr hn1 HOl HLt;go_wp2_with fail
 try (go_at_call 9)
 refine (HJ.out w1 HB1.out).mono ?_;rintro e w2 ⟨⟨vo2,vr2,rfl,ho2,hr2⟩,hb2⟩;have HB2:=zZ (jf hp HB1.out hb2);have HX2:=zZ (tV Cz.out hb2);have HY2:=zZ (tV HY1.out hb2);have HO2:=zZ (zK (K:=All) ho2 fun _ _=>trivial);have HR2:=zZ (Ac.Eo (K:=All) hr2 fun _ _=>trivial);obtain ⟨oa2,oc2,rfl,ol2,om2⟩:=Ad ho2;obtain ⟨ra2,rc2,rfl,rl2,rm2⟩:=Ac.Am hr2;clear ho2 hr2 hb2 x0 x1 x2 x3 x4 x5 x6 x7 y0 y1 y2 y3 y4 y5 y6 HJ Cz HY1 HB1;obtain ⟨x0,x1,x2,x3,x4,x5,x6,x7⟩:=Pl.iR HX2.out;obtain ⟨y0,y1,y2,y3,y4,y5,y6⟩:=jT HY2.out;go_wp2_with fail
 try (go_at_call 10)
 refine (HJ2.out w2 HB2.out).mono ?_;rintro e w3 ⟨⟨vo3,vr3,rfl,ho3,hr3⟩,hb3⟩;have HB3:=zZ (jf hp HB2.out hb3);have CK:=zZ (tV HX2.out hb3);have HO2':=zZ (HO2.out.Bu hb3);have HR2':=zZ (HR2.out.Bu hb3);have HO3:=zZ ho3;have HR3:=zZ hr3;obtain ⟨oa3,oc3,rfl,-,-⟩:=bJ.form ho3;obtain ⟨ra3,rc3,rfl,-,-⟩:=Ac.cu.form hr3;clear ho3 hr3 hb3 HJ2 HO2 HR2 HX2 HY2 HB2 x0 x1 x2 x3 x4 x5 x6 x7 y0 y1 y2 y3 y4 y5 y6;generalize tC t c r Ah=JE at *;generalize tJ t c r Ah=JR at *;generalize tH t c r Ah=JO at *;generalize GN t=TE at *;have HS1:=zZ fun W (hW:Below w3.heap.size w3 W)=>zJ JO _ _ W (HO2'.out.Bu hW) (HO3.out.Bu hW) hol;have HS2:=zZ fun W (hW:Below w3.heap.size w3 W)=>Ac.same_eq JR _ _ W (HR2'.out.Bu hW) (HR3.out.Bu hW) hrw;have Bt:=zZ fun W (hW:Below w3.heap.size w3 W)=>Pl.iR (tV CK.out hW);have HD:=zZ (Below.drew (Below.refl w3.heap.size w3));clear HO2' HR2' HO3 HR3 CK hol hrw HLn HRo HCO;go_upto_region 5 with fail
 refine Ri.IZ (by kernel_rfl) (by kernel_rfl) (by kernel_rfl) (fun Wx=>Below w3.heap.size w3 Wx) (fun kz vs wz=>(fun kx vx wx=>match kx with|0=>vx=iI JE|1=>vx=iI JE|2=>vx=.bool true|3=>vx=.bool true|4=>vx=.slice oa2 JO.length oc2|5=>vx=.slice oa3 JO.length oc3|6=>vx=.bool true|7=>vx=.bool true|8=>vx=.bool true|9=>vx=.slice ra2 JR.length rc2|10=>vx=.slice ra3 JR.length rc3|11=>vx=.bool true|12=>vx=.bool true|13=>vx=.bool true|14=>vx=.agg #[iI t.plan.mode,iI t.plan.Ay,iI t.plan.AR,iI t.plan.Bb,iI t.plan.AJ,.slice ma t.plan.rules.length mc,.slice fa t.Bp.length fc,.slice ea t.edits.length ec]|15=>vx=iI TE|16=>vx=.agg #[iI t.plan.mode,iI t.plan.Ay,iI t.plan.AR,iI t.plan.Bb,iI t.plan.AJ,.slice ma t.plan.rules.length mc,.slice fa t.Bp.length fc,.slice ea t.edits.length ec]|17=>vx=iI TE|18=>vx=.bool true|19=>vx=.bool true|20=>vx=.bool true|21=>vx=.bool true|22=>vx=.bool true|23=>vx=.bool true|_=>True:Nat->Value->World->Prop) kz (vs kz) wz) (fun kz=>[kz]) (by kernel_rfl) (fun jz vs iz vz wz hiz hz=>Ri.wI (F:=(fun kx vx wx=>match kx with|0=>vx=iI JE|1=>vx=iI JE|2=>vx=.bool true|3=>vx=.bool true|4=>vx=.slice oa2 JO.length oc2|5=>vx=.slice oa3 JO.length oc3|6=>vx=.bool true|7=>vx=.bool true|8=>vx=.bool true|9=>vx=.slice ra2 JR.length rc2|10=>vx=.slice ra3 JR.length rc3|11=>vx=.bool true|12=>vx=.bool true|13=>vx=.bool true|14=>vx=.agg #[iI t.plan.mode,iI t.plan.Ay,iI t.plan.AR,iI t.plan.Bb,iI t.plan.AJ,.slice ma t.plan.rules.length mc,.slice fa t.Bp.length fc,.slice ea t.edits.length ec]|15=>vx=iI TE|16=>vx=.agg #[iI t.plan.mode,iI t.plan.Ay,iI t.plan.AR,iI t.plan.Bb,iI t.plan.AJ,.slice ma t.plan.rules.length mc,.slice fa t.Bp.length fc,.slice ea t.edits.length ec]|17=>vx=iI TE|18=>vx=.bool true|19=>vx=.bool true|20=>vx=.bool true|21=>vx=.bool true|22=>vx=.bool true|23=>vx=.bool true|_=>True:Nat->Value->World->Prop)) jz vs iz vz wz hiz hz) HD.out ⟨Or.inl ⟨rfl,?_⟩,Or.inl ⟨rfl,?_⟩,Or.inl ⟨rfl,?_⟩,Or.inl ⟨rfl,?_⟩,Or.inr ⟨3,true,43,rfl,rfl,?_⟩,Or.inr ⟨3,true,43,rfl,rfl,?_⟩,Or.inr ⟨3,true,43,rfl,rfl,?_⟩,Or.inl ⟨rfl,?_⟩,Or.inl ⟨rfl,?_⟩,Or.inr ⟨8,true,48,rfl,rfl,?_⟩,Or.inr ⟨8,true,48,rfl,rfl,?_⟩,Or.inr ⟨8,true,48,rfl,rfl,?_⟩,Or.inl ⟨rfl,?_⟩,Or.inl ⟨rfl,?_⟩,Or.inr ⟨13,true,53,rfl,rfl,?_⟩,Or.inr ⟨13,true,53,rfl,rfl,?_⟩,Or.inr ⟨13,true,53,rfl,rfl,?_⟩,Or.inr ⟨13,true,53,rfl,rfl,?_⟩,Or.inr ⟨13,true,53,rfl,rfl,?_⟩,Or.inl ⟨rfl,?_⟩,Or.inl ⟨rfl,?_⟩,Or.inr ⟨20,true,60,rfl,rfl,?_⟩,Or.inl ⟨rfl,?_⟩,Or.inl ⟨rfl,?_⟩,trivial⟩ ?_
 ·intro vs Wx A hA hB hpre K hK;have e11:=(hA 11).trans (show _=iI JE by kernel_rfl);clear hA hpre;go_simp;exact hK _ _ hB rfl (fun _ _ h=>h)
 ·intro vs Wx A hA hB hpre K hK;have e14:=(hA 14).trans (show _=iI JE by kernel_rfl);clear hA hpre;go_simp;exact hK _ _ hB rfl (fun _ _ h=>h)
 ·intro vs Wx A hA hB hpre K hK;have e40:=tT (hA 40) (by kernel_rfl) (hpre.1 rfl);have e41:=tT (hA 41) (by kernel_rfl) (hpre.2.1 rfl);have qe:(JE == JE)=true:=by simp
  clear hA hpre;go_simp;exact hK _ _ hB rfl (fun _ _ h=>h)
 ·intro vs Wx A hA hB hpre K hK;have e42:=tT (hA 42) (by kernel_rfl) (hpre.1 rfl);clear hA hpre;go_simp;exact hK _ _ hB rfl (fun _ _ h=>h)
 ·intro vs Wx A hA hB hpre;have eg:=tT (hA 43) (by kernel_rfl) (hpre.1 rfl);refine ⟨true,eg,fun _ K hK=>?_,fun h=>absurd rfl h⟩;have e9:=(hA 9).trans (show _=Value.slice oa2 JO.length oc2 by kernel_rfl);clear hA hpre;go_simp;exact hK _ _ hB rfl (fun _ _ h=>h)
 ·intro vs Wx A hA hB hpre;have eg:=tT (hA 43) (by kernel_rfl) (hpre.1 rfl);refine ⟨true,eg,fun _ K hK=>?_,fun h=>absurd rfl h⟩;have e12:=(hA 12).trans (show _=Value.slice oa3 JO.length oc3 by kernel_rfl);clear hA hpre;go_simp;exact hK _ _ hB rfl (fun _ _ h=>h)
 ·intro vs Wx A hA hB hpre;have eg:=tT (hA 43) (by kernel_rfl) (hpre.2.2.1 rfl);refine ⟨true,eg,fun _ K hK=>?_,fun h=>absurd rfl h⟩;have e44:=tT (hA 44) (by kernel_rfl) (hpre.1 rfl);have e45:=tT (hA 45) (by kernel_rfl) (hpre.2.1 rfl);clear hA hpre;go_simp;go_at_call 11
  refine (HS1.out Wx hB).mono ?_;rintro e w9 ⟨rfl,hg⟩;exact hK _ _ (jg hB hg) rfl (fun _ _ h=>h)
 ·intro vs Wx A hA hB hpre K hK;have e43:=tT (hA 43) (by kernel_rfl) (hpre.1 rfl);have e46:=tT (hA 46) (by kernel_rfl) (hpre.2.1 rfl);clear hA hpre;go_simp;exact hK _ _ hB rfl (fun _ _ h=>h)
 ·intro vs Wx A hA hB hpre K hK;have e47:=tT (hA 47) (by kernel_rfl) (hpre.1 rfl);clear hA hpre;go_simp;exact hK _ _ hB rfl (fun _ _ h=>h)
 ·intro vs Wx A hA hB hpre;have eg:=tT (hA 48) (by kernel_rfl) (hpre.1 rfl);refine ⟨true,eg,fun _ K hK=>?_,fun h=>absurd rfl h⟩;have e10:=(hA 10).trans (show _=Value.slice ra2 JR.length rc2 by kernel_rfl);clear hA hpre;go_simp;exact hK _ _ hB rfl (fun _ _ h=>h)
 ·intro vs Wx A hA hB hpre;have eg:=tT (hA 48) (by kernel_rfl) (hpre.1 rfl);refine ⟨true,eg,fun _ K hK=>?_,fun h=>absurd rfl h⟩;have e13:=(hA 13).trans (show _=Value.slice ra3 JR.length rc3 by kernel_rfl);clear hA hpre;go_simp;exact hK _ _ hB rfl (fun _ _ h=>h)
 ·intro vs Wx A hA hB hpre;have eg:=tT (hA 48) (by kernel_rfl) (hpre.2.2.1 rfl);refine ⟨true,eg,fun _ K hK=>?_,fun h=>absurd rfl h⟩;have e49:=tT (hA 49) (by kernel_rfl) (hpre.1 rfl);have e50:=tT (hA 50) (by kernel_rfl) (hpre.2.1 rfl);clear hA hpre;go_simp;go_at_call 12
  refine (HS2.out Wx hB).mono ?_;rintro e w9 ⟨rfl,hg⟩;exact hK _ _ (jg hB hg) rfl (fun _ _ h=>h)
 ·intro vs Wx A hA hB hpre K hK;have e48:=tT (hA 48) (by kernel_rfl) (hpre.1 rfl);have e51:=tT (hA 51) (by kernel_rfl) (hpre.2.1 rfl);clear hA hpre;go_simp;exact hK _ _ hB rfl (fun _ _ h=>h)
 ·intro vs Wx A hA hB hpre K hK;have e52:=tT (hA 52) (by kernel_rfl) (hpre.1 rfl);clear hA hpre;go_simp;exact hK _ _ hB rfl (fun _ _ h=>h)
 ·intro vs Wx A hA hB hpre;have eg:=tT (hA 53) (by kernel_rfl) (hpre.1 rfl);refine ⟨true,eg,fun _ K hK=>?_,fun h=>absurd rfl h⟩;have e4:=(hA 4).trans (show _=pP p 0 by kernel_rfl);obtain ⟨x0,x1,x2,x3,x4,x5,x6,x7⟩:=Bt.out Wx hB;clear hA hpre;go_simp;exact hK _ _ hB rfl (fun _ _ h=>h)
 ·intro vs Wx A hA hB hpre;have eg:=tT (hA 53) (by kernel_rfl) (hpre.2.1 rfl);refine ⟨true,eg,fun _ K hK=>?_,fun h=>absurd rfl h⟩;have e54:=tT (hA 54) (by kernel_rfl) (hpre.1 rfl);clear hA hpre;go_simp;go_at_call 13
  refine (HC1.out Wx (jf hp HB3.out hB)).mono ?_;rintro e w9 ⟨rfl,hg⟩;exact hK _ _ (jg hB hg) rfl (fun _ _ h=>h)
 ·intro vs Wx A hA hB hpre;have eg:=tT (hA 53) (by kernel_rfl) (hpre.1 rfl);refine ⟨true,eg,fun _ K hK=>?_,fun h=>absurd rfl h⟩;have e4:=(hA 4).trans (show _=pP p 0 by kernel_rfl);obtain ⟨x0,x1,x2,x3,x4,x5,x6,x7⟩:=Bt.out Wx hB;clear hA hpre;go_simp;exact hK _ _ hB rfl (fun _ _ h=>h)
 ·intro vs Wx A hA hB hpre;have eg:=tT (hA 53) (by kernel_rfl) (hpre.2.2.1 rfl);refine ⟨true,eg,fun _ K hK=>?_,fun h=>absurd rfl h⟩;have e56:=tT (hA 56) (by kernel_rfl) (hpre.1 rfl);clear hA hpre;go_simp;go_at_call 14
  refine (HC2.out Wx (jf hp HB3.out hB)).mono ?_;rintro e w9 ⟨rfl,hg⟩;exact hK _ _ (jg hB hg) rfl (fun _ _ h=>h)
 ·intro vs Wx A hA hB hpre;have eg:=tT (hA 53) (by kernel_rfl) (hpre.2.2.1 rfl);refine ⟨true,eg,fun _ K hK=>?_,fun h=>absurd rfl h⟩;have e55:=tT (hA 55) (by kernel_rfl) (hpre.1 rfl);have e57:=tT (hA 57) (by kernel_rfl) (hpre.2.1 rfl);have qe:(TE == TE)=true:=by simp
  clear hA hpre;go_simp;exact hK _ _ hB rfl (fun _ _ h=>h)
 ·intro vs Wx A hA hB hpre K hK;have e53:=tT (hA 53) (by kernel_rfl) (hpre.1 rfl);have e58:=tT (hA 58) (by kernel_rfl) (hpre.2.1 rfl);clear hA hpre;go_simp;exact hK _ _ hB rfl (fun _ _ h=>h)
 ·intro vs Wx A hA hB hpre K hK;have e59:=tT (hA 59) (by kernel_rfl) (hpre.1 rfl);clear hA hpre;go_simp;exact hK _ _ hB rfl (fun _ _ h=>h)
 ·intro vs Wx A hA hB hpre;have eg:=tT (hA 60) (by kernel_rfl) (hpre.1 rfl);refine ⟨true,eg,fun _ K hK=>?_,fun h=>absurd rfl h⟩;clear hA hpre;go_simp;go_at_call 8
  refine (HW.out Wx (jf hp HB3.out hB)).mono ?_;rintro e w9 ⟨rfl,hg⟩;exact hK _ _ (jg hB hg) rfl (fun _ _ h=>h)
 ·intro vs Wx A hA hB hpre K hK;have e60:=tT (hA 60) (by kernel_rfl) (hpre.1 rfl);have e61:=tT (hA 61) (by kernel_rfl) (hpre.2.1 rfl);clear hA hpre;go_simp;exact hK _ _ hB rfl (fun _ _ h=>h)
 ·intro vs Wx A hA hB hpre K hK;have e62:=tT (hA 62) (by kernel_rfl) (hpre.1 rfl);clear hA hpre;go_simp;exact hK _ _ hB rfl (fun _ _ h=>h)
 ·intro vs Wx hB hF;have hq:vs 23=.bool true:=hF 23 (by decide);have Cn:=zZ (jf hp HB3.out hB);clear hF hB;simp only [Ri.puts];rw [hq];clear hq;go_simp;go_wp2_with fail
  go_ret;exact ⟨rfl,by first|exact Cn.out|(rw [hp];exact Cn.out)⟩
theorem laidOut:laidOutB Tryz.prog=true:=by kernel_rfl
set_option maxRecDepth 100000 in
theorem lifted (os:Os) (started:os.Started) (H:Type) (enc:TypeId × Value->H) :
  ReturnsInHanded {} Tryz.checked os 3 .any (fun w args=>(Rows.judgeDoesSpec.pre enc Tryz.prog Tryz.f3 [] false w args/\laidMetH Tryz.prog uJ w)/\sizedMet enc Tryz.prog Tryz.f3 (OpenSpec.ofChange Rows.judgeDoesSpec) false w args) (Rows.judgeDoesSpec.post enc Tryz.prog Tryz.f3 false true false false):=by
 refine lift own started (by kernel_rfl) Tryz.func3
  (ChangeSpec.witness_shaped (enc:=enc) (C:=Tryz.checked) (os:=os) (X:=fun w _=>laidMetH Tryz.prog uJ w) false (World.laidAll Tryz.prog os uJ) #[.agg #[iI 0,iI 0,iI 0,iI 0,iI 0,.slice none 0 0,.slice none 0 0,.slice none 0 0],.agg #[.string ByteArray.empty,.string ByteArray.empty,.string ByteArray.empty,iI 0,iI 0,.string ByteArray.empty,.slice none 0 0],.slice none 0 0,.slice none 0 0] 8 (World.laidAll_os _ _ _)
   (World.shaped_of_ZipB (by kernel_rfl) (by kernel_rfl)) (by kernel_rfl) (by kernel_rfl) (by kernel_rfl)
   (by rw [MakeChecks.laidMetH_plain _ _ _ (by kernel_rfl)];exact laidMet_laidAll _ (by kernel_rfl) (by kernel_rfl))) ?_
 intro W base args ds gs before hval0 hW hwt hT;have hval:∀(j:Nat) t v,Tryz.f3.params[j]?=some t->args[j]?=some v->Value.okWide Tryz.prog W .any base t v:=hval0;have hW':=hW;obtain ⟨p,q,hA0,hV,rfl,hfz,hnd⟩:=hW;have hA:DataW.TrodAll enc Tryz.prog W 0 (fun _=>true) true Tryz.f3.params.toList args.toList ds p:=hA0;rw [Tryz.params3] at hA hval hwt;obtain ⟨v0,vs0,d0,ds0,p0,q0,hargs,rfl,rfl,h0,r0⟩:=trodAll_cons hA;obtain ⟨v1,vs1,d1,ds1,p1,q1,rfl,rfl,rfl,h1,r1⟩:=trodAll_cons r0;obtain ⟨v2,vs2,d2,ds2,p2,q2,rfl,rfl,rfl,h2,r2⟩:=trodAll_cons r1;obtain ⟨v3,vs3,d3,ds3,p3,q3,rfl,rfl,rfl,h3,r3⟩:=trodAll_cons r2;obtain ⟨rfl,rfl,rfl⟩:=trodAll_nil r3;obtain rfl:args=#[v0,v1,v2,v3]:=by cases args;simp_all
 obtain ⟨rfl,rfl⟩:=trodVars_none hV;have hwl:∀z,(z ∈ d0.weights Tryz.prog 28->z<=reachBytes)/\(z ∈ d1.weights Tryz.prog 31->z<=reachBytes)/\(z ∈ d2.weights Tryz.prog 32->z<=reachBytes)/\(z ∈ d3.weights Tryz.prog 29->z<=reachBytes):=fun z=>by
  have h:=List.all_eq_true.1 hwt z;simp only [decide_eq_true_eq] at h;refine ⟨fun hz=>h ?_,fun hz=>h ?_,fun hz=>h ?_,fun hz=>h ?_⟩;all_goals
   simp only [List.cons_append,List.nil_append,List.toList_toArray,List.append_nil,DataW.weightsEach,List.mem_append];simp [hz]
 have k0:=h0;have lt0:∀x ∈ p0,x.block < W.heap.size:=by obtain ⟨m,hm⟩:=k0;exact DataW.trod_lt m _ _ _ hm
 obtain ⟨t0,m0,mf0,me0,rfl,g0,z0⟩:=Jo.zk (hval 0 28 v0 rfl rfl) h0 (fun z hz=>(hwl z).1 hz);have k1:=h1;have lt1:∀x ∈ p1,x.block < W.heap.size:=by obtain ⟨m,hm⟩:=k1;exact DataW.trod_lt m _ _ _ hm
 obtain ⟨x1,m1,rfl,g1,z1⟩:=yU (hval 1 31 v1 rfl rfl) h1 (fun z hz=>(hwl z).2.1 hz);have k2:=h2;have lt2:∀x ∈ p2,x.block < W.heap.size:=by obtain ⟨m,hm⟩:=k2;exact DataW.trod_lt m _ _ _ hm
 obtain ⟨l2,g2,z2⟩:=Ao.zf (okWide_slice Tryz.underlying32 (hval 2 32 v2 rfl rfl)) h2;have k3:=h3;have lt3:∀x ∈ p3,x.block < W.heap.size:=by obtain ⟨m,hm⟩:=k3;exact DataW.trod_lt m _ _ _ hm
 obtain ⟨l3,g3,n3,z3⟩:=Jo.y9 (okWide_slice Tryz.underlying29 (hval 3 29 v3 rfl rfl)) h3 (fun z hz=>(hwl z).2.2.2 hz);clear hA0 hval0;refine (walk W t0 m0 mf0 me0 g0 z0 x1 m1 g1 z1 v2 l2 g2 z2 v3 l3 g3 n3 z3 hT).mono fun e W' ⟨he,bel⟩=>?_;subst he;exact ⟨_,rfl,_,_,_,[],_,[],hW',(trodAll_cons_mk (shut_bool Tryz.underlying4 _) trodAll_mk0),(trodAll_cons_mk (Below.trod laidOut (by kernel_rfl) (of_decide_eq_true (by kernel_rfl)) k0 bel lt0) (trodAll_cons_mk (Below.trod laidOut (by kernel_rfl) (of_decide_eq_true (by kernel_rfl)) k1 bel lt1) (trodAll_cons_mk (Below.trod laidOut (by kernel_rfl) (of_decide_eq_true (by kernel_rfl)) k2 bel lt2) (trodAll_cons_mk (Below.trod laidOut (by kernel_rfl) (of_decide_eq_true (by kernel_rfl)) k3 bel lt3) trodAll_mk0)))),rfl,bel.frame _,fun h=>by cases h⟩
theorem over:Rows.judgeDoesRow.holds Tryz.pinned (OpenSpec.ofChange Rows.judgeDoesSpec):=
 OpenClaim.holds_of_wide 3 Tryz.f3 rfl rfl rfl rfl rfl rfl rfl ⟨rfl,rfl,rfl,rfl,rfl⟩ rfl rfl rfl rfl rfl (by kernel_rfl) Tryz.func3 (by kernel_rfl)
  (of_decide_eq_true (by kernel_rfl)) (by unfold Func.isWrapper;first|(rw [if_pos (by decide +kernel)];kernel_rfl)|(rw [if_neg (by decide +kernel)];exact ⟨rfl,rfl⟩))
  (fun os started H enc _=>lifted os started H enc)
theorem proved:Rows.JudgeDoesSaid:=over
end Go.Proofs.YtfbfeoplldjbpaaGreatDoor.judgeDoes
namespace Go.Proofs.YtfbfeoplldjbpaaGreatDoor
theorem judgeDoes_holds:Rows.JudgeDoesCardSaid:=
 Claim7.holds_tied_plain_at .later [] [.data] true (true, "a7234eaa9ffd422425590d7ea42e97148f15fc950a71eabb14290e7ec31fcac2") false
  judgeDoes.proved (fun _ h=>by cases h) (by kernel_rfl) (fun _ h=>by cases h) judgeDoes_row_tie rfl ⟨rfl,rfl⟩ (by kernel_rfl) rfl
  (fun f fn hf hfn=>by
   obtain rfl:f=3:=Option.some.inj ((show Tryz.prog.funcNamed "leechbook/leechbooklaw17.JudgeDoes" = some 3 by kernel_rfl).symm.trans hf) |>.symm
   obtain rfl:fn=Tryz.f3:=(Option.some.inj (Tryz.func3.symm.trans hfn)).symm;exact ⟨by kernel_rfl,fun j t ht=>by
    rw [Tryz.params3] at ht;have hm:t ∈ [28,31,32,29]:=by simpa using Array.mem_of_getElem? ht
    have hall:([28,31,32,29].all fun u=>!Tryz.prog.wantsStandIn u)=true:=by kernel_rfl
    exact (show Tryz.prog.wantsStandIn t=false by simpa using List.all_eq_true.1 hall t hm)⟩)
  (by kernel_rfl)
#print axioms judgeDoes_holds
end Go.Proofs.YtfbfeoplldjbpaaGreatDoor
