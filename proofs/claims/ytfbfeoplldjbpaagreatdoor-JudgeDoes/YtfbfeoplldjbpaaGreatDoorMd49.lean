/-
  Texts put together (merge.py): JRJud.
-/
import Derived.Test.YtfbfeoplldjbpaaGreatDoorMd48
set_option linter.unusedSimpArgs false
set_option linter.unusedVariables false
set_option maxHeartbeats 16000000
set_option maxRecDepth 100000
namespace Go.Proofs.YtfbfeoplldjbpaaGreatDoor
namespace Ju
open Go.RowKit
open Ac (Row pU dJ dM jF jG DW DU left cu Own tV qL iU jg jf fK)
open Sh (Ot bD bC bK bE EP EW Dt Du member Jj)
open Cm (Ln Cl bH lnv clv bG aC)
theorem O4 {K:Nat->Prop} {w w':World} {v:Value} {l:List Row} (h:cu K w v l) (hb:Below w.heap.size w w'):cu K w' v l:=h.move ⟨hb.size,fun b hl hk=>⟨hk,hb.block b hl⟩⟩
theorem O3 {w w':World} {v:Value} {l:List Row} {o o':Option Nat} (h:cu (fun b=>some b ≠ o) w v l) (hg:w.grownBy w' o) (ha:o'=o ∨ o'=some w.heap.size):cu (fun b=>some b ≠ o') w' v l:=
 h.move ⟨hg.size,fun b hl hk=>⟨by
  rcases ha with e|e
  ·rw [e];exact hk
  ·rw [e];intro h2;have:=Option.some.inj h2;omega,hg.block b hl (fun e=>hk e)⟩⟩
theorem Ob (t:Tb) (c:Cl) (r:List Row) (Ah:List Ln) (m mf me ml vr va:Value) (w:World) (hA:dF w m mf me t) (hL:bH All w ml c.lines) (hR:cu All w vr r) (hV:bH All w va Ah) (hz:au t c Ah) (hl:r.length<=5000) :
  Calls Tryz.prog 10 #[.agg #[iI t.plan.mode,iI t.plan.Ay,iI t.plan.AR,iI t.plan.Bb,iI t.plan.AJ,m,mf,me],.agg #[sS c.id,sS c.mem,sS c.Br,iI c.net,iI c.does,sS c.ref,ml],vr,va] w fun e w'=>(∃vo v,e=.returned (.tuple #[vo,v,iI (tC t c r Ah)])/\bJ All w' vo (tH t c r Ah)/\cu All w' v (tJ t c r Ah))/\Below w.heap.size w w':=by
 obtain ⟨ma,mc,fa,fc,ea,ec,rfl,rfl,rfl⟩:=hA.form;obtain ⟨la,lc,rfl,hl1,hl2⟩:=Cm.bH.form hL;obtain ⟨ra,rc,rfl,hr1,hr2⟩:=hR.form;obtain ⟨aa,ac,rfl,ha1,ha2⟩:=Cm.bH.form hV;obtain ⟨z1,z2,z3,z4,z5,z6⟩:=hz;have HC1:=zZ fun W (hW:Below w.heap.size w W)=>Nv t _ _ _ W (hA.Bu hW) z1;have HC2:=zZ fun W (hW:Below w.heap.size w W)=>Cm.Nv c _ W (Ex.wB hL hW) z2 (by omega);have HC3:=zZ fun W (hW:Below w.heap.size w W)=>Ac.Nv r _ W (hR.Bu hW) (by omega);have HMk:=zZ fun W (hW:Below w.heap.size w W)=>Tw.Om _ _ c.lines Ah W (Ex.wB hL hW) (Ex.wB hV hW) z3 z4 z6 z5;have HPre:Hid (Bo t c r=orE (GN t) (orE (Cm.kF c) (Ac.kF r))):=rfl;have HJe:Hid (Bo t c r ≠ 0->tC t c r Ah=Bo t c r/\tH t c r Ah=[]/\tJ t c r Ah=[]):=fun h=>by
  have h1:tC t c r Ah=Bo t c r:=by unfold tC;rw [if_neg h]
  exact ⟨h1,by unfold tH;rw [if_neg (by rw [h1];exact h)],by unfold tJ;rw [if_neg (by rw [h1];exact h)]⟩
 have HJr:Hid (Bo t c r=0->tC t c r Ah=D6 (Bw t c) r (its t c Ah)):=fun h=>by unfold tC;rw [if_pos h]
 have HJo:Hid (tC t c r Ah=0->tH t c r Ah=Ea (Bw t c) r (its t c Ah)/\tJ t c r Ah=D7 (Bw t c) r (its t c Ah)):=fun h=>⟨by unfold tH;rw [if_pos h],by unfold tJ;rw [if_pos h]⟩;have HJn:Hid (tC t c r Ah ≠ 0->tH t c r Ah=[]/\tJ t c r Ah=[]):=fun h=>⟨by unfold tH;rw [if_neg h],by unfold tJ;rw [if_neg h]⟩;have HWh:Hid (Bo t c r=0->∀(k:Nat) (x:Ln) (W:World),c.lines[k]?=some x->Below w.heap.size w W->Calls Tryz.prog 29 #[.agg #[iI t.plan.mode,iI t.plan.Ay,iI t.plan.AR,iI t.plan.Bb,iI t.plan.AJ,.slice ma t.plan.rules.length mc,.slice fa t.Bp.length fc,.slice ea t.edits.length ec],.agg #[sS c.id,sS c.mem,sS c.Br,iI c.net,iI c.does,sS c.ref,.slice la c.lines.length lc],iI (k:Nat),.bool (xw Ah c k)] W fun e w'=>e=.returned (iI (Ii t c k x (xw Ah c k)))/\Below W.heap.size W w'):=fun h k x W hx hb=>by
  obtain ⟨p1,p2,p3,p4,p5⟩:=Bq h;have hlx:=(kH p4).2.2 x (List.mem_of_getElem? hx);exact O1 t c k x (xw Ah c k) _ _ _ _ W (hA.Bu hb) (Ex.wB hL hb) hx z1 (by omega) z2.2.2.2.2.2.2.2 (by have:=(vV hlx.1).2.1;omega)
 have HOn:Hid (Bo t c r=0->∀(R:List Row) (k:Nat) (x:Ln) (mx v:Value) (W:World),c.lines[k]?=some x->Below w.heap.size w W->dI All W mx x.mods->cu All W v R->Ac.Ok R->R.length<=8000->Ii t c k x (xw Ah c k)=0 →
   Calls Tryz.prog 31 #[.agg #[iI t.plan.mode,iI t.plan.Ay,iI t.plan.AR,iI t.plan.Bb,iI t.plan.AJ,.slice ma t.plan.rules.length mc,.slice fa t.Bp.length fc,.slice ea t.edits.length ec],.agg #[sS c.id,sS c.mem,sS c.Br,iI c.net,iI c.does,sS c.ref,.slice la c.lines.length lc],.agg #[sS x.proc,mx,iI x.date,iI x.units,iI x.Av,iI x.prior],v] W fun e w'=>OnV v R (zL (Bw t c) R (Cu t c k x (xw Ah c k))) (zU (Bw t c) R (Cu t c k x (xw Ah c k))) (zO (Bw t c) R (Cu t c k x (xw Ah c k))) W.heap.size w' e/\Below W.heap.size W w'):=fun h R k x mx v W hx hb hm hv hO hlR hw=>by
  obtain ⟨p1,p2,p3,p4,p5⟩:=Bq h;have hlx:=(kH p4).2.2 x (List.mem_of_getElem? hx);exact Oo t c R k x (xw Ah c k) _ _ _ _ _ _ W (hA.Bu hb) ⟨_,_,rfl⟩ hm hv hO hlR p1 z1 (z2.2.2.2.2.2.2.2 x (List.mem_of_getElem? hx)) (by have:=(vV hlx.1).2.1;omega) hw
 have HOk:Hid (Bo t c r=0->Ac.Ok r/\c.lines.length<=999):=fun h=>⟨(Ac.kG r).1 (Bq h).2.2.2.2,(kH (Bq h).2.2.2.1).1⟩;have HLn:=zZ fun W (hW:Below w.heap.size w W)=>Ex.wB hL hW;have HR0:=zZ fun W (hW:Below w.heap.size w W)=>hR.Bu hW;have HMl:=zZ (Tw.xq c.lines Ah);have HMb:Hid (∀k,k < c.lines.length->(Tw.wZ Ah c.lines)[k]?=some (xw Ah c k)):=fun k hk=>by
  have h:=Tw.xq c.lines Ah;unfold xw;rw [List.getD_eq_getElem?_getD,List.getElem?_eq_getElem (by omega)];rfl
 clear hA hL hV hR z1 z2 z3 z4 z5 z6;generalize Bo t c r=PE at *;generalize GN t=E1 at *;generalize Cm.kF c=E2 at *;generalize Ac.kF r=E3 at *;have hbx:Below w.heap.size w ((w.alloc (.cells #[iI t.plan.mode,iI t.plan.Ay,iI t.plan.AR,iI t.plan.Bb,iI t.plan.AJ,.slice ma t.plan.rules.length mc,.slice fa t.Bp.length fc,.slice ea t.edits.length ec] 28)).alloc (.cells #[sS c.id,sS c.mem,sS c.Br,iI c.net,iI c.does,sS c.ref,.slice la c.lines.length lc] 31)):=jg (iU _ _) (iU _ _);have hz1:=tV (fK w #[iI t.plan.mode,iI t.plan.Ay,iI t.plan.AR,iI t.plan.Bb,iI t.plan.AJ,.slice ma t.plan.rules.length mc,.slice fa t.Bp.length fc,.slice ea t.edits.length ec] 28) (iU _ (.cells #[sS c.id,sS c.mem,sS c.Br,iI c.net,iI c.does,sS c.ref,.slice la c.lines.length lc] 31));have hz2:=fK (w.alloc (.cells #[iI t.plan.mode,iI t.plan.Ay,iI t.plan.AR,iI t.plan.Bb,iI t.plan.AJ,.slice ma t.plan.rules.length mc,.slice fa t.Bp.length fc,.slice ea t.edits.length ec] 28)) #[sS c.id,sS c.mem,sS c.Br,iI c.net,iI c.does,sS c.ref,.slice la c.lines.length lc] 31;rw [show (w.alloc (.cells #[iI t.plan.mode,iI t.plan.Ay,iI t.plan.AR,iI t.plan.Bb,iI t.plan.AJ,.slice ma t.plan.rules.length mc,.slice fa t.Bp.length fc,.slice ea t.edits.length ec] 28)).heap.size=w.heap.size+1 by simp] at hz2;have HX0:=zZ hz1;have HY0:=zZ hz2;have HB0:=zZ hbx;clear hbx hz1 hz2;go_enter Tryz.func10,Tryz.ntmps10
 go_upto_region 1 with fail
 generalize ((w.alloc (.cells #[iI t.plan.mode,iI t.plan.Ay,iI t.plan.AR,iI t.plan.Bb,iI t.plan.AJ,.slice ma t.plan.rules.length mc,.slice fa t.Bp.length fc,.slice ea t.edits.length ec] 28)).alloc (.cells #[sS c.id,sS c.mem,sS c.Br,iI c.net,iI c.does,sS c.ref,.slice la c.lines.length lc] 31))=w0 at *;generalize hp:w.heap.size=p at *;obtain ⟨p1,hp1⟩:∃u,u=p+1:=⟨_,rfl⟩;rw [←hp1] at HY0 ⊢;clear hp1;obtain ⟨x0,x1,x2,x3,x4,x5,x6,x7⟩:=Pl.iR HX0.out;obtain ⟨y0,y1,y2,y3,y4,y5,y6⟩:=jT HY0.out;go_wp2_with fail
 try (go_at_call 14)
 refine (HC1.out w0 HB0.out).mono ?_;rintro e w1 ⟨rfl,hb1⟩;have HB1:=zZ (jf hp HB0.out hb1);have Cz:=zZ (tV HX0.out hb1);have HY1:=zZ (tV HY0.out hb1);clear hb1 HB0 HX0 HY0 HC1 x0 x1 x2 x3 x4 x5 x6 x7 y0 y1 y2 y3 y4 y5 y6;by_cases e0:E1=0
 case neg =>
  have q0:(E1 == 0)=false:=by simp [e0]
  have hpe:PE=E1:=by rw [HPre.out];exact zq _ e0
  have q:(E1 != 0)=true:=by simp [e0]
  have HF:Hid (tC t c r Ah=E1/\tH t c r Ah=[]/\tJ t c r Ah=[]):=by
   rw [←hpe];exact HJe.out (by rw [hpe];exact e0)
  clear hpe e0 HJe HJr HJo HJn HWh HOn HOk HMk HPre;go_wp2;go_ret3;obtain ⟨j1,j2,j3⟩:=HF.out;rw [j1,j2,j3];exact ⟨⟨_,_,rfl,bJ.nil _ _,Ac.cu.nil _ _⟩,by first|exact HB1.out|(rw [hp];exact HB1.out)⟩
 case pos =>
  subst e0;rw [zu] at HPre;obtain ⟨x0,x1,x2,x3,x4,x5,x6,x7⟩:=Pl.iR Cz.out;obtain ⟨y0,y1,y2,y3,y4,y5,y6⟩:=jT HY1.out;go_wp2_with fail
  try (go_at_call 26)
  refine (HC2.out w1 HB1.out).mono ?_;rintro e w2 ⟨rfl,hb2⟩;have HB2:=zZ (jf hp HB1.out hb2);have HX2:=zZ (tV Cz.out hb2);have HY2:=zZ (tV HY1.out hb2);clear hb2 HB1 Cz HY1 HC2 x0 x1 x2 x3 x4 x5 x6 x7 y0 y1 y2 y3 y4 y5 y6;by_cases e0:E2=0
  case neg =>
   have q0:(E2 == 0)=false:=by simp [e0]
   have hpe:PE=E2:=by rw [HPre.out];exact zq _ e0
   have q:(E2 != 0)=true:=by simp [e0]
   have HF:Hid (tC t c r Ah=E2/\tH t c r Ah=[]/\tJ t c r Ah=[]):=by
    rw [←hpe];exact HJe.out (by rw [hpe];exact e0)
   clear hpe e0 HJe HJr HJo HJn HWh HOn HOk HMk HPre;go_wp2;go_ret3;obtain ⟨j1,j2,j3⟩:=HF.out;rw [j1,j2,j3];exact ⟨⟨_,_,rfl,bJ.nil _ _,Ac.cu.nil _ _⟩,by first|exact HB2.out|(rw [hp];exact HB2.out)⟩
  case pos =>
   subst e0;rw [zu] at HPre;go_wp2_with fail
   try (go_at_call 27)
   refine (HC3.out w2 HB2.out).mono ?_;rintro e w3 ⟨rfl,hb3⟩;have HB3:=zZ (jf hp HB2.out hb3);have CK:=zZ (tV HX2.out hb3);have HY3:=zZ (tV HY2.out hb3);clear hb3 HB2 HX2 HY2 HC3 ;by_cases e0:E3=0
   case neg =>
    have hpe:PE=E3:=HPre.out;have q:(E3 != 0)=true:=by simp [e0]
    have HF:Hid (tC t c r Ah=E3/\tH t c r Ah=[]/\tJ t c r Ah=[]):=by
     rw [←hpe];exact HJe.out (by rw [hpe];exact e0)
    clear hpe e0 HJe HJr HJo HJn HWh HOn HOk HMk HPre;go_wp2;go_ret3;obtain ⟨j1,j2,j3⟩:=HF.out;rw [j1,j2,j3];exact ⟨⟨_,_,rfl,bJ.nil _ _,Ac.cu.nil _ _⟩,by first|exact HB3.out|(rw [hp];exact HB3.out)⟩
   case pos =>
    subst e0;have HJq:=zZ (HJr.out HPre.out);have HWq:=zZ (HWh.out HPre.out);have HOq:=zZ (HOn.out HPre.out);obtain ⟨hOr,hln⟩:=HOk.out HPre.out;have HOr:=zZ hOr;clear HWh HOn HOk HJe HJr HPre hOr;obtain ⟨x0,x1,x2,x3,x4,x5,x6,x7⟩:=Pl.iR CK.out;obtain ⟨y0,y1,y2,y3,y4,y5,y6⟩:=jT HY3.out;go_wp2_with fail
    try (go_at_call 28)
    refine (HMk.out w3 HB3.out).mono ?_;rintro e w5 ⟨mu,rfl,hbl,hb5⟩;have CF:=zZ (jf hp HB3.out hb5);have HX5:=zZ (tV CK.out hb5);have HY5:=zZ (tV HY3.out hb5);obtain ⟨ka,kc,rfl,hk1,hk2⟩:=hbl.form;rw [HMl.out] at hbl hk1 ⊢;have HBl:=zZ fun W (hW:Below w5.heap.size w5 W)=>hbl.far hW;have HXY:=zZ fun W (hW:Below w5.heap.size w5 W)=>And.intro (Pl.iR (tV HX5.out hW)) (jT (tV HY5.out hW));have HLw:=zZ fun W (hW:Below w5.heap.size w5 W)=>HLn.out W (jf hp CF.out hW);have HRz:=zZ (HR0.out w5 CF.out);clear hb5 hbl HB3 CK HY3 HX5 HY5 HMk x0 x1 x2 x3 x4 x5 x6 x7 y0 y1 y2 y3 y4 y5 y6 HLn HR0;go_wp2;go_loopg [13,14,15] (c.lines.length) (fun gg s13 s14 s15 wr=>∃(j:Nat) (R:List Row) (D:List Ot) (vo v:Value),s13=vo/\s14=v/\s15=iI (j:Nat)/\j<=c.lines.length/\gg=c.lines.length - j/\Hid (D.length=j)/\Hid (R.length<=r.length+2 * j)/\Hid (Ac.Ok R)/\Hid (D6 (Bw t c) R ((its t c Ah).drop j)=D6 (Bw t c) r (its t c Ah))/\Hid (D ++ Ea (Bw t c) R ((its t c Ah).drop j)=Ea (Bw t c) r (its t c Ah))/\Hid (D7 (Bw t c) R ((its t c Ah).drop j)=D7 (Bw t c) r (its t c Ah))/\Hid (bM w5.heap.size wr vo D)/\Hid (cu (fun b=>some b ≠ vo.ownBlock) wr v R)/\Hid (Below w5.heap.size w5 wr))
    case atStart=>exact ⟨0,r,[],_,_,rfl,rfl,rfl,Nat.zero_le _,rfl,rfl,(by show r.length<=_;omega),HOr.out,(by show _=_;rw [List.drop_zero]),(by show _=_;rw [List.drop_zero];rfl),(by show _=_;rw [List.drop_zero]),Ae _ _,HRz.out.move ⟨Nat.le_refl _,fun b hl _=>⟨(fun h=>by cases h),rfl⟩⟩,Below.refl _ _⟩
    case round =>
     obtain ⟨j,R,D,vo,v,rfl,rfl,rfl,hj,hg,HDj,HRl,HOk,HE,HV,HRR,HO,HRw,HB⟩:=hrel;obtain ⟨va',vc',rfl,-,-⟩:=HRw.out.form;obtain ⟨oa,oc,rfl,-,-⟩:=Ad HO.out;obtain ⟨wo,hwo⟩:∃z,z=wr:=⟨_,rfl⟩;subst hwo;obtain ⟨⟨x0,x1,x2,x3,x4,x5,x6,x7⟩,y0,y1,y2,y3,y4,y5,y6⟩:=HXY.out wo HB.out;by_cases hlt:j < c.lines.length
     ·obtain ⟨x,hx⟩:∃x,c.lines[j]?=some x:=⟨_,List.getElem?_eq_getElem hlt⟩;have hlr:R.length<=8000:=by have:=HRl.out;omega
      obtain ⟨b,lo,mx,rfl,hbl,hxc,hxm⟩:=vZ (HLw.out wo HB.out) hx;obtain ⟨xa,xc,rfl,-,-⟩:=Cm.dI.form hxm;obtain ⟨kb,ko,kc',he,-,-,hkbl,hkm⟩:=jA (HBl.out wo HB.out) (HMb.out j hlt);obtain ⟨rfl,rfl⟩:ka=some ⟨kb,ko,none⟩/\kc=kc':=by injection he with e1 e2 e3;exact ⟨e1,e3⟩
      clear he;have HCw:=zZ fun W (hW:Below wo.heap.size wo W)=>HWq.out j x W hx (jf hp CF.out (jg HB.out hW));have HCo:=zZ fun W (hW:Below wo.heap.size wo W) h0=>HOq.out R j x _ _ W hx (jf hp CF.out (jg HB.out hW)) (Ul.Hf hxm hW) (O4 HRw.out hW).all HOk.out hlr h0;have hdr:=sQ t c Ah j x hx;have HbE:Hid (zL (Bw t c) R (Cu t c j x (xw Ah c j)) ≠ 0->D6 (Bw t c) r (its t c Ah)=zL (Bw t c) R (Cu t c j x (xw Ah c j))):=fun h=>Ec hdr HE.out h;have HsE:Hid (zL (Bw t c) R (Cu t c j x (xw Ah c j))=0->D6 (Bw t c) (zO (Bw t c) R (Cu t c j x (xw Ah c j))) ((its t c Ah).drop (j+1))=D6 (Bw t c) r (its t c Ah)):=fun h=>Ei hdr HE.out h;have HsV:Hid ((D ++ [zU (Bw t c) R (Cu t c j x (xw Ah c j))]) ++ Ea (Bw t c) (zO (Bw t c) R (Cu t c j x (xw Ah c j))) ((its t c Ah).drop (j+1))=Ea (Bw t c) r (its t c Ah)):=Eb hdr HV.out;have HsR:Hid (D7 (Bw t c) (zO (Bw t c) R (Cu t c j x (xw Ah c j))) ((its t c Ah).drop (j+1))=D7 (Bw t c) r (its t c Ah)):=D9 hdr HRR.out;have HsO:Hid (zL (Bw t c) R (Cu t c j x (xw Ah c j))=0->Ac.Ok (zO (Bw t c) R (Cu t c j x (xw Ah c j)))):=fun h=>step_ok HOk.out h;have HsL:Hid ((zO (Bw t c) R (Cu t c j x (xw Ah c j))).length<=r.length+2 * (j+1)):=by
       have h1:=zQ (Bw t c) R (Cu t c j x (xw Ah c j));have h2:=HRl.out;show _<=_;omega
      have HNo:Hid (Ii t c j x (xw Ah c j) ≠ 0->zL (Bw t c) R (Cu t c j x (xw Ah c j))=Dt x.Av x.prior (Ii t c j x (xw Ah c j))/\zU (Bw t c) R (Cu t c j x (xw Ah c j))=Du x.Av x.prior (Ii t c j x (xw Ah c j))/\zO (Bw t c) R (Cu t c j x (xw Ah c j))=R):=fun h=>⟨zM h,zV h,zS h⟩;have HRf:=zZ fun W=>Sh.OC x.Av x.prior (Ii t c j x (xw Ah c j)) W;have hltI:(j:Int) < ((c.lines.length:Nat):Int):=by omega
      have HMx:=zZ fun W (hW:Below wo.heap.size wo W)=>And.intro (hxc.of (hW.block b hbl)) (show W.cell? ⟨kb,ko+j,none⟩=some (.bool (xw Ah c j)) from (by rw [World.cell?_of_block (w:=wo) (hW.block kb hkbl)];exact hkm));unfold Cm.bg at HMx;obtain ⟨⟨l0,l1,l2,l3,l4,l5⟩,-⟩:=HMx.out wo (Below.refl _ _);clear HE HV HRR hdr hlr HRl HOk hx hxc hxm hbl hkbl hkm HWq HOq HBl HLw HMb HOr HRz;generalize zL (Bw t c) R (Cu t c j x (xw Ah c j))=OE at *;generalize zU (Bw t c) R (Cu t c j x (xw Ah c j))=V1 at *;generalize zO (Bw t c) R (Cu t c j x (xw Ah c j))=OR at *;generalize Ii t c j x (xw Ah c j)=WY at *;generalize xw Ah c j=mb at *;generalize Dt x.Av x.prior WY=RE at *;generalize Du x.Av x.prior WY=RV at *;have hb1:=iU wo (.cells #[sS x.proc,.slice xa x.mods.length xc,iI x.date,iI x.units,iI x.Av,iI x.prior] 48);have hb2:=iU (wo.alloc (.cells #[sS x.proc,.slice xa x.mods.length xc,iI x.date,iI x.units,iI x.Av,iI x.prior] 48)) (.cells #[iI 0,iI 0,iI 0,iI 0,iI 0,iI 0,iI 0,iI 0] 45);have HL2:=zZ (tV (fK wo #[sS x.proc,.slice xa x.mods.length xc,iI x.date,iI x.units,iI x.Av,iI x.prior] 48) hb2);have HZ2':=fK (wo.alloc (.cells #[sS x.proc,.slice xa x.mods.length xc,iI x.date,iI x.units,iI x.Av,iI x.prior] 48)) #[iI 0,iI 0,iI 0,iI 0,iI 0,iI 0,iI 0,iI 0] 45;rw [show (wo.alloc (.cells #[sS x.proc,.slice xa x.mods.length xc,iI x.date,iI x.units,iI x.Av,iI x.prior] 48)).heap.size=wo.heap.size+1 by simp] at HZ2';have HZ2:=zZ HZ2';have HG2:=zZ (jg hb1 hb2);clear hb1 hb2 HZ2';go_upto_region 17 with fail
      clear x0 x1 x2 x3 x4 x5 x6 x7 y0 y1 y2 y3 y4 y5 y6 l0 l1 l2 l3 l4 l5;obtain ⟨qo,hqo⟩:∃u,u=wo.heap.size+1:=⟨_,rfl⟩;have HQo:Hid (wo.heap.size<=qo):=by show _<=qo;omega
      rw [←hqo] at HZ2 ⊢;clear hqo;generalize (wo.alloc (.cells #[sS x.proc,.slice xa x.mods.length xc,iI x.date,iI x.units,iI x.Av,iI x.prior] 48)).alloc (.cells #[iI 0,iI 0,iI 0,iI 0,iI 0,iI 0,iI 0,iI 0] 45)=w2 at *;have Bt:=zZ fun W' (hW:Below w2.heap.size w2 W')=>And.intro (HMx.out W' (jg HG2.out hW)).2 (HXY.out W' (jg HB.out (jg HG2.out hW)));have HD:=zZ (Below.drew (Below.refl w2.heap.size w2));go_cut [19] (fun s19 wx=>s19=iI WY/\Hid (Below w2.heap.size w2 wx))
      case first =>
       refine Ri.IY (by kernel_rfl) (by kernel_rfl) (by kernel_rfl) (fun Wx=>Below w2.heap.size w2 Wx) (fun kz vs wz=>(fun kx vx wx=>match kx with|0=>vx=.agg #[iI t.plan.mode,iI t.plan.Ay,iI t.plan.AR,iI t.plan.Bb,iI t.plan.AJ,.slice ma t.plan.rules.length mc,.slice fa t.Bp.length fc,.slice ea t.edits.length ec]|1=>vx=.agg #[sS c.id,sS c.mem,sS c.Br,iI c.net,iI c.does,sS c.ref,.slice (some ⟨b,lo,none⟩) c.lines.length lc]|2=>vx=iI (j:Nat)|3=>vx=.slice (some ⟨kb,ko,none⟩) c.lines.length kc|4=>vx=iI (j:Nat)|5=>vx=pP kb (ko+j)|6=>vx=.bool mb|7=>vx=iI WY|8=>vx=iI WY|_=>True:Nat->Value->World->Prop) kz (vs kz) wz) (fun kz=>[kz]) (by kernel_rfl) (fun jz vs iz vz wz hiz hz=>Ri.wI (F:=(fun kx vx wx=>match kx with|0=>vx=.agg #[iI t.plan.mode,iI t.plan.Ay,iI t.plan.AR,iI t.plan.Bb,iI t.plan.AJ,.slice ma t.plan.rules.length mc,.slice fa t.Bp.length fc,.slice ea t.edits.length ec]|1=>vx=.agg #[sS c.id,sS c.mem,sS c.Br,iI c.net,iI c.does,sS c.ref,.slice (some ⟨b,lo,none⟩) c.lines.length lc]|2=>vx=iI (j:Nat)|3=>vx=.slice (some ⟨kb,ko,none⟩) c.lines.length kc|4=>vx=iI (j:Nat)|5=>vx=pP kb (ko+j)|6=>vx=.bool mb|7=>vx=iI WY|8=>vx=iI WY|_=>True:Nat->Value->World->Prop)) jz vs iz vz wz hiz hz) HD.out ⟨⟨rfl,?_⟩,⟨rfl,?_⟩,⟨rfl,?_⟩,⟨rfl,?_⟩,⟨rfl,?_⟩,⟨rfl,?_⟩,⟨rfl,?_⟩,⟨rfl,?_⟩,⟨rfl,?_⟩,trivial⟩ ?_
       ·intro vs Wx A hA hB hpre K hK;have e4:=(hA 4).trans (show _=pP p 0 by kernel_rfl);obtain ⟨km,⟨x0,x1,x2,x3,x4,x5,x6,x7⟩,y0,y1,y2,y3,y4,y5,y6⟩:=Bt.out Wx hB;clear hA hpre;go_simp;exact hK _ _ hB rfl (fun _ _ h=>h)
       ·intro vs Wx A hA hB hpre K hK;have e5:=(hA 5).trans (show _=pP p1 0 by kernel_rfl);obtain ⟨km,⟨x0,x1,x2,x3,x4,x5,x6,x7⟩,y0,y1,y2,y3,y4,y5,y6⟩:=Bt.out Wx hB;clear hA hpre;go_simp;exact hK _ _ hB rfl (fun _ _ h=>h)
       ·intro vs Wx A hA hB hpre K hK;have e15:=(hA 15).trans (show _=iI (j:Nat) by kernel_rfl);clear hA hpre;go_simp;exact hK _ _ hB rfl (fun _ _ h=>h)
       ·intro vs Wx A hA hB hpre K hK;have e12:=(hA 12).trans (show _=Value.slice (some ⟨kb,ko,none⟩) c.lines.length kc by kernel_rfl);clear hA hpre;go_simp;exact hK _ _ hB rfl (fun _ _ h=>h)
       ·intro vs Wx A hA hB hpre K hK;have e15:=(hA 15).trans (show _=iI (j:Nat) by kernel_rfl);clear hA hpre;go_simp;exact hK _ _ hB rfl (fun _ _ h=>h)
       ·intro vs Wx A hA hB hpre K hK;have e55:=tT (hA 55) (by kernel_rfl) (hpre.1 rfl);have e56:=tT (hA 56) (by kernel_rfl) (hpre.2.1 rfl);clear hA hpre;go_simp;exact hK _ _ hB rfl (fun _ _ h=>h)
       ·intro vs Wx A hA hB hpre K hK;have e57:=tT (hA 57) (by kernel_rfl) (hpre.1 rfl);obtain ⟨km,⟨x0,x1,x2,x3,x4,x5,x6,x7⟩,y0,y1,y2,y3,y4,y5,y6⟩:=Bt.out Wx hB;clear hA hpre;go_simp;exact hK _ _ hB rfl (fun _ _ h=>h)
       ·intro vs Wx A hA hB hpre K hK;have e52:=tT (hA 52) (by kernel_rfl) (hpre.1 rfl);have e53:=tT (hA 53) (by kernel_rfl) (hpre.2.1 rfl);have e54:=tT (hA 54) (by kernel_rfl) (hpre.2.2.1 rfl);have e58:=tT (hA 58) (by kernel_rfl) (hpre.2.2.2.1 rfl);clear hA hpre;go_simp;go_at_call 29
        refine (HCw.out Wx (jg HG2.out hB)).mono ?_;rintro e w3 ⟨rfl,hg⟩;exact hK _ _ (jg hB hg) rfl (fun _ _ h=>h)
       ·intro vs Wx A hA hB hpre K hK;have e59:=tT (hA 59) (by kernel_rfl) (hpre.1 rfl);clear hA hpre;go_simp;exact hK _ _ hB rfl (fun _ _ h=>h)
       ·intro vs Wx hB hF;have hq:vs 8=iI WY:=hF 8 (by decide);have Cn:=zZ hB;clear hF hB;simp only [Ri.puts];go_simp;go_wp2_with fail
        go_meet
        exact ⟨by first|exact hq|(go_simp;done)|(go_simp;exact hq),Cn.out⟩
      case rest =>
       obtain ⟨rfl,HB3'⟩:=hcut;obtain ⟨w3,hw3⟩:∃z,z=wc:=⟨_,rfl⟩;subst hw3;have HL3:=zZ (tV HL2.out HB3'.out);have HZ3:=zZ (tV HZ2.out HB3'.out);have HG3:=zZ (jg HG2.out HB3'.out);clear Bt HD HCw HB3' HL2 HZ2 HG2 HMx;by_cases e1:WY=0
       case neg =>
        have q1:(WY != 0)=true:=by simp [e1]
        obtain ⟨rfl,rfl,rfl⟩:=HNo.out e1;clear e1 HNo HCo;obtain ⟨n0,n1,n2,n3,n4,n5⟩:=Pl.jU HL3.out;go_wp2_with fail
        try (go_at_call 30)
        refine (HRf.out w3).mono ?_;rintro e w4 ⟨rfl,hb4⟩;have HZ4:=zZ (tV HZ3.out hb4);have HG4:=zZ (jg HG3.out hb4);clear hb4 HL3 HZ3 HG3 HRf n0 n1 n2 n3 n4 n5;obtain ⟨b0,b1,b2,b3,b4,b5,b6,b7⟩:=Sh.eight HZ4.out;obtain ⟨f0,f1,f2,f3,f4,f5,f6,f7⟩:=Sh.frz HZ4.out;go_upto_region 23 with fail
        clear b0 b1 b2 b3 b4 b5 b6 b7 f0 f1 f2 f3 f4 f5 f6 f7;generalize Cg:((((((((w4.setCell ⟨qo,0,none⟩ (iI V1.al)).setCell ⟨qo,1,none⟩ (iI V1.de)).setCell ⟨qo,2,none⟩ (iI V1.cp)).setCell ⟨qo,3,none⟩ (iI V1.cn)).setCell ⟨qo,4,none⟩ (iI V1.plan)).setCell ⟨qo,5,none⟩ (iI V1.wr)).setCell ⟨qo,6,none⟩ (iI V1.pr)).setCell ⟨qo,7,none⟩ (iI V1.deny))=w6 at *;have HZ6':Hid (w6.heap[qo]?=some (.cells #[iI V1.al,iI V1.de,iI V1.cp,iI V1.cn,iI V1.plan,iI V1.wr,iI V1.pr,iI V1.deny] 45 (0,0))):=by rw [←Cg];exact Sh.BR HZ4.out
        have HG6':Hid (Below wo.heap.size wo w6):=by rw [←Cg];exact Sh.BP HG4.out qo HQo.out _ _ _ _ _ _ _ _
        have HFr6:Hid (∀k,k ≠ qo->w6.heap[k]?=w4.heap[k]?):=by rw [←Cg];exact fun k hk=>oD hk _ _ _ _ _ _ _ _
        clear Cg;have HZ6:=zZ HZ6'.out;have HG6:=zZ HG6'.out;have HW6:=zZ (O4 HRw.out HG6.out);clear HZ4 HG4 HZ6' HG6' HFr6;by_cases e2:OE=0
        case neg =>
         have q2:(OE != 0)=true:=by simp [e2]
         have hje:tC t c r Ah=OE:=by rw [HJq.out,HbE.out e2]
         have HF:Hid (tC t c r Ah=OE/\tH t c r Ah=[]/\tJ t c r Ah=[]):=by
          obtain ⟨j2,j3⟩:=HJn.out (by rw [hje];exact e2);exact ⟨hje,j2,j3⟩
         have HBf:=zZ (jf hp CF.out (jg HB.out HG6.out));clear hje e2 HJn HJo HJq HbE;go_wp2;go_ret3;obtain ⟨j1,j2,j3⟩:=HF.out;rw [j1,j2,j3];exact ⟨⟨_,_,rfl,bJ.nil _ _,Ac.cu.nil _ _⟩,by first|exact HBf.out|(rw [hp];exact HBf.out)⟩
        case pos =>
         subst e2;obtain ⟨c0,c1,c2,c3,c4,c5,c6,c7⟩:=Sh.eight HZ6.out;have hbn:=iU w6 (.cells #[iI V1.al,iI V1.de,iI V1.cp,iI V1.cn,iI V1.plan,iI V1.wr,iI V1.pr,iI V1.deny] 45);have HOa:=zZ (Aa (Aa HO.out HG6.out) hbn);have HNa:=zZ (fK w6 #[iI V1.al,iI V1.de,iI V1.cp,iI V1.cn,iI V1.plan,iI V1.wr,iI V1.pr,iI V1.deny] 45);have HGa:=zZ (jg HG6.out hbn);have HWa:=zZ (O4 HW6.out hbn);have HBa:Hid (Below w5.heap.size w5 (w6.alloc (.cells #[iI V1.al,iI V1.de,iI V1.cp,iI V1.cn,iI V1.plan,iI V1.wr,iI V1.pr,iI V1.deny] 45))):=jg HB.out HGa.out;have HSa:Hid (w5.heap.size<=(w6.alloc (.cells #[iI V1.al,iI V1.de,iI V1.cp,iI V1.cn,iI V1.plan,iI V1.wr,iI V1.pr,iI V1.deny] 45)).heap.size):=HBa.out.size;have hd6:D.length<=1000000:=by have:=HDj.out;omega
         clear hbn;go_wp2_with (at_builtin;refine wpList_plain (by rfl) (fun K hK=>?_);refine PK _ _ (by rfl) w5.heap.size (.slice oa D.length oc) D (by rfl) HOa.out w6.heap.size 1 V1 (by rfl) HNa.out hd6 HSa.out ?_)
         intro vn w7 hown hgr hat;have hlow:=Lu HOa.out hgr HSa.out;have HB7:=zZ (HBa.out.trans hlow);have HO7:=zZ hown;have HW7:=zZ (O3 HWa.out hgr (hat.imp id fun h=>by rw [h];simp));refine hK _ _ ?_;clear hK hown hgr hat hlow HOa HNa HGa HWa HBa HSa c0 c1 c2 c3 c4 c5 c6 c7;go_wp2;go_roundg (c.lines.length - (j+1))
         case rel=>exact ⟨j+1,OR,D ++ [V1],vn,_,rfl,by first|rfl|(go_simp;done),by first|rfl|go_num|(congr 1;omega),by omega,rfl,(by show _=_;rw [List.length_append,HDj.out];rfl),HsL.out,HsO.out (by first|rfl|trivial),HsE.out (by first|rfl|trivial),HsV.out,HsR.out,HO7.out,HW7.out,HB7.out⟩
         case measure=>omega
       case pos =>
        subst e1;have q1:((0:Int) != 0)=false:=by simp
        have HC1:=zZ (HCo.out w3 HG3.out rfl);clear HNo HCo HRf;obtain ⟨n0,n1,n2,n3,n4,n5⟩:=Pl.jU HL3.out;obtain ⟨⟨x0,x1,x2,x3,x4,x5,x6,x7⟩,y0,y1,y2,y3,y4,y5,y6⟩:=HXY.out w3 (jg HB.out HG3.out);go_wp2_with fail
        try (go_at_call 31)
        refine HC1.out.mono ?_;rintro e w4 ⟨⟨o1,v1,rfl,ho1⟩,hb4⟩;have HO1:=zZ ho1;have HZ4:=zZ (tV HZ3.out hb4);have HG4:=zZ (jg HG3.out hb4);have HS4:=zZ HG3.out.size;have HQw:Hid (qo < w3.heap.size):=(Array.getElem?_eq_some_iff.1 HZ3.out).1;clear hb4 ho1 HL3 HZ3 HG3 HC1 n0 n1 n2 n3 n4 n5 x0 x1 x2 x3 x4 x5 x6 x7 y0 y1 y2 y3 y4 y5 y6;obtain ⟨b0,b1,b2,b3,b4,b5,b6,b7⟩:=Sh.eight HZ4.out;obtain ⟨f0,f1,f2,f3,f4,f5,f6,f7⟩:=Sh.frz HZ4.out;go_upto_region 23 with fail
        clear b0 b1 b2 b3 b4 b5 b6 b7 f0 f1 f2 f3 f4 f5 f6 f7;have HZ6':Hid (((((((((w4.setCell ⟨qo,0,none⟩ (iI o1.al)).setCell ⟨qo,1,none⟩ (iI o1.de)).setCell ⟨qo,2,none⟩ (iI o1.cp)).setCell ⟨qo,3,none⟩ (iI o1.cn)).setCell ⟨qo,4,none⟩ (iI o1.plan)).setCell ⟨qo,5,none⟩ (iI o1.wr)).setCell ⟨qo,6,none⟩ (iI o1.pr)).setCell ⟨qo,7,none⟩ (iI o1.deny)).heap[qo]?=some (.cells #[iI o1.al,iI o1.de,iI o1.cp,iI o1.cn,iI o1.plan,iI o1.wr,iI o1.pr,iI o1.deny] 45 (0,0))):=Sh.BR HZ4.out;have HG6':Hid (Below wo.heap.size wo ((((((((w4.setCell ⟨qo,0,none⟩ (iI o1.al)).setCell ⟨qo,1,none⟩ (iI o1.de)).setCell ⟨qo,2,none⟩ (iI o1.cp)).setCell ⟨qo,3,none⟩ (iI o1.cn)).setCell ⟨qo,4,none⟩ (iI o1.plan)).setCell ⟨qo,5,none⟩ (iI o1.wr)).setCell ⟨qo,6,none⟩ (iI o1.pr)).setCell ⟨qo,7,none⟩ (iI o1.deny))):=Sh.BP HG4.out qo HQo.out _ _ _ _ _ _ _ _;have HFr6:Hid (∀k,k ≠ qo->((((((((w4.setCell ⟨qo,0,none⟩ (iI o1.al)).setCell ⟨qo,1,none⟩ (iI o1.de)).setCell ⟨qo,2,none⟩ (iI o1.cp)).setCell ⟨qo,3,none⟩ (iI o1.cn)).setCell ⟨qo,4,none⟩ (iI o1.plan)).setCell ⟨qo,5,none⟩ (iI o1.wr)).setCell ⟨qo,6,none⟩ (iI o1.pr)).setCell ⟨qo,7,none⟩ (iI o1.deny)).heap[k]?=w4.heap[k]?):=fun k hk=>oD hk _ _ _ _ _ _ _ _;have HWx:Hid (OE=0->o1=V1/\cu (fun b=>some b ≠ (Value.slice oa D.length oc).ownBlock) ((((((((w4.setCell ⟨qo,0,none⟩ (iI o1.al)).setCell ⟨qo,1,none⟩ (iI o1.de)).setCell ⟨qo,2,none⟩ (iI o1.cp)).setCell ⟨qo,3,none⟩ (iI o1.cn)).setCell ⟨qo,4,none⟩ (iI o1.plan)).setCell ⟨qo,5,none⟩ (iI o1.wr)).setCell ⟨qo,6,none⟩ (iI o1.pr)).setCell ⟨qo,7,none⟩ (iI o1.deny)) v1 OR):=fun h=>by
         obtain ⟨h1,h2⟩:=HO1.out h;refine ⟨h1,?_⟩;rcases h2 with ⟨h3,h4⟩|h3
         ·rw [h3,h4];exact O4 HRw.out HG6'.out
         ·refine Ac.Eo (Aw h3 (fun k hk _=>HFr6.out k (by have:=HQw.out;omega))) (fun b hb e=>?_);have h5:=(HO.out.lt b e.symm).2;have h6:=HS4.out;omega
        generalize ((((((((w4.setCell ⟨qo,0,none⟩ (iI o1.al)).setCell ⟨qo,1,none⟩ (iI o1.de)).setCell ⟨qo,2,none⟩ (iI o1.cp)).setCell ⟨qo,3,none⟩ (iI o1.cn)).setCell ⟨qo,4,none⟩ (iI o1.plan)).setCell ⟨qo,5,none⟩ (iI o1.wr)).setCell ⟨qo,6,none⟩ (iI o1.pr)).setCell ⟨qo,7,none⟩ (iI o1.deny))=w6 at *;have HZ6:=zZ HZ6'.out;have HG6:=zZ HG6'.out;clear HZ4 HG4 HZ6' HG6' HFr6 HO1;by_cases e2:OE=0
        case neg =>
         have q2:(OE != 0)=true:=by simp [e2]
         have hje:tC t c r Ah=OE:=by rw [HJq.out,HbE.out e2]
         have HF:Hid (tC t c r Ah=OE/\tH t c r Ah=[]/\tJ t c r Ah=[]):=by
          obtain ⟨j2,j3⟩:=HJn.out (by rw [hje];exact e2);exact ⟨hje,j2,j3⟩
         have HBf:=zZ (jf hp CF.out (jg HB.out HG6.out));clear hje e2 HJn HJo HJq HbE;go_wp2;go_ret3;obtain ⟨j1,j2,j3⟩:=HF.out;rw [j1,j2,j3];exact ⟨⟨_,_,rfl,bJ.nil _ _,Ac.cu.nil _ _⟩,by first|exact HBf.out|(rw [hp];exact HBf.out)⟩
        case pos =>
         subst e2;obtain ⟨rfl,hw6⟩:=HWx.out rfl;obtain ⟨v1a,v1c,rfl,-,-⟩:=hw6.form;have HW6:=zZ hw6;clear hw6 HWx;obtain ⟨c0,c1,c2,c3,c4,c5,c6,c7⟩:=Sh.eight HZ6.out;have hbn:=iU w6 (.cells #[iI o1.al,iI o1.de,iI o1.cp,iI o1.cn,iI o1.plan,iI o1.wr,iI o1.pr,iI o1.deny] 45);have HOa:=zZ (Aa (Aa HO.out HG6.out) hbn);have HNa:=zZ (fK w6 #[iI o1.al,iI o1.de,iI o1.cp,iI o1.cn,iI o1.plan,iI o1.wr,iI o1.pr,iI o1.deny] 45);have HGa:=zZ (jg HG6.out hbn);have HWa:=zZ (O4 HW6.out hbn);have HBa:Hid (Below w5.heap.size w5 (w6.alloc (.cells #[iI o1.al,iI o1.de,iI o1.cp,iI o1.cn,iI o1.plan,iI o1.wr,iI o1.pr,iI o1.deny] 45))):=jg HB.out HGa.out;have HSa:Hid (w5.heap.size<=(w6.alloc (.cells #[iI o1.al,iI o1.de,iI o1.cp,iI o1.cn,iI o1.plan,iI o1.wr,iI o1.pr,iI o1.deny] 45)).heap.size):=HBa.out.size;have hd6:D.length<=1000000:=by have:=HDj.out;omega
         clear hbn;go_wp2_with (at_builtin;refine wpList_plain (by rfl) (fun K hK=>?_);refine PK _ _ (by rfl) w5.heap.size (.slice oa D.length oc) D (by rfl) HOa.out w6.heap.size 1 o1 (by rfl) HNa.out hd6 HSa.out ?_)
         intro vn w7 hown hgr hat;have hlow:=Lu HOa.out hgr HSa.out;have HB7:=zZ (HBa.out.trans hlow);have HO7:=zZ hown;have HW7:=zZ (O3 HWa.out hgr (hat.imp id fun h=>by rw [h];simp));refine hK _ _ ?_;clear hK hown hgr hat hlow HOa HNa HGa HWa HBa HSa c0 c1 c2 c3 c4 c5 c6 c7;go_wp2;go_roundg (c.lines.length - (j+1))
         case rel=>exact ⟨j+1,OR,D ++ [o1],vn,_,rfl,by first|rfl|(go_simp;done),by first|rfl|go_num|(congr 1;omega),by omega,rfl,(by show _=_;rw [List.length_append,HDj.out];rfl),HsL.out,HsO.out (by first|rfl|trivial),HsE.out (by first|rfl|trivial),HsV.out,HsR.out,HO7.out,HW7.out,HB7.out⟩
         case measure=>omega
     ·have hjn:j=c.lines.length:=by omega
      have hdr:(its t c Ah).drop j=[]:=List.drop_eq_nil_of_le (by rw [qzB];omega);have hE0:tC t c r Ah=0:=by rw [HJq.out,←HE.out,hdr];rfl
      obtain ⟨jo,jr⟩:=HJo.out hE0;have HF:Hid (tC t c r Ah=0/\tH t c r Ah=D/\tJ t c r Ah=R):=⟨hE0,by rw [jo,←HV.out,hdr];exact List.append_nil D,by rw [jr,←HRR.out,hdr];rfl⟩;have hlt':¬ (j:Int) < ((c.lines.length:Nat):Int):=by omega
      have HBf:=zZ (jf hp CF.out HB.out);clear hjn hdr hE0 jo jr HE HV HRR HRl HOk HWq HOq HJq HJo HJn HDj;go_wp2;go_ret3;obtain ⟨j1,j2,j3⟩:=HF.out;rw [j1,j2,j3];exact ⟨⟨_,_,rfl,zK HO.out fun _ _=>trivial,HRw.out.all⟩,by first|exact HBf.out|(rw [hp];exact HBf.out)⟩
end Ju
end Go.Proofs.YtfbfeoplldjbpaaGreatDoor
