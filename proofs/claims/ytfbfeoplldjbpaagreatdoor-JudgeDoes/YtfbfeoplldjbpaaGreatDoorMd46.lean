/-
  Texts put together (merge.py): JROne, LRTot, LRLine.
-/
import Derived.Test.YtfbfeoplldjbpaaGreatDoorMd45
set_option linter.unusedSimpArgs false
set_option linter.unusedVariables false
set_option maxHeartbeats 16000000
set_option maxRecDepth 100000
namespace Go.Proofs.YtfbfeoplldjbpaaGreatDoor
namespace Ju
open Go.RowKit
open Ac (Row pU dJ dM jF jG DW DU left cu Own tV qL iU jg jf fK)
open Sh (Ot bD bC bK bE EP EW Dt Du member Jj)
open Cm (Ln Cl bH lnv clv bG aC)
def OnV (vr:Value) (r:List Row) (E:Int) (V:Ot) (R:List Row) (B:Nat) (w':World) (e:Ending):Prop:=
 ∃(o:Ot) (v:Value),e=.returned (.tuple #[.agg #[iI o.al,iI o.de,iI o.cp,iI o.cn,iI o.plan,iI o.wr,iI o.pr,iI o.deny],v,iI E])/\(E=0->o=V/\((v=vr/\R=r) ∨ Own B w' v R))
theorem Oo (t:Tb) (c:Cl) (r:List Row) (k:Nat) (x:Ln) (mb:Bool) (m mf me ml mx vr:Value) (w:World) (hA:dF w m mf me t) (fl:∃a k,ml=.slice a c.lines.length k) (hxm:dI All w mx x.mods) (hr:cu All w vr r) (hO:Ac.Ok r) (hl:r.length<=8000)
  (hpl:Pl.kF t.plan=0) (hz:dG t) (hxo:bG x) (hm4:x.mods.length<=1000) (hw0:Ii t c k x mb=0) :
  Calls Tryz.prog 31 #[.agg #[iI t.plan.mode,iI t.plan.Ay,iI t.plan.AR,iI t.plan.Bb,iI t.plan.AJ,m,mf,me],.agg #[sS c.id,sS c.mem,sS c.Br,iI c.net,iI c.does,sS c.ref,ml],.agg #[sS x.proc,mx,iI x.date,iI x.units,iI x.Av,iI x.prior],vr] w fun e w'=>OnV vr r (zL (Bw t c) r (Cu t c k x mb)) (zU (Bw t c) r (Cu t c k x mb)) (zO (Bw t c) r (Cu t c k x mb)) w.heap.size w' e/\Below w.heap.size w w':=by
 obtain ⟨ma,mc,fa,fc,ea,ec,rfl,rfl,rfl⟩:=hA.form;obtain ⟨la,lc,rfl⟩:=fl;obtain ⟨xa,xc,rfl,-,-⟩:=Cm.dI.form hxm;obtain ⟨ra,rc,rfl,-,-⟩:=hr.form;obtain ⟨i1,i2,i3,i4⟩:=Ac.Bl hpl;have hw:(Cu t c k x mb).why=0:=hw0;obtain ⟨Y,hY⟩:∃Y,x.date.tdiv 10000=Y:=⟨_,rfl⟩;have hyr:(Cu t c k x mb).yr=Y:=hY;obtain ⟨td1,td2⟩:-9223372036854775808<=Y/\Y<=9223372036854775807:=by
  rw [←hY];have h1:=hxo.1.1;have h2:=hxo.1.2;rcases Int.lt_or_le x.date 0 with h0|h0
  ·have e:x.date=-(-x.date):=by omega
   rw [e,Int.neg_tdiv,Int.tdiv_eq_ediv_of_nonneg (by omega)];omega
  ·rw [Int.tdiv_eq_ediv_of_nonneg h0];omega
 have HRlo:Hid (∀W,Below w.heap.size w W->cu All W (.slice ra r.length rc) r):=fun W hW=>hr.Bu hW;have HRes:Hid (∀W,Below w.heap.size w W->Calls Tryz.prog 55 #[.agg #[iI t.plan.mode,iI t.plan.Ay,iI t.plan.AR,iI t.plan.Bb,iI t.plan.AJ,.slice ma t.plan.rules.length mc],.agg #[sS x.proc,.slice xa x.mods.length xc,iI x.date,iI x.units,iI x.Av,iI x.prior],iI c.net] W fun e w'=>e=.returned (.agg #[.bool (val t c x 1 == 1),.bool (val t c x 2 == 1),iI (val t c x 3),iI (val t c x 4)])/\Below W.heap.size W w'):=fun W hW=>Ul.OD t.plan _ x _ c.net W (hA.Bu hW).1 (Ul.Hf hxm hW);have HAll:Hid (∀W,Below w.heap.size w W->Calls Tryz.prog 57 #[.slice fa t.Bp.length fc,.agg #[sS x.proc,.slice xa x.mods.length xc,iI x.date,iI x.units,iI x.Av,iI x.prior],iI c.net] W fun e w'=>e=.returned (.tuple #[iI (Fe.fP t.Bp x c.net),.bool (Fe.Bv t.Bp x c.net)])/\Below W.heap.size W w'):=fun W hW=>Fe.MV t.Bp _ x _ c.net W (hA.Bu hW).2.1 hz.1.2 (Ul.Hf hxm hW) hm4 hxo.2.1.2 hxo.2.1.1;have HRo:Hid (∀W,Below w.heap.size w W->Calls Tryz.prog 58 #[.agg #[iI t.plan.mode,iI t.plan.Ay,iI t.plan.AR,iI t.plan.Bb,iI t.plan.AJ,.slice ma t.plan.rules.length mc],.slice ra r.length rc,sS c.mem,sS c.Br,iI Y] W fun e w'=>e=.returned (.tuple #[iI (rD (Bw t c) r Y),iI (rO (Bw t c) r Y)])/\Below W.heap.size W w'):=fun W hW=>Ac.OG _ _ _ _ _ ma _ mc r c.mem c.Br Y _ W (hr.Bu hW) (by omega) hO i1 i2 i3 i4;have HBe:Hid (∀W,Calls Tryz.prog 59 #[iI (Fe.fP t.Bp x c.net),.agg #[.bool (val t c x 1 == 1),.bool (val t c x 2 == 1),iI (val t c x 3),iI (val t c x 4)],iI (rD (Bw t c) r Y),iI (rO (Bw t c) r Y),iI c.net] W fun e w'=>e=.returned (.tuple #[iI (vD (Bw t c) r (Cu t c k x mb)),iI (vC (Bw t c) r (Cu t c k x mb)),iI (vK (Bw t c) r (Cu t c k x mb)),iI (eB (Bw t c) r (Cu t c k x mb))])/\Below W.heap.size W w'):=fun W=>by
  have h:=Sh.MZ (Fe.fP t.Bp x c.net) (val t c x 1 == 1) (val t c x 2 == 1) (val t c x 3) (val t c x 4) (rD (Bw t c) r Y) (rO (Bw t c) r Y) c.net W;rw [←hyr] at h ⊢;exact h
 have HSe:Hid (∀W,Calls Tryz.prog 60 #[iI x.Av,iI (Fe.fP t.Bp x c.net),iI x.prior,iI (vD (Bw t c) r (Cu t c k x mb)),iI (vC (Bw t c) r (Cu t c k x mb)),iI (vK (Bw t c) r (Cu t c k x mb))] W fun e w'=>e=.returned (.tuple #[.agg #[iI (zU (Bw t c) r (Cu t c k x mb)).al,iI (zU (Bw t c) r (Cu t c k x mb)).de,iI (zU (Bw t c) r (Cu t c k x mb)).cp,iI (zU (Bw t c) r (Cu t c k x mb)).cn,iI (zU (Bw t c) r (Cu t c k x mb)).plan,iI (zU (Bw t c) r (Cu t c k x mb)).wr,iI (zU (Bw t c) r (Cu t c k x mb)).pr,iI (zU (Bw t c) r (Cu t c k x mb)).deny],iI (eS (Bw t c) r (Cu t c k x mb))])/\Below W.heap.size W w'):=fun W=>by
  rw [zW hw];exact Sh.OW x.Av (Fe.fP t.Bp x c.net) x.prior _ _ _ W
 have HBo:Hid (eS (Bw t c) r (Cu t c k x mb)=0->∀W,Below w.heap.size w W->Calls Tryz.prog 61 #[.slice ra r.length rc,sS c.mem,sS c.Br,iI Y,.agg #[iI (zU (Bw t c) r (Cu t c k x mb)).al,iI (zU (Bw t c) r (Cu t c k x mb)).de,iI (zU (Bw t c) r (Cu t c k x mb)).cp,iI (zU (Bw t c) r (Cu t c k x mb)).cn,iI (zU (Bw t c) r (Cu t c k x mb)).plan,iI (zU (Bw t c) r (Cu t c k x mb)).wr,iI (zU (Bw t c) r (Cu t c k x mb)).pr,iI (zU (Bw t c) r (Cu t c k x mb)).deny]] W fun e w'=>∃v',e=.returned (.tuple #[v',iI (jF r c.mem c.Br Y (zU (Bw t c) r (Cu t c k x mb)))])/\Own W.heap.size w' v' (jG r c.mem c.Br Y (zU (Bw t c) r (Cu t c k x mb)))/\Below W.heap.size W w'):=fun h W hW=>Ac.Ns r c.mem c.Br Y _ _ W (hr.Bu hW) (by omega) (zX hw h);have HE:Hid (zL (Bw t c) r (Cu t c k x mb)=if eB (Bw t c) r (Cu t c k x mb)=0 then (if eS (Bw t c) r (Cu t c k x mb)=0 then (if c.net=0 then jF r c.mem c.Br Y (zU (Bw t c) r (Cu t c k x mb)) else 0) else eS (Bw t c) r (Cu t c k x mb)) else eB (Bw t c) r (Cu t c k x mb)):=by
  rw [←hyr];exact zN hw
 have HR:Hid (zO (Bw t c) r (Cu t c k x mb)=if c.net=0 then jG r c.mem c.Br Y (zU (Bw t c) r (Cu t c k x mb)) else r):=by
  rw [←hyr];exact zT hw
 clear hpl hxo hw hyr hz hm4 hw0 i1 i2 i3 i4 hr hl hO hA hxm;generalize jF r c.mem c.Br Y (zU (Bw t c) r (Cu t c k x mb))=BE at *;generalize jG r c.mem c.Br Y (zU (Bw t c) r (Cu t c k x mb))=BV at *;generalize zL (Bw t c) r (Cu t c k x mb)=OE at *;generalize zO (Bw t c) r (Cu t c k x mb)=OR at *;generalize zU (Bw t c) r (Cu t c k x mb)=SV at *;generalize eS (Bw t c) r (Cu t c k x mb)=ES at *;generalize eB (Bw t c) r (Cu t c k x mb)=EB at *;generalize vD (Bw t c) r (Cu t c k x mb)=B1 at *;generalize vC (Bw t c) r (Cu t c k x mb)=B2 at *;generalize vK (Bw t c) r (Cu t c k x mb)=B3 at *;generalize rD (Bw t c) r Y=D at *;generalize rO (Bw t c) r Y=OO at *;generalize Fe.Bv t.Bp x c.net=PB at *;generalize Fe.fP t.Bp x c.net=AL at *;generalize (val t c x 1 == 1)=UC at *;generalize (val t c x 2 == 1)=UD at *;generalize val t c x 3=u3 at *;generalize val t c x 4=u4 at *;have hbx:Below w.heap.size w ((((w.alloc (.cells #[iI t.plan.mode,iI t.plan.Ay,iI t.plan.AR,iI t.plan.Bb,iI t.plan.AJ,.slice ma t.plan.rules.length mc,.slice fa t.Bp.length fc,.slice ea t.edits.length ec] 28)).alloc (.cells #[sS c.id,sS c.mem,sS c.Br,iI c.net,iI c.does,sS c.ref,.slice la c.lines.length lc] 31)).alloc (.cells #[sS x.proc,.slice xa x.mods.length xc,iI x.date,iI x.units,iI x.Av,iI x.prior] 48)).alloc (.cells #[iI 0,iI 0,iI 0,iI 0,iI 0,iI 0,iI 0,iI 0] 45)):=jg (jg (jg (iU _ _) (iU _ _)) (iU _ _)) (iU _ _);have hz1:=tV (fK w #[iI t.plan.mode,iI t.plan.Ay,iI t.plan.AR,iI t.plan.Bb,iI t.plan.AJ,.slice ma t.plan.rules.length mc,.slice fa t.Bp.length fc,.slice ea t.edits.length ec] 28) (jg (jg (iU _ (.cells #[sS c.id,sS c.mem,sS c.Br,iI c.net,iI c.does,sS c.ref,.slice la c.lines.length lc] 31)) (iU _ (.cells #[sS x.proc,.slice xa x.mods.length xc,iI x.date,iI x.units,iI x.Av,iI x.prior] 48))) (iU _ (.cells #[iI 0,iI 0,iI 0,iI 0,iI 0,iI 0,iI 0,iI 0] 45)));have hz2:=tV (fK (w.alloc (.cells #[iI t.plan.mode,iI t.plan.Ay,iI t.plan.AR,iI t.plan.Bb,iI t.plan.AJ,.slice ma t.plan.rules.length mc,.slice fa t.Bp.length fc,.slice ea t.edits.length ec] 28)) #[sS c.id,sS c.mem,sS c.Br,iI c.net,iI c.does,sS c.ref,.slice la c.lines.length lc] 31) (jg (iU _ (.cells #[sS x.proc,.slice xa x.mods.length xc,iI x.date,iI x.units,iI x.Av,iI x.prior] 48)) (iU _ (.cells #[iI 0,iI 0,iI 0,iI 0,iI 0,iI 0,iI 0,iI 0] 45)));have hz3:=tV (fK ((w.alloc (.cells #[iI t.plan.mode,iI t.plan.Ay,iI t.plan.AR,iI t.plan.Bb,iI t.plan.AJ,.slice ma t.plan.rules.length mc,.slice fa t.Bp.length fc,.slice ea t.edits.length ec] 28)).alloc (.cells #[sS c.id,sS c.mem,sS c.Br,iI c.net,iI c.does,sS c.ref,.slice la c.lines.length lc] 31)) #[sS x.proc,.slice xa x.mods.length xc,iI x.date,iI x.units,iI x.Av,iI x.prior] 48) (iU _ (.cells #[iI 0,iI 0,iI 0,iI 0,iI 0,iI 0,iI 0,iI 0] 45));have hz4:=fK (((w.alloc (.cells #[iI t.plan.mode,iI t.plan.Ay,iI t.plan.AR,iI t.plan.Bb,iI t.plan.AJ,.slice ma t.plan.rules.length mc,.slice fa t.Bp.length fc,.slice ea t.edits.length ec] 28)).alloc (.cells #[sS c.id,sS c.mem,sS c.Br,iI c.net,iI c.does,sS c.ref,.slice la c.lines.length lc] 31)).alloc (.cells #[sS x.proc,.slice xa x.mods.length xc,iI x.date,iI x.units,iI x.Av,iI x.prior] 48)) #[iI 0,iI 0,iI 0,iI 0,iI 0,iI 0,iI 0,iI 0] 45;rw [show (w.alloc (.cells #[iI t.plan.mode,iI t.plan.Ay,iI t.plan.AR,iI t.plan.Bb,iI t.plan.AJ,.slice ma t.plan.rules.length mc,.slice fa t.Bp.length fc,.slice ea t.edits.length ec] 28)).heap.size=w.heap.size+1 by simp] at hz2;rw [show ((w.alloc (.cells #[iI t.plan.mode,iI t.plan.Ay,iI t.plan.AR,iI t.plan.Bb,iI t.plan.AJ,.slice ma t.plan.rules.length mc,.slice fa t.Bp.length fc,.slice ea t.edits.length ec] 28)).alloc (.cells #[sS c.id,sS c.mem,sS c.Br,iI c.net,iI c.does,sS c.ref,.slice la c.lines.length lc] 31)).heap.size=w.heap.size+2 by simp] at hz3;rw [show (((w.alloc (.cells #[iI t.plan.mode,iI t.plan.Ay,iI t.plan.AR,iI t.plan.Bb,iI t.plan.AJ,.slice ma t.plan.rules.length mc,.slice fa t.Bp.length fc,.slice ea t.edits.length ec] 28)).alloc (.cells #[sS c.id,sS c.mem,sS c.Br,iI c.net,iI c.does,sS c.ref,.slice la c.lines.length lc] 31)).alloc (.cells #[sS x.proc,.slice xa x.mods.length xc,iI x.date,iI x.units,iI x.Av,iI x.prior] 48)).heap.size=w.heap.size+3 by simp] at hz4;have HX0:=zZ hz1;have HY0:=zZ hz2;have HN0:=zZ hz3;have HU0:=zZ hz4;have HB0:=zZ hbx;clear hbx hz1 hz2 hz3 hz4;go_enter Tryz.func31,Tryz.ntmps31
 go_upto_region 1 with fail
 generalize ((((w.alloc (.cells #[iI t.plan.mode,iI t.plan.Ay,iI t.plan.AR,iI t.plan.Bb,iI t.plan.AJ,.slice ma t.plan.rules.length mc,.slice fa t.Bp.length fc,.slice ea t.edits.length ec] 28)).alloc (.cells #[sS c.id,sS c.mem,sS c.Br,iI c.net,iI c.does,sS c.ref,.slice la c.lines.length lc] 31)).alloc (.cells #[sS x.proc,.slice xa x.mods.length xc,iI x.date,iI x.units,iI x.Av,iI x.prior] 48)).alloc (.cells #[iI 0,iI 0,iI 0,iI 0,iI 0,iI 0,iI 0,iI 0] 45))=w0 at *;generalize hp:w.heap.size=p at *;obtain ⟨p1,hp1⟩:∃u,u=p+1:=⟨_,rfl⟩;obtain ⟨p2,hp2⟩:∃u,u=p+2:=⟨_,rfl⟩;obtain ⟨u,hu⟩:∃u,u=p+3:=⟨_,rfl⟩;have HPU:Hid (p<=u):=by show p<=u;omega
 rw [←hp1] at HY0 ⊢;rw [←hp2] at HN0;rw [←hu] at HU0;rw [show p1+1=p2 by omega,show p2+1=u by omega];clear hp1 hp2 hu;obtain ⟨x0,x1,x2,x3,x4,x5,x6,x7⟩:=Pl.iR HX0.out;obtain ⟨y0,y1,y2,y3,y4,y5,y6⟩:=jT HY0.out;obtain ⟨n0,n1,n2,n3,n4,n5⟩:=Pl.jU HN0.out;go_wp2_with fail
 try (go_at_call 55)
 refine (HRes.out w0 HB0.out).mono ?_;rintro e w1 ⟨rfl,hb1⟩;have HB1:=zZ (jf hp HB0.out hb1);have Cz:=zZ (tV HX0.out hb1);have HY1:=zZ (tV HY0.out hb1);have HN1:=zZ (tV HN0.out hb1);have HU1:=zZ (tV HU0.out hb1);clear hb1 HB0 HX0 HY0 HN0 HU0 x0 x1 x2 x3 x4 x5 x6 x7 y0 y1 y2 y3 y4 y5 y6 n0 n1 n2 n3 n4 n5;have hbn:=iU w1 (.cells #[.bool UC,.bool UD,iI u3,iI u4] 99);have HG2:=zZ (fK w1 #[.bool UC,.bool UD,iI u3,iI u4] 99);have HB2:=zZ (jf hp HB1.out hbn);have HX2:=zZ (tV Cz.out hbn);have HY2:=zZ (tV HY1.out hbn);have HN2:=zZ (tV HN1.out hbn);have HU2:=zZ (tV HU1.out hbn);clear hbn HB1 Cz HY1 HN1 HU1 HRes;go_upto_region 2 with fail
 generalize w1.alloc (.cells #[.bool UC,.bool UD,iI u3,iI u4] 99)=w2 at *;generalize w1.heap.size=g at *;obtain ⟨x0,x1,x2,x3,x4,x5,x6,x7⟩:=Pl.iR HX2.out;obtain ⟨y0,y1,y2,y3,y4,y5,y6⟩:=jT HY2.out;obtain ⟨n0,n1,n2,n3,n4,n5⟩:=Pl.jU HN2.out;go_wp2_with fail
 try (go_at_call 57)
 refine (HAll.out w2 HB2.out).mono ?_;rintro e w3 ⟨rfl,hb3⟩;have HB3:=zZ (jf hp HB2.out hb3);have CK:=zZ (tV HX2.out hb3);have HY3:=zZ (tV HY2.out hb3);have HN3:=zZ (tV HN2.out hb3);have HG3:=zZ (tV HG2.out hb3);have HU3:=zZ (tV HU2.out hb3);clear hb3 HB2 HX2 HY2 HN2 HG2 HU2 x0 x1 x2 x3 x4 x5 x6 x7 y0 y1 y2 y3 y4 y5 y6 n0 n1 n2 n3 n4 n5;clear HAll;go_upto_region 3 with fail
 obtain ⟨x0,x1,x2,x3,x4,x5,x6,x7⟩:=Pl.iR CK.out;obtain ⟨y0,y1,y2,y3,y4,y5,y6⟩:=jT HY3.out;obtain ⟨n0,n1,n2,n3,n4,n5⟩:=Pl.jU HN3.out;go_wp2_with fail
 try rw [hY]
 try (go_at_call 58)
 refine (HRo.out w3 HB3.out).mono ?_;rintro e w4 ⟨rfl,hb4⟩;have HB4:=zZ (jf hp HB3.out hb4);have HX4:=zZ (tV CK.out hb4);have HY4:=zZ (tV HY3.out hb4);have HN4:=zZ (tV HN3.out hb4);have HG4:=zZ (tV HG3.out hb4);have HU4:=zZ (tV HU3.out hb4);clear hb4 HB3 CK HY3 HN3 HG3 HU3 x0 x1 x2 x3 x4 x5 x6 x7 y0 y1 y2 y3 y4 y5 y6 n0 n1 n2 n3 n4 n5;clear HRo;obtain ⟨y0,y1,y2,y3,y4,y5,y6⟩:=jT HY4.out;obtain ⟨g0,g1,g2,g3⟩:=jw HG4.out;go_wp2_with fail
 try (go_at_call 59)
 refine (HBe.out w4).mono ?_;rintro e w5 ⟨rfl,hb5⟩;have CF:=zZ (jf hp HB4.out hb5);have HY5:=zZ (tV HY4.out hb5);have HN5:=zZ (tV HN4.out hb5);have HG5:=zZ (tV HG4.out hb5);have HU5:=zZ (tV HU4.out hb5);clear hb5 HB4 HY4 HN4 HG4 HU4 y0 y1 y2 y3 y4 y5 y6 g0 g1 g2 g3;clear HBe;by_cases e1:EB=0
 case neg =>
  have n1:(EB != 0)=true:=by simp [e1]
  have hE:OE=EB:=by rw [HE.out,if_neg e1]
  subst hE;obtain ⟨b0,b1,b2,b3,b4,b5,b6,b7⟩:=Sh.eight HU5.out;obtain ⟨f0,f1,f2,f3,f4,f5,f6,f7⟩:=Sh.frz HU5.out;go_wp2;clear b0 b1 b2 b3 b4 b5 b6 b7 f0 f1 f2 f3 f4 f5 f6 f7;generalize Cg:((((((((w5.setCell ⟨u,0,none⟩ (iI 0)).setCell ⟨u,1,none⟩ (iI 0)).setCell ⟨u,2,none⟩ (iI 0)).setCell ⟨u,3,none⟩ (iI 0)).setCell ⟨u,4,none⟩ (iI 0)).setCell ⟨u,5,none⟩ (iI 0)).setCell ⟨u,6,none⟩ (iI 0)).setCell ⟨u,7,none⟩ (iI 0))=WF at *;have Cy:Hid (WF.heap[u]?=some (.cells #[iI 0,iI 0,iI 0,iI 0,iI 0,iI 0,iI 0,iI 0] 45 (0,0))):=by rw [←Cg];exact Sh.BR HU5.out
  have Cq:Hid (Below p w WF):=by rw [←Cg];exact Sh.BP CF.out u HPU.out _ _ _ _ _ _ _ _
  clear Cg;obtain ⟨b0,b1,b2,b3,b4,b5,b6,b7⟩:=Sh.eight Cy.out;refine bodyPost_ret (v:=.tuple #[.agg #[iI 0,iI 0,iI 0,iI 0,iI 0,iI 0,iI 0,iI 0],.slice none 0 0,iI OE]) (by simp [results,Tryz.results31,go_sem,b0,b1,b2,b3,b4,b5,b6,b7]) rfl ?_;exact ⟨⟨Sh.ot0,_,rfl,fun h=>absurd h e1⟩,by first|exact Cq.out|(rw [hp];exact Cq.out)⟩
 case pos =>
  have n1:(EB != 0)=false:=by simp [e1]
  rw [if_pos e1] at HE;clear e1;obtain ⟨n0,n1,n2,n3,n4,n5⟩:=Pl.jU HN5.out;go_wp2_with fail
  try (go_at_call 60)
  refine (HSe.out w5).mono ?_;rintro e w6 ⟨rfl,hb6⟩;have HB6:=zZ (jf hp CF.out hb6);have HY6:=zZ (tV HY5.out hb6);have HN6:=zZ (tV HN5.out hb6);have HU6:=zZ (tV HU5.out hb6);clear hb6 CF HY5 HN5 HU5 n0 n1 n2 n3 n4 n5;clear HSe;have hbn:=iU w6 (.cells #[iI SV.al,iI SV.de,iI SV.cp,iI SV.cn,iI SV.plan,iI SV.wr,iI SV.pr,iI SV.deny] 45);have HO7:=zZ (fK w6 #[iI SV.al,iI SV.de,iI SV.cp,iI SV.cn,iI SV.plan,iI SV.wr,iI SV.pr,iI SV.deny] 45);have HB7:=zZ (jf hp HB6.out hbn);have HY7:=zZ (tV HY6.out hbn);have HN7:=zZ (tV HN6.out hbn);have HU7:=zZ (tV HU6.out hbn);clear hbn HB6 HY6 HN6 HU6;go_upto_region 8 with fail
  generalize w6.alloc (.cells #[iI SV.al,iI SV.de,iI SV.cp,iI SV.cn,iI SV.plan,iI SV.wr,iI SV.pr,iI SV.deny] 45)=w7 at *;generalize w6.heap.size=ob at *;obtain ⟨y0,y1,y2,y3,y4,y5,y6⟩:=jT HY7.out;obtain ⟨c0,c1,c2,c3,c4,c5,c6,c7⟩:=Sh.eight HO7.out;by_cases e2:ES=0
  case neg =>
   have n2:(ES != 0)=true:=by simp [e2]
   have hE:OE=ES:=by rw [HE.out,if_neg e2]
   subst hE;obtain ⟨b0,b1,b2,b3,b4,b5,b6,b7⟩:=Sh.eight HU7.out;obtain ⟨f0,f1,f2,f3,f4,f5,f6,f7⟩:=Sh.frz HU7.out;go_wp2;clear b0 b1 b2 b3 b4 b5 b6 b7 f0 f1 f2 f3 f4 f5 f6 f7;generalize Cg:((((((((w7.setCell ⟨u,0,none⟩ (iI SV.al)).setCell ⟨u,1,none⟩ (iI SV.de)).setCell ⟨u,2,none⟩ (iI SV.cp)).setCell ⟨u,3,none⟩ (iI SV.cn)).setCell ⟨u,4,none⟩ (iI SV.plan)).setCell ⟨u,5,none⟩ (iI SV.wr)).setCell ⟨u,6,none⟩ (iI SV.pr)).setCell ⟨u,7,none⟩ (iI SV.deny))=WF at *;have Cy:Hid (WF.heap[u]?=some (.cells #[iI SV.al,iI SV.de,iI SV.cp,iI SV.cn,iI SV.plan,iI SV.wr,iI SV.pr,iI SV.deny] 45 (0,0))):=by rw [←Cg];exact Sh.BR HU7.out
   have Cq:Hid (Below p w WF):=by rw [←Cg];exact Sh.BP HB7.out u HPU.out _ _ _ _ _ _ _ _
   clear Cg;obtain ⟨b0,b1,b2,b3,b4,b5,b6,b7⟩:=Sh.eight Cy.out;refine bodyPost_ret (v:=.tuple #[.agg #[iI SV.al,iI SV.de,iI SV.cp,iI SV.cn,iI SV.plan,iI SV.wr,iI SV.pr,iI SV.deny],.slice ra r.length rc,iI OE]) (by simp [results,Tryz.results31,go_sem,b0,b1,b2,b3,b4,b5,b6,b7]) rfl ?_;exact ⟨⟨SV,_,rfl,fun h=>absurd h e2⟩,by first|exact Cq.out|(rw [hp];exact Cq.out)⟩
  case pos =>
   have Co:=zZ (HBo.out e2);rw [if_pos e2] at HE;clear HBo;subst e2;by_cases e3:c.net=0
   case neg =>
    have n3:(c.net != 0)=true:=by simp [e3]
    have hE:OE=0:=by rw [HE.out,if_neg e3]
    have HR0:Hid (OR=r):=by show _=_;rw [HR.out,if_neg e3]
    subst hE;clear e3;obtain ⟨b0,b1,b2,b3,b4,b5,b6,b7⟩:=Sh.eight HU7.out;obtain ⟨f0,f1,f2,f3,f4,f5,f6,f7⟩:=Sh.frz HU7.out;go_wp2;clear b0 b1 b2 b3 b4 b5 b6 b7 f0 f1 f2 f3 f4 f5 f6 f7;generalize Cg:((((((((w7.setCell ⟨u,0,none⟩ (iI SV.al)).setCell ⟨u,1,none⟩ (iI SV.de)).setCell ⟨u,2,none⟩ (iI SV.cp)).setCell ⟨u,3,none⟩ (iI SV.cn)).setCell ⟨u,4,none⟩ (iI SV.plan)).setCell ⟨u,5,none⟩ (iI SV.wr)).setCell ⟨u,6,none⟩ (iI SV.pr)).setCell ⟨u,7,none⟩ (iI SV.deny))=WF at *;have Cy:Hid (WF.heap[u]?=some (.cells #[iI SV.al,iI SV.de,iI SV.cp,iI SV.cn,iI SV.plan,iI SV.wr,iI SV.pr,iI SV.deny] 45 (0,0))):=by rw [←Cg];exact Sh.BR HU7.out
    have Cq:Hid (Below p w WF):=by rw [←Cg];exact Sh.BP HB7.out u HPU.out _ _ _ _ _ _ _ _
    clear Cg;obtain ⟨b0,b1,b2,b3,b4,b5,b6,b7⟩:=Sh.eight Cy.out;refine bodyPost_ret (v:=.tuple #[.agg #[iI SV.al,iI SV.de,iI SV.cp,iI SV.cn,iI SV.plan,iI SV.wr,iI SV.pr,iI SV.deny],.slice ra r.length rc,iI 0]) (by simp [results,Tryz.results31,go_sem,b0,b1,b2,b3,b4,b5,b6,b7]) rfl ?_;exact ⟨⟨SV,_,rfl,fun _=>⟨rfl,Or.inl ⟨rfl,HR0.out⟩⟩⟩,by first|exact Cq.out|(rw [hp];exact Cq.out)⟩
   case pos =>
    have n3:(c.net != 0)=false:=by simp [e3]
    have hE:OE=BE:=by rw [HE.out,if_pos e3]
    have hR:OR=BV:=by rw [HR.out,if_pos e3]
    subst hE;subst hR;clear e3 HE HR;go_upto_region 10 with fail
    clear y0 y1 y2 y3 y4 y5 y6 c0 c1 c2 c3 c4 c5 c6 c7;obtain ⟨y0,y1,y2,y3,y4,y5,y6⟩:=jT HY7.out;obtain ⟨n0,n1,n2,n3,n4,n5⟩:=Pl.jU HN7.out;obtain ⟨c0,c1,c2,c3,c4,c5,c6,c7⟩:=Sh.eight HO7.out;go_wp2_with fail
    try rw [hY]
    try (go_at_call 61)
    refine (Co.out w7 HB7.out).mono ?_;rintro e w8 ⟨v8,rfl,ho8,hb8⟩;have HB8:=zZ (jf hp HB7.out hb8);have HO8:=zZ (tV HO7.out hb8);have HU8:=zZ (tV HU7.out hb8);have HPW:Hid (p<=w7.heap.size):=by have h:=HB7.out.size;rw [hp] at h;exact h
    have HUo:Hid (u < w7.heap.size):=(Array.getElem?_eq_some_iff.1 HU7.out).1;have HOx:=zZ ho8;obtain ⟨va,vc,rfl,-,-⟩:=Ac.Am ho8;clear ho8 hb8 Co HB7 HY7 HN7 HU7 HO7 y0 y1 y2 y3 y4 y5 y6 n0 n1 n2 n3 n4 n5 c0 c1 c2 c3 c4 c5 c6 c7;obtain ⟨c0,c1,c2,c3,c4,c5,c6,c7⟩:=Sh.eight HO8.out;obtain ⟨b0,b1,b2,b3,b4,b5,b6,b7⟩:=Sh.eight HU8.out;obtain ⟨f0,f1,f2,f3,f4,f5,f6,f7⟩:=Sh.frz HU8.out;go_wp2;clear b0 b1 b2 b3 b4 b5 b6 b7 f0 f1 f2 f3 f4 f5 f6 f7;generalize Cg:((((((((w8.setCell ⟨u,0,none⟩ (iI SV.al)).setCell ⟨u,1,none⟩ (iI SV.de)).setCell ⟨u,2,none⟩ (iI SV.cp)).setCell ⟨u,3,none⟩ (iI SV.cn)).setCell ⟨u,4,none⟩ (iI SV.plan)).setCell ⟨u,5,none⟩ (iI SV.wr)).setCell ⟨u,6,none⟩ (iI SV.pr)).setCell ⟨u,7,none⟩ (iI SV.deny))=WF at *;have Cy:Hid (WF.heap[u]?=some (.cells #[iI SV.al,iI SV.de,iI SV.cp,iI SV.cn,iI SV.plan,iI SV.wr,iI SV.pr,iI SV.deny] 45 (0,0))):=by rw [←Cg];exact Sh.BR HU8.out
    have Cq:Hid (Below p w WF):=by rw [←Cg];exact Sh.BP HB8.out u HPU.out _ _ _ _ _ _ _ _
    have HOw:Hid (Own p WF (.slice va OR.length vc) OR):=by rw [←Cg];exact Ac.gF HPW.out (Aw HOx.out (fun k hk _=>oD (by have:=HUo.out;omega) _ _ _ _ _ _ _ _))
    clear Cg;obtain ⟨b0,b1,b2,b3,b4,b5,b6,b7⟩:=Sh.eight Cy.out;refine bodyPost_ret (v:=.tuple #[.agg #[iI SV.al,iI SV.de,iI SV.cp,iI SV.cn,iI SV.plan,iI SV.wr,iI SV.pr,iI SV.deny],.slice va OR.length vc,iI OE]) (by simp [results,Tryz.results31,go_sem,b0,b1,b2,b3,b4,b5,b6,b7]) rfl ?_;exact ⟨⟨SV,_,rfl,fun _=>⟨rfl,Or.inr (by first|exact HOw.out|(rw [hp];exact HOw.out))⟩⟩,by first|exact Cq.out|(rw [hp];exact Cq.out)⟩
end Ju
namespace Cm
open Go.RowKit
theorem Am {w:World} {B:Nat} {e:TypeId} {v:Value} {n:Nat} {xs:List Value} (h:w.ownsRow B e 1 v n xs):∃a c,v=.slice a n c:=by
 rcases h.2 with ⟨rfl,rfl⟩|⟨g,c,cur,rfl,_⟩
 ·exact ⟨_,_,rfl⟩
 ·exact ⟨_,_,rfl⟩
theorem LJ:∃i,Tryz.prog.info? 2=some i/\i.zero=some (iI 0)/\i.size=1/\i.bytes=8:=by
 have hi:=rV;cases hq:Tryz.prog.info? 2 with
 | none=>rw [hq] at hi;cases hi
 | some i =>
  rw [hq] at hi;simp only [Option.map_some,Option.some.injEq,Prod.mk.injEq] at hi;exact ⟨i,rfl,hi⟩
def KG (ls:List Ln) (j:Nat):List Value:=(List.range j).map fun q=>iI (bil ls q)
theorem KH (ls:List Ln) (j:Nat):KG ls (j+1)=KG ls j ++ [iI (bil ls j)]:=by unfold KG;rw [List.range_succ,List.map_append];rfl
theorem MK {w:World} {B:Nat} {e:TypeId} {a:Option Addr} {n c:Nat} {ls:List Ln} (h:w.ownsRow B e 1 (.slice a n c) n (KG ls n)):∀i,i < n->∃b off,a=some ⟨b,off,none⟩/\w.cell? ⟨b,off+i,none⟩=some (iI (bil ls i)):=by
 intro i hi;rcases h.2 with ⟨_,rfl⟩|⟨g,cap,cur,he,_,hg,h1,h2,hs,ht⟩
 ·omega
 ·injection he with e1 e2 e3;subst e1;refine ⟨g,0,rfl,?_⟩;rw [Nat.zero_add,cell_of_row w g i cur e (0,0) hg];have hu:(KG ls n)[i]?=some (iI (bil ls i)):=by unfold KG;rw [List.getElem?_map,List.getElem?_range hi];rfl
  rw [←ht,List.getElem?_take] at hu;split at hu
  ·simpa using hu
  ·cases hu
theorem OY (c:Cl) (m:Value) (w:World) (hm:bH All w m c.lines) (hl:c.lines.length<=1000000) :
  Calls Tryz.prog 94 #[clv c m] w fun e w'=>e=.returned (.tuple #[iI (G6 c.lines),iI (G5 c.lines)])/\Below w.heap.size w w':=by
 have HM:=zZ hm;have HBX:Hid (∀w',Below (w.heap.size+1) (w.alloc (jR c m)) w'->ay w' w.heap.size c m/\Below w.heap.size w w'):=fun w' hb=>by
  have hb':Below (w.alloc (jR c m)).heap.size (w.alloc (jR c m)) w':=by rw [show (w.alloc (jR c m)).heap.size=w.heap.size+1 from by simp];exact hb
  exact ⟨(ay.new w c m _).Bu hb',jg (iU w _) hb'⟩
 obtain ⟨a,k,rfl,h1,h2⟩:=bH.form hm;obtain ⟨i2,r1,r2,r3,r4⟩:=LJ;clear hm;go_enter Tryz.func94,Tryz.ntmps94
 go_wp2;go_loopg [4,5] (c.lines.length) (fun g lv i wr=>∃j:Nat,j<=c.lines.length/\g=c.lines.length - j/\i=iI j/\Hid (Below (w.heap.size+1) (w.alloc (jR c (.slice a c.lines.length k))) wr)/\Hid (wr.ownsRow (w.heap.size+1) 2 1 lv j (KG c.lines j)))
 case atStart=>exact ⟨0,Nat.zero_le _,rfl,rfl,Below.refl _ _,World.ownsRow_nil _ _ _ _⟩
 case round =>
  obtain ⟨j,hj,hg,rfl,HB,HO⟩:=hrel;obtain ⟨⟨x0,x1,x2,x3,x4,x5,x6⟩,hbw⟩:=HBX.out _ HB.out;have Cn:=zZ hbw;obtain ⟨la,lc,rfl⟩:=Am HO.out;by_cases hlt:j < c.lines.length
  ·have hL:=bH.move HM.out (Below.moves hbw);obtain ⟨b,o,m,rfl,hx,⟨c0,c1,c2,c3,c4,c5⟩,hr⟩:=bH.get hL j hlt;have hbj:=jy c.lines j _ hx;rw [←hbj] at c4;have hsz:=HB.out.size;rw [show (w.alloc (jR c (.slice (some ⟨b,o,none⟩) c.lines.length k))).heap.size=w.heap.size+1 from by simp] at hsz;have HSZ:=zZ hsz;clear hx hr hL hbj hbw hsz;have HOP:Hid ((wr.alloc (.cells #[iI (bil c.lines j)] 2)).ownsRow (w.heap.size+1) 2 1 (.slice la j lc) j (KG c.lines j)):=HO.out.alloc _;go_wp2_with (at_builtin;refine wpList_append_own_at _ (by rfl) _ _ 124 (by rfl) (w.heap.size+1) 2 i2 (iI 0) 1 8 Tryz.underlying124 r1 r2 r3 r4 (by rfl) (by omega) (.slice la j lc) j (KG c.lines j) (by rfl) HOP.out ⟨wr.heap.size,0,none⟩ 1 1 [iI (bil c.lines j)] (by rfl) (by rfl) (cell_one_new wr _ 2) ?c2 ?c3 ?c4 ?c5 ?_)
   case c2=>intro u hu;simp at hu;subst hu;rfl
   case c3=>simp only [maxLen];omega
   case c4=>omega
   case c5=>have:=HSZ.out;simp;omega
   intro v7 w7 hown hgrow hnil hat;rw [←KH] at hown;have HO7:=zZ hown;have HB7:Hid (Below (w.heap.size+1) (w.alloc (jR c (.slice (some ⟨b,o,none⟩) c.lines.length k))) w7):=by
    have hs:=HSZ.out;exact (HB.out.alloc hs _).grown hgrow (by simp;omega) fun q hq=>(HOP.out.lt q hq).1
   obtain ⟨va,vc,rfl⟩:=Am hown;clear hown hgrow hnil hat;go_wp2;go_roundg (c.lines.length - (j+1))
   case rel=>exact ⟨j+1,by omega,rfl,by go_num,HB7.out,HO7.out⟩
   case measure=>omega
  ·have hjj:j=c.lines.length:=by omega
   subst hjj;have HS:=zZ (Ce.OX la c.lines.length lc (bil c.lines) wr (by omega) (MK HO.out));have HV:Hid (G6 c.lines=if Ce.Gt (bil c.lines) c.lines.length=0 then Ce.Gu (bil c.lines) c.lines.length else 0):=rfl;have HE:Hid (G5 c.lines=if Ce.Gt (bil c.lines) c.lines.length=0 then 0 else 8):=rfl;generalize Ce.Gt (bil c.lines) c.lines.length=E at *;generalize Ce.Gu (bil c.lines) c.lines.length=V at *;by_cases he:E=0
   ·rw [if_pos he] at HV HE;obtain rfl:=he;go_wp2_with (go_at_call 137;refine (HS.out).mono ?_;rintro e w' ⟨rfl,rfl⟩)
    go_ret2;exact ⟨by rw [HV.out,HE.out];rfl,Cn.out⟩
   ·rw [if_neg he] at HV HE;have hb:(E != 0)=true:=by simpa using he
    go_wp2_with (go_at_call 137;refine (HS.out).mono ?_;rintro e w' ⟨rfl,rfl⟩)
    go_ret2;exact ⟨by rw [HV.out,HE.out];rfl,Cn.out⟩
end Cm
namespace Cm
open Go.RowKit
theorem KR (b c:Bool) (h:b=true ↔ c=true):b=c:=Bool.eq_iff_iff.2 h
theorem MF (x:Ln):yh x=(Ce.good x.Av && (decide (0<=x.prior) && decide (x.prior<=x.Av))):=by
 unfold yh;apply KR;simp only [Bool.and_eq_true,decide_eq_true_eq,Ce.ql];omega
def Md (l:List Tx) (k:Nat):Bool:=(l.take k).all fun x=>lM x 2 2
theorem MC (l:List Tx) (k:Nat) (c:Tx) (h:l[k]?=some c) (hk:Md l k=true):Md l (k+1)=lM c 2 2:=by
 unfold Md at *;rw [List.take_add_one,h];simp_all
theorem Me (l:List Tx) (k:Nat) (h:l.length<=4) (hk:l.length<=k):xQ l=Md l k:=by
 unfold xQ Md;rw [List.take_of_length_le hk,decide_eq_true h];rfl
theorem MB (l:List Tx) (k:Nat) (hk:Md l k=false):xQ l=false:=by
 unfold Md at hk;have:(l.all fun x=>lM x 2 2)=false:=by
  rw [List.all_eq_false] at hk ⊢;obtain ⟨x,hx,hc⟩:=hk;exact ⟨x,List.mem_of_mem_take hx,hc⟩
 unfold xQ;rw [this];simp
theorem Oi (x : Ln) (m : Value) (w : World) (hm : dI All w m x.mods) (hx : bG x) :
    Calls Tryz.prog 93 #[lnv x m] w fun e w'=>e=.returned (iI (vS x))/\Below w.heap.size w w':=by
  obtain ⟨i1,i2,i3,i4,z1,z2,z3⟩:=hx;have HC:=zZ fun w=>NG x.proc 5 5 w (by omega);have HM:=zZ hm;have HZ:=zZ z3;have HMO:=zZ fun o=>dI.move hm (Below.moves (iU w o));have HB:=zZ fun o=>iU w o;have H9:=zZ (@vP x);have H7:=zZ (@vN x);have H3:=zZ (@vM x);have H8:=zZ (@vO x);have H0:=zZ (@vJ x);obtain ⟨a,c,rfl,f1,f2⟩:=dI.form hm;clear hm i1 i2 i3 i4 z1 z2 z3;generalize hR:vS x=R at *;clear hR;have HD:=zZ fun w=>Da.NP x.date w;cases h1:lM x.proc 5 5
  · rw [h1] at HC
    rw [H9.out (by unfold lU;rw [h1];rfl)];clear h1;clear H9 H7 H3 H8 H0;go_enter Tryz.func93,Tryz.ntmps93
    go_wp2_with (go_at_call 50;refine (HC.out _).mono ?_;rintro e w' ⟨rfl,rfl⟩)
    go_loopg [3,4] 1 (fun g ok i wr=>g=1/\ok=.bool false/\i=iI 0/\wr=w.alloc (.cells #[sS x.proc,.slice a x.mods.length c,iI x.date,iI x.units,iI x.Av,iI x.prior] 48))
    case atStart=>exact ⟨rfl,rfl,rfl,rfl⟩
    case round =>
      obtain ⟨_,rfl,rfl,hw⟩:=hrel;rw [hw];clear hw wr;by_cases hlt:0 < x.mods.length
      · go_wp2
        go_ret;exact ⟨rfl,HB.out _⟩
      · have hlt':¬ (0:Int) < (x.mods.length:Int):=by omega
        first
          | (exfalso;omega)
          | (go_wp2
             go_ret;exact ⟨rfl,HB.out _⟩)
  rw [h1] at HC;by_cases h4:x.mods.length<=4
  case neg =>
    have d4:decide ((x.mods.length:Int)<=4)=false:=decide_eq_false (by omega);have h4':¬ (x.mods.length:Int)<=4:=by omega
    rw [H9.out (by unfold lU;rw [x9 _ h4,Bool.and_false])];clear h1;clear H9 H7 H3 H8 H0;go_enter Tryz.func93,Tryz.ntmps93
    go_wp2_with (go_at_call 50;refine (HC.out _).mono ?_;rintro e w' ⟨rfl,rfl⟩)
    go_loopg [3,4] 1 (fun g ok i wr=>g=1/\ok=.bool false/\i=iI 0/\wr=w.alloc (.cells #[sS x.proc,.slice a x.mods.length c,iI x.date,iI x.units,iI x.Av,iI x.prior] 48))
    case atStart=>exact ⟨rfl,rfl,rfl,rfl⟩
    case round =>
      obtain ⟨_,rfl,rfl,hw⟩:=hrel;rw [hw];clear hw wr;by_cases hlt:0 < x.mods.length
      · go_wp2
        go_ret;exact ⟨rfl,HB.out _⟩
      · have hlt':¬ (0:Int) < (x.mods.length:Int):=by omega
        first
          | (exfalso;omega)
          | (go_wp2
             go_ret;exact ⟨rfl,HB.out _⟩)
  have d4:decide ((x.mods.length:Int)<=4)=true:=decide_eq_true (by omega);have h4':(x.mods.length:Int)<=4:=by omega
  have HK:=zZ (MC x.mods);have HA:=zZ (fun k=>Me x.mods k h4);have HN:=zZ (MB x.mods);have HBX:Hid (∀w',Below (w.alloc (.cells #[sS x.proc,.slice a x.mods.length c,iI x.date,iI x.units,iI x.Av,iI x.prior] 48)).heap.size (w.alloc (.cells #[sS x.proc,.slice a x.mods.length c,iI x.date,iI x.units,iI x.Av,iI x.prior] 48)) w'->bf w' w.heap.size x (.slice a x.mods.length c)):=fun w' hb=>(bf.new w x _ _).Bu hb;unfold lU at H9 H7 H3 H8 H0;rw [h1,Bool.true_and] at H9 H7 H3 H8 H0;clear h1;go_enter Tryz.func93,Tryz.ntmps93
  go_wp2_with (go_at_call 50;refine (HC.out _).mono ?_;rintro e w' ⟨rfl,rfl⟩)
  go_loopg [3,4] (x.mods.length+1) (fun g ok i wr=>∃k:Nat,∃b:Bool,k<=x.mods.length/\g=x.mods.length+1 - k/\i=iI k/\ok=.bool b/\Hid (Md x.mods k=b)/\wr=w.alloc (.cells #[sS x.proc,.slice a x.mods.length c,iI x.date,iI x.units,iI x.Av,iI x.prior] 48))
  case atStart=>exact ⟨0,true,Nat.zero_le _,rfl,rfl,rfl,rfl,rfl⟩
  case round =>
    obtain ⟨k,b,hk,hg,rfl,rfl,HQ,hw⟩:=hrel;rw [hw];clear hw wr;cases b
    · have HE:=zZ (H9.out (HN.out k HQ.out))
      clear H9 H7 H3 H8 H0;by_cases hlt:k < x.mods.length
      · go_wp2
        go_ret;exact ⟨by rw [HE.out];rfl,HB.out _⟩
      · have hlt':¬ (k:Int) < (x.mods.length:Int):=by omega
        go_wp2;go_ret;exact ⟨by rw [HE.out];rfl,HB.out _⟩
    by_cases hlt:k < x.mods.length
    · obtain ⟨b,o,rfl,hx,hu⟩:=He (HMO.out (.cells #[sS x.proc,.slice a x.mods.length c,iI x.date,iI x.units,iI x.Av,iI x.prior] 48)) k hlt
      have hq:=HZ.out _ (List.mem_of_getElem? hx);have hne:b ≠ w.heap.size:=by
        obtain ⟨b',o',e,-,hu'⟩:=He HM.out k hlt;have hl:=World.block_lt_of_cell? w _ hu';injection e with e;injection e with e1 e2;subst e1;exact Nat.ne_of_lt hl
      have HC2:=zZ fun w=>NG x.mods[k] 2 2 w (by omega);have HQ2:=zZ (HK.out k _ hx HQ.out);clear hq hx;obtain ⟨B,hB⟩:∃B,B=lM x.mods[k] 2 2:=⟨_,rfl⟩;rw [←hB] at HC2 HQ2;clear hB;go_wp2_with (go_at_call 50;refine (HC2.out _).mono ?_;rintro e w' ⟨rfl,rfl⟩)
      go_roundg (x.mods.length+1 - (k+1))
      case rel=>exact ⟨k+1,B,by omega,rfl,by go_num,rfl,HQ2.out,rfl⟩
      case measure=>omega
    · have hlt':¬ (k:Int) < (x.mods.length:Int):=by omega
      have hcd:xQ x.mods=true:=(HA.out k (by omega)).trans HQ.out;cases h3:Da.good x.date
      · rw [h3] at HD
        have HE:=zZ (H7.out hcd h3);clear hcd h3 H9 H7 H3 H8 H0;go_wp2_with (first|(go_at_call 115;refine (HD.out _).mono ?_;rintro e w1 ⟨rfl,hb⟩;obtain ⟨b0,b1,b2,b3,b4,b5⟩:=HBX.out _ hb;have hb2:=zZ hb;clear hb))
        go_ret;exact ⟨by rw [HE.out];rfl,jg (HB.out _) hb2.out⟩
      rw [h3] at HD;by_cases h5:x.units < 1
      · have d5:decide (x.units < 1)=true:=decide_eq_true h5
        have HE:=zZ (H3.out hcd h3 (by unfold Hq;rw [decide_eq_false (by omega)];rfl));clear hcd h3 H9 H7 H3 H8 H0;go_wp2_with (first|(go_at_call 115;refine (HD.out _).mono ?_;rintro e w1 ⟨rfl,hb⟩;obtain ⟨b0,b1,b2,b3,b4,b5⟩:=HBX.out _ hb;have hb2:=zZ hb;clear hb))
        go_ret;exact ⟨by rw [HE.out];rfl,jg (HB.out _) hb2.out⟩
      have d5:decide (x.units < 1)=false:=decide_eq_false h5;by_cases h6:9999 < x.units
      · have d6:decide (9999 < x.units)=true:=decide_eq_true h6
        have HE:=zZ (H3.out hcd h3 (by unfold Hq;rw [decide_eq_false (p:=x.units<=9999) (by omega),Bool.and_false]));clear hcd h3 H9 H7 H3 H8 H0;go_wp2_with (first|(go_at_call 115;refine (HD.out _).mono ?_;rintro e w1 ⟨rfl,hb⟩;obtain ⟨b0,b1,b2,b3,b4,b5⟩:=HBX.out _ hb;have hb2:=zZ hb;clear hb))
        go_ret;exact ⟨by rw [HE.out];rfl,jg (HB.out _) hb2.out⟩
      have d6:decide (9999 < x.units)=false:=decide_eq_false h6;have hu:Hq x.units=true:=by unfold Hq;rw [decide_eq_true (by omega),decide_eq_true (by omega)];rfl
      rw [MF] at H8 H0;cases h7:Ce.good x.Av
      · have HE:=zZ (H8.out hcd h3 hu (by rw [h7];rfl))
        clear hcd h3 hu H9 H7 H3 H8 H0;go_wp2_with (first|(go_at_call 115;refine (HD.out _).mono ?_;rintro e w1 ⟨rfl,hb⟩;obtain ⟨b0,b1,b2,b3,b4,b5⟩:=HBX.out _ hb;have hb2:=zZ hb;clear hb)|(go_at_call 52;refine (Ce.NM _ _).mono ?_;rintro e w2 ⟨rfl,rfl⟩))
        go_ret;exact ⟨by rw [HE.out];rfl,jg (HB.out _) hb2.out⟩
      by_cases h8:x.prior < 0
      · have d8:decide (x.prior < 0)=true:=decide_eq_true h8
        have HE:=zZ (H8.out hcd h3 hu (by rw [h7,decide_eq_false (p:=0<=x.prior) (by omega)];rfl));clear hcd h3 hu H9 H7 H3 H8 H0;go_wp2_with (first|(go_at_call 115;refine (HD.out _).mono ?_;rintro e w1 ⟨rfl,hb⟩;obtain ⟨b0,b1,b2,b3,b4,b5⟩:=HBX.out _ hb;have hb2:=zZ hb;clear hb)|(go_at_call 52;refine (Ce.NM _ _).mono ?_;rintro e w2 ⟨rfl,rfl⟩))
        go_ret;exact ⟨by rw [HE.out];rfl,jg (HB.out _) hb2.out⟩
      have d8:decide (x.prior < 0)=false:=decide_eq_false h8;by_cases h9:x.Av < x.prior
      · have d9:decide (x.Av < x.prior)=true:=decide_eq_true h9
        have HE:=zZ (H8.out hcd h3 hu (by rw [decide_eq_false (p:=x.prior<=x.Av) (by omega),Bool.and_false,Bool.and_false]));clear hcd h3 hu H9 H7 H3 H8 H0;go_wp2_with (first|(go_at_call 115;refine (HD.out _).mono ?_;rintro e w1 ⟨rfl,hb⟩;obtain ⟨b0,b1,b2,b3,b4,b5⟩:=HBX.out _ hb;have hb2:=zZ hb;clear hb)|(go_at_call 52;refine (Ce.NM _ _).mono ?_;rintro e w2 ⟨rfl,rfl⟩))
        go_ret;exact ⟨by rw [HE.out];rfl,jg (HB.out _) hb2.out⟩
      have d9:decide (x.Av < x.prior)=false:=decide_eq_false h9;have HE:=zZ (H0.out hcd h3 hu (by rw [h7,decide_eq_true (p:=0<=x.prior) (by omega),decide_eq_true (p:=x.prior<=x.Av) (by omega)];rfl));clear hcd h3 hu H9 H7 H3 H8 H0;go_wp2_with (first|(go_at_call 115;refine (HD.out _).mono ?_;rintro e w1 ⟨rfl,hb⟩;obtain ⟨b0,b1,b2,b3,b4,b5⟩:=HBX.out _ hb;have hb2:=zZ hb;clear hb)|(go_at_call 52;refine (Ce.NM _ _).mono ?_;rintro e w2 ⟨rfl,rfl⟩))
      go_ret;exact ⟨by rw [HE.out];rfl,jg (HB.out _) hb2.out⟩
end Cm
end Go.Proofs.YtfbfeoplldjbpaaGreatDoor
