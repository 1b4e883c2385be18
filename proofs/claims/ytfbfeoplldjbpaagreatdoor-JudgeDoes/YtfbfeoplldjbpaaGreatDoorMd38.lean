/-
  Texts put together (merge.py): JLight, JLaws, JSame, YSame, JApp, URKid.
-/
import Derived.Test.YtfbfeoplldjbpaaGreatDoorMd37
set_option linter.unusedSimpArgs false
set_option linter.unusedVariables false
set_option maxHeartbeats 16000000
set_option maxRecDepth 100000
namespace Go.Proofs.YtfbfeoplldjbpaaGreatDoor
namespace Ju
open Go.RowKit
open Ac (Row pU dJ dM jF jG DW DU left cu Own tV qL iU jg jf fK)
open Sh (Ot bD bC bK bE EP EW Dt Du member Jj)
open Cm (Ln Cl bH lnv clv bG aC)
def LtP (c:Cl) (r:List Row) (Ah:List Ln):Prop:=r.length<=100/\((∀x ∈ c.lines,Tw.aZ x)/\c.lines.length<=3000)/\(∀x ∈ Ah,Tw.aZ x)/\Ah.length<=3000
def LtV (c:Cl) (r:List Row) (Ah:List Ln) (e:Ending):Prop:=∃n:Int,e=.returned (iI n)/\(n<=0->LtP c r Ah)
theorem wW (c:Cl) (r:List Row) (Ah:List Ln):LtV c r Ah (.returned (iI 1)):=⟨1,rfl,fun h=>absurd h (by decide)⟩
theorem kV {w:World} {g:Nat} {v u:Value} {c:Cl} {l:List Ln} (h:w.heap[g]?=some (.cells #[.string (mk c.id),.string (mk c.mem),.string (mk c.Br),iI c.net,iI c.does,.string (mk c.ref),v,.string ByteArray.empty,.string ByteArray.empty,.string ByteArray.empty,iI 0,iI 0,.string ByteArray.empty,u] 31 (0,0))) (hc:bH All w v c.lines) (hl:bH All w u l):Cm.aG All w (.slice (some ⟨g,0,none⟩) 2 2) [c,⟨[],[],[],0,0,[],l⟩]:=by
 refine ⟨_,2,rfl,by simp,by simp [maxLen],Or.inr ⟨g,0,rfl,trivial,(Array.getElem?_eq_some_iff.1 h).1,fun j x hj=>?_⟩⟩;match j,hj with
 | 0,hj =>
  obtain rfl:=Option.some.inj hj;refine ⟨v,⟨?_,?_,?_,?_,?_,?_,?_⟩,hc⟩<;>(rw [cell_of_row w g _ _ _ (0,0) h];rfl)
 | 1,hj =>
  obtain rfl:=Option.some.inj hj;refine ⟨u,⟨?_,?_,?_,?_,?_,?_,?_⟩,hl⟩<;>(rw [cell_of_row w g _ _ _ (0,0) h];rfl)
 | n+2,hj=>simp at hj
theorem xM (t:Tx):(mk t).size=t.length:=by simp [mk,ByteArray.size]
theorem iW (p:Nat) (w:World) (q:Nat):Below p w (w.drewN q):=⟨rfl,rfl,rfl,Nat.le_refl _,fun _ _=>rfl⟩
theorem tY {w:World} {g:Nat} {o:Obj} (h:w.heap[g]?=some o) (q:Nat):(w.drewN q).heap[g]?=some o:=h
theorem iV {w:World} (q:Nat):Below w.heap.size w (w.drewN q):=iW _ _ _
theorem vH (t:Tb) (c:Cl) (r:List Row) (Ah:List Ln) (m mf me ml vr va:Value) (w:World) (hA:dF w m mf me t) (hL:bH All w ml c.lines) (hR:cu All w vr r) (hV:bH All w va Ah) (hz:dG t) (hc:aC c) (hx:∀x ∈ Ah,bG x) (hxl:Ah.length<=281474976710656) :
  Calls Tryz.prog 7 #[.agg #[iI t.plan.mode,iI t.plan.Ay,iI t.plan.AR,iI t.plan.Bb,iI t.plan.AJ,m,mf,me],.agg #[.string (mk c.id),.string (mk c.mem),.string (mk c.Br),iI c.net,iI c.does,.string (mk c.ref),ml],vr,va] w fun e w'=>LtV c r Ah e/\Below w.heap.size w w':=by
 obtain ⟨k1,k2,k3⟩:=hA.nums;obtain ⟨ma,mc,fa,fc,ea,ec,rfl,rfl,rfl⟩:=hA.form;obtain ⟨la,lc,rfl,hl1,hl2⟩:=Cm.bH.form hL;obtain ⟨ra,rc,rfl,hr1,hr2⟩:=hR.form;obtain ⟨aa,ac,rfl,ha1,ha2⟩:=Cm.bH.form hV;have HWp:=zZ fun W (hW:Below w.heap.size w W)=>Pl.Ic t.plan _ W (hA.Bu hW).1;have HFe:=zZ fun W (hW:Below w.heap.size w W)=>(hA.Bu hW).2.1;have HEd:=zZ fun W (hW:Below w.heap.size w W)=>(hA.Bu hW).2.2;have HRw:=zZ fun W (hW:Below w.heap.size w W)=>hR.Bu hW;have HZf:=zZ hz.1.1;have HZe:=zZ hz.2.1;have HWc:Hid (∀(W:World) (g:Nat),Below w.heap.size w W->W.heap[g]?=some (.cells #[.string (mk c.id),.string (mk c.mem),.string (mk c.Br),iI c.net,iI c.does,.string (mk c.ref),.slice la c.lines.length lc,.string ⟨#[]⟩,.string ⟨#[]⟩,.string ⟨#[]⟩,iI 0,iI 0,.string ⟨#[]⟩,.slice aa Ah.length ac] 31 (0,0))->Calls Tryz.prog 18 #[.slice (some ⟨g,0,none⟩) 2 2,iI 80] W fun e w'=>(∃n:Int,e=.returned (iI n)/\(n<=80->((∀x ∈ c.lines,Tw.aZ x)/\c.lines.length<=3000)/\(∀x ∈ Ah,Tw.aZ x)/\Ah.length<=3000))/\Below W.heap.size W w'):=fun W g hb hg=>by
  refine (Cm.Ic 80 (by omega) (by omega) _ _ W (kV hg (hL.move (Below.moves hb)) (hV.move (Below.moves hb))) (fun x hx1=>?_)).mono ?_
  ·rcases List.mem_cons.1 hx1 with rfl|hx1
   ·exact hc
   ·obtain rfl:x=_:=by simpa using hx1
    exact ⟨⟨by simp,by simp⟩,⟨by simp,by simp⟩,by simp,by simp,by simp,by simp,hxl,hx⟩
  ·rintro e w' ⟨⟨n,rfl,h1⟩,h2⟩;refine ⟨⟨n,rfl,fun hn=>?_⟩,h2⟩;obtain ⟨q1,q2⟩:=h1 hn _ (List.mem_cons_self ..);obtain ⟨q3,q4⟩:=h1 hn _ (List.mem_cons_of_mem _ (List.mem_cons_self ..));have hok:=hc.2.2.2.2.2.2.2;exact ⟨⟨fun x hx2=>⟨(hok x hx2).1.1,(hok x hx2).1.2,q2 x hx2⟩,q1⟩,fun x hx2=>⟨(hx x hx2).1.1,(hx x hx2).1.2,q4 x hx2⟩,q3⟩
 clear hA hL hR hV hz hc hx;have hbx:Below w.heap.size w ((w.alloc (.cells #[iI t.plan.mode,iI t.plan.Ay,iI t.plan.AR,iI t.plan.Bb,iI t.plan.AJ,.slice ma t.plan.rules.length mc,.slice fa t.Bp.length fc,.slice ea t.edits.length ec] 28)).alloc (.cells #[.string (mk c.id),.string (mk c.mem),.string (mk c.Br),iI c.net,iI c.does,.string (mk c.ref),.slice la c.lines.length lc] 31)):=jg (iU _ _) (iU _ _);have hz1:=tV (fK w #[iI t.plan.mode,iI t.plan.Ay,iI t.plan.AR,iI t.plan.Bb,iI t.plan.AJ,.slice ma t.plan.rules.length mc,.slice fa t.Bp.length fc,.slice ea t.edits.length ec] 28) (iU _ (.cells #[.string (mk c.id),.string (mk c.mem),.string (mk c.Br),iI c.net,iI c.does,.string (mk c.ref),.slice la c.lines.length lc] 31));have hz2:=fK (w.alloc (.cells #[iI t.plan.mode,iI t.plan.Ay,iI t.plan.AR,iI t.plan.Bb,iI t.plan.AJ,.slice ma t.plan.rules.length mc,.slice fa t.Bp.length fc,.slice ea t.edits.length ec] 28)) #[.string (mk c.id),.string (mk c.mem),.string (mk c.Br),iI c.net,iI c.does,.string (mk c.ref),.slice la c.lines.length lc] 31;rw [show (w.alloc (.cells #[iI t.plan.mode,iI t.plan.Ay,iI t.plan.AR,iI t.plan.Bb,iI t.plan.AJ,.slice ma t.plan.rules.length mc,.slice fa t.Bp.length fc,.slice ea t.edits.length ec] 28)).heap.size=w.heap.size+1 by simp] at hz2;have HX:=zZ hz1;have HY:=zZ hz2;have HB0:=zZ hbx;clear hbx hz1 hz2;go_enter Tryz.func7,Tryz.ntmps7
 go_upto_region 1 with fail
 generalize ((w.alloc (.cells #[iI t.plan.mode,iI t.plan.Ay,iI t.plan.AR,iI t.plan.Bb,iI t.plan.AJ,.slice ma t.plan.rules.length mc,.slice fa t.Bp.length fc,.slice ea t.edits.length ec] 28)).alloc (.cells #[.string (mk c.id),.string (mk c.mem),.string (mk c.Br),iI c.net,iI c.does,.string (mk c.ref),.slice la c.lines.length lc] 31))=W at *;generalize hp:w.heap.size=p at *;obtain ⟨p1,hp1⟩:∃u,u=p+1:=⟨_,rfl⟩;rw [←hp1] at HY ⊢;clear hp1;obtain ⟨x0,x1,x2,x3,x4,x5,x6,x7⟩:=Pl.iR HX.out;go_wp2_with fail
 try (go_at_call 17)
 refine (HWp.out W HB0.out).mono ?_;rintro e w1 ⟨⟨n0,rfl,-⟩,hb1⟩;have HB1:=zZ (jf hp HB0.out hb1);have Cz:=zZ (tV HX.out hb1);have HY1:=zZ (tV HY.out hb1);clear hb1 HX HY HB0 HWp x0 x1 x2 x3 x4 x5 x6 x7;obtain ⟨x0,x1,x2,x3,x4,x5,x6,x7⟩:=Pl.iR Cz.out;by_cases g1:(300:Int) < n0
 ·go_wp2;go_ret;exact ⟨wW _ _ _,by first|exact HB1.out|(rw [hp];exact HB1.out)⟩
 by_cases g2:(100:Int) < (t.Bp.length:Int)
 ·go_wp2;go_ret;exact ⟨wW _ _ _,by first|exact HB1.out|(rw [hp];exact HB1.out)⟩
 by_cases g3:(60:Int) < (t.edits.length:Int)
 ·go_wp2;go_ret;exact ⟨wW _ _ _,by first|exact HB1.out|(rw [hp];exact HB1.out)⟩
 by_cases g4:(100:Int) < (r.length:Int)
 ·go_wp2;go_ret;exact ⟨wW _ _ _,by first|exact HB1.out|(rw [hp];exact HB1.out)⟩
 go_wp2;clear x0 x1 x2 x3 x4 x5 x6 x7;go_loopg [9] (t.Bp.length) (fun g i wr=>∃n:Nat,n<=t.Bp.length/\g=t.Bp.length - n/\i=iI (n:Nat)/\Hid (Below p w wr)/\Hid (wr.heap[p]?=some (.cells #[iI t.plan.mode,iI t.plan.Ay,iI t.plan.AR,iI t.plan.Bb,iI t.plan.AJ,.slice ma t.plan.rules.length mc,.slice fa t.Bp.length fc,.slice ea t.edits.length ec] 28 (0,0)))/\Hid (wr.heap[p1]?=some (.cells #[.string (mk c.id),.string (mk c.mem),.string (mk c.Br),iI c.net,iI c.does,.string (mk c.ref),.slice la c.lines.length lc] 31 (0,0))))
 case atStart=>exact ⟨0,Nat.zero_le _,rfl,rfl,HB1.out,Cz.out,HY1.out⟩
 case round =>
  obtain ⟨n,hn,hgk,rfl,HB,HX,HY⟩:=hrel;obtain ⟨x0,x1,x2,x3,x4,x5,x6,x7⟩:=Pl.iR HX.out;have hpl:p < wr.heap.size:=(Array.getElem?_eq_some_iff.1 HX.out).1;by_cases hlt:n < t.Bp.length
  ·have hltz:(n:Int) < (t.Bp.length:Int):=by omega
   obtain ⟨b,oo,ha,hbs,-,hcc⟩:=Fe.aU.get (HFe.out wr HB.out) n hlt;subst ha;have HO:=HZf.out t.Bp[n] (List.getElem_mem hlt);generalize t.Bp[n]=x at *;unfold Fe.aS at hcc;obtain ⟨c0,c1,c2,c3,c4⟩:=hcc;obtain ⟨⟨o1,o2⟩,-⟩:=HO;have s1:=xM x.proc;have s2:=xM x.mod;have s3:x.proc.length+x.mod.length<=9223372036854775807:=by omega
   have sw:IntKind.i64.wrap ((x.proc.length:Int)+(x.mod.length:Int))=(x.proc.length:Int)+(x.mod.length:Int):=by rw [IntKind.wrap_i64];omega
   have HDq:=zZ fun q=>(iV (w:=wr) q);by_cases h1:(60:Int) < (x.proc.length:Int)+(x.mod.length:Int)
   ·go_wp2_with fail
    go_quiet (fail)
    go_wp2;go_ret;exact ⟨wW _ _ _,by first|exact (HB.out.trans (iW _ _ _))|(rw [hp];exact (HB.out.trans (iW _ _ _)))⟩
   ·go_wp2_with fail
    go_quiet (fail)
    go_wp2;go_roundg (t.Bp.length - (n+1))
    case measure=>omega
    case rel=>exact ⟨n+1,by omega,rfl,by first|rfl|go_num|(congr 1;omega),(HB.out.trans (iW _ _ _)),(tY HX.out _),(tY HY.out _)⟩
  ·have hltz:¬ (n:Int) < (t.Bp.length:Int):=by omega
   obtain ⟨w2,hw2⟩:∃z,z=wr:=⟨_,rfl⟩;subst hw2;have HB2:=zZ HB.out;have HX2:=zZ HX.out;have HY2:=zZ HY.out;clear HB HX HY hgk hn hlt hpl;go_wp2;clear x0 x1 x2 x3 x4 x5 x6 x7 hltz;go_loopg [10] (t.edits.length) (fun g i wr=>∃n:Nat,n<=t.edits.length/\g=t.edits.length - n/\i=iI (n:Nat)/\Hid (Below p w wr)/\Hid (wr.heap[p]?=some (.cells #[iI t.plan.mode,iI t.plan.Ay,iI t.plan.AR,iI t.plan.Bb,iI t.plan.AJ,.slice ma t.plan.rules.length mc,.slice fa t.Bp.length fc,.slice ea t.edits.length ec] 28 (0,0)))/\Hid (wr.heap[p1]?=some (.cells #[.string (mk c.id),.string (mk c.mem),.string (mk c.Br),iI c.net,iI c.does,.string (mk c.ref),.slice la c.lines.length lc] 31 (0,0))))
   case atStart=>exact ⟨0,Nat.zero_le _,rfl,rfl,HB2.out,HX2.out,HY2.out⟩
   case round =>
    obtain ⟨n,hn,hgk,rfl,HB,HX,HY⟩:=hrel;obtain ⟨x0,x1,x2,x3,x4,x5,x6,x7⟩:=Pl.iR HX.out;have hpl:p < wr.heap.size:=(Array.getElem?_eq_some_iff.1 HX.out).1;by_cases hlt:n < t.edits.length
    ·have hltz:(n:Int) < (t.edits.length:Int):=by omega
     obtain ⟨b,oo,ha,hbs,-,hcc⟩:=Ex.aP.get (HEd.out wr HB.out) n hlt;subst ha;have HO:=HZe.out t.edits[n] (List.getElem_mem hlt);generalize t.edits[n]=x at *;unfold Ex.aN at hcc;obtain ⟨c0,c1,c2,c3,c4⟩:=hcc;obtain ⟨⟨o1,o2⟩,-⟩:=HO;have s1:=xM x.a;have s2:=xM x.b;have s3:x.a.length+x.b.length<=9223372036854775807:=by omega
     have sw:IntKind.i64.wrap ((x.a.length:Int)+(x.b.length:Int))=(x.a.length:Int)+(x.b.length:Int):=by rw [IntKind.wrap_i64];omega
     have HDq:=zZ fun q=>(iV (w:=wr) q);by_cases h1:(60:Int) < (x.a.length:Int)+(x.b.length:Int)
     ·go_wp2_with fail
      go_quiet (fail)
      go_wp2;go_ret;exact ⟨wW _ _ _,by first|exact (HB.out.trans (iW _ _ _))|(rw [hp];exact (HB.out.trans (iW _ _ _)))⟩
     ·go_wp2_with fail
      go_quiet (fail)
      go_wp2;go_roundg (t.edits.length - (n+1))
      case measure=>omega
      case rel=>exact ⟨n+1,by omega,rfl,by first|rfl|go_num|(congr 1;omega),(HB.out.trans (iW _ _ _)),(tY HX.out _),(tY HY.out _)⟩
    ·have hltz:¬ (n:Int) < (t.edits.length:Int):=by omega
     obtain ⟨w3,hw3⟩:∃z,z=wr:=⟨_,rfl⟩;subst hw3;have HB3:=zZ HB.out;have CK:=zZ HX.out;have HY3:=zZ HY.out;clear HB HX HY hgk hn hlt hpl;go_wp2;clear x0 x1 x2 x3 x4 x5 x6 x7 hltz;go_loopg [11] (r.length) (fun g i wr=>∃n:Nat,n<=r.length/\g=r.length - n/\i=iI (n:Nat)/\Hid (Below p w wr)/\Hid (wr.heap[p]?=some (.cells #[iI t.plan.mode,iI t.plan.Ay,iI t.plan.AR,iI t.plan.Bb,iI t.plan.AJ,.slice ma t.plan.rules.length mc,.slice fa t.Bp.length fc,.slice ea t.edits.length ec] 28 (0,0)))/\Hid (wr.heap[p1]?=some (.cells #[.string (mk c.id),.string (mk c.mem),.string (mk c.Br),iI c.net,iI c.does,.string (mk c.ref),.slice la c.lines.length lc] 31 (0,0))))
     case atStart=>exact ⟨0,Nat.zero_le _,rfl,rfl,HB3.out,CK.out,HY3.out⟩
     case round =>
      obtain ⟨n,hn,hgk,rfl,HB,HX,HY⟩:=hrel;obtain ⟨x0,x1,x2,x3,x4,x5,x6,x7⟩:=Pl.iR HX.out;have hpl:p < wr.heap.size:=(Array.getElem?_eq_some_iff.1 HX.out).1;by_cases hlt:n < r.length
      ·have hltz:(n:Int) < (r.length:Int):=by omega
       obtain ⟨b,oo,ha,hbs,-,hcc⟩:=Ac.cu.get (HRw.out wr HB.out) n hlt;subst ha;skip
       generalize r[n]=x at *;unfold Ac.bZ at hcc;obtain ⟨c0,c1,c2,c3,c4⟩:=hcc;have s1:=xM x.who;by_cases h1:(60:Int) < (x.who.length:Int)
       ·go_wp2;go_ret;exact ⟨wW _ _ _,by first|exact HB.out|(rw [hp];exact HB.out)⟩
       ·go_wp2;go_roundg (r.length - (n+1))
        case measure=>omega
        case rel=>exact ⟨n+1,by omega,rfl,by first|rfl|go_num|(congr 1;omega),HB.out,HX.out,HY.out⟩
      ·have hltz:¬ (n:Int) < (r.length:Int):=by omega
       obtain ⟨w4,hw4⟩:∃z,z=wr:=⟨_,rfl⟩;subst hw4;have HB4:=zZ HB.out;have HX4:=zZ HX.out;have HY4:=zZ HY.out;clear HB HX HY hgk hn hlt hpl;clear x0 x1 x2 x3 x4 x5 x6 x7;have HN:=zZ (fK w4 #[.string (mk c.id),.string (mk c.mem),.string (mk c.Br),iI c.net,iI c.does,.string (mk c.ref),.slice la c.lines.length lc,.string ⟨#[]⟩,.string ⟨#[]⟩,.string ⟨#[]⟩,iI 0,iI 0,.string ⟨#[]⟩,.slice aa Ah.length ac] 31);have hb4:=iU w4 (.cells #[.string (mk c.id),.string (mk c.mem),.string (mk c.Br),iI c.net,iI c.does,.string (mk c.ref),.slice la c.lines.length lc,.string ⟨#[]⟩,.string ⟨#[]⟩,.string ⟨#[]⟩,iI 0,iI 0,.string ⟨#[]⟩,.slice aa Ah.length ac] 31);have CF:=zZ (jf hp HB4.out hb4);obtain ⟨y0,y1,y2,y3,y4,y5,y6⟩:=jT HY4.out;have hyl:p1 < w4.heap.size:=(Array.getElem?_eq_some_iff.1 HY4.out).1;clear hb4;go_wp2_with fail
       try (go_at_call 18)
       refine (HWc.out _ _ CF.out HN.out).mono ?_;rintro e w6 ⟨⟨n6,rfl,hn6⟩,hb6⟩;have HB6:=zZ (jf hp CF.out hb6);have HN6:=zZ hn6;clear hb6 hn6 HN y0 y1 y2 y3 y4 y5 y6;by_cases g6:(80:Int) < n6
       ·go_wp2;go_ret;exact ⟨wW _ _ _,by first|exact HB6.out|(rw [hp];exact HB6.out)⟩
       ·go_wp2;go_ret;exact ⟨⟨0,rfl,fun _=>⟨by omega,HN6.out (by omega)⟩⟩,by first|exact HB6.out|(rw [hp];exact HB6.out)⟩
end Ju
namespace Ju
open Go.RowKit
open Sh (Ot)
theorem zJ (l:List Ot) (v u:Value) (w:World) (h:bJ All w v l) (g:bJ All w u l) (hl:l.length<=100000) :
  Calls Tryz.prog 11 #[v,u] w fun e w'=>e=.returned (.bool true)/\Below w.heap.size w w':=by
 obtain ⟨fa,fk,rfl,hm1,hm2⟩:=h.form;obtain ⟨ga,gk,rfl,hm3,hm4⟩:=g.form;have HF:=zZ h;have HG:=zZ g;clear h g;go_enter Tryz.func11,Tryz.ntmps11
 go_wp2;go_loopg [5] (l.length) (fun gg s5 wr=>∃k:Nat,s5=iI k/\k<=l.length/\l.length - k<=gg/\Hid (Below w.heap.size w wr))
 case atStart=>exact ⟨0,rfl,Nat.zero_le _,by omega,Below.refl _ _⟩
 case round =>
  obtain ⟨k,rfl,hk,hgk,Co⟩:=hrel;by_cases hlt:k < l.length
  ·have hltz:(k:Int) < (l.length:Int):=by omega
   obtain ⟨b,oo,rfl,-,-,hc⟩:=bJ.get (HF.out.Bu Co.out) k hlt;obtain ⟨b2,o2,rfl,-,-,hc2⟩:=bJ.get (HG.out.Bu Co.out) k hlt;generalize l[k]=x at *;obtain ⟨x0,x1,x2,x3,x4,x5,x6,x7⟩:=hc;obtain ⟨y0,y1,y2,y3,y4,y5,y6,y7⟩:=hc2;have hi1:k < l.length:=hlt;have HD:=zZ (Below.drew Co.out);go_wp2_with fail
   go_quiet (fail)
   have Cn:Hid (Below w.heap.size w (wr.drewN nq)):=Co.out.trans ⟨rfl,rfl,rfl,Nat.le_refl _,fun _ _=>rfl⟩;go_wp2;go_roundg (l.length - (k+1))
   case measure=>omega
   case rel=>exact ⟨k+1,by first|rfl|go_num|(congr 1;omega),by omega,by omega,Cn.out⟩
  ·have hltz:¬ (k:Int) < (l.length:Int):=by omega
   go_wp2;go_ret;exact ⟨rfl,Co.out⟩
end Ju
namespace Ac
open Go.RowKit
theorem same_eq (l:List Row) (v u:Value) (w:World) (h:cu All w v l) (g:cu All w u l) (hl:l.length<=100000) :
  Calls Tryz.prog 12 #[v,u] w fun e w'=>e=.returned (.bool true)/\Below w.heap.size w w':=by
 obtain ⟨fa,fk,rfl,hm1,hm2⟩:=h.form;obtain ⟨ga,gk,rfl,hm3,hm4⟩:=g.form;have HF:=zZ h;have HG:=zZ g;clear h g;go_enter Tryz.func12,Tryz.ntmps12
 go_wp2;go_loopg [5] (l.length) (fun gg s5 wr=>∃k:Nat,s5=iI k/\k<=l.length/\l.length - k<=gg/\Hid (Below w.heap.size w wr))
 case atStart=>exact ⟨0,rfl,Nat.zero_le _,by omega,Below.refl _ _⟩
 case round =>
  obtain ⟨k,rfl,hk,hgk,Co⟩:=hrel;by_cases hlt:k < l.length
  ·have hltz:(k:Int) < (l.length:Int):=by omega
   obtain ⟨b,oo,rfl,-,-,hc⟩:=cu.get (HF.out.Bu Co.out) k hlt;obtain ⟨b2,o2,rfl,-,-,hc2⟩:=cu.get (HG.out.Bu Co.out) k hlt;generalize l[k]=x at *;obtain ⟨x0,x1,x2,x3,x4⟩:=hc;obtain ⟨y0,y1,y2,y3,y4⟩:=hc2;have hi1:k < l.length:=hlt;have HD:=zZ (Below.drew Co.out);go_wp2_with fail
   go_quiet (fail)
   have Cn:Hid (Below w.heap.size w (wr.drewN nq)):=Co.out.trans ⟨rfl,rfl,rfl,Nat.le_refl _,fun _ _=>rfl⟩;go_wp2;go_roundg (l.length - (k+1))
   case measure=>omega
   case rel=>exact ⟨k+1,by first|rfl|go_num|(congr 1;omega),by omega,by omega,Cn.out⟩
  ·have hltz:¬ (k:Int) < (l.length:Int):=by omega
   go_wp2;go_ret;exact ⟨rfl,Co.out⟩
end Ac
namespace Ju
open Go.RowKit
open Sh (Ot)
theorem LK:∃i,Tryz.prog.info? TO=some i/\i.zero=some (.agg #[iI 0,iI 0,iI 0,iI 0,iI 0,iI 0,iI 0,iI 0])/\i.size=8/\i.bytes=64:=by
 have hi:(Tryz.prog.info? TO).map (fun i=>(i.zero,i.size,i.bytes))=some (some (.agg #[iI 0,iI 0,iI 0,iI 0,iI 0,iI 0,iI 0,iI 0]),8,64):=by kernel_rfl
 cases hq:Tryz.prog.info? TO with
 | none=>rw [hq] at hi;cases hi
 | some i =>
  rw [hq] at hi;simp only [Option.map_some,Option.some.injEq,Prod.mk.injEq] at hi;exact ⟨i,rfl,hi⟩
theorem PK {o:Oper} {a:Act} {w:World} {K:Act->World->Prop} {Q:Exit->Act->World->Prop} (s x:Operand) (ho:o.op=.call { callee:=.builtin .append,args:=#[s,x],argTypes:=#[35,35] })
  (B:Nat) (v:Value) (L:List Ot) (hs:a.eval s=v) (hown:bM B w v L) (b c:Nat) (f:Ot) (hx:a.eval x=.slice (some ⟨b,0,none⟩) 1 c)
  (hc:w.heap[b]?=some (.cells #[iI f.al,iI f.de,iI f.cp,iI f.cn,iI f.plan,iI f.wr,iI f.pr,iI f.deny] TO (0,0))) (hbd:L.length<=1000000) (hB:B<=w.heap.size)
  (h:∀v' w',bM B w' v' (L ++ [f])->w.grownBy w' v.ownBlock->(v'.ownBlock=v.ownBlock ∨ v'.ownBlock=some w.heap.size)->K (a.put o.dst v') w'):o.wp Tryz.prog a w K Q:=by
 obtain ⟨i,q1,q2,q3,q4⟩:=LK;have hb0:b < w.heap.size:=(Array.getElem?_eq_some_iff.1 hc).1;refine wp_append_lies w s x 35 ho B TO i _ 8 64 Tryz.underlying35 q1 q2 q3 q4 rfl (by omega) v L.length (ocs L) hs hown ⟨b,0,none⟩ 1 c (oc f) hx rfl (fun j u hj=>?_) (fun u hu=>MI [f] u (by simpa [ocs,oc] using hu)) (by omega) (by unfold maxLen;omega) (by omega) hB w.heap.size rfl fun g cap w' hown' hg hat _=>?_
 ·rw [show (⟨b,0,none⟩:Addr).add j=⟨b,j,none⟩ by unfold Addr.add;split<;>simp_all];rw [cell_of_row w b j _ _ (0,0) hc];match j,hj with
  | 0,hj=>exact hj
  | 1,hj=>exact hj
  | 2,hj=>exact hj
  | 3,hj=>exact hj
  | 4,hj=>exact hj
  | 5,hj=>exact hj
  | 6,hj=>exact hj
  | 7,hj=>exact hj
  | n+8,hj=>simp [oc] at hj
 ·refine h _ w' (by unfold bM;rw [MH,List.length_append];exact hown') hg ?_;rcases hat with e|e
  ·exact Or.inl (by rw [e];rfl)
  ·exact Or.inr (by rw [e];rfl)
theorem Lu {w w':World} {B:Nat} {v:Value} {l:List Ot} (ho:bM B w v l) (hg:w.grownBy w' v.ownBlock) (hB:B<=w.heap.size):Below B w w':=
 ⟨hg.os,hg.tape,hg.output,hg.size,fun k hk=>hg.block k (by omega) (fun e=>by have:=(ho.lt k e.symm).1;omega)⟩
end Ju
namespace Ul
open Go.RowKit
open Pl (Cd St Ru Pn aX dD bY bW Ok1 cdv stv ruv pnv iU jg jv jU iR jf)
open Wo (jI jQ tV qL)
open Cm (Ln)
def Kw (x:Ln) (net:Int) (ml:Value) (c:Cd) (m:Value) (w:World):Prop:=
 Calls Tryz.prog 159 #[cdv c m,lnv x ml,iI net] w fun e w'=>e=.returned (.bool (eD x net c))/\Below w.heap.size w w'
theorem Oe (x:Ln) (net:Int) (ml:Value) (c:Cd) (i:Nat) (hi:i<=1)
  (IH:∀k ∈ c.kids,∀(m:Value) (w:World),aX All w m k.kids->dI All w ml x.mods->Kw x net ml k m w)
  (m:Value) (w:World) (hK:aX All w m c.kids) (hx:dI All w ml x.mods) :
  Calls Tryz.prog 172 #[cdv c m,iI i,lnv x ml,iI net] w fun e w'=>e=.returned (.bool (uz x net c.kids i))/\Below w.heap.size w w':=by
 obtain ⟨T,HT⟩:∃T,Hid (uz x net c.kids i=T):=⟨_,rfl⟩;rw [HT.out];obtain ⟨hb,hz1,hz2⟩:=jJ w c m x ml;have HB:=zZ hb;have HX:=zZ hz1;have HL:=zZ hz2;have HK:=zZ (hK.Bu hb);have HM:=zZ (Hf hx hb);obtain ⟨a,k,rfl,hk1,hk2⟩:=hK.form;obtain ⟨la,lk,rfl,hl1,hl2⟩:=G9 hx;clear hK hx hb hz1 hz2;go_enter Tryz.func172,Tryz.ntmps172
 go_upto_region 1 with fail
 generalize (w.alloc (.cells #[iI c.kind,sS c.lo,sS c.hi,iI c.n,.slice a c.kids.length k] 79)).alloc (.cells #[sS x.proc,.slice la x.mods.length lk,iI x.date,iI x.units,iI x.Av,iI x.prior] 48)=W at *;generalize hp:w.heap.size=p at *;obtain ⟨q,hq⟩:∃q,q=p+1:=⟨_,rfl⟩;rw [←hq] at HL ⊢;clear hq;obtain ⟨x0,x1,x2,x3,x4⟩:=jv HX.out;obtain ⟨y0,y1,y2,y3,y4,y5⟩:=jU HL.out;have HD:=zZ (Below.drew (Below.refl W.heap.size W));have Bt:=zZ fun W' (hW:Below W.heap.size W W')=>And.intro (jv (tV HX.out hW)) (jU (tV HL.out hW));by_cases hlt:i < c.kids.length
 case neg =>
  have Bn:Hid (T=false):=by show _=_;rw [←HT.out];exact uF x net c.kids i (by omega)
  have hlt':¬ (i:Int) < (c.kids.length:Int):=by omega
  have hge:(c.kids.length:Int)<=(i:Int):=by omega
  have HBR:=zZ (Below.refl W.heap.size W);clear IH HK HM hlt HT;go_wp2_with fail
  go_ret;exact ⟨by first|rfl|(rw [Bn.out];rfl),by first|exact jf hp HB.out HBR.out|(rw [hp];exact jf hp HB.out HBR.out)⟩
 obtain ⟨b,o,mv,rfl,hbs,hxx,hcc,hkk,hok⟩:=aX.get HK.out i hlt;have Bn:Hid (T=eD x net c.kids[i]):=by show _=_;rw [←HT.out];exact uG x net c.kids i _ hxx
 have HC:=zZ fun W' (hW:Below W.heap.size W W')=>IH c.kids[i] (List.getElem_mem hlt) mv W' (hkk.Bu hW) (Hf HM.out hW);have HXL:=zZ fun W' (hW:Below W.heap.size W W')=>And.intro (Bt.out W' hW) (hcc.of (hW.block b hbs));obtain ⟨ka,kc,rfl,-,-⟩:=hkk.form;have hlt':(i:Int) < (c.kids.length:Int):=by omega
 have hge:¬ (c.kids.length:Int)<=(i:Int):=by omega
 clear hkk hok hxx IH HK HM hcc Bt HT;generalize c.kids[i]=kd at *;unfold Kw Pl.aj at *;have HE:Hid (∃_:Unit,True):=⟨(),trivial⟩;go_upto_region 3 with fail
 go_cut [8] (fun s wx=>s=.bool (eD x net kd)/\Hid (Below W.heap.size W wx))
 case first =>
  clear x0 x1 x2 x3 x4 y0 y1 y2 y3 y4 y5;refine Ri.IX (by kernel_rfl) (by kernel_rfl) (by kernel_rfl) (fun Wx=>Below W.heap.size W Wx) (fun kz vs wz=>(fun kx vx wx=>match kx with|0=>vx=pP p 4|1=>vx=.slice (some ⟨b,o,none⟩) c.kids.length k|2=>vx=iI (i:Nat)|3=>vx=pP b (o+i * 5)|4=>vx=cdv kd (.slice ka kd.kids.length kc)|5=>vx=lnv x (.slice la x.mods.length lk)|6=>vx=iI net|7=>vx=.bool (eD x net kd)|8=>vx=.bool (eD x net kd)|_=>True:Nat->Value->World->Prop) kz (vs kz) wz) (fun kz=>[kz]) (by kernel_rfl) (fun jz vs iz vz wz hiz hz=>Ri.wI (F:=(fun kx vx wx=>match kx with|0=>vx=pP p 4|1=>vx=.slice (some ⟨b,o,none⟩) c.kids.length k|2=>vx=iI (i:Nat)|3=>vx=pP b (o+i * 5)|4=>vx=cdv kd (.slice ka kd.kids.length kc)|5=>vx=lnv x (.slice la x.mods.length lk)|6=>vx=iI net|7=>vx=.bool (eD x net kd)|8=>vx=.bool (eD x net kd)|_=>True:Nat->Value->World->Prop)) jz vs iz vz wz hiz hz) HD.out ⟨⟨rfl,?_⟩,⟨rfl,?_⟩,⟨rfl,?_⟩,⟨rfl,?_⟩,⟨rfl,?_⟩,⟨rfl,?_⟩,⟨rfl,?_⟩,⟨rfl,?_⟩,⟨rfl,?_⟩,trivial⟩ ?_
  ·intro vs Wx A hA hB hpre K hK;have e4:=(hA 4).trans (show _=pP p 0 by kernel_rfl);clear hA hpre;go_simp;exact hK _ _ hB rfl (fun _ _ h=>h)
  ·intro vs Wx A hA hB hpre K hK;have e14:=tT (hA 14) (by kernel_rfl) (hpre.1 rfl);obtain ⟨⟨⟨x0,x1,x2,x3,x4⟩,⟨y0,y1,y2,y3,y4,y5⟩⟩,⟨z0,z1,z2,z3,z4⟩⟩:=HXL.out Wx hB;clear hA hpre;go_simp;exact hK _ _ hB rfl (fun _ _ h=>h)
  ·intro vs Wx A hA hB hpre K hK;have e1:=(hA 1).trans (show _=iI (i:Nat) by kernel_rfl);clear hA hpre;go_simp;exact hK _ _ hB rfl (fun _ _ h=>h)
  ·intro vs Wx A hA hB hpre K hK;have e15:=tT (hA 15) (by kernel_rfl) (hpre.1 rfl);have e16:=tT (hA 16) (by kernel_rfl) (hpre.2.1 rfl);clear hA hpre;go_simp;exact hK _ _ hB rfl (fun _ _ h=>h)
  ·intro vs Wx A hA hB hpre K hK;have e17:=tT (hA 17) (by kernel_rfl) (hpre.1 rfl);obtain ⟨⟨⟨x0,x1,x2,x3,x4⟩,⟨y0,y1,y2,y3,y4,y5⟩⟩,⟨z0,z1,z2,z3,z4⟩⟩:=HXL.out Wx hB;clear hA hpre;go_simp;exact hK _ _ hB rfl (fun _ _ h=>h)
  ·intro vs Wx A hA hB hpre K hK;have e6:=(hA 6).trans (show _=pP q 0 by kernel_rfl);obtain ⟨⟨⟨x0,x1,x2,x3,x4⟩,⟨y0,y1,y2,y3,y4,y5⟩⟩,⟨z0,z1,z2,z3,z4⟩⟩:=HXL.out Wx hB;clear hA hpre;go_simp;exact hK _ _ hB rfl (fun _ _ h=>h)
  ·intro vs Wx A hA hB hpre K hK;have e3:=(hA 3).trans (show _=iI net by kernel_rfl);clear hA hpre;go_simp;exact hK _ _ hB rfl (fun _ _ h=>h)
  ·intro vs Wx A hA hB hpre K hK;have e18:=tT (hA 18) (by kernel_rfl) (hpre.1 rfl);have e19:=tT (hA 19) (by kernel_rfl) (hpre.2.1 rfl);have e20:=tT (hA 20) (by kernel_rfl) (hpre.2.2.1 rfl);clear hA hpre;go_simp;go_at_call 159
   refine (HC.out _ hB).mono ?_;rintro e w1 ⟨rfl,hb1⟩;exact hK _ _ (jg hB hb1) rfl (fun _ _ h=>h)
  ·intro vs Wx A hA hB hpre K hK;have e21:=tT (hA 21) (by kernel_rfl) (hpre.1 rfl);clear hA hpre;go_simp;exact hK _ _ hB rfl (fun _ _ h=>h)
  ·intro vs Wx hB hF;have h8:vs 8=.bool (eD x net kd):=hF 8 (by decide);have Cn:=zZ hB;clear hF hB;simp only [Ri.puts];go_simp;go_wp2_with fail
   go_meet
   exact ⟨by first|rfl|exact h8,Cn.out⟩
 case rest =>
  obtain ⟨rfl,HBx⟩:=hcut;go_wp2_with fail
  go_ret;exact ⟨by first|rfl|(rw [Bn.out];rfl),by first|exact jf hp HB.out HBx.out|(rw [hp];exact jf hp HB.out HBx.out)⟩
end Ul
end Go.Proofs.YtfbfeoplldjbpaaGreatDoor
