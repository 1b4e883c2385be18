/-
  Texts put together (merge.py): JSet.
-/
import Derived.Test.YtfbfeoplldjbpaaGreatDoorMd21
set_option linter.unusedSimpArgs false
set_option linter.unusedVariables false
set_option maxHeartbeats 16000000
set_option maxRecDepth 100000
namespace Go.Proofs.YtfbfeoplldjbpaaGreatDoor
namespace Ju
open Go.RowKit
open Ac (Row pU dJ dM jF jG DW DU left cu Own tV qL iU jg jf fK)
open Sh (Ot bD bC bK bE EP EW Dt Du member Jj)
open Cm (Ln Cl bH lnv clv bG aC)
theorem FD (t:Tb) (c:Cl) (r:List Row) (x:Ln) (co:Bool) (i:It) (q:Nat) (m mf me ml mg vr mx:Value) (w:World)
  (hq:w.heap[q]?=some (.cells #[iI t.plan.mode,iI t.plan.Ay,iI t.plan.AR,iI t.plan.Bb,iI t.plan.AJ,m,mf,me,sS c.id,sS c.mem,sS c.Br,iI c.net,iI c.does,sS c.ref,ml,mg,vr] 66 (0,0))) (fm:∃a k,m=.slice a t.plan.rules.length k) (fl:∃a k,ml=.slice a c.lines.length k) (fx:∃a k,mx=.slice a x.mods.length k)
  (hr:cu (fun b=>b ≠ q) w vr r) (hO:Ac.Ok r) (hl:r.length<=8000) (hpl:Pl.kF t.plan=0) (hd:Da.good x.date=true) (hx:bG x) (hT:Da.Tab w) (hw:i.why=0) (hy:i.yr=Da.yr x.date) (hbi:i.bi=x.Av) (hpr:i.pr=x.prior) :
  Calls Tryz.prog 49 #[pP q 0,.agg #[sS x.proc,mx,iI x.date,iI x.units,iI x.Av,iI x.prior],.agg #[.bool co,.bool i.dd,iI i.cp,iI i.cn],iI i.al] w fun e w'=>SvV q (zL (Bw t c) r i) (zU (Bw t c) r i) (zO (Bw t c) r i) (fun v=>#[iI t.plan.mode,iI t.plan.Ay,iI t.plan.AR,iI t.plan.Bb,iI t.plan.AJ,m,mf,me,sS c.id,sS c.mem,sS c.Br,iI c.net,iI c.does,sS c.ref,ml,mg,v]) w e w':=by
 obtain ⟨ma,mc,rfl⟩:=fm;obtain ⟨la,lc,rfl⟩:=fl;obtain ⟨xa,xc,rfl⟩:=fx;obtain ⟨ra,rc,rfl,-,-⟩:=hr.form;obtain ⟨i1,i2,i3,i4⟩:=Ac.Bl hpl;have HQ0:=zZ hq;have HRw:=zZ hr;have HRlo:Hid (∀W,Below w.heap.size w W->cu All W (.slice ra r.length rc) r):=fun W hW=>(En hr hW).all;have HYr:Hid (∀W,Below w.heap.size w W->Calls Tryz.prog 74 #[iI x.date] W fun e w'=>e=.returned (iI i.yr)/\w'=W):=fun W hW=>by
  have h:=Da.Jb x.date W (Cm.gP hT hW) hx.1.1 hx.1.2;rw [Jc hd,←hy] at h;exact h
 have HRo:Hid (∀W,cu All W (.slice ra r.length rc) r->Calls Tryz.prog 89 #[.agg #[iI t.plan.mode,iI t.plan.Ay,iI t.plan.AR,iI t.plan.Bb,iI t.plan.AJ,.slice ma t.plan.rules.length mc],.slice ra r.length rc,sS c.mem,sS c.Br,iI i.yr] W fun e w'=>e=.returned (.tuple #[iI (rD (Bw t c) r i.yr),iI (rO (Bw t c) r i.yr)])/\Below W.heap.size W w'):=fun W hW=>Ac.DV _ _ _ _ _ ma _ mc r c.mem c.Br i.yr _ W hW (by omega) hO i1 i2 i3 i4;have HBe:Hid (∀W,Calls Tryz.prog 90 #[iI i.al,.agg #[.bool co,.bool i.dd,iI i.cp,iI i.cn],iI (rD (Bw t c) r i.yr),iI (rO (Bw t c) r i.yr),iI c.net] W fun e w'=>e=.returned (.tuple #[iI (vD (Bw t c) r i),iI (vC (Bw t c) r i),iI (vK (Bw t c) r i),iI (eB (Bw t c) r i)])/\Below W.heap.size W w'):=fun W=>Sh.iq i.al co i.dd i.cp i.cn _ _ c.net W;have HSe:Hid (∀W,Calls Tryz.prog 91 #[iI x.Av,iI i.al,iI x.prior,iI (vD (Bw t c) r i),iI (vC (Bw t c) r i),iI (vK (Bw t c) r i)] W fun e w'=>e=.returned (.tuple #[.agg #[iI (zU (Bw t c) r i).al,iI (zU (Bw t c) r i).de,iI (zU (Bw t c) r i).cp,iI (zU (Bw t c) r i).cn,iI (zU (Bw t c) r i).plan,iI (zU (Bw t c) r i).wr,iI (zU (Bw t c) r i).pr,iI (zU (Bw t c) r i).deny],iI (eS (Bw t c) r i)])/\Below W.heap.size W w'):=fun W=>by
  rw [zW hw,←hbi,←hpr];exact Sh.FD i.bi i.al i.pr _ _ _ W
 have HBo:Hid (eS (Bw t c) r i=0->∀W,cu All W (.slice ra r.length rc) r->Calls Tryz.prog 92 #[.slice ra r.length rc,sS c.mem,sS c.Br,iI i.yr,.agg #[iI (zU (Bw t c) r i).al,iI (zU (Bw t c) r i).de,iI (zU (Bw t c) r i).cp,iI (zU (Bw t c) r i).cn,iI (zU (Bw t c) r i).plan,iI (zU (Bw t c) r i).wr,iI (zU (Bw t c) r i).pr,iI (zU (Bw t c) r i).deny]] W fun e w'=>∃v',e=.returned (.tuple #[v',iI (jF r c.mem c.Br i.yr (zU (Bw t c) r i))])/\Own W.heap.size w' v' (jG r c.mem c.Br i.yr (zU (Bw t c) r i))/\Below W.heap.size W w'):=fun h W hW=>Ac.bq r c.mem c.Br i.yr _ _ W hW (by omega) hO (zX hw h);have HE:Hid (zL (Bw t c) r i=if eB (Bw t c) r i=0 then (if eS (Bw t c) r i=0 then (if c.net=0 then jF r c.mem c.Br i.yr (zU (Bw t c) r i) else 0) else eS (Bw t c) r i) else eB (Bw t c) r i):=zN hw;have HR:Hid (zO (Bw t c) r i=if c.net=0 then jG r c.mem c.Br i.yr (zU (Bw t c) r i) else r):=zT hw;clear hpl hx hT hd hw hy hbi hpr i1 i2 i3 i4 hq hr hl hO;generalize jF r c.mem c.Br i.yr (zU (Bw t c) r i)=BE at *;generalize jG r c.mem c.Br i.yr (zU (Bw t c) r i)=BV at *;generalize zL (Bw t c) r i=OE at *;generalize zO (Bw t c) r i=OR at *;generalize zU (Bw t c) r i=SV at *;generalize eS (Bw t c) r i=ES at *;generalize eB (Bw t c) r i=EB at *;generalize vD (Bw t c) r i=B1 at *;generalize vC (Bw t c) r i=B2 at *;generalize vK (Bw t c) r i=B3 at *;generalize rD (Bw t c) r i.yr=D at *;generalize rO (Bw t c) r i.yr=OO at *;generalize i.yr=Y at *;have hbx:Below w.heap.size w (((w.alloc (.cells #[sS x.proc,.slice xa x.mods.length xc,iI x.date,iI x.units,iI x.Av,iI x.prior] 48)).alloc (.cells #[.bool co,.bool i.dd,iI i.cp,iI i.cn] 99)).alloc (.cells #[iI 0,iI 0,iI 0,iI 0,iI 0,iI 0,iI 0,iI 0] 45)):=jg (jg (iU _ _) (iU _ _)) (iU _ _);have hz1:=tV (fK w #[sS x.proc,.slice xa x.mods.length xc,iI x.date,iI x.units,iI x.Av,iI x.prior] 48) (jg (iU _ (.cells #[.bool co,.bool i.dd,iI i.cp,iI i.cn] 99)) (iU _ (.cells #[iI 0,iI 0,iI 0,iI 0,iI 0,iI 0,iI 0,iI 0] 45)));have hz2:=tV (fK (w.alloc (.cells #[sS x.proc,.slice xa x.mods.length xc,iI x.date,iI x.units,iI x.Av,iI x.prior] 48)) #[.bool co,.bool i.dd,iI i.cp,iI i.cn] 99) (iU _ (.cells #[iI 0,iI 0,iI 0,iI 0,iI 0,iI 0,iI 0,iI 0] 45));have hz3:=fK ((w.alloc (.cells #[sS x.proc,.slice xa x.mods.length xc,iI x.date,iI x.units,iI x.Av,iI x.prior] 48)).alloc (.cells #[.bool co,.bool i.dd,iI i.cp,iI i.cn] 99)) #[iI 0,iI 0,iI 0,iI 0,iI 0,iI 0,iI 0,iI 0] 45;rw [show (w.alloc (.cells #[sS x.proc,.slice xa x.mods.length xc,iI x.date,iI x.units,iI x.Av,iI x.prior] 48)).heap.size=w.heap.size+1 by simp] at hz2;rw [show ((w.alloc (.cells #[sS x.proc,.slice xa x.mods.length xc,iI x.date,iI x.units,iI x.Av,iI x.prior] 48)).alloc (.cells #[.bool co,.bool i.dd,iI i.cp,iI i.cn] 99)).heap.size=w.heap.size+2 by simp] at hz3;have HX:=zZ hz1;have HN:=zZ hz2;have HY:=zZ hz3;have HB0:=zZ hbx;clear hbx hz1 hz2 hz3;have HQl:Hid (q < w.heap.size):=(Array.getElem?_eq_some_iff.1 HQ0.out).1;go_enter Tryz.func49,Tryz.ntmps49
 go_upto_region 1 with fail
 generalize (((w.alloc (.cells #[sS x.proc,.slice xa x.mods.length xc,iI x.date,iI x.units,iI x.Av,iI x.prior] 48)).alloc (.cells #[.bool co,.bool i.dd,iI i.cp,iI i.cn] 99)).alloc (.cells #[iI 0,iI 0,iI 0,iI 0,iI 0,iI 0,iI 0,iI 0] 45))=W at *;generalize hp:w.heap.size=p at *;obtain ⟨bn,hbn⟩:∃u,u=p+1:=⟨_,rfl⟩;obtain ⟨u,hu⟩:∃u,u=p+2:=⟨_,rfl⟩;have HU:Hid (p<=u):=by show p<=u;omega
 rw [←hbn] at HN ⊢;rw [←hu] at HY;rw [show bn+1=u by omega];clear hbn hu;have HQW:Hid (W.heap[q]?=some (.cells #[iI t.plan.mode,iI t.plan.Ay,iI t.plan.AR,iI t.plan.Bb,iI t.plan.AJ,.slice ma t.plan.rules.length mc,mf,me,sS c.id,sS c.mem,sS c.Br,iI c.net,iI c.does,sS c.ref,.slice la c.lines.length lc,mg,.slice ra r.length rc] 66 (0,0))):=by show _=_;rw [HB0.out.block q HQl.out];exact HQ0.out
 have Bt:=zZ fun W' (hW:Below W.heap.size W W')=>And.intro (b17 (tV HQW.out hW)) (Pl.jU (tV HX.out hW));have HD:=zZ (Below.drew (Below.refl W.heap.size W));go_cut [10,11] (fun s10 s11 wx=>∃g:Nat,s10=pP g 0/\s11=iI Y/\Hid (wx.heap[g]?=some (.cells #[sS c.id,sS c.mem,sS c.Br,iI c.net,iI c.does,sS c.ref,.slice la c.lines.length lc] 31 (0,0)))/\Hid (Below W.heap.size W wx))
 case first =>
  refine Ri.I7 8 (by kernel_rfl) (by kernel_rfl) (by kernel_rfl) (by decide) (by kernel_rfl) (fun Wx=>Below W.heap.size W Wx) (fun kz vs wz=>(fun kx vx wx=>match kx with|0=>vx=pP q 0|1=>vx=pP q 0|2=>vx=pP q 8|3=>vx=.agg #[sS c.id,sS c.mem,sS c.Br,iI c.net,iI c.does,sS c.ref,.slice la c.lines.length lc]|4=>vx=pP p 2|5=>vx=iI x.date|6=>vx=iI Y|7=>(∃g,vx=pP g 0/\W.heap.size<=g/\wx.heap[g]?=some (.cells #[.string ⟨#[]⟩,.string ⟨#[]⟩,.string ⟨#[]⟩,iI 0,iI 0,.string ⟨#[]⟩,.slice none 0 0] 31 (0,0)))|_=>True:Nat->Value->World->Prop) kz (vs kz) wz) (fun Cw vs=>True) (fun kz=>[kz]) (by kernel_rfl) (fun jz vs iz vz wz hiz hz=>Ri.wI (F:=(fun kx vx wx=>match kx with|0=>vx=pP q 0|1=>vx=pP q 0|2=>vx=pP q 8|3=>vx=.agg #[sS c.id,sS c.mem,sS c.Br,iI c.net,iI c.does,sS c.ref,.slice la c.lines.length lc]|4=>vx=pP p 2|5=>vx=iI x.date|6=>vx=iI Y|7=>(∃g,vx=pP g 0/\W.heap.size<=g/\wx.heap[g]?=some (.cells #[.string ⟨#[]⟩,.string ⟨#[]⟩,.string ⟨#[]⟩,iI 0,iI 0,.string ⟨#[]⟩,.slice none 0 0] 31 (0,0)))|_=>True:Nat->Value->World->Prop)) jz vs iz vz wz hiz hz) HD.out ?_ ⟨⟨rfl,?_⟩,⟨rfl,?_⟩,⟨rfl,?_⟩,⟨rfl,?_⟩,⟨rfl,?_⟩,⟨rfl,?_⟩,⟨rfl,?_⟩,⟨rfl,?_⟩,trivial⟩ ?_
  ·intro vs hvs;exact trivial
  ·intro vs Wx A Cw hA hB hls hX hno hpre K hK;have e0:=(hA 0).trans (show _=pP q 0 by kernel_rfl);clear hA hpre;go_simp;exact hK _ _ hB rfl (fun _ _ h=>h) hX
  ·intro vs Wx A Cw hA hB hls hX hno hpre K hK;have e19:=tT (hA 19) (by kernel_rfl) (hpre.1 rfl);clear hA hpre;go_simp;exact hK _ _ hB rfl (fun _ _ h=>h) hX
  ·intro vs Wx A Cw hA hB hls hX hno hpre K hK;have e20:=tT (hA 20) (by kernel_rfl) (hpre.1 rfl);clear hA hpre;go_simp;exact hK _ _ hB rfl (fun _ _ h=>h) hX
  ·intro vs Wx A Cw hA hB hls hX hno hpre K hK;have e21:=tT (hA 21) (by kernel_rfl) (hpre.1 rfl);obtain ⟨⟨h0,h1,h2,h3,h4,h5,h6,h7,h8,h9,h10,h11,h12,h13,h14,h15,h16⟩,⟨x0,x1,x2,x3,x4,x5⟩⟩:=Bt.out Wx hB;clear hA hpre;go_simp;exact hK _ _ hB rfl (fun _ _ h=>h) hX
  ·intro vs Wx A Cw hA hB hls hX hno hpre K hK;have e5:=(hA 5).trans (show _=pP p 0 by kernel_rfl);clear hA hpre;go_simp;exact hK _ _ hB rfl (fun _ _ h=>h) hX
  ·intro vs Wx A Cw hA hB hls hX hno hpre K hK;have e23:=tT (hA 23) (by kernel_rfl) (hpre.1 rfl);obtain ⟨⟨h0,h1,h2,h3,h4,h5,h6,h7,h8,h9,h10,h11,h12,h13,h14,h15,h16⟩,⟨x0,x1,x2,x3,x4,x5⟩⟩:=Bt.out Wx hB;clear hA hpre;go_simp;exact hK _ _ hB rfl (fun _ _ h=>h) hX
  ·intro vs Wx A Cw hA hB hls hX hno hpre K hK;have e24:=tT (hA 24) (by kernel_rfl) (hpre.1 rfl);clear hA hpre;go_simp;go_at_call 74
   refine (HYr.out Wx (jf hp HB0.out hB)).mono ?_;rintro e w3 ⟨rfl,hw⟩;rw [hw];exact hK _ _ hB rfl (fun _ _ h=>h) hX
  ·intro vs Wx A Cw hA hB hls hX hno hpre K hK;clear hA hpre;go_simp;refine hK _ _ (jg hB (iU Wx _)) ⟨_,rfl,hB.size,heap_alloc_new Wx _⟩ (fun jz hj hz=>?_) hX;match jz,hj,hz with
   | 0,_,hz=>exact hz
   | 1,_,hz=>exact hz
   | 2,_,hz=>exact hz
   | 3,_,hz=>exact hz
   | 4,_,hz=>exact hz
   | 5,_,hz=>exact hz
   | 6,_,hz=>exact hz
   | 7,hj,_=>exact absurd rfl hj
   | n+8,_,hz=>exact hz
  ·intro vs Wx Cw hall hX hB hF;refine fun A8 hA K8 hK8=>?_;have e10:=(hA 10).trans (show _=vs 7 by kernel_rfl);have e22:=tT (hA 22) (by kernel_rfl) (hF 3 (by decide));clear hA;obtain ⟨g,ea,hga,hza⟩:=hF 7 (by decide);rw [ea] at e10;obtain ⟨m0,m1,m2,m3,m4,m5,m6⟩:=jT hza;obtain ⟨k0,k1,k2,k3,k4,k5,k6⟩:=f7 hza;have HNA:=zZ (AU hza (sS c.id) (sS c.mem) (sS c.Br) (iI c.net) (iI c.does) (sS c.ref) (.slice la c.lines.length lc));have HBP:=zZ (AQ hB g hga (sS c.id) (sS c.mem) (sS c.Br) (iI c.net) (iI c.does) (sS c.ref) (.slice la c.lines.length lc));have HEA:=zZ ea;clear hga hza;go_simp;refine hK8 undef _ ?_;clear m0 m1 m2 m3 m4 m5 m6 k0 k1 k2 k3 k4 k5 k6 e10 e22;refine fun A9 hA K9 hK9=>?_;have e25:=tT (hA 25) (by kernel_rfl) (hF 6 (by decide));clear hA;go_simp;refine hK9 _ _ ?_;clear hB hX hall hF;simp only [Ri.Tail,Ri.puts];go_simp;go_wp2_with fail
   go_meet
   exact ⟨g,by first|exact HEA.out|(go_simp;exact HEA.out)|(simpa [Ri.upd] using HEA.out),rfl,HNA.out,HBP.out⟩
 case rest =>
  obtain ⟨g,rfl,rfl,HG1,HB1⟩:=hcut;obtain ⟨w1,hw1⟩:∃z,z=wc:=⟨_,rfl⟩;subst hw1;have HXL:=zZ fun W' (hW:Below w1.heap.size w1 W')=>And.intro (Bt.out W' (jg HB1.out hW)) (jT (tV HG1.out hW));have HD1:=zZ (Below.drew (Below.refl w1.heap.size w1));have HBw:=zZ (jf hp HB0.out HB1.out);clear HD HYr HB0;go_upto_region 2 with fail
  go_cut [12,13] (fun s12 s13 wx=>s12=iI D/\s13=iI OO/\Hid (Below w1.heap.size w1 wx))
  case first =>
   refine Ri.IY (by kernel_rfl) (by kernel_rfl) (by kernel_rfl) (fun Wx=>Below w1.heap.size w1 Wx) (fun kz vs wz=>(fun kx vx wx=>match kx with|0=>vx=pP q 0|1=>vx=pP q 0|2=>vx=pP q 0|3=>vx=pP q 0|4=>vx=.agg #[iI t.plan.mode,iI t.plan.Ay,iI t.plan.AR,iI t.plan.Bb,iI t.plan.AJ,.slice ma t.plan.rules.length mc]|5=>vx=pP q 0|6=>vx=pP q 0|7=>vx=pP q 16|8=>vx=.slice ra r.length rc|9=>vx=pP g 1|10=>vx=sS c.mem|11=>vx=pP g 2|12=>vx=sS c.Br|13=>vx=iI Y|14=>vx=.tuple #[iI D,iI OO]|15=>vx=.tuple #[iI D,iI OO]|16=>vx=iI D|17=>vx=iI OO|18=>vx=iI D|19=>vx=iI OO|_=>True:Nat->Value->World->Prop) kz (vs kz) wz) (fun kz=>[kz]) (by kernel_rfl) (fun jz vs iz vz wz hiz hz=>Ri.wI (F:=(fun kx vx wx=>match kx with|0=>vx=pP q 0|1=>vx=pP q 0|2=>vx=pP q 0|3=>vx=pP q 0|4=>vx=.agg #[iI t.plan.mode,iI t.plan.Ay,iI t.plan.AR,iI t.plan.Bb,iI t.plan.AJ,.slice ma t.plan.rules.length mc]|5=>vx=pP q 0|6=>vx=pP q 0|7=>vx=pP q 16|8=>vx=.slice ra r.length rc|9=>vx=pP g 1|10=>vx=sS c.mem|11=>vx=pP g 2|12=>vx=sS c.Br|13=>vx=iI Y|14=>vx=.tuple #[iI D,iI OO]|15=>vx=.tuple #[iI D,iI OO]|16=>vx=iI D|17=>vx=iI OO|18=>vx=iI D|19=>vx=iI OO|_=>True:Nat->Value->World->Prop)) jz vs iz vz wz hiz hz) HD1.out ⟨⟨rfl,?_⟩,⟨rfl,?_⟩,⟨rfl,?_⟩,⟨rfl,?_⟩,⟨rfl,?_⟩,⟨rfl,?_⟩,⟨rfl,?_⟩,⟨rfl,?_⟩,⟨rfl,?_⟩,⟨rfl,?_⟩,⟨rfl,?_⟩,⟨rfl,?_⟩,⟨rfl,?_⟩,⟨rfl,?_⟩,⟨rfl,?_⟩,⟨rfl,?_⟩,⟨rfl,?_⟩,⟨rfl,?_⟩,⟨rfl,?_⟩,⟨rfl,?_⟩,trivial⟩ ?_
   ·intro vs Wx A hA hB hpre K hK;have e0:=(hA 0).trans (show _=pP q 0 by kernel_rfl);clear hA hpre;go_simp;exact hK _ _ hB rfl (fun _ _ h=>h)
   ·intro vs Wx A hA hB hpre K hK;have e27:=tT (hA 27) (by kernel_rfl) (hpre.1 rfl);clear hA hpre;go_simp;exact hK _ _ hB rfl (fun _ _ h=>h)
   ·intro vs Wx A hA hB hpre K hK;have e28:=tT (hA 28) (by kernel_rfl) (hpre.1 rfl);clear hA hpre;go_simp;exact hK _ _ hB rfl (fun _ _ h=>h)
   ·intro vs Wx A hA hB hpre K hK;have e29:=tT (hA 29) (by kernel_rfl) (hpre.1 rfl);clear hA hpre;go_simp;exact hK _ _ hB rfl (fun _ _ h=>h)
   ·intro vs Wx A hA hB hpre K hK;have e30:=tT (hA 30) (by kernel_rfl) (hpre.1 rfl);obtain ⟨⟨⟨h0,h1,h2,h3,h4,h5,h6,h7,h8,h9,h10,h11,h12,h13,h14,h15,h16⟩,⟨x0,x1,x2,x3,x4,x5⟩⟩,g0,g1,g2,g3,g4,g5,g6⟩:=HXL.out Wx hB;clear hA hpre;go_simp;exact hK _ _ hB rfl (fun _ _ h=>h)
   ·intro vs Wx A hA hB hpre K hK;have e0:=(hA 0).trans (show _=pP q 0 by kernel_rfl);clear hA hpre;go_simp;exact hK _ _ hB rfl (fun _ _ h=>h)
   ·intro vs Wx A hA hB hpre K hK;have e32:=tT (hA 32) (by kernel_rfl) (hpre.1 rfl);clear hA hpre;go_simp;exact hK _ _ hB rfl (fun _ _ h=>h)
   ·intro vs Wx A hA hB hpre K hK;have e33:=tT (hA 33) (by kernel_rfl) (hpre.1 rfl);clear hA hpre;go_simp;exact hK _ _ hB rfl (fun _ _ h=>h)
   ·intro vs Wx A hA hB hpre K hK;have e34:=tT (hA 34) (by kernel_rfl) (hpre.1 rfl);obtain ⟨⟨⟨h0,h1,h2,h3,h4,h5,h6,h7,h8,h9,h10,h11,h12,h13,h14,h15,h16⟩,⟨x0,x1,x2,x3,x4,x5⟩⟩,g0,g1,g2,g3,g4,g5,g6⟩:=HXL.out Wx hB;clear hA hpre;go_simp;exact hK _ _ hB rfl (fun _ _ h=>h)
   ·intro vs Wx A hA hB hpre K hK;have e10:=(hA 10).trans (show _=pP g 0 by kernel_rfl);clear hA hpre;go_simp;exact hK _ _ hB rfl (fun _ _ h=>h)
   ·intro vs Wx A hA hB hpre K hK;have e36:=tT (hA 36) (by kernel_rfl) (hpre.1 rfl);obtain ⟨⟨⟨h0,h1,h2,h3,h4,h5,h6,h7,h8,h9,h10,h11,h12,h13,h14,h15,h16⟩,⟨x0,x1,x2,x3,x4,x5⟩⟩,g0,g1,g2,g3,g4,g5,g6⟩:=HXL.out Wx hB;clear hA hpre;go_simp;exact hK _ _ hB rfl (fun _ _ h=>h)
   ·intro vs Wx A hA hB hpre K hK;have e10:=(hA 10).trans (show _=pP g 0 by kernel_rfl);clear hA hpre;go_simp;exact hK _ _ hB rfl (fun _ _ h=>h)
   ·intro vs Wx A hA hB hpre K hK;have e38:=tT (hA 38) (by kernel_rfl) (hpre.1 rfl);obtain ⟨⟨⟨h0,h1,h2,h3,h4,h5,h6,h7,h8,h9,h10,h11,h12,h13,h14,h15,h16⟩,⟨x0,x1,x2,x3,x4,x5⟩⟩,g0,g1,g2,g3,g4,g5,g6⟩:=HXL.out Wx hB;clear hA hpre;go_simp;exact hK _ _ hB rfl (fun _ _ h=>h)
   ·intro vs Wx A hA hB hpre K hK;have e11:=(hA 11).trans (show _=iI Y by kernel_rfl);clear hA hpre;go_simp;exact hK _ _ hB rfl (fun _ _ h=>h)
   ·intro vs Wx A hA hB hpre K hK;have e31:=tT (hA 31) (by kernel_rfl) (hpre.1 rfl);have e35:=tT (hA 35) (by kernel_rfl) (hpre.2.1 rfl);have e37:=tT (hA 37) (by kernel_rfl) (hpre.2.2.1 rfl);have e39:=tT (hA 39) (by kernel_rfl) (hpre.2.2.2.1 rfl);have e40:=tT (hA 40) (by kernel_rfl) (hpre.2.2.2.2.1 rfl);clear hA hpre;go_simp;go_at_call 89
    refine (HRo.out Wx (HRlo.out Wx (jf hp HBw.out hB))).mono ?_;rintro e w3 ⟨rfl,hg⟩;exact hK _ _ (jg hB hg) rfl (fun _ _ h=>h)
   ·intro vs Wx A hA hB hpre K hK;have e41:=tT (hA 41) (by kernel_rfl) (hpre.1 rfl);clear hA hpre;go_simp;exact hK _ _ hB rfl (fun _ _ h=>h)
   iterate 2
    ·intro vs Wx A hA hB hpre K hK;have e26:=tT (hA 26) (by kernel_rfl) (hpre.1 rfl);clear hA hpre;go_simp;exact hK _ _ hB rfl (fun _ _ h=>h)
   ·intro vs Wx A hA hB hpre K hK;have e42:=tT (hA 42) (by kernel_rfl) (hpre.1 rfl);clear hA hpre;go_simp;exact hK _ _ hB rfl (fun _ _ h=>h)
   ·intro vs Wx A hA hB hpre K hK;have e43:=tT (hA 43) (by kernel_rfl) (hpre.1 rfl);clear hA hpre;go_simp;exact hK _ _ hB rfl (fun _ _ h=>h)
   ·intro vs Wx hB hF;have h18:vs 18=iI D:=hF 18 (by decide);have h19:vs 19=iI OO:=hF 19 (by decide);have Cn:=zZ hB;clear hF hB;simp only [Ri.puts];go_simp;go_wp2_with fail
    go_meet
    exact ⟨by first|exact h18|(go_simp;done)|(go_simp;exact h18),by first|exact h19|(go_simp;done)|(go_simp;exact h19),Cn.out⟩
  case rest =>
   obtain ⟨rfl,rfl,HB2⟩:=hcut;obtain ⟨w2,hw2⟩:∃z,z=wc:=⟨_,rfl⟩;subst hw2;have HG2:=zZ (tV HG1.out HB2.out);have HN2:=zZ (tV HN.out (jg HB1.out HB2.out));have HX2:=zZ (tV HX.out (jg HB1.out HB2.out));have HY2:=zZ (tV HY.out (jg HB1.out HB2.out));have HBv:=zZ (jf hp HBw.out HB2.out);clear HD1 HXL Bt HRo HG1 HN HX HY HBw;obtain ⟨n0,n1,n2,n3⟩:=jw HN2.out;obtain ⟨g0,g1,g2,g3,g4,g5,g6⟩:=jT HG2.out;go_wp2_with fail
   try (go_at_call 90)
   refine (HBe.out w2).mono ?_;rintro e w3 ⟨rfl,hb3⟩;have HG3:=zZ (tV HG2.out hb3);have CK:=zZ (tV HX2.out hb3);have HY3:=zZ (tV HY2.out hb3);have HB3:=zZ (jf hp HBv.out hb3);clear n0 n1 n2 n3 g0 g1 g2 g3 g4 g5 g6 hb3 HG2 HX2 HY2 HN2 HBv HBe;by_cases e1:EB=0
   case neg =>
    have n1:(EB != 0)=true:=by simp [e1]
    have hE:OE=EB:=by rw [HE.out,if_neg e1]
    subst hE;obtain ⟨b0,b1,b2,b3,b4,b5,b6,b7⟩:=Sh.eight HY3.out;obtain ⟨f0,f1,f2,f3,f4,f5,f6,f7⟩:=Sh.frz HY3.out;go_wp2;clear b0 b1 b2 b3 b4 b5 b6 b7 f0 f1 f2 f3 f4 f5 f6 f7;generalize Cg:((((((((w3.setCell ⟨u,0,none⟩ (iI 0)).setCell ⟨u,1,none⟩ (iI 0)).setCell ⟨u,2,none⟩ (iI 0)).setCell ⟨u,3,none⟩ (iI 0)).setCell ⟨u,4,none⟩ (iI 0)).setCell ⟨u,5,none⟩ (iI 0)).setCell ⟨u,6,none⟩ (iI 0)).setCell ⟨u,7,none⟩ (iI 0))=WF at *;have Cy:Hid (WF.heap[u]?=some (.cells #[iI 0,iI 0,iI 0,iI 0,iI 0,iI 0,iI 0,iI 0] 45 (0,0))):=by rw [←Cg];exact Sh.BR HY3.out
    have Cq:Hid (Below p w WF):=by rw [←Cg];exact Sh.BP HB3.out u HU.out _ _ _ _ _ _ _ _
    clear Cg;obtain ⟨b0,b1,b2,b3,b4,b5,b6,b7⟩:=Sh.eight Cy.out;refine bodyPost_ret (v:=.tuple #[.agg #[iI 0,iI 0,iI 0,iI 0,iI 0,iI 0,iI 0,iI 0],iI OE]) (by simp [results,Tryz.results49,go_sem,b0,b1,b2,b3,b4,b5,b6,b7]) rfl ?_;exact GH (o:=Sh.ot0) HQ0.out HRw.out (by first|exact Cq.out|(rw [hp];exact Cq.out)) (fun h=>absurd h e1) (fun h=>absurd h e1)
   case pos =>
    have n1:(EB != 0)=false:=by simp [e1]
    rw [if_pos e1] at HE;clear e1;obtain ⟨x0,x1,x2,x3,x4,x5⟩:=Pl.jU CK.out;go_wp2_with fail
    try (go_at_call 91)
    refine (HSe.out w3).mono ?_;rintro e w4 ⟨rfl,hb4⟩;have hbn:=iU w4 (.cells #[iI SV.al,iI SV.de,iI SV.cp,iI SV.cn,iI SV.plan,iI SV.wr,iI SV.pr,iI SV.deny] 45);have HO5:=zZ (fK w4 #[iI SV.al,iI SV.de,iI SV.cp,iI SV.cn,iI SV.plan,iI SV.wr,iI SV.pr,iI SV.deny] 45);have HG5:=zZ (tV HG3.out (jg hb4 hbn));have HY5:=zZ (tV HY3.out (jg hb4 hbn));have CF:=zZ (jf hp HB3.out (jg hb4 hbn));have HUs:Hid (u < (w4.alloc (.cells #[iI SV.al,iI SV.de,iI SV.cp,iI SV.cn,iI SV.plan,iI SV.wr,iI SV.pr,iI SV.deny] 45)).heap.size):=(Array.getElem?_eq_some_iff.1 HY5.out).1;have HOB:Hid (p<=w4.heap.size):=by have h:=(jf hp HB3.out hb4).size;rw [hp] at h;exact h
    clear x0 x1 x2 x3 x4 x5 hb4 hbn HG3 CK HY3 HB3 HSe;go_upto_region 7 with fail
    generalize w4.alloc (.cells #[iI SV.al,iI SV.de,iI SV.cp,iI SV.cn,iI SV.plan,iI SV.wr,iI SV.pr,iI SV.deny] 45)=w5 at *;generalize w4.heap.size=ob at *;obtain ⟨g0,g1,g2,g3,g4,g5,g6⟩:=jT HG5.out;obtain ⟨c0,c1,c2,c3,c4,c5,c6,c7⟩:=Sh.eight HO5.out;by_cases e2:ES=0
    case neg =>
     have n2:(ES != 0)=true:=by simp [e2]
     have hE:OE=ES:=by rw [HE.out,if_neg e2]
     subst hE;obtain ⟨b0,b1,b2,b3,b4,b5,b6,b7⟩:=Sh.eight HY5.out;obtain ⟨f0,f1,f2,f3,f4,f5,f6,f7⟩:=Sh.frz HY5.out;go_wp2;clear b0 b1 b2 b3 b4 b5 b6 b7 f0 f1 f2 f3 f4 f5 f6 f7;generalize Cg:((((((((w5.setCell ⟨u,0,none⟩ (iI SV.al)).setCell ⟨u,1,none⟩ (iI SV.de)).setCell ⟨u,2,none⟩ (iI SV.cp)).setCell ⟨u,3,none⟩ (iI SV.cn)).setCell ⟨u,4,none⟩ (iI SV.plan)).setCell ⟨u,5,none⟩ (iI SV.wr)).setCell ⟨u,6,none⟩ (iI SV.pr)).setCell ⟨u,7,none⟩ (iI SV.deny))=WF at *;have Cy:Hid (WF.heap[u]?=some (.cells #[iI SV.al,iI SV.de,iI SV.cp,iI SV.cn,iI SV.plan,iI SV.wr,iI SV.pr,iI SV.deny] 45 (0,0))):=by rw [←Cg];exact Sh.BR HY5.out
     have Cq:Hid (Below p w WF):=by rw [←Cg];exact Sh.BP CF.out u HU.out _ _ _ _ _ _ _ _
     clear Cg;obtain ⟨b0,b1,b2,b3,b4,b5,b6,b7⟩:=Sh.eight Cy.out;refine bodyPost_ret (v:=.tuple #[.agg #[iI SV.al,iI SV.de,iI SV.cp,iI SV.cn,iI SV.plan,iI SV.wr,iI SV.pr,iI SV.deny],iI OE]) (by simp [results,Tryz.results49,go_sem,b0,b1,b2,b3,b4,b5,b6,b7]) rfl ?_;exact GH HQ0.out HRw.out (by first|exact Cq.out|(rw [hp];exact Cq.out)) (fun h=>absurd h e2) (fun h=>absurd h e2)
    case pos =>
     have Co:=zZ (HBo.out e2);rw [if_pos e2] at HE;clear HBo;subst e2;by_cases e3:c.net=0
     case neg =>
      have n3:(c.net != 0)=true:=by simp [e3]
      have hE:OE=0:=by rw [HE.out,if_neg e3]
      have HR0:Hid (OR=r):=by show _=_;rw [HR.out,if_neg e3]
      subst hE;clear e3;obtain ⟨b0,b1,b2,b3,b4,b5,b6,b7⟩:=Sh.eight HY5.out;obtain ⟨f0,f1,f2,f3,f4,f5,f6,f7⟩:=Sh.frz HY5.out;go_wp2;clear b0 b1 b2 b3 b4 b5 b6 b7 f0 f1 f2 f3 f4 f5 f6 f7;generalize Cg:((((((((w5.setCell ⟨u,0,none⟩ (iI SV.al)).setCell ⟨u,1,none⟩ (iI SV.de)).setCell ⟨u,2,none⟩ (iI SV.cp)).setCell ⟨u,3,none⟩ (iI SV.cn)).setCell ⟨u,4,none⟩ (iI SV.plan)).setCell ⟨u,5,none⟩ (iI SV.wr)).setCell ⟨u,6,none⟩ (iI SV.pr)).setCell ⟨u,7,none⟩ (iI SV.deny))=WF at *;have Cy:Hid (WF.heap[u]?=some (.cells #[iI SV.al,iI SV.de,iI SV.cp,iI SV.cn,iI SV.plan,iI SV.wr,iI SV.pr,iI SV.deny] 45 (0,0))):=by rw [←Cg];exact Sh.BR HY5.out
      have Cq:Hid (Below p w WF):=by rw [←Cg];exact Sh.BP CF.out u HU.out _ _ _ _ _ _ _ _
      clear Cg;obtain ⟨b0,b1,b2,b3,b4,b5,b6,b7⟩:=Sh.eight Cy.out;refine bodyPost_ret (v:=.tuple #[.agg #[iI SV.al,iI SV.de,iI SV.cp,iI SV.cn,iI SV.plan,iI SV.wr,iI SV.pr,iI SV.deny],iI 0]) (by simp [results,Tryz.results49,go_sem,b0,b1,b2,b3,b4,b5,b6,b7]) rfl ?_;exact GH HQ0.out HRw.out (by first|exact Cq.out|(rw [hp];exact Cq.out)) (fun _=>rfl) (fun _=>HR0.out)
     case pos =>
      have n3:(c.net != 0)=false:=by simp [e3]
      have hE:OE=BE:=by rw [HE.out,if_pos e3]
      have hR:OR=BV:=by rw [HR.out,if_pos e3]
      subst hE;subst hR;clear e3 HE HR;have HQ5:Hid (w5.heap[q]?=some (.cells #[iI t.plan.mode,iI t.plan.Ay,iI t.plan.AR,iI t.plan.Bb,iI t.plan.AJ,.slice ma t.plan.rules.length mc,mf,me,sS c.id,sS c.mem,sS c.Br,iI c.net,iI c.does,sS c.ref,.slice la c.lines.length lc,mg,.slice ra r.length rc] 66 (0,0))):=by show _=_;rw [CF.out.block q HQl.out];exact HQ0.out
      have HRg:Hid (∀W',w5.grownBy W' (some q)->cu All W' (.slice ra r.length rc) r):=fun W' h=>HRw.out.move ⟨by have:=CF.out.size;have:=h.size;omega,fun b hl hk=>⟨trivial,(h.block b (by have:=CF.out.size;omega) (fun e=>hk (Option.some.inj e))).trans (CF.out.block b (by rw [←hp];exact hl))⟩⟩;have HGl:Hid (g < w5.heap.size):=(Array.getElem?_eq_some_iff.1 HG5.out).1;have HOl:Hid (ob < w5.heap.size):=(Array.getElem?_eq_some_iff.1 HO5.out).1;have HOq:Hid (ob ≠ q):=by show ob ≠ q;have:=HOB.out;have:=HQl.out;omega
      have HGq:Hid (g ≠ q):=by
       show g ≠ q;intro e;have h1:=HG5.out;rw [e,HQ5.out] at h1;have h2:=congrArg (fun z=>match z with|some (Obj.cells cs _ _)=>cs.size|_=>0) h1;simp at h2
      have HD5:=zZ (Below.drew (Below.refl w5.heap.size w5));go_upto_region 9 with fail
      clear g0 g1 g2 g3 g4 g5 g6 c0 c1 c2 c3 c4 c5 c6 c7;go_cut [17] (fun s17 wx=>s17=iI OE/\∃va vc,Hid (wx.heap[q]?=some (.cells #[iI t.plan.mode,iI t.plan.Ay,iI t.plan.AR,iI t.plan.Bb,iI t.plan.AJ,.slice ma t.plan.rules.length mc,mf,me,sS c.id,sS c.mem,sS c.Br,iI c.net,iI c.does,sS c.ref,.slice la c.lines.length lc,mg,.slice va OR.length vc] 66 (0,0)))/\Hid (Own w5.heap.size wx (.slice va OR.length vc) OR)/\Hid (w5.grownBy wx (some q)))
      case first =>
       refine Ri.I5 18 (by kernel_rfl) (by kernel_rfl) (by kernel_rfl) (by decide) (by kernel_rfl) (fun Wx=>w5.grownBy Wx (some q)) (fun kz vs wz=>(fun kx vx wx=>match kx with|0=>vx=pP q 0|1=>vx=pP q 0|2=>vx=pP q 0|3=>vx=pP q 16|4=>vx=.slice ra r.length rc|5=>vx=pP g 1|6=>vx=sS c.mem|7=>vx=pP g 2|8=>vx=sS c.Br|9=>vx=iI Y|10=>vx=.agg #[iI SV.al,iI SV.de,iI SV.cp,iI SV.cn,iI SV.plan,iI SV.wr,iI SV.pr,iI SV.deny]|11=>(∃g,vx=.tuple #[g,iI OE]/\Own w5.heap.size wx g OR)|12=>(∃g,vx=.tuple #[g,iI OE]/\Own w5.heap.size wx g OR)|13=>Own w5.heap.size wx vx OR|14=>vx=iI OE|15=>vx=pP q 0|16=>vx=pP q 16|17=>(∃va vc,wx.heap[q]?=some (.cells #[iI t.plan.mode,iI t.plan.Ay,iI t.plan.AR,iI t.plan.Bb,iI t.plan.AJ,.slice ma t.plan.rules.length mc,mf,me,sS c.id,sS c.mem,sS c.Br,iI c.net,iI c.does,sS c.ref,.slice la c.lines.length lc,mg,.slice va OR.length vc] 66 (0,0))/\Own w5.heap.size wx (.slice va OR.length vc) OR)|_=>True:Nat->Value->World->Prop) kz (vs kz) wz) (fun Cw vs wx=>Cw 17=false->wx.heap[q]?=some (.cells #[iI t.plan.mode,iI t.plan.Ay,iI t.plan.AR,iI t.plan.Bb,iI t.plan.AJ,.slice ma t.plan.rules.length mc,mf,me,sS c.id,sS c.mem,sS c.Br,iI c.net,iI c.does,sS c.ref,.slice la c.lines.length lc,mg,.slice ra r.length rc] 66 (0,0))) (fun kz=>[kz]) (by kernel_rfl) (fun jz vs iz vz wz hiz hz=>Ri.wI (F:=(fun kx vx wx=>match kx with|0=>vx=pP q 0|1=>vx=pP q 0|2=>vx=pP q 0|3=>vx=pP q 16|4=>vx=.slice ra r.length rc|5=>vx=pP g 1|6=>vx=sS c.mem|7=>vx=pP g 2|8=>vx=sS c.Br|9=>vx=iI Y|10=>vx=.agg #[iI SV.al,iI SV.de,iI SV.cp,iI SV.cn,iI SV.plan,iI SV.wr,iI SV.pr,iI SV.deny]|11=>(∃g,vx=.tuple #[g,iI OE]/\Own w5.heap.size wx g OR)|12=>(∃g,vx=.tuple #[g,iI OE]/\Own w5.heap.size wx g OR)|13=>Own w5.heap.size wx vx OR|14=>vx=iI OE|15=>vx=pP q 0|16=>vx=pP q 16|17=>(∃va vc,wx.heap[q]?=some (.cells #[iI t.plan.mode,iI t.plan.Ay,iI t.plan.AR,iI t.plan.Bb,iI t.plan.AJ,.slice ma t.plan.rules.length mc,mf,me,sS c.id,sS c.mem,sS c.Br,iI c.net,iI c.does,sS c.ref,.slice la c.lines.length lc,mg,.slice va OR.length vc] 66 (0,0))/\Own w5.heap.size wx (.slice va OR.length vc) OR)|_=>True:Nat->Value->World->Prop)) jz vs iz vz wz hiz hz) (grown_of HD5.out) ?_ ⟨⟨rfl,?_⟩,⟨rfl,?_⟩,⟨rfl,?_⟩,⟨rfl,?_⟩,⟨rfl,?_⟩,⟨rfl,?_⟩,⟨rfl,?_⟩,⟨rfl,?_⟩,⟨rfl,?_⟩,⟨rfl,?_⟩,⟨rfl,?_⟩,⟨rfl,?_⟩,⟨rfl,?_⟩,⟨rfl,?_⟩,⟨rfl,?_⟩,⟨rfl,?_⟩,⟨rfl,?_⟩,⟨rfl,?_⟩,trivial⟩ ?_
       ·intro vs hvs;exact fun _=>tV HQ5.out HD5.out
       iterate 2
        ·intro vs Wx A Cw hA hB hls hX hno hpre K hK;have e0:=(hA 0).trans (show _=pP q 0 by kernel_rfl);clear hA hpre;go_simp;exact hK _ _ hB rfl (fun _ _ h=>h) hX
       ·intro vs Wx A Cw hA hB hls hX hno hpre K hK;have e83:=tT (hA 83) (by kernel_rfl) (hpre.1 rfl);clear hA hpre;go_simp;exact hK _ _ hB rfl (fun _ _ h=>h) hX
       ·intro vs Wx A Cw hA hB hls hX hno hpre K hK;have e84:=tT (hA 84) (by kernel_rfl) (hpre.1 rfl);clear hA hpre;go_simp;exact hK _ _ hB rfl (fun _ _ h=>h) hX
       ·intro vs Wx A Cw hA hB hls hX hno hpre K hK;have e85:=tT (hA 85) (by kernel_rfl) (hpre.1 rfl);have hgx:=(hB.block g HGl.out (fun e=>HGq.out (Option.some.inj e))).trans HG5.out;obtain ⟨g0,g1,g2,g3,g4,g5,g6⟩:=jT hgx;have hox:=(hB.block ob HOl.out (fun e=>HOq.out (Option.some.inj e))).trans HO5.out;obtain ⟨c0,c1,c2,c3,c4,c5,c6,c7⟩:=Sh.eight hox;clear hgx hox;obtain ⟨h0,h1,h2,h3,h4,h5,h6,h7,h8,h9,h10,h11,h12,h13,h14,h15,h16⟩:=b17 (hX (hno 17 (Or.inr (by kernel_rfl))));clear hA hpre;go_simp;exact hK _ _ hB rfl (fun _ _ h=>h) hX
       ·intro vs Wx A Cw hA hB hls hX hno hpre K hK;have e10:=(hA 10).trans (show _=pP g 0 by kernel_rfl);clear hA hpre;go_simp;exact hK _ _ hB rfl (fun _ _ h=>h) hX
       ·intro vs Wx A Cw hA hB hls hX hno hpre K hK;have e87:=tT (hA 87) (by kernel_rfl) (hpre.1 rfl);have hgx:=(hB.block g HGl.out (fun e=>HGq.out (Option.some.inj e))).trans HG5.out;obtain ⟨g0,g1,g2,g3,g4,g5,g6⟩:=jT hgx;have hox:=(hB.block ob HOl.out (fun e=>HOq.out (Option.some.inj e))).trans HO5.out;obtain ⟨c0,c1,c2,c3,c4,c5,c6,c7⟩:=Sh.eight hox;clear hgx hox;clear hA hpre;go_simp;exact hK _ _ hB rfl (fun _ _ h=>h) hX
       ·intro vs Wx A Cw hA hB hls hX hno hpre K hK;have e10:=(hA 10).trans (show _=pP g 0 by kernel_rfl);clear hA hpre;go_simp;exact hK _ _ hB rfl (fun _ _ h=>h) hX
       ·intro vs Wx A Cw hA hB hls hX hno hpre K hK;have e89:=tT (hA 89) (by kernel_rfl) (hpre.1 rfl);have hgx:=(hB.block g HGl.out (fun e=>HGq.out (Option.some.inj e))).trans HG5.out;obtain ⟨g0,g1,g2,g3,g4,g5,g6⟩:=jT hgx;have hox:=(hB.block ob HOl.out (fun e=>HOq.out (Option.some.inj e))).trans HO5.out;obtain ⟨c0,c1,c2,c3,c4,c5,c6,c7⟩:=Sh.eight hox;clear hgx hox;clear hA hpre;go_simp;exact hK _ _ hB rfl (fun _ _ h=>h) hX
       ·intro vs Wx A Cw hA hB hls hX hno hpre K hK;have e11:=(hA 11).trans (show _=iI Y by kernel_rfl);clear hA hpre;go_simp;exact hK _ _ hB rfl (fun _ _ h=>h) hX
       ·intro vs Wx A Cw hA hB hls hX hno hpre K hK;have e18:=(hA 18).trans (show _=pP ob 0 by kernel_rfl);have hgx:=(hB.block g HGl.out (fun e=>HGq.out (Option.some.inj e))).trans HG5.out;obtain ⟨g0,g1,g2,g3,g4,g5,g6⟩:=jT hgx;have hox:=(hB.block ob HOl.out (fun e=>HOq.out (Option.some.inj e))).trans HO5.out;obtain ⟨c0,c1,c2,c3,c4,c5,c6,c7⟩:=Sh.eight hox;clear hgx hox;clear hA hpre;go_simp;exact hK _ _ hB rfl (fun _ _ h=>h) hX
       ·intro vs Wx A Cw hA hB hls hX hno hpre K hK;have e86:=tT (hA 86) (by kernel_rfl) (hpre.1 rfl);have e88:=tT (hA 88) (by kernel_rfl) (hpre.2.1 rfl);have e90:=tT (hA 90) (by kernel_rfl) (hpre.2.2.1 rfl);have e91:=tT (hA 91) (by kernel_rfl) (hpre.2.2.2.1 rfl);have e92:=tT (hA 92) (by kernel_rfl) (hpre.2.2.2.2.1 rfl);clear hA hpre;go_simp;go_at_call 92
        refine (Co.out Wx (HRg.out Wx hB)).mono ?_;rintro e w6 ⟨g6,rfl,ho,hg⟩;refine hK _ _ (dz hB hg) ⟨_,rfl,Ac.gF hB.size ho⟩ (fun jz hj hz=>?_) (fun h=>tV (hX h) hg);match jz,hj,hz with
        | 0,_,hz=>exact hz
        | 1,_,hz=>exact hz
        | 2,_,hz=>exact hz
        | 3,_,hz=>exact hz
        | 4,_,hz=>exact hz
        | 5,_,hz=>exact hz
        | 6,_,hz=>exact hz
        | 7,_,hz=>exact hz
        | 8,_,hz=>exact hz
        | 9,_,hz=>exact hz
        | 10,_,hz=>exact hz
        | 11,hj,_=>exact absurd rfl hj
        | 12,_,hz=>exact (hz.elim fun g h=>⟨g,h.1,Ac.Ak h.2 hg⟩)
        | 13,_,hz=>exact (Ac.Ak hz hg)
        | 14,_,hz=>exact hz
        | 15,_,hz=>exact hz
        | 16,_,hz=>exact hz
        | 17,_,hz=>exact (hz.elim fun va h=>h.elim fun vc k=>⟨va,vc,tV k.1 hg,Ac.Ak k.2 hg⟩)
        | n+18,_,hz=>exact hz
       ·intro vs Wx A Cw hA hB hls hX hno hpre K hK;have hx11:(∃g,(vs 11)=.tuple #[g,iI OE]/\Own w5.heap.size Wx g OR):=hpre.1 rfl;obtain ⟨gx11,hv11,hh11⟩:=hx11;have e93:=((hA 93).trans (show _=vs 11 by kernel_rfl)).trans hv11;clear hA hpre;go_simp;exact hK _ _ hB ⟨gx11,rfl,hh11⟩ (fun _ _ h=>h) hX
       ·intro vs Wx A Cw hA hB hls hX hno hpre K hK;have hx12:(∃g,(vs 12)=.tuple #[g,iI OE]/\Own w5.heap.size Wx g OR):=hpre.1 rfl;obtain ⟨gx12,hv12,hh12⟩:=hx12;have e81:=((hA 81).trans (show _=vs 12 by kernel_rfl)).trans hv12;clear hA hpre;go_simp;exact hK _ _ hB hh12 (fun _ _ h=>h) hX
       ·intro vs Wx A Cw hA hB hls hX hno hpre K hK;have hx12:(∃g,(vs 12)=.tuple #[g,iI OE]/\Own w5.heap.size Wx g OR):=hpre.1 rfl;obtain ⟨gx12,hv12,hh12⟩:=hx12;have e81:=((hA 81).trans (show _=vs 12 by kernel_rfl)).trans hv12;clear hA hpre;go_simp;exact hK _ _ hB rfl (fun _ _ h=>h) hX
       ·intro vs Wx A Cw hA hB hls hX hno hpre K hK;have e82:=tT (hA 82) (by kernel_rfl) (hpre.1 rfl);clear hA hpre;go_simp;exact hK _ _ hB rfl (fun _ _ h=>h) hX
       ·intro vs Wx A Cw hA hB hls hX hno hpre K hK;have e96:=tT (hA 96) (by kernel_rfl) (hpre.1 rfl);clear hA hpre;go_simp;exact hK _ _ hB rfl (fun _ _ h=>h) hX
       ·intro vs Wx A Cw hA hB hls hX hno hpre K hK;have e97:=tT (hA 97) (by kernel_rfl) (hpre.1 rfl);have hf13:Own w5.heap.size Wx (vs 13) OR:=hpre.2.1 rfl;have e94:=(hA 94).trans (show _=vs 13 by kernel_rfl);obtain ⟨va,vc,hv,-,-⟩:=Ac.Am hf13;rw [hv] at hf13 e94;have hqx:=hX (hno 17 (Or.inl rfl));obtain ⟨h0,h1,h2,h3,h4,h5,h6,h7,h8,h9,h10,h11,h12,h13,h14,h15,h16⟩:=b17 hqx;have fz:=Lib.frozen_of_heap hqx 16;have HS:=zZ (EL (u:=.slice va OR.length vc) hqx);have HKo:Hid (∀k,w5.heap.size<=k->k < Wx.heap.size->(Wx.setCell ⟨q,16,none⟩ (.slice va OR.length vc)).heap[k]?=Wx.heap[k]?):=fun k hk hk2=>Below.heap_setCell _ _ _ _ (by show k ≠ q;have:=CF.out.size;have:=HQl.out;omega);have HOS:=zZ (Aw hf13 HKo.out);have HGr:Hid (w5.grownBy (Wx.setCell ⟨q,16,none⟩ (.slice va OR.length vc)) (some q)):=⟨hB.os,hB.tape,hB.output,Nat.le_trans hB.size (by simp [World.setCell]),fun k hk hne=>(Below.heap_setCell _ _ _ _ (show k ≠ q from fun e=>hne (by rw [e]))).trans (hB.block k hk hne)⟩;clear hf13 hqx hv;clear hA hpre;go_simp;refine hK undef _ HGr.out ⟨va,vc,HS.out,HOS.out⟩ (fun jz hj hz=>?_) (fun h=>by simp at h);match jz,hj,hz with
        | 0,_,hz=>exact hz
        | 1,_,hz=>exact hz
        | 2,_,hz=>exact hz
        | 3,_,hz=>exact hz
        | 4,_,hz=>exact hz
        | 5,_,hz=>exact hz
        | 6,_,hz=>exact hz
        | 7,_,hz=>exact hz
        | 8,_,hz=>exact hz
        | 9,_,hz=>exact hz
        | 10,_,hz=>exact hz
        | 11,_,hz=>exact (hz.elim fun g h=>⟨g,h.1,Aw h.2 HKo.out⟩)
        | 12,_,hz=>exact (hz.elim fun g h=>⟨g,h.1,Aw h.2 HKo.out⟩)
        | 13,_,hz=>exact (Aw hz HKo.out)
        | 14,_,hz=>exact hz
        | 15,_,hz=>exact hz
        | 16,_,hz=>exact hz
        | 17,hj,_=>exact absurd rfl hj
        | n+18,_,hz=>exact hz
       ·intro vs Wx Cw hall hX hB hF;refine fun A18 hA K18 hK18=>?_;have e95:=tT (hA 95) (by kernel_rfl) (hF 14 (by decide));clear hA;go_simp;refine hK18 _ _ ?_;obtain ⟨va,vc,hS,hOS⟩:=hF 17 (by decide);have HS:=zZ hS;have HOS:=zZ hOS;have HGr:=zZ hB;clear hB hX hall hF hS hOS;simp only [Ri.Tail,Ri.puts];go_simp;go_wp2_with fail
        go_meet
        exact ⟨rfl,va,vc,HS.out,HOS.out,HGr.out⟩
      case rest =>
       obtain ⟨rfl,va,vc,HS,HOS,HGr⟩:=hcut;obtain ⟨w6,hw6⟩:∃z,z=wc:=⟨_,rfl⟩;subst hw6;have hku:u ≠ q:=by have:=HU.out;have:=HQl.out;omega
       have HY6:=zZ ((HGr.out.block u HUs.out (fun e=>hku (Option.some.inj e))).trans HY5.out);have hko:ob ≠ q:=by have h1:=(Array.getElem?_eq_some_iff.1 HO5.out).1;have:=HQl.out;have:=HOB.out;omega
       have HO6:=zZ ((HGr.out.block ob (Array.getElem?_eq_some_iff.1 HO5.out).1 (fun e=>hko (Option.some.inj e))).trans HO5.out);obtain ⟨c0,c1,c2,c3,c4,c5,c6,c7⟩:=Sh.eight HO6.out;obtain ⟨b0,b1,b2,b3,b4,b5,b6,b7⟩:=Sh.eight HY6.out;obtain ⟨f0,f1,f2,f3,f4,f5,f6,f7⟩:=Sh.frz HY6.out;have HKu:=zZ hku;clear hku hko;go_wp2;clear b0 b1 b2 b3 b4 b5 b6 b7 f0 f1 f2 f3 f4 f5 f6 f7 c0 c1 c2 c3 c4 c5 c6 c7;generalize Cg:((((((((w6.setCell ⟨u,0,none⟩ (iI SV.al)).setCell ⟨u,1,none⟩ (iI SV.de)).setCell ⟨u,2,none⟩ (iI SV.cp)).setCell ⟨u,3,none⟩ (iI SV.cn)).setCell ⟨u,4,none⟩ (iI SV.plan)).setCell ⟨u,5,none⟩ (iI SV.wr)).setCell ⟨u,6,none⟩ (iI SV.pr)).setCell ⟨u,7,none⟩ (iI SV.deny))=WF at *;have Cy:Hid (WF.heap[u]?=some (.cells #[iI SV.al,iI SV.de,iI SV.cp,iI SV.cn,iI SV.plan,iI SV.wr,iI SV.pr,iI SV.deny] 45 (0,0))):=by rw [←Cg];exact Sh.BR HY6.out
       have HSF:Hid (WF.heap[q]?=some (.cells #[iI t.plan.mode,iI t.plan.Ay,iI t.plan.AR,iI t.plan.Bb,iI t.plan.AJ,.slice ma t.plan.rules.length mc,mf,me,sS c.id,sS c.mem,sS c.Br,iI c.net,iI c.does,sS c.ref,.slice la c.lines.length lc,mg,.slice va OR.length vc] 66 (0,0))):=by rw [←Cg];exact Sh.BQ HS.out (Ne.symm HKu.out)
       have HFr:Hid (∀k,k ≠ u->WF.heap[k]?=w6.heap[k]?):=by rw [←Cg];exact fun k hk=>oD hk _ _ _ _ _ _ _ _
       have HOt:Hid (Below 0 w6 WF):=by rw [←Cg];exact Sh.BP (Below.refl 0 w6) u (Nat.zero_le _) _ _ _ _ _ _ _ _
       clear Cg;obtain ⟨b0,b1,b2,b3,b4,b5,b6,b7⟩:=Sh.eight Cy.out;refine bodyPost_ret (v:=.tuple #[.agg #[iI SV.al,iI SV.de,iI SV.cp,iI SV.cn,iI SV.plan,iI SV.wr,iI SV.pr,iI SV.deny],iI OE]) (by simp [results,Tryz.results49,go_sem,b0,b1,b2,b3,b4,b5,b6,b7]) rfl ?_;refine ⟨⟨SV,rfl,fun _=>rfl⟩,?_,fun _=>⟨_,HSF.out,?_⟩⟩
       ·refine ⟨HOt.out.os.trans (HGr.out.os.trans CF.out.os),HOt.out.tape.trans (HGr.out.tape.trans CF.out.tape),HOt.out.output.trans (HGr.out.output.trans CF.out.output),?_,fun k hk hne=>?_⟩
        ·exact Nat.le_trans (Nat.le_trans CF.out.size HGr.out.size) HOt.out.size
        ·rw [hp] at hk;rw [HFr.out k (by have:=HU.out;omega),HGr.out.block k (by have:=CF.out.size;omega) hne];exact CF.out.block k hk
       ·refine Ep (Aw HOS.out (fun k hk _=>HFr.out k (by have:=HUs.out;omega))) ?_;have:=CF.out.size;have:=HQl.out;omega
end Ju
end Go.Proofs.YtfbfeoplldjbpaaGreatDoor
