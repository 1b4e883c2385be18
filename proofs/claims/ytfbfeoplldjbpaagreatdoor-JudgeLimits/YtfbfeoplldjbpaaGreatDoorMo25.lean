/-
  Texts put together (merge.py): JSet.
-/
import Derived.Test.YtfbfeoplldjbpaaGreatDoorMo24
set_option linter.unusedSimpArgs false
set_option linter.unusedVariables false
set_option maxHeartbeats 16000000
set_option maxRecDepth 100000
section
namespace Go.Proofs.YtfbfeoplldjbpaaGreatDoor.Ju
open Go.RowKit
open Ac (Row pU dJ dM jF jG DW DU left cu Own tV qL iU jg jf fK)
open Sh (Ot bD bC bK bE EP EW Dt Du member Jj)
open Cm (Ln Cl bH lnv clv bG aC)
theorem FD (t:Tb) (c:Cl) (r:List Row) (x:Ln) (co:Bool) (i:It) (q:Nat) (m mf me ml mg vr mx:Value) (w:World)
  (hq:w.heap[q]?=some (.cells #[.int .i64 t.plan.mode,.int .i64 t.plan.indDed,.int .i64 t.plan.famDed,.int .i64 t.plan.indOop,.int .i64 t.plan.famOop,m,mf,me,.string (mk c.id),.string (mk c.mem),.string (mk c.fam),.int .i64 c.net,.int .i64 c.does,.string (mk c.ref),ml,mg,vr] 66 (0,0))) (fm:∃a k,m=.slice a t.plan.rules.length k) (fl:∃a k,ml=.slice a c.lines.length k) (fx:∃a k,mx=.slice a x.mods.length k)
  (hr:cu (fun b=>b ≠ q) w vr r) (hO:Ac.Ok r) (hl:r.length<=8000) (hpl:Pl.kF t.plan=0) (hd:Da.good x.date=true) (hx:bG x) (hT:Da.Tab w) (hw:i.why=0) (hy:i.yr=Da.yr x.date) (hbi:i.bi=x.billed) (hpr:i.pr=x.prior) :
  Calls Tryz.prog 49 #[.pointer (some ⟨q,0,none⟩),.agg #[.string (mk x.proc),mx,.int .i64 x.date,.int .i64 x.units,.int .i64 x.billed,.int .i64 x.prior],.agg #[.bool co,.bool i.dd,.int .i64 i.cp,.int .i64 i.cn],.int .i64 i.al] w fun e w'=>SvV q (zL (cxV t c) r i) (zU (cxV t c) r i) (zO (cxV t c) r i) (fun v=>#[.int .i64 t.plan.mode,.int .i64 t.plan.indDed,.int .i64 t.plan.famDed,.int .i64 t.plan.indOop,.int .i64 t.plan.famOop,m,mf,me,.string (mk c.id),.string (mk c.mem),.string (mk c.fam),.int .i64 c.net,.int .i64 c.does,.string (mk c.ref),ml,mg,v]) w e w':=by
 obtain ⟨ma,mc,rfl⟩:=fm
 obtain ⟨la,lc,rfl⟩:=fl
 obtain ⟨xa,xc,rfl⟩:=fx
 obtain ⟨ra,rc,rfl,-,-⟩:=hr.form
 obtain ⟨i1,i2,i3,i4⟩:=Ac.Bl hpl
 have HQ0:=Lib.hid hq
 have HRw:=Lib.hid hr
 have HRlo:Hid (∀W,Below w.heap.size w W->cu All W (.slice ra r.length rc) r):=fun W hW=>(En hr hW).all
 have HYr:Hid (∀W,Below w.heap.size w W->Calls Tryz.prog 74 #[.int .i64 x.date] W fun e w'=>e=.returned (.int .i64 i.yr)/\w'=W):=fun W hW=>by
  have h:=Da.Jb x.date W (Cm.tab_below hT hW) hx.1.1 hx.1.2
  rw [Jc hd,←hy] at h
  exact h
 have HRo:Hid (∀W,cu All W (.slice ra r.length rc) r->Calls Tryz.prog 89 #[.agg #[.int .i64 t.plan.mode,.int .i64 t.plan.indDed,.int .i64 t.plan.famDed,.int .i64 t.plan.indOop,.int .i64 t.plan.famOop,.slice ma t.plan.rules.length mc],.slice ra r.length rc,.string (mk c.mem),.string (mk c.fam),.int .i64 i.yr] W fun e w'=>e=.returned (.tuple #[.int .i64 (rD (cxV t c) r i.yr),.int .i64 (rO (cxV t c) r i.yr)])/\Below W.heap.size W w'):=fun W hW=>Ac.DV _ _ _ _ _ ma _ mc r c.mem c.fam i.yr _ W hW (by omega) hO i1 i2 i3 i4
 have HBe:Hid (∀W,Calls Tryz.prog 90 #[.int .i64 i.al,.agg #[.bool co,.bool i.dd,.int .i64 i.cp,.int .i64 i.cn],.int .i64 (rD (cxV t c) r i.yr),.int .i64 (rO (cxV t c) r i.yr),.int .i64 c.net] W fun e w'=>e=.returned (.tuple #[.int .i64 (vD (cxV t c) r i),.int .i64 (vC (cxV t c) r i),.int .i64 (vK (cxV t c) r i),.int .i64 (eB (cxV t c) r i)])/\Below W.heap.size W w'):=fun W=>Sh.iq i.al co i.dd i.cp i.cn _ _ c.net W
 have HSe:Hid (∀W,Calls Tryz.prog 91 #[.int .i64 x.billed,.int .i64 i.al,.int .i64 x.prior,.int .i64 (vD (cxV t c) r i),.int .i64 (vC (cxV t c) r i),.int .i64 (vK (cxV t c) r i)] W fun e w'=>e=.returned (.tuple #[.agg #[.int .i64 (zU (cxV t c) r i).al,.int .i64 (zU (cxV t c) r i).de,.int .i64 (zU (cxV t c) r i).cp,.int .i64 (zU (cxV t c) r i).cn,.int .i64 (zU (cxV t c) r i).plan,.int .i64 (zU (cxV t c) r i).wr,.int .i64 (zU (cxV t c) r i).pr,.int .i64 (zU (cxV t c) r i).deny],.int .i64 (eS (cxV t c) r i)])/\Below W.heap.size W w'):=fun W=>by
  rw [zW hw,←hbi,←hpr]
  exact Sh.FD i.bi i.al i.pr _ _ _ W
 have HBo:Hid (eS (cxV t c) r i=0->∀W,cu All W (.slice ra r.length rc) r->Calls Tryz.prog 92 #[.slice ra r.length rc,.string (mk c.mem),.string (mk c.fam),.int .i64 i.yr,.agg #[.int .i64 (zU (cxV t c) r i).al,.int .i64 (zU (cxV t c) r i).de,.int .i64 (zU (cxV t c) r i).cp,.int .i64 (zU (cxV t c) r i).cn,.int .i64 (zU (cxV t c) r i).plan,.int .i64 (zU (cxV t c) r i).wr,.int .i64 (zU (cxV t c) r i).pr,.int .i64 (zU (cxV t c) r i).deny]] W fun e w'=>∃v',e=.returned (.tuple #[v',.int .i64 (jF r c.mem c.fam i.yr (zU (cxV t c) r i))])/\Own W.heap.size w' v' (jG r c.mem c.fam i.yr (zU (cxV t c) r i))/\Below W.heap.size W w'):=fun h W hW=>Ac.both_any r c.mem c.fam i.yr _ _ W hW (by omega) hO (zX hw h)
 have HE:Hid (zL (cxV t c) r i=if eB (cxV t c) r i=0 then (if eS (cxV t c) r i=0 then (if c.net=0 then jF r c.mem c.fam i.yr (zU (cxV t c) r i) else 0) else eS (cxV t c) r i) else eB (cxV t c) r i):=zN hw
 have HR:Hid (zO (cxV t c) r i=if c.net=0 then jG r c.mem c.fam i.yr (zU (cxV t c) r i) else r):=zT hw
 clear hpl hx hT hd hw hy hbi hpr i1 i2 i3 i4 hq hr hl hO
 generalize jF r c.mem c.fam i.yr (zU (cxV t c) r i)=BE at *
 generalize jG r c.mem c.fam i.yr (zU (cxV t c) r i)=BV at *
 generalize zL (cxV t c) r i=OE at *
 generalize zO (cxV t c) r i=OR at *
 generalize zU (cxV t c) r i=SV at *
 generalize eS (cxV t c) r i=ES at *
 generalize eB (cxV t c) r i=EB at *
 generalize vD (cxV t c) r i=B1 at *
 generalize vC (cxV t c) r i=B2 at *
 generalize vK (cxV t c) r i=B3 at *
 generalize rD (cxV t c) r i.yr=D at *
 generalize rO (cxV t c) r i.yr=OO at *
 generalize i.yr=Y at *
 have hbx:Below w.heap.size w (((w.alloc (.cells #[.string (mk x.proc),.slice xa x.mods.length xc,.int .i64 x.date,.int .i64 x.units,.int .i64 x.billed,.int .i64 x.prior] 48)).alloc (.cells #[.bool co,.bool i.dd,.int .i64 i.cp,.int .i64 i.cn] 99)).alloc (.cells #[.int .i64 0,.int .i64 0,.int .i64 0,.int .i64 0,.int .i64 0,.int .i64 0,.int .i64 0,.int .i64 0] 45)):=jg (jg (iU _ _) (iU _ _)) (iU _ _)
 have hz1:=tV (fK w #[.string (mk x.proc),.slice xa x.mods.length xc,.int .i64 x.date,.int .i64 x.units,.int .i64 x.billed,.int .i64 x.prior] 48) (jg (iU _ (.cells #[.bool co,.bool i.dd,.int .i64 i.cp,.int .i64 i.cn] 99)) (iU _ (.cells #[.int .i64 0,.int .i64 0,.int .i64 0,.int .i64 0,.int .i64 0,.int .i64 0,.int .i64 0,.int .i64 0] 45)))
 have hz2:=tV (fK (w.alloc (.cells #[.string (mk x.proc),.slice xa x.mods.length xc,.int .i64 x.date,.int .i64 x.units,.int .i64 x.billed,.int .i64 x.prior] 48)) #[.bool co,.bool i.dd,.int .i64 i.cp,.int .i64 i.cn] 99) (iU _ (.cells #[.int .i64 0,.int .i64 0,.int .i64 0,.int .i64 0,.int .i64 0,.int .i64 0,.int .i64 0,.int .i64 0] 45))
 have hz3:=fK ((w.alloc (.cells #[.string (mk x.proc),.slice xa x.mods.length xc,.int .i64 x.date,.int .i64 x.units,.int .i64 x.billed,.int .i64 x.prior] 48)).alloc (.cells #[.bool co,.bool i.dd,.int .i64 i.cp,.int .i64 i.cn] 99)) #[.int .i64 0,.int .i64 0,.int .i64 0,.int .i64 0,.int .i64 0,.int .i64 0,.int .i64 0,.int .i64 0] 45
 rw [show (w.alloc (.cells #[.string (mk x.proc),.slice xa x.mods.length xc,.int .i64 x.date,.int .i64 x.units,.int .i64 x.billed,.int .i64 x.prior] 48)).heap.size=w.heap.size+1 by simp] at hz2
 rw [show ((w.alloc (.cells #[.string (mk x.proc),.slice xa x.mods.length xc,.int .i64 x.date,.int .i64 x.units,.int .i64 x.billed,.int .i64 x.prior] 48)).alloc (.cells #[.bool co,.bool i.dd,.int .i64 i.cp,.int .i64 i.cn] 99)).heap.size=w.heap.size+2 by simp] at hz3
 have HX:=Lib.hid hz1
 have HN:=Lib.hid hz2
 have HY:=Lib.hid hz3
 have HB0:=Lib.hid hbx
 clear hbx hz1 hz2 hz3
 have HQl:Hid (q < w.heap.size):=(Array.getElem?_eq_some_iff.1 HQ0.out).1
 go_enter Tryz.func49,Tryz.ntmps49
 go_upto_region 1 with fail
 generalize (((w.alloc (.cells #[.string (mk x.proc),.slice xa x.mods.length xc,.int .i64 x.date,.int .i64 x.units,.int .i64 x.billed,.int .i64 x.prior] 48)).alloc (.cells #[.bool co,.bool i.dd,.int .i64 i.cp,.int .i64 i.cn] 99)).alloc (.cells #[.int .i64 0,.int .i64 0,.int .i64 0,.int .i64 0,.int .i64 0,.int .i64 0,.int .i64 0,.int .i64 0] 45))=W at *
 generalize hp:w.heap.size=p at *
 obtain ⟨bn,hbn⟩:∃u,u=p+1:=⟨_,rfl⟩
 obtain ⟨u,hu⟩:∃u,u=p+2:=⟨_,rfl⟩
 have HU:Hid (p<=u):=by show p<=u;omega
 rw [←hbn] at HN ⊢
 rw [←hu] at HY
 rw [show bn+1=u by omega]
 clear hbn hu
 have HQW:Hid (W.heap[q]?=some (.cells #[.int .i64 t.plan.mode,.int .i64 t.plan.indDed,.int .i64 t.plan.famDed,.int .i64 t.plan.indOop,.int .i64 t.plan.famOop,.slice ma t.plan.rules.length mc,mf,me,.string (mk c.id),.string (mk c.mem),.string (mk c.fam),.int .i64 c.net,.int .i64 c.does,.string (mk c.ref),.slice la c.lines.length lc,mg,.slice ra r.length rc] 66 (0,0))):=by show _=_;rw [HB0.out.block q HQl.out];exact HQ0.out
 have HXK:=Lib.hid fun W' (hW:Below W.heap.size W W')=>And.intro (b17 (tV HQW.out hW)) (Pl.jU (tV HX.out hW))
 have HD:=Lib.hid (Below.drew (Below.refl W.heap.size W))
 go_cut [10,11] (fun s10 s11 wx=>∃g:Nat,s10=.pointer (some ⟨g,0,none⟩)/\s11=.int .i64 Y/\Hid (wx.heap[g]?=some (.cells #[.string (mk c.id),.string (mk c.mem),.string (mk c.fam),.int .i64 c.net,.int .i64 c.does,.string (mk c.ref),.slice la c.lines.length lc] 31 (0,0)))/\Hid (Below W.heap.size W wx))
 case first =>
  refine Ri.I7 8 (by kernel_rfl) (by kernel_rfl) (by kernel_rfl) (by decide) (by kernel_rfl) (fun Wx=>Below W.heap.size W Wx) (fun kz vs wz=>(fun kx vx wx=>match kx with|0=>vx=.pointer (some ⟨q,0,none⟩)|1=>vx=.pointer (some ⟨q,0,none⟩)|2=>vx=.pointer (some ⟨q,8,none⟩)|3=>vx=.agg #[.string (mk c.id),.string (mk c.mem),.string (mk c.fam),.int .i64 c.net,.int .i64 c.does,.string (mk c.ref),.slice la c.lines.length lc]|4=>vx=.pointer (some ⟨p,2,none⟩)|5=>vx=.int .i64 x.date|6=>vx=.int .i64 Y|7=>(∃g,vx=.pointer (some ⟨g,0,none⟩)/\W.heap.size<=g/\wx.heap[g]?=some (.cells #[.string ⟨#[]⟩,.string ⟨#[]⟩,.string ⟨#[]⟩,.int .i64 0,.int .i64 0,.string ⟨#[]⟩,.slice none 0 0] 31 (0,0)))|_=>True:Nat->Value->World->Prop) kz (vs kz) wz) (fun lst vs=>True) (fun kz=>[kz]) (by kernel_rfl) (fun jz vs iz vz wz hiz hz=>Ri.wI (F:=(fun kx vx wx=>match kx with|0=>vx=.pointer (some ⟨q,0,none⟩)|1=>vx=.pointer (some ⟨q,0,none⟩)|2=>vx=.pointer (some ⟨q,8,none⟩)|3=>vx=.agg #[.string (mk c.id),.string (mk c.mem),.string (mk c.fam),.int .i64 c.net,.int .i64 c.does,.string (mk c.ref),.slice la c.lines.length lc]|4=>vx=.pointer (some ⟨p,2,none⟩)|5=>vx=.int .i64 x.date|6=>vx=.int .i64 Y|7=>(∃g,vx=.pointer (some ⟨g,0,none⟩)/\W.heap.size<=g/\wx.heap[g]?=some (.cells #[.string ⟨#[]⟩,.string ⟨#[]⟩,.string ⟨#[]⟩,.int .i64 0,.int .i64 0,.string ⟨#[]⟩,.slice none 0 0] 31 (0,0)))|_=>True:Nat->Value->World->Prop)) jz vs iz vz wz hiz hz) HD.out ?_ ⟨⟨rfl,?_⟩,⟨rfl,?_⟩,⟨rfl,?_⟩,⟨rfl,?_⟩,⟨rfl,?_⟩,⟨rfl,?_⟩,⟨rfl,?_⟩,⟨rfl,?_⟩,trivial⟩ ?_
  ·intro vs hvs
   exact trivial
  ·intro vs Wx A lst hA hB hls hX hno hpre K hK
   have e0:=(hA 0).trans (show _=Value.pointer (some ⟨q,0,none⟩) by kernel_rfl)
   clear hA hpre
   go_simp
   exact hK _ _ hB rfl (fun _ _ h=>h) hX
  ·intro vs Wx A lst hA hB hls hX hno hpre K hK
   have e19:=((hA 19).trans (show _=vs 0 by kernel_rfl)).trans (hpre.1 rfl)
   clear hA hpre
   go_simp
   exact hK _ _ hB rfl (fun _ _ h=>h) hX
  ·intro vs Wx A lst hA hB hls hX hno hpre K hK
   have e20:=((hA 20).trans (show _=vs 1 by kernel_rfl)).trans (hpre.1 rfl)
   clear hA hpre
   go_simp
   exact hK _ _ hB rfl (fun _ _ h=>h) hX
  ·intro vs Wx A lst hA hB hls hX hno hpre K hK
   have e21:=((hA 21).trans (show _=vs 2 by kernel_rfl)).trans (hpre.1 rfl)
   obtain ⟨⟨h0,h1,h2,h3,h4,h5,h6,h7,h8,h9,h10,h11,h12,h13,h14,h15,h16⟩,⟨x0,x1,x2,x3,x4,x5⟩⟩:=HXK.out Wx hB
   clear hA hpre
   go_simp
   exact hK _ _ hB rfl (fun _ _ h=>h) hX
  ·intro vs Wx A lst hA hB hls hX hno hpre K hK
   have e5:=(hA 5).trans (show _=Value.pointer (some ⟨p,0,none⟩) by kernel_rfl)
   clear hA hpre
   go_simp
   exact hK _ _ hB rfl (fun _ _ h=>h) hX
  ·intro vs Wx A lst hA hB hls hX hno hpre K hK
   have e23:=((hA 23).trans (show _=vs 4 by kernel_rfl)).trans (hpre.1 rfl)
   obtain ⟨⟨h0,h1,h2,h3,h4,h5,h6,h7,h8,h9,h10,h11,h12,h13,h14,h15,h16⟩,⟨x0,x1,x2,x3,x4,x5⟩⟩:=HXK.out Wx hB
   clear hA hpre
   go_simp
   exact hK _ _ hB rfl (fun _ _ h=>h) hX
  ·intro vs Wx A lst hA hB hls hX hno hpre K hK
   have e24:=((hA 24).trans (show _=vs 5 by kernel_rfl)).trans (hpre.1 rfl)
   clear hA hpre
   go_simp
   go_at_call 74
   refine (HYr.out Wx (jf hp HB0.out hB)).mono ?_
   rintro e w3 ⟨rfl,hw⟩
   rw [hw]
   exact hK _ _ hB rfl (fun _ _ h=>h) hX
  ·intro vs Wx A lst hA hB hls hX hno hpre K hK
   clear hA hpre
   go_simp
   refine hK _ _ (jg hB (iU Wx _)) ⟨_,rfl,hB.size,heap_alloc_new Wx _⟩ (fun jz hj hz=>?_) hX
   match jz,hj,hz with
   | 0,_,hz=>exact hz
   | 1,_,hz=>exact hz
   | 2,_,hz=>exact hz
   | 3,_,hz=>exact hz
   | 4,_,hz=>exact hz
   | 5,_,hz=>exact hz
   | 6,_,hz=>exact hz
   | 7,hj,_=>exact absurd rfl hj
   | n+8,_,hz=>exact hz
  ·intro vs Wx lst hall hX hB hF
   refine fun A8 hA K8 hK8=>?_
   have e10:=(hA 10).trans (show _=vs 7 by kernel_rfl)
   have e22:=((hA 22).trans (show _=vs 3 by kernel_rfl)).trans (hF 3 (by decide))
   clear hA
   obtain ⟨g,ea,hga,hza⟩:=hF 7 (by decide)
   rw [ea] at e10
   obtain ⟨m0,m1,m2,m3,m4,m5,m6⟩:=jT hza
   obtain ⟨k0,k1,k2,k3,k4,k5,k6⟩:=f7 hza
   have HNA:=Lib.hid (AU hza (.string (mk c.id)) (.string (mk c.mem)) (.string (mk c.fam)) (.int .i64 c.net) (.int .i64 c.does) (.string (mk c.ref)) (.slice la c.lines.length lc))
   have HBP:=Lib.hid (AQ hB g hga (.string (mk c.id)) (.string (mk c.mem)) (.string (mk c.fam)) (.int .i64 c.net) (.int .i64 c.does) (.string (mk c.ref)) (.slice la c.lines.length lc))
   have HEA:=Lib.hid ea
   clear hga hza
   go_simp
   refine hK8 undef _ ?_
   clear m0 m1 m2 m3 m4 m5 m6 k0 k1 k2 k3 k4 k5 k6 e10 e22
   refine fun A9 hA K9 hK9=>?_
   have e25:=((hA 25).trans (show _=vs 6 by kernel_rfl)).trans (hF 6 (by decide))
   clear hA
   go_simp
   refine hK9 _ _ ?_
   clear hB hX hall hF
   simp only [Ri.Tail,Ri.puts]
   go_simp
   go_wp2_with fail
   go_meet
   exact ⟨g,by first|exact HEA.out|(go_simp;exact HEA.out)|(simpa [Ri.upd] using HEA.out),rfl,HNA.out,HBP.out⟩
 case rest =>
  obtain ⟨g,rfl,rfl,HG1,HB1⟩:=hcut
  obtain ⟨w1,hw1⟩:∃z,z=wc:=⟨_,rfl⟩
  subst hw1
  have HXL:=Lib.hid fun W' (hW:Below w1.heap.size w1 W')=>And.intro (HXK.out W' (jg HB1.out hW)) (jT (tV HG1.out hW))
  have HD1:=Lib.hid (Below.drew (Below.refl w1.heap.size w1))
  have HBw:=Lib.hid (jf hp HB0.out HB1.out)
  clear HD HYr HB0
  go_upto_region 2 with fail
  go_cut [12,13] (fun s12 s13 wx=>s12=.int .i64 D/\s13=.int .i64 OO/\Hid (Below w1.heap.size w1 wx))
  case first =>
   refine Ri.IY (by kernel_rfl) (by kernel_rfl) (by kernel_rfl) (fun Wx=>Below w1.heap.size w1 Wx) (fun kz vs wz=>(fun kx vx wx=>match kx with|0=>vx=.pointer (some ⟨q,0,none⟩)|1=>vx=.pointer (some ⟨q,0,none⟩)|2=>vx=.pointer (some ⟨q,0,none⟩)|3=>vx=.pointer (some ⟨q,0,none⟩)|4=>vx=.agg #[.int .i64 t.plan.mode,.int .i64 t.plan.indDed,.int .i64 t.plan.famDed,.int .i64 t.plan.indOop,.int .i64 t.plan.famOop,.slice ma t.plan.rules.length mc]|5=>vx=.pointer (some ⟨q,0,none⟩)|6=>vx=.pointer (some ⟨q,0,none⟩)|7=>vx=.pointer (some ⟨q,16,none⟩)|8=>vx=.slice ra r.length rc|9=>vx=.pointer (some ⟨g,1,none⟩)|10=>vx=.string (mk c.mem)|11=>vx=.pointer (some ⟨g,2,none⟩)|12=>vx=.string (mk c.fam)|13=>vx=.int .i64 Y|14=>vx=.tuple #[.int .i64 D,.int .i64 OO]|15=>vx=.tuple #[.int .i64 D,.int .i64 OO]|16=>vx=.int .i64 D|17=>vx=.int .i64 OO|18=>vx=.int .i64 D|19=>vx=.int .i64 OO|_=>True:Nat->Value->World->Prop) kz (vs kz) wz) (fun kz=>[kz]) (by kernel_rfl) (fun jz vs iz vz wz hiz hz=>Ri.wI (F:=(fun kx vx wx=>match kx with|0=>vx=.pointer (some ⟨q,0,none⟩)|1=>vx=.pointer (some ⟨q,0,none⟩)|2=>vx=.pointer (some ⟨q,0,none⟩)|3=>vx=.pointer (some ⟨q,0,none⟩)|4=>vx=.agg #[.int .i64 t.plan.mode,.int .i64 t.plan.indDed,.int .i64 t.plan.famDed,.int .i64 t.plan.indOop,.int .i64 t.plan.famOop,.slice ma t.plan.rules.length mc]|5=>vx=.pointer (some ⟨q,0,none⟩)|6=>vx=.pointer (some ⟨q,0,none⟩)|7=>vx=.pointer (some ⟨q,16,none⟩)|8=>vx=.slice ra r.length rc|9=>vx=.pointer (some ⟨g,1,none⟩)|10=>vx=.string (mk c.mem)|11=>vx=.pointer (some ⟨g,2,none⟩)|12=>vx=.string (mk c.fam)|13=>vx=.int .i64 Y|14=>vx=.tuple #[.int .i64 D,.int .i64 OO]|15=>vx=.tuple #[.int .i64 D,.int .i64 OO]|16=>vx=.int .i64 D|17=>vx=.int .i64 OO|18=>vx=.int .i64 D|19=>vx=.int .i64 OO|_=>True:Nat->Value->World->Prop)) jz vs iz vz wz hiz hz) HD1.out ⟨⟨rfl,?_⟩,⟨rfl,?_⟩,⟨rfl,?_⟩,⟨rfl,?_⟩,⟨rfl,?_⟩,⟨rfl,?_⟩,⟨rfl,?_⟩,⟨rfl,?_⟩,⟨rfl,?_⟩,⟨rfl,?_⟩,⟨rfl,?_⟩,⟨rfl,?_⟩,⟨rfl,?_⟩,⟨rfl,?_⟩,⟨rfl,?_⟩,⟨rfl,?_⟩,⟨rfl,?_⟩,⟨rfl,?_⟩,⟨rfl,?_⟩,⟨rfl,?_⟩,trivial⟩ ?_
   ·intro vs Wx A hA hB hpre K hK
    have e0:=(hA 0).trans (show _=Value.pointer (some ⟨q,0,none⟩) by kernel_rfl)
    clear hA hpre
    go_simp
    exact hK _ _ hB rfl (fun _ _ h=>h)
   ·intro vs Wx A hA hB hpre K hK
    have e27:=((hA 27).trans (show _=vs 0 by kernel_rfl)).trans (hpre.1 rfl)
    clear hA hpre
    go_simp
    exact hK _ _ hB rfl (fun _ _ h=>h)
   ·intro vs Wx A hA hB hpre K hK
    have e28:=((hA 28).trans (show _=vs 1 by kernel_rfl)).trans (hpre.1 rfl)
    clear hA hpre
    go_simp
    exact hK _ _ hB rfl (fun _ _ h=>h)
   ·intro vs Wx A hA hB hpre K hK
    have e29:=((hA 29).trans (show _=vs 2 by kernel_rfl)).trans (hpre.1 rfl)
    clear hA hpre
    go_simp
    exact hK _ _ hB rfl (fun _ _ h=>h)
   ·intro vs Wx A hA hB hpre K hK
    have e30:=((hA 30).trans (show _=vs 3 by kernel_rfl)).trans (hpre.1 rfl)
    obtain ⟨⟨⟨h0,h1,h2,h3,h4,h5,h6,h7,h8,h9,h10,h11,h12,h13,h14,h15,h16⟩,⟨x0,x1,x2,x3,x4,x5⟩⟩,g0,g1,g2,g3,g4,g5,g6⟩:=HXL.out Wx hB
    clear hA hpre
    go_simp
    exact hK _ _ hB rfl (fun _ _ h=>h)
   ·intro vs Wx A hA hB hpre K hK
    have e0:=(hA 0).trans (show _=Value.pointer (some ⟨q,0,none⟩) by kernel_rfl)
    clear hA hpre
    go_simp
    exact hK _ _ hB rfl (fun _ _ h=>h)
   ·intro vs Wx A hA hB hpre K hK
    have e32:=((hA 32).trans (show _=vs 5 by kernel_rfl)).trans (hpre.1 rfl)
    clear hA hpre
    go_simp
    exact hK _ _ hB rfl (fun _ _ h=>h)
   ·intro vs Wx A hA hB hpre K hK
    have e33:=((hA 33).trans (show _=vs 6 by kernel_rfl)).trans (hpre.1 rfl)
    clear hA hpre
    go_simp
    exact hK _ _ hB rfl (fun _ _ h=>h)
   ·intro vs Wx A hA hB hpre K hK
    have e34:=((hA 34).trans (show _=vs 7 by kernel_rfl)).trans (hpre.1 rfl)
    obtain ⟨⟨⟨h0,h1,h2,h3,h4,h5,h6,h7,h8,h9,h10,h11,h12,h13,h14,h15,h16⟩,⟨x0,x1,x2,x3,x4,x5⟩⟩,g0,g1,g2,g3,g4,g5,g6⟩:=HXL.out Wx hB
    clear hA hpre
    go_simp
    exact hK _ _ hB rfl (fun _ _ h=>h)
   ·intro vs Wx A hA hB hpre K hK
    have e10:=(hA 10).trans (show _=Value.pointer (some ⟨g,0,none⟩) by kernel_rfl)
    clear hA hpre
    go_simp
    exact hK _ _ hB rfl (fun _ _ h=>h)
   ·intro vs Wx A hA hB hpre K hK
    have e36:=((hA 36).trans (show _=vs 9 by kernel_rfl)).trans (hpre.1 rfl)
    obtain ⟨⟨⟨h0,h1,h2,h3,h4,h5,h6,h7,h8,h9,h10,h11,h12,h13,h14,h15,h16⟩,⟨x0,x1,x2,x3,x4,x5⟩⟩,g0,g1,g2,g3,g4,g5,g6⟩:=HXL.out Wx hB
    clear hA hpre
    go_simp
    exact hK _ _ hB rfl (fun _ _ h=>h)
   ·intro vs Wx A hA hB hpre K hK
    have e10:=(hA 10).trans (show _=Value.pointer (some ⟨g,0,none⟩) by kernel_rfl)
    clear hA hpre
    go_simp
    exact hK _ _ hB rfl (fun _ _ h=>h)
   ·intro vs Wx A hA hB hpre K hK
    have e38:=((hA 38).trans (show _=vs 11 by kernel_rfl)).trans (hpre.1 rfl)
    obtain ⟨⟨⟨h0,h1,h2,h3,h4,h5,h6,h7,h8,h9,h10,h11,h12,h13,h14,h15,h16⟩,⟨x0,x1,x2,x3,x4,x5⟩⟩,g0,g1,g2,g3,g4,g5,g6⟩:=HXL.out Wx hB
    clear hA hpre
    go_simp
    exact hK _ _ hB rfl (fun _ _ h=>h)
   ·intro vs Wx A hA hB hpre K hK
    have e11:=(hA 11).trans (show _=Value.int .i64 Y by kernel_rfl)
    clear hA hpre
    go_simp
    exact hK _ _ hB rfl (fun _ _ h=>h)
   ·intro vs Wx A hA hB hpre K hK
    have e31:=((hA 31).trans (show _=vs 4 by kernel_rfl)).trans (hpre.1 rfl)
    have e35:=((hA 35).trans (show _=vs 8 by kernel_rfl)).trans (hpre.2.1 rfl)
    have e37:=((hA 37).trans (show _=vs 10 by kernel_rfl)).trans (hpre.2.2.1 rfl)
    have e39:=((hA 39).trans (show _=vs 12 by kernel_rfl)).trans (hpre.2.2.2.1 rfl)
    have e40:=((hA 40).trans (show _=vs 13 by kernel_rfl)).trans (hpre.2.2.2.2.1 rfl)
    clear hA hpre
    go_simp
    go_at_call 89
    refine (HRo.out Wx (HRlo.out Wx (jf hp HBw.out hB))).mono ?_
    rintro e w3 ⟨rfl,hg⟩
    exact hK _ _ (jg hB hg) rfl (fun _ _ h=>h)
   ·intro vs Wx A hA hB hpre K hK
    have e41:=((hA 41).trans (show _=vs 14 by kernel_rfl)).trans (hpre.1 rfl)
    clear hA hpre
    go_simp
    exact hK _ _ hB rfl (fun _ _ h=>h)
   iterate 2
    ·intro vs Wx A hA hB hpre K hK
     have e26:=((hA 26).trans (show _=vs 15 by kernel_rfl)).trans (hpre.1 rfl)
     clear hA hpre
     go_simp
     exact hK _ _ hB rfl (fun _ _ h=>h)
   ·intro vs Wx A hA hB hpre K hK
    have e42:=((hA 42).trans (show _=vs 16 by kernel_rfl)).trans (hpre.1 rfl)
    clear hA hpre
    go_simp
    exact hK _ _ hB rfl (fun _ _ h=>h)
   ·intro vs Wx A hA hB hpre K hK
    have e43:=((hA 43).trans (show _=vs 17 by kernel_rfl)).trans (hpre.1 rfl)
    clear hA hpre
    go_simp
    exact hK _ _ hB rfl (fun _ _ h=>h)
   ·intro vs Wx hB hF
    have h18:vs 18=.int .i64 D:=hF 18 (by decide)
    have h19:vs 19=.int .i64 OO:=hF 19 (by decide)
    have HBW:=Lib.hid hB
    clear hF hB
    simp only [Ri.puts]
    go_simp
    go_wp2_with fail
    go_meet
    exact ⟨by first|exact h18|(go_simp;done)|(go_simp;exact h18),by first|exact h19|(go_simp;done)|(go_simp;exact h19),HBW.out⟩
  case rest =>
   obtain ⟨rfl,rfl,HB2⟩:=hcut
   obtain ⟨w2,hw2⟩:∃z,z=wc:=⟨_,rfl⟩
   subst hw2
   have HG2:=Lib.hid (tV HG1.out HB2.out)
   have HN2:=Lib.hid (tV HN.out (jg HB1.out HB2.out))
   have HX2:=Lib.hid (tV HX.out (jg HB1.out HB2.out))
   have HY2:=Lib.hid (tV HY.out (jg HB1.out HB2.out))
   have HBv:=Lib.hid (jf hp HBw.out HB2.out)
   clear HD1 HXL HXK HRo HG1 HN HX HY HBw
   obtain ⟨n0,n1,n2,n3⟩:=jw HN2.out
   obtain ⟨g0,g1,g2,g3,g4,g5,g6⟩:=jT HG2.out
   go_wp2_with fail
   try (go_at_call 90)
   refine (HBe.out w2).mono ?_
   rintro e w3 ⟨rfl,hb3⟩
   have HG3:=Lib.hid (tV HG2.out hb3)
   have HX3:=Lib.hid (tV HX2.out hb3)
   have HY3:=Lib.hid (tV HY2.out hb3)
   have HB3:=Lib.hid (jf hp HBv.out hb3)
   clear n0 n1 n2 n3 g0 g1 g2 g3 g4 g5 g6 hb3 HG2 HX2 HY2 HN2 HBv HBe
   by_cases e1:EB=0
   case neg =>
    have n1:(EB != 0)=true:=by simp [e1]
    have hE:OE=EB:=by rw [HE.out,if_neg e1]
    subst hE
    obtain ⟨b0,b1,b2,b3,b4,b5,b6,b7⟩:=Sh.eight HY3.out
    obtain ⟨f0,f1,f2,f3,f4,f5,f6,f7⟩:=Sh.frz HY3.out
    go_wp2
    clear b0 b1 b2 b3 b4 b5 b6 b7 f0 f1 f2 f3 f4 f5 f6 f7
    have HXF:Hid (((((((((w3.setCell ⟨u,0,none⟩ (.int .i64 0)).setCell ⟨u,1,none⟩ (.int .i64 0)).setCell ⟨u,2,none⟩ (.int .i64 0)).setCell ⟨u,3,none⟩ (.int .i64 0)).setCell ⟨u,4,none⟩ (.int .i64 0)).setCell ⟨u,5,none⟩ (.int .i64 0)).setCell ⟨u,6,none⟩ (.int .i64 0)).setCell ⟨u,7,none⟩ (.int .i64 0)).heap[u]?=some (.cells #[.int .i64 0,.int .i64 0,.int .i64 0,.int .i64 0,.int .i64 0,.int .i64 0,.int .i64 0,.int .i64 0] 45 (0,0))):=Sh.BR HY3.out
    have HBF:Hid (Below p w ((((((((w3.setCell ⟨u,0,none⟩ (.int .i64 0)).setCell ⟨u,1,none⟩ (.int .i64 0)).setCell ⟨u,2,none⟩ (.int .i64 0)).setCell ⟨u,3,none⟩ (.int .i64 0)).setCell ⟨u,4,none⟩ (.int .i64 0)).setCell ⟨u,5,none⟩ (.int .i64 0)).setCell ⟨u,6,none⟩ (.int .i64 0)).setCell ⟨u,7,none⟩ (.int .i64 0))):=Sh.BP HB3.out u HU.out _ _ _ _ _ _ _ _
    generalize ((((((((w3.setCell ⟨u,0,none⟩ (.int .i64 0)).setCell ⟨u,1,none⟩ (.int .i64 0)).setCell ⟨u,2,none⟩ (.int .i64 0)).setCell ⟨u,3,none⟩ (.int .i64 0)).setCell ⟨u,4,none⟩ (.int .i64 0)).setCell ⟨u,5,none⟩ (.int .i64 0)).setCell ⟨u,6,none⟩ (.int .i64 0)).setCell ⟨u,7,none⟩ (.int .i64 0))=WF at *
    obtain ⟨b0,b1,b2,b3,b4,b5,b6,b7⟩:=Sh.eight HXF.out
    refine bodyPost_ret (v:=.tuple #[.agg #[.int .i64 0,.int .i64 0,.int .i64 0,.int .i64 0,.int .i64 0,.int .i64 0,.int .i64 0,.int .i64 0],.int .i64 OE]) (by simp [results,Tryz.results49,go_sem,b0,b1,b2,b3,b4,b5,b6,b7]) rfl ?_
    exact GH (o:=Sh.ot0) HQ0.out HRw.out (by first|exact HBF.out|(rw [hp];exact HBF.out)) (fun h=>absurd h e1) (fun h=>absurd h e1)
   case pos =>
    have n1:(EB != 0)=false:=by simp [e1]
    rw [if_pos e1] at HE
    clear e1
    obtain ⟨x0,x1,x2,x3,x4,x5⟩:=Pl.jU HX3.out
    go_wp2_with fail
    try (go_at_call 91)
    refine (HSe.out w3).mono ?_
    rintro e w4 ⟨rfl,hb4⟩
    have hbn:=iU w4 (.cells #[.int .i64 SV.al,.int .i64 SV.de,.int .i64 SV.cp,.int .i64 SV.cn,.int .i64 SV.plan,.int .i64 SV.wr,.int .i64 SV.pr,.int .i64 SV.deny] 45)
    have HO5:=Lib.hid (fK w4 #[.int .i64 SV.al,.int .i64 SV.de,.int .i64 SV.cp,.int .i64 SV.cn,.int .i64 SV.plan,.int .i64 SV.wr,.int .i64 SV.pr,.int .i64 SV.deny] 45)
    have HG5:=Lib.hid (tV HG3.out (jg hb4 hbn))
    have HY5:=Lib.hid (tV HY3.out (jg hb4 hbn))
    have HB5:=Lib.hid (jf hp HB3.out (jg hb4 hbn))
    have HUs:Hid (u < (w4.alloc (.cells #[.int .i64 SV.al,.int .i64 SV.de,.int .i64 SV.cp,.int .i64 SV.cn,.int .i64 SV.plan,.int .i64 SV.wr,.int .i64 SV.pr,.int .i64 SV.deny] 45)).heap.size):=(Array.getElem?_eq_some_iff.1 HY5.out).1
    have HOB:Hid (p<=w4.heap.size):=by have h:=(jf hp HB3.out hb4).size;rw [hp] at h;exact h
    clear x0 x1 x2 x3 x4 x5 hb4 hbn HG3 HX3 HY3 HB3 HSe
    go_upto_region 7 with fail
    generalize w4.alloc (.cells #[.int .i64 SV.al,.int .i64 SV.de,.int .i64 SV.cp,.int .i64 SV.cn,.int .i64 SV.plan,.int .i64 SV.wr,.int .i64 SV.pr,.int .i64 SV.deny] 45)=w5 at *
    generalize w4.heap.size=ob at *
    obtain ⟨g0,g1,g2,g3,g4,g5,g6⟩:=jT HG5.out
    obtain ⟨c0,c1,c2,c3,c4,c5,c6,c7⟩:=Sh.eight HO5.out
    by_cases e2:ES=0
    case neg =>
     have n2:(ES != 0)=true:=by simp [e2]
     have hE:OE=ES:=by rw [HE.out,if_neg e2]
     subst hE
     obtain ⟨b0,b1,b2,b3,b4,b5,b6,b7⟩:=Sh.eight HY5.out
     obtain ⟨f0,f1,f2,f3,f4,f5,f6,f7⟩:=Sh.frz HY5.out
     go_wp2
     clear b0 b1 b2 b3 b4 b5 b6 b7 f0 f1 f2 f3 f4 f5 f6 f7
     have HXF:Hid (((((((((w5.setCell ⟨u,0,none⟩ (.int .i64 SV.al)).setCell ⟨u,1,none⟩ (.int .i64 SV.de)).setCell ⟨u,2,none⟩ (.int .i64 SV.cp)).setCell ⟨u,3,none⟩ (.int .i64 SV.cn)).setCell ⟨u,4,none⟩ (.int .i64 SV.plan)).setCell ⟨u,5,none⟩ (.int .i64 SV.wr)).setCell ⟨u,6,none⟩ (.int .i64 SV.pr)).setCell ⟨u,7,none⟩ (.int .i64 SV.deny)).heap[u]?=some (.cells #[.int .i64 SV.al,.int .i64 SV.de,.int .i64 SV.cp,.int .i64 SV.cn,.int .i64 SV.plan,.int .i64 SV.wr,.int .i64 SV.pr,.int .i64 SV.deny] 45 (0,0))):=Sh.BR HY5.out
     have HBF:Hid (Below p w ((((((((w5.setCell ⟨u,0,none⟩ (.int .i64 SV.al)).setCell ⟨u,1,none⟩ (.int .i64 SV.de)).setCell ⟨u,2,none⟩ (.int .i64 SV.cp)).setCell ⟨u,3,none⟩ (.int .i64 SV.cn)).setCell ⟨u,4,none⟩ (.int .i64 SV.plan)).setCell ⟨u,5,none⟩ (.int .i64 SV.wr)).setCell ⟨u,6,none⟩ (.int .i64 SV.pr)).setCell ⟨u,7,none⟩ (.int .i64 SV.deny))):=Sh.BP HB5.out u HU.out _ _ _ _ _ _ _ _
     generalize ((((((((w5.setCell ⟨u,0,none⟩ (.int .i64 SV.al)).setCell ⟨u,1,none⟩ (.int .i64 SV.de)).setCell ⟨u,2,none⟩ (.int .i64 SV.cp)).setCell ⟨u,3,none⟩ (.int .i64 SV.cn)).setCell ⟨u,4,none⟩ (.int .i64 SV.plan)).setCell ⟨u,5,none⟩ (.int .i64 SV.wr)).setCell ⟨u,6,none⟩ (.int .i64 SV.pr)).setCell ⟨u,7,none⟩ (.int .i64 SV.deny))=WF at *
     obtain ⟨b0,b1,b2,b3,b4,b5,b6,b7⟩:=Sh.eight HXF.out
     refine bodyPost_ret (v:=.tuple #[.agg #[.int .i64 SV.al,.int .i64 SV.de,.int .i64 SV.cp,.int .i64 SV.cn,.int .i64 SV.plan,.int .i64 SV.wr,.int .i64 SV.pr,.int .i64 SV.deny],.int .i64 OE]) (by simp [results,Tryz.results49,go_sem,b0,b1,b2,b3,b4,b5,b6,b7]) rfl ?_
     exact GH HQ0.out HRw.out (by first|exact HBF.out|(rw [hp];exact HBF.out)) (fun h=>absurd h e2) (fun h=>absurd h e2)
    case pos =>
     have HBn:=Lib.hid (HBo.out e2)
     rw [if_pos e2] at HE
     clear HBo
     subst e2
     by_cases e3:c.net=0
     case neg =>
      have n3:(c.net != 0)=true:=by simp [e3]
      have hE:OE=0:=by rw [HE.out,if_neg e3]
      have HR0:Hid (OR=r):=by show _=_;rw [HR.out,if_neg e3]
      subst hE
      clear e3
      obtain ⟨b0,b1,b2,b3,b4,b5,b6,b7⟩:=Sh.eight HY5.out
      obtain ⟨f0,f1,f2,f3,f4,f5,f6,f7⟩:=Sh.frz HY5.out
      go_wp2
      clear b0 b1 b2 b3 b4 b5 b6 b7 f0 f1 f2 f3 f4 f5 f6 f7
      have HXF:Hid (((((((((w5.setCell ⟨u,0,none⟩ (.int .i64 SV.al)).setCell ⟨u,1,none⟩ (.int .i64 SV.de)).setCell ⟨u,2,none⟩ (.int .i64 SV.cp)).setCell ⟨u,3,none⟩ (.int .i64 SV.cn)).setCell ⟨u,4,none⟩ (.int .i64 SV.plan)).setCell ⟨u,5,none⟩ (.int .i64 SV.wr)).setCell ⟨u,6,none⟩ (.int .i64 SV.pr)).setCell ⟨u,7,none⟩ (.int .i64 SV.deny)).heap[u]?=some (.cells #[.int .i64 SV.al,.int .i64 SV.de,.int .i64 SV.cp,.int .i64 SV.cn,.int .i64 SV.plan,.int .i64 SV.wr,.int .i64 SV.pr,.int .i64 SV.deny] 45 (0,0))):=Sh.BR HY5.out
      have HBF:Hid (Below p w ((((((((w5.setCell ⟨u,0,none⟩ (.int .i64 SV.al)).setCell ⟨u,1,none⟩ (.int .i64 SV.de)).setCell ⟨u,2,none⟩ (.int .i64 SV.cp)).setCell ⟨u,3,none⟩ (.int .i64 SV.cn)).setCell ⟨u,4,none⟩ (.int .i64 SV.plan)).setCell ⟨u,5,none⟩ (.int .i64 SV.wr)).setCell ⟨u,6,none⟩ (.int .i64 SV.pr)).setCell ⟨u,7,none⟩ (.int .i64 SV.deny))):=Sh.BP HB5.out u HU.out _ _ _ _ _ _ _ _
      generalize ((((((((w5.setCell ⟨u,0,none⟩ (.int .i64 SV.al)).setCell ⟨u,1,none⟩ (.int .i64 SV.de)).setCell ⟨u,2,none⟩ (.int .i64 SV.cp)).setCell ⟨u,3,none⟩ (.int .i64 SV.cn)).setCell ⟨u,4,none⟩ (.int .i64 SV.plan)).setCell ⟨u,5,none⟩ (.int .i64 SV.wr)).setCell ⟨u,6,none⟩ (.int .i64 SV.pr)).setCell ⟨u,7,none⟩ (.int .i64 SV.deny))=WF at *
      obtain ⟨b0,b1,b2,b3,b4,b5,b6,b7⟩:=Sh.eight HXF.out
      refine bodyPost_ret (v:=.tuple #[.agg #[.int .i64 SV.al,.int .i64 SV.de,.int .i64 SV.cp,.int .i64 SV.cn,.int .i64 SV.plan,.int .i64 SV.wr,.int .i64 SV.pr,.int .i64 SV.deny],.int .i64 0]) (by simp [results,Tryz.results49,go_sem,b0,b1,b2,b3,b4,b5,b6,b7]) rfl ?_
      exact GH HQ0.out HRw.out (by first|exact HBF.out|(rw [hp];exact HBF.out)) (fun _=>rfl) (fun _=>HR0.out)
     case pos =>
      have n3:(c.net != 0)=false:=by simp [e3]
      have hE:OE=BE:=by rw [HE.out,if_pos e3]
      have hR:OR=BV:=by rw [HR.out,if_pos e3]
      subst hE
      subst hR
      clear e3 HE HR
      have HQ5:Hid (w5.heap[q]?=some (.cells #[.int .i64 t.plan.mode,.int .i64 t.plan.indDed,.int .i64 t.plan.famDed,.int .i64 t.plan.indOop,.int .i64 t.plan.famOop,.slice ma t.plan.rules.length mc,mf,me,.string (mk c.id),.string (mk c.mem),.string (mk c.fam),.int .i64 c.net,.int .i64 c.does,.string (mk c.ref),.slice la c.lines.length lc,mg,.slice ra r.length rc] 66 (0,0))):=by show _=_;rw [HB5.out.block q HQl.out];exact HQ0.out
      have HRg:Hid (∀W',w5.grownBy W' (some q)->cu All W' (.slice ra r.length rc) r):=fun W' h=>HRw.out.move ⟨by have:=HB5.out.size;have:=h.size;omega,fun b hl hk=>⟨trivial,(h.block b (by have:=HB5.out.size;omega) (fun e=>hk (Option.some.inj e))).trans (HB5.out.block b (by rw [←hp];exact hl))⟩⟩
      have HGl:Hid (g < w5.heap.size):=(Array.getElem?_eq_some_iff.1 HG5.out).1
      have HOl:Hid (ob < w5.heap.size):=(Array.getElem?_eq_some_iff.1 HO5.out).1
      have HOq:Hid (ob ≠ q):=by show ob ≠ q;have:=HOB.out;have:=HQl.out;omega
      have HGq:Hid (g ≠ q):=by
       show g ≠ q
       intro e
       have h1:=HG5.out
       rw [e,HQ5.out] at h1
       have h2:=congrArg (fun z=>match z with|some (Obj.cells cs _ _)=>cs.size|_=>0) h1
       simp at h2
      have HD5:=Lib.hid (Below.drew (Below.refl w5.heap.size w5))
      go_upto_region 9 with fail
      clear g0 g1 g2 g3 g4 g5 g6 c0 c1 c2 c3 c4 c5 c6 c7
      go_cut [17] (fun s17 wx=>s17=.int .i64 OE/\∃va vc,Hid (wx.heap[q]?=some (.cells #[.int .i64 t.plan.mode,.int .i64 t.plan.indDed,.int .i64 t.plan.famDed,.int .i64 t.plan.indOop,.int .i64 t.plan.famOop,.slice ma t.plan.rules.length mc,mf,me,.string (mk c.id),.string (mk c.mem),.string (mk c.fam),.int .i64 c.net,.int .i64 c.does,.string (mk c.ref),.slice la c.lines.length lc,mg,.slice va OR.length vc] 66 (0,0)))/\Hid (Own w5.heap.size wx (.slice va OR.length vc) OR)/\Hid (w5.grownBy wx (some q)))
      case first =>
       refine Ri.I5 18 (by kernel_rfl) (by kernel_rfl) (by kernel_rfl) (by decide) (by kernel_rfl) (fun Wx=>w5.grownBy Wx (some q)) (fun kz vs wz=>(fun kx vx wx=>match kx with|0=>vx=.pointer (some ⟨q,0,none⟩)|1=>vx=.pointer (some ⟨q,0,none⟩)|2=>vx=.pointer (some ⟨q,0,none⟩)|3=>vx=.pointer (some ⟨q,16,none⟩)|4=>vx=.slice ra r.length rc|5=>vx=.pointer (some ⟨g,1,none⟩)|6=>vx=.string (mk c.mem)|7=>vx=.pointer (some ⟨g,2,none⟩)|8=>vx=.string (mk c.fam)|9=>vx=.int .i64 Y|10=>vx=.agg #[.int .i64 SV.al,.int .i64 SV.de,.int .i64 SV.cp,.int .i64 SV.cn,.int .i64 SV.plan,.int .i64 SV.wr,.int .i64 SV.pr,.int .i64 SV.deny]|11=>(∃g,vx=.tuple #[g,.int .i64 OE]/\Own w5.heap.size wx g OR)|12=>(∃g,vx=.tuple #[g,.int .i64 OE]/\Own w5.heap.size wx g OR)|13=>Own w5.heap.size wx vx OR|14=>vx=.int .i64 OE|15=>vx=.pointer (some ⟨q,0,none⟩)|16=>vx=.pointer (some ⟨q,16,none⟩)|17=>(∃va vc,wx.heap[q]?=some (.cells #[.int .i64 t.plan.mode,.int .i64 t.plan.indDed,.int .i64 t.plan.famDed,.int .i64 t.plan.indOop,.int .i64 t.plan.famOop,.slice ma t.plan.rules.length mc,mf,me,.string (mk c.id),.string (mk c.mem),.string (mk c.fam),.int .i64 c.net,.int .i64 c.does,.string (mk c.ref),.slice la c.lines.length lc,mg,.slice va OR.length vc] 66 (0,0))/\Own w5.heap.size wx (.slice va OR.length vc) OR)|_=>True:Nat->Value->World->Prop) kz (vs kz) wz) (fun lst vs wx=>lst 17=false->wx.heap[q]?=some (.cells #[.int .i64 t.plan.mode,.int .i64 t.plan.indDed,.int .i64 t.plan.famDed,.int .i64 t.plan.indOop,.int .i64 t.plan.famOop,.slice ma t.plan.rules.length mc,mf,me,.string (mk c.id),.string (mk c.mem),.string (mk c.fam),.int .i64 c.net,.int .i64 c.does,.string (mk c.ref),.slice la c.lines.length lc,mg,.slice ra r.length rc] 66 (0,0))) (fun kz=>[kz]) (by kernel_rfl) (fun jz vs iz vz wz hiz hz=>Ri.wI (F:=(fun kx vx wx=>match kx with|0=>vx=.pointer (some ⟨q,0,none⟩)|1=>vx=.pointer (some ⟨q,0,none⟩)|2=>vx=.pointer (some ⟨q,0,none⟩)|3=>vx=.pointer (some ⟨q,16,none⟩)|4=>vx=.slice ra r.length rc|5=>vx=.pointer (some ⟨g,1,none⟩)|6=>vx=.string (mk c.mem)|7=>vx=.pointer (some ⟨g,2,none⟩)|8=>vx=.string (mk c.fam)|9=>vx=.int .i64 Y|10=>vx=.agg #[.int .i64 SV.al,.int .i64 SV.de,.int .i64 SV.cp,.int .i64 SV.cn,.int .i64 SV.plan,.int .i64 SV.wr,.int .i64 SV.pr,.int .i64 SV.deny]|11=>(∃g,vx=.tuple #[g,.int .i64 OE]/\Own w5.heap.size wx g OR)|12=>(∃g,vx=.tuple #[g,.int .i64 OE]/\Own w5.heap.size wx g OR)|13=>Own w5.heap.size wx vx OR|14=>vx=.int .i64 OE|15=>vx=.pointer (some ⟨q,0,none⟩)|16=>vx=.pointer (some ⟨q,16,none⟩)|17=>(∃va vc,wx.heap[q]?=some (.cells #[.int .i64 t.plan.mode,.int .i64 t.plan.indDed,.int .i64 t.plan.famDed,.int .i64 t.plan.indOop,.int .i64 t.plan.famOop,.slice ma t.plan.rules.length mc,mf,me,.string (mk c.id),.string (mk c.mem),.string (mk c.fam),.int .i64 c.net,.int .i64 c.does,.string (mk c.ref),.slice la c.lines.length lc,mg,.slice va OR.length vc] 66 (0,0))/\Own w5.heap.size wx (.slice va OR.length vc) OR)|_=>True:Nat->Value->World->Prop)) jz vs iz vz wz hiz hz) (grown_of HD5.out) ?_ ⟨⟨rfl,?_⟩,⟨rfl,?_⟩,⟨rfl,?_⟩,⟨rfl,?_⟩,⟨rfl,?_⟩,⟨rfl,?_⟩,⟨rfl,?_⟩,⟨rfl,?_⟩,⟨rfl,?_⟩,⟨rfl,?_⟩,⟨rfl,?_⟩,⟨rfl,?_⟩,⟨rfl,?_⟩,⟨rfl,?_⟩,⟨rfl,?_⟩,⟨rfl,?_⟩,⟨rfl,?_⟩,⟨rfl,?_⟩,trivial⟩ ?_
       ·intro vs hvs
        exact fun _=>tV HQ5.out HD5.out
       iterate 2
        ·intro vs Wx A lst hA hB hls hX hno hpre K hK
         have e0:=(hA 0).trans (show _=Value.pointer (some ⟨q,0,none⟩) by kernel_rfl)
         clear hA hpre
         go_simp
         exact hK _ _ hB rfl (fun _ _ h=>h) hX
       ·intro vs Wx A lst hA hB hls hX hno hpre K hK
        have e83:=((hA 83).trans (show _=vs 1 by kernel_rfl)).trans (hpre.1 rfl)
        clear hA hpre
        go_simp
        exact hK _ _ hB rfl (fun _ _ h=>h) hX
       ·intro vs Wx A lst hA hB hls hX hno hpre K hK
        have e84:=((hA 84).trans (show _=vs 2 by kernel_rfl)).trans (hpre.1 rfl)
        clear hA hpre
        go_simp
        exact hK _ _ hB rfl (fun _ _ h=>h) hX
       ·intro vs Wx A lst hA hB hls hX hno hpre K hK
        have e85:=((hA 85).trans (show _=vs 3 by kernel_rfl)).trans (hpre.1 rfl)
        have hgx:=(hB.block g HGl.out (fun e=>HGq.out (Option.some.inj e))).trans HG5.out
        obtain ⟨g0,g1,g2,g3,g4,g5,g6⟩:=jT hgx
        have hox:=(hB.block ob HOl.out (fun e=>HOq.out (Option.some.inj e))).trans HO5.out
        obtain ⟨c0,c1,c2,c3,c4,c5,c6,c7⟩:=Sh.eight hox
        clear hgx hox
        obtain ⟨h0,h1,h2,h3,h4,h5,h6,h7,h8,h9,h10,h11,h12,h13,h14,h15,h16⟩:=b17 (hX (hno 17 (Or.inr (by kernel_rfl))))
        clear hA hpre
        go_simp
        exact hK _ _ hB rfl (fun _ _ h=>h) hX
       ·intro vs Wx A lst hA hB hls hX hno hpre K hK
        have e10:=(hA 10).trans (show _=Value.pointer (some ⟨g,0,none⟩) by kernel_rfl)
        clear hA hpre
        go_simp
        exact hK _ _ hB rfl (fun _ _ h=>h) hX
       ·intro vs Wx A lst hA hB hls hX hno hpre K hK
        have e87:=((hA 87).trans (show _=vs 5 by kernel_rfl)).trans (hpre.1 rfl)
        have hgx:=(hB.block g HGl.out (fun e=>HGq.out (Option.some.inj e))).trans HG5.out
        obtain ⟨g0,g1,g2,g3,g4,g5,g6⟩:=jT hgx
        have hox:=(hB.block ob HOl.out (fun e=>HOq.out (Option.some.inj e))).trans HO5.out
        obtain ⟨c0,c1,c2,c3,c4,c5,c6,c7⟩:=Sh.eight hox
        clear hgx hox
        clear hA hpre
        go_simp
        exact hK _ _ hB rfl (fun _ _ h=>h) hX
       ·intro vs Wx A lst hA hB hls hX hno hpre K hK
        have e10:=(hA 10).trans (show _=Value.pointer (some ⟨g,0,none⟩) by kernel_rfl)
        clear hA hpre
        go_simp
        exact hK _ _ hB rfl (fun _ _ h=>h) hX
       ·intro vs Wx A lst hA hB hls hX hno hpre K hK
        have e89:=((hA 89).trans (show _=vs 7 by kernel_rfl)).trans (hpre.1 rfl)
        have hgx:=(hB.block g HGl.out (fun e=>HGq.out (Option.some.inj e))).trans HG5.out
        obtain ⟨g0,g1,g2,g3,g4,g5,g6⟩:=jT hgx
        have hox:=(hB.block ob HOl.out (fun e=>HOq.out (Option.some.inj e))).trans HO5.out
        obtain ⟨c0,c1,c2,c3,c4,c5,c6,c7⟩:=Sh.eight hox
        clear hgx hox
        clear hA hpre
        go_simp
        exact hK _ _ hB rfl (fun _ _ h=>h) hX
       ·intro vs Wx A lst hA hB hls hX hno hpre K hK
        have e11:=(hA 11).trans (show _=Value.int .i64 Y by kernel_rfl)
        clear hA hpre
        go_simp
        exact hK _ _ hB rfl (fun _ _ h=>h) hX
       ·intro vs Wx A lst hA hB hls hX hno hpre K hK
        have e18:=(hA 18).trans (show _=Value.pointer (some ⟨ob,0,none⟩) by kernel_rfl)
        have hgx:=(hB.block g HGl.out (fun e=>HGq.out (Option.some.inj e))).trans HG5.out
        obtain ⟨g0,g1,g2,g3,g4,g5,g6⟩:=jT hgx
        have hox:=(hB.block ob HOl.out (fun e=>HOq.out (Option.some.inj e))).trans HO5.out
        obtain ⟨c0,c1,c2,c3,c4,c5,c6,c7⟩:=Sh.eight hox
        clear hgx hox
        clear hA hpre
        go_simp
        exact hK _ _ hB rfl (fun _ _ h=>h) hX
       ·intro vs Wx A lst hA hB hls hX hno hpre K hK
        have e86:=((hA 86).trans (show _=vs 4 by kernel_rfl)).trans (hpre.1 rfl)
        have e88:=((hA 88).trans (show _=vs 6 by kernel_rfl)).trans (hpre.2.1 rfl)
        have e90:=((hA 90).trans (show _=vs 8 by kernel_rfl)).trans (hpre.2.2.1 rfl)
        have e91:=((hA 91).trans (show _=vs 9 by kernel_rfl)).trans (hpre.2.2.2.1 rfl)
        have e92:=((hA 92).trans (show _=vs 10 by kernel_rfl)).trans (hpre.2.2.2.2.1 rfl)
        clear hA hpre
        go_simp
        go_at_call 92
        refine (HBn.out Wx (HRg.out Wx hB)).mono ?_
        rintro e w6 ⟨g6,rfl,ho,hg⟩
        refine hK _ _ (grown_below hB hg) ⟨_,rfl,Ac.own_base hB.size ho⟩ (fun jz hj hz=>?_) (fun h=>tV (hX h) hg)
        match jz,hj,hz with
        | 0,_,hz=>exact hz
        | 1,_,hz=>exact hz
        | 2,_,hz=>exact hz
        | 3,_,hz=>exact hz
        | 4,_,hz=>exact hz
        | 5,_,hz=>exact hz
        | 6,_,hz=>exact hz
        | 7,_,hz=>exact hz
        | 8,_,hz=>exact hz
        | 9,_,hz=>exact hz
        | 10,_,hz=>exact hz
        | 11,hj,_=>exact absurd rfl hj
        | 12,_,hz=>exact (hz.elim fun g h=>⟨g,h.1,Ac.Ak h.2 hg⟩)
        | 13,_,hz=>exact (Ac.Ak hz hg)
        | 14,_,hz=>exact hz
        | 15,_,hz=>exact hz
        | 16,_,hz=>exact hz
        | 17,_,hz=>exact (hz.elim fun va h=>h.elim fun vc k=>⟨va,vc,tV k.1 hg,Ac.Ak k.2 hg⟩)
        | n+18,_,hz=>exact hz
       ·intro vs Wx A lst hA hB hls hX hno hpre K hK
        have hx11:(∃g,(vs 11)=.tuple #[g,.int .i64 OE]/\Own w5.heap.size Wx g OR):=hpre.1 rfl
        obtain ⟨gx11,hv11,hh11⟩:=hx11
        have e93:=((hA 93).trans (show _=vs 11 by kernel_rfl)).trans hv11
        clear hA hpre
        go_simp
        exact hK _ _ hB ⟨gx11,rfl,hh11⟩ (fun _ _ h=>h) hX
       ·intro vs Wx A lst hA hB hls hX hno hpre K hK
        have hx12:(∃g,(vs 12)=.tuple #[g,.int .i64 OE]/\Own w5.heap.size Wx g OR):=hpre.1 rfl
        obtain ⟨gx12,hv12,hh12⟩:=hx12
        have e81:=((hA 81).trans (show _=vs 12 by kernel_rfl)).trans hv12
        clear hA hpre
        go_simp
        exact hK _ _ hB hh12 (fun _ _ h=>h) hX
       ·intro vs Wx A lst hA hB hls hX hno hpre K hK
        have hx12:(∃g,(vs 12)=.tuple #[g,.int .i64 OE]/\Own w5.heap.size Wx g OR):=hpre.1 rfl
        obtain ⟨gx12,hv12,hh12⟩:=hx12
        have e81:=((hA 81).trans (show _=vs 12 by kernel_rfl)).trans hv12
        clear hA hpre
        go_simp
        exact hK _ _ hB rfl (fun _ _ h=>h) hX
       ·intro vs Wx A lst hA hB hls hX hno hpre K hK
        have e82:=((hA 82).trans (show _=vs 0 by kernel_rfl)).trans (hpre.1 rfl)
        clear hA hpre
        go_simp
        exact hK _ _ hB rfl (fun _ _ h=>h) hX
       ·intro vs Wx A lst hA hB hls hX hno hpre K hK
        have e96:=((hA 96).trans (show _=vs 15 by kernel_rfl)).trans (hpre.1 rfl)
        clear hA hpre
        go_simp
        exact hK _ _ hB rfl (fun _ _ h=>h) hX
       ·intro vs Wx A lst hA hB hls hX hno hpre K hK
        have e97:=((hA 97).trans (show _=vs 16 by kernel_rfl)).trans (hpre.1 rfl)
        have hf13:Own w5.heap.size Wx (vs 13) OR:=hpre.2.1 rfl
        have e94:=(hA 94).trans (show _=vs 13 by kernel_rfl)
        obtain ⟨va,vc,hv,-,-⟩:=Ac.Am hf13
        rw [hv] at hf13 e94
        have hqx:=hX (hno 17 (Or.inl rfl))
        obtain ⟨h0,h1,h2,h3,h4,h5,h6,h7,h8,h9,h10,h11,h12,h13,h14,h15,h16⟩:=b17 hqx
        have fz:=Lib.frozen_of_heap hqx 16
        have HS:=Lib.hid (EL (u:=.slice va OR.length vc) hqx)
        have HKo:Hid (∀k,w5.heap.size<=k->k < Wx.heap.size->(Wx.setCell ⟨q,16,none⟩ (.slice va OR.length vc)).heap[k]?=Wx.heap[k]?):=fun k hk hk2=>Below.heap_setCell _ _ _ _ (by show k ≠ q;have:=HB5.out.size;have:=HQl.out;omega)
        have HOS:=Lib.hid (Aw hf13 HKo.out)
        have HGr:Hid (w5.grownBy (Wx.setCell ⟨q,16,none⟩ (.slice va OR.length vc)) (some q)):=⟨hB.os,hB.tape,hB.output,Nat.le_trans hB.size (by simp [World.setCell]),fun k hk hne=>(Below.heap_setCell _ _ _ _ (show k ≠ q from fun e=>hne (by rw [e]))).trans (hB.block k hk hne)⟩
        clear hf13 hqx hv
        clear hA hpre
        go_simp
        refine hK undef _ HGr.out ⟨va,vc,HS.out,HOS.out⟩ (fun jz hj hz=>?_) (fun h=>by simp at h)
        match jz,hj,hz with
        | 0,_,hz=>exact hz
        | 1,_,hz=>exact hz
        | 2,_,hz=>exact hz
        | 3,_,hz=>exact hz
        | 4,_,hz=>exact hz
        | 5,_,hz=>exact hz
        | 6,_,hz=>exact hz
        | 7,_,hz=>exact hz
        | 8,_,hz=>exact hz
        | 9,_,hz=>exact hz
        | 10,_,hz=>exact hz
        | 11,_,hz=>exact (hz.elim fun g h=>⟨g,h.1,Aw h.2 HKo.out⟩)
        | 12,_,hz=>exact (hz.elim fun g h=>⟨g,h.1,Aw h.2 HKo.out⟩)
        | 13,_,hz=>exact (Aw hz HKo.out)
        | 14,_,hz=>exact hz
        | 15,_,hz=>exact hz
        | 16,_,hz=>exact hz
        | 17,hj,_=>exact absurd rfl hj
        | n+18,_,hz=>exact hz
       ·intro vs Wx lst hall hX hB hF
        refine fun A18 hA K18 hK18=>?_
        have e95:=((hA 95).trans (show _=vs 14 by kernel_rfl)).trans (hF 14 (by decide))
        clear hA
        go_simp
        refine hK18 _ _ ?_
        obtain ⟨va,vc,hS,hOS⟩:=hF 17 (by decide)
        have HS:=Lib.hid hS
        have HOS:=Lib.hid hOS
        have HGr:=Lib.hid hB
        clear hB hX hall hF hS hOS
        simp only [Ri.Tail,Ri.puts]
        go_simp
        go_wp2_with fail
        go_meet
        exact ⟨rfl,va,vc,HS.out,HOS.out,HGr.out⟩
      case rest =>
       obtain ⟨rfl,va,vc,HS,HOS,HGr⟩:=hcut
       obtain ⟨w6,hw6⟩:∃z,z=wc:=⟨_,rfl⟩
       subst hw6
       have hku:u ≠ q:=by have:=HU.out;have:=HQl.out;omega
       have HY6:=Lib.hid ((HGr.out.block u HUs.out (fun e=>hku (Option.some.inj e))).trans HY5.out)
       have hko:ob ≠ q:=by have h1:=(Array.getElem?_eq_some_iff.1 HO5.out).1;have:=HQl.out;have:=HOB.out;omega
       have HO6:=Lib.hid ((HGr.out.block ob (Array.getElem?_eq_some_iff.1 HO5.out).1 (fun e=>hko (Option.some.inj e))).trans HO5.out)
       obtain ⟨c0,c1,c2,c3,c4,c5,c6,c7⟩:=Sh.eight HO6.out
       obtain ⟨b0,b1,b2,b3,b4,b5,b6,b7⟩:=Sh.eight HY6.out
       obtain ⟨f0,f1,f2,f3,f4,f5,f6,f7⟩:=Sh.frz HY6.out
       have HKu:=Lib.hid hku
       clear hku hko
       go_wp2
       clear b0 b1 b2 b3 b4 b5 b6 b7 f0 f1 f2 f3 f4 f5 f6 f7 c0 c1 c2 c3 c4 c5 c6 c7
       have HXF:Hid (((((((((w6.setCell ⟨u,0,none⟩ (.int .i64 SV.al)).setCell ⟨u,1,none⟩ (.int .i64 SV.de)).setCell ⟨u,2,none⟩ (.int .i64 SV.cp)).setCell ⟨u,3,none⟩ (.int .i64 SV.cn)).setCell ⟨u,4,none⟩ (.int .i64 SV.plan)).setCell ⟨u,5,none⟩ (.int .i64 SV.wr)).setCell ⟨u,6,none⟩ (.int .i64 SV.pr)).setCell ⟨u,7,none⟩ (.int .i64 SV.deny)).heap[u]?=some (.cells #[.int .i64 SV.al,.int .i64 SV.de,.int .i64 SV.cp,.int .i64 SV.cn,.int .i64 SV.plan,.int .i64 SV.wr,.int .i64 SV.pr,.int .i64 SV.deny] 45 (0,0))):=Sh.BR HY6.out
       have HSF:Hid (((((((((w6.setCell ⟨u,0,none⟩ (.int .i64 SV.al)).setCell ⟨u,1,none⟩ (.int .i64 SV.de)).setCell ⟨u,2,none⟩ (.int .i64 SV.cp)).setCell ⟨u,3,none⟩ (.int .i64 SV.cn)).setCell ⟨u,4,none⟩ (.int .i64 SV.plan)).setCell ⟨u,5,none⟩ (.int .i64 SV.wr)).setCell ⟨u,6,none⟩ (.int .i64 SV.pr)).setCell ⟨u,7,none⟩ (.int .i64 SV.deny)).heap[q]?=some (.cells #[.int .i64 t.plan.mode,.int .i64 t.plan.indDed,.int .i64 t.plan.famDed,.int .i64 t.plan.indOop,.int .i64 t.plan.famOop,.slice ma t.plan.rules.length mc,mf,me,.string (mk c.id),.string (mk c.mem),.string (mk c.fam),.int .i64 c.net,.int .i64 c.does,.string (mk c.ref),.slice la c.lines.length lc,mg,.slice va OR.length vc] 66 (0,0))):=Sh.BQ HS.out (Ne.symm HKu.out)
       have HFr:Hid (∀k,k ≠ u->((((((((w6.setCell ⟨u,0,none⟩ (.int .i64 SV.al)).setCell ⟨u,1,none⟩ (.int .i64 SV.de)).setCell ⟨u,2,none⟩ (.int .i64 SV.cp)).setCell ⟨u,3,none⟩ (.int .i64 SV.cn)).setCell ⟨u,4,none⟩ (.int .i64 SV.plan)).setCell ⟨u,5,none⟩ (.int .i64 SV.wr)).setCell ⟨u,6,none⟩ (.int .i64 SV.pr)).setCell ⟨u,7,none⟩ (.int .i64 SV.deny)).heap[k]?=w6.heap[k]?):=fun k hk=>oD hk _ _ _ _ _ _ _ _
       have HOt:Hid (Below 0 w6 ((((((((w6.setCell ⟨u,0,none⟩ (.int .i64 SV.al)).setCell ⟨u,1,none⟩ (.int .i64 SV.de)).setCell ⟨u,2,none⟩ (.int .i64 SV.cp)).setCell ⟨u,3,none⟩ (.int .i64 SV.cn)).setCell ⟨u,4,none⟩ (.int .i64 SV.plan)).setCell ⟨u,5,none⟩ (.int .i64 SV.wr)).setCell ⟨u,6,none⟩ (.int .i64 SV.pr)).setCell ⟨u,7,none⟩ (.int .i64 SV.deny))):=Sh.BP (Below.refl 0 w6) u (Nat.zero_le _) _ _ _ _ _ _ _ _
       generalize ((((((((w6.setCell ⟨u,0,none⟩ (.int .i64 SV.al)).setCell ⟨u,1,none⟩ (.int .i64 SV.de)).setCell ⟨u,2,none⟩ (.int .i64 SV.cp)).setCell ⟨u,3,none⟩ (.int .i64 SV.cn)).setCell ⟨u,4,none⟩ (.int .i64 SV.plan)).setCell ⟨u,5,none⟩ (.int .i64 SV.wr)).setCell ⟨u,6,none⟩ (.int .i64 SV.pr)).setCell ⟨u,7,none⟩ (.int .i64 SV.deny))=WF at *
       obtain ⟨b0,b1,b2,b3,b4,b5,b6,b7⟩:=Sh.eight HXF.out
       refine bodyPost_ret (v:=.tuple #[.agg #[.int .i64 SV.al,.int .i64 SV.de,.int .i64 SV.cp,.int .i64 SV.cn,.int .i64 SV.plan,.int .i64 SV.wr,.int .i64 SV.pr,.int .i64 SV.deny],.int .i64 OE]) (by simp [results,Tryz.results49,go_sem,b0,b1,b2,b3,b4,b5,b6,b7]) rfl ?_
       refine ⟨⟨SV,rfl,fun _=>rfl⟩,?_,fun _=>⟨_,HSF.out,?_⟩⟩
       ·refine ⟨HOt.out.os.trans (HGr.out.os.trans HB5.out.os),HOt.out.tape.trans (HGr.out.tape.trans HB5.out.tape),HOt.out.output.trans (HGr.out.output.trans HB5.out.output),?_,fun k hk hne=>?_⟩
        ·exact Nat.le_trans (Nat.le_trans HB5.out.size HGr.out.size) HOt.out.size
        ·rw [hp] at hk
         rw [HFr.out k (by have:=HU.out;omega),HGr.out.block k (by have:=HB5.out.size;omega) hne]
         exact HB5.out.block k hk
       ·refine Ep (Aw HOS.out (fun k hk _=>HFr.out k (by have:=HUs.out;omega))) ?_
        have:=HB5.out.size
        have:=HQl.out
        omega
end Go.Proofs.YtfbfeoplldjbpaaGreatDoor.Ju
end
