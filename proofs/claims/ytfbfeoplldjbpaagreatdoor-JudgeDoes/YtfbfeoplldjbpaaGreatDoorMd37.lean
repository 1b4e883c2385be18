/-
  Texts put together (merge.py): JWorks, LWeightP.
-/
import Derived.Test.YtfbfeoplldjbpaaGreatDoorMd36
set_option linter.unusedSimpArgs false
set_option linter.unusedVariables false
set_option maxHeartbeats 16000000
set_option maxRecDepth 100000
namespace Go.Proofs.YtfbfeoplldjbpaaGreatDoor
namespace Ju
open Go.RowKit
open Ac (Row pU dJ dM jF jG DW DU left cu Own tV qL iU jg jf fK)
open Sh (Ot bD bC bK bE EP EW Dt Du member Jj)
open Cm (Ln Cl bH lnv clv bG aC)
def smR:Pl.Ru:=⟨0,⟨0,[],[],0,[]⟩,[],[⟨1,1⟩,⟨2,1⟩,⟨4,2000⟩]⟩
def smF:Fe.Cr:=⟨[57,57,50,49,51],[],0,20200101,7550⟩
def smT:Tb:=⟨⟨0,5000,8000,10000,20000,[smR]⟩,[smF],[]⟩
def bdT:Tb:=⟨⟨3,0,0,0,0,[]⟩,[],[]⟩
def wkX:Ln:=⟨[57,57,50,49,51],[],20240301,1,10000,0⟩
def wkC:Cl:=⟨[67,49],[77,49],[70,49],0,1,[],[wkX,wkX]⟩
def wkO:List Ot:=[⟨7550,5000,0,510,2040,2450,0,0⟩,⟨0,0,0,0,0,10000,0,18⟩]
def wkR:List Row:=[⟨[77,49],false,2024,5000,5510⟩,⟨[70,49],true,2024,5000,5510⟩]
theorem Iw:tC smT wkC [] []=0:=by kernel_rfl
theorem IC:tH smT wkC [] []=wkO:=by kernel_rfl
theorem IE:tJ smT wkC [] []=wkR:=by kernel_rfl
theorem Iq:tC bdT wkC [] []=15:=by kernel_rfl
theorem IG:GN smT=0:=by kernel_rfl
theorem FQ:dG smT:=by
 refine ⟨⟨fun f hf=>?_,by decide⟩,fun f hf=>by simp [smT] at hf,by decide⟩;obtain rfl:f=smF:=by simpa [smT] using hf
 exact ⟨⟨by decide,by decide⟩,⟨by decide,by decide⟩,⟨by decide,by decide⟩,by decide,by decide⟩
theorem gZ:dG bdT:=⟨⟨fun f hf=>by simp [bdT] at hf,by decide⟩,fun f hf=>by simp [bdT] at hf,by decide⟩
theorem IB:bG wkX:=⟨⟨by decide,by decide⟩,⟨by decide,by decide⟩,⟨by decide,by decide⟩,⟨by decide,by decide⟩,by decide,by decide,fun t ht=>by simp [wkX] at ht⟩
theorem Iy:Tw.aZ wkX:=⟨by decide,by decide,by decide,by decide,fun t ht=>by simp [wkX] at ht⟩
theorem Ip (x:Ln) (hx:x ∈ wkC.lines):x=wkX:=by
 have:x=wkX ∨ x=wkX:=by simpa [wkC] using hx
 rcases this with h|h<;>exact h
theorem Iu:aC wkC:=⟨⟨by decide,by decide⟩,⟨by decide,by decide⟩,by decide,by decide,by decide,by decide,by decide,fun x hx=>by rw [Ip x hx];exact IB⟩
theorem Ir (t:Tb) (h:dG t):au t wkC []:=⟨h,Iu,fun x hx=>by rw [Ip x hx];exact Iy,fun x hx=>by simp at hx,by decide,by decide⟩
theorem Gi {w:World} {b:Nat} {T:TypeId} {l:List Pl.St} {cs:Array Value} (h:w.heap[b]?=some (.cells cs T (0,0))) (hl:l.length<=1000) (hi:∀x ∈ l,Cm.I64 x.what/\Cm.I64 x.n) (hc:∀(j:Nat) x,l[j]?=some x->cs[j * 2]?=some (iI x.what)/\cs[j * 2+1]?=some (iI x.n)):Pl.dD All w (.slice (some ⟨b,0,none⟩) l.length l.length) l:=by
 refine ⟨_,_,rfl,Nat.le_refl _,by unfold maxLen;omega,by unfold Pl.Big;omega,hi,Or.inr ⟨b,0,rfl,trivial,(Array.getElem?_eq_some_iff.1 h).1,fun j x hj=>?_⟩⟩;obtain ⟨h1,h2⟩:=hc j x hj;rw [cell_of_row w b _ _ _ (0,0) h,cell_of_row w b _ _ _ (0,0) h,Nat.zero_add];exact ⟨h1,h2⟩
theorem oG {W:World} {g:Nat} {x:Fe.Cr} {T:TypeId} (h:W.heap[g]?=some (.cells #[sS x.proc,sS x.mod,iI x.net,iI x.Ch,iI x.Ck] T (0,0))):Fe.aU All W (.slice (some ⟨g,0,none⟩) 1 1) [x]:=by
 refine ⟨_,1,rfl,by simp,by simp [maxLen],Or.inr ⟨g,0,rfl,trivial,(Array.getElem?_eq_some_iff.1 h).1,fun j y hj=>?_⟩⟩;match j,hj with
 | 0,hj =>
  obtain rfl:=Option.some.inj hj;refine ⟨?_,?_,?_,?_,?_⟩<;>(rw [cell_of_row W g _ _ T (0,0) h];rfl)
 | n+1,hj=>simp at hj
theorem sm_at {w:World} {sb rb fb:Nat} (hs:w.heap[sb]?=some (.cells #[iI 1,iI 1,iI 2,iI 1,iI 4,iI 2000] 85 (0,0))) (hr:w.heap[rb]?=some (.cells #[iI 0,iI 0,.string ⟨#[]⟩,.string ⟨#[]⟩,iI 0,.slice none 0 0,.slice none 0 0,.slice (some ⟨sb,0,none⟩) 3 3] 82 (0,0))) (hf:w.heap[fb]?=some (.cells #[.string ⟨#[57,57,50,49,51]⟩,.string ⟨#[]⟩,iI 0,iI 20200101,iI 7550] 54 (0,0))):dF w (.slice (some ⟨rb,0,none⟩) 1 1) (.slice (some ⟨fb,0,none⟩) 1 1) (.slice none 0 0) smT:=by
 refine ⟨Ul.Ej (r:=smR) hr ⟨⟨by decide,by decide⟩,?_,by simp [smR],Pl.aX.nil _ _,Pl.aX.nil _ _,?_⟩,oG (x:=smF) hf,Ex.aP.nil _ _⟩
 ·exact ⟨⟨by decide,by decide⟩,⟨by decide,by decide⟩,by simp [smR],by simp [smR],by simp [smR]⟩
 ·refine Gi (l:=smR.sets) hs (by decide) (fun x hx=>?_) (fun j x hj=>?_)
  ·have:x=⟨1,1⟩ ∨ x=⟨2,1⟩ ∨ x=⟨4,2000⟩:=by simpa [smR] using hx
   rcases this with rfl|rfl|rfl<;>exact ⟨⟨by decide,by decide⟩,by decide,by decide⟩
  ·match j,hj with
   | 0,hj=>obtain rfl:=Option.some.inj hj;exact ⟨rfl,rfl⟩
   | 1,hj=>obtain rfl:=Option.some.inj hj;exact ⟨rfl,rfl⟩
   | 2,hj=>obtain rfl:=Option.some.inj hj;exact ⟨rfl,rfl⟩
   | n+3,hj=>simp [smR] at hj
theorem Iz {w:World} {g:Nat} (h:w.heap[g]?=some (.cells #[.string ⟨#[57,57,50,49,51]⟩,.slice none 0 0,iI 20240301,iI 1,iI 10000,iI 0,.string ⟨#[57,57,50,49,51]⟩,.slice none 0 0,iI 20240301,iI 1,iI 10000,iI 0] 48 (0,0))):bH All w (.slice (some ⟨g,0,none⟩) 2 2) [wkX,wkX]:=by
 refine ⟨_,2,rfl,by simp,by simp [maxLen],Or.inr ⟨g,0,rfl,trivial,(Array.getElem?_eq_some_iff.1 h).1,fun j x hj=>?_⟩⟩;match j,hj with
 | 0,hj =>
  obtain rfl:=Option.some.inj hj;refine ⟨.slice none 0 0,⟨?_,?_,?_,?_,?_,?_⟩,dI.nil _ _⟩<;>(rw [cell_of_row w g _ _ _ (0,0) h];rfl)
 | 1,hj =>
  obtain rfl:=Option.some.inj hj;refine ⟨.slice none 0 0,⟨?_,?_,?_,?_,?_,?_⟩,dI.nil _ _⟩<;>(rw [cell_of_row w g _ _ _ (0,0) h];rfl)
 | n+2,hj=>simp at hj
theorem wC (w:World):bH All w (.slice none 0 0) []:=⟨none,0,rfl,by simp,by simp [maxLen],Or.inl rfl⟩
def SmV (e:Ending) (w':World):Prop:=∃g:Value × Value,e=.returned (.agg #[iI 0,iI 5000,iI 8000,iI 10000,iI 20000,g.1,g.2,.slice none 0 0])/\dF w' g.1 g.2 (.slice none 0 0) smT
theorem ED (w:World):Calls Tryz.prog 19 #[] w fun e w'=>SmV e w'/\Below w.heap.size w w':=by
 have HB0:=zZ (iU w (.cells #[iI 0,iI 0,iI 0,iI 0,iI 0,.slice none 0 0,.slice none 0 0,.slice none 0 0] 28));have HY0:=zZ (fK w #[iI 0,iI 0,iI 0,iI 0,iI 0,.slice none 0 0,.slice none 0 0,.slice none 0 0] 28);go_enter Tryz.func19,Tryz.ntmps19
 go_upto_region 1 with fail
 generalize w.alloc (.cells #[iI 0,iI 0,iI 0,iI 0,iI 0,.slice none 0 0,.slice none 0 0,.slice none 0 0] 28)=W at *;generalize hp:w.heap.size=p at *;have hb1:=iU W (.cells #[iI 1,iI 1,iI 2,iI 1,iI 4,iI 2000] 85);have hs1:=fK W #[iI 1,iI 1,iI 2,iI 1,iI 4,iI 2000] 85;have hb2:=iU (W.alloc (.cells #[iI 1,iI 1,iI 2,iI 1,iI 4,iI 2000] 85)) (.cells #[iI 0,iI 0,.string ⟨#[]⟩,.string ⟨#[]⟩,iI 0,.slice none 0 0,.slice none 0 0,.slice (some ⟨W.heap.size,0,none⟩) 3 3] 82);have hr2:=fK (W.alloc (.cells #[iI 1,iI 1,iI 2,iI 1,iI 4,iI 2000] 85)) #[iI 0,iI 0,.string ⟨#[]⟩,.string ⟨#[]⟩,iI 0,.slice none 0 0,.slice none 0 0,.slice (some ⟨W.heap.size,0,none⟩) 3 3] 82;rw [show (W.alloc (.cells #[iI 1,iI 1,iI 2,iI 1,iI 4,iI 2000] 85)).heap.size=W.heap.size+1 by simp] at hr2;have HS2:=zZ (tV hs1 hb2);have HR2:=zZ hr2;have HY2:=zZ (tV HY0.out (jg hb1 hb2));have HB2:=zZ (jf hp HB0.out (jg hb1 hb2));clear hb1 hs1 hb2 hr2 HY0 HB0;go_upto_region 2 with fail
 generalize (W.alloc (.cells #[iI 1,iI 1,iI 2,iI 1,iI 4,iI 2000] 85)).alloc (.cells #[iI 0,iI 0,.string ⟨#[]⟩,.string ⟨#[]⟩,iI 0,.slice none 0 0,.slice none 0 0,.slice (some ⟨W.heap.size,0,none⟩) 3 3] 82)=w2 at *;generalize W.heap.size+1=rx at *;generalize W.heap.size=sb at *;obtain ⟨x0,x1,x2,x3,x4,x5,x6,x7⟩:=Pl.iR HR2.out;have hb3:=iU w2 (.cells #[iI 0,iI 0,.string ⟨#[]⟩,.string ⟨#[]⟩,iI 0,.slice none 0 0,.slice none 0 0,.slice (some ⟨sb,0,none⟩) 3 3] 82);have hr3:=fK w2 #[iI 0,iI 0,.string ⟨#[]⟩,.string ⟨#[]⟩,iI 0,.slice none 0 0,.slice none 0 0,.slice (some ⟨sb,0,none⟩) 3 3] 82;have hb4:=iU (w2.alloc (.cells #[iI 0,iI 0,.string ⟨#[]⟩,.string ⟨#[]⟩,iI 0,.slice none 0 0,.slice none 0 0,.slice (some ⟨sb,0,none⟩) 3 3] 82)) (.cells #[iI 0,iI 5000,iI 8000,iI 10000,iI 20000,.slice (some ⟨w2.heap.size,0,none⟩) 1 1] 24);have hp4:=fK (w2.alloc (.cells #[iI 0,iI 0,.string ⟨#[]⟩,.string ⟨#[]⟩,iI 0,.slice none 0 0,.slice none 0 0,.slice (some ⟨sb,0,none⟩) 3 3] 82)) #[iI 0,iI 5000,iI 8000,iI 10000,iI 20000,.slice (some ⟨w2.heap.size,0,none⟩) 1 1] 24;rw [show (w2.alloc (.cells #[iI 0,iI 0,.string ⟨#[]⟩,.string ⟨#[]⟩,iI 0,.slice none 0 0,.slice none 0 0,.slice (some ⟨sb,0,none⟩) 3 3] 82)).heap.size=w2.heap.size+1 by simp] at hp4;have HS4:=zZ (tV HS2.out (jg hb3 hb4));have HR4:=zZ (tV hr3 hb4);have HP4:=zZ hp4;have HY4:=zZ (tV HY2.out (jg hb3 hb4));have HB4:=zZ (jf hp HB2.out (jg hb3 hb4));clear hb3 hr3 hb4 hp4 HY2 HB2 HS2 HR2;go_upto_region 3 with fail
 clear x0 x1 x2 x3 x4 x5 x6 x7;generalize (w2.alloc (.cells #[iI 0,iI 0,.string ⟨#[]⟩,.string ⟨#[]⟩,iI 0,.slice none 0 0,.slice none 0 0,.slice (some ⟨sb,0,none⟩) 3 3] 82)).alloc (.cells #[iI 0,iI 5000,iI 8000,iI 10000,iI 20000,.slice (some ⟨w2.heap.size,0,none⟩) 1 1] 24)=w4 at *;generalize w2.heap.size+1=px at *;generalize w2.heap.size=rb at *;obtain ⟨x0,x1,x2,x3,x4,x5⟩:=Pl.jU HP4.out;have hxl:px < w4.heap.size:=(Array.getElem?_eq_some_iff.1 HP4.out).1;have hb5:=iU w4 (.cells #[.string ⟨#[57,57,50,49,51]⟩,.string ⟨#[]⟩,iI 0,iI 20200101,iI 7550] 54);have HF5:=zZ (fK w4 #[.string ⟨#[57,57,50,49,51]⟩,.string ⟨#[]⟩,iI 0,iI 20200101,iI 7550] 54);have HS5:=zZ (tV HS4.out hb5);have HR5:=zZ (tV HR4.out hb5);have HY5:=zZ (tV HY4.out hb5);have CF:=zZ (jf hp HB4.out hb5);have HYl:Hid (p < w4.heap.size):=(Array.getElem?_eq_some_iff.1 HY4.out).1;have HNe:Hid (sb ≠ p/\rb ≠ p):=by
  constructor
  ·intro e;have h1:=HS4.out;rw [e,HY4.out] at h1;have h2:=congrArg (fun z=>match z with|some (Obj.cells cs _ _)=>cs.size|_=>0) h1;simp at h2
  ·intro e;have h1:=HR4.out;rw [e,HY4.out] at h1;have h2:=congrArg (fun z=>match z with|some (Obj.cells cs _ _)=>cs[2]?|_=>none) h1;simp at h2
 clear hb5;obtain ⟨y0,y1,y2,y3,y4,y5,y6,y7⟩:=Pl.iR HY5.out;obtain ⟨f0,f1,f2,f3,f4,f5,f6,f7⟩:=Sh.frz HY5.out;go_wp2;clear x0 x1 x2 x3 x4 x5 y0 y1 y2 y3 y4 y5 y6 y7 f0 f1 f2 f3 f4 f5 f6 f7;have Cy:Hid ((((((((((w4.alloc (.cells #[.string ⟨#[57,57,50,49,51]⟩,.string ⟨#[]⟩,iI 0,iI 20200101,iI 7550] 54)).setCell ⟨p,0,none⟩ (iI 0)).setCell ⟨p,1,none⟩ (iI 5000)).setCell ⟨p,2,none⟩ (iI 8000)).setCell ⟨p,3,none⟩ (iI 10000)).setCell ⟨p,4,none⟩ (iI 20000)).setCell ⟨p,5,none⟩ (.slice (some ⟨rb,0,none⟩) 1 1)).setCell ⟨p,6,none⟩ (.slice (some ⟨w4.heap.size,0,none⟩) 1 1)).setCell ⟨p,7,none⟩ (.slice none 0 0)).heap[p]?=some (.cells #[iI 0,iI 5000,iI 8000,iI 10000,iI 20000,.slice (some ⟨rb,0,none⟩) 1 1,.slice (some ⟨w4.heap.size,0,none⟩) 1 1,.slice none 0 0] 28 (0,0))):=Sh.BR HY5.out;have Cq:Hid (Below p w (((((((((w4.alloc (.cells #[.string ⟨#[57,57,50,49,51]⟩,.string ⟨#[]⟩,iI 0,iI 20200101,iI 7550] 54)).setCell ⟨p,0,none⟩ (iI 0)).setCell ⟨p,1,none⟩ (iI 5000)).setCell ⟨p,2,none⟩ (iI 8000)).setCell ⟨p,3,none⟩ (iI 10000)).setCell ⟨p,4,none⟩ (iI 20000)).setCell ⟨p,5,none⟩ (.slice (some ⟨rb,0,none⟩) 1 1)).setCell ⟨p,6,none⟩ (.slice (some ⟨w4.heap.size,0,none⟩) 1 1)).setCell ⟨p,7,none⟩ (.slice none 0 0))):=Sh.BP CF.out p (Nat.le_refl _) _ _ _ _ _ _ _ _;have HSF:=zZ (Sh.BQ (a0:=iI 0) (a1:=iI 5000) (a2:=iI 8000) (a3:=iI 10000) (a4:=iI 20000) (a5:=.slice (some ⟨rb,0,none⟩) 1 1) (a6:=.slice (some ⟨w4.heap.size,0,none⟩) 1 1) (a7:=.slice none 0 0) (q:=p) HS5.out HNe.out.1);have HRF:=zZ (Sh.BQ (a0:=iI 0) (a1:=iI 5000) (a2:=iI 8000) (a3:=iI 10000) (a4:=iI 20000) (a5:=.slice (some ⟨rb,0,none⟩) 1 1) (a6:=.slice (some ⟨w4.heap.size,0,none⟩) 1 1) (a7:=.slice none 0 0) (q:=p) HR5.out HNe.out.2);have HFF:=zZ (Sh.BQ (a0:=iI 0) (a1:=iI 5000) (a2:=iI 8000) (a3:=iI 10000) (a4:=iI 20000) (a5:=.slice (some ⟨rb,0,none⟩) 1 1) (a6:=.slice (some ⟨w4.heap.size,0,none⟩) 1 1) (a7:=.slice none 0 0) (q:=p) HF5.out (by have:=HYl.out;omega));generalize (((((((((w4.alloc (.cells #[.string ⟨#[57,57,50,49,51]⟩,.string ⟨#[]⟩,iI 0,iI 20200101,iI 7550] 54)).setCell ⟨p,0,none⟩ (iI 0)).setCell ⟨p,1,none⟩ (iI 5000)).setCell ⟨p,2,none⟩ (iI 8000)).setCell ⟨p,3,none⟩ (iI 10000)).setCell ⟨p,4,none⟩ (iI 20000)).setCell ⟨p,5,none⟩ (.slice (some ⟨rb,0,none⟩) 1 1)).setCell ⟨p,6,none⟩ (.slice (some ⟨w4.heap.size,0,none⟩) 1 1)).setCell ⟨p,7,none⟩ (.slice none 0 0))=w9 at *;generalize w4.heap.size=fb at *;obtain ⟨b0,b1,b2,b3,b4,b5,b6,b7⟩:=Sh.eight Cy.out;refine bodyPost_ret (v:=.agg #[iI 0,iI 5000,iI 8000,iI 10000,iI 20000,.slice (some ⟨rb,0,none⟩) 1 1,.slice (some ⟨fb,0,none⟩) 1 1,.slice none 0 0]) (by simp [results,Tryz.results19,go_sem,b0,b1,b2,b3,b4,b5,b6,b7]) rfl ?_;exact ⟨⟨(.slice (some ⟨rb,0,none⟩) 1 1,.slice (some ⟨fb,0,none⟩) 1 1),rfl,sm_at HSF.out HRF.out HFF.out⟩,by first|exact Cq.out|(rw [hp];exact Cq.out)⟩
theorem IJ (w:World) (hT:Da.Tab w):Calls Tryz.prog 8 #[] w fun e w'=>e=.returned (.bool true)/\Below w.heap.size w w':=by
 have HSm:=zZ ED;have HJ1:Hid (∀(W:World) (g:Value × Value) (lb:Nat),Below w.heap.size w W->dF W g.1 g.2 (.slice none 0 0) smT->bH All W (.slice (some ⟨lb,0,none⟩) 2 2) [wkX,wkX]->Calls Tryz.prog 9 #[.agg #[iI 0,iI 5000,iI 8000,iI 10000,iI 20000,g.1,g.2,.slice none 0 0],.agg #[.string ⟨#[67,49]⟩,.string ⟨#[77,49]⟩,.string ⟨#[70,49]⟩,iI 0,iI 1,.string ⟨#[]⟩,.slice (some ⟨lb,0,none⟩) 2 2],.slice none 0 0,.slice none 0 0] W fun e w'=>(∃z:Value × Value,e=.returned (.tuple #[z.1,z.2,iI 0])/\bJ All w' z.1 wkO/\cu All w' z.2 wkR)/\Below W.heap.size W w'):=fun W g lb hb ht hl=>by
  refine (tK smT wkC [] [] g.1 g.2 (.slice none 0 0) (.slice (some ⟨lb,0,none⟩) 2 2) (.slice none 0 0) (.slice none 0 0) W ht hl (cu.nil _ _) (wC _) (Ir _ FQ) (by decide) (Cm.gP hT hb)).mono ?_;rintro e w' ⟨⟨vo,vr,rfl,h1,h2⟩,h3⟩;rw [Iw,IC,IE] at *;exact ⟨⟨(vo,vr),rfl,zK h1 (fun _ _=>trivial),Ac.Eo h2 (fun _ _=>trivial)⟩,h3⟩
 have HJ2:Hid (∀(W:World) (lb:Nat),Below w.heap.size w W->bH All W (.slice (some ⟨lb,0,none⟩) 2 2) [wkX,wkX]->Calls Tryz.prog 9 #[.agg #[iI 3,iI 0,iI 0,iI 0,iI 0,.slice none 0 0,.slice none 0 0,.slice none 0 0],.agg #[.string ⟨#[67,49]⟩,.string ⟨#[77,49]⟩,.string ⟨#[70,49]⟩,iI 0,iI 1,.string ⟨#[]⟩,.slice (some ⟨lb,0,none⟩) 2 2],.slice none 0 0,.slice none 0 0] W fun e w'=>(∃z:Value × Value,e=.returned (.tuple #[z.1,z.2,iI 15]))/\Below W.heap.size W w'):=fun W lb hb hl=>by
  refine (tK bdT wkC [] [] (.slice none 0 0) (.slice none 0 0) (.slice none 0 0) (.slice (some ⟨lb,0,none⟩) 2 2) (.slice none 0 0) (.slice none 0 0) W ⟨Pl.bY.nil _ _,Fe.aU.nil _ _,Ex.aP.nil _ _⟩ hl (cu.nil _ _) (wC _) (Ir _ gZ) (by decide) (Cm.gP hT hb)).mono ?_;rintro e w' ⟨⟨vo,vr,rfl,h1,h2⟩,h3⟩;rw [Iq] at *;exact ⟨⟨(vo,vr),rfl⟩,h3⟩
 have HCk:Hid (∀(W:World) (g:Value × Value),Below w.heap.size w W->dF W g.1 g.2 (.slice none 0 0) smT->Calls Tryz.prog 13 #[.agg #[iI 0,iI 5000,iI 8000,iI 10000,iI 20000,g.1,g.2,.slice none 0 0]] W fun e w'=>e=.returned (iI 0)/\Below W.heap.size W w'):=fun W g hb ht=>by
  have h:=bL smT g.1 g.2 (.slice none 0 0) W ht FQ (Cm.gP hT hb);rw [IG] at h;exact h
 clear hT;have hb0:Below w.heap.size w ((w.alloc (.cells #[.string ⟨#[57,57,50,49,51]⟩,.slice none 0 0,iI 20240301,iI 1,iI 10000,iI 0,.string ⟨#[57,57,50,49,51]⟩,.slice none 0 0,iI 20240301,iI 1,iI 10000,iI 0] 48)).alloc (.cells #[.string ⟨#[67,49]⟩,.string ⟨#[77,49]⟩,.string ⟨#[70,49]⟩,iI 0,iI 1,.string ⟨#[]⟩,.slice (some ⟨w.heap.size,0,none⟩) 2 2] 31)):=jg (iU _ _) (iU _ _);have HL0:=zZ (tV (fK w #[.string ⟨#[57,57,50,49,51]⟩,.slice none 0 0,iI 20240301,iI 1,iI 10000,iI 0,.string ⟨#[57,57,50,49,51]⟩,.slice none 0 0,iI 20240301,iI 1,iI 10000,iI 0] 48) (iU _ (.cells #[.string ⟨#[67,49]⟩,.string ⟨#[77,49]⟩,.string ⟨#[70,49]⟩,iI 0,iI 1,.string ⟨#[]⟩,.slice (some ⟨w.heap.size,0,none⟩) 2 2] 31)));have hc0:=fK (w.alloc (.cells #[.string ⟨#[57,57,50,49,51]⟩,.slice none 0 0,iI 20240301,iI 1,iI 10000,iI 0,.string ⟨#[57,57,50,49,51]⟩,.slice none 0 0,iI 20240301,iI 1,iI 10000,iI 0] 48)) #[.string ⟨#[67,49]⟩,.string ⟨#[77,49]⟩,.string ⟨#[70,49]⟩,iI 0,iI 1,.string ⟨#[]⟩,.slice (some ⟨w.heap.size,0,none⟩) 2 2] 31;rw [show (w.alloc (.cells #[.string ⟨#[57,57,50,49,51]⟩,.slice none 0 0,iI 20240301,iI 1,iI 10000,iI 0,.string ⟨#[57,57,50,49,51]⟩,.slice none 0 0,iI 20240301,iI 1,iI 10000,iI 0] 48)).heap.size=w.heap.size+1 by simp] at hc0;have HC0:=zZ hc0;have HB0:=zZ hb0;clear hb0 hc0;go_enter Tryz.func8,Tryz.ntmps8
 go_upto_region 2 with fail
 generalize ((w.alloc (.cells #[.string ⟨#[57,57,50,49,51]⟩,.slice none 0 0,iI 20240301,iI 1,iI 10000,iI 0,.string ⟨#[57,57,50,49,51]⟩,.slice none 0 0,iI 20240301,iI 1,iI 10000,iI 0] 48)).alloc (.cells #[.string ⟨#[67,49]⟩,.string ⟨#[77,49]⟩,.string ⟨#[70,49]⟩,iI 0,iI 1,.string ⟨#[]⟩,.slice (some ⟨w.heap.size,0,none⟩) 2 2] 31))=W at *;generalize hp:w.heap.size=lb at *;generalize lb+1=cb at *;have HD:=zZ (Below.drew (Below.refl W.heap.size W));have Bt:=zZ fun W' (hW:Below W.heap.size W W')=>jT (tV HC0.out hW);go_cut [2,3,4] (fun s2 s3 s4 wx=>Hid (bJ All wx s2 wkO)/\Hid (cu All wx s3 wkR)/\s4=iI 0/\Hid (Below W.heap.size W wx))
 case first =>
  refine Ri.IY (by kernel_rfl) (by kernel_rfl) (by kernel_rfl) (fun Wx=>Below W.heap.size W Wx) (fun kz vs wz=>(fun kx vx wx=>match kx with|0=>(∃g:Value × Value,vx=.agg #[iI 0,iI 5000,iI 8000,iI 10000,iI 20000,g.1,g.2,.slice none 0 0]/\dF wx g.1 g.2 (.slice none 0 0) smT)|1=>vx=.agg #[.string ⟨#[67,49]⟩,.string ⟨#[77,49]⟩,.string ⟨#[70,49]⟩,iI 0,iI 1,.string ⟨#[]⟩,.slice (some ⟨lb,0,none⟩) 2 2]|2=>(∃g:Value × Value,vx=.tuple #[g.1,g.2,iI 0]/\bJ All wx g.1 wkO/\cu All wx g.2 wkR)|3=>(∃g:Value × Value,vx=.tuple #[g.1,g.2,iI 0]/\bJ All wx g.1 wkO/\cu All wx g.2 wkR)|4=>bJ All wx vx wkO|5=>cu All wx vx wkR|6=>vx=iI 0|7=>bJ All wx vx wkO|8=>cu All wx vx wkR|9=>vx=iI 0|_=>True:Nat->Value->World->Prop) kz (vs kz) wz) (fun kz=>[kz]) (by kernel_rfl) (fun jz vs iz vz wz hiz hz=>Ri.wI (F:=(fun kx vx wx=>match kx with|0=>(∃g:Value × Value,vx=.agg #[iI 0,iI 5000,iI 8000,iI 10000,iI 20000,g.1,g.2,.slice none 0 0]/\dF wx g.1 g.2 (.slice none 0 0) smT)|1=>vx=.agg #[.string ⟨#[67,49]⟩,.string ⟨#[77,49]⟩,.string ⟨#[70,49]⟩,iI 0,iI 1,.string ⟨#[]⟩,.slice (some ⟨lb,0,none⟩) 2 2]|2=>(∃g:Value × Value,vx=.tuple #[g.1,g.2,iI 0]/\bJ All wx g.1 wkO/\cu All wx g.2 wkR)|3=>(∃g:Value × Value,vx=.tuple #[g.1,g.2,iI 0]/\bJ All wx g.1 wkO/\cu All wx g.2 wkR)|4=>bJ All wx vx wkO|5=>cu All wx vx wkR|6=>vx=iI 0|7=>bJ All wx vx wkO|8=>cu All wx vx wkR|9=>vx=iI 0|_=>True:Nat->Value->World->Prop)) jz vs iz vz wz hiz hz) HD.out ⟨⟨rfl,?_⟩,⟨rfl,?_⟩,⟨rfl,?_⟩,⟨rfl,?_⟩,⟨rfl,?_⟩,⟨rfl,?_⟩,⟨rfl,?_⟩,⟨rfl,?_⟩,⟨rfl,?_⟩,⟨rfl,?_⟩,trivial⟩ ?_
  ·intro vs Wx A hA hB hpre K hK;clear hA hpre;go_simp;go_at_call 19
   refine (HSm.out Wx).mono ?_;rintro e w3 ⟨⟨g3,rfl,ht3⟩,hg⟩;refine hK _ _ (jg hB hg) ⟨_,rfl,ht3⟩ (fun jz hj hz=>?_);match jz,hj,hz with
   | 0,hj,_=>exact absurd rfl hj
   | 1,_,hz=>exact hz
   | 2,_,hz=>exact (hz.elim fun g h=>⟨g,h.1,h.2.1.Bu hg,h.2.2.Bu hg⟩)
   | 3,_,hz=>exact (hz.elim fun g h=>⟨g,h.1,h.2.1.Bu hg,h.2.2.Bu hg⟩)
   | 4,_,hz=>exact (bJ.Bu hz hg)
   | 5,_,hz=>exact (cu.Bu hz hg)
   | 6,_,hz=>exact hz
   | 7,_,hz=>exact (bJ.Bu hz hg)
   | 8,_,hz=>exact (cu.Bu hz hg)
   | 9,_,hz=>exact hz
   | n+10,_,hz=>exact hz
  ·intro vs Wx A hA hB hpre K hK;have e1:=(hA 1).trans (show _=pP cb 0 by kernel_rfl);obtain ⟨x0,x1,x2,x3,x4,x5,x6⟩:=Bt.out Wx hB;clear hA hpre;go_simp;exact hK _ _ hB rfl (fun _ _ h=>h)
  ·intro vs Wx A hA hB hpre K hK;have hx0:(∃g:Value × Value,vs 0=.agg #[iI 0,iI 5000,iI 8000,iI 10000,iI 20000,g.1,g.2,.slice none 0 0]/\dF Wx g.1 g.2 (.slice none 0 0) smT):=hpre.1 rfl;obtain ⟨gx0,hv0,hh0⟩:=hx0;have e13:=((hA 13).trans (show _=vs 0 by kernel_rfl)).trans hv0;have e14:=tT (hA 14) (by kernel_rfl) (hpre.2.1 rfl);clear hA hpre;go_simp;go_at_call 9
   refine (HJ1.out Wx gx0 lb (jf hp HB0.out hB) hh0 (Iz (tV HL0.out hB))).mono ?_;rintro e w3 ⟨⟨g3,rfl,h31,h32⟩,hg⟩;refine hK _ _ (jg hB hg) ⟨_,rfl,h31,h32⟩ (fun jz hj hz=>?_);match jz,hj,hz with
   | 0,_,hz=>exact (hz.elim fun g h=>⟨g,h.1,h.2.Bu hg⟩)
   | 1,_,hz=>exact hz
   | 2,hj,_=>exact absurd rfl hj
   | 3,_,hz=>exact (hz.elim fun g h=>⟨g,h.1,h.2.1.Bu hg,h.2.2.Bu hg⟩)
   | 4,_,hz=>exact (bJ.Bu hz hg)
   | 5,_,hz=>exact (cu.Bu hz hg)
   | 6,_,hz=>exact hz
   | 7,_,hz=>exact (bJ.Bu hz hg)
   | 8,_,hz=>exact (cu.Bu hz hg)
   | 9,_,hz=>exact hz
   | n+10,_,hz=>exact hz
  ·intro vs Wx A hA hB hpre K hK;have hx2:(∃g:Value × Value,vs 2=.tuple #[g.1,g.2,iI 0]/\bJ All Wx g.1 wkO/\cu All Wx g.2 wkR):=hpre.1 rfl;obtain ⟨gx2,hv2,hh2⟩:=hx2;have e15:=((hA 15).trans (show _=vs 2 by kernel_rfl)).trans hv2;clear hA hpre;go_simp;exact hK _ _ hB ⟨gx2,rfl,hh2⟩ (fun _ _ h=>h)
  ·intro vs Wx A hA hB hpre K hK;have hx3:(∃g:Value × Value,vs 3=.tuple #[g.1,g.2,iI 0]/\bJ All Wx g.1 wkO/\cu All Wx g.2 wkR):=hpre.1 rfl;obtain ⟨gx3,hv3,hh3⟩:=hx3;have e12:=((hA 12).trans (show _=vs 3 by kernel_rfl)).trans hv3;clear hA hpre;go_simp;exact hK _ _ hB hh3.1 (fun _ _ h=>h)
  ·intro vs Wx A hA hB hpre K hK;have hx3:(∃g:Value × Value,vs 3=.tuple #[g.1,g.2,iI 0]/\bJ All Wx g.1 wkO/\cu All Wx g.2 wkR):=hpre.1 rfl;obtain ⟨gx3,hv3,hh3⟩:=hx3;have e12:=((hA 12).trans (show _=vs 3 by kernel_rfl)).trans hv3;clear hA hpre;go_simp;exact hK _ _ hB hh3.2 (fun _ _ h=>h)
  ·intro vs Wx A hA hB hpre K hK;have hx3:(∃g:Value × Value,vs 3=.tuple #[g.1,g.2,iI 0]/\bJ All Wx g.1 wkO/\cu All Wx g.2 wkR):=hpre.1 rfl;obtain ⟨gx3,hv3,hh3⟩:=hx3;have e12:=((hA 12).trans (show _=vs 3 by kernel_rfl)).trans hv3;clear hA hpre;go_simp;exact hK _ _ hB rfl (fun _ _ h=>h)
  ·intro vs Wx A hA hB hpre K hK;have hf4:bJ All Wx (vs 4) wkO:=hpre.1 rfl;have e16:=(hA 16).trans (show _=vs 4 by kernel_rfl);clear hA hpre;go_simp;exact hK _ _ hB hf4 (fun _ _ h=>h)
  ·intro vs Wx A hA hB hpre K hK;have hf5:cu All Wx (vs 5) wkR:=hpre.1 rfl;have e17:=(hA 17).trans (show _=vs 5 by kernel_rfl);clear hA hpre;go_simp;exact hK _ _ hB hf5 (fun _ _ h=>h)
  ·intro vs Wx A hA hB hpre K hK;have e18:=tT (hA 18) (by kernel_rfl) (hpre.1 rfl);clear hA hpre;go_simp;exact hK _ _ hB rfl (fun _ _ h=>h)
  ·intro vs Wx hB hF;have h7:bJ All Wx (vs 7) wkO:=hF 7 (by decide);have h8:cu All Wx (vs 8) wkR:=hF 8 (by decide);have h9:vs 9=iI 0:=hF 9 (by decide);have H7:=zZ h7;have H8:=zZ h8;have Cn:=zZ hB;clear hF hB h7 h8;simp only [Ri.puts];go_simp;go_wp2_with fail
   go_meet
   exact ⟨by first|exact H7.out|(go_simp;exact H7.out),by first|exact H8.out|(go_simp;exact H8.out),by first|exact h9|(go_simp;done)|(go_simp;exact h9),Cn.out⟩
 case rest =>
  obtain ⟨HO1,HR1,rfl,HB1'⟩:=hcut;obtain ⟨w1,hw1⟩:∃z,z=wc:=⟨_,rfl⟩;subst hw1;have HB1:=zZ (jf hp HB0.out HB1'.out);have HC1:=zZ (tV HC0.out HB1'.out);have HL1:=zZ (tV HL0.out HB1'.out);obtain ⟨oa,ocp,rfl,ol1,ol2⟩:∃a c,_=Value.slice a 2 c/\2<=c/\c<=9223372036854775807:=bJ.form HO1.out;obtain ⟨rra,rrc,rfl,rl1,rl2⟩:∃a c,_=Value.slice a 2 c/\2<=c/\c<=9223372036854775807:=cu.form HR1.out;obtain ⟨ob,oo,rfl,hobl,-,-⟩:=bJ.get HO1.out 0 (by decide);obtain ⟨rb,ro,rfl,hrbl,-,-⟩:=cu.get HR1.out 0 (by decide);clear HB1' HB0 HC0 HL0 Bt HD HJ1;obtain ⟨x0,x1,x2,x3,x4,x5,x6⟩:=jT HC1.out;go_wp2_with fail
  try (go_at_call 9)
  refine (HJ2.out w1 lb HB1.out (Iz HL1.out)).mono ?_;rintro e w2 ⟨⟨g2,rfl⟩,hb2⟩;have HB2:=zZ (jf hp HB1.out hb2);have HO2:=zZ (HO1.out.Bu hb2);have HR2:=zZ (HR1.out.Bu hb2);obtain ⟨g2a,g2b⟩:=g2;clear hb2 HJ2 HC1 HL1 x0 x1 x2 x3 x4 x5 x6 HO1 HR1 hobl hrbl;obtain ⟨b',o',e',hbl,-,q0⟩:=bJ.get HO2.out 0 (by decide);obtain ⟨b2,o2,e2,-,-,q1⟩:=bJ.get HO2.out 1 (by decide);obtain ⟨r',rr',e3,hrl,-,q2⟩:=cu.get HR2.out 0 (by decide);simp only [Option.some.injEq,Addr.mk.injEq,and_true] at e' e2 e3;obtain ⟨rfl,rfl⟩:=e';obtain ⟨rfl,rfl⟩:=e2;obtain ⟨rfl,rfl⟩:=e3;obtain ⟨-,a1,-,a3,a4,-,-,-⟩:=q0;obtain ⟨-,-,-,-,-,-,-,a7⟩:=q1;obtain ⟨-,-,-,-,c4⟩:=q2;have z1:w2.cell? ⟨ob,oo+1,none⟩=some (iI 5000):=by simpa [wkO] using a1
  have z3:w2.cell? ⟨ob,oo+3,none⟩=some (iI 510):=by simpa [wkO] using a3
  have z4:w2.cell? ⟨ob,oo+4,none⟩=some (iI 2040):=by simpa [wkO] using a4
  have z7:w2.cell? ⟨ob,oo+8+7,none⟩=some (iI 18):=by simpa [wkO] using a7
  have z7':w2.cell? ⟨ob,oo+15,none⟩=some (iI 18):=z7;have y4:w2.cell? ⟨rb,ro+4,none⟩=some (iI 5510):=by simpa [wkR] using c4
  clear a1 a3 a4 a7 c4 hbl hrl;go_wp2_with fail
  try (go_at_call 19)
  refine (HSm.out w2).mono ?_;rintro e w3 ⟨⟨g3,rfl,ht3⟩,hb3⟩;have HB3:=zZ (jf hp HB2.out hb3);have HC3:=zZ (HCk.out w3 g3 HB3.out ht3);clear hb3 ht3 HSm HCk z1 z3 z4 z7 z7' y4;go_wp2_with fail
  try (go_at_call 13)
  refine HC3.out.mono ?_;rintro e w4 ⟨rfl,hb4⟩;have HB4:=zZ (jf hp HB3.out hb4);clear hb4;go_wp2;go_ret;exact ⟨rfl,by first|exact HB4.out|(rw [hp];exact HB4.out)⟩
end Ju
namespace Cm
open Go.RowKit
def bF (x:Ln):Prop:=x.proc.length<=40000/\x.mods.length<=20000/\∀t ∈ x.mods,t.length<=20000
def aB (c:Cl):Prop:=c.lines.length<=3000/\∀x ∈ c.lines,bF x
theorem Hg (l:List Tx) (k:Nat) (t:Tx) (hx:l[k]?=some t) (h:∀t ∈ l.take k,t.length<=20000) (ht:t.length<=20000):∀t ∈ l.take (k+1),t.length<=20000:=by
 intro s hs;rw [List.take_add_one,hx] at hs;rcases List.mem_append.1 hs with h1|h1
 ·exact h s h1
 ·simp at h1;rw [h1];exact ht
theorem vX (l:List Ln) (k:Nat) (t:Ln) (hx:l[k]?=some t) (h:∀t ∈ l.take k,bF t) (ht:bF t):∀t ∈ l.take (k+1),bF t:=by
 intro s hs;rw [List.take_add_one,hx] at hs;rcases List.mem_append.1 hs with h1|h1
 ·exact h s h1
 ·simp at h1;rw [h1];exact ht
theorem kU (l:List Cl) (k:Nat) (t:Cl) (hx:l[k]?=some t) (h:∀t ∈ l.take k,aB t) (ht:aB t):∀t ∈ l.take (k+1),aB t:=by
 intro s hs;rw [List.take_add_one,hx] at hs;rcases List.mem_append.1 hs with h1|h1
 ·exact h s h1
 ·simp at h1;rw [h1];exact ht
theorem Ic (M:Int) (hM0:0<=M) (hM:M<=3000) (v:Value) (l:List Cl) (w:World) (h:aG All w v l) (hz:∀c ∈ l,aC c) :
  Calls Tryz.prog 18 #[v,iI M] w fun e w'=>(∃n:Int,e=.returned (iI n)/\(n<=M->∀c ∈ l,aB c))/\Below w.heap.size w w':=by
 have HV:=zZ h;have HZ:=zZ hz;obtain ⟨a,cap,rfl,h1,h2⟩:=aG.form h;clear h hz;go_enter Tryz.func18,Tryz.ntmps18
 go_wp2;go_loopg [5,6] (l.length) (fun gg n i wr=>∃(k:Nat) (m:Int) (q:Nat),k<=l.length/\gg=l.length - k/\i=iI k/\n=iI m/\0<=m/\m<=4611686018427387904/\wr=w.drewN q/\Hid (m<=M->∀c ∈ l.take k,aB c))
 case atStart=>exact ⟨0,0,0,Nat.zero_le _,rfl,rfl,rfl,by omega,by omega,rfl,fun _ c hc=>by simp at hc⟩
 case round =>
  obtain ⟨k,m,q,hk,hg,rfl,rfl,hm0,hm1,rfl,HA⟩:=hrel;by_cases hm3:m<=M
  case neg =>
   clear HA;by_cases hlt:k < l.length
   ·have d1:decide (m<=M)=false:=decide_eq_false hm3;go_wp2;go_ret;exact ⟨⟨m,rfl,fun h=>absurd h (by omega)⟩,iY ⟨_,rfl⟩⟩
   ·have hlt':¬ (k:Int) < (l.length:Int):=by omega
    go_wp2;go_ret;exact ⟨⟨m,rfl,fun h=>absurd h (by omega)⟩,iY ⟨_,rfl⟩⟩
  by_cases hlt:k < l.length
  case neg =>
   have hall:l.take k=l:=List.take_of_length_le (by omega);rw [hall] at HA;clear hall;have hlt':¬ (k:Int) < (l.length:Int):=by omega
   go_wp2;go_ret;exact ⟨⟨m,rfl,HA.out⟩,iY ⟨_,rfl⟩⟩
  obtain ⟨b,o,mv,rfl,hx,hc,hr⟩:=aG.get HV.out k hlt;obtain ⟨z1,z2,z3,z4,z5,z6,z7,z8⟩:=HZ.out _ (List.mem_of_getElem? hx);have HZL:=zZ z8;have HRL:=zZ hr;obtain ⟨ar,cr,rfl,g1,g2⟩:=bH.form hr;have HS:=zZ (kU l k _ hx (HA.out hm3));have HCL:Hid (aB l[k]=(l[k].lines.length<=3000/\∀x ∈ l[k].lines,bF x)):=rfl;obtain ⟨c0,c1,c2,c3,c4,c5,c6⟩:=hc;have s0:=xM l[k].id;have s1:=xM l[k].mem;have s2:=xM l[k].Br;have s5:=xM l[k].ref;rw [←s0] at z3;rw [←s1] at z4;rw [←s2] at z5;rw [←s5] at z6;clear hx hr z1 z2 z8 s0 s1 s2 s5 HA;have d1:decide (m<=M)=true:=decide_eq_true hm3;go_wp2_with fail
  go_quiet (fail)
  go_wp2;go_loopg [5,7] (l[k].lines.length) (fun gg n i wr=>∃(j:Nat) (m2:Int) (q2:Nat),j<=l[k].lines.length/\gg=l[k].lines.length - j/\i=iI j/\n=iI m2/\0<=m2/\m2<=4611686018427387904/\wr=w.drewN q2/\Hid (m2<=M->l[k].lines.length<=3000/\∀x ∈ l[k].lines.take j,bF x))
  case atStart=>exact ⟨0,_,q+nq,Nat.zero_le _,rfl,rfl,rfl,by omega,by omega,by first|rfl|rw [World.drewN_drewN],fun _=>⟨by omega,fun c hc=>by simp at hc⟩⟩
  case round =>
   obtain ⟨j,m2,q2,hj,hgj,rfl,rfl,hm20,hm21,rfl,HA2⟩:=hrel;by_cases hm23:m2<=M
   case neg =>
    clear HA2;by_cases hltj:j < l[k].lines.length
    ·have d2:decide (m2<=M)=false:=decide_eq_false hm23;go_wp2;go_roundg (l.length - (k+1))
     case rel=>exact ⟨k+1,m2,q2,by omega,rfl,by go_num,rfl,hm20,hm21,rfl,fun h=>absurd h (by omega)⟩
     case measure=>omega
    ·have hltj':¬ (j:Int) < (l[k].lines.length:Int):=by omega
     go_wp2;go_roundg (l.length - (k+1))
     case rel=>exact ⟨k+1,m2,q2,by omega,rfl,by go_num,rfl,hm20,hm21,rfl,fun h=>absurd h (by omega)⟩
     case measure=>omega
   by_cases hltj:j < l[k].lines.length
   case neg =>
    have hall:l[k].lines.take j=l[k].lines:=List.take_of_length_le (by omega);have HF:Hid (∀c ∈ l.take (k+1),aB c):=HS.out (by rw [HCL.out];rw [hall] at HA2;exact HA2.out hm23);clear hall;have hltj':¬ (j:Int) < (l[k].lines.length:Int):=by omega
    go_wp2;go_roundg (l.length - (k+1))
    case rel=>exact ⟨k+1,m2,q2,by omega,rfl,by go_num,rfl,hm20,hm21,rfl,fun _=>HF.out⟩
    case measure=>omega
   obtain ⟨br,or,mm,rfl,hxj,hcj,hrj⟩:=bH.get HRL.out j hltj;obtain ⟨y1,y2,y3,y4,y5,y6,y7⟩:=HZL.out _ (List.mem_of_getElem? hxj);have HZT:=zZ y7;have HTX:=zZ hrj;obtain ⟨at_,ct,rfl,p1,p2⟩:=dI.form hrj;obtain ⟨hll,hlq⟩:=HA2.out hm23;have HS2:=zZ (vX l[k].lines j _ hxj hlq);have HLL:Hid (bF l[k].lines[j]=(l[k].lines[j].proc.length<=40000/\l[k].lines[j].mods.length<=20000/\∀t ∈ l[k].lines[j].mods,t.length<=20000)):=rfl;obtain ⟨e0,e1,e2,e3,e4,e5⟩:=hcj;have t0:=xM l[k].lines[j].proc;rw [←t0] at y5;have HT0:=zZ t0;clear hxj hrj y1 y2 y3 y4 y7 t0 HA2 hlq;have d2:decide (m2<=M)=true:=decide_eq_true hm23;go_wp2_with fail
   go_quiet (fail)
   go_wp2;go_loopg [5,8] (l[k].lines[j].mods.length) (fun gg n i wr=>∃(i3:Nat) (m3:Int) (q3:Nat),i3<=l[k].lines[j].mods.length/\gg=l[k].lines[j].mods.length - i3/\i=iI i3/\n=iI m3/\0<=m3/\m3<=4611686018427387904/\wr=w.drewN q3/\Hid (m3<=M->l[k].lines[j].proc.length<=40000/\l[k].lines[j].mods.length<=20000/\∀t ∈ l[k].lines[j].mods.take i3,t.length<=20000))
   case atStart=>exact ⟨0,_,q2+nq,Nat.zero_le _,rfl,rfl,rfl,by omega,by omega,by first|rfl|rw [World.drewN_drewN],fun _=>⟨by have:=HT0.out;omega,by omega,fun c hc=>by simp at hc⟩⟩
   case round =>
    obtain ⟨i3,m3,q3,hi,hgi,rfl,rfl,hm30,hm31,rfl,HA3⟩:=hrel;by_cases hm33:m3<=M
    case neg =>
     clear HA3;by_cases hlti:i3 < l[k].lines[j].mods.length
     ·have d3:decide (m3<=M)=false:=decide_eq_false hm33;go_wp2;go_roundg (l[k].lines.length - (j+1))
      case rel=>exact ⟨j+1,m3,q3,by omega,rfl,by go_num,rfl,hm30,hm31,rfl,fun h=>absurd h (by omega)⟩
      case measure=>omega
     ·have hlti':¬ (i3:Int) < (l[k].lines[j].mods.length:Int):=by omega
      go_wp2;go_roundg (l[k].lines.length - (j+1))
      case rel=>exact ⟨j+1,m3,q3,by omega,rfl,by go_num,rfl,hm30,hm31,rfl,fun h=>absurd h (by omega)⟩
      case measure=>omega
    by_cases hlti:i3 < l[k].lines[j].mods.length
    case neg =>
     have hall:l[k].lines[j].mods.take i3=l[k].lines[j].mods:=List.take_of_length_le (by omega);have HF:Hid (∀x ∈ l[k].lines.take (j+1),bF x):=HS2.out (by rw [HLL.out];rw [hall] at HA3;exact HA3.out hm33);clear hall;have hlti':¬ (i3:Int) < (l[k].lines[j].mods.length:Int):=by omega
     go_wp2;go_roundg (l[k].lines.length - (j+1))
     case rel=>exact ⟨j+1,m3,q3,by omega,rfl,by go_num,rfl,hm30,hm31,rfl,fun _=>⟨hll,HF.out⟩⟩
     case measure=>omega
    obtain ⟨bt,ot,rfl,hxt,hct⟩:=He HTX.out i3 hlti;have ht:=HZT.out _ (List.mem_of_getElem? hxt);have t1:=xM l[k].lines[j].mods[i3];rw [←t1] at ht;obtain ⟨u0,u1,u2⟩:=HA3.out hm33;have HS3:=zZ (Hg l[k].lines[j].mods i3 _ hxt u2);have HT1:=zZ t1;clear hxt t1 HA3 u2;have d3:decide (m3<=M)=true:=decide_eq_true hm33;go_wp2;go_roundg (l[k].lines[j].mods.length - (i3+1))
    case rel=>exact ⟨i3+1,_,q3,by omega,rfl,by go_num,rfl,by omega,by omega,rfl,fun _=>⟨u0,u1,HS3.out (by have:=HT1.out;omega)⟩⟩
    case measure=>omega
end Cm
end Go.Proofs.YtfbfeoplldjbpaaGreatDoor
