/-
  Texts put together (merge.py): ZNb, ZChk, ZRChk.
-/
import Derived.Test.YtfbfeoplldjbpaaGreatDoorMd21
import Derived.Test.YtfbfeoplldjbpaaGreatDoorMd29
set_option linter.unusedSimpArgs false
set_option linter.unusedVariables false
set_option maxHeartbeats 16000000
set_option maxRecDepth 100000
namespace Go.Proofs.YtfbfeoplldjbpaaGreatDoor
namespace Fe
open Go.RowKit
open Wo (tV jI jQ qL iU jg)
theorem jw {w:World} {q:Nat} {a0 a1 a2 a3:Value} {T:TypeId} (h:w.heap[q]?=some (.cells #[a0,a1,a2,a3] T (0,0))):(w.cell? ⟨q,0,none⟩=some a0/\w.cell? ⟨q,1,none⟩=some a1/\w.cell? ⟨q,2,none⟩=some a2/\w.cell? ⟨q,3,none⟩=some a3)/\w.frozen? ⟨q,0,none⟩=false/\w.frozen? ⟨q,1,none⟩=false/\w.frozen? ⟨q,2,none⟩=false/\w.frozen? ⟨q,3,none⟩=false:=by
 refine ⟨⟨?_,?_,?_,?_⟩,Lib.frozen_of_heap h 0,Lib.frozen_of_heap h 1,Lib.frozen_of_heap h 2,Lib.frozen_of_heap h 3⟩<;>rw [cell_of_row w q _ _ T (0,0) h]<;>rfl
abbrev BJ (W:World) (b:Nat) (a0 a1 a2 a3:Value):World:=(((W.setCell ⟨b,0,none⟩ a0).setCell ⟨b,1,none⟩ a1).setCell ⟨b,2,none⟩ a2).setCell ⟨b,3,none⟩ a3
theorem BM {W:World} {b:Nat} {c0 c1 c2 c3:Value} {T:TypeId} (h:W.heap[b]?=some (.cells #[c0,c1,c2,c3] T (0,0))) (a0 a1 a2 a3:Value):(BJ W b a0 a1 a2 a3).heap[b]?=some (.cells #[a0,a1,a2,a3] T (0,0)):=by
 have h0:(W.setCell ⟨b,0,none⟩ a0).heap[b]?=some (.cells #[a0,c1,c2,c3] T (0,0)):=heap_setCell_same W b 0 _ _ _ h;have h1:((W.setCell ⟨b,0,none⟩ a0).setCell ⟨b,1,none⟩ a1).heap[b]?=some (.cells #[a0,a1,c2,c3] T (0,0)):=heap_setCell_same _ b 1 _ _ _ h0;have h2:(((W.setCell ⟨b,0,none⟩ a0).setCell ⟨b,1,none⟩ a1).setCell ⟨b,2,none⟩ a2).heap[b]?=some (.cells #[a0,a1,a2,c3] T (0,0)):=heap_setCell_same _ b 2 _ _ _ h1;exact heap_setCell_same _ b 3 _ _ _ h2
theorem BK {B:Nat} {w W:World} (h:Below B w W) (b:Nat) (hb:B<=b) (a0 a1 a2 a3:Value):Below B w (BJ W b a0 a1 a2 a3):=
 (((h.setCell (p:=⟨b,0,none⟩) hb _).setCell (p:=⟨b,1,none⟩) hb _).setCell (p:=⟨b,2,none⟩) hb _).setCell (p:=⟨b,3,none⟩) hb _
theorem BL {W:World} {a b:Nat} {o:Obj} {a0 a1 a2 a3:Value} (h:W.heap[b]?=some o) (hne:b ≠ a):(BJ W a a0 a1 a2 a3).heap[b]?=some o:=qL (qL (qL (qL h hne) hne) hne) hne
theorem nI {l:List Cr} {n:Nat} (h:n+1 < l.length):l.drop n=l[n] :: l[n+1] :: l.drop (n+2):=by
 rw [List.drop_eq_getElem_cons (show n < l.length by omega),List.drop_eq_getElem_cons h]
theorem yC (l:List Cr) (h:l.length<=1):nbE l=0:=by
 match l,h with
 | [],_=>rfl
 | [a],_=>rfl
 | a :: b :: r,h=>simp at h
theorem yB (l:List Cr) (v:Value) (w:World) (h:aU All w v l) (hl:l.length<=281474976710656):Calls Tryz.prog 65 #[v] w fun e w'=>e=.returned (iI (nbE l))/\Below w.heap.size w w':=by
 have HF:=zZ h;obtain ⟨fa,fk,rfl,hm1,hm2⟩:=h.form;clear h;go_enter Tryz.func65,Tryz.ntmps65
 go_wp2;go_loopg [3] (l.length) (fun g i wr=>∃n m:Nat,Hid (m=n+1)/\m<=n+1/\n+1<=m/\n<=l.length/\g=l.length - n/\i=iI (m:Nat)/\Hid (Below w.heap.size w wr)/\Hid (nbE (l.drop n)=nbE l))
 case atStart=>exact ⟨0,1,rfl,by omega,by omega,Nat.zero_le _,rfl,rfl,Below.refl _ _,rfl⟩
 case round =>
  obtain ⟨n,m,HM,m1,m2,hn,hgk,rfl,Co,HE⟩:=hrel;by_cases hlt:m < l.length
  ·have hltz:(m:Int) < (l.length:Int):=by omega
   have hn':n < l.length:=by omega
   obtain ⟨b,oo,rfl,hbs,-,-⟩:=aU.get HF.out n hn';have HX:=zZ fun W' (hW:Below wr.heap.size wr W')=>And.intro (aU.get (HF.out.Bu (jg Co.out hW)) n hn') (aU.get (HF.out.Bu (jg Co.out hW)) m hlt);have HSt:Hid (nbE (l.drop n)=if zC l[n] l[m]=0 then 12 else if 0 < zC l[n] l[m] then 11 else nbE (l.drop m)):=by
    show _=_;have e:=HM.out;subst e;rw [nI hlt,yD,List.drop_eq_getElem_cons hlt]
   generalize hx:l[n]=x at *;generalize hy:l[m]=y at *;have HS1:Hid ((m:Int) - 1=(n:Int)):=by show _=_;omega
   have HS2:Hid (IntKind.i64.wrap (n:Int)=(n:Int)):=by show _=_;rw [IntKind.wrap_i64];omega
   have HD:=zZ (Below.drew (Below.refl wr.heap.size wr));have Bt:Hid (∀W' (hW:Below wr.heap.size wr W'),aS W' b (oo+n * 5) x/\aS W' b (oo+m * 5) y):=fun W' hW=>by
    obtain ⟨⟨b1,o1,e1,-,-,c1⟩,⟨b2,o2,e2,-,-,c2⟩⟩:=HX.out W' hW;simp only [Option.some.injEq,Addr.mk.injEq,and_true] at e1 e2;obtain ⟨rfl,rfl⟩:=e1;obtain ⟨rfl,rfl⟩:=e2;exact ⟨c1,c2⟩
   clear HX hx hy;obtain ⟨wo,hwo⟩:∃z,z=wr:=⟨_,rfl⟩;subst hwo;go_upto_region 4 with fail
   go_cut [4,5] (fun s4 s5 wx=>∃ga gb:Nat,s4=pP ga 0/\s5=pP gb 0/\Hid (wx.heap[ga]?=some (.cells #[.string (mk x.proc),.string (mk x.mod),iI x.net,iI x.Ch] 152 (0,0)))/\Hid (wx.heap[gb]?=some (.cells #[.string (mk y.proc),.string (mk y.mod),iI y.net,iI y.Ch] 152 (0,0)))/\Hid (Below wo.heap.size wo wx))
   case first =>
    refine Ri.I7 13 (by kernel_rfl) (by kernel_rfl) (by kernel_rfl) (by decide) (by kernel_rfl) (fun Wx=>Below wo.heap.size wo Wx) (fun kz vs wz=>(fun kx vx wx=>match kx with|0=>vx=.slice (some ⟨b,oo,none⟩) l.length fk|1=>vx=iI (m:Nat)|2=>vx=iI (n:Nat)|3=>vx=pP b (oo+n * 5)|4=>vx=fev x|5=>vx=plv x|6=>vx=.slice (some ⟨b,oo,none⟩) l.length fk|7=>vx=iI (m:Nat)|8=>vx=pP b (oo+m * 5)|9=>vx=fev y|10=>vx=plv y|11=>(∃g,vx=pP g 0/\wo.heap.size<=g/\wx.heap[g]?=some (.cells #[.string ⟨#[]⟩,.string ⟨#[]⟩,iI 0,iI 0] 152 (0,0)))|12=>(∃g,vx=pP g 0/\wo.heap.size<=g/\wx.heap[g]?=some (.cells #[.string ⟨#[]⟩,.string ⟨#[]⟩,iI 0,iI 0] 152 (0,0)))|_=>True:Nat->Value->World->Prop) kz (vs kz) wz) (fun Cw vs=>Cw 11=true->Cw 12=true->vs 11 ≠ vs 12) (fun kz=>[kz]) (by kernel_rfl) (fun jz vs iz vz wz hiz hz=>Ri.wI (F:=(fun kx vx wx=>match kx with|0=>vx=.slice (some ⟨b,oo,none⟩) l.length fk|1=>vx=iI (m:Nat)|2=>vx=iI (n:Nat)|3=>vx=pP b (oo+n * 5)|4=>vx=fev x|5=>vx=plv x|6=>vx=.slice (some ⟨b,oo,none⟩) l.length fk|7=>vx=iI (m:Nat)|8=>vx=pP b (oo+m * 5)|9=>vx=fev y|10=>vx=plv y|11=>(∃g,vx=pP g 0/\wo.heap.size<=g/\wx.heap[g]?=some (.cells #[.string ⟨#[]⟩,.string ⟨#[]⟩,iI 0,iI 0] 152 (0,0)))|12=>(∃g,vx=pP g 0/\wo.heap.size<=g/\wx.heap[g]?=some (.cells #[.string ⟨#[]⟩,.string ⟨#[]⟩,iI 0,iI 0] 152 (0,0)))|_=>True:Nat->Value->World->Prop)) jz vs iz vz wz hiz hz) HD.out ?_ ⟨⟨rfl,?_⟩,⟨rfl,?_⟩,⟨rfl,?_⟩,⟨rfl,?_⟩,⟨rfl,?_⟩,⟨rfl,?_⟩,⟨rfl,?_⟩,⟨rfl,?_⟩,⟨rfl,?_⟩,⟨rfl,?_⟩,⟨rfl,?_⟩,⟨rfl,?_⟩,⟨rfl,?_⟩,trivial⟩ ?_
    ·intro vs hvs;intro h1;cases h1
    ·intro vs Wx A Cw hA hB hls hX hno hpre K hK;have e0:=(hA 0).trans (show _=Value.slice (some ⟨b,oo,none⟩) l.length fk by kernel_rfl);clear hA hpre;go_simp;exact hK _ _ hB rfl (fun _ _ h=>h) hX
    ·intro vs Wx A Cw hA hB hls hX hno hpre K hK;have e3:=(hA 3).trans (show _=iI (m:Nat) by kernel_rfl);clear hA hpre;go_simp;exact hK _ _ hB rfl (fun _ _ h=>h) hX
    ·intro vs Wx A Cw hA hB hls hX hno hpre K hK;have e13:=tT (hA 13) (by kernel_rfl) (hpre.1 rfl);have s1:=HS1.out;have s2:=HS2.out;clear hA hpre;go_simp;exact hK _ _ hB rfl (fun _ _ h=>h) hX
    ·intro vs Wx A Cw hA hB hls hX hno hpre K hK;have e12:=tT (hA 12) (by kernel_rfl) (hpre.1 rfl);have e14:=tT (hA 14) (by kernel_rfl) (hpre.2.1 rfl);clear hA hpre;go_simp;exact hK _ _ hB rfl (fun _ _ h=>h) hX
    ·intro vs Wx A Cw hA hB hls hX hno hpre K hK;have e15:=tT (hA 15) (by kernel_rfl) (hpre.1 rfl);obtain ⟨⟨x0,x1,x2,x3,x4⟩,⟨y0,y1,y2,y3,y4⟩⟩:=Bt.out Wx hB;clear hA hpre;go_simp;exact hK _ _ hB rfl (fun _ _ h=>h) hX
    ·intro vs Wx A Cw hA hB hls hX hno hpre K hK;have e16:=tT (hA 16) (by kernel_rfl) (hpre.1 rfl);clear hA hpre;go_simp;go_at_call 108
     refine (Bh _ _).mono ?_;rintro e w3 ⟨rfl,hg⟩;refine hK _ _ (jg hB hg.1) rfl (fun jz hj hz=>?_) hX;match jz,hj,hz with
     | 0,_,hz=>exact hz
     | 1,_,hz=>exact hz
     | 2,_,hz=>exact hz
     | 3,_,hz=>exact hz
     | 4,_,hz=>exact hz
     | 5,_,hz=>exact hz
     | 6,_,hz=>exact hz
     | 7,_,hz=>exact hz
     | 8,_,hz=>exact hz
     | 9,_,hz=>exact hz
     | 10,_,hz=>exact hz
     | 11,_,hz=>exact (hz.elim fun g h=>⟨g,h.1,h.2.1,tV h.2.2 hg.1⟩)
     | 12,_,hz=>exact (hz.elim fun g h=>⟨g,h.1,h.2.1,tV h.2.2 hg.1⟩)
     | n+13,_,hz=>exact hz
    ·intro vs Wx A Cw hA hB hls hX hno hpre K hK;have e0:=(hA 0).trans (show _=Value.slice (some ⟨b,oo,none⟩) l.length fk by kernel_rfl);clear hA hpre;go_simp;exact hK _ _ hB rfl (fun _ _ h=>h) hX
    ·intro vs Wx A Cw hA hB hls hX hno hpre K hK;have e3:=(hA 3).trans (show _=iI (m:Nat) by kernel_rfl);clear hA hpre;go_simp;exact hK _ _ hB rfl (fun _ _ h=>h) hX
    ·intro vs Wx A Cw hA hB hls hX hno hpre K hK;have e18:=tT (hA 18) (by kernel_rfl) (hpre.1 rfl);have e19:=tT (hA 19) (by kernel_rfl) (hpre.2.1 rfl);clear hA hpre;go_simp;exact hK _ _ hB rfl (fun _ _ h=>h) hX
    ·intro vs Wx A Cw hA hB hls hX hno hpre K hK;have e20:=tT (hA 20) (by kernel_rfl) (hpre.1 rfl);obtain ⟨⟨x0,x1,x2,x3,x4⟩,⟨y0,y1,y2,y3,y4⟩⟩:=Bt.out Wx hB;clear hA hpre;go_simp;exact hK _ _ hB rfl (fun _ _ h=>h) hX
    ·intro vs Wx A Cw hA hB hls hX hno hpre K hK;have e21:=tT (hA 21) (by kernel_rfl) (hpre.1 rfl);clear hA hpre;go_simp;go_at_call 108
     refine (Bh _ _).mono ?_;rintro e w3 ⟨rfl,hg⟩;refine hK _ _ (jg hB hg.1) rfl (fun jz hj hz=>?_) hX;match jz,hj,hz with
     | 0,_,hz=>exact hz
     | 1,_,hz=>exact hz
     | 2,_,hz=>exact hz
     | 3,_,hz=>exact hz
     | 4,_,hz=>exact hz
     | 5,_,hz=>exact hz
     | 6,_,hz=>exact hz
     | 7,_,hz=>exact hz
     | 8,_,hz=>exact hz
     | 9,_,hz=>exact hz
     | 10,_,hz=>exact hz
     | 11,_,hz=>exact (hz.elim fun g h=>⟨g,h.1,h.2.1,tV h.2.2 hg.1⟩)
     | 12,_,hz=>exact (hz.elim fun g h=>⟨g,h.1,h.2.1,tV h.2.2 hg.1⟩)
     | n+13,_,hz=>exact hz
    ·intro vs Wx A Cw hA hB hls hX hno hpre K hK;clear hA hpre;go_simp;refine hK _ _ (jg hB (iU Wx _)) ⟨_,rfl,hB.size,heap_alloc_new Wx _⟩ (fun jz hj hz=>?_) (fun _ hl e=>?_)
     ·match jz,hj,hz with
      | 0,_,hz=>exact hz
      | 1,_,hz=>exact hz
      | 2,_,hz=>exact hz
      | 3,_,hz=>exact hz
      | 4,_,hz=>exact hz
      | 5,_,hz=>exact hz
      | 6,_,hz=>exact hz
      | 7,_,hz=>exact hz
      | 8,_,hz=>exact hz
      | 9,_,hz=>exact hz
      | 10,_,hz=>exact hz
      | 11,hj,_=>exact absurd rfl hj
      | 12,_,hz=>exact (hz.elim fun g h=>⟨g,h.1,h.2.1,tV h.2.2 (iU Wx _)⟩)
      | n+13,_,hz=>exact hz
     ·obtain ⟨g,e1,-,h3⟩:=hls 12 hl;have e2:Value.pointer (some ⟨Wx.heap.size,0,none⟩)=vs 12:=e;rw [e1] at e2;have e3:Wx.heap.size=g:=by simpa using e2
      have:=(Array.getElem?_eq_some_iff.1 h3).1;omega
    ·intro vs Wx A Cw hA hB hls hX hno hpre K hK;clear hA hpre;go_simp;refine hK _ _ (jg hB (iU Wx _)) ⟨_,rfl,hB.size,heap_alloc_new Wx _⟩ (fun jz hj hz=>?_) (fun hl _ e=>?_)
     ·match jz,hj,hz with
      | 0,_,hz=>exact hz
      | 1,_,hz=>exact hz
      | 2,_,hz=>exact hz
      | 3,_,hz=>exact hz
      | 4,_,hz=>exact hz
      | 5,_,hz=>exact hz
      | 6,_,hz=>exact hz
      | 7,_,hz=>exact hz
      | 8,_,hz=>exact hz
      | 9,_,hz=>exact hz
      | 10,_,hz=>exact hz
      | 11,_,hz=>exact (hz.elim fun g h=>⟨g,h.1,h.2.1,tV h.2.2 (iU Wx _)⟩)
      | 12,hj,_=>exact absurd rfl hj
      | n+13,_,hz=>exact hz
     ·obtain ⟨g,e1,-,h3⟩:=hls 11 hl;have e2:Value.pointer (some ⟨Wx.heap.size,0,none⟩)=vs 11:=e.symm;rw [e1] at e2;have e3:Wx.heap.size=g:=by simpa using e2
      have:=(Array.getElem?_eq_some_iff.1 h3).1;omega
    ·intro vs Wx Cw hall hX hB hF;refine fun A13 hA K13 hK13=>?_;have e4:=(hA 4).trans (show _=vs 11 by kernel_rfl);have e17:=tT (hA 17) (by kernel_rfl) (hF 5 (by decide));clear hA;obtain ⟨ga,ea,hga,hza⟩:=hF 11 (by decide);obtain ⟨gb,eb,hgb,hzb⟩:=hF 12 (by decide);have hne:ga ≠ gb:=fun e=>hX (hall 11 (by decide)) (hall 12 (by decide)) (by rw [ea,eb,e]);rw [ea] at e4;obtain ⟨⟨m0,m1,m2,m3⟩,f0,f1,f2,f3⟩:=jw hza;have HNA:=zZ (BM hza (.string (mk x.proc)) (.string (mk x.mod)) (iI x.net) (iI x.Ch));have HNB:=zZ (BL (a:=ga) (a0:=.string (mk x.proc)) (a1:=.string (mk x.mod)) (a2:=iI x.net) (a3:=iI x.Ch) hzb (Ne.symm hne));have HBP:=zZ (BK hB ga hga (.string (mk x.proc)) (.string (mk x.mod)) (iI x.net) (iI x.Ch));have HNE:=zZ hne;have HGB:=zZ hgb;have HEA:=zZ (And.intro ea eb);clear hga hgb hza hzb hne;go_simp;refine hK13 undef _ ?_;clear m0 m1 m2 m3 f0 f1 f2 f3 e4 e17;refine fun A14 hA K14 hK14=>?_;have e5:=(hA 5).trans (show _=vs 12 by kernel_rfl);have e22:=tT (hA 22) (by kernel_rfl) (hF 10 (by decide));clear hA;rw [eb] at e5;unfold BJ at HNA HNB HBP;generalize (((Wx.setCell ⟨ga,0,none⟩ (.string (mk x.proc))).setCell ⟨ga,1,none⟩ (.string (mk x.mod))).setCell ⟨ga,2,none⟩ (iI x.net)).setCell ⟨ga,3,none⟩ (iI x.Ch)=Wy at *;obtain ⟨⟨m0,m1,m2,m3⟩,f0,f1,f2,f3⟩:=jw HNB.out;have HMA:=zZ (BL (a:=gb) (a0:=.string (mk y.proc)) (a1:=.string (mk y.mod)) (a2:=iI y.net) (a3:=iI y.Ch) HNA.out HNE.out);have HMB:=zZ (BM HNB.out (.string (mk y.proc)) (.string (mk y.mod)) (iI y.net) (iI y.Ch));have HBM:=zZ (BK HBP.out gb HGB.out (.string (mk y.proc)) (.string (mk y.mod)) (iI y.net) (iI y.Ch));go_simp;refine hK14 undef _ ?_;clear m0 m1 m2 m3 f0 f1 f2 f3 e5 e22;unfold BJ at HMA HMB HBM;clear hB hX hall hF;simp only [Ri.Tail,Ri.puts];go_simp;go_wp2_with fail
     go_meet
     exact ⟨ga,gb,by first|exact HEA.out.1|(go_simp;exact HEA.out.1)|(simpa [Ri.upd] using HEA.out.1),by first|exact HEA.out.2|(go_simp;exact HEA.out.2)|(simpa [Ri.upd] using HEA.out.2),HMA.out,HMB.out,HBM.out⟩
   case rest =>
    obtain ⟨ga,gb,rfl,rfl,HMA,HMB,HBM⟩:=hcut;obtain ⟨w4,hw4⟩:∃z,z=wc:=⟨_,rfl⟩;subst hw4;have Cn:=zZ (jg Co.out HBM.out);obtain ⟨⟨a0,a1,a2,a3⟩,-⟩:=jw HMA.out;obtain ⟨⟨b0,b1,b2,b3⟩,-⟩:=jw HMB.out;clear Bt HD HS1 HS2 HBM;have HOR:=zZ (fun W'=>zI x y W');obtain ⟨V1,t1⟩:∃V,((mk x.proc).toList == (mk y.proc).toList)=V:=⟨_,rfl⟩;obtain ⟨V2,t2⟩:∃V,((mk x.mod).toList == (mk y.mod).toList)=V:=⟨_,rfl⟩;obtain ⟨V3,t3⟩:∃V,(x.net == y.net)=V:=⟨_,rfl⟩;obtain ⟨V4,t4⟩:∃V,(x.Ch == y.Ch)=V:=⟨_,rfl⟩;have HV:Hid (Ew x y ↔ V1=true/\V2=true/\V3=true/\V4=true):=by
     show _ ↔ _;rw [←t1,←t2,←t3,←t4,xH,xH];simp [Ew]
    by_cases hsame:V1=true/\V2=true/\V3=true/\V4=true
    ·have HR:Hid (nbE l=12):=by
      show _=_;rw [←HE.out,HSt.out,if_pos ((zH x y).2 (HV.out.2 hsame))]
     obtain ⟨v1,v2,v3,v4⟩:=hsame;clear HSt HE HV;go_wp2_with fail
     go_ret;exact ⟨by rw [HR.out];rfl,Cn.out⟩
    ·have HNZ:Hid (zC x y ≠ 0):=fun e=>hsame (HV.out.1 ((zH x y).1 e));have hc:V1=false ∨ (V1=true/\V2=false) ∨ (V1=true/\V2=true/\V3=false) ∨ (V1=true/\V2=true/\V3=true/\V4=false):=by
      cases V1<;>cases V2<;>cases V3<;>cases V4<;>simp_all
     clear hsame HV;obtain ⟨r,HRV⟩:∃r,Hid (zC x y=r):=⟨_,rfl⟩;rw [HRV.out] at HOR HNZ HSt;by_cases hpos:0 < r
     ·have HR:Hid (nbE l=11):=by
       show _=_;rw [←HE.out,HSt.out,if_neg HNZ.out,if_pos hpos]
      clear HSt HE HNZ;rcases hc with v1|⟨v1,v2⟩|⟨v1,v2,v3⟩|⟨v1,v2,v3,v4⟩
      all_goals
       go_wp2_with fail
       go_at_call 109
       refine (HOR.out _).mono ?_;rintro e w5 ⟨rfl,hg⟩;have CF:=zZ (jg Cn.out hg.1);clear hg;go_wp2;go_ret;exact ⟨by rw [HR.out];rfl,CF.out⟩
     ·have HR:Hid (nbE (l.drop m)=nbE l):=by
       show _=_;rw [←HE.out,HSt.out,if_neg HNZ.out,if_neg hpos]
      clear HSt HE HNZ;rcases hc with v1|⟨v1,v2⟩|⟨v1,v2,v3⟩|⟨v1,v2,v3,v4⟩
      all_goals
       go_wp2_with fail
       go_at_call 109
       refine (HOR.out _).mono ?_;rintro e w5 ⟨rfl,hg⟩;have CF:=zZ (jg Cn.out hg.1);clear hg;go_wp2;go_roundg (l.length - m)
       case measure=>omega
       case rel=>exact ⟨m,m+1,rfl,by omega,by omega,by omega,rfl,by first|rfl|go_num|(congr 1;omega),CF.out,HR.out⟩
  ·have hltz:¬ (m:Int) < (l.length:Int):=by omega
   have HN:Hid (nbE l=0):=by
    show _=_;rw [←HE.out];exact yC _ (by rw [List.length_drop];omega)
   go_wp2;go_ret;exact ⟨by rw [HN.out];rfl,Co.out⟩
end Fe
namespace Fe
open Go.RowKit
open Wo (tV jI jQ qL iU jg)
theorem oW {l:List Cr} {n:Nat} (h:n < l.length):oU (l.drop n)=if yQ l[n]=0 then oU (l.drop (n+1)) else yQ l[n]:=by
 rw [List.drop_eq_getElem_cons h];rfl
theorem bL (l:List Cr) (v:Value) (w:World) (h:aU All w v l) (hok:∀f ∈ l,aT f) (hl:l.length<=281474976710656) (hT:Da.Tab w):Calls Tryz.prog 33 #[v] w fun e w'=>e=.returned (iI (kF l))/\Below w.heap.size w w':=by
 have HF:=zZ h;have HT:=zZ hT;have HOK:=zZ hok;have HNb:=zZ fun W' (hW:Below w.heap.size w W')=>yB l v W' (h.Bu hW) hl;obtain ⟨fa,fk,rfl,hm1,hm2⟩:=h.form;clear h hT hok;by_cases hbig:512 < l.length
 ·have HR:Hid (kF l=10):=by show _=_;unfold kF;rw [if_pos hbig]
  have hz:(512:Int) < (l.length:Int):=by omega
  go_enter Tryz.func33,Tryz.ntmps33
  go_wp2;go_ret;exact ⟨by rw [HR.out];rfl,Below.refl _ _⟩
 have HR:Hid (kF l=if oU l=0 then nbE l else oU l):=by show _=_;unfold kF;rw [if_neg hbig]
 have hz:¬ (512:Int) < (l.length:Int):=by omega
 go_enter Tryz.func33,Tryz.ntmps33
 go_wp2;go_loopg [11] (l.length) (fun g i wr=>∃n:Nat,n<=l.length/\g=l.length - n/\i=iI (n:Nat)/\Hid (Below w.heap.size w wr)/\Hid (oU (l.drop n)=oU l))
 case atStart=>exact ⟨0,Nat.zero_le _,rfl,rfl,Below.refl _ _,rfl⟩
 case round =>
  obtain ⟨n,hn,hgk,rfl,Co,HE⟩:=hrel;by_cases hlt:n < l.length
  ·obtain ⟨b,oo,rfl,hbs,-,hcc⟩:=aU.get (HF.out.Bu Co.out) n hlt;have HFD:=zZ (oW hlt);have HO:=zZ (HOK.out l[n] (List.getElem_mem hlt));generalize l[n]=x at *;obtain ⟨c0,c1,c2,c3,c4⟩:=hcc;have hb1:=iU wr (.cells #[sS x.proc,sS x.mod,iI x.net,iI x.Ch,iI x.Ck] 54);have hb2:=jg Co.out hb1;have HRW:=zZ (DX x HO.out (wr.alloc (.cells #[sS x.proc,sS x.mod,iI x.net,iI x.Ch,iI x.Ck] 54)) (Cm.gP HT.out hb2));have HB2:=zZ hb2;clear hb1 hb2;go_upto_region 6 with fail
   generalize hq:wr.heap.size=q at *;have HZ:=zZ (heap_alloc_new wr (.cells #[sS x.proc,sS x.mod,iI x.net,iI x.Ch,iI x.Ck] 54));rw [hq] at HZ;generalize wr.alloc (.cells #[sS x.proc,sS x.mod,iI x.net,iI x.Ch,iI x.Ck] 54)=W at *;obtain ⟨d0,d1,d2,d3,d4⟩:=cells5 HZ.out;clear c0 c1 c2 c3 c4;go_wp2_with fail
   go_at_call 64
   refine HRW.out.mono ?_;rintro e w5 ⟨rfl,hg⟩;have CF:=zZ (jg HB2.out hg);clear hg HRW HZ HB2 d0 d1 d2 d3 d4;obtain ⟨r,HRV⟩:∃r,Hid (yQ x=r):=⟨_,rfl⟩;rw [HRV.out] at HFD;rw [HRV.out];by_cases hr:r=0
   ·have q1:(r != 0)=false:=by rw [hr];rfl
    have HE2:Hid (oU (l.drop (n+1))=oU l):=by show _=_;rw [←HE.out,HFD.out,if_pos hr]
    clear HE HFD hr;go_wp2;go_roundg (l.length - (n+1))
    case measure=>omega
    case rel=>exact ⟨n+1,by omega,rfl,by first|rfl|go_num|(congr 1;omega),CF.out,HE2.out⟩
   ·have q1:(r != 0)=true:=by simpa using hr
    have HE2:Hid (kF l=r):=by show _=_;rw [HR.out,←HE.out,HFD.out,if_neg hr,if_neg hr]
    clear HE HFD hr;go_wp2;go_ret;exact ⟨by rw [HE2.out];rfl,CF.out⟩
  ·have hltz:¬ (n:Int) < (l.length:Int):=by omega
   have HE2:Hid (kF l=nbE l):=by
    show _=_;have e:l.drop n=[]:=List.drop_eq_nil_of_le (by omega);have:=HE.out;rw [e] at this;rw [HR.out,if_pos (show oU l=0 from this.symm)]
   go_wp2_with fail
   go_at_call 65
   refine (HNb.out _ Co.out).mono ?_;rintro e w5 ⟨rfl,hg⟩;have CF:=zZ (jg Co.out hg);clear hg;go_wp2;go_ret;exact ⟨by rw [HE2.out];rfl,CF.out⟩
end Fe
namespace Fe
open Go.RowKit
open Wo (tV jI jQ qL iU jg)
theorem Nv (l:List Cr) (v:Value) (w:World) (h:aU All w v l) (hok:∀f ∈ l,aT f) (hl:l.length<=281474976710656):Calls Tryz.prog 36 #[v] w fun e w'=>e=.returned (iI (kF l))/\Below w.heap.size w w':=by
 have HF:=zZ h;have HOK:=zZ hok;obtain ⟨fa,fk,rfl,hm1,hm2⟩:=h.form;clear h hok;by_cases hbig:512 < l.length
 ·have HR:Hid (kF l=10):=by show _=_;unfold kF;rw [if_pos hbig]
  have hz:(512:Int) < (l.length:Int):=by omega
  go_enter Tryz.func36,Tryz.ntmps36
  go_wp2;go_ret;exact ⟨by rw [HR.out];rfl,Below.refl _ _⟩
 have HR:Hid (kF l=if oU l=0 then nbE l else oU l):=by show _=_;unfold kF;rw [if_neg hbig]
 have hz:¬ (512:Int) < (l.length:Int):=by omega
 go_enter Tryz.func36,Tryz.ntmps36
 go_wp2;go_loopg [3] (l.length) (fun g i wr=>∃n:Nat,n<=l.length/\g=l.length - n/\i=iI (n:Nat)/\Hid (Below w.heap.size w wr)/\Hid (oU (l.drop n)=oU l))
 case atStart=>exact ⟨0,Nat.zero_le _,rfl,rfl,Below.refl _ _,rfl⟩
 case round =>
  obtain ⟨n,hn,hgk,rfl,Co,HE⟩:=hrel;by_cases hlt:n < l.length
  ·obtain ⟨b,oo,rfl,hbs,-,hcc⟩:=aU.get (HF.out.Bu Co.out) n hlt;have HFD:=zZ (oW hlt);have HO:=zZ (HOK.out l[n] (List.getElem_mem hlt));generalize l[n]=x at *;obtain ⟨c0,c1,c2,c3,c4⟩:=hcc;have HRW:=zZ (Oo x HO.out wr);go_wp2_with fail
   go_at_call 68
   refine HRW.out.mono ?_;rintro e w5 ⟨rfl,hg⟩;have CF:=zZ (jg Co.out hg);clear hg HRW c0 c1 c2 c3 c4;obtain ⟨r,HRV⟩:∃r,Hid (yQ x=r):=⟨_,rfl⟩;rw [HRV.out] at HFD;rw [HRV.out];by_cases hr:r=0
   ·have q1:(r != 0)=false:=by rw [hr];rfl
    have HE2:Hid (oU (l.drop (n+1))=oU l):=by show _=_;rw [←HE.out,HFD.out,if_pos hr]
    clear HE HFD hr;go_wp2;go_roundg (l.length - (n+1))
    case measure=>omega
    case rel=>exact ⟨n+1,by omega,rfl,by first|rfl|go_num|(congr 1;omega),CF.out,HE2.out⟩
   ·have q1:(r != 0)=true:=by simpa using hr
    have HE2:Hid (kF l=r):=by show _=_;rw [HR.out,←HE.out,HFD.out,if_neg hr,if_neg hr]
    clear HE HFD hr;go_wp2;go_ret;exact ⟨by rw [HE2.out];rfl,CF.out⟩
  ·have hltz:¬ (n:Int) < (l.length:Int):=by omega
   have HE2:Hid (kF l=nbE l):=by
    show _=_;have e:l.drop n=[]:=List.drop_eq_nil_of_le (by omega);have:=HE.out;rw [e] at this;rw [HR.out,if_pos (show oU l=0 from this.symm)]
   clear HE HR;go_wp2;go_loopg [5] (l.length) (fun g i wq=>∃n:Nat,n<=l.length/\g=l.length - n/\i=iI (n:Nat)/\Hid (Below w.heap.size w wq)/\Hid (nbE (l.drop n)=nbE l))
   case atStart=>exact ⟨0,Nat.zero_le _,rfl,rfl,Co.out,rfl⟩
   case round =>
    clear Co;obtain ⟨n,hn,hgk,rfl,Co,HE⟩:=hrel;obtain ⟨m,hm⟩:∃m,m=n+1:=⟨_,rfl⟩;have zm:(n:Int)+1=(m:Int):=by omega
    have HM:Hid (m=n+1):=hm;have m1:m<=n+1:=by omega
    have m2:n+1<=m:=by omega
    clear hm;by_cases hlt2:m < l.length
    ·have hltz2:(m:Int) < (l.length:Int):=by omega
     have hn':n < l.length:=by omega
     obtain ⟨b,oo,rfl,hbs,-,-⟩:=aU.get HF.out n hn';have HSt:Hid (nbE (l.drop n)=if dR l[m] l[n]=true then 11 else if dR l[n] l[m]=true then nbE (l.drop m) else 12):=by
      show _=_;have e:=HM.out;subst e;rw [nI hlt2,List.drop_eq_getElem_cons hlt2];rfl
     have Bt:=zZ fun W' (hW:Below wr.heap.size wr W')=>And.intro (jZ (HF.out.Bu (jg Co.out hW)) n hn') (jZ (HF.out.Bu (jg Co.out hW)) m hlt2);generalize l[n]=x at *;generalize l[m]=y at *;have HD:=zZ (Below.drew (Below.refl wr.heap.size wr));obtain ⟨wo,hwo⟩:∃z,z=wr:=⟨_,rfl⟩;subst hwo;have HS2:Hid (IntKind.i64.wrap (m:Int)=(m:Int)):=by show _=_;rw [IntKind.wrap_i64];omega
     have HZM:=zZ zm;go_upto_region 12 with fail
     refine Ri.IX (by kernel_rfl) (by kernel_rfl) (by kernel_rfl) (fun Wx=>Below wo.heap.size wo Wx) (fun kz vs wz=>(fun kx vx wx=>match kx with|0=>vx=.slice (some ⟨b,oo,none⟩) l.length fk|1=>vx=iI (n:Nat)|2=>vx=iI (m:Nat)|3=>vx=pP b (oo+m * 5)|4=>vx=fev y|5=>vx=.slice (some ⟨b,oo,none⟩) l.length fk|6=>vx=iI (n:Nat)|7=>vx=pP b (oo+n * 5)|8=>vx=fev x|9=>vx=.bool (dR y x)|_=>True:Nat->Value->World->Prop) kz (vs kz) wz) (fun kz=>[kz]) (by kernel_rfl) (fun jz vs iz vz wz hiz hz=>Ri.wI (F:=(fun kx vx wx=>match kx with|0=>vx=.slice (some ⟨b,oo,none⟩) l.length fk|1=>vx=iI (n:Nat)|2=>vx=iI (m:Nat)|3=>vx=pP b (oo+m * 5)|4=>vx=fev y|5=>vx=.slice (some ⟨b,oo,none⟩) l.length fk|6=>vx=iI (n:Nat)|7=>vx=pP b (oo+n * 5)|8=>vx=fev x|9=>vx=.bool (dR y x)|_=>True:Nat->Value->World->Prop)) jz vs iz vz wz hiz hz) HD.out ⟨⟨rfl,?_⟩,⟨rfl,?_⟩,⟨rfl,?_⟩,⟨rfl,?_⟩,⟨rfl,?_⟩,⟨rfl,?_⟩,⟨rfl,?_⟩,⟨rfl,?_⟩,⟨rfl,?_⟩,⟨rfl,?_⟩,trivial⟩ ?_
     ·intro vs Wx A hA hB hpre K hK;have e0:=(hA 0).trans (show _=Value.slice (some ⟨b,oo,none⟩) l.length fk by kernel_rfl);clear hA hpre;go_simp;exact hK _ _ hB rfl (fun _ _ h=>h)
     ·intro vs Wx A hA hB hpre K hK;have e5:=(hA 5).trans (show _=iI (n:Nat) by kernel_rfl);clear hA hpre;go_simp;exact hK _ _ hB rfl (fun _ _ h=>h)
     ·intro vs Wx A hA hB hpre K hK;have e31:=tT (hA 31) (by kernel_rfl) (hpre.1 rfl);have s1:=HZM.out;have s2:=HS2.out;clear hA hpre;go_simp;exact hK _ _ hB rfl (fun _ _ h=>h)
     ·intro vs Wx A hA hB hpre K hK;have e30:=tT (hA 30) (by kernel_rfl) (hpre.1 rfl);have e32:=tT (hA 32) (by kernel_rfl) (hpre.2.1 rfl);clear hA hpre;go_simp;exact hK _ _ hB rfl (fun _ _ h=>h)
     ·intro vs Wx A hA hB hpre K hK;have e33:=tT (hA 33) (by kernel_rfl) (hpre.1 rfl);obtain ⟨⟨x0,x1,x2,x3,x4⟩,⟨y0,y1,y2,y3,y4⟩⟩:=Bt.out Wx hB;clear hA hpre;go_simp;exact hK _ _ hB rfl (fun _ _ h=>h)
     ·intro vs Wx A hA hB hpre K hK;have e0:=(hA 0).trans (show _=Value.slice (some ⟨b,oo,none⟩) l.length fk by kernel_rfl);clear hA hpre;go_simp;exact hK _ _ hB rfl (fun _ _ h=>h)
     ·intro vs Wx A hA hB hpre K hK;have e5:=(hA 5).trans (show _=iI (n:Nat) by kernel_rfl);clear hA hpre;go_simp;exact hK _ _ hB rfl (fun _ _ h=>h)
     ·intro vs Wx A hA hB hpre K hK;have e35:=tT (hA 35) (by kernel_rfl) (hpre.1 rfl);have e36:=tT (hA 36) (by kernel_rfl) (hpre.2.1 rfl);clear hA hpre;go_simp;exact hK _ _ hB rfl (fun _ _ h=>h)
     ·intro vs Wx A hA hB hpre K hK;have e37:=tT (hA 37) (by kernel_rfl) (hpre.1 rfl);obtain ⟨⟨x0,x1,x2,x3,x4⟩,⟨y0,y1,y2,y3,y4⟩⟩:=Bt.out Wx hB;clear hA hpre;go_simp;exact hK _ _ hB rfl (fun _ _ h=>h)
     ·intro vs Wx A hA hB hpre K hK;have e34:=tT (hA 34) (by kernel_rfl) (hpre.1 rfl);have e38:=tT (hA 38) (by kernel_rfl) (hpre.2.1 rfl);clear hA hpre;go_simp;go_at_call 69
      refine (MS _ _ _).mono ?_;rintro e w3 ⟨rfl,hg⟩;exact hK _ _ (jg hB hg) rfl (fun _ _ h=>h)
     ·intro vs Wx hB hF;have hL:vs 9=.bool (dR y x):=hF 9 (by decide);have HB3:=zZ (jg Co.out hB);have HX2:=zZ fun W' (hW:Below Wx.heap.size Wx W')=>Bt.out W' (jg hB hW);clear hF hB Bt HD;simp only [Ri.puts];rw [hL];clear hL;cases ha:dR y x with
      | true =>
       have HE3:Hid (kF l=11):=by show _=_;rw [HE2.out,←HE.out,HSt.out,if_pos ha]
       clear HSt HE HX2;go_simp;go_wp2_with fail
       go_ret;exact ⟨by rw [HE3.out];rfl,HB3.out⟩
      | false =>
       have HSt2:Hid (nbE (l.drop n)=if dR x y=true then nbE (l.drop m) else 12):=by show _=_;rw [HSt.out,if_neg (by rw [ha];decide)]
       clear HSt ha;have Bt:Hid (∀W',Below Wx.heap.size Wx W'->aS W' b (oo+n * 5) x/\aS W' b (oo+m * 5) y):=HX2.out;clear HX2;have HD:=zZ (Below.drew (Below.refl Wx.heap.size Wx));obtain ⟨wo2,hwo2⟩:∃z,z=Wx:=⟨_,rfl⟩;subst hwo2;go_simp;go_upto_region 14 with fail
       refine Ri.IX (by kernel_rfl) (by kernel_rfl) (by kernel_rfl) (fun Wx=>Below wo2.heap.size wo2 Wx) (fun kz vs wz=>(fun kx vx wx=>match kx with|0=>vx=.slice (some ⟨b,oo,none⟩) l.length fk|1=>vx=iI (n:Nat)|2=>vx=pP b (oo+n * 5)|3=>vx=fev x|4=>vx=.slice (some ⟨b,oo,none⟩) l.length fk|5=>vx=iI (n:Nat)|6=>vx=iI (m:Nat)|7=>vx=pP b (oo+m * 5)|8=>vx=fev y|9=>vx=.bool (dR x y)|10=>vx=.bool (!dR x y)|_=>True:Nat->Value->World->Prop) kz (vs kz) wz) (fun kz=>[kz]) (by kernel_rfl) (fun jz vs iz vz wz hiz hz=>Ri.wI (F:=(fun kx vx wx=>match kx with|0=>vx=.slice (some ⟨b,oo,none⟩) l.length fk|1=>vx=iI (n:Nat)|2=>vx=pP b (oo+n * 5)|3=>vx=fev x|4=>vx=.slice (some ⟨b,oo,none⟩) l.length fk|5=>vx=iI (n:Nat)|6=>vx=iI (m:Nat)|7=>vx=pP b (oo+m * 5)|8=>vx=fev y|9=>vx=.bool (dR x y)|10=>vx=.bool (!dR x y)|_=>True:Nat->Value->World->Prop)) jz vs iz vz wz hiz hz) HD.out ⟨⟨rfl,?_⟩,⟨rfl,?_⟩,⟨rfl,?_⟩,⟨rfl,?_⟩,⟨rfl,?_⟩,⟨rfl,?_⟩,⟨rfl,?_⟩,⟨rfl,?_⟩,⟨rfl,?_⟩,⟨rfl,?_⟩,⟨rfl,?_⟩,trivial⟩ ?_
       ·intro vs Wx A hA hB hpre K hK;have e0:=(hA 0).trans (show _=Value.slice (some ⟨b,oo,none⟩) l.length fk by kernel_rfl);clear hA hpre;go_simp;exact hK _ _ hB rfl (fun _ _ h=>h)
       ·intro vs Wx A hA hB hpre K hK;have e5:=(hA 5).trans (show _=iI (n:Nat) by kernel_rfl);clear hA hpre;go_simp;exact hK _ _ hB rfl (fun _ _ h=>h)
       ·intro vs Wx A hA hB hpre K hK;have e40:=tT (hA 40) (by kernel_rfl) (hpre.1 rfl);have e41:=tT (hA 41) (by kernel_rfl) (hpre.2.1 rfl);clear hA hpre;go_simp;exact hK _ _ hB rfl (fun _ _ h=>h)
       ·intro vs Wx A hA hB hpre K hK;have e42:=tT (hA 42) (by kernel_rfl) (hpre.1 rfl);obtain ⟨⟨x0,x1,x2,x3,x4⟩,⟨y0,y1,y2,y3,y4⟩⟩:=Bt.out Wx hB;clear hA hpre;go_simp;exact hK _ _ hB rfl (fun _ _ h=>h)
       ·intro vs Wx A hA hB hpre K hK;have e0:=(hA 0).trans (show _=Value.slice (some ⟨b,oo,none⟩) l.length fk by kernel_rfl);clear hA hpre;go_simp;exact hK _ _ hB rfl (fun _ _ h=>h)
       ·intro vs Wx A hA hB hpre K hK;have e5:=(hA 5).trans (show _=iI (n:Nat) by kernel_rfl);clear hA hpre;go_simp;exact hK _ _ hB rfl (fun _ _ h=>h)
       ·intro vs Wx A hA hB hpre K hK;have e45:=tT (hA 45) (by kernel_rfl) (hpre.1 rfl);have s1:=HZM.out;have s2:=HS2.out;clear hA hpre;go_simp;exact hK _ _ hB rfl (fun _ _ h=>h)
       ·intro vs Wx A hA hB hpre K hK;have e44:=tT (hA 44) (by kernel_rfl) (hpre.1 rfl);have e46:=tT (hA 46) (by kernel_rfl) (hpre.2.1 rfl);clear hA hpre;go_simp;exact hK _ _ hB rfl (fun _ _ h=>h)
       ·intro vs Wx A hA hB hpre K hK;have e47:=tT (hA 47) (by kernel_rfl) (hpre.1 rfl);obtain ⟨⟨x0,x1,x2,x3,x4⟩,⟨y0,y1,y2,y3,y4⟩⟩:=Bt.out Wx hB;clear hA hpre;go_simp;exact hK _ _ hB rfl (fun _ _ h=>h)
       ·intro vs Wx A hA hB hpre K hK;have e43:=tT (hA 43) (by kernel_rfl) (hpre.1 rfl);have e48:=tT (hA 48) (by kernel_rfl) (hpre.2.1 rfl);clear hA hpre;go_simp;go_at_call 69
        refine (MS _ _ _).mono ?_;rintro e w3 ⟨rfl,hg⟩;exact hK _ _ (jg hB hg) rfl (fun _ _ h=>h)
       ·intro vs Wx A hA hB hpre K hK;have e49:=tT (hA 49) (by kernel_rfl) (hpre.1 rfl);clear hA hpre;go_simp;exact hK _ _ hB rfl (fun _ _ h=>h)
       ·intro vs Wx hB hF;have hL:vs 10=.bool (!dR x y):=hF 10 (by decide);have HB4:=zZ (jg HB3.out hB);clear hF hB Bt HD;simp only [Ri.puts];rw [hL];clear hL;cases ha:dR x y with
        | true =>
         have HE3:Hid (nbE (l.drop m)=nbE l):=by show _=_;rw [←HE.out,HSt2.out,if_pos ha]
         clear HSt2 HE ha;go_simp;go_wp2;go_roundg (l.length - m)
         case measure=>omega
         case rel=>exact ⟨m,by omega,rfl,by first|rfl|go_num|(congr 1;omega),HB4.out,HE3.out⟩
        | false =>
         have HE3:Hid (kF l=12):=by show _=_;rw [HE2.out,←HE.out,HSt2.out,if_neg (by rw [ha];decide)]
         clear HSt2 HE ha;go_simp;go_wp2_with fail
         go_ret;exact ⟨by rw [HE3.out];rfl,HB4.out⟩
    ·have hltz2:¬ (m:Int) < (l.length:Int):=by omega
     have HN:Hid (kF l=0):=by
      show _=_;rw [HE2.out,←HE.out];exact yC _ (by rw [List.length_drop];omega)
     go_wp2;go_ret;exact ⟨by rw [HN.out];rfl,Co.out⟩
end Fe
end Go.Proofs.YtfbfeoplldjbpaaGreatDoor
