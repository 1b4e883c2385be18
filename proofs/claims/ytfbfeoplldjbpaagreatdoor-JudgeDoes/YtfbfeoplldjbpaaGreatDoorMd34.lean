/-
  Texts put together (merge.py): XRChk, JChk, LLine, LLines.
-/
import Derived.Test.YtfbfeoplldjbpaaGreatDoorMd33
set_option linter.unusedSimpArgs false
set_option linter.unusedVariables false
set_option maxHeartbeats 16000000
set_option maxRecDepth 100000
namespace Go.Proofs.YtfbfeoplldjbpaaGreatDoor
namespace Ex
open Go.RowKit
open Wo (tV jI jQ qL iU jg)
theorem Oo (f:Ed) (hf:aO f) (w:World):Calls Tryz.prog 70 #[edv f] w fun e w'=>e=.returned (iI (yQ f))/\Below w.heap.size w w':=by
 obtain ⟨k,a,b,y,n⟩:=f;obtain ⟨⟨z1,z2⟩,-⟩:=hf;have z1:a.length<=9223372036854775807:=by simp only at z1;omega
 have z2:b.length<=9223372036854775807:=by simp only at z2;omega
 show Calls Tryz.prog 70 #[.agg #[iI k,.string (mk a),.string (mk b),.bool y,iI n]] w fun e w'=>e=.returned (iI (yQ ⟨k,a,b,y,n⟩))/\Below w.heap.size w w';rw [yS];have HB:=zZ fun o=>iU w o;cases hc0:Cm.lM a 5 5
 ·show Calls _ _ _ _ fun e w'=>e=.returned (iI 9)/\_;go_enter Tryz.func70,Tryz.ntmps70
  go_wp2_with (first|(go_at_call 50;refine (Cm.NG _ _ _ _ (by assumption)).mono ?_;rintro e w' ⟨rfl,rfl⟩))
  go_ret;exact ⟨rfl,HB.out _⟩
 rw [if_pos rfl];by_cases h1:k=1
 ·subst h1;rw [if_pos rfl];by_cases hab:a=b
  ·have q1:((mk b).toList == (mk a).toList)=true:=by rw [xH];exact decide_eq_true hab.symm
   have q1r:((mk a).toList == (mk b).toList)=true:=by rw [xH];exact decide_eq_true hab
   have HE:Hid (paE 1 a b y n=9):=if_neg (fun h=>h.1 hab);clear hab;rw [HE.out];go_enter Tryz.func70,Tryz.ntmps70
   go_wp2_with (first|(go_at_call 50;refine (Cm.NG _ _ _ _ (by assumption)).mono ?_;rintro e w' ⟨rfl,rfl⟩))
   go_ret;exact ⟨rfl,HB.out _⟩
  have q1:((mk b).toList == (mk a).toList)=false:=by rw [xH];exact decide_eq_false (fun e=>hab e.symm)
  have q1r:((mk a).toList == (mk b).toList)=false:=by rw [xH];exact decide_eq_false hab
  cases hc:Cm.lM b 5 5
  ·have HE:Hid (paE 1 a b y n=9):=if_neg (fun h=>by rw [hc] at h;cases h.2);clear hab;rw [HE.out];go_enter Tryz.func70,Tryz.ntmps70
   go_wp2_with (first|(go_at_call 50;refine (Cm.NG _ _ _ _ (by assumption)).mono ?_;rintro e w' ⟨rfl,rfl⟩))
   go_ret;exact ⟨rfl,HB.out _⟩
  have HC:Hid (a ≠ b/\Cm.lM b 5 5=true):=⟨hab,hc⟩;clear hab;by_cases hn:n=0
  ·subst hn;have HE:Hid (paE 1 a b y 0=0):=by show _=_;unfold paE;rw [if_pos HC.out];exact if_pos ⟨rfl,fun h=>absurd h.1 (by decide)⟩
   rw [HE.out];go_enter Tryz.func70,Tryz.ntmps70
   go_wp2_with (first|(go_at_call 50;refine (Cm.NG _ _ _ _ (by assumption)).mono ?_;rintro e w' ⟨rfl,rfl⟩))
   go_ret;exact ⟨rfl,HB.out _⟩
  ·have q3:(n != 0)=true:=by simpa using hn
   have HE:Hid (paE 1 a b y n=1):=by show _=_;unfold paE;rw [if_pos HC.out,if_neg (fun h=>hn h.1)]
   clear hn;rw [HE.out];go_enter Tryz.func70,Tryz.ntmps70
   go_wp2_with (first|(go_at_call 50;refine (Cm.NG _ _ _ _ (by assumption)).mono ?_;rintro e w' ⟨rfl,rfl⟩))
   go_ret;exact ⟨rfl,HB.out _⟩
 rw [if_neg h1];have q1k:(k != 1)=true:=by simpa using h1
 by_cases h2:k=2
 ·subst h2;rw [if_pos rfl];clear h1 q1k;by_cases hab:a=b
  ·have q1:((mk b).toList == (mk a).toList)=true:=by rw [xH];exact decide_eq_true hab.symm
   have q1r:((mk a).toList == (mk b).toList)=true:=by rw [xH];exact decide_eq_true hab
   have HE:Hid (paE 2 a b y n=9):=if_neg (fun h=>h.1 hab);clear hab;rw [HE.out];go_enter Tryz.func70,Tryz.ntmps70
   go_wp2_with (first|(go_at_call 50;refine (Cm.NG _ _ _ _ (by assumption)).mono ?_;rintro e w' ⟨rfl,rfl⟩))
   go_ret;exact ⟨rfl,HB.out _⟩
  have q1:((mk b).toList == (mk a).toList)=false:=by rw [xH];exact decide_eq_false (fun e=>hab e.symm)
  have q1r:((mk a).toList == (mk b).toList)=false:=by rw [xH];exact decide_eq_false hab
  cases hc:Cm.lM b 5 5
  ·have HE:Hid (paE 2 a b y n=9):=if_neg (fun h=>by rw [hc] at h;cases h.2);clear hab;rw [HE.out];go_enter Tryz.func70,Tryz.ntmps70
   go_wp2_with (first|(go_at_call 50;refine (Cm.NG _ _ _ _ (by assumption)).mono ?_;rintro e w' ⟨rfl,rfl⟩))
   go_ret;exact ⟨rfl,HB.out _⟩
  have HC:Hid (a ≠ b/\Cm.lM b 5 5=true):=⟨hab,hc⟩;clear hab;by_cases hn:n=0
  ·subst hn;cases y with
   | true =>
    have HE:Hid (paE 2 a b true 0=1):=by show _=_;unfold paE;rw [if_pos HC.out,if_neg (fun h=>h.2 ⟨rfl,rfl⟩)]
    rw [HE.out];go_enter Tryz.func70,Tryz.ntmps70
    go_wp2_with (first|(go_at_call 50;refine (Cm.NG _ _ _ _ (by assumption)).mono ?_;rintro e w' ⟨rfl,rfl⟩))
    go_ret;exact ⟨rfl,HB.out _⟩
   | false =>
    have HE:Hid (paE 2 a b false 0=0):=by show _=_;unfold paE;rw [if_pos HC.out];exact if_pos ⟨rfl,fun h=>by cases h.2⟩
    rw [HE.out];go_enter Tryz.func70,Tryz.ntmps70
    go_wp2_with (first|(go_at_call 50;refine (Cm.NG _ _ _ _ (by assumption)).mono ?_;rintro e w' ⟨rfl,rfl⟩))
    go_ret;exact ⟨rfl,HB.out _⟩
  ·have q3:(n != 0)=true:=by simpa using hn
   have HE:Hid (paE 2 a b y n=1):=by show _=_;unfold paE;rw [if_pos HC.out,if_neg (fun h=>hn h.1)]
   clear hn;rw [HE.out];go_enter Tryz.func70,Tryz.ntmps70
   go_wp2_with (first|(go_at_call 50;refine (Cm.NG _ _ _ _ (by assumption)).mono ?_;rintro e w' ⟨rfl,rfl⟩))
   go_ret;exact ⟨rfl,HB.out _⟩
 rw [if_neg h2];have q2k:(k != 2)=true:=by simpa using h2
 by_cases h3:k=3
 ·subst h3;rw [if_pos rfl];clear h1 q1k h2 q2k;by_cases hb:b=[]
  ·have q0:(mk b).toList.isEmpty=true:=by rw [xE];exact decide_eq_true hb
   cases y with
   | true =>
    have HE:Hid (unE b true n=1):=if_neg (fun h=>by cases h.2.1);clear hb;rw [HE.out];go_enter Tryz.func70,Tryz.ntmps70
    go_wp2_with (first|(go_at_call 50;refine (Cm.NG _ _ _ _ (by assumption)).mono ?_;rintro e w' ⟨rfl,rfl⟩))
    go_ret;exact ⟨rfl,HB.out _⟩
   | false =>
    by_cases h1:n < 1
    ·have HE:Hid (unE b false n=1):=if_neg (fun h=>by omega);clear hb;rw [HE.out];go_enter Tryz.func70,Tryz.ntmps70
     go_wp2_with (first|(go_at_call 50;refine (Cm.NG _ _ _ _ (by assumption)).mono ?_;rintro e w' ⟨rfl,rfl⟩))
     go_ret;exact ⟨rfl,HB.out _⟩
    by_cases h2:9999 < n
    ·have HE:Hid (unE b false n=1):=if_neg (fun h=>by omega);clear hb;rw [HE.out];go_enter Tryz.func70,Tryz.ntmps70
     go_wp2_with (first|(go_at_call 50;refine (Cm.NG _ _ _ _ (by assumption)).mono ?_;rintro e w' ⟨rfl,rfl⟩))
     go_ret;exact ⟨rfl,HB.out _⟩
    have HE:Hid (unE b false n=0):=if_pos ⟨hb,rfl,by omega,by omega⟩;clear hb;rw [HE.out];go_enter Tryz.func70,Tryz.ntmps70
    go_wp2_with (first|(go_at_call 50;refine (Cm.NG _ _ _ _ (by assumption)).mono ?_;rintro e w' ⟨rfl,rfl⟩))
    go_ret;exact ⟨rfl,HB.out _⟩
  ·have q0:(mk b).toList.isEmpty=false:=by rw [xE];exact decide_eq_false hb
   have HE:Hid (unE b y n=1):=if_neg (fun h=>hb h.1);clear hb;rw [HE.out];go_enter Tryz.func70,Tryz.ntmps70
   go_wp2_with (first|(go_at_call 50;refine (Cm.NG _ _ _ _ (by assumption)).mono ?_;rintro e w' ⟨rfl,rfl⟩))
   go_ret;exact ⟨rfl,HB.out _⟩
 rw [if_neg h3];have q3k:(k != 3)=true:=by simpa using h3
 clear h1 h2 h3;go_enter Tryz.func70,Tryz.ntmps70
 go_wp2_with (first|(go_at_call 50;refine (Cm.NG _ _ _ _ (by assumption)).mono ?_;rintro e w' ⟨rfl,rfl⟩))
 go_ret;exact ⟨rfl,HB.out _⟩
theorem Nv (l:List Ed) (v:Value) (w:World) (h:aP All w v l) (hok:∀f ∈ l,aO f) (hl:l.length<=281474976710656):Calls Tryz.prog 37 #[v] w fun e w'=>e=.returned (iI (kF l))/\Below w.heap.size w w':=by
 have HF:=zZ h;have HOK:=zZ hok;obtain ⟨fa,fk,rfl,hm1,hm2⟩:=h.form;clear h hok;by_cases hbig:256 < l.length
 ·have HR:Hid (kF l=10):=by show _=_;unfold kF;rw [if_pos hbig]
  have hz:(256:Int) < (l.length:Int):=by omega
  go_enter Tryz.func37,Tryz.ntmps37
  go_wp2;go_ret;exact ⟨by rw [HR.out];rfl,Below.refl _ _⟩
 have HR:Hid (kF l=oU l):=by show _=_;unfold kF;rw [if_neg hbig]
 have hz:¬ (256:Int) < (l.length:Int):=by omega
 go_enter Tryz.func37,Tryz.ntmps37
 go_wp2;go_loopg [3] (l.length) (fun g i wr=>∃n:Nat,n<=l.length/\g=l.length - n/\i=iI (n:Nat)/\Hid (Below w.heap.size w wr)/\Hid (oU (l.drop n)=oU l))
 case atStart=>exact ⟨0,Nat.zero_le _,rfl,rfl,Below.refl _ _,rfl⟩
 case round =>
  obtain ⟨n,hn,hgk,rfl,Co,HE⟩:=hrel;by_cases hlt:n < l.length
  ·obtain ⟨b,oo,rfl,hbs,-,hcc⟩:=aP.get (HF.out.Bu Co.out) n hlt;have HFD:=zZ (oW hlt);have HO:=zZ (HOK.out l[n] (List.getElem_mem hlt));generalize l[n]=x at *;obtain ⟨c0,c1,c2,c3,c4⟩:=hcc;have HRW:=zZ (Oo x HO.out wr);have HB2:=Co;go_wp2_with fail
   go_at_call 70
   refine HRW.out.mono ?_;rintro e w5 ⟨rfl,hg⟩;have CF:=zZ (jg HB2.out hg);clear hg HRW HB2 c0 c1 c2 c3 c4;obtain ⟨r,HRV⟩:∃r,Hid (yQ x=r):=⟨_,rfl⟩;rw [HRV.out] at HFD;rw [HRV.out];by_cases hr:r=0
   ·have q1:(r != 0)=false:=by rw [hr];rfl
    have HE2:Hid (oU (l.drop (n+1))=oU l):=by show _=_;rw [←HE.out,HFD.out,if_pos hr]
    clear HE HFD hr;go_wp2;go_roundg (l.length - (n+1))
    case measure=>omega
    case rel=>exact ⟨n+1,by omega,rfl,by first|rfl|go_num|(congr 1;omega),CF.out,HE2.out⟩
   ·have q1:(r != 0)=true:=by simpa using hr
    have HE2:Hid (kF l=r):=by show _=_;rw [HR.out,←HE.out,HFD.out,if_neg hr]
    clear HE HFD hr;go_wp2;go_ret;exact ⟨by rw [HE2.out];rfl,CF.out⟩
  ·have hltz:¬ (n:Int) < (l.length:Int):=by omega
   have HE2:Hid (kF l=0):=by
    show _=_;have e:l.drop n=[]:=List.drop_eq_nil_of_le (by omega);have:=HE.out;rw [e] at this;rw [HR.out,←this];rfl
   go_wp2;go_ret;exact ⟨by rw [HE2.out];rfl,Co.out⟩
end Ex
namespace Ju
open Go.RowKit
open Ac (Row pU dJ dM jF jG DW DU left cu Own tV qL iU jg jf fK)
open Sh (Ot bD bC bK bE EP EW Dt Du member Jj)
open Cm (Ln Cl bH lnv clv bG aC)
theorem zB (a b c:Int) (g:Nat) (w:World) (T:TypeId) (h:w.heap[g]?=some (.cells #[iI a,iI b,iI c] T (0,0))) :
  Calls Tryz.prog 20 #[.slice (some ⟨g,0,none⟩) 3 3] w fun e w'=>e=.returned (iI (orE a (orE b c)))/\w'=w:=by
 obtain ⟨c0,c1,c2⟩:=Ac.cells3 h;clear h;by_cases ha:a=0
 ·subst ha;by_cases hb:b=0
  ·subst hb;have e:orE 0 (orE 0 c)=c:=rfl;rw [e];by_cases hc:c=0
   ·subst hc;go_enter Tryz.func20,Tryz.ntmps20
    go_wp2;go_rounds 4
    go_ret;exact ⟨rfl,rfl⟩
   ·have hc':(c != 0)=true:=by simp [hc]
    go_enter Tryz.func20,Tryz.ntmps20
    go_wp2;go_rounds 3
    go_ret;exact ⟨rfl,rfl⟩
  ·have e:orE 0 (orE b c)=b:=by rw [zu,zq _ hb]
   rw [e];have hb':(b != 0)=true:=by simp [hb]
   go_enter Tryz.func20,Tryz.ntmps20
   go_wp2;go_rounds 2
   go_ret;exact ⟨rfl,rfl⟩
 ·have e:orE a (orE b c)=a:=zq _ ha;rw [e];have ha':(a != 0)=true:=by simp [ha]
  go_enter Tryz.func20,Tryz.ntmps20
  go_wp2;go_rounds 1
  go_ret;exact ⟨rfl,rfl⟩
theorem bL (t:Tb) (m mf me:Value) (w:World) (h:dF w m mf me t) (hz:dG t) (hT:Da.Tab w) :
  Calls Tryz.prog 13 #[.agg #[iI t.plan.mode,iI t.plan.Ay,iI t.plan.AR,iI t.plan.Bb,iI t.plan.AJ,m,mf,me]] w fun e w'=>e=.returned (iI (GN t))/\Below w.heap.size w w':=by
 obtain ⟨ma,mc,fa,fc,ea,ec,rfl,rfl,rfl⟩:=h.form;have HG0:=zZ (iU w (.cells #[iI t.plan.mode,iI t.plan.Ay,iI t.plan.AR,iI t.plan.Bb,iI t.plan.AJ,.slice ma t.plan.rules.length mc,.slice fa t.Bp.length fc,.slice ea t.edits.length ec] 28));have HA0:=zZ (fK w #[iI t.plan.mode,iI t.plan.Ay,iI t.plan.AR,iI t.plan.Bb,iI t.plan.AJ,.slice ma t.plan.rules.length mc,.slice fa t.Bp.length fc,.slice ea t.edits.length ec] 28);have HP:=zZ fun W (hW:Below w.heap.size w W)=>Pl.bL t.plan _ W (h.Bu hW).1;have HF:=zZ fun W (hW:Below w.heap.size w W)=>Fe.bL t.Bp _ W (h.Bu hW).2.1 hz.1.1 hz.1.2 (Cm.gP hT hW);have HE:=zZ fun W (hW:Below w.heap.size w W)=>Ex.bL t.edits _ W (h.Bu hW).2.2 hz.2.1 hz.2.2;rw [show GN t=orE (Pl.kF t.plan) (orE (Fe.kF t.Bp) (Ex.kF t.edits)) from rfl];generalize Pl.kF t.plan=E1 at *;generalize Fe.kF t.Bp=E2 at *;generalize Ex.kF t.edits=E3 at *;clear h hz hT;go_enter Tryz.func13,Tryz.ntmps13
 go_upto_region 1 with fail
 generalize w.alloc (.cells #[iI t.plan.mode,iI t.plan.Ay,iI t.plan.AR,iI t.plan.Bb,iI t.plan.AJ,.slice ma t.plan.rules.length mc,.slice fa t.Bp.length fc,.slice ea t.edits.length ec] 28)=W at *;generalize hp:w.heap.size=p at *;have HD:=zZ (Below.drew (Below.refl W.heap.size W));have HXA:=zZ fun W' (hW:Below W.heap.size W W')=>Pl.iR (tV HA0.out hW);refine Ri.IX (by kernel_rfl) (by kernel_rfl) (by kernel_rfl) (fun Wx=>Below W.heap.size W Wx) (fun kz vs wz=>(fun kx vx wx=>match kx with|0=>vx=pP p 0|1=>vx=.agg #[iI t.plan.mode,iI t.plan.Ay,iI t.plan.AR,iI t.plan.Bb,iI t.plan.AJ,.slice ma t.plan.rules.length mc]|2=>vx=iI E1|3=>vx=pP p 6|4=>vx=.slice fa t.Bp.length fc|5=>vx=iI E2|6=>vx=pP p 7|7=>vx=.slice ea t.edits.length ec|8=>vx=iI E3|9=>(∃g,vx=.slice (some ⟨g,0,none⟩) 3 3/\wx.heap[g]?=some (.cells #[iI E1,iI E2,iI E3] 36 (0,0)))|10=>vx=iI (orE E1 (orE E2 E3))|11=>vx=iI (orE E1 (orE E2 E3))|_=>True:Nat->Value->World->Prop) kz (vs kz) wz) (fun kz=>[kz]) (by kernel_rfl) (fun jz vs iz vz wz hiz hz=>Ri.wI (F:=(fun kx vx wx=>match kx with|0=>vx=pP p 0|1=>vx=.agg #[iI t.plan.mode,iI t.plan.Ay,iI t.plan.AR,iI t.plan.Bb,iI t.plan.AJ,.slice ma t.plan.rules.length mc]|2=>vx=iI E1|3=>vx=pP p 6|4=>vx=.slice fa t.Bp.length fc|5=>vx=iI E2|6=>vx=pP p 7|7=>vx=.slice ea t.edits.length ec|8=>vx=iI E3|9=>(∃g,vx=.slice (some ⟨g,0,none⟩) 3 3/\wx.heap[g]?=some (.cells #[iI E1,iI E2,iI E3] 36 (0,0)))|10=>vx=iI (orE E1 (orE E2 E3))|11=>vx=iI (orE E1 (orE E2 E3))|_=>True:Nat->Value->World->Prop)) jz vs iz vz wz hiz hz) HD.out ⟨⟨rfl,?_⟩,⟨rfl,?_⟩,⟨rfl,?_⟩,⟨rfl,?_⟩,⟨rfl,?_⟩,⟨rfl,?_⟩,⟨rfl,?_⟩,⟨rfl,?_⟩,⟨rfl,?_⟩,⟨rfl,?_⟩,⟨rfl,?_⟩,⟨rfl,?_⟩,trivial⟩ ?_
 ·intro vs Wx A hA hB hpre K hK;have e1:=(hA 1).trans (show _=pP p 0 by kernel_rfl);clear hA hpre;go_simp;exact hK _ _ hB rfl (fun _ _ h=>h)
 ·intro vs Wx A hA hB hpre K hK;have e3:=tT (hA 3) (by kernel_rfl) (hpre.1 rfl);obtain ⟨x0,x1,x2,x3,x4,x5,x6,x7⟩:=HXA.out Wx hB;clear hA hpre;go_simp;exact hK _ _ hB rfl (fun _ _ h=>h)
 ·intro vs Wx A hA hB hpre K hK;have e4:=tT (hA 4) (by kernel_rfl) (hpre.1 rfl);clear hA hpre;go_simp;go_at_call 32
  refine (HP.out _ (jf hp HG0.out hB)).mono ?_;rintro e w3 ⟨rfl,hg⟩;refine hK _ _ (jg hB hg) rfl (fun jz hj hz=>?_);match jz,hj,hz with
  | 0,_,hz=>exact hz
  | 1,_,hz=>exact hz
  | 2,_,hz=>exact hz
  | 3,_,hz=>exact hz
  | 4,_,hz=>exact hz
  | 5,_,hz=>exact hz
  | 6,_,hz=>exact hz
  | 7,_,hz=>exact hz
  | 8,_,hz=>exact hz
  | 9,_,hz=>exact (by obtain ⟨g,h1,h2⟩:=hz;exact ⟨g,h1,tV h2 hg⟩)
  | 10,_,hz=>exact hz
  | 11,_,hz=>exact hz
  | n+12,_,hz=>exact hz
 ·intro vs Wx A hA hB hpre K hK;have e1:=(hA 1).trans (show _=pP p 0 by kernel_rfl);clear hA hpre;go_simp;exact hK _ _ hB rfl (fun _ _ h=>h)
 ·intro vs Wx A hA hB hpre K hK;have e6:=tT (hA 6) (by kernel_rfl) (hpre.1 rfl);obtain ⟨x0,x1,x2,x3,x4,x5,x6,x7⟩:=HXA.out Wx hB;clear hA hpre;go_simp;exact hK _ _ hB rfl (fun _ _ h=>h)
 ·intro vs Wx A hA hB hpre K hK;have e7:=tT (hA 7) (by kernel_rfl) (hpre.1 rfl);clear hA hpre;go_simp;go_at_call 33
  refine (HF.out _ (jf hp HG0.out hB)).mono ?_;rintro e w3 ⟨rfl,hg⟩;refine hK _ _ (jg hB hg) rfl (fun jz hj hz=>?_);match jz,hj,hz with
  | 0,_,hz=>exact hz
  | 1,_,hz=>exact hz
  | 2,_,hz=>exact hz
  | 3,_,hz=>exact hz
  | 4,_,hz=>exact hz
  | 5,_,hz=>exact hz
  | 6,_,hz=>exact hz
  | 7,_,hz=>exact hz
  | 8,_,hz=>exact hz
  | 9,_,hz=>exact (by obtain ⟨g,h1,h2⟩:=hz;exact ⟨g,h1,tV h2 hg⟩)
  | 10,_,hz=>exact hz
  | 11,_,hz=>exact hz
  | n+12,_,hz=>exact hz
 ·intro vs Wx A hA hB hpre K hK;have e1:=(hA 1).trans (show _=pP p 0 by kernel_rfl);clear hA hpre;go_simp;exact hK _ _ hB rfl (fun _ _ h=>h)
 ·intro vs Wx A hA hB hpre K hK;have e9:=tT (hA 9) (by kernel_rfl) (hpre.1 rfl);obtain ⟨x0,x1,x2,x3,x4,x5,x6,x7⟩:=HXA.out Wx hB;clear hA hpre;go_simp;exact hK _ _ hB rfl (fun _ _ h=>h)
 ·intro vs Wx A hA hB hpre K hK;have e10:=tT (hA 10) (by kernel_rfl) (hpre.1 rfl);clear hA hpre;go_simp;go_at_call 34
  refine (HE.out _ (jf hp HG0.out hB)).mono ?_;rintro e w3 ⟨rfl,hg⟩;refine hK _ _ (jg hB hg) rfl (fun jz hj hz=>?_);match jz,hj,hz with
  | 0,_,hz=>exact hz
  | 1,_,hz=>exact hz
  | 2,_,hz=>exact hz
  | 3,_,hz=>exact hz
  | 4,_,hz=>exact hz
  | 5,_,hz=>exact hz
  | 6,_,hz=>exact hz
  | 7,_,hz=>exact hz
  | 8,_,hz=>exact hz
  | 9,_,hz=>exact (by obtain ⟨g,h1,h2⟩:=hz;exact ⟨g,h1,tV h2 hg⟩)
  | 10,_,hz=>exact hz
  | 11,_,hz=>exact hz
  | n+12,_,hz=>exact hz
 ·intro vs Wx A hA hB hpre K hK;have e5:=tT (hA 5) (by kernel_rfl) (hpre.1 rfl);have e8:=tT (hA 8) (by kernel_rfl) (hpre.2.1 rfl);have e11:=tT (hA 11) (by kernel_rfl) (hpre.2.2.1 rfl);clear hA hpre;go_simp;refine hK _ _ (jg hB (iU _ _)) ⟨_,rfl,heap_alloc_new Wx _⟩ (fun jz hj hz=>?_);match jz,hj,hz with
  | 0,_,hz=>exact hz
  | 1,_,hz=>exact hz
  | 2,_,hz=>exact hz
  | 3,_,hz=>exact hz
  | 4,_,hz=>exact hz
  | 5,_,hz=>exact hz
  | 6,_,hz=>exact hz
  | 7,_,hz=>exact hz
  | 8,_,hz=>exact hz
  | 9,hj,_=>exact absurd rfl hj
  | 10,_,hz=>exact hz
  | 11,_,hz=>exact hz
  | n+12,_,hz=>exact hz
 ·intro vs Wx A hA hB hpre K hK;have hx9:(∃g,vs 9=.slice (some ⟨g,0,none⟩) 3 3/\Wx.heap[g]?=some (.cells #[iI E1,iI E2,iI E3] 36 (0,0))):=hpre.1 rfl;obtain ⟨gx9,hv9,hh9⟩:=hx9;have e12:=((hA 12).trans (show _=vs 9 by kernel_rfl)).trans hv9;clear hA hpre;go_simp;go_at_call 20
  refine (zB _ _ _ _ _ _ hh9).mono ?_;rintro e w3 ⟨rfl,rfl⟩;exact hK _ _ hB rfl (fun _ _ h=>h)
 ·intro vs Wx A hA hB hpre K hK;have e13:=tT (hA 13) (by kernel_rfl) (hpre.1 rfl);clear hA hpre;go_simp;exact hK _ _ hB rfl (fun _ _ h=>h)
 ·intro vs Wx hB hF;have hL:vs 11=iI (orE E1 (orE E2 E3)):=hF 11 (by decide);have Cn:=zZ (jf hp HG0.out hB);clear hF hB;simp only [Ri.puts];go_simp;go_wp2_with fail
  go_ret;exact ⟨by first|rfl|(rw [hL])|simp [hL],by first|exact Cn.out|(rw [hp];exact Cn.out)⟩
theorem Nv (t:Tb) (m mf me:Value) (w:World) (h:dF w m mf me t) (hz:dG t) :
  Calls Tryz.prog 14 #[.agg #[iI t.plan.mode,iI t.plan.Ay,iI t.plan.AR,iI t.plan.Bb,iI t.plan.AJ,m,mf,me]] w fun e w'=>e=.returned (iI (GN t))/\Below w.heap.size w w':=by
 obtain ⟨ma,mc,fa,fc,ea,ec,rfl,rfl,rfl⟩:=h.form;have HB0:=zZ (iU w (.cells #[iI t.plan.mode,iI t.plan.Ay,iI t.plan.AR,iI t.plan.Bb,iI t.plan.AJ,.slice ma t.plan.rules.length mc,.slice fa t.Bp.length fc,.slice ea t.edits.length ec] 28));have HA0:=zZ (fK w #[iI t.plan.mode,iI t.plan.Ay,iI t.plan.AR,iI t.plan.Bb,iI t.plan.AJ,.slice ma t.plan.rules.length mc,.slice fa t.Bp.length fc,.slice ea t.edits.length ec] 28);have HP:=zZ fun W (hW:Below w.heap.size w W)=>Pl.Nv t.plan _ W (h.Bu hW).1;have HF:=zZ fun W (hW:Below w.heap.size w W)=>Fe.Nv t.Bp _ W (h.Bu hW).2.1 hz.1.1 hz.1.2;have HE:=zZ fun W (hW:Below w.heap.size w W)=>Ex.Nv t.edits _ W (h.Bu hW).2.2 hz.2.1 hz.2.2;rw [show GN t=orE (Pl.kF t.plan) (orE (Fe.kF t.Bp) (Ex.kF t.edits)) from rfl];generalize Pl.kF t.plan=E1 at *;generalize Fe.kF t.Bp=E2 at *;generalize Ex.kF t.edits=E3 at *;clear h hz;have HS:Hid (∀b,(E1 == 0)=b->orE E1 (orE E2 E3)=if b=true then orE E2 E3 else E1):=fun b hb=>by
  subst hb;unfold orE;by_cases h:E1=0<;>simp [h]
 have HS2:Hid (∀b,(E2 == 0)=b->orE E2 E3=if b=true then E3 else E2):=fun b hb=>by
  subst hb;unfold orE;by_cases h:E2=0<;>simp [h]
 cases t1:(E1 == 0) with
 | false =>
  rw [HS.out _ t1,if_neg (by decide)];clear HS HS2;go_enter Tryz.func14,Tryz.ntmps14
  go_upto_region 1 with fail
  generalize w.alloc (.cells #[iI t.plan.mode,iI t.plan.Ay,iI t.plan.AR,iI t.plan.Bb,iI t.plan.AJ,.slice ma t.plan.rules.length mc,.slice fa t.Bp.length fc,.slice ea t.edits.length ec] 28)=w0 at *;generalize hp:w.heap.size=p at *;obtain ⟨x0,x1,x2,x3,x4,x5,x6,x7⟩:=Pl.iR HA0.out;go_wp2_with fail
  try (go_at_call 35)
  refine (HP.out _ HB0.out).mono ?_;rintro e w1 ⟨rfl,hb1⟩;have HB1:=zZ (jf hp HB0.out hb1);have HA1:=zZ (tV HA0.out hb1);obtain ⟨x0,x1,x2,x3,x4,x5,x6,x7⟩:=Pl.iR HA1.out;clear hb1 HB0 HA0;go_wp2;go_ret;exact ⟨rfl,by first|exact HB1.out|(rw [hp];exact HB1.out)⟩
 | true =>
  rw [HS.out _ t1,if_pos rfl];cases t2:(E2 == 0) with
  | false =>
   rw [HS2.out _ t2,if_neg (by decide)];clear HS HS2;go_enter Tryz.func14,Tryz.ntmps14
   go_upto_region 1 with fail
   generalize w.alloc (.cells #[iI t.plan.mode,iI t.plan.Ay,iI t.plan.AR,iI t.plan.Bb,iI t.plan.AJ,.slice ma t.plan.rules.length mc,.slice fa t.Bp.length fc,.slice ea t.edits.length ec] 28)=w0 at *;generalize hp:w.heap.size=p at *;obtain ⟨x0,x1,x2,x3,x4,x5,x6,x7⟩:=Pl.iR HA0.out;go_wp2_with fail
   try (go_at_call 35)
   refine (HP.out _ HB0.out).mono ?_;rintro e w1 ⟨rfl,hb1⟩;have HB1:=zZ (jf hp HB0.out hb1);have HA1:=zZ (tV HA0.out hb1);obtain ⟨x0,x1,x2,x3,x4,x5,x6,x7⟩:=Pl.iR HA1.out;clear hb1 HB0 HA0;go_wp2_with fail
   try (go_at_call 36)
   refine (HF.out _ HB1.out).mono ?_;rintro e w2 ⟨rfl,hb2⟩;have HB2:=zZ (jf hp HB1.out hb2);have HA2:=zZ (tV HA1.out hb2);obtain ⟨x0,x1,x2,x3,x4,x5,x6,x7⟩:=Pl.iR HA2.out;clear hb2 HB1 HA1;go_wp2;go_ret;exact ⟨rfl,by first|exact HB2.out|(rw [hp];exact HB2.out)⟩
  | true =>
   rw [HS2.out _ t2,if_pos rfl];clear HS HS2;go_enter Tryz.func14,Tryz.ntmps14
   go_upto_region 1 with fail
   generalize w.alloc (.cells #[iI t.plan.mode,iI t.plan.Ay,iI t.plan.AR,iI t.plan.Bb,iI t.plan.AJ,.slice ma t.plan.rules.length mc,.slice fa t.Bp.length fc,.slice ea t.edits.length ec] 28)=w0 at *;generalize hp:w.heap.size=p at *;obtain ⟨x0,x1,x2,x3,x4,x5,x6,x7⟩:=Pl.iR HA0.out;go_wp2_with fail
   try (go_at_call 35)
   refine (HP.out _ HB0.out).mono ?_;rintro e w1 ⟨rfl,hb1⟩;have HB1:=zZ (jf hp HB0.out hb1);have HA1:=zZ (tV HA0.out hb1);obtain ⟨x0,x1,x2,x3,x4,x5,x6,x7⟩:=Pl.iR HA1.out;clear hb1 HB0 HA0;go_wp2_with fail
   try (go_at_call 36)
   refine (HF.out _ HB1.out).mono ?_;rintro e w2 ⟨rfl,hb2⟩;have HB2:=zZ (jf hp HB1.out hb2);have HA2:=zZ (tV HA1.out hb2);obtain ⟨x0,x1,x2,x3,x4,x5,x6,x7⟩:=Pl.iR HA2.out;clear hb2 HB1 HA1;go_wp2_with fail
   try (go_at_call 37)
   refine (HE.out _ HB2.out).mono ?_;rintro e w3 ⟨rfl,hb3⟩;have HB3:=zZ (jf hp HB2.out hb3);have HA3:=zZ (tV HA2.out hb3);obtain ⟨x0,x1,x2,x3,x4,x5,x6,x7⟩:=Pl.iR HA3.out;clear hb3 HB2 HA2;go_wp2;go_ret;exact ⟨rfl,by first|exact HB3.out|(rw [hp];exact HB3.out)⟩
end Ju
namespace Cm
open Go.RowKit
theorem vP {x:Ln} (h:lU x=false):vS x=9:=by simp [vS,h]
theorem vN {x:Ln} (h:lU x=true) (h1:Da.good x.date=false):vS x=7:=by simp [vS,h,h1]
theorem vM {x:Ln} (h:lU x=true) (h1:Da.good x.date=true) (h2:Hq x.units=false):vS x=3:=by simp [vS,h,h1,h2]
theorem vO {x:Ln} (h:lU x=true) (h1:Da.good x.date=true) (h2:Hq x.units=true) (h3:yh x=false):vS x=8:=by simp [vS,h,h1,h2,h3]
theorem vJ {x:Ln} (h:lU x=true) (h1:Da.good x.date=true) (h2:Hq x.units=true) (h3:yh x=true):vS x=0:=by simp [vS,h,h1,h2,h3]
theorem vU (x:Ln) (m:Value) (w:World) (hm:dI All w m x.mods) (hx:bG x) (hT:Da.Tab w) :
  Calls Tryz.prog 73 #[lnv x m] w fun e w'=>e=.returned (iI (vS x))/\Below w.heap.size w w':=by
 obtain ⟨i1,i2,i3,i4,z1,z2,z3⟩:=hx;have HC:=zZ fun w=>lN x.proc 5 5 w (by omega);have HM:=zZ fun o=>xZ m x.mods (w.alloc o) (dI.move hm (Below.moves (iU w o))) z3;have HD:=zZ fun o=>Da.qh x.date (w.alloc o) (gP hT (iU w o)) i1.1 i1.2;have HB:=zZ fun o=>iU w o;have H9:=zZ (@vP x);have H7:=zZ (@vN x);have H3:=zZ (@vM x);have H8:=zZ (@vO x);have H0:=zZ (@vJ x);obtain ⟨a,c,rfl,-,-⟩:=dI.form hm;unfold lU at H9 H7 H3 H8 H0;unfold Hq at H3 H8 H0;unfold yh at H8 H0;clear hm hT i1 i2 i3 i4 z1 z2 z3;generalize vS x=R at *;cases h1:lM x.proc 5 5
 ·rw [h1] at HC;rw [H9.out (by rw [h1];rfl)];clear h1 H9 H7 H3 H8 H0;go_enter Tryz.func73,Tryz.ntmps73
  go_wp2_with (go_at_call 116;refine (HC.out _).mono ?_;rintro e w' ⟨rfl,rfl⟩)
  go_ret;exact ⟨rfl,HB.out _⟩
 cases h2:xQ x.mods
 ·rw [h1] at HC;rw [h2] at HM;rw [H9.out (by rw [h1,h2];rfl)];clear h1 h2 H9 H7 H3 H8 H0;go_enter Tryz.func73,Tryz.ntmps73
  go_wp2_with (first|(go_at_call 116;refine (HC.out _).mono ?_;rintro e w' ⟨rfl,rfl⟩)|(go_at_call 117;refine (HM.out _).mono ?_;rintro e w' ⟨rfl,rfl⟩))
  go_ret;exact ⟨rfl,HB.out _⟩
 rw [h1] at HC;rw [h2] at HM;have hcd:(lM x.proc 5 5 && xQ x.mods)=true:=by rw [h1,h2];rfl
 clear h1 h2;cases h3:Da.good x.date
 ·rw [h3] at HD;rw [H7.out hcd h3];clear hcd h3 H9 H7 H3 H8 H0;go_enter Tryz.func73,Tryz.ntmps73
  go_wp2_with (first|(go_at_call 116;refine (HC.out _).mono ?_;rintro e w' ⟨rfl,rfl⟩)|(go_at_call 117;refine (HM.out _).mono ?_;rintro e w' ⟨rfl,rfl⟩)|(go_at_call 107;refine (HD.out _).mono ?_;rintro e w' ⟨rfl,rfl⟩))
  go_ret;exact ⟨rfl,HB.out _⟩
 rw [h3] at HD;by_cases h4:x.units < 1
 ·have d4:decide (x.units < 1)=true:=decide_eq_true h4;rw [H3.out hcd h3 (by rw [decide_eq_false (by omega)];rfl)];clear hcd h3 H9 H7 H3 H8 H0;go_enter Tryz.func73,Tryz.ntmps73
  go_wp2_with (first|(go_at_call 116;refine (HC.out _).mono ?_;rintro e w' ⟨rfl,rfl⟩)|(go_at_call 117;refine (HM.out _).mono ?_;rintro e w' ⟨rfl,rfl⟩)|(go_at_call 107;refine (HD.out _).mono ?_;rintro e w' ⟨rfl,rfl⟩))
  go_ret;exact ⟨rfl,HB.out _⟩
 have d4:decide (x.units < 1)=false:=decide_eq_false h4;by_cases h5:9999 < x.units
 ·have d5:decide (9999 < x.units)=true:=decide_eq_true h5;rw [H3.out hcd h3 (by rw [decide_eq_false (p:=x.units<=9999) (by omega),Bool.and_false])];clear hcd h3 H9 H7 H3 H8 H0;go_enter Tryz.func73,Tryz.ntmps73
  go_wp2_with (first|(go_at_call 116;refine (HC.out _).mono ?_;rintro e w' ⟨rfl,rfl⟩)|(go_at_call 117;refine (HM.out _).mono ?_;rintro e w' ⟨rfl,rfl⟩)|(go_at_call 107;refine (HD.out _).mono ?_;rintro e w' ⟨rfl,rfl⟩))
  go_ret;exact ⟨rfl,HB.out _⟩
 have d5:decide (9999 < x.units)=false:=decide_eq_false h5;have hu:(decide (1<=x.units) && decide (x.units<=9999))=true:=by rw [decide_eq_true (by omega),decide_eq_true (by omega)];rfl
 have HGB:=zZ fun w=>Ce.qh x.Av w;have HGP:=zZ fun w=>Ce.qh x.prior w;cases h6:Ce.good x.Av
 ·rw [h6] at HGB;rw [H8.out hcd h3 hu (by rw [h6];rfl)];clear hcd h3 hu h6 H9 H7 H3 H8 H0 HGP;go_enter Tryz.func73,Tryz.ntmps73
  go_wp2_with (first|(go_at_call 116;refine (HC.out _).mono ?_;rintro e w' ⟨rfl,rfl⟩)|(go_at_call 117;refine (HM.out _).mono ?_;rintro e w' ⟨rfl,rfl⟩)|(go_at_call 107;refine (HD.out _).mono ?_;rintro e w' ⟨rfl,rfl⟩)|(go_at_call 76;refine (HGB.out _).mono ?_;rintro e w' ⟨rfl,rfl⟩))
  go_ret;exact ⟨rfl,HB.out _⟩
 cases h7:Ce.good x.prior
 ·rw [h6] at HGB;rw [h7] at HGP;rw [H8.out hcd h3 hu (by rw [h6,h7];rfl)];clear hcd h3 hu H9 H7 H3 H8 H0 HGB HGP;go_enter Tryz.func73,Tryz.ntmps73
  go_wp2_with (first|(go_at_call 116;refine (HC.out _).mono ?_;rintro e w' ⟨rfl,rfl⟩)|(go_at_call 117;refine (HM.out _).mono ?_;rintro e w' ⟨rfl,rfl⟩)|(go_at_call 107;refine (HD.out _).mono ?_;rintro e w' ⟨rfl,rfl⟩)|(go_at_call 76;refine (Ce.qh _ _).mono ?_;rintro e w' ⟨rfl,rfl⟩))
  go_ret;exact ⟨rfl,HB.out _⟩
 by_cases h8:x.Av < x.prior
 ·have d8:decide (x.Av < x.prior)=true:=decide_eq_true h8;rw [H8.out hcd h3 hu (by rw [decide_eq_false (by omega),Bool.and_false])];clear hcd h3 hu H9 H7 H3 H8 H0 HGB HGP;go_enter Tryz.func73,Tryz.ntmps73
  go_wp2_with (first|(go_at_call 116;refine (HC.out _).mono ?_;rintro e w' ⟨rfl,rfl⟩)|(go_at_call 117;refine (HM.out _).mono ?_;rintro e w' ⟨rfl,rfl⟩)|(go_at_call 107;refine (HD.out _).mono ?_;rintro e w' ⟨rfl,rfl⟩)|(go_at_call 76;refine (Ce.qh _ _).mono ?_;rintro e w' ⟨rfl,rfl⟩))
  go_ret;exact ⟨rfl,HB.out _⟩
 have d8:decide (x.Av < x.prior)=false:=decide_eq_false h8;rw [H0.out hcd h3 hu (by rw [h6,h7,decide_eq_true (by omega)];rfl)];clear hcd h3 hu H9 H7 H3 H8 H0 HGB HGP;go_enter Tryz.func73,Tryz.ntmps73
 go_wp2_with (first|(go_at_call 116;refine (HC.out _).mono ?_;rintro e w' ⟨rfl,rfl⟩)|(go_at_call 117;refine (HM.out _).mono ?_;rintro e w' ⟨rfl,rfl⟩)|(go_at_call 107;refine (HD.out _).mono ?_;rintro e w' ⟨rfl,rfl⟩)|(go_at_call 76;refine (Ce.qh _ _).mono ?_;rintro e w' ⟨rfl,rfl⟩))
 go_ret;exact ⟨rfl,HB.out _⟩
end Cm
namespace Cm
open Go.RowKit
theorem Ja {n:Int} (h:Da.good n=true):Da.I9 n=Da.yr n:=by simp [Da.I9,h]
theorem fq (v:Value) (ls:List Ln) (w:World) (h:bH All w v ls) (hz:∀x ∈ ls,bG x) (hT:Da.Tab w) :
  Calls Tryz.prog 40 #[v] w fun e w'=>e=.returned (iI (vW ls))/\Below w.heap.size w w':=by
 have HV:=zZ h;have HZ:=zZ hz;have HT:=zZ hT;obtain ⟨a,c,rfl,h1,h2⟩:=bH.form h;clear h hz hT;unfold vW;obtain ⟨y,hy⟩:∃y,y=Da.yr (ls.getD 0 ln0).date:=⟨_,rfl⟩;rw [←hy];have HY:=zZ hy;clear hy;go_enter Tryz.func40,Tryz.ntmps40
 go_wp2;go_step3
 go_wp2;go_step3
 go_wp2;go_loopg [7] (ls.length) (fun g i wr=>∃k:Nat,k<=ls.length/\g=ls.length - k/\i=iI k/\Hid (Below w.heap.size w wr)/\Hid (oU y (ls.drop k)=oU y ls)/\Hid (∀x,ls[0]?=some x->0 < k->vS x=0))
 case atStart=>exact ⟨0,Nat.zero_le _,rfl,rfl,Below.refl _ _,by rfl,fun _ _ h=>absurd h (by omega)⟩
 case round =>
  obtain ⟨k,hk,hg,rfl,HB,HF,H0⟩:=hrel;by_cases hlt:k < ls.length
  ·have hL:=bH.move HV.out (Below.moves HB.out);have hpos:0 < ls.length:=by omega
   obtain ⟨b,o,m,rfl,hx,hc,hr⟩:=bH.get hL k hlt;obtain ⟨b',o',m0,e0,hx0,hc0,-⟩:=bH.get hL 0 hpos;injection e0 with e0;injection e0 with e1 e2;subst e1 e2;have hzk:=HZ.out _ (List.mem_of_getElem? hx);have hz0:=HZ.out _ (List.mem_of_getElem? hx0);have HC:=zZ (vU ls[k] m wr hr hzk (gP HT.out HB.out));have HX:Hid (∀w1,Below wr.heap.size wr w1->w1.cell? ⟨b,o+k * 6+2,none⟩=some (iI ls[k].date)/\w1.cell? ⟨b,o+2,none⟩=some (iI ls[0].date)/\Da.Tab w1):=fun w1 hb=>by
    have hbl:=World.block_lt_of_cell? wr _ hc.1;refine ⟨(hc.of (hb.block _ hbl)).2.2.1,?_,gP (gP HT.out HB.out) hb⟩;have:=(hc0.of (hb.block _ hbl)).2.2.1;simpa using this
   obtain ⟨c0,c1,c2,c3,c4,c5⟩:=hc;obtain ⟨am,cm,rfl,-,-⟩:=dI.form hr;have hik:=hzk.1;have hi0:=hz0.1;obtain ⟨l1,l2⟩:=hik;obtain ⟨l3,l4⟩:=hi0;have HBAD:=zZ (oV y ls k _ hx HF.out);have HYR:=zZ (o8 y ls k _ hx HF.out);have HST:=zZ (o7 y ls k _ hx HF.out);by_cases he:vS ls[k]=0
   ·have hgk:=vT he;have hg0:Da.good ls[0].date=true:=by
     by_cases hk0:k=0
     ·subst hk0;exact hgk
     ·exact vT (H0.out _ hx0 (by omega))
    have hy0:y=Da.yr ls[0].date:=by rw [HY.out,List.getD_eq_getElem?_getD,hx0];rfl
    have H0':Hid (∀x,ls[0]?=some x->0 < k+1->vS x=0):=fun x hx1 _=>by
     by_cases hk0:k=0
     ·subst hk0;rw [hx] at hx1;rw [←Option.some.inj hx1];exact he
     ·exact H0.out x hx1 (by omega)
    rw [he] at HC;have hyk:=Ja hgk;have hy0':=Ja hg0;rw [←hy0] at hy0';clear hy0 hx hx0 hr hL hzk hz0 hc0 HBAD;by_cases hyy:Da.yr ls[k].date=y
    ·have HQ:=zZ (HST.out he hyy);have hbe:(Da.I9 ls[k].date == Da.I9 ls[0].date)=true:=by rw [hyk,hy0',hyy];simp
     clear hyy hyk hy0' hgk hg0 he;go_wp2_with (first|(go_at_call 73;refine (HC.out).mono ?_;rintro e w1 ⟨rfl,hb⟩;obtain ⟨n1,n2,n3⟩:=HX.out _ hb;have HB2:=zZ (jg HB.out hb);have HT1:=zZ n3;clear n3 hb))
     go_quiet (first|(go_at_call 74;refine Calls.quiet_of_same (Da.Jb _ _ HT1.out (by assumption) (by assumption))))
     go_wp2;go_roundg (ls.length - (k+1))
     case rel=>exact ⟨k+1,by omega,rfl,by go_num,jg HB2.out (iY ⟨_,rfl⟩),HQ.out,H0'.out⟩
     case measure=>omega
    ·have HQ:=zZ (HYR.out he hyy);have hbe:(Da.I9 ls[k].date == Da.I9 ls[0].date)=false:=by rw [hyk,hy0'];simpa using hyy
     clear hyy hyk hy0' hgk hg0 he;go_wp2_with (first|(go_at_call 73;refine (HC.out).mono ?_;rintro e w1 ⟨rfl,hb⟩;obtain ⟨n1,n2,n3⟩:=HX.out _ hb;have HB2:=zZ (jg HB.out hb);have HT1:=zZ n3;clear n3 hb))
     go_quiet (first|(go_at_call 74;refine Calls.quiet_of_same (Da.Jb _ _ HT1.out (by assumption) (by assumption))))
     go_wp2;try rw [Exit.noGoto_ret]
     go_ret;exact ⟨by rw [HQ.out];rfl,jg HB2.out (iY ⟨_,rfl⟩)⟩
   ·have HQ:=zZ (HBAD.out he);have hbe:(vS ls[k] != 0)=true:=by simpa using he
    clear hx hx0 hr hL hzk hz0 hc0 HBAD he HX;go_wp2_with (first|(go_at_call 73;refine (HC.out).mono ?_;rintro e w1 ⟨rfl,hb⟩;have HB2:=zZ (jg HB.out hb);clear hb))
    try rw [Exit.noGoto_ret]
    go_ret;exact ⟨by rw [HQ.out];rfl,HB2.out⟩
  ·have HQ:=zZ (oZ y ls k (by omega) HF.out);go_wp2;try rw [Exit.noGoto_ret]
   go_ret;exact ⟨by rw [HQ.out];rfl,HB.out⟩
end Cm
end Go.Proofs.YtfbfeoplldjbpaaGreatDoor
