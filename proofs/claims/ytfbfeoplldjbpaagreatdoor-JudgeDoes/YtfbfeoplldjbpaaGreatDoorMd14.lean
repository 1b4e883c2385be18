/-
  Texts put together (merge.py): PChe, PRCh, PWgt, YPlan, JSpec.
-/
import Derived.Test.YtfbfeoplldjbpaaGreatDoorMd13
set_option linter.unusedSimpArgs false
set_option linter.unusedVariables false
set_option maxHeartbeats 16000000
set_option maxRecDepth 100000
namespace Go.Proofs.YtfbfeoplldjbpaaGreatDoor
namespace Pl
open Go.RowKit
open Wo (Wd jI jQ tV qL)
theorem fH {p:Ru->Bool} (l:List Ru) (k:Nat) (c:Ru) (h:l[k]?=some c) (hk:(l.take k).all p=true) (hc:p c=true):(l.take (k+1)).all p=true:=by
 rw [List.take_add_one,h];simp_all
theorem fC {p:Ru->Bool} (l:List Ru) (k:Nat) (c:Ru) (h:l[k]?=some c) (hc:p c=false):l.all p=false:=by
 rw [List.all_eq_false];exact ⟨c,List.mem_of_getElem? h,by simp [hc]⟩
theorem bL (p:Pn) (m:Value) (w:World) (h:bY All w m p.rules) :
  Calls Tryz.prog 32 #[pnv p m] w fun e w'=>e=.returned (iI (kF p))/\Below w.heap.size w w':=by
 have hb:=iU w (.cells #[iI p.mode,iI p.Ay,iI p.AR,iI p.Bb,iI p.AJ,m] 24);have HB:=zZ hb;have HX:=zZ (heap_alloc_new w (.cells #[iI p.mode,iI p.Ay,iI p.AR,iI p.Bb,iI p.AJ,m] 24));have HRu:=zZ (h.Bu hb);have HLM:=zZ fun W=>kL p m W;obtain ⟨ma,mc,rfl,hm1,hm2,hm3⟩:=h.form;have hm3:p.rules.length<=281474976710656:=hm3;obtain ⟨x0,x1,x2,x3,x4,x5⟩:=jU HX.out;have HP:Hid (Bj p=((decide (p.mode=0) || decide (p.mode=1)) && (decide (p.rules.length<=64) && (vI p && p.rules.all DZ)))):=rfl;have HE:Hid (kF p=if Bj p=true then 0 else 15):=rfl;clear hb h;generalize kF p=R at *;generalize Bj p=PB at *;generalize vI p=LB at *;by_cases c1:p.mode=0 ∨ p.mode=1
 case neg =>
  have hPB:PB=false:=by rw [HP.out,decide_eq_false (show ¬ p.mode=0 by omega),decide_eq_false (show ¬ p.mode=1 by omega)];rfl
  have Bn:Hid (R=15):=by show _=_;rw [HE.out,hPB];rfl
  have b0:(p.mode != 0)=true:=by simp;omega
  have b1:(p.mode != 1)=true:=by simp;omega
  clear HP HE HRu HLM hPB c1;go_enter Tryz.func32,Tryz.ntmps32
  go_wp2;go_ret;exact ⟨by rw [Bn.out];rfl,HB.out⟩
 case pos =>
 have HP2:Hid (PB=(decide (p.rules.length<=64) && (LB && p.rules.all DZ))):=by
  show _=_;rw [HP.out];rcases c1 with e|e<;>rw [e]<;>simp
 clear HP;cases LB
 ·have hPB:PB=false:=by rw [HP2.out];simp
  have Bn:Hid (R=15):=by show _=_;rw [HE.out,hPB];rfl
  clear HP2 HE HRu hPB;rcases c1 with c1|c1
  ·have b0:(p.mode != 0)=false:=by simp;omega
   clear c1;go_enter Tryz.func32,Tryz.ntmps32
   go_wp2_with (first|(go_at_call 62;refine (HLM.out _).mono ?_;rintro e w1 ⟨rfl,hb1⟩;have HB1:=zZ hb1;clear hb1))
   go_ret;exact ⟨by rw [Bn.out];rfl,jg HB.out HB1.out⟩
  ·have b0:(p.mode != 0)=true:=by simp;omega
   have b1:(p.mode != 1)=false:=by simp;omega
   clear c1;go_enter Tryz.func32,Tryz.ntmps32
   go_wp2_with (first|(go_at_call 62;refine (HLM.out _).mono ?_;rintro e w1 ⟨rfl,hb1⟩;have HB1:=zZ hb1;clear hb1))
   go_ret;exact ⟨by rw [Bn.out];rfl,jg HB.out HB1.out⟩
 have hmode:((p.mode != 0)=false) ∨ ((p.mode != 0)=true/\(p.mode != 1)=false):=by
  rcases c1 with c1|c1
  ·left;simp;omega
  ·right;constructor<;>simp<;>omega
 clear c1;by_cases c2:64 < p.rules.length
 ·have hPB:PB=false:=by rw [HP2.out,decide_eq_false (by omega)];rfl
  have Bn:Hid (R=15):=by show _=_;rw [HE.out,hPB];rfl
  clear HP2 HE HRu hPB;rcases hmode with b0|⟨b0,b1⟩
  all_goals
   go_enter Tryz.func32,Tryz.ntmps32
   go_wp2_with fail
   go_at_call 62
   refine (HLM.out _).mono ?_;rintro e w1 ⟨rfl,hb1⟩;obtain ⟨z0,z1,z2,z3,z4,z5⟩:=jU (tV HX.out hb1);have HB1:=zZ hb1;clear hb1;go_wp2;go_ret;exact ⟨by rw [Bn.out];rfl,jg HB.out HB1.out⟩
 have HP3:Hid (PB=p.rules.all DZ):=by show _=_;rw [HP2.out,decide_eq_true (by omega)];simp
 clear HP2;rcases hmode with b0|⟨b0,b1⟩
 all_goals
  go_enter Tryz.func32,Tryz.ntmps32
  go_wp2_with fail
  go_at_call 62
  refine (HLM.out _).mono ?_;rintro e w1 ⟨rfl,hb1⟩;obtain ⟨z0,z1,z2,z3,z4,z5⟩:=jU (tV HX.out hb1);have HB1:=zZ (jg HB.out hb1);have HR1:=zZ (HRu.out.Bu hb1);have HW0:=zZ (Below.refl w1.heap.size w1);clear hb1 HB HX HRu HLM x0 x1 x2 x3 x4 x5;go_wp2;go_loopg [27] (p.rules.length) (fun g i wr=>∃n:Nat,n<=p.rules.length/\g=p.rules.length - n/\i=iI n/\Hid (Below w1.heap.size w1 wr)/\Hid ((p.rules.take n).all DZ=true))
  case atStart=>exact ⟨0,Nat.zero_le _,rfl,rfl,HW0.out,rfl⟩
  case round =>
   clear HW0 z0 z1 z2 z3 z4 z5;obtain ⟨n,hn,hgk,rfl,Cv,HA⟩:=hrel;by_cases hlt:n < p.rules.length
   ·obtain ⟨b,o,kv,uv,sv,rfl,hbs,hx,hcc,hin⟩:=bY.get (HR1.out.Bu Cv.out) n hlt;obtain ⟨y0,y1,y2,y3,y4,y5,y6,y7⟩:=hcc;obtain ⟨-,-,-,hk1,hk2,hk3⟩:=id hin;obtain ⟨ka,kc,rfl,-,-⟩:=hk1.form;obtain ⟨ua,uc,rfl,-,-⟩:=hk2.form;obtain ⟨sa,sc,rfl,-,-,-⟩:=hk3.form;have hbz:=iU wr (.cells #[iI p.rules[n].rank,iI p.rules[n].BS.kind,.string (mk p.rules[n].BS.lo),.string (mk p.rules[n].BS.hi),iI p.rules[n].BS.n,.slice ka p.rules[n].BS.kids.length kc,.slice ua p.rules[n].Ct.length uc,.slice sa p.rules[n].sets.length sc] 82);have HC:=zZ (kM p.rules[n] _ _ _ _ (hin.move (Below.moves hbz)));have HBz:=zZ (jg Cv.out hbz);have HT:=zZ fun h=>fH (p:=DZ) p.rules n _ hx HA.out h;have HN:=zZ fun h=>fC (p:=DZ) p.rules n _ hx h;clear hx hin hk1 hk2 hk3 hbz;generalize p.rules[n]=ru at *;cases hq:DZ ru
    ·rw [hq] at HC;have HN2:=zZ (HN.out hq);clear hq HT HN;go_wp2_with (go_at_call 63;refine HC.out.mono ?_;rintro e w3 ⟨rfl,hb3⟩;have HB3:=zZ hb3;clear hb3)
     go_ret;exact ⟨by rw [HE.out,HP3.out,HN2.out];rfl,jg HB1.out (jg HBz.out HB3.out)⟩
    ·rw [hq] at HC;have HT2:=zZ (HT.out hq);clear hq HT HN;go_wp2_with (go_at_call 63;refine HC.out.mono ?_;rintro e w3 ⟨rfl,hb3⟩;have HB3:=zZ hb3;clear hb3)
     go_roundg (p.rules.length - (n+1))
     case rel=>exact ⟨n+1,by omega,rfl,by go_num,jg HBz.out HB3.out,HT2.out⟩
     case measure=>omega
   ·have hall:p.rules.take n=p.rules:=List.take_of_length_le (by omega);rw [hall] at HA;clear hall;go_wp2;go_ret;exact ⟨by rw [HE.out,HP3.out,HA.out];rfl,jg HB1.out Cv.out⟩
end Pl
namespace Pl
open Go.RowKit
open Wo (Wd jI jQ tV qL)
theorem KC {p:Ru->Bool} (l:List Ru) (k:Nat) (c:Ru) (h:l[k]?=some c) (hk:(l.take k).all p=true):(l.take (k+1)).all p=p c:=by
 rw [List.take_add_one,h];simp_all
theorem KD {p:Ru->Bool} (l:List Ru) (k:Nat) (h:(l.take k).all p=false):l.all p=false:=by
 rw [List.all_eq_false] at h ⊢;obtain ⟨x,hx,hp⟩:=h;exact ⟨x,List.mem_of_mem_take hx,hp⟩
theorem Nv (p:Pn) (m:Value) (w:World) (h:bY All w m p.rules) :
  Calls Tryz.prog 35 #[pnv p m] w fun e w'=>e=.returned (iI (kF p))/\Below w.heap.size w w':=by
 have hb:=iU w (.cells #[iI p.mode,iI p.Ay,iI p.AR,iI p.Bb,iI p.AJ,m] 24);have HB:=zZ hb;have HX:=zZ (heap_alloc_new w (.cells #[iI p.mode,iI p.Ay,iI p.AR,iI p.Bb,iI p.AJ,m] 24));have HRu:=zZ (h.Bu hb);have HG1:=zZ fun W=>NQ p.Ay W;have HG4:=zZ fun W=>NQ p.AJ W;obtain ⟨ma,mc,rfl,hm1,hm2,hm3⟩:=h.form;have hm3:p.rules.length<=281474976710656:=hm3;obtain ⟨x0,x1,x2,x3,x4,x5⟩:=jU HX.out;obtain ⟨Q1,hQ1⟩:∃Q1,Q1=(((p.mode == 0) || (p.mode == 1)) && decide (p.rules.length<=64)):=⟨_,rfl⟩;obtain ⟨Q2,hQ2⟩:∃Q2,Q2=((Q1 && qg p.Ay) && qg p.AJ):=⟨_,rfl⟩;obtain ⟨Q3,hQ3⟩:∃Q3,Q3=((((Q2 && decide (p.Ay<=p.AR)) && decide (p.AR<=p.AJ)) && decide (p.Ay<=p.Bb)) && decide (p.Bb<=p.AJ)):=⟨_,rfl⟩;have HP:Hid (Bj p=(Q3 && p.rules.all DZ)):=by
  show _=_;rw [hQ3,hQ2,hQ1,show (p.mode == 0)=decide (p.mode=0) from rfl,show (p.mode == 1)=decide (p.mode=1) from rfl];unfold Bj vI;simp only [Bool.and_assoc]
 have HE:Hid (kF p=if Bj p=true then 0 else 15):=rfl;have HQ1:=zZ hQ1;have HQ2:=zZ hQ2;have HQ3:=zZ hQ3;have hl6:decide ((p.rules.length:Int)<=64)=decide (p.rules.length<=64):=decide_eq_decide.2 (by omega);clear hb h hQ1 hQ2 hQ3;generalize kF p=R at *;generalize Bj p=PB at *;go_enter Tryz.func35,Tryz.ntmps35
 go_upto_region 1 with fail
 generalize w.alloc (.cells #[iI p.mode,iI p.Ay,iI p.AR,iI p.Bb,iI p.AJ,.slice ma p.rules.length mc] 24)=W0 at *;generalize hp:w.heap.size=a0 at *;go_cut [3] (fun s3 wx=>s3=.bool Q1/\wx=W0)
 case first =>
  clear HQ2 HQ3 HP HE HRu HG1 HG4;have HL:=zZ hl6;clear hl6;generalize hg6:decide (p.rules.length<=64)=G6 at *;generalize hg0:(p.mode == 0)=M0 at *;generalize hg1:(p.mode == 1)=M1 at *;clear hg6;have hl6:=HL.out;clear HL;cases M0<;>cases M1<;>cases G6
  all_goals
   go_wp2;go_meet
   exact ⟨by rw [HQ1.out]<;>rfl,rfl⟩
 case rest =>
  obtain ⟨rfl,rfl⟩:=hcut;clear hl6 HQ1;go_upto_region 2 with fail
  go_cut [3] (fun s3 wx=>s3=.bool Q2/\wx=wc)
  case first =>
   clear HQ3 HP HE HRu;generalize qg p.Ay=GA at *;generalize qg p.AJ=GB at *;cases Q1<;>cases GA<;>cases GB
   all_goals
    go_wp2_with (first|(go_at_call_of 52 (iI p.Ay);refine (HG1.out _).mono ?_;rintro e w1 ⟨rfl,rfl⟩)|(go_at_call_of 52 (iI p.AJ);refine (HG4.out _).mono ?_;rintro e w1 ⟨rfl,rfl⟩))
    go_meet
    exact ⟨by rw [HQ2.out]<;>rfl,rfl⟩
  case rest =>
   obtain ⟨rfl,rfl⟩:=hcut;clear HQ2 HG1 HG4;go_upto_region 3 with fail
   go_cut [3] (fun s3 wx=>s3=.bool Q3/\wx=wc)
   case first =>
    clear HP HE HRu;generalize hg1:decide (p.Ay<=p.AR)=D1 at *;generalize hg2:decide (p.AR<=p.AJ)=D2 at *;generalize hg3:decide (p.Ay<=p.Bb)=D3 at *;generalize hg4:decide (p.Bb<=p.AJ)=D4 at *;cases Q2
    ·go_wp2;go_meet
     exact ⟨by rw [HQ3.out]<;>rfl,rfl⟩
    cases D1
    ·go_wp2;go_meet
     exact ⟨by rw [HQ3.out]<;>rfl,rfl⟩
    cases D2
    ·go_wp2;go_meet
     exact ⟨by rw [HQ3.out]<;>rfl,rfl⟩
    cases D3
    ·go_wp2;go_meet
     exact ⟨by rw [HQ3.out]<;>rfl,rfl⟩
    cases D4
    all_goals
     go_wp2;go_meet
     exact ⟨by rw [HQ3.out]<;>rfl,rfl⟩
   case rest =>
    obtain ⟨rfl,rfl⟩:=hcut;clear HQ3;have HW0:=zZ (Below.refl wc.heap.size wc);have HQ0:Hid (Q3=(Q3 && (p.rules.take 0).all DZ)):=by show _=_;simp
    go_wp2;go_loopg [3,4] (p.rules.length) (fun g q i wr=>∃(n:Nat) (Q:Bool),n<=p.rules.length/\g=p.rules.length - n/\q=.bool Q/\i=iI n/\Hid (Below wc.heap.size wc wr)/\Hid (Q=(Q3 && (p.rules.take n).all DZ)))
    case atStart=>exact ⟨0,Q3,Nat.zero_le _,rfl,rfl,rfl,HW0.out,HQ0.out⟩
    case round =>
     clear HW0 HQ0 x0 x1 x2 x3 x4 x5;obtain ⟨n,Q,hn,hgk,rfl,rfl,Cv,HA⟩:=hrel;obtain ⟨x0,x1,x2,x3,x4,x5⟩:=jU (tV HX.out Cv.out);have Cq:Hid (Below a0 w wr):=jf hp HB.out Cv.out;cases Q with
     | false =>
      have hPB:PB=false:=by
       rw [HP.out];have h:=HA.out;cases Q3
       ·rfl
       ·rw [KD p.rules n (by simpa using h.symm)];rfl
      have Bn:Hid (R=15):=by show _=_;rw [HE.out,hPB];rfl
      clear hPB HA;by_cases hlt:n < p.rules.length
      iterate 2
       ·go_wp2;go_ret;exact ⟨by rw [Bn.out]<;>rfl,by first|exact Cq.out|(rw [hp];exact Cq.out)⟩
     | true =>
      have hQ:Q3=true/\(p.rules.take n).all DZ=true:=by
       have h:=HA.out.symm;rwa [Bool.and_eq_true] at h
      obtain ⟨rfl,hta⟩:=hQ;by_cases hlt:n < p.rules.length
      ·obtain ⟨b,o,kv,uv,sv,rfl,hbs,hx,hcc,hin⟩:=bY.get (HRu.out.Bu Cv.out) n hlt;obtain ⟨y0,y1,y2,y3,y4,y5,y6,y7⟩:=hcc;obtain ⟨-,-,-,hk1,hk2,hk3⟩:=id hin;obtain ⟨ka,kc,rfl,-,-⟩:=hk1.form;obtain ⟨ua,uc,rfl,-,-⟩:=hk2.form;obtain ⟨sa,sc,rfl,-,-,-⟩:=hk3.form;have HC:=zZ (Nz p.rules[n] _ _ _ _ hin);have HT:Hid (DZ p.rules[n]=(true && (p.rules.take (n+1)).all DZ)):=by show _=_;rw [KC p.rules n _ hx hta,Bool.true_and]
       clear hx hin hk1 hk2 hk3 hta HA;generalize p.rules[n]=ru at *;generalize DZ ru=RB at *;go_wp2_with (go_at_call 67;refine HC.out.mono ?_;rintro e w3 ⟨rfl,hb3⟩;have HB3:=zZ hb3;clear hb3)
       go_roundg (p.rules.length - (n+1))
       case rel=>exact ⟨n+1,RB,by omega,rfl,rfl,by go_num,jg Cv.out HB3.out,HT.out⟩
       case measure=>omega
      ·have hall:p.rules.take n=p.rules:=List.take_of_length_le (by omega);rw [hall] at hta;have hPB:PB=true:=by rw [HP.out,hta];rfl
       have Bn:Hid (R=0):=by show _=_;rw [HE.out,hPB];rfl
       clear hPB HA hta hall;go_wp2;go_ret;exact ⟨by rw [Bn.out]<;>rfl,by first|exact Cq.out|(rw [hp];exact Cq.out)⟩
end Pl
namespace Pl
open Go.RowKit
open Wo (Wd jI jQ tV qL)
theorem lJ (f:Nat) (c:Cd):lF (f+1) c=1+(c.kids.map (lF f)).sum:=by cases c;rfl
theorem lK (f:Nat) (l:List Cd) (k:Nat) (t:Cd) (hx:l[k]?=some t):((l.take (k+1)).map (lF f)).sum=((l.take k).map (lF f)).sum+lF f t:=by
 rw [List.take_add_one,hx];simp
theorem lI (l:List Ru) (k:Nat) (t:Ru) (hx:l[k]?=some t):((l.take (k+1)).map lH).sum=((l.take k).map lH).sum+lH t:=by
 rw [List.take_add_one,hx];simp
def CwV (M:Int) (c:Cd) (n:Int):Prop:=1<=n/\n<=M+562949953421312/\(n<=M->∀f,(lF f c:Int)<=n)
theorem mF (D M:Int) (hD0:0<=D) (hD:D<=25) (hM0:0<=M) (hM:M<=600)
  (IH:1<=D->∀(N:Int),0<=N->N<=600->∀(c:Cd) (m:Value) (w:World),aX All w m c.kids->Ok1 c->Calls Tryz.prog 38 #[cdv c m,iI N,iI (D - 1)] w fun e w'=>(∃n,e=.returned (iI n)/\CwV N c n)/\Below w.heap.size w w')
  (c:Cd) (m:Value) (w:World) (hK:aX All w m c.kids) (ho:Ok1 c) :
  Calls Tryz.prog 38 #[cdv c m,iI M,iI D] w fun e w'=>(∃n,e=.returned (iI n)/\CwV M c n)/\Below w.heap.size w w':=by
 have hb:=iU w (.cells #[iI c.kind,.string (mk c.lo),.string (mk c.hi),iI c.n,m] 79);have HB:=zZ hb;have HX:=zZ (heap_alloc_new w (.cells #[iI c.kind,.string (mk c.lo),.string (mk c.hi),iI c.n,m] 79));have HK:=zZ (hK.Bu hb);obtain ⟨a,k,rfl,h1,h2⟩:=hK.form;obtain ⟨x0,x1,x2,x3,x4⟩:=jv HX.out;have hbig:c.kids.length<=281474976710656:=ho.2.2.2.2;have z1:(mk c.lo).size<=281474976710656:=by rw [xM];exact ho.2.2.1
 have z2:(mk c.hi).size<=281474976710656:=by rw [xM];exact ho.2.2.2.1
 clear hK hb ho;go_enter Tryz.func38,Tryz.ntmps38
 go_upto_region 1 with fail
 generalize w.alloc (.cells #[iI c.kind,.string (mk c.lo),.string (mk c.hi),iI c.n,.slice a c.kids.length k] 79)=W at *;generalize hp:w.heap.size=p at *;have HW0:=zZ (Below.refl W.heap.size W);go_wp2;go_loopg [7,8] (c.kids.length) (fun g q i wr=>∃(n:Nat) (Q:Int),n<=c.kids.length/\g=c.kids.length - n/\q=iI Q/\i=iI n/\1<=Q/\Q<=M+562949953421312/\Hid (Below W.heap.size W wr)/\Hid (Q<=M->∀f,((1+((c.kids.take n).map (lF f)).sum:Nat):Int)<=Q))
 case atStart=>exact ⟨0,_,Nat.zero_le _,rfl,rfl,rfl,by omega,by omega,HW0.out,fun _ f=>by simp;omega⟩
 case round =>
  clear HW0 x0 x1 x2 x3 x4 z1 z2;obtain ⟨n,Q,hn,hgk,rfl,rfl,hQ1,hQ2,Cv,HA⟩:=hrel;obtain ⟨x0,x1,x2,x3,x4⟩:=jv (tV HX.out Cv.out);have Cq:Hid (Below p w wr):=jf hp HB.out Cv.out;by_cases hlt:n < c.kids.length
  case neg =>
   have Bn:Hid (CwV M c Q):=⟨hQ1,hQ2,fun h f=>by
    cases f with
    | zero=>show ((0:Nat):Int)<=Q;omega
    | succ f =>
     have:=HA.out h f;rw [List.take_of_length_le (by omega)] at this;rw [lJ];exact this⟩
   have hlt':¬ (n:Int) < (c.kids.length:Int):=by omega
   clear HA;go_wp2;go_ret;exact ⟨⟨Q,rfl,Bn.out⟩,by first|exact Cq.out|(rw [hp];exact Cq.out)⟩
  by_cases hQM:Q<=M
  case neg =>
   have Bn:Hid (CwV M c Q):=⟨hQ1,hQ2,fun h=>absurd h hQM⟩;have d1:decide (Q<=M)=false:=decide_eq_false hQM;clear HA;go_wp2;go_ret;exact ⟨⟨Q,rfl,Bn.out⟩,by first|exact Cq.out|(rw [hp];exact Cq.out)⟩
  have d1:decide (Q<=M)=true:=decide_eq_true hQM;by_cases hD1:D=0
  ·subst hD1;have Bn:Hid (CwV M c (M+1)):=⟨by omega,by omega,fun h=>absurd h (by omega)⟩;clear HA IH;go_wp2;go_ret;exact ⟨⟨M+1,rfl,Bn.out⟩,by first|exact Cq.out|(rw [hp];exact Cq.out)⟩
  have bD:(D == 0)=false:=by simpa using hD1
  obtain ⟨b,o,mv,rfl,hbs,hx,hcc,hkk,hok⟩:=aX.get (HK.out.Bu Cv.out) n hlt;obtain ⟨y0,y1,y2,y3,y4⟩:=hcc;obtain ⟨ma,mc,rfl,-,-⟩:=hkk.form;have HC:=zZ (IH (by omega) (M - Q) (by omega) (by omega) c.kids[n] _ wr hkk hok);have HSN:=zZ fun f=>lK f c.kids n _ hx;have hD1':1<=D:=by omega
  clear hx hkk hok IH;generalize c.kids[n]=kd at *;go_wp2_with (go_at_call 38;refine HC.out.mono ?_;rintro e w3 ⟨⟨R,rfl,hR⟩,hb3⟩;have HB3:=zZ hb3;have HR3:=zZ hR;obtain ⟨hR1,hR2,-⟩:=hR;clear hb3)
  go_roundg (c.kids.length - (n+1))
  case rel=>exact ⟨n+1,Q+R,by omega,rfl,by go_num,by go_num,by omega,by omega,jg Cv.out HB3.out,fun h f=>by
   have h1:=HR3.out.2.2 (by omega) f;have h2:=HA.out hQM f;rw [HSN.out f];omega⟩
  case measure=>omega
theorem mD:∀(d:Nat) (D M:Int),D=d->d<=25->0<=M->M<=600->∀(c:Cd) (m:Value) (w:World),aX All w m c.kids->Ok1 c →
  Calls Tryz.prog 38 #[cdv c m,iI M,iI D] w fun e w'=>(∃n,e=.returned (iI n)/\CwV M c n)/\Below w.heap.size w w':=by
 intro d;induction d with
 | zero=>intro D M hD _ h0 h1 c m w hK ho;exact mF D M (by omega) (by omega) h0 h1 (fun h=>by omega) c m w hK ho
 | succ d ih=>intro D M hD hd h0 h1 c m w hK ho;exact mF D M (by omega) (by omega) h0 h1 (fun _ N hN0 hN1 c m w hK ho=>ih (D - 1) N (by omega) (by omega) hN0 hN1 c m w hK ho) c m w hK ho
theorem I8 (Q:Int) (n:Nat) (R:Int) (h0:0<=Q) (h1:Q<=300) (h2:n<=281474976710656) (h3:1<=R) (h4:R<=300+562949953421312):IntKind.i64.wrap (IntKind.i64.wrap (IntKind.i64.wrap (Q+1)+(n:Int))+R)=Q+1+(n:Int)+R:=by
 have e1:IntKind.i64.wrap (Q+1)=Q+1:=by rw [IntKind.wrap_i64];omega
 have e2:IntKind.i64.wrap (Q+1+(n:Int))=Q+1+(n:Int):=by rw [IntKind.wrap_i64];omega
 have e3:IntKind.i64.wrap (Q+1+(n:Int)+R)=Q+1+(n:Int)+R:=by rw [IntKind.wrap_i64];omega
 rw [e1,e2,e3]
theorem Ic (p:Pn) (m:Value) (w:World) (h:bY All w m p.rules) :
  Calls Tryz.prog 17 #[pnv p m,iI 300] w fun e w'=>(∃n:Int,e=.returned (iI n)/\(n<=300->(lG p:Int)<=n))/\Below w.heap.size w w':=by
 have hb:=iU w (.cells #[iI p.mode,iI p.Ay,iI p.AR,iI p.Bb,iI p.AJ,m] 24);have HB:=zZ hb;have HX:=zZ (heap_alloc_new w (.cells #[iI p.mode,iI p.Ay,iI p.AR,iI p.Bb,iI p.AJ,m] 24));have HRu:=zZ (h.Bu hb);obtain ⟨ma,mc,rfl,hm1,hm2,hm3⟩:=h.form;have hm3:p.rules.length<=281474976710656:=hm3;obtain ⟨x0,x1,x2,x3,x4,x5⟩:=jU HX.out;have HCP:Hid (lG p=(p.rules.map lH).sum):=rfl;clear hb h;go_enter Tryz.func17,Tryz.ntmps17
 go_upto_region 1 with fail
 generalize w.alloc (.cells #[iI p.mode,iI p.Ay,iI p.AR,iI p.Bb,iI p.AJ,.slice ma p.rules.length mc] 24)=W at *;generalize hp:w.heap.size=a0 at *;have HW0:=zZ (Below.refl W.heap.size W);go_wp2;go_loopg [5,6] (p.rules.length) (fun g q i wr=>∃(n:Nat) (Q:Int),n<=p.rules.length/\g=p.rules.length - n/\q=iI Q/\i=iI n/\0<=Q/\Q<=4611686018427387904/\Hid (Below W.heap.size W wr)/\Hid (Q<=300->((((p.rules.take n).map lH).sum:Nat):Int)<=Q))
 case atStart=>exact ⟨0,0,Nat.zero_le _,rfl,rfl,rfl,by omega,by omega,HW0.out,fun _=>by simp⟩
 case round =>
  clear HW0 x0 x1 x2 x3 x4 x5;obtain ⟨n,Q,hn,hgk,rfl,rfl,hQ1,hQ2,Cv,HA⟩:=hrel;obtain ⟨x0,x1,x2,x3,x4,x5⟩:=jU (tV HX.out Cv.out);have Cq:Hid (Below a0 w wr):=jf hp HB.out Cv.out;by_cases hlt:n < p.rules.length
  case neg =>
   have Bn:Hid (Q<=300->(lG p:Int)<=Q):=fun h=>by
    have:=HA.out h;rw [List.take_of_length_le (by omega)] at this;rw [HCP.out];exact this
   have hlt':¬ (n:Int) < (p.rules.length:Int):=by omega
   clear HA;go_wp2;go_ret;exact ⟨⟨Q,rfl,Bn.out⟩,by first|exact Cq.out|(rw [hp];exact Cq.out)⟩
  by_cases hQM:Q<=300
  case neg =>
   have Bn:Hid (Q<=300->(lG p:Int)<=Q):=fun h=>absurd h hQM;have d1:decide (Q<=300)=false:=decide_eq_false hQM;clear HA;go_wp2;go_ret;exact ⟨⟨Q,rfl,Bn.out⟩,by first|exact Cq.out|(rw [hp];exact Cq.out)⟩
  have d1:decide (Q<=300)=true:=decide_eq_true hQM;obtain ⟨b,o,kv,uv,sv,rfl,hbs,hx,hcc,hin⟩:=bY.get (HRu.out.Bu Cv.out) n hlt;obtain ⟨y0,y1,y2,y3,y4,y5,y6,y7⟩:=hcc;obtain ⟨-,hok,hul,hk1,hk2,hk3⟩:=hin;obtain ⟨ka,kc,rfl,-,-⟩:=hk1.form;obtain ⟨ua,uc,rfl,hu1,hu2⟩:=hk2.form;obtain ⟨sa,sc,rfl,hs1,hs2,hs3⟩:=hk3.form;have HSN:=zZ (lI p.rules n _ hx);have HA2:=zZ (HA.out hQM);clear hx HA;generalize p.rules[n]=ru at *;have hbz:=iU wr (.cells #[iI ru.rank,iI ru.BS.kind,.string (mk ru.BS.lo),.string (mk ru.BS.hi),iI ru.BS.n,.slice ka ru.BS.kids.length kc,.slice ua ru.Ct.length uc,.slice sa ru.sets.length sc] 82);have HZ:=zZ (heap_alloc_new wr (.cells #[iI ru.rank,iI ru.BS.kind,.string (mk ru.BS.lo),.string (mk ru.BS.hi),iI ru.BS.n,.slice ka ru.BS.kids.length kc,.slice ua ru.Ct.length uc,.slice sa ru.sets.length sc] 82));have HBz:=zZ hbz;have HXz:=zZ (tV (tV HX.out Cv.out) hbz);have HC:=zZ fun W' (hW:Below (wr.alloc (.cells #[iI ru.rank,iI ru.BS.kind,.string (mk ru.BS.lo),.string (mk ru.BS.hi),iI ru.BS.n,.slice ka ru.BS.kids.length kc,.slice ua ru.Ct.length uc,.slice sa ru.sets.length sc] 82)).heap.size (wr.alloc (.cells #[iI ru.rank,iI ru.BS.kind,.string (mk ru.BS.lo),.string (mk ru.BS.hi),iI ru.BS.n,.slice ka ru.BS.kids.length kc,.slice ua ru.Ct.length uc,.slice sa ru.sets.length sc] 82)) W')=>mD 25 25 300 (by decide) (by decide) (by decide) (by decide) ru.BS _ W' (hk1.Bu (jg hbz hW)) hok;have HU:=zZ (hk2.Bu hbz);have hul2:ru.Ct.length<=281474976710656:=hul;have hsl2:ru.sets.length<=281474976710656:=hs3;have HCR:Hid (lH ru=1+ru.sets.length+lF 16 ru.BS+(ru.Ct.map (lF 16)).sum):=rfl;clear hk1 hk2 hk3 hok hul hs3 hbz;go_upto_region 6 with fail
  clear y0 y1 y2 y3 y4 y5 y6 y7 x0 x1 x2 x3 x4 x5;generalize wr.alloc (.cells #[iI ru.rank,iI ru.BS.kind,.string (mk ru.BS.lo),.string (mk ru.BS.hi),iI ru.BS.n,.slice ka ru.BS.kids.length kc,.slice ua ru.Ct.length uc,.slice sa ru.sets.length sc] 82)=W1 at *;generalize hq1:wr.heap.size=q1 at *;obtain ⟨x0,x1,x2,x3,x4,x5,x6,x7⟩:=iT HZ.out;have HZK:=zZ fun W' (hW:Below W1.heap.size W1 W')=>iT (tV HZ.out hW);go_cut [5] (fun s5 wx=>∃R:Int,s5=iI (Q+1+(ru.sets.length:Nat)+R)/\CwV 300 ru.BS R/\Hid (Below W1.heap.size W1 wx))
  case first =>
   have HD:=zZ (Below.drew (Below.refl W1.heap.size W1));first|(go_region_with (first|(go_at_call 38;refine (HC.out _ HD.out).mono ?_;rintro e w3 ⟨⟨R,rfl,hR⟩,hb3⟩;obtain ⟨z0,z1,z2,z3,z4,z5,z6,z7⟩:=HZK.out _ (jg HD.out hb3);have HB3:=zZ hb3;have HR3:=zZ hR;obtain ⟨hR1,hR2,-⟩:=hR;clear hb3)))|fail
   all_goals
    go_wp2_with fail
    go_meet
    exact ⟨R,by rw [I8 Q ru.sets.length R (by omega) (by omega) (by omega) (by omega) (by omega)],HR3.out,jg HD.out HB3.out⟩
  case rest =>
   obtain ⟨R,rfl,hR,HBx⟩:=hcut;obtain ⟨hR1,hR2,hR3⟩:=hR;obtain ⟨wa,hwa⟩:∃x,x=wc:=⟨_,rfl⟩;subst hwa;have HR3:=zZ hR3;have HUx:=zZ (HU.out.Bu HBx.out);have HZx:=zZ (tV HZ.out HBx.out);have HBa:Hid (Below W.heap.size W wa):=by
    have h:=jf hq1 HBz.out HBx.out;rw [←hq1] at h;exact jg Cv.out h
   have HW0:=zZ (Below.refl wa.heap.size wa);obtain ⟨x0,x1,x2,x3,x4,x5,x6,x7⟩:=iT HZx.out;clear hR3 HU HZ HC HZK HXz HBx;go_wp2;go_loopg [5,8] (ru.Ct.length) (fun g q i wr=>∃(j:Nat) (V:Int),j<=ru.Ct.length/\g=ru.Ct.length - j/\q=iI V/\i=iI j/\0<=V/\V<=4611686018427387904/\Hid (Below wa.heap.size wa wr)/\Hid (V<=300->Q+1+(ru.sets.length:Nat)+(lF 16 ru.BS:Nat)+((((ru.Ct.take j).map (lF 16)).sum:Nat):Int)<=V))
   case atStart=>exact ⟨0,_,Nat.zero_le _,rfl,rfl,rfl,by omega,by omega,HW0.out,fun h=>by
    have h1:=HR3.out (by omega) 16;simp;omega⟩
   case round =>
    clear HW0 x0 x1 x2 x3 x4 x5 x6 x7;obtain ⟨j,V,hj,hgj,rfl,rfl,hV1,hV2,HBj,HV⟩:=hrel;obtain ⟨x0,x1,x2,x3,x4,x5,x6,x7⟩:=iT (tV HZx.out HBj.out);by_cases hltj:j < ru.Ct.length
    case neg =>
     have Bn:Hid (V<=300->((((p.rules.take (n+1)).map lH).sum:Nat):Int)<=V):=fun h=>by
      have h1:=HV.out h;rw [List.take_of_length_le (by omega)] at h1;have h2:=HA2.out;rw [HSN.out,HCR.out];omega
     have hlt':¬ (j:Int) < (ru.Ct.length:Int):=by omega
     clear HV;go_wp2;go_roundg (p.rules.length - (n+1))
     case rel=>exact ⟨n+1,V,by omega,rfl,by go_num,by go_num,hV1,hV2,jg HBa.out HBj.out,Bn.out⟩
     case measure=>omega
    by_cases hVM:V<=300
    case neg =>
     have d2:decide (V<=300)=false:=decide_eq_false hVM;clear HV;go_wp2;go_roundg (p.rules.length - (n+1))
     case rel=>exact ⟨n+1,V,by omega,rfl,by go_num,by go_num,hV1,hV2,jg HBa.out HBj.out,fun h=>absurd h (by omega)⟩
     case measure=>omega
    have d2:decide (V<=300)=true:=decide_eq_true hVM;obtain ⟨b1,o1,mv,rfl,hbs1,hx1,hcc1,hkk,hok⟩:=aX.get (HUx.out.Bu HBj.out) j hltj;obtain ⟨y0,y1,y2,y3,y4⟩:=hcc1;obtain ⟨na,nc,rfl,-,-⟩:=hkk.form;have HC:=zZ (mD 25 25 300 (by decide) (by decide) (by decide) (by decide) ru.Ct[j] _ _ hkk hok);have HS2:=zZ (lK 16 ru.Ct j _ hx1);clear hx1 hkk hok;generalize ru.Ct[j]=kd at *;go_wp2_with (go_at_call 38;refine HC.out.mono ?_;rintro e w3 ⟨⟨R2,rfl,hR⟩,hb3⟩;have HB3:=zZ hb3;have HR4:=zZ hR;obtain ⟨hT1,hT2,-⟩:=hR;clear hb3)
    go_roundg (ru.Ct.length - (j+1))
    case rel=>exact ⟨j+1,V+R2,by omega,rfl,by go_num,by go_num,by omega,by omega,jg HBj.out HB3.out,fun h=>by
     have h1:=HR4.out.2.2 (by omega) 16;have h2:=HV.out hVM;rw [HS2.out];omega⟩
    case measure=>omega
end Pl
namespace Ac
theorem Bl {p:Pl.Pn} (h:Pl.kF p=0):In p.Ay/\In p.AR/\In p.Bb/\In p.AJ:=by
 unfold Pl.kF at h;split at h
 ·next hp =>
  simp only [Pl.Bj,Pl.vI,Pl.qg,Bool.and_eq_true,decide_eq_true_eq] at hp;obtain ⟨-,-,⟨⟨a1,a2⟩,⟨a3,a4⟩,a5,a6,a7,a8⟩,-⟩:=hp;unfold In;omega
 ·simp at h
end Ac
namespace Ju
open Ac (Row pU dJ dM jF jG DW DU left)
open Sh (Ot bD bC bK bE EP EW Dt Du member Jj)
open Cm (Ln Cl)
structure Tb where
 plan:Pl.Pn
 Bp:List Fe.Cr
 edits:List Ex.Ed
def orE (a b:Int):Int:=if a=0 then b else a
theorem zu (b:Int):orE 0 b=b:=rfl
theorem zq {a:Int} (b:Int) (h:a ≠ 0):orE a b=a:=if_neg h
theorem zx {a b:Int} (h:orE a b=0):a=0/\b=0:=by
 unfold orE at h;split at h
 ·next e=>exact ⟨e,h⟩
 ·next e=>exact absurd h e
def GN (t:Tb):Int:=orE (Pl.kF t.plan) (orE (Fe.kF t.Bp) (Ex.kF t.edits))
def val (t:Tb) (c:Cl) (x:Ln) (k:Int):Int:=Ul.Hy x c.net k t.plan.rules
def Ii (t:Tb) (c:Cl) (k:Nat) (x:Ln) (met:Bool):Int:=
 if met=true then 18 else if val t c x 1=1 then (if Ex.mO t.edits c.lines k=0 then (if Fe.Bv t.Bp x c.net=true then 0 else 147) else Ex.mO t.edits c.lines k) else 96
def Cu (t:Tb) (c:Cl) (k:Nat) (x:Ln) (met:Bool):It:=⟨Ii t c k x met,Fe.fP t.Bp x c.net,val t c x 2 == 1,val t c x 3,val t c x 4,Da.yr x.date,x.Av,x.prior⟩
def xw (A:List Ln) (c:Cl) (k:Nat):Bool:=(Tw.wZ A c.lines).getD k false
def its (t:Tb) (c:Cl) (A:List Ln):List It:=c.lines.mapIdx fun k x=>Cu t c k x (xw A c k)
def Bw (t:Tb) (c:Cl):Cx:=⟨t.plan.mode,t.plan.Ay,t.plan.AR,t.plan.Bb,t.plan.AJ,c.mem,c.Br,c.net⟩
def Bo (t:Tb) (c:Cl) (r:List Row):Int:=orE (GN t) (orE (Cm.kF c) (Ac.kF r))
def tC (t:Tb) (c:Cl) (r:List Row) (A:List Ln):Int:=if Bo t c r=0 then D6 (Bw t c) r (its t c A) else Bo t c r
def tH (t:Tb) (c:Cl) (r:List Row) (A:List Ln):List Ot:=if tC t c r A=0 then Ea (Bw t c) r (its t c A) else []
def tJ (t:Tb) (c:Cl) (r:List Row) (A:List Ln):List Row:=if tC t c r A=0 then D7 (Bw t c) r (its t c A) else []
theorem sO (t:Tb) (c:Cl) (A:List Ln) (k:Nat):(its t c A)[k]?=c.lines[k]?.map fun x=>Cu t c k x (xw A c k):=by
 unfold its;rw [List.getElem?_mapIdx]
theorem qzB (t:Tb) (c:Cl) (A:List Ln):(its t c A).length=c.lines.length:=by unfold its;rw [List.length_mapIdx]
theorem sQ (t:Tb) (c:Cl) (A:List Ln) (k:Nat) (x:Ln) (h:c.lines[k]?=some x):(its t c A).drop k=Cu t c k x (xw A c k) :: (its t c A).drop (k+1):=by
 refine Cm.bO _ _ _ ?_;rw [sO,h];rfl
theorem Bq {t:Tb} {c:Cl} {r:List Row} (h:Bo t c r=0):Pl.kF t.plan=0/\Fe.kF t.Bp=0/\Ex.kF t.edits=0/\Cm.kF c=0/\Ac.kF r=0:=by
 obtain ⟨h1,h2⟩:=zx h;obtain ⟨h3,h4⟩:=zx h1;obtain ⟨h5,h6⟩:=zx h4;obtain ⟨h7,h8⟩:=zx h2;exact ⟨h3,h5,h6,h7,h8⟩
theorem Hu {l:List Fe.Cr} (h:Fe.kF l=0):Fe.Up l:=by
 unfold Fe.kF at h;split at h
 ·simp at h
 ·split at h
  ·exact (Fe.yE l).1 h
  ·next e=>exact absurd h e
theorem pz (y:Int):∀(l:List Ln),Cm.oU y l=0->∀x ∈ l,Cm.vS x=0/\Da.yr x.date=y
 | [],_,x,hx=>by simp at hx
 | a :: l,h,x,hx=>by
  unfold Cm.oU at h;split at h
  ·next h1 =>
   split at h
   ·next h2 =>
    rcases List.mem_cons.1 hx with rfl|hx
    ·exact ⟨h1,h2⟩
    ·exact pz y l h x hx
   ·simp at h
  ·next h1=>exact absurd h h1
theorem kH {c:Cl} (h:Cm.kF c=0):c.lines.length<=999/\(c.net=0 ∨ c.net=1)/\∀x ∈ c.lines,Cm.vS x=0/\Da.yr x.date=Da.yr (c.lines.getD 0 Cm.ln0).date:=by
 unfold Cm.kF at h;split at h
 case isFalse h0=>exact absurd h h0
 case isTrue h0 =>
  have hn:c.net=0 ∨ c.net=1:=by
   unfold Cm.qJ at h0;split at h0
   ·split at h0
    ·next hn=>simpa [Cm.yF] using hn
    ·simp at h0
   ·simp at h0
  unfold Cm.DJ at h;split at h
  ·next hl =>
   split at h
   ·split at h
    ·next e=>exact ⟨hl,hn,pz _ _ e⟩
    ·next e=>exact absurd h e
   ·simp at h
  ·simp at h
theorem vV {x:Ln} (h:Cm.vS x=0):Da.good x.date=true/\x.mods.length<=4/\(1<=x.units/\x.units<=9999)/\(0<=x.Av/\x.Av<=10000000000000)/\(0<=x.prior/\x.prior<=10000000000000)/\x.prior<=x.Av:=by
 unfold Cm.vS at h;split at h
 ·next h1 =>
  split at h
  ·next h2 =>
   split at h
   ·next h3 =>
    split at h
    ·next h4 =>
     simp only [Cm.lU,Cm.xQ,Bool.and_eq_true,decide_eq_true_eq] at h1;simp only [Cm.Hq,Bool.and_eq_true,decide_eq_true_eq] at h3;simp only [Cm.yh,Bool.and_eq_true,decide_eq_true_eq,Ce.ql] at h4;exact ⟨h2,h1.2.1,h3,h4.1.1,h4.1.2,h4.2⟩
    ·simp at h
   ·simp at h
  ·simp at h
 ·simp at h
theorem Jc {x:Ln} (h:Da.good x.date=true):Da.I9 x.date=Da.yr x.date:=by unfold Da.I9;rw [if_pos h]
theorem zX {x:Cx} {r:List Row} {i:It} (hw:i.why=0) (h:eS x r i=0):Ac.Small (zU x r i):=by
 have e:zU x r i=EW i.bi i.al i.pr (vD x r i) (vC x r i) (vK x r i):=by unfold zU;rw [if_pos hw]
 have hs:EP i.bi i.al i.pr (vD x r i) (vC x r i) (vK x r i)=0:=h;have p:=Sh.Fg hs;have q:=Sh.Fb hs;rw [e];unfold EW Ac.Small;rw [if_pos hs];simp only;omega
theorem zN {x:Cx} {r:List Row} {i:It} (h:i.why=0):zL x r i=if eB x r i=0 then (if eS x r i=0 then (if x.net=0 then jF r x.mem x.Br i.yr (zU x r i) else 0) else eS x r i) else eB x r i:=by
 unfold zL;rw [if_pos h]
theorem zT {x:Cx} {r:List Row} {i:It} (h:i.why=0):zO x r i=if x.net=0 then jG r x.mem x.Br i.yr (zU x r i) else r:=by
 unfold zO;by_cases hn:x.net=0
 ·rw [if_pos hn,if_pos ⟨h,hn⟩]
 ·rw [if_neg hn,if_neg (fun e=>hn e.2)]
theorem zW {x:Cx} {r:List Row} {i:It} (h:i.why=0):zU x r i=EW i.bi i.al i.pr (vD x r i) (vC x r i) (vK x r i):=by
 unfold zU;rw [if_pos h]
theorem zM {x:Cx} {r:List Row} {i:It} (h:i.why ≠ 0):zL x r i=Dt i.bi i.pr i.why:=by unfold zL;rw [if_neg h]
theorem zS {x:Cx} {r:List Row} {i:It} (h:i.why ≠ 0):zO x r i=r:=by unfold zO;rw [if_neg (fun e=>h e.1)]
theorem zV {x:Cx} {r:List Row} {i:It} (h:i.why ≠ 0):zU x r i=Du i.bi i.pr i.why:=by unfold zU;rw [if_neg h]
theorem jH (l:List Row) (m f:Tx) (y:Int) (o:Ot):(jG l m f y o).length<=l.length+2:=by
 have x1:=Ac.dN l m false y o.de (member o);have x2:=Ac.dN (dM l m false y o.de (member o)) f true y o.de (member o);unfold jG;split
 ·omega
 ·simp
theorem zQ (x:Cx) (r:List Row) (i:It):(zO x r i).length<=r.length+2:=by
 unfold zO;split
 ·exact jH ..
 ·omega
theorem D8 (x:Cx):∀(l:List It) (r:List Row),(D7 x r l).length<=r.length+2 * l.length
 | [],r=>by simp [D7]
 | i :: l,r=>by
  have h1:=zQ x r i;have h2:=D8 x l (zO x r i);simp only [D7,List.length_cons];omega
theorem Ec {x:Cx} {r r0:List Row} {l l0:List It} {i:It} {l':List It} (h:l=i :: l') (e:D6 x r l=D6 x r0 l0) (h0:zL x r i ≠ 0):D6 x r0 l0=zL x r i:=by
 rw [←e,h];unfold D6;rw [if_neg h0]
theorem Ei {x:Cx} {r r0:List Row} {l l0:List It} {i:It} {l':List It} (h:l=i :: l') (e:D6 x r l=D6 x r0 l0) (h0:zL x r i=0):D6 x (zO x r i) l'=D6 x r0 l0:=by
 rw [←e,h];conv=>rhs;unfold D6;rw [if_pos h0]
theorem Eb {x:Cx} {r r0:List Row} {l l0:List It} {i:It} {l':List It} {O:List Ot} (h:l=i :: l') (e:O ++ Ea x r l=Ea x r0 l0):(O ++ [zU x r i]) ++ Ea x (zO x r i) l'=Ea x r0 l0:=by
 rw [←e,h,List.append_assoc];rfl
theorem D9 {x:Cx} {r r0:List Row} {l l0:List It} {i:It} {l':List It} (h:l=i :: l') (e:D7 x r l=D7 x r0 l0):D7 x (zO x r i) l'=D7 x r0 l0:=by
 rw [←e,h];rfl
end Ju
end Go.Proofs.YtfbfeoplldjbpaaGreatDoor
