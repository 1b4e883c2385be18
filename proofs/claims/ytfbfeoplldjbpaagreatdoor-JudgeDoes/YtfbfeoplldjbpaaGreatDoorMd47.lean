/-
  Texts put together (merge.py): LRCheck, LRCk, YRChk, IRKey, LTexts.
-/
import Derived.Test.YtfbfeoplldjbpaaGreatDoorMd46
set_option linter.unusedSimpArgs false
set_option linter.unusedVariables false
set_option maxHeartbeats 16000000
set_option maxRecDepth 100000
namespace Go.Proofs.YtfbfeoplldjbpaaGreatDoor
namespace Cm
open Go.RowKit
def gT (ls:List Ln):Int:=if vW ls=0 then G5 ls else vW ls
theorem Ph {ls:List Ln} (h:vW ls ≠ 0):gT ls=vW ls:=by unfold gT;rw [if_neg h]
theorem Pj {ls:List Ln} (h:vW ls=0):gT ls=G5 ls:=by unfold gT;rw [if_pos h]
theorem Oj (c:Cl) (m:Value) (w:World) (hm:bH All w m c.lines) (hz:∀x ∈ c.lines,bG x) (hl:c.lines.length<=1000000) :
  Calls Tryz.prog 51 #[clv c m] w fun e w'=>e=.returned (iI (gT c.lines))/\Below w.heap.size w w':=by
 have HV:=zZ hm;have HZ:=zZ hz;have HBX:Hid (∀w',Below (w.alloc (jR c m)).heap.size (w.alloc (jR c m)) w'->ay w' w.heap.size c m/\Below w.heap.size w w'):=fun w' hb=>⟨(ay.new w c m _).Bu hb,jg (iU w _) hb⟩;have HTT:=zZ fun w' (hb:Below w.heap.size w w')=>OY c m w' (bH.move hm (Below.moves hb)) hl;obtain ⟨a,kc,rfl,h1,h2⟩:=bH.form hm;clear hm hz hl;obtain ⟨y,hy⟩:∃y,y=Da.yr (c.lines.getD 0 ln0).date:=⟨_,rfl⟩;have HBAD:Hid (oU y c.lines ≠ 0->gT c.lines=oU y c.lines):=fun h=>by rw [hy] at h ⊢;exact Ph h
 have HOK:Hid (oU y c.lines=0->gT c.lines=G5 c.lines):=fun h=>by rw [hy] at h;exact Pj h
 have HY:=zZ hy;clear hy;generalize gT c.lines=R at *;generalize G5 c.lines=TE at *;generalize G6 c.lines=TV at *;go_enter Tryz.func51,Tryz.ntmps51
 go_wp2;go_loopg [3] (c.lines.length) (fun g i wr=>∃k:Nat,k<=c.lines.length/\g=c.lines.length - k/\i=iI k/\Hid (Below (w.alloc (jR c (.slice a c.lines.length kc))).heap.size (w.alloc (jR c (.slice a c.lines.length kc))) wr)/\Hid (oU y (c.lines.drop k)=oU y c.lines))
 case atStart=>exact ⟨0,Nat.zero_le _,rfl,rfl,Below.refl _ _,by rfl⟩
 case round =>
  obtain ⟨k,hk,hg,rfl,HB,HF⟩:=hrel;obtain ⟨⟨x0,x1,x2,x3,x4,x5,x6⟩,hbw⟩:=HBX.out _ HB.out;have Cn:=zZ hbw;by_cases hlt:k < c.lines.length
  ·have hL:=bH.move HV.out (Below.moves hbw);have hpos:0 < c.lines.length:=by omega
   obtain ⟨b,o,m,rfl,hx,hc,hr⟩:=bH.get hL k hlt;obtain ⟨b',o',m0,e0,hx0,hc0,-⟩:=bH.get hL 0 hpos;injection e0 with e0;injection e0 with e1 e2;subst e1 e2;have hzk:=HZ.out _ (List.mem_of_getElem? hx);have hz0:=HZ.out _ (List.mem_of_getElem? hx0);have HC:=zZ (Oi c.lines[k] m wr hr hzk);have HX:Hid (∀w1,Below wr.heap.size wr w1->w1.cell? ⟨b,o+k * 6+2,none⟩=some (iI c.lines[k].date)/\w1.cell? ⟨b,o+2,none⟩=some (iI c.lines[0].date)/\ay w1 w.heap.size c (.slice (some ⟨b,o,none⟩) c.lines.length kc)):=fun w1 hb=>by
    have hbl:=World.block_lt_of_cell? wr _ hc.1;refine ⟨(hc.of (hb.block _ hbl)).2.2.1,?_,(HBX.out _ (jg HB.out hb)).1⟩;have:=(hc0.of (hb.block _ hbl)).2.2.1;simpa using this
   obtain ⟨c0,c1,c2,c3,c4,c5⟩:=hc;obtain ⟨am,cm,rfl,-,-⟩:=dI.form hr;have HFB:=zZ (oV y c.lines k _ hx HF.out);have HYR:=zZ (o8 y c.lines k _ hx HF.out);have HST:=zZ (o7 y c.lines k _ hx HF.out);by_cases he:vS c.lines[k]=0
   ·have hy0:y=Da.yr c.lines[0].date:=by rw [HY.out,List.getD_eq_getElem?_getD,hx0];rfl
    obtain ⟨q1,q2⟩:=Da.CS c.lines[k].date 10000 hzk.1.1 hzk.1.2 (by omega);obtain ⟨q3,q4⟩:=Da.CS c.lines[0].date 10000 hz0.1.1 hz0.1.2 (by omega);rw [he] at HC;clear hx hx0 hr hL hzk hz0 hc0 HFB hbw;by_cases hyy:Da.yr c.lines[k].date=y
    ·have HQ:=zZ (HST.out he hyy);have hbe:(c.lines[k].date.tdiv 10000 != c.lines[0].date.tdiv 10000)=false:=by
      rw [hy0] at hyy;unfold Da.yr at hyy;rw [hyy];simp
     clear hyy he hy0;go_wp2_with (first|(go_at_call 93;refine (HC.out).mono ?_;rintro e w1 ⟨rfl,hb⟩;obtain ⟨n1,n2,g0,g1,g2,g3,g4,g5,g6⟩:=HX.out _ hb;have HB2:=zZ (jg HB.out hb);clear hb))
     go_quiet (fail)
     go_wp2;go_roundg (c.lines.length - (k+1))
     case rel=>exact ⟨k+1,by omega,rfl,by go_num,jg HB2.out (iY ⟨_,rfl⟩),HQ.out⟩
     case measure=>omega
    ·have HQ:=zZ (HYR.out he hyy);have HQ2:=zZ (HBAD.out (by rw [HQ.out];omega));have hbe:(c.lines[k].date.tdiv 10000 != c.lines[0].date.tdiv 10000)=true:=by
      rw [hy0] at hyy;unfold Da.yr at hyy;simpa using hyy
     clear hyy he hy0;go_wp2_with (first|(go_at_call 93;refine (HC.out).mono ?_;rintro e w1 ⟨rfl,hb⟩;obtain ⟨n1,n2,g0,g1,g2,g3,g4,g5,g6⟩:=HX.out _ hb;have HB2:=zZ (jg Cn.out hb);clear hb))
     go_quiet (fail)
     go_wp2;go_ret;exact ⟨by rw [HQ2.out,HQ.out];rfl,jg HB2.out (iY ⟨_,rfl⟩)⟩
   ·have HQ:=zZ (HFB.out he);have HQ2:=zZ (HBAD.out (by rw [HQ.out];exact he));have hbe:(vS c.lines[k] != 0)=true:=by simpa using he
    clear hx hx0 hr hL hzk hz0 hc0 HFB he HX hbw;go_wp2_with (first|(go_at_call 93;refine (HC.out).mono ?_;rintro e w1 ⟨rfl,hb⟩;have HB2:=zZ (jg Cn.out hb);clear hb))
    go_ret;exact ⟨by rw [HQ2.out,HQ.out];rfl,HB2.out⟩
  ·have HQ:=zZ (HOK.out (oZ y c.lines k (by omega) HF.out));clear hbw;go_wp2_with (first|(go_at_call 94;refine (HTT.out _ Cn.out).mono ?_;rintro e w1 ⟨rfl,hb⟩;have HB2:=zZ (jg Cn.out hb);clear hb))
   go_ret;exact ⟨by rw [HQ.out];rfl,HB2.out⟩
end Cm
namespace Cm
open Go.RowKit
theorem MX (s:Tx):((mk s).toList == (ByteArray.toList { data:=#[] }))=decide (s=[]):=by
 rw [Lib.toList_data,Lib.toList_data,xI];rw [Bool.eq_iff_iff];simp
theorem KX {c:Cl} (h:qJ c ≠ 0):kF c=qJ c:=by unfold kF;rw [if_neg h]
theorem KY {c:Cl} (h:qJ c=0):kF c=DJ c:=by unfold kF;rw [if_pos h]
theorem ck9 {c:Cl} (h:yA c=false):kF c=9:=by rw [KX (by rw [qH h];omega),qH h]
theorem ck3 {c:Cl} (h:yA c=true) (h1:yF c.net=false):kF c=3:=by rw [KX (by rw [qF h h1];omega),qF h h1]
theorem KW {c:Cl} (h:yA c=true) (h1:yF c.net=true) (h2:Dq c=false):kF c=9:=by rw [KX (by rw [qI h h1 h2];omega),qI h h1 h2]
theorem KU {c:Cl} (h:yA c=true) (h1:yF c.net=true) (h2:Dq c=true) (h3:nD c.does=false):kF c=3:=by rw [KX (by rw [qG h h1 h2 h3];omega),qG h h1 h2 h3]
theorem ckR {c:Cl} (h:yA c=true) (h1:yF c.net=true) (h2:Dq c=true) (h3:nD c.does=true):kF c=DJ c:=KY (qE h h1 h2 h3)
theorem NJ {c:Cl} (h:c.lines.length<=999) (h1:Ia c=true):DJ c=gT c.lines:=by unfold DJ gT;rw [if_pos h,if_pos h1]
theorem Nv (c:Cl) (m:Value) (w:World) (hm:bH All w m c.lines) (hz:aC c) (hl:c.lines.length<=1000000) :
  Calls Tryz.prog 26 #[clv c m] w fun e w'=>e=.returned (iI (kF c))/\Below w.heap.size w w':=by
 obtain ⟨z1,z2,z3,z4⟩:=hz.short;have HN:=zZ fun (s:Tx) (hs:s.length<=281474976710656) w=>NG s 1 12 w (by omega);have HB:=zZ fun o=>iU w o;have HL:=zZ (Oj c m (w.alloc (jR c m)) (bH.move hm (Below.moves (iU w _))) hz.2.2.2.2.2.2.2 hl);obtain ⟨a,k,rfl,f1,f2⟩:=bH.form hm;have HBO:=zZ hl;clear hm hz hl;have H9:=zZ (@ck9 c);have H3:=zZ (@ck3 c);have H9':=zZ (@KW c);have H3':=zZ (@KU c);have HR:=zZ (@ckR c);have H10:=zZ (@DF c);have H6:=zZ (@DI c);have HT:=zZ (@NJ c);generalize kF c=R at *;generalize DJ c=RR at *;generalize gT c.lines=TE at *;cases h0:lM c.id 1 12
 ·rw [H9.out (by unfold yA;rw [h0];rfl)];clear H9 H3 H9' H3' HR H10 H6 HT;go_enter Tryz.func26,Tryz.ntmps26
  go_wp2_with (first|(go_at_call 50;refine (HN.out _ (by assumption) _).mono ?_;rintro e w' ⟨rfl,rfl⟩))
  go_ret;exact ⟨rfl,HB.out _⟩
 cases h1:lM c.mem 1 12
 ·rw [H9.out (by unfold yA;rw [h0,h1];rfl)];clear H9 H3 H9' H3' HR H10 H6 HT;go_enter Tryz.func26,Tryz.ntmps26
  go_wp2_with (first|(go_at_call 50;refine (HN.out _ (by assumption) _).mono ?_;rintro e w' ⟨rfl,rfl⟩))
  go_ret;exact ⟨rfl,HB.out _⟩
 cases h2:lM c.Br 1 12
 ·rw [H9.out (by unfold yA;rw [h0,h1,h2];rfl)];clear H9 H3 H9' H3' HR H10 H6 HT;go_enter Tryz.func26,Tryz.ntmps26
  go_wp2_with (first|(go_at_call 50;refine (HN.out _ (by assumption) _).mono ?_;rintro e w' ⟨rfl,rfl⟩))
  go_ret;exact ⟨rfl,HB.out _⟩
 have hn:yA c=true:=by unfold yA;rw [h0,h1,h2];rfl
 clear H9;by_cases g1:c.net < 0
 ·have d1:decide (c.net < 0)=true:=decide_eq_true g1;rw [H3.out hn (by unfold yF;rw [decide_eq_false (by omega),decide_eq_false (by omega)];rfl)];clear H3 H9' H3' HR H10 H6 HT;go_enter Tryz.func26,Tryz.ntmps26
  go_wp2_with (first|(go_at_call 50;refine (HN.out _ (by assumption) _).mono ?_;rintro e w' ⟨rfl,rfl⟩))
  go_ret;exact ⟨rfl,HB.out _⟩
 have d1:decide (c.net < 0)=false:=decide_eq_false g1;by_cases g2:1 < c.net
 ·have d2:decide (1 < c.net)=true:=decide_eq_true g2;rw [H3.out hn (by unfold yF;rw [decide_eq_false (by omega),decide_eq_false (by omega)];rfl)];clear H3 H9' H3' HR H10 H6 HT;go_enter Tryz.func26,Tryz.ntmps26
  go_wp2_with (first|(go_at_call 50;refine (HN.out _ (by assumption) _).mono ?_;rintro e w' ⟨rfl,rfl⟩))
  go_ret;exact ⟨rfl,HB.out _⟩
 have d2:decide (1 < c.net)=false:=decide_eq_false g2;have hnet:yF c.net=true:=by
  unfold yF;rw [Bool.or_eq_true,decide_eq_true_eq,decide_eq_true_eq];omega
 clear H3;have r0:=xG c.ref;have r1:=MX c.ref;have e1:(c.does == 1)=decide (c.does=1):=by rw [Bool.eq_iff_iff];simp
 have e7:(c.does == 7)=decide (c.does=7):=by rw [Bool.eq_iff_iff];simp
 have e8:(c.does == 8)=decide (c.does=8):=by rw [Bool.eq_iff_iff];simp
 have n1:(c.does != 1) = !decide (c.does=1):=by rw [Bool.eq_iff_iff];simp
 have n7:(c.does != 7) = !decide (c.does=7):=by rw [Bool.eq_iff_iff];simp
 have n8:(c.does != 8) = !decide (c.does=8):=by rw [Bool.eq_iff_iff];simp
 obtain ⟨V1,hV1⟩:∃V,V=decide (c.does=1):=⟨_,rfl⟩;obtain ⟨V7,hV7⟩:∃V,V=decide (c.does=7):=⟨_,rfl⟩;obtain ⟨V8,hV8⟩:∃V,V=decide (c.does=8):=⟨_,rfl⟩;rw [←hV1] at e1 n1;rw [←hV7] at e7 n7;rw [←hV8] at e8 n8;by_cases q1:c.does=1
 ·have hrb:Dq c=decide (c.ref=[]):=by unfold Dq;rw [if_pos q1]
  rw [decide_eq_true q1] at hV1;rw [decide_eq_false (by omega)] at hV7 hV8;have hdb:nD c.does=true:=by unfold nD;rw [decide_eq_true q1];rfl
  have hvb:Ia c=(false == decide (c.lines.length=0)):=by unfold Ia;rw [decide_eq_false (p:=c.does=8) (by omega)]
  clear q1;cases h3:decide (c.ref=[])
  ·rw [h3] at r0 r1 hrb;rw [H9'.out hn hnet hrb];clear H9' H3' HR H10 H6 HT hvb hdb hrb h3;go_enter Tryz.func26,Tryz.ntmps26
   go_wp2_with (first|(go_at_call 50;refine (HN.out _ (by assumption) _).mono ?_;rintro e w' ⟨rfl,rfl⟩))
   go_ret;exact ⟨rfl,HB.out _⟩
  rw [h3] at r0 r1 hrb;rw [HR.out hn hnet hrb hdb];clear H9' H3' HR hrb hdb h3 hn hnet;by_cases l9:c.lines.length<=999
  case neg =>
   rw [H10.out l9];have l9':(999:Int) < (c.lines.length:Int):=by omega
   clear H10 H6 HT hvb l9;go_enter Tryz.func26,Tryz.ntmps26
   go_wp2_with (first|(go_at_call 50;refine (HN.out _ (by assumption) _).mono ?_;rintro e w' ⟨rfl,rfl⟩))
   go_ret;exact ⟨rfl,HB.out _⟩
  have l9':¬ (999:Int) < (c.lines.length:Int):=by omega
  by_cases lz:c.lines.length=0
  ·rw [decide_eq_true lz] at hvb;rw [H6.out l9 hvb];clear H10 H6 HT hvb l9;generalize c.lines.length=N at *;subst lz;go_enter Tryz.func26,Tryz.ntmps26
   go_wp2_with (first|(go_at_call 50;refine (HN.out _ (by assumption) _).mono ?_;rintro e w' ⟨rfl,rfl⟩))
   go_ret;exact ⟨rfl,HB.out _⟩
  ·rw [decide_eq_false lz] at hvb;rw [HT.out l9 hvb];have hpos:0 < c.lines.length:=by omega
   have ez:((c.lines.length:Int) == 0)=false:=by rw [beq_eq_false_iff_ne];omega
   clear H10 H6 HT hvb l9 lz;go_enter Tryz.func26,Tryz.ntmps26
   go_wp2_with (first|(go_at_call 50;refine (HN.out _ (by assumption) _).mono ?_;rintro e w' ⟨rfl,rfl⟩)|(go_at_call 51;refine (HL.out).mono ?_;rintro e w1 ⟨rfl,hb⟩;have HB1:=zZ (jg (HB.out _) hb);clear hb))
   go_ret;exact ⟨rfl,HB1.out⟩
 rw [decide_eq_false q1] at hV1;have hrb:Dq c=lM c.ref 1 12:=by unfold Dq;rw [if_neg q1]
 clear r0 r1;cases h3:lM c.ref 1 12
 ·rw [h3] at hrb;rw [H9'.out hn hnet hrb];clear H9' H3' HR H10 H6 HT hrb e7 n7 e8 n8 hV7 hV8;go_enter Tryz.func26,Tryz.ntmps26
  go_wp2_with (first|(go_at_call 50;refine (HN.out _ (by assumption) _).mono ?_;rintro e w' ⟨rfl,rfl⟩))
  go_ret;exact ⟨rfl,HB.out _⟩
 rw [h3] at hrb;by_cases q7:c.does=7
 ·rw [decide_eq_true q7] at hV7;rw [decide_eq_false (by omega)] at hV8;have hdb:nD c.does=true:=by unfold nD;rw [decide_eq_true q7];simp
  have hvb:Ia c=(false == decide (c.lines.length=0)):=by unfold Ia;rw [decide_eq_false (p:=c.does=8) (by omega)]
  clear q1 q7;rw [HR.out hn hnet hrb hdb];clear H9' H3' HR hrb hdb hn hnet;by_cases l9:c.lines.length<=999
  case neg =>
   rw [H10.out l9];have l9':(999:Int) < (c.lines.length:Int):=by omega
   clear H10 H6 HT hvb l9;go_enter Tryz.func26,Tryz.ntmps26
   go_wp2_with (first|(go_at_call 50;refine (HN.out _ (by assumption) _).mono ?_;rintro e w' ⟨rfl,rfl⟩))
   go_ret;exact ⟨rfl,HB.out _⟩
  have l9':¬ (999:Int) < (c.lines.length:Int):=by omega
  by_cases lz:c.lines.length=0
  ·rw [decide_eq_true lz] at hvb;rw [H6.out l9 hvb];clear H10 H6 HT hvb l9;generalize c.lines.length=N at *;subst lz;go_enter Tryz.func26,Tryz.ntmps26
   go_wp2_with (first|(go_at_call 50;refine (HN.out _ (by assumption) _).mono ?_;rintro e w' ⟨rfl,rfl⟩))
   go_ret;exact ⟨rfl,HB.out _⟩
  ·rw [decide_eq_false lz] at hvb;rw [HT.out l9 hvb];have hpos:0 < c.lines.length:=by omega
   have ez:((c.lines.length:Int) == 0)=false:=by rw [beq_eq_false_iff_ne];omega
   clear H10 H6 HT hvb l9 lz;go_enter Tryz.func26,Tryz.ntmps26
   go_wp2_with (first|(go_at_call 50;refine (HN.out _ (by assumption) _).mono ?_;rintro e w' ⟨rfl,rfl⟩)|(go_at_call 51;refine (HL.out).mono ?_;rintro e w1 ⟨rfl,hb⟩;have HB1:=zZ (jg (HB.out _) hb);clear hb))
   go_ret;exact ⟨rfl,HB1.out⟩
 rw [decide_eq_false q7] at hV7;by_cases q8:c.does=8
 ·rw [decide_eq_true q8] at hV8;have hdb:nD c.does=true:=by unfold nD;rw [decide_eq_true q8];simp
  have hvb:Ia c=(true == decide (c.lines.length=0)):=by unfold Ia;rw [decide_eq_true q8]
  clear q1 q7 q8;rw [HR.out hn hnet hrb hdb];clear H9' H3' HR hrb hdb hn hnet;by_cases l9:c.lines.length<=999
  case neg =>
   rw [H10.out l9];have l9':(999:Int) < (c.lines.length:Int):=by omega
   clear H10 H6 HT hvb l9;go_enter Tryz.func26,Tryz.ntmps26
   go_wp2_with (first|(go_at_call 50;refine (HN.out _ (by assumption) _).mono ?_;rintro e w' ⟨rfl,rfl⟩))
   go_ret;exact ⟨rfl,HB.out _⟩
  have l9':¬ (999:Int) < (c.lines.length:Int):=by omega
  by_cases lz:c.lines.length=0
  ·rw [decide_eq_true lz] at hvb;rw [HT.out l9 hvb];clear H10 H6 HT hvb l9;generalize c.lines.length=N at *;subst lz;go_enter Tryz.func26,Tryz.ntmps26
   go_wp2_with (first|(go_at_call 50;refine (HN.out _ (by assumption) _).mono ?_;rintro e w' ⟨rfl,rfl⟩)|(go_at_call 51;refine (HL.out).mono ?_;rintro e w1 ⟨rfl,hb⟩;have HB1:=zZ (jg (HB.out _) hb);clear hb))
   go_ret;exact ⟨rfl,HB1.out⟩
  ·rw [decide_eq_false lz] at hvb;rw [H6.out l9 hvb];have hpos:0 < c.lines.length:=by omega
   have ez:((c.lines.length:Int) == 0)=false:=by rw [beq_eq_false_iff_ne];omega
   clear H10 H6 HT hvb l9 lz;go_enter Tryz.func26,Tryz.ntmps26
   go_wp2_with (first|(go_at_call 50;refine (HN.out _ (by assumption) _).mono ?_;rintro e w' ⟨rfl,rfl⟩))
   go_ret;exact ⟨rfl,HB.out _⟩
 rw [decide_eq_false q8] at hV8;rw [H3'.out hn hnet hrb (by unfold nD;rw [decide_eq_false q1,decide_eq_false q7,decide_eq_false q8];rfl)];clear H9' H3' HR H10 H6 HT hrb q1 q7 q8 hn hnet;go_enter Tryz.func26,Tryz.ntmps26
 go_wp2_with (first|(go_at_call 50;refine (HN.out _ (by assumption) _).mono ?_;rintro e w' ⟨rfl,rfl⟩))
 go_ret;exact ⟨rfl,HB.out _⟩
end Cm
namespace Ac
open Go.RowKit
theorem MJ (x:Row):yP x=(Ce.good x.oo && (!(x.oo == 0) && (!(decide (x.de < 0)) && !(decide (x.oo < x.de))))):=by
 rw [Bool.eq_iff_iff,yT];simp only [Bool.and_eq_true,Bool.not_eq_true',beq_eq_false_iff_ne,decide_eq_false_iff_not,Ce.ql];omega
theorem Nv (l:List Row) (v:Value) (w:World) (h:cu All w v l) (hl:l.length<=100000) :
  Calls Tryz.prog 27 #[v] w fun e w'=>e=.returned (iI (kF l))/\Below w.heap.size w w':=by
 obtain ⟨fa,fk,rfl,hm1,hm2⟩:=h.form;have HF:=zZ h;obtain ⟨C,HC⟩:∃C,Hid (kF l=C):=⟨_,(rfl:kF l=_)⟩;have HC0:Hid (ckE (prv l 0) (l.drop 0)=C):=HC.out;have HAm:=zZ Ce.NM;have HOr:=zZ MS;rw [HC.out];clear h HC;go_enter Tryz.func27,Tryz.ntmps27
 go_wp2;go_loopg [3] (l.length) (fun g s3 wr=>∃k:Nat,s3=iI k/\k<=l.length/\l.length - k<=g/\Hid (Below w.heap.size w wr)/\Hid (ckE (prv l k) (l.drop k)=C))
 case atStart=>exact ⟨0,rfl,Nat.zero_le _,by omega,Below.refl _ _,HC0.out⟩
 case round =>
  obtain ⟨k,rfl,hk,hgk,Co,HI⟩:=hrel;clear HC0;by_cases hlt:k < l.length
  ·have hltz:(k:Int) < (l.length:Int):=by omega
   have HI2:Hid (C=if yP l[k]=true then (if iL (prv l k) l[k]=true then ckE (prv l (k+1)) (l.drop (k+1)) else 11) else 1):=HI.out.symm.trans (kT l k hlt);obtain ⟨b,oo,rfl,hbw,-,hc⟩:=cu.get (HF.out.Bu Co.out) k hlt;obtain ⟨x,HX⟩:∃x,Hid (l[k]=x):=⟨l[k],(rfl:l[k]=l[k])⟩;rw [HX.out] at HI2 hc;obtain ⟨x0,x1,x2,x3,x4⟩:=hc;have hb2:=iU wr (.cells #[sS x.who,.bool x.Br,iI x.year,iI x.de,iI x.oo] TA);have HZ:=zZ (heap_alloc_new wr (.cells #[sS x.who,.bool x.Br,iI x.year,iI x.de,iI x.oo] TA));have HB2:=zZ (jg Co.out hb2);clear hb2 HI;go_upto_region 5 with fail
   clear x0 x1 x2 x3 x4;generalize wr.alloc (.cells #[sS x.who,.bool x.Br,iI x.year,iI x.de,iI x.oo] TA)=W at *;generalize hp:wr.heap.size=p at *;obtain ⟨z0,z1,z2,z3,z4⟩:=cells5 HZ.out;have HOn:=MJ x;clear Co;by_cases ho:yP x=true
   ·have HI3:Hid (C=if iL (prv l k) x=true then ckE (prv l (k+1)) (l.drop (k+1)) else 11):=HI2.out.trans (by rw [if_pos ho]);rw [HOn] at ho;simp only [Bool.and_eq_true,Bool.not_eq_true',decide_eq_false_iff_not] at ho;obtain ⟨g1,g2,g3,g4⟩:=ho;clear HI2 HOn;have HD:=zZ (Below.drew (Below.refl W.heap.size W));by_cases hk0:k=0
    ·subst hk0;have HI4:Hid (ckE (prv l (0+1)) (l.drop (0+1))=C):=(HI3.out.trans (if_pos (iP l x))).symm;clear HI3;go_upto_region 7 with (go_at_call 52;refine (HAm.out _ _).mono ?_;rintro e w' ⟨rfl,hw⟩;rw [hw,g1];clear hw w')
     refine Ri.IZ (by kernel_rfl) (by kernel_rfl) (by kernel_rfl) (fun Wx=>Below W.heap.size W Wx) (fun kz vs wz=>(fun kx vx wx=>match kx with|0=>vx=iI 0|1=>vx=.bool false|2=>vx=.bool false|3=>True|4=>True|5=>True|6=>True|7=>True|8=>True|9=>True|10=>True|11=>vx=.bool false|_=>True:Nat->Value->World->Prop) kz (vs kz) wz) (fun kz=>[kz]) (by kernel_rfl) (fun jz vs iz vz wz hiz hz=>Ri.wI (F:=(fun kx vx wx=>match kx with|0=>vx=iI 0|1=>vx=.bool false|2=>vx=.bool false|3=>True|4=>True|5=>True|6=>True|7=>True|8=>True|9=>True|10=>True|11=>vx=.bool false|_=>True:Nat->Value->World->Prop)) jz vs iz vz wz hiz hz) HD.out ⟨Or.inl ⟨rfl,?_⟩,Or.inl ⟨rfl,?_⟩,Or.inl ⟨rfl,?_⟩,Or.inr ⟨2,true,38,rfl,rfl,?_⟩,Or.inr ⟨2,true,38,rfl,rfl,?_⟩,Or.inr ⟨2,true,38,rfl,rfl,?_⟩,Or.inr ⟨2,true,38,rfl,rfl,?_⟩,Or.inr ⟨2,true,38,rfl,rfl,?_⟩,Or.inr ⟨2,true,38,rfl,rfl,?_⟩,Or.inr ⟨2,true,38,rfl,rfl,?_⟩,Or.inr ⟨2,true,38,rfl,rfl,?_⟩,Or.inl ⟨rfl,?_⟩,trivial⟩ ?_
     ·intro vs Wx A hA hB hpre K hK;have e3:=(hA 3).trans (show _=iI 0 by kernel_rfl);clear hA hpre;go_simp;exact hK _ _ hB rfl (fun _ _ h=>h)
     ·intro vs Wx A hA hB hpre K hK;have e36:=tT (hA 36) (by kernel_rfl) (hpre.1 rfl);clear hA hpre;go_simp;exact hK _ _ hB rfl (fun _ _ h=>h)
     ·intro vs Wx A hA hB hpre K hK;have e37:=tT (hA 37) (by kernel_rfl) (hpre.1 rfl);clear hA hpre;go_simp;exact hK _ _ hB rfl (fun _ _ h=>h)
     iterate 2
      ·intro vs Wx A hA hB hpre;have eg:=tT (hA 38) (by kernel_rfl) (hpre.1 rfl);exact ⟨false,eg,fun h=>(by cases h),fun _=>trivial⟩
     ·intro vs Wx A hA hB hpre;have eg:=tT (hA 38) (by kernel_rfl) (hpre.2.1 rfl);exact ⟨false,eg,fun h=>(by cases h),fun _=>trivial⟩
     ·intro vs Wx A hA hB hpre;have eg:=tT (hA 38) (by kernel_rfl) (hpre.2.2.1 rfl);exact ⟨false,eg,fun h=>(by cases h),fun _=>trivial⟩
     ·intro vs Wx A hA hB hpre;have eg:=tT (hA 38) (by kernel_rfl) (hpre.2.1 rfl);exact ⟨false,eg,fun h=>(by cases h),fun _=>trivial⟩
     ·intro vs Wx A hA hB hpre;have eg:=tT (hA 38) (by kernel_rfl) (hpre.1 rfl);exact ⟨false,eg,fun h=>(by cases h),fun _=>trivial⟩
     ·intro vs Wx A hA hB hpre;have eg:=tT (hA 38) (by kernel_rfl) (hpre.2.2.1 rfl);exact ⟨false,eg,fun h=>(by cases h),fun _=>trivial⟩
     ·intro vs Wx A hA hB hpre;have eg:=tT (hA 38) (by kernel_rfl) (hpre.2.1 rfl);exact ⟨false,eg,fun h=>(by cases h),fun _=>trivial⟩
     ·intro vs Wx A hA hB hpre K hK;have e38:=tT (hA 38) (by kernel_rfl) (hpre.1 rfl);clear hA hpre;go_simp;exact hK _ _ hB rfl (fun _ _ h=>h)
     ·intro vs Wx hB hF;have hL:vs 11=.bool false:=hF 11 (by decide);have Cn:=zZ (jg HB2.out hB);clear hF hB;simp only [Ri.puts];rw [hL];clear hL;go_simp;go_wp2;go_roundg (l.length - 1)
      case measure=>omega
      case rel=>exact ⟨0+1,by first|rfl|go_num|(congr 1;omega),by omega,by omega,Cn.out,HI4.out⟩
    ·obtain ⟨j,hkj⟩:∃j,k=j+1:=⟨k - 1,by omega⟩;have hj:j < l.length:=by omega
     have hkz:0 < k:=by omega
     have hjw:IntKind.i64.wrap ((k:Int) - 1)=(j:Int):=by rw [IntKind.wrap_i64];omega
     have HKJ:=zZ hkj;obtain ⟨y,HY⟩:∃y,Hid (l[j]=y):=⟨l[j],(rfl:l[j]=l[j])⟩;have HI4:Hid (C=if dR y x=true then ckE (prv l (j+1+1)) (l.drop (j+1+1)) else 11):=HI3.out.trans (by rw [hkj,iM l j hj,HY.out]);have Bt:=zZ fun W' (hW:Below W.heap.size W W')=>And.intro (jZ (HF.out.Bu (jg HB2.out hW)) j hj) (cells5 (tV HZ.out hW));rw [HY.out] at Bt;clear HI3 hk0 hkj;go_upto_region 7 with (go_at_call 52;refine (HAm.out _ _).mono ?_;rintro e w' ⟨rfl,hw⟩;rw [hw,g1];clear hw w')
     refine Ri.IZ (by kernel_rfl) (by kernel_rfl) (by kernel_rfl) (fun Wx=>Below W.heap.size W Wx) (fun kz vs wz=>(fun kx vx wx=>match kx with|0=>vx=iI (k:Nat)|1=>vx=.bool true|2=>vx=.bool true|3=>vx=.slice (some ⟨b,oo,none⟩) l.length fk|4=>vx=iI (k:Nat)|5=>vx=iI (j:Nat)|6=>vx=pP b (oo+j * 5)|7=>vx=rwv y|8=>vx=rwv x|9=>vx=.bool (dR y x)|10=>vx=.bool (!(dR y x))|11=>vx=.bool (!(dR y x))|_=>True:Nat->Value->World->Prop) kz (vs kz) wz) (fun kz=>[kz]) (by kernel_rfl) (fun jz vs iz vz wz hiz hz=>Ri.wI (F:=(fun kx vx wx=>match kx with|0=>vx=iI (k:Nat)|1=>vx=.bool true|2=>vx=.bool true|3=>vx=.slice (some ⟨b,oo,none⟩) l.length fk|4=>vx=iI (k:Nat)|5=>vx=iI (j:Nat)|6=>vx=pP b (oo+j * 5)|7=>vx=rwv y|8=>vx=rwv x|9=>vx=.bool (dR y x)|10=>vx=.bool (!(dR y x))|11=>vx=.bool (!(dR y x))|_=>True:Nat->Value->World->Prop)) jz vs iz vz wz hiz hz) HD.out ⟨Or.inl ⟨rfl,?_⟩,Or.inl ⟨rfl,?_⟩,Or.inl ⟨rfl,?_⟩,Or.inr ⟨2,true,38,rfl,rfl,?_⟩,Or.inr ⟨2,true,38,rfl,rfl,?_⟩,Or.inr ⟨2,true,38,rfl,rfl,?_⟩,Or.inr ⟨2,true,38,rfl,rfl,?_⟩,Or.inr ⟨2,true,38,rfl,rfl,?_⟩,Or.inr ⟨2,true,38,rfl,rfl,?_⟩,Or.inr ⟨2,true,38,rfl,rfl,?_⟩,Or.inr ⟨2,true,38,rfl,rfl,?_⟩,Or.inl ⟨rfl,?_⟩,trivial⟩ ?_
     ·intro vs Wx A hA hB hpre K hK;have e3:=(hA 3).trans (show _=iI (k:Nat) by kernel_rfl);clear hA hpre;go_simp;exact hK _ _ hB rfl (fun _ _ h=>h)
     ·intro vs Wx A hA hB hpre K hK;have e36:=tT (hA 36) (by kernel_rfl) (hpre.1 rfl);clear hA hpre;go_simp;exact hK _ _ hB rfl (fun _ _ h=>h)
     ·intro vs Wx A hA hB hpre K hK;have e37:=tT (hA 37) (by kernel_rfl) (hpre.1 rfl);clear hA hpre;go_simp;exact hK _ _ hB rfl (fun _ _ h=>h)
     ·intro vs Wx A hA hB hpre;have eg:=tT (hA 38) (by kernel_rfl) (hpre.1 rfl);refine ⟨true,eg,fun _ K hK=>?_,fun h=>absurd rfl h⟩;have e0:=(hA 0).trans (show _=Value.slice (some ⟨b,oo,none⟩) l.length fk by kernel_rfl);clear hA hpre;go_simp;exact hK _ _ hB rfl (fun _ _ h=>h)
     ·intro vs Wx A hA hB hpre;have eg:=tT (hA 38) (by kernel_rfl) (hpre.1 rfl);refine ⟨true,eg,fun _ K hK=>?_,fun h=>absurd rfl h⟩;have e3:=(hA 3).trans (show _=iI (k:Nat) by kernel_rfl);clear hA hpre;go_simp;exact hK _ _ hB rfl (fun _ _ h=>h)
     ·intro vs Wx A hA hB hpre;have eg:=tT (hA 38) (by kernel_rfl) (hpre.2.1 rfl);refine ⟨true,eg,fun _ K hK=>?_,fun h=>absurd rfl h⟩;have e40:=tT (hA 40) (by kernel_rfl) (hpre.1 rfl);clear hA hpre;go_simp;exact hK _ _ hB rfl (fun _ _ h=>h)
     ·intro vs Wx A hA hB hpre;have eg:=tT (hA 38) (by kernel_rfl) (hpre.2.2.1 rfl);refine ⟨true,eg,fun _ K hK=>?_,fun h=>absurd rfl h⟩;have e39:=tT (hA 39) (by kernel_rfl) (hpre.1 rfl);have e41:=tT (hA 41) (by kernel_rfl) (hpre.2.1 rfl);clear hA hpre;go_simp;exact hK _ _ hB rfl (fun _ _ h=>h)
     ·intro vs Wx A hA hB hpre;have eg:=tT (hA 38) (by kernel_rfl) (hpre.2.1 rfl);refine ⟨true,eg,fun _ K hK=>?_,fun h=>absurd rfl h⟩;have e42:=tT (hA 42) (by kernel_rfl) (hpre.1 rfl);obtain ⟨⟨x0,x1,x2,x3,x4⟩,⟨y0,y1,y2,y3,y4⟩⟩:=Bt.out Wx hB;clear hA hpre;go_simp;exact hK _ _ hB rfl (fun _ _ h=>h)
     ·intro vs Wx A hA hB hpre;have eg:=tT (hA 38) (by kernel_rfl) (hpre.1 rfl);refine ⟨true,eg,fun _ K hK=>?_,fun h=>absurd rfl h⟩;have e4:=(hA 4).trans (show _=pP p 0 by kernel_rfl);obtain ⟨⟨x0,x1,x2,x3,x4⟩,⟨y0,y1,y2,y3,y4⟩⟩:=Bt.out Wx hB;clear hA hpre;go_simp;exact hK _ _ hB rfl (fun _ _ h=>h)
     ·intro vs Wx A hA hB hpre;have eg:=tT (hA 38) (by kernel_rfl) (hpre.2.2.1 rfl);refine ⟨true,eg,fun _ K hK=>?_,fun h=>absurd rfl h⟩;have e43:=tT (hA 43) (by kernel_rfl) (hpre.1 rfl);have e44:=tT (hA 44) (by kernel_rfl) (hpre.2.1 rfl);clear hA hpre;go_simp;go_at_call 53
      refine (HOr.out _ _ _).mono ?_;rintro e w4 ⟨rfl,hg⟩;exact hK _ _ (jg hB hg) rfl (fun _ _ h=>h)
     ·intro vs Wx A hA hB hpre;have eg:=tT (hA 38) (by kernel_rfl) (hpre.2.1 rfl);refine ⟨true,eg,fun _ K hK=>?_,fun h=>absurd rfl h⟩;have e45:=tT (hA 45) (by kernel_rfl) (hpre.1 rfl);clear hA hpre;go_simp;exact hK _ _ hB rfl (fun _ _ h=>h)
     ·intro vs Wx A hA hB hpre K hK;have e38:=tT (hA 38) (by kernel_rfl) (hpre.1 rfl);have e46:=tT (hA 46) (by kernel_rfl) (hpre.2.1 rfl);clear hA hpre;go_simp;exact hK _ _ hB rfl (fun _ _ h=>h)
     ·intro vs Wx hB hF;have hL:vs 11=.bool (!(dR y x)):=hF 11 (by decide);have Cn:=zZ (jg HB2.out hB);clear hF hB;simp only [Ri.puts];rw [hL];clear hL;cases hlv:dR y x with
      | true =>
       have HI5:Hid (ckE (prv l (j+1+1)) (l.drop (j+1+1))=C):=(HI4.out.trans (if_pos hlv)).symm;clear HI4;go_simp;go_wp2;go_roundg (l.length - (k+1))
       case measure=>omega
       case rel=>exact ⟨k+1,by first|rfl|go_num|(congr 1;omega),by omega,by omega,Cn.out,by rw [HKJ.out];exact HI5.out⟩
      | false =>
       have HCe:Hid (C=11):=HI4.out.trans (by rw [if_neg (by rw [hlv];decide)]);clear HI4;go_simp;go_wp2;go_ret;exact ⟨by first|(rw [HCe.out];done)|(rw [HCe.out];rfl),Cn.out⟩
   ·have HCe:Hid (C=1):=HI2.out.trans (by rw [if_neg ho]);have hof:yP x=false:=by simpa using ho
    rw [HOn] at hof;clear HI2 HOn ho;cases g1:Ce.good x.oo with
    | false =>
     clear hof;go_wp2_with (go_at_call 52;refine (HAm.out _ _).mono ?_;rintro e w' ⟨rfl,hw⟩;rw [hw,g1];clear hw w')
     go_ret;exact ⟨by first|(rw [HCe.out];done)|(rw [HCe.out];rfl),HB2.out⟩
    | true =>
     rw [g1] at hof;cases g2:(x.oo == 0) with
     | true =>
      clear hof;go_wp2_with (go_at_call 52;refine (HAm.out _ _).mono ?_;rintro e w' ⟨rfl,hw⟩;rw [hw,g1];clear hw w')
      go_ret;exact ⟨by first|(rw [HCe.out];done)|(rw [HCe.out];rfl),HB2.out⟩
     | false =>
      rw [g2] at hof;by_cases g3:x.de < 0
      ·clear hof;go_wp2_with (go_at_call 52;refine (HAm.out _ _).mono ?_;rintro e w' ⟨rfl,hw⟩;rw [hw,g1];clear hw w')
       go_ret;exact ⟨by first|(rw [HCe.out];done)|(rw [HCe.out];rfl),HB2.out⟩
      ·have g4:x.oo < x.de:=by
        simp only [Bool.true_and,Bool.not_false,decide_eq_false g3] at hof;simpa using hof
       clear hof;go_wp2_with (go_at_call 52;refine (HAm.out _ _).mono ?_;rintro e w' ⟨rfl,hw⟩;rw [hw,g1];clear hw w')
       go_ret;exact ⟨by first|(rw [HCe.out];done)|(rw [HCe.out];rfl),HB2.out⟩
  ·have hltz:¬ (k:Int) < (l.length:Int):=by omega
   have HCe:Hid (C=0):=HI.out.symm.trans (kR l k (by omega));go_wp2;go_ret;exact ⟨by first|(rw [HCe.out];done)|(rw [HCe.out];rfl),Co.out⟩
end Ac
namespace Tw
open Go.RowKit
open Cm (Ln lnv bf iU jg)
theorem KZ (W:World) (x:Int) (c:UInt8) (h:x=(c.toNat:Int)):(convert 130 9 (.slice (some ⟨W.heap.size,0,none⟩) 1 1)).run Tryz.prog (W.alloc (.cells #[.int .u8 x] 5))=.ok (.string (mk [c])) (W.alloc (.cells #[.int .u8 x] 5)):=by
 subst h;exact run_convert_bytes_back (P:=Tryz.prog) (W.alloc (.cells #[.int .u8 (c.toNat:Int)] 5)) 130 9 5 ⟨W.heap.size,0,none⟩ 1 [c] Tryz.underlying130 Tryz.underlying5 Tryz.underlying9 (fun j hj=>by
  have:j=0:=by simpa using hj
  subst this;rw [show (⟨W.heap.size,0,none⟩:Addr).add 0=⟨W.heap.size,0,none⟩ by unfold Addr.add;split<;>simp_all,World.cell?_alloc_new];rfl)
theorem La {m:Int} (h:m.tmod 10 < 0):dig m=m.tmod 10+10:=by unfold dig;rw [if_pos h]
theorem Lc {m:Int} (h:¬ m.tmod 10 < 0):dig m=m.tmod 10:=by unfold dig;rw [if_neg h]
theorem Oc (x:Ln) (m:Value) (w:World) (hm:dI All w m x.mods) (hx:aZ x) :
  Calls Tryz.prog 54 #[lnv x m] w fun e w'=>e=.returned (.string (mk (uo x)))/\Below w.heap.size w w':=by
 have HLn:=zZ (uj x hx);have HSt:=zZ (um x);have HAll:=zZ (uh x);obtain ⟨x0,x1,x2,x3,x4⟩:=hx;have HZ:=zZ x4;have HM:=zZ fun W (h:Below w.heap.size w W)=>dI.move hm (Below.moves h);obtain ⟨a,c,rfl,f1,f2⟩:=Cm.dI.form hm;have HX:=zZ (Cm.bf.new w x (.slice a x.mods.length c) 48);have HW:=zZ (iU w (.cells #[.string (mk x.proc),.slice a x.mods.length c,iI x.date,iI x.units,iI x.Av,iI x.prior] 48));have HK0:=zZ (ug x);clear hm x4;go_enter Tryz.func54,Tryz.ntmps54
 go_wp2_with fail
 generalize w.alloc (.cells #[.string (mk x.proc),.slice a x.mods.length c,iI x.date,iI x.units,iI x.Av,iI x.prior] 48)=W at *;obtain ⟨c0,c1,c2,c3,c4,c5⟩:=HX.out;go_wp2;go_loopg [3,4,5] 8 (fun gg s d i wr=>∃(k:Nat) (m:Int) (l:List UInt8),k<=8/\gg=8 - k/\s=.string (mk l)/\d=iI m/\i=iI k ∧ -9223372036854775808<=m/\m<=9223372036854775807/\l.length=k/\Hid (Below W.heap.size W wr)/\Hid (l ++ ng (8 - k) m=ng 8 x.date))
 case atStart=>exact ⟨0,x.date,[],by omega,rfl,rfl,rfl,rfl,x0,x1,rfl,Below.refl _ _,rfl⟩
 case round =>
  obtain ⟨k,m,l,hk,hg,rfl,rfl,rfl,hm0,hm1,hll,HB,HD⟩:=hrel;clear c0 c1 c2 c3 c4 c5;have hms:=xM l;by_cases hlt:k < 8
  ·have hqb:-9223372036854775808<=m.tdiv 10/\m.tdiv 10<=9223372036854775807:=CU m hm0 hm1;obtain ⟨d0,d1⟩:=mZ m;have HS:=zZ (FK m);have HN:=zZ (ny (8 - (k+1)) m l);have hm1':=Int.tmod_lt_of_pos m (b:=10) (by omega);have hm2':=Int.lt_tmod_of_pos m (b:=10) (by omega);generalize UInt8.ofNat (48+dig m).toNat=ch at *;have HA:=zZ (L9 l [ch]);have hsc:=xM [ch];have HBa:=zZ fun o=>jg HB.out (iU wr o);by_cases hz:m.tmod 10 < 0
   ·have HE:=zZ (La hz);have hcv:=KZ wr (48+(m.tmod 10+10)) ch (by rw [HS.out,HE.out]);go_wp2;go_roundg (8 - (k+1))
    case rel=>exact ⟨k+1,m.tdiv 10,l ++ [ch],by omega,rfl,by rw [←HA.out],rfl,by go_num,hqb.1,hqb.2,by simp [hll],HBa.out _,by
     have:=HD.out;rw [show 8 - k=8 - (k+1)+1 by omega,HN.out] at this;exact this⟩
    case measure=>omega
   ·have HE:=zZ (Lc hz);have hcv:=KZ wr (48+m.tmod 10) ch (by rw [HS.out,HE.out]);go_wp2;go_roundg (8 - (k+1))
    case rel=>exact ⟨k+1,m.tdiv 10,l ++ [ch],by omega,rfl,by rw [←HA.out],rfl,by go_num,hqb.1,hqb.2,by simp [hll],HBa.out _,by
     have:=HD.out;rw [show 8 - k=8 - (k+1)+1 by omega,HN.out] at this;exact this⟩
    case measure=>omega
  ·have HD':Hid (l ++ x.proc=uf x 0):=by
    show l ++ x.proc=uf x 0;rw [HK0.out,←HD.out,show 8 - k=0 by omega];simp [ng]
   obtain ⟨wo,hwo⟩:∃z,z=wr:=⟨_,rfl⟩;subst hwo;obtain ⟨c0,c1,c2,c3,c4,c5⟩:=Cm.bf.Bu HX.out HB.out;have hlt':¬ (k:Int) < 8:=by omega
   have HA:=zZ (L9 l x.proc);have hsp:=xM x.proc;go_wp2;go_loopg [3,7] x.mods.length (fun gg s i wr=>∃j:Nat,j<=x.mods.length/\gg=x.mods.length - j/\i=iI j/\s=.string (mk (uf x j))/\wr=wo)
   case atStart=>exact ⟨0,Nat.zero_le _,rfl,rfl,by rw [HA.out,HD'.out],rfl⟩
   case round =>
    obtain ⟨j,hj,hgj,rfl,rfl,rfl⟩:=hrel;obtain ⟨l0,l1⟩:=HLn.out j;have hsk:=xM (uf x j);by_cases hltj:j < x.mods.length
    ·obtain ⟨b,o,rfl,hx,hc⟩:=Cm.He (HM.out _ (jg HW.out HB.out)) j hltj;have ht:=HZ.out _ (List.mem_of_getElem? hx);have HN:=zZ (HSt.out j _ hx);generalize x.mods[j]=t at *;clear hx;have HA1:=zZ (L9 (uf x j) [58]);have HA2:=zZ (L9 (uf x j ++ [58]) t);have hst:=xM t;go_wp2;go_roundg (x.mods.length - (j+1))
     case rel=>exact ⟨j+1,by omega,rfl,by go_num,by rw [HN.out,←HA2.out,←HA1.out];rfl,rfl⟩
     case measure=>omega
    ·have HV:=zZ (HAll.out j (by omega));have hltj':¬ (j:Int) < (x.mods.length:Int):=by omega
     go_wp2;go_ret;exact ⟨by rw [HV.out];rfl,jg HW.out HB.out⟩
end Tw
namespace Cm
open Go.RowKit
theorem Mc (x y:Tx):((mk x).toList == (mk y).toList)=decide (x=y):=by
 rw [Lib.toList_data,Lib.toList_data,xI,xI];rw [Bool.eq_iff_iff];simp
end Cm
end Go.Proofs.YtfbfeoplldjbpaaGreatDoor
