/-
  Texts put together (merge.py): PChd, PChb, PRRu, PCha.
-/
import Derived.Test.YtfbfeoplldjbpaaGreatDoorMd12
set_option linter.unusedSimpArgs false
set_option linter.unusedVariables false
set_option maxHeartbeats 16000000
set_option maxRecDepth 100000
namespace Go.Proofs.YtfbfeoplldjbpaaGreatDoor
namespace Pl
open Go.RowKit
open Wo (Wd jI jQ tV qL)
theorem kN (s:St) (w:World) :
  Calls Tryz.prog 142 #[stv s] w fun e w'=>e=.returned (.bool (gM s))/\Below w.heap.size w w':=by
 have HB:=zZ (iU w (.cells #[iI s.what,iI s.n] 85));obtain ⟨k,n⟩:=s;by_cases h1:k=1 ∨ k=2
 ·have Bn:Hid (gM ⟨k,n⟩=(n == 0 || n == 1)):=by
   show _=_;unfold gM;simp only [if_pos h1];rw [Bool.eq_iff_iff];simp;omega
  rcases h1 with rfl|rfl
  all_goals
   cases h0:(n == 0)<;>cases hh:(n == 1)
   all_goals
    rw [h0,hh] at Bn;go_enter Tryz.func142,Tryz.ntmps142
    go_wp2;go_ret;exact ⟨by rw [Bn.out];rfl,HB.out⟩
 by_cases h3:k=3
 ·subst h3;have Bn:Hid (gM ⟨3,n⟩=qg n):=by
   show _=_;unfold gM qg;rw [Bool.eq_iff_iff];simp
  have HG:=zZ fun W=>qj n W;generalize qg n=G at *;go_enter Tryz.func142,Tryz.ntmps142
  go_wp2_with (first|(go_at_call 76;refine (HG.out _).mono ?_;rintro e w1 ⟨rfl,rfl⟩))
  go_ret;exact ⟨by rw [Bn.out];rfl,HB.out⟩
 by_cases h4:k=4
 ·subst h4;have Bn:Hid (gM ⟨4,n⟩=(decide (0<=n) && decide (n<=10000))):=rfl;cases h0:decide (0<=n)<;>cases hh:decide (n<=10000)
  all_goals
   rw [h0,hh] at Bn;go_enter Tryz.func142,Tryz.ntmps142
   go_wp2;go_ret;exact ⟨by rw [Bn.out];rfl,HB.out⟩
 ·have Bn:Hid (gM ⟨k,n⟩=false):=by
   show _=_;unfold gM;simp only [if_neg h1,if_neg h3,if_neg h4,Bool.and_false]
  have b1:(k == 1)=false:=by simp;omega
  have b2:(k == 2)=false:=by simp;omega
  have b3:(k == 3)=false:=by simp;omega
  have b4:(k == 4)=false:=by simp;omega
  clear h1 h3 h4;go_enter Tryz.func142,Tryz.ntmps142
  go_wp2;go_ret;exact ⟨by rw [Bn.out];rfl,HB.out⟩
theorem dD.take {K:Nat->Prop} {w:World} {a:Option Addr} {n c:Nat} {ss:List St} (h:dD K w (.slice a n c) ss) (k:Nat) (hk:k<=ss.length):dD K w (.slice a k c) (ss.take k):=by
 obtain ⟨a',c',he,h1,h2,h4,h5,h3⟩:=h;injection he with e1 e2 e3;subst e1 e2 e3;have hl:(ss.take k).length=k:=by simp;omega
 refine ⟨a,c,by rw [hl],by rw [hl];omega,h2,by rw [hl];omega,fun x hx=>h5 x (List.mem_of_mem_take hx),?_⟩;rcases h3 with h|⟨b,o,ha,hK,hb,hc⟩
 ·subst h;left;simp
 ·exact Or.inr ⟨b,o,ha,hK,hb,fun j x hj=>hc j x (by rw [List.getElem?_take] at hj;split at hj;exact hj;cases hj)⟩
theorem FC (ss:List St) (k:Nat) (s:St) (seen:List Int) (h:ss[k]?=some s):Fp seen (ss.drop k)=(gM s && (decide (s.what ∉ seen) && Fp (seen ++ [s.what]) (ss.drop (k+1)))):=by
 have hk:k < ss.length:=(List.getElem?_eq_some_iff.1 h).1;have hs:ss[k]=s:=(List.getElem?_eq_some_iff.1 h).2;rw [List.drop_eq_getElem_cons hk,hs];rfl
theorem wY (ss:List St) (k:Nat) (s:St) (h:ss[k]?=some s):(ss.take (k+1)).map (·.what)=(ss.take k).map (·.what) ++ [s.what]:=by
 rw [List.take_add_one,h];simp
theorem kP (v:Value) (ss:List St) (w:World) (h:dD All w v ss) :
  Calls Tryz.prog 104 #[v] w fun e w'=>e=.returned (.bool (decide (1<=ss.length) && Fp [] ss))/\Below w.heap.size w w':=by
 have HS:=zZ h;obtain ⟨a,c,rfl,h1,h2,h4⟩:=h.form;have HB0:=zZ (Below.refl w.heap.size w);obtain ⟨R,hR⟩:∃R,R=Fp [] ss:=⟨_,rfl⟩;have HR0:Hid (R=Fp ((ss.take 0).map (·.what)) (ss.drop 0)):=hR;rw [←hR];clear h hR;go_enter Tryz.func104,Tryz.ntmps104
 go_wp2;go_loopg [7] (ss.length) (fun g i wr=>∃(n:Nat),n<=ss.length/\g=ss.length - n/\i=iI n/\Hid (Below w.heap.size w wr)/\Hid (R=Fp ((ss.take n).map (·.what)) (ss.drop n)))
 case atStart=>exact ⟨0,Nat.zero_le _,rfl,rfl,HB0.out,HR0.out⟩
 case round =>
  clear HB0 HR0;obtain ⟨n,hn,hg,rfl,HB,HA⟩:=hrel;by_cases hlt:n < ss.length
  ·obtain ⟨b,o,rfl,hbs,hx,y0,y1,-,-⟩:=dD.get (HS.out.Bu HB.out) n hlt;have HMT:=zZ (wY ss n _ hx);have HAT:=zZ (HA.out.trans (FC ss n _ _ hx));have hbx:=iU wr (.cells #[iI ss[n].what,iI ss[n].n] 85);have HBX:=zZ (jg HB.out hbx);have HXX:=zZ (heap_alloc_new wr (.cells #[iI ss[n].what,iI ss[n].n] 85));have HTK:=zZ fun (W:World) (hW:Below w.heap.size w W)=>dD.take (HS.out.Bu hW) n hn;clear hx hbx HA;generalize ss[n]=s at *;have HCS:=zZ fun W=>kN s W;have HIS:=zZ fun W (hW:Below w.heap.size w W)=>sJ _ (ss.take n) s.what W (HTK.out W hW);have hcc:n<=c:=by omega
   go_upto_region 4 with fail
   clear y0 y1;generalize wr.alloc (.cells #[iI s.what,iI s.n] 85)=W1 at *;generalize wr.heap.size=p at *;generalize gM s=SB at *;generalize hdm:decide (s.what ∈ (ss.take n).map (·.what))=DM at *;have HDN:Hid (decide (s.what ∉ (ss.take n).map (·.what)) = !DM):=by show _=_;rw [←hdm];simp
   clear hdm;obtain ⟨x0,x1,-,-⟩:=jQ HXX.out;go_cut [22] (fun s22 wx=>s22=.bool (!(SB && !DM))/\Hid (Below W1.heap.size W1 wx))
   case first =>
    cases SB
    ·first|(go_region_with (first|(go_at_call 142;refine (HCS.out _).mono ?_;rintro x w1 ⟨rfl,hb1⟩;have HB1:=zZ hb1;clear hb1)))|fail
     all_goals
      go_wp2_with fail
      go_meet
      exact ⟨rfl,jg (Below.drew (Below.refl _ W1)) HB1.out⟩
    ·have Bt:=zZ fun (w1:World) (h:Below W1.drew.heap.size W1.drew w1)=>jQ (tV (w:=W1.drew) HXX.out h);go_region_with (first|(go_at_call 142;refine (HCS.out _).mono ?_;rintro x w1 ⟨rfl,hb1⟩;obtain ⟨z0,z1,-,-⟩:=Bt.out _ hb1;have HB1:=zZ hb1;clear hb1)|(go_at_call 143;refine (HIS.out _ (jg HBX.out (jg (Below.drew (Below.refl _ W1)) HB1.out))).mono ?_;rintro x w2 ⟨rfl,hb2⟩;have HB2:=zZ hb2;clear hb2))
     all_goals
      go_wp2_with fail
      go_meet
      exact ⟨by cases DM<;>rfl,jg (Below.drew (Below.refl _ W1)) (jg HB1.out HB2.out)⟩
   case rest =>
    obtain ⟨rfl,HBx⟩:=hcut;have HBw:=zZ (jg HBX.out HBx.out);have hR:=HAT.out;rw [HDN.out] at hR;have HR:=zZ hR;clear HXX HTK HCS HIS HAT HDN hR HBX HBx x0 x1;cases hq:(SB && !DM)
    ·have HRF:Hid (R=false):=by
      show _=_;rw [HR.out];cases SB<;>cases DM<;>simp_all
     clear hq HR;go_wp2;go_ret;exact ⟨by rw [HRF.out,Bool.and_false];rfl,HBw.out⟩
    ·have HRT:Hid (R=Fp ((ss.take (n+1)).map (·.what)) (ss.drop (n+1))):=by
      show _=_;rw [HR.out,HMT.out];cases SB<;>cases DM<;>simp_all
     clear hq HR;go_wp2;go_roundg (ss.length - (n+1))
     case rel=>exact ⟨n+1,by omega,rfl,by go_num,HBw.out,HRT.out⟩
     case measure=>omega
  ·have hall:ss.drop n=[]:=List.drop_eq_nil_of_le (by omega);have HRT:Hid (R=true):=by show _=_;rw [HA.out,hall];rfl
   clear hall HA;by_cases hz:0 < ss.length
   ·go_wp2;go_ret;exact ⟨by rw [HRT.out,decide_eq_true (by omega)];rfl,HB.out⟩
   ·go_wp2;go_ret;exact ⟨by rw [HRT.out,decide_eq_false (by omega)];rfl,HB.out⟩
end Pl
namespace Pl
open Go.RowKit
open Wo (Wd jI jQ tV qL)
theorem iR {w:World} {q:Nat} {a0 a1 a2 a3 a4 a5 a6 a7:Value} {T:TypeId} (h:w.heap[q]?=some (.cells #[a0,a1,a2,a3,a4,a5,a6,a7] T (0,0))):w.cell? ⟨q,0,none⟩=some a0/\w.cell? ⟨q,1,none⟩=some a1/\w.cell? ⟨q,2,none⟩=some a2/\w.cell? ⟨q,3,none⟩=some a3/\w.cell? ⟨q,4,none⟩=some a4/\w.cell? ⟨q,5,none⟩=some a5/\w.cell? ⟨q,6,none⟩=some a6/\w.cell? ⟨q,7,none⟩=some a7:=by
 refine ⟨?_,?_,?_,?_,?_,?_,?_,?_⟩<;>rw [cell_of_row w q _ _ T (0,0) h]<;>rfl
theorem D5 (r:Ru):DZ r=((decide (0<=r.rank) && decide (r.rank<=9999)) && (lV 16 r.BS && (decide (r.Ct.length<=1) && (r.Ct.all (lV 16) && (decide (1<=r.sets.length) && Fp [] r.sets))))):=rfl
theorem kM (r:Ru) (k u s:Value) (w:World) (h:bW All w r k u s) :
  Calls Tryz.prog 63 #[ruv r k u s] w fun e w'=>e=.returned (.bool (DZ r))/\Below w.heap.size w w':=by
 obtain ⟨h64,hok,hul,hk,hu,hs⟩:=h;have hb:=iU w (.cells #[iI r.rank,iI r.BS.kind,.string (mk r.BS.lo),.string (mk r.BS.hi),iI r.BS.n,k,u,s] 82);have HB:=zZ hb;have HX:=zZ (heap_alloc_new w (.cells #[iI r.rank,iI r.BS.kind,.string (mk r.BS.lo),.string (mk r.BS.hi),iI r.BS.n,k,u,s] 82));have HU:=zZ (hu.Bu hb);have HS:=zZ (hs.Bu hb);have HC:=zZ fun W (hW:Below w.heap.size w W)=>kJ 16 1 (by decide) (by decide) r.BS k W (hk.Bu hW) hok;obtain ⟨ka,kc,rfl,-,-⟩:=hk.form;obtain ⟨ua,uc,rfl,hu1,hu2⟩:=hu.form;obtain ⟨sa,sc,rfl,-,-,-⟩:=hs.form;obtain ⟨x0,x1,x2,x3,x4,x5,x6,x7⟩:=iR HX.out;have HR:=zZ (D5 r);have hul2:r.Ct.length<=281474976710656:=hul;clear hb hk hu hs h64 hok hul;generalize DZ r=R at *;by_cases c1:r.rank < 0
 ·have Bn:Hid (R=false):=by show _=_;rw [HR.out,decide_eq_false (show ¬ 0<=r.rank by omega)];simp
  clear HR HC HU HS;go_enter Tryz.func63,Tryz.ntmps63
  go_wp2;go_ret;exact ⟨by rw [Bn.out];rfl,HB.out⟩
 by_cases c2:9999 < r.rank
 ·have Bn:Hid (R=false):=by show _=_;rw [HR.out,decide_eq_false (show ¬ r.rank<=9999 by omega)];simp
  clear HR HC HU HS;go_enter Tryz.func63,Tryz.ntmps63
  go_wp2;go_ret;exact ⟨by rw [Bn.out];rfl,HB.out⟩
 by_cases c3:1 < r.Ct.length
 ·have Bn:Hid (R=false):=by show _=_;rw [HR.out,decide_eq_false (show ¬ r.Ct.length<=1 by omega)];simp
  clear HR HC HU HS;go_enter Tryz.func63,Tryz.ntmps63
  go_wp2;go_ret;exact ⟨by rw [Bn.out];rfl,HB.out⟩
 have HR2:Hid (R=(lV 16 r.BS && (r.Ct.all (lV 16) && (decide (1<=r.sets.length) && Fp [] r.sets)))):=by
  show _=_;rw [HR.out,decide_eq_true (show 0<=r.rank by omega),decide_eq_true (show r.rank<=9999 by omega),decide_eq_true (show r.Ct.length<=1 by omega)];simp
 clear HR;cases hc:lV 16 r.BS
 ·rw [hc] at HC HR2;have Bn:Hid (R=false):=HR2.out;clear HR2 HU HS hc;go_enter Tryz.func63,Tryz.ntmps63
  go_wp2_with (first|(go_at_call 103;refine (HC.out _ HB.out).mono ?_;rintro e w1 ⟨rfl,hb1⟩;have HB1:=zZ hb1;clear hb1))
  go_ret;exact ⟨by rw [Bn.out];rfl,jg HB.out HB1.out⟩
 rw [hc] at HC HR2;clear hc;go_enter Tryz.func63,Tryz.ntmps63
 go_wp2_with fail
 go_at_call 103
 refine (HC.out _ HB.out).mono ?_;rintro e w1 ⟨rfl,hb1⟩;have HB1:=zZ (jg HB.out hb1);have HU1:=zZ (HU.out.Bu hb1);have HS1:=zZ (HS.out.Bu hb1);have Cz:=zZ (tV HX.out hb1);obtain ⟨x0,x1,x2,x3,x4,x5,x6,x7⟩:=iR Cz.out;have HW0:=zZ (Below.refl w1.heap.size w1);clear hb1 HB HX HU HS HC;go_wp2;go_loopg [28] (r.Ct.length) (fun g i wr=>∃n:Nat,n<=r.Ct.length/\g=r.Ct.length - n/\i=iI n/\Hid (Below w1.heap.size w1 wr)/\Hid ((r.Ct.take n).all (lV 16)=true))
 case atStart=>exact ⟨0,Nat.zero_le _,rfl,rfl,HW0.out,rfl⟩
 case round =>
  clear HW0 x0 x1 x2 x3 x4 x5 x6 x7;obtain ⟨n,hn,hgk,rfl,Cv,HA⟩:=hrel;by_cases hlt:n < r.Ct.length
  ·obtain ⟨b,o,mv,rfl,hbs,hx,hcc,hkk,hok⟩:=aX.get (HU1.out.Bu Cv.out) n hlt;obtain ⟨y0,y1,y2,y3,y4⟩:=hcc;obtain ⟨ma,mc,rfl,-,-⟩:=hkk.form;have hbz:=iU wr (.cells #[iI r.Ct[n].kind,.string (mk r.Ct[n].lo),.string (mk r.Ct[n].hi),iI r.Ct[n].n,.slice ma r.Ct[n].kids.length mc] 79);have HC:=zZ (kJ 16 1 (by decide) (by decide) r.Ct[n] _ _ (hkk.Bu hbz) hok);have HBz:=zZ (jg Cv.out hbz);have HT:=zZ fun h=>fG (p:=lV 16) r.Ct n _ hx HA.out h;have HN:=zZ fun h=>fB (p:=lV 16) r.Ct n _ hx h;clear hx hkk hok hbz;generalize r.Ct[n]=kd at *;cases hq:lV 16 kd
   ·rw [hq] at HC;have HN2:=zZ (HN.out hq);clear hq HT HN;go_wp2_with (go_at_call 103;refine HC.out.mono ?_;rintro e w3 ⟨rfl,hb3⟩;have HB3:=zZ hb3;clear hb3)
    go_ret;exact ⟨by rw [HR2.out,HN2.out];rfl,jg HB1.out (jg HBz.out HB3.out)⟩
   ·rw [hq] at HC;have HT2:=zZ (HT.out hq);clear hq HT HN;go_wp2_with (go_at_call 103;refine HC.out.mono ?_;rintro e w3 ⟨rfl,hb3⟩;have HB3:=zZ hb3;clear hb3)
    go_roundg (r.Ct.length - (n+1))
    case rel=>exact ⟨n+1,by omega,rfl,by go_num,jg HBz.out HB3.out,HT2.out⟩
    case measure=>omega
  ·have hall:r.Ct.take n=r.Ct:=List.take_of_length_le (by omega);rw [hall] at HA;have HCS:=zZ (kP _ r.sets wr (HS1.out.Bu Cv.out));obtain ⟨x0,x1,x2,x3,x4,x5,x6,x7⟩:=iR (tV Cz.out Cv.out);clear hall;have HR3:=HR2.out;rw [HA.out] at HR3;simp only [Bool.true_and] at HR3;have HR4:=zZ HR3;clear HR3;generalize (decide (1<=r.sets.length) && Fp [] r.sets)=Z at *;go_wp2_with (go_at_call 104;refine HCS.out.mono ?_;rintro e w3 ⟨rfl,hb3⟩;have HB3:=zZ hb3;clear hb3)
   go_ret;exact ⟨by rw [HR4.out];rfl,jg HB1.out (jg Cv.out HB3.out)⟩
end Pl
namespace Pl
open Go.RowKit
open Wo (Wd jI jQ tV qL)
theorem NC (s:St) (w:World) :
  Calls Tryz.prog 114 #[stv s] w fun e w'=>e=.returned (.bool (gM s))/\Below w.heap.size w w':=by
 have HB:=zZ (iU w (.cells #[iI s.what,iI s.n] 85));obtain ⟨k,n⟩:=s;by_cases hneg:n < 0
 ·have Bn:Hid (gM ⟨k,n⟩=false):=by
   show _=_;unfold gM;rw [decide_eq_false (show ¬ (0:Int)<=n by omega)];rfl
  go_enter Tryz.func114,Tryz.ntmps114
  go_wp2;go_ret;exact ⟨by rw [Bn.out]<;>rfl,HB.out⟩
 by_cases h1:k=1 ∨ k=2
 ·have Bn:Hid (gM ⟨k,n⟩=decide (n<=1)):=by
   show _=_;unfold gM;simp only [if_pos h1];rw [decide_eq_true (show (0:Int)<=n by omega)];rfl
  rcases h1 with rfl|rfl
  all_goals
   cases hh:decide (n<=1)
   all_goals
    rw [hh] at Bn;go_enter Tryz.func114,Tryz.ntmps114
    go_wp2;go_ret;exact ⟨by rw [Bn.out]<;>rfl,HB.out⟩
 by_cases h3:k=3
 ·subst h3;have Bn:Hid (gM ⟨3,n⟩=qg n):=by
   show _=_;unfold gM qg;rw [Bool.eq_iff_iff];simp
  have HG:=zZ fun W=>NQ n W;generalize qg n=G at *;go_enter Tryz.func114,Tryz.ntmps114
  go_wp2_with (first|(go_at_call 52;refine (HG.out _).mono ?_;rintro e w1 ⟨rfl,rfl⟩))
  go_ret;exact ⟨by rw [Bn.out]<;>rfl,HB.out⟩
 by_cases h4:k=4
 ·subst h4;have Bn:Hid (gM ⟨4,n⟩=decide (n<=10000)):=by
   show _=_;unfold gM;rw [decide_eq_true (show (0:Int)<=n by omega)];rfl
  cases hh:decide (n<=10000)
  all_goals
   rw [hh] at Bn;go_enter Tryz.func114,Tryz.ntmps114
   go_wp2;go_ret;exact ⟨by rw [Bn.out]<;>rfl,HB.out⟩
 ·have Bn:Hid (gM ⟨k,n⟩=false):=by
   show _=_;unfold gM;simp only [if_neg h1,if_neg h3,if_neg h4,Bool.and_false]
  have b1:(k == 1)=false:=by simp;omega
  have b2:(k == 2)=false:=by simp;omega
  have b3:(k == 3)=false:=by simp;omega
  have b4:(k == 4)=false:=by simp;omega
  clear h1 h3 h4;go_enter Tryz.func114,Tryz.ntmps114
  go_wp2;go_ret;exact ⟨by rw [Bn.out]<;>rfl,HB.out⟩
theorem Kz (p:Cd->Bool) (l:List Cd) (h:l.length=1):l.all p=p (l[0]'(by omega)):=by
 match l,h with
 | [a],_=>simp
theorem O7 (ss:List St) (n:Nat) (x:Int) (h:∀j,j < n->∀(hj:j < ss.length),ss[j].what ≠ x):decide (x ∉ (ss.take n).map (·.what))=true:=by
 rw [decide_eq_true_eq,List.mem_map];rintro ⟨s,hs,rfl⟩;obtain ⟨j,hj,rfl⟩:=List.getElem_of_mem hs;simp only [List.length_take] at hj;exact h j (by omega) (by omega) (by simp)
theorem O6 (ss:List St) (n j:Nat) (x:Int) (hj:j < n) (hl:j < ss.length) (h:ss[j].what=x):decide (x ∉ (ss.take n).map (·.what))=false:=by
 rw [decide_eq_false_iff_not,Classical.not_not,List.mem_map];exact ⟨ss[j],List.mem_iff_getElem.2 ⟨j,by simp;omega,by simp⟩,h⟩
theorem Nz (r:Ru) (k u s:Value) (w:World) (h:bW All w r k u s) :
  Calls Tryz.prog 67 #[ruv r k u s] w fun e w'=>e=.returned (.bool (DZ r))/\Below w.heap.size w w':=by
 obtain ⟨h64,hok,hul,hk,hu,hs⟩:=h;have hb:=iU w (.cells #[iI r.rank,iI r.BS.kind,sS r.BS.lo,sS r.BS.hi,iI r.BS.n,k,u,s] 82);have HB:=zZ hb;have HX:=zZ (heap_alloc_new w (.cells #[iI r.rank,iI r.BS.kind,sS r.BS.lo,sS r.BS.hi,iI r.BS.n,k,u,s] 82));have HU:=zZ (hu.Bu hb);have HS:=zZ (hs.Bu hb);have HC:=zZ (Nw 16 1 (by decide) (by decide) r.BS k _ (hk.Bu hb) hok);obtain ⟨ka,kc,rfl,-,-⟩:=hk.form;obtain ⟨ua,uc,rfl,hu1,hu2⟩:=hu.form;obtain ⟨sa,sc,rfl,hs1,hs2,hs3⟩:=hs.form;obtain ⟨x0,x1,x2,x3,x4,x5,x6,x7⟩:=iR HX.out;have hul2:r.Ct.length<=281474976710656:=hul;have hsl2:r.sets.length<=281474976710656:=hs3;obtain ⟨G1,hG1⟩:∃G1,G1=((decide (0<=r.rank) && decide (r.rank<=9999)) && (lV 16 r.BS && (decide (r.Ct.length<=1) && decide (1<=r.sets.length)))):=⟨_,rfl⟩;have HR:Hid (DZ r=(G1 && (r.Ct.all (lV 16) && Fp [] r.sets))):=by
  show _=_;rw [D5,hG1];cases decide (0<=r.rank)<;>cases decide (r.rank<=9999)<;>cases lV 16 r.BS<;>cases decide (r.Ct.length<=1)<;>cases decide (1<=r.sets.length)<;>simp
 have HU1:Hid (G1=true->r.Ct.length<=1):=by
  intro h;rw [h] at hG1;simp at hG1;exact hG1.2.2.1
 have HG1:=zZ hG1;clear hb hk hu hs h64 hok hul hG1 hs3;generalize DZ r=R at *;go_enter Tryz.func67,Tryz.ntmps67
 go_upto_region 1 with fail
 generalize w.alloc (.cells #[iI r.rank,iI r.BS.kind,sS r.BS.lo,sS r.BS.hi,iI r.BS.n,.slice ka r.BS.kids.length kc,.slice ua r.Ct.length uc,.slice sa r.sets.length sc] 82)=W0 at *;generalize hp:w.heap.size=p at *;go_cut [30] (fun s30 wx=>s30=.bool (!G1)/\Hid (Below W0.heap.size W0 wx))
 case first =>
  clear HU HS HU1 HR;by_cases c1:r.rank < 0
  ·have Bn:Hid (G1=false):=by show _=_;rw [HG1.out,decide_eq_false (show ¬ 0<=r.rank by omega)];simp
   clear HG1;go_wp2;go_meet
   exact ⟨by rw [Bn.out]<;>rfl,Below.refl _ _⟩
  by_cases c2:9999 < r.rank
  ·have Bn:Hid (G1=false):=by show _=_;rw [HG1.out,decide_eq_false (show ¬ r.rank<=9999 by omega)];simp
   clear HG1;go_wp2;go_meet
   exact ⟨by rw [Bn.out]<;>rfl,Below.refl _ _⟩
  have HG2:Hid (G1=(lV 16 r.BS && (decide (r.Ct.length<=1) && decide (1<=r.sets.length)))):=by
   show _=_;rw [HG1.out,decide_eq_true (show 0<=r.rank by omega),decide_eq_true (show r.rank<=9999 by omega)];simp
  clear HG1;have Bt:=zZ fun (w1:World) (h:Below W0.heap.size W0 w1)=>iR (tV HX.out h);generalize lV 16 r.BS=CB at *;cases CB
  ·have Bn:Hid (G1=false):=HG2.out;clear HG2;go_wp2_with (first|(go_at_call 113;refine HC.out.mono ?_;rintro e w1 ⟨rfl,hb1⟩;have HB1:=zZ hb1;clear hb1))
   go_meet
   exact ⟨by rw [Bn.out]<;>rfl,HB1.out⟩
  by_cases c3:1 < r.Ct.length
  ·have Bn:Hid (G1=false):=by show _=_;rw [HG2.out,decide_eq_false (show ¬ r.Ct.length<=1 by omega)];rfl
   clear HG2;go_wp2_with (first|(go_at_call 113;refine HC.out.mono ?_;rintro e w1 ⟨rfl,hb1⟩;obtain ⟨z0,z1,z2,z3,z4,z5,z6,z7⟩:=Bt.out _ hb1;have HB1:=zZ hb1;clear hb1))
   go_meet
   exact ⟨by rw [Bn.out]<;>rfl,HB1.out⟩
  by_cases c4:r.sets.length < 1
  ·have Bn:Hid (G1=false):=by show _=_;rw [HG2.out,decide_eq_false (show ¬ 1<=r.sets.length by omega)];simp
   clear HG2;go_wp2_with (first|(go_at_call 113;refine HC.out.mono ?_;rintro e w1 ⟨rfl,hb1⟩;obtain ⟨z0,z1,z2,z3,z4,z5,z6,z7⟩:=Bt.out _ hb1;have HB1:=zZ hb1;clear hb1))
   go_meet
   exact ⟨by rw [Bn.out,decide_eq_false (show ¬ (1:Int) < ↑r.Ct.length by omega),decide_eq_true (show (↑r.sets.length:Int) < 1 by omega)]<;>rfl,HB1.out⟩
  ·have Bn:Hid (G1=true):=by show _=_;rw [HG2.out,decide_eq_true (show r.Ct.length<=1 by omega),decide_eq_true (show 1<=r.sets.length by omega)];rfl
   clear HG2;go_wp2_with (first|(go_at_call 113;refine HC.out.mono ?_;rintro e w1 ⟨rfl,hb1⟩;obtain ⟨z0,z1,z2,z3,z4,z5,z6,z7⟩:=Bt.out _ hb1;have HB1:=zZ hb1;clear hb1))
   go_meet
   exact ⟨by rw [Bn.out,decide_eq_false (show ¬ (1:Int) < ↑r.Ct.length by omega),decide_eq_false (show ¬ (↑r.sets.length:Int) < 1 by omega)]<;>rfl,HB1.out⟩
 case rest =>
  obtain ⟨rfl,HBx⟩:=hcut;have HB1:Hid (Below p w wc):=jf hp HB.out HBx.out;have HU2:=zZ (HU.out.Bu HBx.out);have HS2:=zZ (HS.out.Bu HBx.out);have HX2:=zZ (tV HX.out HBx.out);obtain ⟨x0,x1,x2,x3,x4,x5,x6,x7⟩:=iR HX2.out;clear HB HX HU HS HC HG1 HBx;cases G1 with
  | false =>
   have Bn:Hid (R=false):=HR.out;go_wp2;go_ret;exact ⟨by rw [Bn.out]<;>rfl,by first|exact HB1.out|(rw [hp];exact HB1.out)⟩
  | true =>
   have hu3:=HU1.out rfl;have HR2:Hid (R=(r.Ct.all (lV 16) && Fp [] r.sets)):=by show _=_;rw [HR.out];simp
   clear HR HU1;obtain ⟨wa,hwa⟩:∃x,x=wc:=⟨_,rfl⟩;subst hwa;go_upto_region 3 with fail
   go_cut [42] (fun s42 wx=>s42=.bool (!(r.Ct.all (lV 16)))/\Hid (Below wa.heap.size wa wx))
   case first =>
    by_cases hz:r.Ct.length=1
    ·obtain ⟨b,o,mv,rfl,hbs,hx,hcc,hkk,hok⟩:=aX.get HU2.out 0 (by omega);obtain ⟨y0,y1,y2,y3,y4⟩:=hcc;obtain ⟨ma,mc,rfl,-,-⟩:=hkk.form;have HC2:=zZ (Nw 16 1 (by decide) (by decide) r.Ct[0] _ _ hkk hok);have HE:Hid (r.Ct.all (lV 16)=lV 16 r.Ct[0]):=Kz (lV 16) r.Ct hz;clear hx hkk hok HR2 HX2 HS2;generalize r.Ct[0]=kd at *;simp only [Nat.zero_mul,Nat.add_zero] at y0 y1 y2 y3 y4;generalize r.Ct.length=ul at *;subst hz;go_wp2_with (first|(go_at_call 113;refine HC2.out.mono ?_;rintro e w1 ⟨rfl,hb1⟩;have HB3:=zZ hb1;clear hb1))
     go_meet
     exact ⟨by rw [HE.out]<;>rfl,HB3.out⟩
    ·have hl0:r.Ct.length=0:=by omega
     have hnil:r.Ct=[]:=List.length_eq_zero_iff.1 hl0;have HE:Hid (r.Ct.all (lV 16)=true):=by show _=_;rw [hnil];rfl
     clear hnil HU2 HR2;generalize r.Ct.length=ul at *;subst hl0;go_wp2;go_meet
     exact ⟨by rw [HE.out]<;>rfl,Below.refl _ _⟩
   case rest =>
    obtain ⟨rfl,HBy⟩:=hcut;obtain ⟨wd,hwd⟩:∃x,x=wc:=⟨_,rfl⟩;subst hwd;have HB2:Hid (Below p w wd):=jf hp HB1.out HBy.out;have HS3:=zZ (HS2.out.Bu HBy.out);have CK:=zZ (tV HX2.out HBy.out);obtain ⟨x0,x1,x2,x3,x4,x5,x6,x7⟩:=iR CK.out;clear HB1 HX2 HU2 HS2 HBy;generalize r.Ct.all (lV 16)=UA at *;cases UA with
    | false =>
     have Bn:Hid (R=false):=HR2.out;go_wp2;go_ret;exact ⟨by rw [Bn.out]<;>rfl,by first|exact HB2.out|(rw [hp];exact HB2.out)⟩
    | true =>
     have HR3:Hid (R=Fp ((r.sets.take 0).map (·.what)) (r.sets.drop 0)):=HR2.out;have HW0:=zZ (Below.refl wd.heap.size wd);clear HR2;generalize r.sets=ss at *;go_wp2;go_loopg [3] (ss.length) (fun g i wr=>∃(n:Nat),n<=ss.length/\g=ss.length - n/\i=iI n/\Hid (Below wd.heap.size wd wr)/\Hid (R=Fp ((ss.take n).map (·.what)) (ss.drop n)))
     case atStart=>exact ⟨0,Nat.zero_le _,rfl,rfl,HW0.out,HR3.out⟩
     case round =>
      clear HW0 HR3 x0 x1 x2 x3 x4 x5 x6 x7;obtain ⟨n,hn,hg,rfl,Cv,HA⟩:=hrel;obtain ⟨x0,x1,x2,x3,x4,x5,x6,x7⟩:=iR (tV CK.out Cv.out);by_cases hlt:n < ss.length
      ·obtain ⟨b,o,rfl,hbs,hx,y0,y1,-,-⟩:=dD.get (HS3.out.Bu Cv.out) n hlt;have HMT:=zZ (wY ss n _ hx);have HAT:=zZ (HA.out.trans (FC ss n _ _ hx));have HCS:=zZ (NC ss[n] wr);clear hx HA;cases hq:gM ss[n]
       ·rw [hq] at HCS HAT;have Bn:Hid (R=false):=HAT.out;clear hq HAT;generalize ss[n]=s at *;go_wp2_with (first|(go_at_call 114;refine HCS.out.mono ?_;rintro e w3 ⟨rfl,hb3⟩;have HB3:=zZ hb3;clear hb3))
        go_ret;exact ⟨by rw [Bn.out]<;>rfl,by first|exact jf hp HB2.out (jg Cv.out HB3.out)|(rw [hp];exact jf hp HB2.out (jg Cv.out HB3.out))⟩
       ·rw [hq] at HCS HAT;have HAT2:Hid (R=(decide (ss[n].what ∉ (ss.take n).map (·.what)) && Fp ((ss.take n).map (·.what) ++ [ss[n].what]) (ss.drop (n+1)))):=HAT.out;have HNOT:=zZ (O7 ss n ss[n].what);have HIS:=zZ fun j=>O6 ss n j ss[n].what;have HGET:=zZ fun (j:Nat) (hj:j < ss.length) (W:World) (hW:Below wr.heap.size wr W)=>dD.get ((HS3.out.Bu Cv.out).Bu hW) j hj;have Bt:=zZ fun (w1:World) (h:Below wr.heap.size wr w1)=>iR (tV (tV CK.out Cv.out) h);have HSN:=zZ fun W (hW:Below wr.heap.size wr W)=>(HGET.out n hlt W hW);clear hq HAT;generalize hsn:ss[n]=s at *;go_wp2_with (first|(go_at_call 114;refine HCS.out.mono ?_;rintro e w3 ⟨rfl,hb3⟩;obtain ⟨z0,z1,z2,z3,z4,z5,z6,z7⟩:=Bt.out _ hb3;have HB3:=zZ hb3;have HB30:=zZ (Below.refl w3.heap.size w3);clear hb3))
        go_loopg [4] (n) (fun g i wz=>∃(j:Nat),j<=n/\g=n - j/\i=iI j/\Hid (Below w3.heap.size w3 wz)/\Hid (∀q,q < j->∀(hq:q < ss.length),ss[q].what ≠ s.what))
        case atStart=>exact ⟨0,Nat.zero_le _,rfl,rfl,HB30.out,fun q hq=>by omega⟩
        case round =>
         clear HB30 z0 z1 z2 z3 z4 z5 z6 z7 x0 x1 x2 x3 x4 x5 x6 x7 y0 y1;obtain ⟨j,hj,hgj,rfl,HBz,HQ⟩:=hrel;have HBrz:=zZ (jg HB3.out HBz.out);obtain ⟨x0,x1,x2,x3,x4,x5,x6,x7⟩:=Bt.out _ HBrz.out;by_cases hjn:j < n
         ·obtain ⟨b1,o1,he1,-,-,y0,y1,-,-⟩:=HGET.out j (by omega) _ HBrz.out;obtain ⟨b2,o2,he2,-,-,v0,v1,-,-⟩:=HSN.out _ HBrz.out;simp only [Option.some.injEq,Addr.mk.injEq,and_true] at he1 he2;obtain ⟨rfl,rfl⟩:=he1;obtain ⟨rfl,rfl⟩:=he2;have hjl:j < ss.length:=by omega
          have HQ2:Hid (ss[j].what ≠ s.what->∀q,q < j+1->∀(hq:q < ss.length),ss[q].what ≠ s.what):=fun h q hq hql=>by
           by_cases e:q=j
           ·subst e;exact h
           ·exact HQ.out q (by omega) hql
          have HIS2:=zZ (HIS.out j hjn hjl);clear HQ;generalize ss[j]=t at *;cases ht:(t.what == s.what)
          ·have HQ3:=zZ (HQ2.out (by simpa using ht));go_wp2_with fail
           go_quiet (fail)
           go_wp2;go_roundg (n - (j+1))
           case rel=>exact ⟨j+1,by omega,rfl,by go_num,iV HBz.out _,HQ3.out⟩
           case measure=>omega
          ·have Bn:Hid (R=false):=by show _=_;rw [HAT2.out,HIS2.out (by simpa using ht)];rfl
           have HBf:Hid (Below p w wr):=jf hp HB2.out (jg Cv.out HBrz.out);go_wp2_with fail
           go_quiet (fail)
           go_wp2;go_ret;exact ⟨by rw [Bn.out]<;>rfl,by first|exact (HBf.out.trans ⟨rfl,rfl,rfl,Nat.le_refl _,fun _ _=>rfl⟩)|(rw [hp];exact (HBf.out.trans ⟨rfl,rfl,rfl,Nat.le_refl _,fun _ _=>rfl⟩))⟩
         ·obtain rfl:j=n:=by omega
          have HRT:Hid (R=Fp ((ss.take (j+1)).map (·.what)) (ss.drop (j+1))):=by
           show _=_;rw [HAT2.out,HNOT.out HQ.out,HMT.out];rfl
          go_wp2;go_roundg (ss.length - (j+1))
          case rel=>exact ⟨j+1,by omega,rfl,by go_num,jg Cv.out HBrz.out,HRT.out⟩
          case measure=>omega
      ·have hall:ss.drop n=[]:=List.drop_eq_nil_of_le (by omega);have HRT:Hid (R=true):=by show _=_;rw [HA.out,hall];rfl
       clear hall HA;go_wp2;go_ret;exact ⟨by rw [HRT.out]<;>rfl,by first|exact jf hp HB2.out Cv.out|(rw [hp];exact jf hp HB2.out Cv.out)⟩
end Pl
namespace Pl
open Go.RowKit
open Wo (Wd jI jQ tV qL)
theorem jU {w:World} {q:Nat} {a0 a1 a2 a3 a4 a5:Value} {T:TypeId} (h:w.heap[q]?=some (.cells #[a0,a1,a2,a3,a4,a5] T (0,0))):w.cell? ⟨q,0,none⟩=some a0/\w.cell? ⟨q,1,none⟩=some a1/\w.cell? ⟨q,2,none⟩=some a2/\w.cell? ⟨q,3,none⟩=some a3/\w.cell? ⟨q,4,none⟩=some a4/\w.cell? ⟨q,5,none⟩=some a5:=by
 refine ⟨?_,?_,?_,?_,?_,?_⟩<;>rw [cell_of_row w q _ _ T (0,0) h]<;>rfl
theorem iT {w:World} {q:Nat} {a0 a1 a2 a3 a4 a5 a6 a7:Value} {T:TypeId} (h:w.heap[q]?=some (.cells #[a0,a1,a2,a3,a4,a5,a6,a7] T (0,0))):w.cell? ⟨q,0,none⟩=some a0/\w.cell? ⟨q,1,none⟩=some a1/\w.cell? ⟨q,2,none⟩=some a2/\w.cell? ⟨q,3,none⟩=some a3/\w.cell? ⟨q,4,none⟩=some a4/\w.cell? ⟨q,5,none⟩=some a5/\w.cell? ⟨q,6,none⟩=some a6/\w.cell? ⟨q,7,none⟩=some a7:=by
 refine ⟨?_,?_,?_,?_,?_,?_,?_,?_⟩<;>rw [cell_of_row w q _ _ T (0,0) h]<;>rfl
theorem kL (p:Pn) (m:Value) (w:World) :
  Calls Tryz.prog 62 #[pnv p m] w fun e w'=>e=.returned (.bool (vI p))/\Below w.heap.size w w':=by
 have HB:=zZ (iU w (.cells #[iI p.mode,iI p.Ay,iI p.AR,iI p.Bb,iI p.AJ,m] 24));have HG1:=zZ fun W=>qj p.Ay W;have HG2:=zZ fun W=>qj p.AR W;have HG3:=zZ fun W=>qj p.Bb W;have HG4:=zZ fun W=>qj p.AJ W;have HL:Hid (vI p=(qg p.Ay && (qg p.AR && (qg p.Bb && (qg p.AJ && (decide (p.Ay<=p.AR) && (decide (p.Ay<=p.Bb) && (decide (p.AR<=p.AJ) && decide (p.Bb<=p.AJ))))))))):=by
  show _=_;unfold vI qg;rw [Bool.eq_iff_iff];simp only [Bool.and_eq_true,decide_eq_true_eq];omega
 generalize vI p=R at *;obtain ⟨md,x1,x2,x3,x4,rs⟩:=p;simp only at *;generalize qg x1=g1 at *;generalize qg x2=g2 at *;generalize qg x3=g3 at *;generalize qg x4=g4 at *;cases g1
 ·have Bn:Hid (R=false):=by show _=_;rw [HL.out];simp
  clear HL;go_enter Tryz.func62,Tryz.ntmps62
  go_wp2_with (first|(go_at_call_of 76 (iI x1);refine (HG1.out _).mono ?_;rintro e w1 ⟨rfl,rfl⟩)|(go_at_call_of 76 (iI x2);refine (HG2.out _).mono ?_;rintro e w1 ⟨rfl,rfl⟩)|(go_at_call_of 76 (iI x3);refine (HG3.out _).mono ?_;rintro e w1 ⟨rfl,rfl⟩)|(go_at_call_of 76 (iI x4);refine (HG4.out _).mono ?_;rintro e w1 ⟨rfl,rfl⟩))
  go_ret;exact ⟨by rw [Bn.out];rfl,HB.out⟩
 cases g2
 ·have Bn:Hid (R=false):=by show _=_;rw [HL.out];simp
  clear HL;go_enter Tryz.func62,Tryz.ntmps62
  go_wp2_with (first|(go_at_call_of 76 (iI x1);refine (HG1.out _).mono ?_;rintro e w1 ⟨rfl,rfl⟩)|(go_at_call_of 76 (iI x2);refine (HG2.out _).mono ?_;rintro e w1 ⟨rfl,rfl⟩)|(go_at_call_of 76 (iI x3);refine (HG3.out _).mono ?_;rintro e w1 ⟨rfl,rfl⟩)|(go_at_call_of 76 (iI x4);refine (HG4.out _).mono ?_;rintro e w1 ⟨rfl,rfl⟩))
  go_ret;exact ⟨by rw [Bn.out];rfl,HB.out⟩
 cases g3
 ·have Bn:Hid (R=false):=by show _=_;rw [HL.out];simp
  clear HL;go_enter Tryz.func62,Tryz.ntmps62
  go_wp2_with (first|(go_at_call_of 76 (iI x1);refine (HG1.out _).mono ?_;rintro e w1 ⟨rfl,rfl⟩)|(go_at_call_of 76 (iI x2);refine (HG2.out _).mono ?_;rintro e w1 ⟨rfl,rfl⟩)|(go_at_call_of 76 (iI x3);refine (HG3.out _).mono ?_;rintro e w1 ⟨rfl,rfl⟩)|(go_at_call_of 76 (iI x4);refine (HG4.out _).mono ?_;rintro e w1 ⟨rfl,rfl⟩))
  go_ret;exact ⟨by rw [Bn.out];rfl,HB.out⟩
 cases g4
 ·have Bn:Hid (R=false):=by show _=_;rw [HL.out];simp
  clear HL;go_enter Tryz.func62,Tryz.ntmps62
  go_wp2_with (first|(go_at_call_of 76 (iI x1);refine (HG1.out _).mono ?_;rintro e w1 ⟨rfl,rfl⟩)|(go_at_call_of 76 (iI x2);refine (HG2.out _).mono ?_;rintro e w1 ⟨rfl,rfl⟩)|(go_at_call_of 76 (iI x3);refine (HG3.out _).mono ?_;rintro e w1 ⟨rfl,rfl⟩)|(go_at_call_of 76 (iI x4);refine (HG4.out _).mono ?_;rintro e w1 ⟨rfl,rfl⟩))
  go_ret;exact ⟨by rw [Bn.out];rfl,HB.out⟩
 cases d1:decide (x1<=x2)
 ·have Bn:Hid (R=false):=by show _=_;rw [HL.out,d1];simp
  clear HL;go_enter Tryz.func62,Tryz.ntmps62
  go_wp2_with (first|(go_at_call_of 76 (iI x1);refine (HG1.out _).mono ?_;rintro e w1 ⟨rfl,rfl⟩)|(go_at_call_of 76 (iI x2);refine (HG2.out _).mono ?_;rintro e w1 ⟨rfl,rfl⟩)|(go_at_call_of 76 (iI x3);refine (HG3.out _).mono ?_;rintro e w1 ⟨rfl,rfl⟩)|(go_at_call_of 76 (iI x4);refine (HG4.out _).mono ?_;rintro e w1 ⟨rfl,rfl⟩))
  go_ret;exact ⟨by rw [Bn.out];rfl,HB.out⟩
 cases d2:decide (x1<=x3)
 ·have Bn:Hid (R=false):=by show _=_;rw [HL.out,d2];simp
  clear HL;go_enter Tryz.func62,Tryz.ntmps62
  go_wp2_with (first|(go_at_call_of 76 (iI x1);refine (HG1.out _).mono ?_;rintro e w1 ⟨rfl,rfl⟩)|(go_at_call_of 76 (iI x2);refine (HG2.out _).mono ?_;rintro e w1 ⟨rfl,rfl⟩)|(go_at_call_of 76 (iI x3);refine (HG3.out _).mono ?_;rintro e w1 ⟨rfl,rfl⟩)|(go_at_call_of 76 (iI x4);refine (HG4.out _).mono ?_;rintro e w1 ⟨rfl,rfl⟩))
  go_ret;exact ⟨by rw [Bn.out];rfl,HB.out⟩
 cases d3:decide (x2<=x4)
 ·have Bn:Hid (R=false):=by show _=_;rw [HL.out,d3];simp
  clear HL;go_enter Tryz.func62,Tryz.ntmps62
  go_wp2_with (first|(go_at_call_of 76 (iI x1);refine (HG1.out _).mono ?_;rintro e w1 ⟨rfl,rfl⟩)|(go_at_call_of 76 (iI x2);refine (HG2.out _).mono ?_;rintro e w1 ⟨rfl,rfl⟩)|(go_at_call_of 76 (iI x3);refine (HG3.out _).mono ?_;rintro e w1 ⟨rfl,rfl⟩)|(go_at_call_of 76 (iI x4);refine (HG4.out _).mono ?_;rintro e w1 ⟨rfl,rfl⟩))
  go_ret;exact ⟨by rw [Bn.out];rfl,HB.out⟩
 cases d4:decide (x3<=x4)
 ·have Bn:Hid (R=false):=by show _=_;rw [HL.out,d4];simp
  clear HL;go_enter Tryz.func62,Tryz.ntmps62
  go_wp2_with (first|(go_at_call_of 76 (iI x1);refine (HG1.out _).mono ?_;rintro e w1 ⟨rfl,rfl⟩)|(go_at_call_of 76 (iI x2);refine (HG2.out _).mono ?_;rintro e w1 ⟨rfl,rfl⟩)|(go_at_call_of 76 (iI x3);refine (HG3.out _).mono ?_;rintro e w1 ⟨rfl,rfl⟩)|(go_at_call_of 76 (iI x4);refine (HG4.out _).mono ?_;rintro e w1 ⟨rfl,rfl⟩))
  go_ret;exact ⟨by rw [Bn.out];rfl,HB.out⟩
 have Bn:Hid (R=true):=by show _=_;rw [HL.out,d1,d2,d3,d4];rfl
 clear HL;go_enter Tryz.func62,Tryz.ntmps62
 go_wp2_with (first|(go_at_call_of 76 (iI x1);refine (HG1.out _).mono ?_;rintro e w1 ⟨rfl,rfl⟩)|(go_at_call_of 76 (iI x2);refine (HG2.out _).mono ?_;rintro e w1 ⟨rfl,rfl⟩)|(go_at_call_of 76 (iI x3);refine (HG3.out _).mono ?_;rintro e w1 ⟨rfl,rfl⟩)|(go_at_call_of 76 (iI x4);refine (HG4.out _).mono ?_;rintro e w1 ⟨rfl,rfl⟩))
 go_ret;exact ⟨by rw [Bn.out];rfl,HB.out⟩
end Pl
end Go.Proofs.YtfbfeoplldjbpaaGreatDoor
