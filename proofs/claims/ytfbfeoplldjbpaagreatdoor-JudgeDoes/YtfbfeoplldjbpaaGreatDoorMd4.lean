/-
  Texts put together (merge.py): LCode, XChk.
-/
import Derived.Test.YtfbfeoplldjbpaaGreatDoorMd3
set_option linter.unusedSimpArgs false
set_option linter.unusedVariables false
set_option maxHeartbeats 16000000
set_option maxRecDepth 100000
namespace Go.Proofs.YtfbfeoplldjbpaaGreatDoor
namespace Cm
open Go.RowKit
theorem FI (c : UInt8) (w : World) :
    Calls Tryz.prog 149 #[.int .u8 c.toNat] w fun e w'=>e=.returned (.bool (FH c))/\w'=w:=by
  unfold FH;generalize c.toNat=n;cases h1:decide (65<=n)<;>cases h2:decide (n<=90)<;>cases h3:decide (48<=n)<;>cases h4:decide (n<=57) <;>
  · simp only [decide_eq_true_eq,decide_eq_false_iff_not] at h1 h2 h3 h4
    first
      | omega
      | (go_enter Tryz.func149, Tryz.ntmps149
         go_wp2;go_ret;exact ⟨by first|rfl|(simp;omega),rfl⟩)
theorem fF {p:UInt8->Bool} (s:Tx) (k:Nat) (c:UInt8) (h:s[k]?=some c) (hk:(s.take k).all p=true) (hc:p c=true):(s.take (k+1)).all p=true:=by
 rw [List.take_add_one,h];simp_all
theorem fA {p:UInt8->Bool} (s:Tx) (k:Nat) (c:UInt8) (h:s[k]?=some c) (hc:p c=false):s.all p=false:=by
 rw [List.all_eq_false];exact ⟨c,List.mem_of_getElem? h,by simp [hc]⟩
theorem lT (s:Tx) (f t:Int) (h:(s.length:Int) < f):lM s f t=false:=by unfold lM;rw [decide_eq_false (by omega)];simp
theorem lS (s:Tx) (f t:Int) (h:t < (s.length:Int)):lM s f t=false:=by unfold lM;rw [decide_eq_false (p:=(s.length:Int)<=t) (by omega)];simp
theorem lQ (s:Tx) (f t:Int) (h1:f<=(s.length:Int)) (h2:(s.length:Int)<=t):lM s f t=s.all FH:=by unfold lM;rw [decide_eq_true h1,decide_eq_true h2];simp
theorem xC (s:Tx) (k:Nat) (hk:k < (mk s).size):s[k]?=some (mk s)[k]:=by
 have hl:k < s.length:=by rw [←xM];exact hk
 rw [List.getElem?_eq_getElem hl];rfl
theorem lN (s:Tx) (f t:Int) (w:World) (hs:s.length<=9223372036854775807) :
  Calls Tryz.prog 116 #[.string (mk s),iI f,iI t] w fun e w'=>e=.returned (.bool (lM s f t))/\w'=w:=by
 have hz:=xM s;have HS:=zZ hs;have HAT:=zZ (xC s);have HSH:=zZ (lT s f t);have HLO:=zZ (lS s f t);have HIN:=zZ (lQ s f t);generalize lM s f t=R at *;rw [←hz] at hs HSH HLO HIN;have HZ:=zZ hz;clear hz;generalize mk s=X at *;by_cases h1:(X.size:Int) < f
 ·rw [HSH.out h1];go_enter Tryz.func116,Tryz.ntmps116
  go_wp2;go_ret;exact ⟨rfl,rfl⟩
 by_cases h2:t < (X.size:Int)
 ·rw [HLO.out h2];go_enter Tryz.func116,Tryz.ntmps116
  go_wp2;go_ret;exact ⟨rfl,rfl⟩
 rw [HIN.out (by omega) (by omega)];go_enter Tryz.func116,Tryz.ntmps116
 go_wp2;go_loopg [20] (X.size) (fun g i wr=>∃k:Nat,k<=X.size/\g=X.size - k/\i=iI k/\wr=w/\Hid ((s.take k).all FH=true))
 case atStart=>exact ⟨0,Nat.zero_le _,rfl,rfl,rfl,rfl⟩
 case round =>
  obtain ⟨k,hk,hg,rfl,hw,HA⟩:=hrel;rw [hw];clear hw wr;by_cases hlt:k < X.size
  ·have HC:=zZ (HAT.out k hlt);cases hq:FH X[k]
   ·go_wp2_with (go_at_call 149;refine (FI _ _).mono ?_;rintro e w' ⟨rfl,rfl⟩)
    go_ret;exact ⟨by rw [fA s k _ HC.out hq];rfl,rfl⟩
   ·go_wp2_with (go_at_call 149;refine (FI _ _).mono ?_;rintro e w' ⟨rfl,rfl⟩)
    go_roundg (X.size - (k+1))
    case rel=>exact ⟨k+1,by omega,rfl,by go_num,rfl,fF s k _ HC.out HA.out hq⟩
    case measure=>omega
  ·have hall:(s.take k)=s:=List.take_of_length_le (by rw [←HZ.out];omega);rw [hall] at HA;clear hall;go_wp2;go_ret;exact ⟨by rw [HA.out];rfl,rfl⟩
theorem NG (s:Tx) (f t:Int) (w:World) (hs:s.length<=9223372036854775807) :
  Calls Tryz.prog 50 #[.string (mk s),iI f,iI t] w fun e w'=>e=.returned (.bool (lM s f t))/\w'=w:=by
 have hz:=xM s;have HS:=zZ hs;have HAT:=zZ (xC s);have HSH:=zZ (lT s f t);have HLO:=zZ (lS s f t);have HIN:=zZ (lQ s f t);generalize lM s f t=R at *;rw [←hz] at hs HSH HLO HIN;have HZ:=zZ hz;clear hz;generalize mk s=X at *;by_cases h1:(X.size:Int) < f
 ·rw [HSH.out h1];go_enter Tryz.func50,Tryz.ntmps50
  go_wp2;go_ret;exact ⟨rfl,rfl⟩
 by_cases h2:t < (X.size:Int)
 ·rw [HLO.out h2];go_enter Tryz.func50,Tryz.ntmps50
  go_wp2;go_ret;exact ⟨rfl,rfl⟩
 rw [HIN.out (by omega) (by omega)];go_enter Tryz.func50,Tryz.ntmps50
 go_wp2;go_loopg [7] (X.size) (fun g i wr=>∃k:Nat,k<=X.size/\g=X.size - k/\i=iI k/\wr=w/\Hid ((s.take k).all FH=true))
 case atStart=>exact ⟨0,Nat.zero_le _,rfl,rfl,rfl,rfl⟩
 case round =>
  obtain ⟨k,hk,hg,rfl,hw,HA⟩:=hrel;rw [hw];clear hw wr;by_cases hlt:k < X.size
  ·have HC:=zZ (HAT.out k hlt);have HQ:Hid (FH X[k]=((decide (65<=X[k].toNat) && decide (X[k].toNat<=90)) || (decide (48<=X[k].toNat) && decide (X[k].toNat<=57)))):=rfl;by_cases g1:65<=X[k].toNat/\X[k].toNat<=90
   ·obtain ⟨g1,g2⟩:=g1;have g3:48<=X[k].toNat:=by omega
    have g4:¬ X[k].toNat<=57:=by omega
    have d4:decide ((X[k].toNat:Int)<=57)=false:=decide_eq_false (by omega);have d2:decide ((X[k].toNat:Int)<=90)=true:=decide_eq_true (by omega);have hq:=HQ.out;rw [decide_eq_true g1,decide_eq_true g2] at hq;have HQ2:=zZ hq;clear hq;go_wp2;go_roundg (X.size - (k+1))
    case rel=>exact ⟨k+1,by omega,rfl,by go_num,rfl,fF s k _ HC.out HA.out HQ2.out⟩
    case measure=>omega
   by_cases g3:48<=X[k].toNat/\X[k].toNat<=57
   ·obtain ⟨g3,g4⟩:=g3;have g5:¬ 65<=X[k].toNat:=by omega
    have d4:decide ((X[k].toNat:Int)<=57)=true:=decide_eq_true (by omega);have hq:=HQ.out;rw [decide_eq_true g3,decide_eq_true g4,Bool.and_self,Bool.or_true] at hq;have HQ2:=zZ hq;clear hq g1;go_wp2;go_roundg (X.size - (k+1))
    case rel=>exact ⟨k+1,by omega,rfl,by go_num,rfl,fF s k _ HC.out HA.out HQ2.out⟩
    case measure=>omega
   have HQ2:Hid (FH X[k]=false):=by
    show _=_;rw [HQ.out];simp;omega
   by_cases g5:65<=X[k].toNat
   ·have g6:¬ X[k].toNat<=90:=by omega
    have g7:48<=X[k].toNat:=by omega
    have g8:¬ X[k].toNat<=57:=by omega
    have d4:decide ((X[k].toNat:Int)<=57)=false:=decide_eq_false (by omega);have d2:decide ((X[k].toNat:Int)<=90)=false:=decide_eq_false (by omega);clear g1 g3;go_wp2;go_ret;exact ⟨by rw [fA s k _ HC.out HQ2.out];rfl,rfl⟩
   ·by_cases g7:48<=X[k].toNat
    ·have g8:¬ X[k].toNat<=57:=by omega
     have d4:decide ((X[k].toNat:Int)<=57)=false:=decide_eq_false (by omega);clear g1 g3;go_wp2;go_ret;exact ⟨by rw [fA s k _ HC.out HQ2.out];rfl,rfl⟩
    ·clear g1 g3;go_wp2;go_ret;exact ⟨by rw [fA s k _ HC.out HQ2.out];rfl,rfl⟩
  ·have hall:(s.take k)=s:=List.take_of_length_le (by rw [←HZ.out];omega);rw [hall] at HA;clear hall;go_wp2;go_ret;exact ⟨by rw [HA.out];rfl,rfl⟩
theorem fI (s:Tx) (w:World) (hs:s.length<=9223372036854775807) :
  Calls Tryz.prog 71 #[.string (mk s)] w fun e w'=>e=.returned (.bool (lM s 1 12))/\w'=w:=by
 have HC:=zZ fun w=>lN s 1 12 w hs;generalize lM s 1 12=R at *;go_enter Tryz.func71,Tryz.ntmps71
 go_wp2_with (go_at_call 116;refine (HC.out _).mono ?_;rintro e w' ⟨rfl,rfl⟩)
 go_ret;exact ⟨rfl,rfl⟩
theorem yg (l:List Tx) (k:Nat) (c:Tx) (h:l[k]?=some c) (hk:((l.take k).all fun x=>lM x 2 2)=true) (hc:lM c 2 2=true):((l.take (k+1)).all fun x=>lM x 2 2)=true:=by
 rw [List.take_add_one,h];simp_all
theorem yc (l:List Tx) (k:Nat) (c:Tx) (h:l[k]?=some c) (hc:lM c 2 2=false):xQ l=false:=by
 unfold xQ;have:(l.all fun x=>lM x 2 2)=false:=by
  rw [List.all_eq_false];exact ⟨c,List.mem_of_getElem? h,by simp [hc]⟩
 rw [this];simp
theorem x9 (l:List Tx) (h:¬ l.length<=4):xQ l=false:=by unfold xQ;rw [decide_eq_false h];rfl
theorem xY (l:List Tx) (k:Nat) (h:l.length<=4) (hk:l.length<=k) (ha:((l.take k).all fun x=>lM x 2 2)=true):xQ l=true:=by
 rw [List.take_of_length_le hk] at ha;unfold xQ;rw [decide_eq_true h,ha];rfl
theorem xZ (v:Value) (l:List Tx) (w:World) (h:dI All w v l) (hz:∀t ∈ l,t.length<=281474976710656) :
  Calls Tryz.prog 117 #[v] w fun e w'=>e=.returned (.bool (xQ l))/\w'=w:=by
 have HV:=zZ h;have HZ:=zZ hz;obtain ⟨a,c,rfl,h1,h2⟩:=dI.form h;clear h hz;have HM:=zZ (x9 l);have HALL:=zZ (xY l);have HNO:=zZ (yc l);generalize xQ l=R at *;by_cases h4:l.length<=4
 ·have h4':¬ (4:Int) < (l.length:Int):=by omega
  go_enter Tryz.func117,Tryz.ntmps117
  go_wp2;go_loopg [10] (l.length) (fun g i wr=>∃k:Nat,k<=l.length/\g=l.length - k/\i=iI k/\wr=w/\Hid (((l.take k).all fun x=>lM x 2 2)=true))
  case atStart=>exact ⟨0,Nat.zero_le _,rfl,rfl,rfl,rfl⟩
  case round =>
   obtain ⟨k,hk,hg,rfl,hw,HA⟩:=hrel;rw [hw];clear hw wr;by_cases hlt:k < l.length
   ·obtain ⟨b,o,rfl,hx,hu⟩:=He HV.out k hlt;have HX:=zZ hx;have hq:=HZ.out _ (List.mem_of_getElem? hx);have HC:=zZ fun w=>lN l[k] 2 2 w (by omega);clear hq hx;cases hq:lM l[k] 2 2
    ·rw [hq] at HC;have HQ:=zZ (HNO.out k _ HX.out hq);clear hq;go_wp2_with (go_at_call 116;refine (HC.out _).mono ?_;rintro e w' ⟨rfl,rfl⟩)
     go_ret;exact ⟨by rw [HQ.out];rfl,rfl⟩
    ·rw [hq] at HC;have HQ:=zZ (yg l k _ HX.out HA.out hq);clear hq;go_wp2_with (go_at_call 116;refine (HC.out _).mono ?_;rintro e w' ⟨rfl,rfl⟩)
     go_roundg (l.length - (k+1))
     case rel=>exact ⟨k+1,by omega,rfl,by go_num,rfl,HQ.out⟩
     case measure=>omega
   ·have HQ:=zZ (HALL.out k h4 (by omega) HA.out);go_wp2;go_ret;exact ⟨by rw [HQ.out];rfl,rfl⟩
 ·rw [HM.out h4];have h4':(4:Int) < (l.length:Int):=by omega
  go_enter Tryz.func117,Tryz.ntmps117
  go_wp2;go_ret;exact ⟨rfl,rfl⟩
end Cm
namespace Ex
open Go.RowKit
open Wo (tV jI jQ qL iU jg)
theorem BH (s:Tx) (w:World) (hs:s.length<=9223372036854775807):Calls Tryz.prog 110 #[.string (mk s)] w fun e w'=>e=.returned (.bool (Cm.lM s 5 5))/\w'=w:=by
 go_enter Tryz.func110,Tryz.ntmps110
 go_wp2_with (go_at_call 116;refine (Cm.lN s 5 5 _ hs).mono ?_;rintro e w' ⟨rfl,rfl⟩)
 go_ret;exact ⟨rfl,rfl⟩
def unE (b:Tx) (y:Bool) (n:Int):Int:=if b=[]/\y=false/\1<=n/\n<=9999 then 0 else 1
def paE (k:Int) (a b:Tx) (y:Bool) (n:Int):Int:=if a ≠ b/\Cm.lM b 5 5=true then (if n=0/\¬ (k=2/\y=true) then 0 else 1) else 9
theorem yS (k:Int) (a b:Tx) (y:Bool) (n:Int):yQ ⟨k,a,b,y,n⟩=if Cm.lM a 5 5=true then (if k=1 then paE 1 a b y n else if k=2 then paE 2 a b y n else if k=3 then unE b y n else 1) else 9:=by
 by_cases h:Cm.lM a 5 5=true
 ·rw [if_pos h];by_cases h1:k=1
  ·subst h1;rw [if_pos rfl];unfold yQ paE;rw [if_pos h];rfl
  ·rw [if_neg h1];by_cases h2:k=2
   ·subst h2;rw [if_pos rfl];unfold yQ paE;rw [if_pos h];rfl
   ·rw [if_neg h2];by_cases h3:k=3
    ·subst h3;rw [if_pos rfl];unfold yQ unE;rw [if_pos h];rfl
    ·rw [if_neg h3];unfold yQ;rw [if_pos h];exact if_neg (by show ¬ (k=1 ∨ k=2 ∨ k=3);omega)
 ·rw [if_neg h];unfold yQ;exact if_neg h
theorem Hr (k:Int) (a b:Tx) (y:Bool) (n:Int) (w:World):Calls Tryz.prog 112 #[.agg #[iI k,.string (mk a),.string (mk b),.bool y,iI n]] w fun e w'=>e=.returned (iI (unE b y n))/\Below w.heap.size w w':=by
 have HB:=zZ fun o=>iU w o;by_cases hb:b=[]
 ·have q0:(mk b).toList.isEmpty=true:=by rw [xE];exact decide_eq_true hb
  cases y with
  | true =>
   have HE:Hid (unE b true n=1):=if_neg (fun h=>by cases h.2.1);clear hb;rw [HE.out];go_enter Tryz.func112,Tryz.ntmps112
   go_wp2;go_ret;exact ⟨rfl,HB.out _⟩
  | false =>
   by_cases h1:n < 1
   ·have HE:Hid (unE b false n=1):=if_neg (fun h=>by omega);clear hb;rw [HE.out];go_enter Tryz.func112,Tryz.ntmps112
    go_wp2;go_ret;exact ⟨rfl,HB.out _⟩
   by_cases h2:9999 < n
   ·have HE:Hid (unE b false n=1):=if_neg (fun h=>by omega);clear hb;rw [HE.out];go_enter Tryz.func112,Tryz.ntmps112
    go_wp2;go_ret;exact ⟨rfl,HB.out _⟩
   have HE:Hid (unE b false n=0):=if_pos ⟨hb,rfl,by omega,by omega⟩;clear hb;rw [HE.out];go_enter Tryz.func112,Tryz.ntmps112
   go_wp2;go_ret;exact ⟨rfl,HB.out _⟩
 ·have q0:(mk b).toList.isEmpty=false:=by rw [xE];exact decide_eq_false hb
  have HE:Hid (unE b y n=1):=if_neg (fun h=>hb h.1);clear hb;rw [HE.out];go_enter Tryz.func112,Tryz.ntmps112
  go_wp2;go_ret;exact ⟨rfl,HB.out _⟩
theorem AX (k:Int) (a b:Tx) (y:Bool) (n:Int) (w:World) (hb:b.length<=9223372036854775807):Calls Tryz.prog 111 #[.agg #[iI k,.string (mk a),.string (mk b),.bool y,iI n]] w fun e w'=>e=.returned (iI (paE k a b y n))/\Below w.heap.size w w':=by
 have HB:=zZ fun o=>iU w o;by_cases hk:k=2
 ·subst hk;by_cases hab:a=b
  ·have q1:((mk b).toList == (mk a).toList)=true:=by rw [xH];exact decide_eq_true hab.symm
   have q1r:((mk a).toList == (mk b).toList)=true:=by rw [xH];exact decide_eq_true hab
   have HE:Hid (paE 2 a b y n=9):=if_neg (fun h=>h.1 hab);clear hab;cases hc:Cm.lM b 5 5
   iterate 2
    ·rw [HE.out];go_enter Tryz.func111,Tryz.ntmps111
     go_wp2_with (first|(go_at_call 110;refine (BH _ _ (by assumption)).mono ?_;rintro e w' ⟨rfl,rfl⟩))
     go_ret;exact ⟨rfl,HB.out _⟩
  have q1:((mk b).toList == (mk a).toList)=false:=by rw [xH];exact decide_eq_false (fun e=>hab e.symm)
  have q1r:((mk a).toList == (mk b).toList)=false:=by rw [xH];exact decide_eq_false hab
  cases hc:Cm.lM b 5 5
  ·have HE:Hid (paE 2 a b y n=9):=if_neg (fun h=>by rw [hc] at h;cases h.2);clear hab;rw [HE.out];go_enter Tryz.func111,Tryz.ntmps111
   go_wp2_with (first|(go_at_call 110;refine (BH _ _ (by assumption)).mono ?_;rintro e w' ⟨rfl,rfl⟩))
   go_ret;exact ⟨rfl,HB.out _⟩
  have HC:Hid (a ≠ b/\Cm.lM b 5 5=true):=⟨hab,hc⟩;clear hab;by_cases hn:n=0
  ·subst hn;cases y with
   | true =>
    have HE:Hid (paE 2 a b true 0=1):=by show _=_;unfold paE;rw [if_pos HC.out,if_neg (fun h=>h.2 ⟨rfl,rfl⟩)]
    rw [HE.out];go_enter Tryz.func111,Tryz.ntmps111
    go_wp2_with (first|(go_at_call 110;refine (BH _ _ (by assumption)).mono ?_;rintro e w' ⟨rfl,rfl⟩))
    go_ret;exact ⟨rfl,HB.out _⟩
   | false =>
    have HE:Hid (paE 2 a b false 0=0):=by show _=_;unfold paE;rw [if_pos HC.out];exact if_pos ⟨rfl,fun h=>by cases h.2⟩
    rw [HE.out];go_enter Tryz.func111,Tryz.ntmps111
    go_wp2_with (first|(go_at_call 110;refine (BH _ _ (by assumption)).mono ?_;rintro e w' ⟨rfl,rfl⟩))
    go_ret;exact ⟨rfl,HB.out _⟩
  ·have q3:(n != 0)=true:=by simpa using hn
   have HE:Hid (paE 2 a b y n=1):=by show _=_;unfold paE;rw [if_pos HC.out,if_neg (fun h=>hn h.1)]
   clear hn;rw [HE.out];go_enter Tryz.func111,Tryz.ntmps111
   go_wp2_with (first|(go_at_call 110;refine (BH _ _ (by assumption)).mono ?_;rintro e w' ⟨rfl,rfl⟩))
   go_ret;exact ⟨rfl,HB.out _⟩
 have HK:Hid (¬ k=2):=hk;have q2:(k == 2)=false:=by rw [beq_eq_false_iff_ne];exact hk
 clear hk;by_cases hab:a=b
 ·have q1:((mk b).toList == (mk a).toList)=true:=by rw [xH];exact decide_eq_true hab.symm
  have q1r:((mk a).toList == (mk b).toList)=true:=by rw [xH];exact decide_eq_true hab
  have HE:Hid (paE k a b y n=9):=if_neg (fun h=>h.1 hab);clear hab;cases hc:Cm.lM b 5 5
  iterate 2
   ·rw [HE.out];go_enter Tryz.func111,Tryz.ntmps111
    go_wp2_with (first|(go_at_call 110;refine (BH _ _ (by assumption)).mono ?_;rintro e w' ⟨rfl,rfl⟩))
    go_ret;exact ⟨rfl,HB.out _⟩
 have q1:((mk b).toList == (mk a).toList)=false:=by rw [xH];exact decide_eq_false (fun e=>hab e.symm)
 have q1r:((mk a).toList == (mk b).toList)=false:=by rw [xH];exact decide_eq_false hab
 cases hc:Cm.lM b 5 5
 ·have HE:Hid (paE k a b y n=9):=if_neg (fun h=>by rw [hc] at h;cases h.2);clear hab;rw [HE.out];go_enter Tryz.func111,Tryz.ntmps111
  go_wp2_with (first|(go_at_call 110;refine (BH _ _ (by assumption)).mono ?_;rintro e w' ⟨rfl,rfl⟩))
  go_ret;exact ⟨rfl,HB.out _⟩
 have HC:Hid (a ≠ b/\Cm.lM b 5 5=true):=⟨hab,hc⟩;clear hab;by_cases hn:n=0
 ·subst hn;have HE:Hid (paE k a b y 0=0):=by show _=_;unfold paE;rw [if_pos HC.out];exact if_pos ⟨rfl,fun h=>HK.out h.1⟩
  rw [HE.out];go_enter Tryz.func111,Tryz.ntmps111
  go_wp2_with (first|(go_at_call 110;refine (BH _ _ (by assumption)).mono ?_;rintro e w' ⟨rfl,rfl⟩))
  go_ret;exact ⟨rfl,HB.out _⟩
 ·have q3:(n != 0)=true:=by simpa using hn
  have HE:Hid (paE k a b y n=1):=by show _=_;unfold paE;rw [if_pos HC.out,if_neg (fun h=>hn h.1)]
  clear hn;rw [HE.out];go_enter Tryz.func111,Tryz.ntmps111
  go_wp2_with (first|(go_at_call 110;refine (BH _ _ (by assumption)).mono ?_;rintro e w' ⟨rfl,rfl⟩))
  go_ret;exact ⟨rfl,HB.out _⟩
theorem DX (f:Ed) (hf:aO f) (w:World):Calls Tryz.prog 66 #[edv f] w fun e w'=>e=.returned (iI (yQ f))/\Below w.heap.size w w':=by
 obtain ⟨k,a,b,y,n⟩:=f;obtain ⟨⟨z1,z2⟩,-⟩:=hf;have z1:a.length<=9223372036854775807:=by simp only at z1;omega
 have z2:b.length<=9223372036854775807:=by simp only at z2;omega
 show Calls Tryz.prog 66 #[.agg #[iI k,.string (mk a),.string (mk b),.bool y,iI n]] w fun e w'=>e=.returned (iI (yQ ⟨k,a,b,y,n⟩))/\Below w.heap.size w w';rw [yS];have HB:=zZ fun o=>iU w o;have HPa:=zZ fun k W'=>AX k a b y n W' z2;have HUn:=zZ fun W'=>Hr 3 a b y n W';clear z2;cases hc:Cm.lM a 5 5
 ·show Calls _ _ _ _ fun e w'=>e=.returned (iI 9)/\_;go_enter Tryz.func66,Tryz.ntmps66
  go_wp2_with (first|(go_at_call 110;refine (BH _ _ (by assumption)).mono ?_;rintro e w' ⟨rfl,rfl⟩))
  go_ret;exact ⟨rfl,HB.out _⟩
 rw [if_pos rfl];by_cases h1:k=1
 ·subst h1;rw [if_pos rfl];go_enter Tryz.func66,Tryz.ntmps66
  go_wp2_with (first|(go_at_call 110;refine (BH _ _ (by assumption)).mono ?_;rintro e w' ⟨rfl,rfl⟩)|(go_at_call 111;refine (HPa.out 1 _).mono ?_;rintro e w2 ⟨rfl,hb2⟩;have HB2:=zZ (jg (HB.out _) hb2);clear hb2))
  go_ret;exact ⟨rfl,HB2.out⟩
 rw [if_neg h1];have q1:(k == 1)=false:=by rw [beq_eq_false_iff_ne];exact h1
 by_cases h2:k=2
 ·subst h2;rw [if_pos rfl];go_enter Tryz.func66,Tryz.ntmps66
  go_wp2_with (first|(go_at_call 110;refine (BH _ _ (by assumption)).mono ?_;rintro e w' ⟨rfl,rfl⟩)|(go_at_call 111;refine (HPa.out 2 _).mono ?_;rintro e w2 ⟨rfl,hb2⟩;have HB2:=zZ (jg (HB.out _) hb2);clear hb2))
  go_ret;exact ⟨rfl,HB2.out⟩
 rw [if_neg h2];have q2:(k == 2)=false:=by rw [beq_eq_false_iff_ne];exact h2
 by_cases h3:k=3
 ·subst h3;rw [if_pos rfl];go_enter Tryz.func66,Tryz.ntmps66
  go_wp2_with (first|(go_at_call 110;refine (BH _ _ (by assumption)).mono ?_;rintro e w' ⟨rfl,rfl⟩)|(go_at_call 112;refine (HUn.out _).mono ?_;rintro e w2 ⟨rfl,hb2⟩;have HB2:=zZ (jg (HB.out _) hb2);clear hb2))
  go_ret;exact ⟨rfl,HB2.out⟩
 rw [if_neg h3];have q3:(k == 3)=false:=by rw [beq_eq_false_iff_ne];exact h3
 clear h1 h2 h3;go_enter Tryz.func66,Tryz.ntmps66
 go_wp2_with (first|(go_at_call 110;refine (BH _ _ (by assumption)).mono ?_;rintro e w' ⟨rfl,rfl⟩))
 go_ret;exact ⟨rfl,HB.out _⟩
theorem oW {l:List Ed} {n:Nat} (h:n < l.length):oU (l.drop n)=if yQ l[n]=0 then oU (l.drop (n+1)) else yQ l[n]:=by
 rw [List.drop_eq_getElem_cons h];rfl
theorem bL (l:List Ed) (v:Value) (w:World) (h:aP All w v l) (hok:∀f ∈ l,aO f) (hl:l.length<=281474976710656):Calls Tryz.prog 34 #[v] w fun e w'=>e=.returned (iI (kF l))/\Below w.heap.size w w':=by
 have HF:=zZ h;have HOK:=zZ hok;obtain ⟨fa,fk,rfl,hm1,hm2⟩:=h.form;clear h hok;by_cases hbig:256 < l.length
 ·have HR:Hid (kF l=10):=by show _=_;unfold kF;rw [if_pos hbig]
  have hz:(256:Int) < (l.length:Int):=by omega
  go_enter Tryz.func34,Tryz.ntmps34
  go_wp2;go_ret;exact ⟨by rw [HR.out];rfl,Below.refl _ _⟩
 have HR:Hid (kF l=oU l):=by show _=_;unfold kF;rw [if_neg hbig]
 have hz:¬ (256:Int) < (l.length:Int):=by omega
 go_enter Tryz.func34,Tryz.ntmps34
 go_wp2;go_loopg [11] (l.length) (fun g i wr=>∃n:Nat,n<=l.length/\g=l.length - n/\i=iI (n:Nat)/\Hid (Below w.heap.size w wr)/\Hid (oU (l.drop n)=oU l))
 case atStart=>exact ⟨0,Nat.zero_le _,rfl,rfl,Below.refl _ _,rfl⟩
 case round =>
  obtain ⟨n,hn,hgk,rfl,Co,HE⟩:=hrel;by_cases hlt:n < l.length
  ·obtain ⟨b,oo,rfl,hbs,-,hcc⟩:=aP.get (HF.out.Bu Co.out) n hlt;have HFD:=zZ (oW hlt);have HO:=zZ (HOK.out l[n] (List.getElem_mem hlt));generalize l[n]=x at *;obtain ⟨c0,c1,c2,c3,c4⟩:=hcc;have hb1:=iU wr (.cells #[iI x.kind,.string (mk x.a),.string (mk x.b),.bool x.bypass,iI x.n] 56);have HRW:=zZ (DX x HO.out (wr.alloc (.cells #[iI x.kind,.string (mk x.a),.string (mk x.b),.bool x.bypass,iI x.n] 56)));have HB2:=zZ (jg Co.out hb1);clear hb1;go_upto_region 6 with fail
   generalize hq:wr.heap.size=q at *;have HZ:=zZ (heap_alloc_new wr (.cells #[iI x.kind,.string (mk x.a),.string (mk x.b),.bool x.bypass,iI x.n] 56));rw [hq] at HZ;generalize wr.alloc (.cells #[iI x.kind,.string (mk x.a),.string (mk x.b),.bool x.bypass,iI x.n] 56)=W at *;obtain ⟨d0,d1,d2,d3,d4⟩:=cells5 HZ.out;clear c0 c1 c2 c3 c4;go_wp2_with fail
   go_at_call 66
   refine HRW.out.mono ?_;rintro e w5 ⟨rfl,hg⟩;have CF:=zZ (jg HB2.out hg);clear hg HRW HZ HB2 d0 d1 d2 d3 d4;obtain ⟨r,HRV⟩:∃r,Hid (yQ x=r):=⟨_,rfl⟩;rw [HRV.out] at HFD;rw [HRV.out];by_cases hr:r=0
   ·have q1:(r != 0)=false:=by rw [hr];rfl
    have HE2:Hid (oU (l.drop (n+1))=oU l):=by show _=_;rw [←HE.out,HFD.out,if_pos hr]
    clear HE HFD hr;go_wp2;go_roundg (l.length - (n+1))
    case measure=>omega
    case rel=>exact ⟨n+1,by omega,rfl,by first|rfl|go_num|(congr 1;omega),CF.out,HE2.out⟩
   ·have q1:(r != 0)=true:=by simpa using hr
    have HE2:Hid (kF l=r):=by show _=_;rw [HR.out,←HE.out,HFD.out,if_neg hr]
    clear HE HFD hr;go_wp2;go_ret;exact ⟨by rw [HE2.out];rfl,CF.out⟩
  ·have hltz:¬ (n:Int) < (l.length:Int):=by omega
   have HE2:Hid (kF l=0):=by
    show _=_;have e:l.drop n=[]:=List.drop_eq_nil_of_le (by omega);have:=HE.out;rw [e] at this;rw [HR.out,←this];rfl
   go_wp2;go_ret;exact ⟨by rw [HE2.out];rfl,Co.out⟩
end Ex
end Go.Proofs.YtfbfeoplldjbpaaGreatDoor
