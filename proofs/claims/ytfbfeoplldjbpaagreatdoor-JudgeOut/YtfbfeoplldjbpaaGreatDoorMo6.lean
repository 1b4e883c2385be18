/-
  Texts put together (merge.py): XChk.
-/
import Derived.Test.YtfbfeoplldjbpaaGreatDoorMo5
set_option linter.unusedSimpArgs false
set_option linter.unusedVariables false
set_option maxHeartbeats 16000000
set_option maxRecDepth 100000
section
namespace Go.Proofs.YtfbfeoplldjbpaaGreatDoor.Ex
open Go.RowKit
open Wo (tV jI jQ qL iU jg)
theorem BH (s:Tx) (w:World) (hs:s.length<=9223372036854775807):Calls Tryz.prog 110 #[.string (mk s)] w fun e w'=>e=.returned (.bool (Cm.lM s 5 5))/\w'=w:=by
 go_enter Tryz.func110,Tryz.ntmps110
 go_wp2_with (go_at_call 116;refine (Cm.lN s 5 5 _ hs).mono ?_;rintro e w' ⟨rfl,rfl⟩)
 go_ret
 exact ⟨rfl,rfl⟩
def unE (b:Tx) (y:Bool) (n:Int):Int:=if b=[]/\y=false/\1<=n/\n<=9999 then 0 else 1
def paE (k:Int) (a b:Tx) (y:Bool) (n:Int):Int:=if a ≠ b/\Cm.lM b 5 5=true then (if n=0/\¬ (k=2/\y=true) then 0 else 1) else 9
theorem yS (k:Int) (a b:Tx) (y:Bool) (n:Int):yQ ⟨k,a,b,y,n⟩=if Cm.lM a 5 5=true then (if k=1 then paE 1 a b y n else if k=2 then paE 2 a b y n else if k=3 then unE b y n else 1) else 9:=by
 by_cases h:Cm.lM a 5 5=true
 ·rw [if_pos h]
  by_cases h1:k=1
  ·subst h1;rw [if_pos rfl];unfold yQ paE;rw [if_pos h];rfl
  ·rw [if_neg h1]
   by_cases h2:k=2
   ·subst h2;rw [if_pos rfl];unfold yQ paE;rw [if_pos h];rfl
   ·rw [if_neg h2]
    by_cases h3:k=3
    ·subst h3;rw [if_pos rfl];unfold yQ unE;rw [if_pos h];rfl
    ·rw [if_neg h3]
     unfold yQ
     rw [if_pos h]
     exact if_neg (by show ¬ (k=1 ∨ k=2 ∨ k=3);omega)
 ·rw [if_neg h];unfold yQ;exact if_neg h
theorem Hr (k:Int) (a b:Tx) (y:Bool) (n:Int) (w:World):Calls Tryz.prog 112 #[.agg #[.int .i64 k,.string (mk a),.string (mk b),.bool y,.int .i64 n]] w fun e w'=>e=.returned (.int .i64 (unE b y n))/\Below w.heap.size w w':=by
 have HB:=Lib.hid fun o=>iU w o
 by_cases hb:b=[]
 ·have q0:(mk b).toList.isEmpty=true:=by rw [xE];exact decide_eq_true hb
  cases y with
  | true =>
   have HE:Hid (unE b true n=1):=if_neg (fun h=>by cases h.2.1)
   clear hb
   rw [HE.out]
   go_enter Tryz.func112,Tryz.ntmps112
   go_wp2
   go_ret
   exact ⟨rfl,HB.out _⟩
  | false =>
   by_cases h1:n < 1
   ·have HE:Hid (unE b false n=1):=if_neg (fun h=>by omega)
    clear hb
    rw [HE.out]
    go_enter Tryz.func112,Tryz.ntmps112
    go_wp2
    go_ret
    exact ⟨rfl,HB.out _⟩
   by_cases h2:9999 < n
   ·have HE:Hid (unE b false n=1):=if_neg (fun h=>by omega)
    clear hb
    rw [HE.out]
    go_enter Tryz.func112,Tryz.ntmps112
    go_wp2
    go_ret
    exact ⟨rfl,HB.out _⟩
   have HE:Hid (unE b false n=0):=if_pos ⟨hb,rfl,by omega,by omega⟩
   clear hb
   rw [HE.out]
   go_enter Tryz.func112,Tryz.ntmps112
   go_wp2
   go_ret
   exact ⟨rfl,HB.out _⟩
 ·have q0:(mk b).toList.isEmpty=false:=by rw [xE];exact decide_eq_false hb
  have HE:Hid (unE b y n=1):=if_neg (fun h=>hb h.1)
  clear hb
  rw [HE.out]
  go_enter Tryz.func112,Tryz.ntmps112
  go_wp2
  go_ret
  exact ⟨rfl,HB.out _⟩
theorem AX (k:Int) (a b:Tx) (y:Bool) (n:Int) (w:World) (hb:b.length<=9223372036854775807):Calls Tryz.prog 111 #[.agg #[.int .i64 k,.string (mk a),.string (mk b),.bool y,.int .i64 n]] w fun e w'=>e=.returned (.int .i64 (paE k a b y n))/\Below w.heap.size w w':=by
 have HB:=Lib.hid fun o=>iU w o
 by_cases hk:k=2
 ·subst hk
  by_cases hab:a=b
  ·have q1:((mk b).toList == (mk a).toList)=true:=by rw [xH];exact decide_eq_true hab.symm
   have q1r:((mk a).toList == (mk b).toList)=true:=by rw [xH];exact decide_eq_true hab
   have HE:Hid (paE 2 a b y n=9):=if_neg (fun h=>h.1 hab)
   clear hab
   cases hc:Cm.lM b 5 5
   iterate 2
    ·rw [HE.out]
     go_enter Tryz.func111,Tryz.ntmps111
     go_wp2_with (first|(go_at_call 110;refine (BH _ _ (by assumption)).mono ?_;rintro e w' ⟨rfl,rfl⟩))
     go_ret
     exact ⟨rfl,HB.out _⟩
  have q1:((mk b).toList == (mk a).toList)=false:=by rw [xH];exact decide_eq_false (fun e=>hab e.symm)
  have q1r:((mk a).toList == (mk b).toList)=false:=by rw [xH];exact decide_eq_false hab
  cases hc:Cm.lM b 5 5
  ·have HE:Hid (paE 2 a b y n=9):=if_neg (fun h=>by rw [hc] at h;cases h.2)
   clear hab
   rw [HE.out]
   go_enter Tryz.func111,Tryz.ntmps111
   go_wp2_with (first|(go_at_call 110;refine (BH _ _ (by assumption)).mono ?_;rintro e w' ⟨rfl,rfl⟩))
   go_ret
   exact ⟨rfl,HB.out _⟩
  have HC:Hid (a ≠ b/\Cm.lM b 5 5=true):=⟨hab,hc⟩
  clear hab
  by_cases hn:n=0
  ·subst hn
   cases y with
   | true =>
    have HE:Hid (paE 2 a b true 0=1):=by show _=_;unfold paE;rw [if_pos HC.out,if_neg (fun h=>h.2 ⟨rfl,rfl⟩)]
    rw [HE.out]
    go_enter Tryz.func111,Tryz.ntmps111
    go_wp2_with (first|(go_at_call 110;refine (BH _ _ (by assumption)).mono ?_;rintro e w' ⟨rfl,rfl⟩))
    go_ret
    exact ⟨rfl,HB.out _⟩
   | false =>
    have HE:Hid (paE 2 a b false 0=0):=by show _=_;unfold paE;rw [if_pos HC.out];exact if_pos ⟨rfl,fun h=>by cases h.2⟩
    rw [HE.out]
    go_enter Tryz.func111,Tryz.ntmps111
    go_wp2_with (first|(go_at_call 110;refine (BH _ _ (by assumption)).mono ?_;rintro e w' ⟨rfl,rfl⟩))
    go_ret
    exact ⟨rfl,HB.out _⟩
  ·have q3:(n != 0)=true:=by simpa using hn
   have HE:Hid (paE 2 a b y n=1):=by show _=_;unfold paE;rw [if_pos HC.out,if_neg (fun h=>hn h.1)]
   clear hn
   rw [HE.out]
   go_enter Tryz.func111,Tryz.ntmps111
   go_wp2_with (first|(go_at_call 110;refine (BH _ _ (by assumption)).mono ?_;rintro e w' ⟨rfl,rfl⟩))
   go_ret
   exact ⟨rfl,HB.out _⟩
 have HK:Hid (¬ k=2):=hk
 have q2:(k == 2)=false:=by rw [beq_eq_false_iff_ne];exact hk
 clear hk
 by_cases hab:a=b
 ·have q1:((mk b).toList == (mk a).toList)=true:=by rw [xH];exact decide_eq_true hab.symm
  have q1r:((mk a).toList == (mk b).toList)=true:=by rw [xH];exact decide_eq_true hab
  have HE:Hid (paE k a b y n=9):=if_neg (fun h=>h.1 hab)
  clear hab
  cases hc:Cm.lM b 5 5
  iterate 2
   ·rw [HE.out]
    go_enter Tryz.func111,Tryz.ntmps111
    go_wp2_with (first|(go_at_call 110;refine (BH _ _ (by assumption)).mono ?_;rintro e w' ⟨rfl,rfl⟩))
    go_ret
    exact ⟨rfl,HB.out _⟩
 have q1:((mk b).toList == (mk a).toList)=false:=by rw [xH];exact decide_eq_false (fun e=>hab e.symm)
 have q1r:((mk a).toList == (mk b).toList)=false:=by rw [xH];exact decide_eq_false hab
 cases hc:Cm.lM b 5 5
 ·have HE:Hid (paE k a b y n=9):=if_neg (fun h=>by rw [hc] at h;cases h.2)
  clear hab
  rw [HE.out]
  go_enter Tryz.func111,Tryz.ntmps111
  go_wp2_with (first|(go_at_call 110;refine (BH _ _ (by assumption)).mono ?_;rintro e w' ⟨rfl,rfl⟩))
  go_ret
  exact ⟨rfl,HB.out _⟩
 have HC:Hid (a ≠ b/\Cm.lM b 5 5=true):=⟨hab,hc⟩
 clear hab
 by_cases hn:n=0
 ·subst hn
  have HE:Hid (paE k a b y 0=0):=by show _=_;unfold paE;rw [if_pos HC.out];exact if_pos ⟨rfl,fun h=>HK.out h.1⟩
  rw [HE.out]
  go_enter Tryz.func111,Tryz.ntmps111
  go_wp2_with (first|(go_at_call 110;refine (BH _ _ (by assumption)).mono ?_;rintro e w' ⟨rfl,rfl⟩))
  go_ret
  exact ⟨rfl,HB.out _⟩
 ·have q3:(n != 0)=true:=by simpa using hn
  have HE:Hid (paE k a b y n=1):=by show _=_;unfold paE;rw [if_pos HC.out,if_neg (fun h=>hn h.1)]
  clear hn
  rw [HE.out]
  go_enter Tryz.func111,Tryz.ntmps111
  go_wp2_with (first|(go_at_call 110;refine (BH _ _ (by assumption)).mono ?_;rintro e w' ⟨rfl,rfl⟩))
  go_ret
  exact ⟨rfl,HB.out _⟩
theorem DX (f:Ed) (hf:aO f) (w:World):Calls Tryz.prog 66 #[edv f] w fun e w'=>e=.returned (.int .i64 (yQ f))/\Below w.heap.size w w':=by
 obtain ⟨k,a,b,y,n⟩:=f
 obtain ⟨⟨z1,z2⟩,-⟩:=hf
 have z1:a.length<=9223372036854775807:=by simp only at z1;omega
 have z2:b.length<=9223372036854775807:=by simp only at z2;omega
 show Calls Tryz.prog 66 #[.agg #[.int .i64 k,.string (mk a),.string (mk b),.bool y,.int .i64 n]] w fun e w'=>e=.returned (.int .i64 (yQ ⟨k,a,b,y,n⟩))/\Below w.heap.size w w'
 rw [yS]
 have HB:=Lib.hid fun o=>iU w o
 have HPa:=Lib.hid fun k W'=>AX k a b y n W' z2
 have HUn:=Lib.hid fun W'=>Hr 3 a b y n W'
 clear z2
 cases hc:Cm.lM a 5 5
 ·show Calls _ _ _ _ fun e w'=>e=.returned (.int .i64 9)/\_
  go_enter Tryz.func66,Tryz.ntmps66
  go_wp2_with (first|(go_at_call 110;refine (BH _ _ (by assumption)).mono ?_;rintro e w' ⟨rfl,rfl⟩))
  go_ret
  exact ⟨rfl,HB.out _⟩
 rw [if_pos rfl]
 by_cases h1:k=1
 ·subst h1
  rw [if_pos rfl]
  go_enter Tryz.func66,Tryz.ntmps66
  go_wp2_with (first|(go_at_call 110;refine (BH _ _ (by assumption)).mono ?_;rintro e w' ⟨rfl,rfl⟩)|(go_at_call 111;refine (HPa.out 1 _).mono ?_;rintro e w2 ⟨rfl,hb2⟩;have HB2:=Lib.hid (jg (HB.out _) hb2);clear hb2))
  go_ret
  exact ⟨rfl,HB2.out⟩
 rw [if_neg h1]
 have q1:(k == 1)=false:=by rw [beq_eq_false_iff_ne];exact h1
 by_cases h2:k=2
 ·subst h2
  rw [if_pos rfl]
  go_enter Tryz.func66,Tryz.ntmps66
  go_wp2_with (first|(go_at_call 110;refine (BH _ _ (by assumption)).mono ?_;rintro e w' ⟨rfl,rfl⟩)|(go_at_call 111;refine (HPa.out 2 _).mono ?_;rintro e w2 ⟨rfl,hb2⟩;have HB2:=Lib.hid (jg (HB.out _) hb2);clear hb2))
  go_ret
  exact ⟨rfl,HB2.out⟩
 rw [if_neg h2]
 have q2:(k == 2)=false:=by rw [beq_eq_false_iff_ne];exact h2
 by_cases h3:k=3
 ·subst h3
  rw [if_pos rfl]
  go_enter Tryz.func66,Tryz.ntmps66
  go_wp2_with (first|(go_at_call 110;refine (BH _ _ (by assumption)).mono ?_;rintro e w' ⟨rfl,rfl⟩)|(go_at_call 112;refine (HUn.out _).mono ?_;rintro e w2 ⟨rfl,hb2⟩;have HB2:=Lib.hid (jg (HB.out _) hb2);clear hb2))
  go_ret
  exact ⟨rfl,HB2.out⟩
 rw [if_neg h3]
 have q3:(k == 3)=false:=by rw [beq_eq_false_iff_ne];exact h3
 clear h1 h2 h3
 go_enter Tryz.func66,Tryz.ntmps66
 go_wp2_with (first|(go_at_call 110;refine (BH _ _ (by assumption)).mono ?_;rintro e w' ⟨rfl,rfl⟩))
 go_ret
 exact ⟨rfl,HB.out _⟩
theorem oW {l:List Ed} {n:Nat} (h:n < l.length):oU (l.drop n)=if yQ l[n]=0 then oU (l.drop (n+1)) else yQ l[n]:=by
 rw [List.drop_eq_getElem_cons h];rfl
theorem check_any (l:List Ed) (v:Value) (w:World) (h:aP All w v l) (hok:∀f ∈ l,aO f) (hl:l.length<=281474976710656):Calls Tryz.prog 34 #[v] w fun e w'=>e=.returned (.int .i64 (kF l))/\Below w.heap.size w w':=by
 have HF:=Lib.hid h
 have HOK:=Lib.hid hok
 obtain ⟨fa,fk,rfl,hm1,hm2⟩:=h.form
 clear h hok
 by_cases hbig:256 < l.length
 ·have HR:Hid (kF l=10):=by show _=_;unfold kF;rw [if_pos hbig]
  have hz:(256:Int) < (l.length:Int):=by omega
  go_enter Tryz.func34,Tryz.ntmps34
  go_wp2
  go_ret
  exact ⟨by rw [HR.out];rfl,Below.refl _ _⟩
 have HR:Hid (kF l=oU l):=by show _=_;unfold kF;rw [if_neg hbig]
 have hz:¬ (256:Int) < (l.length:Int):=by omega
 go_enter Tryz.func34,Tryz.ntmps34
 go_wp2
 go_loopg [11] (l.length) (fun g i wr=>∃n:Nat,n<=l.length/\g=l.length - n/\i=.int .i64 (n:Nat)/\Hid (Below w.heap.size w wr)/\Hid (oU (l.drop n)=oU l))
 case atStart=>exact ⟨0,Nat.zero_le _,rfl,rfl,Below.refl _ _,rfl⟩
 case round =>
  obtain ⟨n,hn,hgk,rfl,HBn,HE⟩:=hrel
  by_cases hlt:n < l.length
  ·obtain ⟨b,oo,rfl,hbs,-,hcc⟩:=aP.get (HF.out.grw HBn.out) n hlt
   have HFD:=Lib.hid (oW hlt)
   have HO:=Lib.hid (HOK.out l[n] (List.getElem_mem hlt))
   generalize l[n]=x at *
   obtain ⟨c0,c1,c2,c3,c4⟩:=hcc
   have hb1:=iU wr (.cells #[.int .i64 x.kind,.string (mk x.a),.string (mk x.b),.bool x.bypass,.int .i64 x.n] 56)
   have HRW:=Lib.hid (DX x HO.out (wr.alloc (.cells #[.int .i64 x.kind,.string (mk x.a),.string (mk x.b),.bool x.bypass,.int .i64 x.n] 56)))
   have HB2:=Lib.hid (jg HBn.out hb1)
   clear hb1
   go_upto_region 6 with fail
   generalize hq:wr.heap.size=q at *
   have HZ:=Lib.hid (heap_alloc_new wr (.cells #[.int .i64 x.kind,.string (mk x.a),.string (mk x.b),.bool x.bypass,.int .i64 x.n] 56))
   rw [hq] at HZ
   generalize wr.alloc (.cells #[.int .i64 x.kind,.string (mk x.a),.string (mk x.b),.bool x.bypass,.int .i64 x.n] 56)=W at *
   obtain ⟨d0,d1,d2,d3,d4⟩:=cells5 HZ.out
   clear c0 c1 c2 c3 c4
   go_wp2_with fail
   go_at_call 66
   refine HRW.out.mono ?_
   rintro e w5 ⟨rfl,hg⟩
   have HB5:=Lib.hid (jg HB2.out hg)
   clear hg HRW HZ HB2 d0 d1 d2 d3 d4
   obtain ⟨r,HRV⟩:∃r,Hid (yQ x=r):=⟨_,rfl⟩
   rw [HRV.out] at HFD
   rw [HRV.out]
   by_cases hr:r=0
   ·have q1:(r != 0)=false:=by rw [hr];rfl
    have HE2:Hid (oU (l.drop (n+1))=oU l):=by show _=_;rw [←HE.out,HFD.out,if_pos hr]
    clear HE HFD hr
    go_wp2
    go_roundg (l.length - (n+1))
    case measure=>omega
    case rel=>exact ⟨n+1,by omega,rfl,by first|rfl|go_num|(congr 1;omega),HB5.out,HE2.out⟩
   ·have q1:(r != 0)=true:=by simpa using hr
    have HE2:Hid (kF l=r):=by show _=_;rw [HR.out,←HE.out,HFD.out,if_neg hr]
    clear HE HFD hr
    go_wp2
    go_ret
    exact ⟨by rw [HE2.out];rfl,HB5.out⟩
  ·have hltz:¬ (n:Int) < (l.length:Int):=by omega
   have HE2:Hid (kF l=0):=by
    show _=_
    have e:l.drop n=[]:=List.drop_eq_nil_of_le (by omega)
    have:=HE.out
    rw [e] at this
    rw [HR.out,←this]
    rfl
   go_wp2
   go_ret
   exact ⟨by rw [HE2.out];rfl,HBn.out⟩
end Go.Proofs.YtfbfeoplldjbpaaGreatDoor.Ex
end
