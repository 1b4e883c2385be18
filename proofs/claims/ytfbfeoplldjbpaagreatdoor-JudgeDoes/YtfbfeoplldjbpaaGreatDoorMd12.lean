/-
  Texts put together (merge.py): PChk, PChc, PRCk, PIs.
-/
import Derived.Deep.CutBlock
import Derived.Test.YtfbfeoplldjbpaaGreatDoorMd11
set_option linter.unusedSimpArgs false
set_option linter.unusedVariables false
set_option maxHeartbeats 16000000
set_option maxRecDepth 100000
namespace Go.Proofs.YtfbfeoplldjbpaaGreatDoor
namespace Pl
open Go.RowKit
open Wo (Wd jI jQ tV qL)
theorem oq (x t:Tx):((mk x).toList == t)=decide (x=t):=by
 rw [Lib.toList_data,xI,Bool.eq_iff_iff];simp
theorem LY {x t:Tx} (h:x=t):((mk x).toList == t)=true:=by rw [oq];exact decide_eq_true h
theorem LX {x t:Tx} (h:¬ x=t):((mk x).toList == t)=false:=by rw [oq];exact decide_eq_false h
theorem BH (s:Tx) (w:World) (hs:s.length<=9223372036854775807) :
  Calls Tryz.prog 160 #[.string (mk s)] w fun e w'=>e=.returned (.bool (Cm.lM s 5 5))/\w'=w:=by
 have HC:=zZ fun w=>Cm.lN s 5 5 w hs;generalize Cm.lM s 5 5=R at *;go_enter Tryz.func160,Tryz.ntmps160
 go_wp2_with (go_at_call 116;refine (HC.out _).mono ?_;rintro e w' ⟨rfl,rfl⟩)
 go_ret;exact ⟨rfl,rfl⟩
theorem xP (s:Tx) (w:World) (hs:s.length<=9223372036854775807) :
  Calls Tryz.prog 161 #[.string (mk s)] w fun e w'=>e=.returned (.bool (Cm.lM s 2 2))/\w'=w:=by
 have HC:=zZ fun w=>Cm.lN s 2 2 w hs;generalize Cm.lM s 2 2=R at *;go_enter Tryz.func161,Tryz.ntmps161
 go_wp2_with (go_at_call 116;refine (HC.out _).mono ?_;rintro e w' ⟨rfl,rfl⟩)
 go_ret;exact ⟨rfl,rfl⟩
theorem uI (k:Int) (w:World) :
  Calls Tryz.prog 140 #[iI k] w fun e w'=>e=.returned (iI (uD k:Nat))/\w'=w:=by
 by_cases h6:k=6
 ·subst h6;go_enter Tryz.func140,Tryz.ntmps140
  go_wp2;go_ret;exact ⟨rfl,rfl⟩
 by_cases h7:k=7
 ·subst h7;go_enter Tryz.func140,Tryz.ntmps140
  go_wp2;go_ret;exact ⟨rfl,rfl⟩
 by_cases h8:k=8
 ·subst h8;go_enter Tryz.func140,Tryz.ntmps140
  go_wp2;go_ret;exact ⟨rfl,rfl⟩
 have HK:Hid (uD k=0):=by show _=_;unfold uD;rw [if_neg h6,if_neg (by omega)]
 have b6:(k == 6)=false:=by simpa using h6
 have b7:(k == 7)=false:=by simpa using h7
 have b8:(k == 8)=false:=by simpa using h8
 clear h6 h7 h8;go_enter Tryz.func140,Tryz.ntmps140
 go_wp2;go_ret;exact ⟨by rw [HK.out];rfl,rfl⟩
theorem qj (n:Int) (w:World):Calls Tryz.prog 76 #[iI n] w fun e w'=>e=.returned (.bool (qg n))/\w'=w:=Ce.qh n w
theorem fields1 (lo hi:Tx) (n:Int) (m:Value) (w:World) (hlo:lo.length<=Big) (hhi:hi.length<=Big) :
  Calls Tryz.prog 141 #[.agg #[iI 1,.string (mk lo),.string (mk hi),iI n,m]] w fun e w'=>e=.returned (.bool (uM 1 lo hi n))/\Below w.heap.size w w':=by
 have HB:=zZ (iU w (.cells #[iI 1,.string (mk lo),.string (mk hi),iI n,m] 79));have HP1:=zZ fun W=>BH lo W (by show _<=_;have:lo.length<=281474976710656:=hlo;omega);have HP2:=zZ fun W=>BH hi W (by show _<=_;have:hi.length<=281474976710656:=hhi;omega);have hl:uM 1 lo hi n=(Cm.lM lo 5 5 && (Cm.lM hi 5 5 && (n == 0))):=by rw [show (n == 0)=decide (n=0) from rfl];rfl
 rw [hl];clear hl;generalize Cm.lM lo 5 5=A at *;generalize Cm.lM hi 5 5=C at *;cases A<;>cases C<;>cases hn:(n == 0)
 all_goals
  go_enter Tryz.func141,Tryz.ntmps141
  go_wp2_with (first|(go_at_call 160;first|(refine (HP1.out _).mono ?_;rintro e w1 ⟨rfl,rfl⟩)|(refine (HP2.out _).mono ?_;rintro e w1 ⟨rfl,rfl⟩)))
  go_ret;exact ⟨rfl,HB.out⟩
theorem fields2 (lo hi:Tx) (n:Int) (m:Value) (w:World) (hlo:lo.length<=Big) (hhi:hi.length<=Big) :
  Calls Tryz.prog 141 #[.agg #[iI 2,.string (mk lo),.string (mk hi),iI n,m]] w fun e w'=>e=.returned (.bool (uM 2 lo hi n))/\Below w.heap.size w w':=by
 have HB:=zZ (iU w (.cells #[iI 2,.string (mk lo),.string (mk hi),iI n,m] 79));have HM:=zZ fun W=>xP lo W (by show _<=_;have:lo.length<=281474976710656:=hlo;omega);have hl:uM 2 lo hi n=(Cm.lM lo 2 2 && (((mk hi).toList == []) && (n == 0))):=by rw [oq,show (n == 0)=decide (n=0) from rfl];rfl
 rw [hl];clear hl;generalize Cm.lM lo 2 2=A at *;cases A<;>cases hh:((mk hi).toList == [])<;>cases hn:(n == 0)
 all_goals
  go_enter Tryz.func141,Tryz.ntmps141
  go_wp2_with (first|(go_at_call 161;refine (HM.out _).mono ?_;rintro e w1 ⟨rfl,rfl⟩))
  go_ret;exact ⟨rfl,HB.out⟩
theorem oI (lo hi:Tx) (n:Int) (m:Value) (w:World) (hlo:lo.length<=Big) (hhi:hi.length<=Big) :
  Calls Tryz.prog 141 #[.agg #[iI 3,.string (mk lo),.string (mk hi),iI n,m]] w fun e w'=>e=.returned (.bool (uM 3 lo hi n))/\Below w.heap.size w w':=by
 have HB:=zZ (iU w (.cells #[iI 3,.string (mk lo),.string (mk hi),iI n,m] 79));have hl:uM 3 lo hi n=(((mk lo).toList == []) && (((mk hi).toList == []) && (decide (0<=n) && decide (n<=9999)))):=by rw [oq,oq];rfl
 rw [hl];clear hl;cases h0:((mk lo).toList == [])<;>cases hh:((mk hi).toList == [])<;>cases hn:decide (0<=n)<;>cases hm:decide (n<=9999)
 all_goals
  go_enter Tryz.func141,Tryz.ntmps141
  go_wp2;go_ret;exact ⟨rfl,HB.out⟩
theorem oJ (lo hi:Tx) (n:Int) (m:Value) (w:World) (hlo:lo.length<=Big) (hhi:hi.length<=Big) :
  Calls Tryz.prog 141 #[.agg #[iI 4,.string (mk lo),.string (mk hi),iI n,m]] w fun e w'=>e=.returned (.bool (uM 4 lo hi n))/\Below w.heap.size w w':=by
 have HB:=zZ (iU w (.cells #[iI 4,.string (mk lo),.string (mk hi),iI n,m] 79));have HG:=zZ fun W=>qj n W;have hl:uM 4 lo hi n=(((mk lo).toList == []) && (((mk hi).toList == []) && qg n)):=by rw [oq,oq];rfl
 rw [hl];clear hl;generalize qg n=G at *;cases h0:((mk lo).toList == [])<;>cases hh:((mk hi).toList == [])<;>cases G
 all_goals
  go_enter Tryz.func141,Tryz.ntmps141
  go_wp2_with (first|(go_at_call 76;refine (HG.out _).mono ?_;rintro e w1 ⟨rfl,rfl⟩))
  go_ret;exact ⟨rfl,HB.out⟩
theorem uO (k:Int) (lo hi:Tx) (n:Int) (h:k=0 ∨ k=5 ∨ k=6 ∨ k=7 ∨ k=8):uM k lo hi n=(((mk lo).toList == []) && (((mk hi).toList == []) && (n == 0))):=by
 rw [oq,oq,show (n == 0)=decide (n=0) from rfl];rcases h with rfl|rfl|rfl|rfl|rfl<;>rfl
theorem uN (k:Int) (lo hi:Tx) (n:Int) (h:¬ (0<=k/\k<=8)):uM k lo hi n=false:=by
 unfold uM;have:(decide (0<=k) && decide (k<=8))=false:=by simp;omega
 rw [this];rfl
theorem oH (lo hi:Tx) (n:Int) (m:Value) (w:World) (hlo:lo.length<=Big) (hhi:hi.length<=Big) :
  Calls Tryz.prog 141 #[.agg #[iI 0,.string (mk lo),.string (mk hi),iI n,m]] w fun e w'=>e=.returned (.bool (uM 0 lo hi n))/\Below w.heap.size w w':=by
 have HB:=zZ (iU w (.cells #[iI 0,.string (mk lo),.string (mk hi),iI n,m] 79));have hl:=uO 0 lo hi n (by simp);rw [hl];clear hl;cases h0:((mk lo).toList == [])<;>cases hh:((mk hi).toList == [])<;>cases hn:(n == 0)
 all_goals
  go_enter Tryz.func141,Tryz.ntmps141
  go_wp2;go_ret;exact ⟨rfl,HB.out⟩
theorem oK (lo hi:Tx) (n:Int) (m:Value) (w:World) (hlo:lo.length<=Big) (hhi:hi.length<=Big) :
  Calls Tryz.prog 141 #[.agg #[iI 5,.string (mk lo),.string (mk hi),iI n,m]] w fun e w'=>e=.returned (.bool (uM 5 lo hi n))/\Below w.heap.size w w':=by
 have HB:=zZ (iU w (.cells #[iI 5,.string (mk lo),.string (mk hi),iI n,m] 79));have hl:=uO 5 lo hi n (by simp);rw [hl];clear hl;cases h0:((mk lo).toList == [])<;>cases hh:((mk hi).toList == [])<;>cases hn:(n == 0)
 all_goals
  go_enter Tryz.func141,Tryz.ntmps141
  go_wp2;go_ret;exact ⟨rfl,HB.out⟩
theorem oL (lo hi:Tx) (n:Int) (m:Value) (w:World) (hlo:lo.length<=Big) (hhi:hi.length<=Big) :
  Calls Tryz.prog 141 #[.agg #[iI 6,.string (mk lo),.string (mk hi),iI n,m]] w fun e w'=>e=.returned (.bool (uM 6 lo hi n))/\Below w.heap.size w w':=by
 have HB:=zZ (iU w (.cells #[iI 6,.string (mk lo),.string (mk hi),iI n,m] 79));have hl:=uO 6 lo hi n (by simp);rw [hl];clear hl;cases h0:((mk lo).toList == [])<;>cases hh:((mk hi).toList == [])<;>cases hn:(n == 0)
 all_goals
  go_enter Tryz.func141,Tryz.ntmps141
  go_wp2;go_ret;exact ⟨rfl,HB.out⟩
theorem oM (lo hi:Tx) (n:Int) (m:Value) (w:World) (hlo:lo.length<=Big) (hhi:hi.length<=Big) :
  Calls Tryz.prog 141 #[.agg #[iI 7,.string (mk lo),.string (mk hi),iI n,m]] w fun e w'=>e=.returned (.bool (uM 7 lo hi n))/\Below w.heap.size w w':=by
 have HB:=zZ (iU w (.cells #[iI 7,.string (mk lo),.string (mk hi),iI n,m] 79));have hl:=uO 7 lo hi n (by simp);rw [hl];clear hl;cases h0:((mk lo).toList == [])<;>cases hh:((mk hi).toList == [])<;>cases hn:(n == 0)
 all_goals
  go_enter Tryz.func141,Tryz.ntmps141
  go_wp2;go_ret;exact ⟨rfl,HB.out⟩
theorem oN (lo hi:Tx) (n:Int) (m:Value) (w:World) (hlo:lo.length<=Big) (hhi:hi.length<=Big) :
  Calls Tryz.prog 141 #[.agg #[iI 8,.string (mk lo),.string (mk hi),iI n,m]] w fun e w'=>e=.returned (.bool (uM 8 lo hi n))/\Below w.heap.size w w':=by
 have HB:=zZ (iU w (.cells #[iI 8,.string (mk lo),.string (mk hi),iI n,m] 79));have hl:=uO 8 lo hi n (by simp);rw [hl];clear hl;cases h0:((mk lo).toList == [])<;>cases hh:((mk hi).toList == [])<;>cases hn:(n == 0)
 all_goals
  go_enter Tryz.func141,Tryz.ntmps141
  go_wp2;go_ret;exact ⟨rfl,HB.out⟩
theorem oO (lo hi:Tx) (n:Int) (m:Value) (w:World) (k:Int) (hk:¬ (0<=k/\k<=8)) (hlo:lo.length<=Big) (hhi:hi.length<=Big) :
  Calls Tryz.prog 141 #[.agg #[iI k,.string (mk lo),.string (mk hi),iI n,m]] w fun e w'=>e=.returned (.bool (uM k lo hi n))/\Below w.heap.size w w':=by
 have HB:=zZ (iU w (.cells #[iI k,.string (mk lo),.string (mk hi),iI n,m] 79));have hl:=uN k lo hi n hk;rw [hl];clear hl;have b0:(k == 0)=false:=by simp;omega
 have b1:(k == 1)=false:=by simp;omega
 have b2:(k == 2)=false:=by simp;omega
 have b3:(k == 3)=false:=by simp;omega
 have b4:(k == 4)=false:=by simp;omega
 have b5:(k == 5)=false:=by simp;omega
 have b6:(k == 6)=false:=by simp;omega
 have b7:(k == 7)=false:=by simp;omega
 have b8:(k == 8)=false:=by simp;omega
 clear hk;go_enter Tryz.func141,Tryz.ntmps141
 go_wp2;go_ret;exact ⟨rfl,HB.out⟩
theorem oP (c:Cd) (m:Value) (w:World) (ho:Ok1 c) :
  Calls Tryz.prog 141 #[cdv c m] w fun e w'=>e=.returned (.bool (uM c.kind c.lo c.hi c.n))/\Below w.heap.size w w':=by
 obtain ⟨k,lo,hi,n,ks⟩:=c;obtain ⟨_,_,hlo,hhi,_⟩:=ho;by_cases hk:0<=k/\k<=8
 ·rcases tN hk.1 hk.2 with rfl|rfl|rfl|rfl|rfl|rfl|rfl|rfl|rfl
  ·exact oH lo hi n m w hlo hhi
  ·exact fields1 lo hi n m w hlo hhi
  ·exact fields2 lo hi n m w hlo hhi
  ·exact oI lo hi n m w hlo hhi
  ·exact oJ lo hi n m w hlo hhi
  ·exact oK lo hi n m w hlo hhi
  ·exact oL lo hi n m w hlo hhi
  ·exact oM lo hi n m w hlo hhi
  ·exact oN lo hi n m w hlo hhi
 ·exact oO lo hi n m w k hk hlo hhi
end Pl
namespace Pl
open Go.RowKit
open Wo (Wd jI jQ tV qL)
theorem lW (f:Nat) (c:Cd):lV (f+1) c=(decide (c.kids.length=uD c.kind) && (c.kids.all (lV f) && uM c.kind c.lo c.hi c.n)):=by cases c;rfl
theorem jv {w:World} {q:Nat} {a b c d e:Value} {T:TypeId} (h:w.heap[q]?=some (.cells #[a,b,c,d,e] T (0,0))):w.cell? ⟨q,0,none⟩=some a/\w.cell? ⟨q,1,none⟩=some b/\w.cell? ⟨q,2,none⟩=some c/\w.cell? ⟨q,3,none⟩=some d/\w.cell? ⟨q,4,none⟩=some e:=by
 refine ⟨?_,?_,?_,?_,?_⟩<;>rw [cell_of_row w q _ _ T (0,0) h]<;>rfl
theorem jf {B:Nat} {a b c:World} (hB:a.heap.size=B) (h:Below B a b) (k:Below b.heap.size b c):Below B a c:=h.trans (k.mono (hB ▸ h.size))
theorem iV {w W:World} (h:Below w.heap.size w W) (n:Nat):Below w.heap.size w (W.drewN n):=h.trans ⟨rfl,rfl,rfl,Nat.le_refl _,fun _ _=>rfl⟩
theorem kK (c:Cd) (m:Value) (w:World) :
  Calls Tryz.prog 103 #[cdv c m,iI 17] w fun e w'=>e=.returned (.bool false)/\Below w.heap.size w w':=by
 have hb:=iU w (.cells #[iI c.kind,.string (mk c.lo),.string (mk c.hi),iI c.n,m] 79);have HB:=zZ hb;clear hb;go_enter Tryz.func103,Tryz.ntmps103
 go_wp2_with fail
 go_quiet (fail)
 go_wp2;go_ret;exact ⟨rfl,iV HB.out nq⟩
theorem fG {p:Cd->Bool} (l:List Cd) (k:Nat) (c:Cd) (h:l[k]?=some c) (hk:(l.take k).all p=true) (hc:p c=true):(l.take (k+1)).all p=true:=by
 rw [List.take_add_one,h];simp_all
theorem fB {p:Cd->Bool} (l:List Cd) (k:Nat) (c:Cd) (h:l[k]?=some c) (hc:p c=false):l.all p=false:=by
 rw [List.all_eq_false];exact ⟨c,List.mem_of_getElem? h,by simp [hc]⟩
theorem kQ (f:Nat) (d:Int) (hd0:1<=d) (hd:d<=16) (IH:∀(c:Cd) (m:Value) (w:World),aX All w m c.kids->Ok1 c->Calls Tryz.prog 103 #[cdv c m,iI (d+1)] w fun e w'=>e=.returned (.bool (lV f c))/\Below w.heap.size w w')
  (c:Cd) (m:Value) (w:World) (hK:aX All w m c.kids) (ho:Ok1 c) :
  Calls Tryz.prog 103 #[cdv c m,iI d] w fun e w'=>e=.returned (.bool (lV (f+1) c))/\Below w.heap.size w w':=by
 rw [lW];have hb:=iU w (.cells #[iI c.kind,.string (mk c.lo),.string (mk c.hi),iI c.n,m] 79);have HB:=zZ hb;have HX:=zZ (heap_alloc_new w (.cells #[iI c.kind,.string (mk c.lo),.string (mk c.hi),iI c.n,m] 79));have HK:=zZ (hK.Bu hb);obtain ⟨a,k,rfl,h1,h2⟩:=hK.form;have HKD:=zZ fun W=>uI c.kind W;have HF:=zZ fun W=>oP c (.slice a c.kids.length k) W ho;obtain ⟨x0,x1,x2,x3,x4⟩:=jv HX.out;have hi:¬ 16 < d:=by omega
 have hbig:c.kids.length<=281474976710656:=ho.2.2.2.2;have hneq:((c.kids.length:Int) != ((uD c.kind:Nat):Int)) = !decide (c.kids.length=uD c.kind):=by
  by_cases e:c.kids.length=uD c.kind<;>simp [e]<;>omega
 clear hK hb;generalize hgl:decide (c.kids.length=uD c.kind)=GL at *;generalize hgf:uM c.kind c.lo c.hi c.n=GF at *;clear hgl hgf;go_enter Tryz.func103,Tryz.ntmps103
 go_upto_region 1 with fail
 generalize w.alloc (.cells #[iI c.kind,.string (mk c.lo),.string (mk c.hi),iI c.n,.slice a c.kids.length k] 79)=W at *;generalize hp:w.heap.size=p at *;go_cut [22] (fun s22 wx=>s22=.bool (!(GL && GF))/\Hid (Below W.heap.size W wx))
 case first =>
  cases GL
  ·simp only [Bool.not_false] at hneq;go_quiet (first|(go_at_call 140;refine Calls.quiet_of_same (HKD.out _)))
   go_wp2_with fail
   go_meet
   exact ⟨rfl,iV (Below.refl _ _) _⟩
  ·simp only [Bool.not_true] at hneq;go_region_with (first|(go_at_call 140;refine (HKD.out _).mono ?_;rintro x w1 ⟨rfl,rfl⟩)|(go_at_call 141;refine (HF.out _).mono ?_;rintro x w1 ⟨rfl,hb1⟩;have HB1:=zZ hb1;clear hb1))
   all_goals
    go_wp2_with fail
    go_meet
    exact ⟨by cases GF<;>rfl,jg (Below.drew (Below.refl _ W)) HB1.out⟩
 case rest =>
  obtain ⟨rfl,HBx⟩:=hcut;have hBB:Below p w wc:=jf hp HB.out HBx.out;have HBB:=zZ hBB;have HKx:=zZ (HK.out.Bu HBx.out);obtain ⟨x0,x1,x2,x3,x4⟩:=jv (tV HX.out HBx.out);clear HB HX HK HKD HF hneq hBB HBx;cases hg:(GL && GF) with
  | false =>
   have Bn:Hid ((GL && (c.kids.all (lV f) && GF))=false):=by
    show _=_;cases GL<;>cases GF<;>simp_all
   clear hg;go_wp2;go_ret;exact ⟨by rw [Bn.out];rfl,by first|exact HBB.out|(rw [hp];exact HBB.out)⟩
  | true =>
   have Bn:Hid ((GL && (c.kids.all (lV f) && GF))=c.kids.all (lV f)):=by
    show _=_;cases GL<;>cases GF<;>simp_all
   clear hg;have HW0:=zZ (Below.refl wc.heap.size wc);go_wp2;go_loopg [26] (c.kids.length) (fun g i wr=>∃n:Nat,n<=c.kids.length/\g=c.kids.length - n/\i=iI n/\Hid (Below wc.heap.size wc wr)/\Hid ((c.kids.take n).all (lV f)=true))
   case atStart=>exact ⟨0,Nat.zero_le _,rfl,rfl,HW0.out,rfl⟩
   case round =>
    clear HW0 x0 x1 x2 x3 x4;obtain ⟨n,hn,hgk,rfl,Cv,HA⟩:=hrel;by_cases hlt:n < c.kids.length
    ·obtain ⟨b,o,mv,rfl,hbs,hx,hcc,hkk,hok⟩:=aX.get (HKx.out.Bu Cv.out) n hlt;obtain ⟨y0,y1,y2,y3,y4⟩:=hcc;obtain ⟨ma,mc,rfl,-,-⟩:=hkk.form;have hbz:=iU wr (.cells #[iI c.kids[n].kind,.string (mk c.kids[n].lo),.string (mk c.kids[n].hi),iI c.kids[n].n,.slice ma c.kids[n].kids.length mc] 79);have HC:=zZ (IH c.kids[n] _ _ (hkk.Bu hbz) hok);have HBz:=zZ (jg Cv.out hbz);have HT:=zZ fun h=>fG (p:=lV f) c.kids n _ hx HA.out h;have HN:=zZ fun h=>fB (p:=lV f) c.kids n _ hx h;clear hx hkk hok hbz;generalize c.kids[n]=kd at *;cases hq:lV f kd
     ·rw [hq] at HC;have HN2:=zZ (HN.out hq);clear hq HT HN;go_wp2_with (go_at_call 103;refine HC.out.mono ?_;rintro e w3 ⟨rfl,hb3⟩;have HB3:=zZ hb3;clear hb3)
      go_ret;exact ⟨by rw [Bn.out,HN2.out];rfl,by first|exact jf hp HBB.out (jg HBz.out HB3.out)|(rw [hp];exact jf hp HBB.out (jg HBz.out HB3.out))⟩
     ·rw [hq] at HC;have HT2:=zZ (HT.out hq);clear hq HT HN;go_wp2_with (go_at_call 103;refine HC.out.mono ?_;rintro e w3 ⟨rfl,hb3⟩;have HB3:=zZ hb3;clear hb3)
      go_roundg (c.kids.length - (n+1))
      case rel=>exact ⟨n+1,by omega,rfl,by go_num,jg HBz.out HB3.out,HT2.out⟩
      case measure=>omega
    ·have hall:c.kids.take n=c.kids:=List.take_of_length_le (by omega);rw [hall] at HA;clear hall;go_wp2;go_ret;exact ⟨by rw [Bn.out,HA.out];rfl,by first|exact jf hp HBB.out Cv.out|(rw [hp];exact jf hp HBB.out Cv.out)⟩
theorem kJ:∀(f:Nat) (d:Int),d+f=17->f<=16->∀(c:Cd) (m:Value) (w:World),aX All w m c.kids->Ok1 c →
  Calls Tryz.prog 103 #[cdv c m,iI d] w fun e w'=>e=.returned (.bool (lV f c))/\Below w.heap.size w w':=by
 intro f;induction f with
 | zero =>
  intro d hd _ c m w _ _;obtain rfl:d=17:=by omega
  exact kK c m w
 | succ f ih=>intro d hd hf c m w hK ho;exact kQ f d (by omega) (by omega) (fun c m w hK ho=>ih (d+1) (by omega) (by omega) c m w hK ho) c m w hK ho
end Pl
namespace Pl
open Go.RowKit
open Wo (Wd jI jQ tV qL)
theorem Ld (x:Tx):(mk x).toList.isEmpty=decide (x=[]):=by rw [←oq];cases (mk x).toList<;>rfl
theorem NQ (n:Int) (w:World):Calls Tryz.prog 52 #[iI n] w fun e w'=>e=.returned (.bool (qg n))/\w'=w:=Ce.NM n w
theorem Og (k:Int) (w:World) :
  Calls Tryz.prog 147 #[iI k] w fun e w'=>e=.returned (iI (uD k:Nat))/\w'=w:=by
 by_cases h6:k=6
 ·subst h6;go_enter Tryz.func147,Tryz.ntmps147
  go_wp2;go_ret;exact ⟨rfl,rfl⟩
 by_cases h7:k=7
 ·subst h7;go_enter Tryz.func147,Tryz.ntmps147
  go_wp2;go_ret;exact ⟨rfl,rfl⟩
 by_cases h8:k=8
 ·subst h8;go_enter Tryz.func147,Tryz.ntmps147
  go_wp2;go_ret;exact ⟨rfl,rfl⟩
 have HK:Hid (uD k=0):=by show _=_;unfold uD;rw [if_neg h6,if_neg (by omega)]
 have b6:(k == 6)=false:=by simpa using h6
 have b7:(k == 7)=false:=by simpa using h7
 have b8:(k == 8)=false:=by simpa using h8
 clear h6 h7 h8;go_enter Tryz.func147,Tryz.ntmps147
 go_wp2;go_ret;exact ⟨by rw [HK.out];rfl,rfl⟩
theorem Ny (c:Cd) (m:Value) (w:World) :
  Calls Tryz.prog 113 #[cdv c m,iI 17] w fun e w'=>e=.returned (.bool false)/\Below w.heap.size w w':=by
 have hb:=iU w (.cells #[iI c.kind,.string (mk c.lo),.string (mk c.hi),iI c.n,m] 79);have HB:=zZ hb;clear hb;go_enter Tryz.func113,Tryz.ntmps113
 go_wp2_with fail
 go_quiet (fail)
 go_wp2;go_ret;exact ⟨rfl,iV HB.out nq⟩
theorem ND (f:Nat) (d:Int) (hd0:1<=d) (hd:d<=16) (IH:∀(c:Cd) (m:Value) (w:World),aX All w m c.kids->Ok1 c->Calls Tryz.prog 113 #[cdv c m,iI (d+1)] w fun e w'=>e=.returned (.bool (lV f c))/\Below w.heap.size w w')
  (c:Cd) (m:Value) (w:World) (hK:aX All w m c.kids) (ho:Ok1 c) :
  Calls Tryz.prog 113 #[cdv c m,iI d] w fun e w'=>e=.returned (.bool (lV (f+1) c))/\Below w.heap.size w w':=by
 rw [lW];have hb:=iU w (.cells #[iI c.kind,.string (mk c.lo),.string (mk c.hi),iI c.n,m] 79);have HB:=zZ hb;have HX:=zZ (heap_alloc_new w (.cells #[iI c.kind,.string (mk c.lo),.string (mk c.hi),iI c.n,m] 79));have HK:=zZ (hK.Bu hb);obtain ⟨a,k,rfl,h1,h2⟩:=hK.form;have HKD:=zZ fun W=>Og c.kind W;obtain ⟨x0,x1,x2,x3,x4⟩:=jv HX.out;have hi:¬ 16 < d:=by omega
 have hbig:c.kids.length<=281474976710656:=ho.2.2.2.2;have hneq:((c.kids.length:Int) != ((uD c.kind:Nat):Int)) = !decide (c.kids.length=uD c.kind):=by
  by_cases e:c.kids.length=uD c.kind<;>simp [e]<;>omega
 have hlo9:c.lo.length<=9223372036854775807:=by have:c.lo.length<=281474976710656:=ho.2.2.1;omega
 have hhi9:c.hi.length<=9223372036854775807:=by have:c.hi.length<=281474976710656:=ho.2.2.2.1;omega
 clear hK hb;generalize hgl:decide (c.kids.length=uD c.kind)=GL at *;clear hgl;go_enter Tryz.func113,Tryz.ntmps113
 go_upto_region 1 with fail
 generalize w.alloc (.cells #[iI c.kind,.string (mk c.lo),.string (mk c.hi),iI c.n,.slice a c.kids.length k] 79)=W at *;generalize hp:w.heap.size=p at *;go_cut [19] (fun s19 wx=>s19=.bool (!GL)/\Hid (Below W.heap.size W wx))
 case first =>
  go_quiet (first|(go_at_call 147;refine Calls.quiet_of_same (HKD.out _)))
  go_wp2_with fail
  go_meet
  exact ⟨rfl,iV (Below.refl _ _) _⟩
 case rest =>
  obtain ⟨rfl,HBx⟩:=hcut;have hBB:Below p w wc:=jf hp HB.out HBx.out;have HBB:=zZ hBB;have HKx:=zZ (HK.out.Bu HBx.out);have HXx:=zZ (tV HX.out HBx.out);obtain ⟨x0,x1,x2,x3,x4⟩:=jv HXx.out;clear HB HX HK HKD hneq hBB HBx;cases GL with
  | false =>
   go_wp2;go_ret;exact ⟨rfl,by first|exact HBB.out|(rw [hp];exact HBB.out)⟩
  | true =>
   have HW0:=zZ (Below.refl wc.heap.size wc);go_wp2;go_loopg [5] (c.kids.length) (fun g i wr=>∃n:Nat,n<=c.kids.length/\g=c.kids.length - n/\i=iI n/\Hid (Below wc.heap.size wc wr)/\Hid ((c.kids.take n).all (lV f)=true))
   case atStart=>exact ⟨0,Nat.zero_le _,rfl,rfl,HW0.out,rfl⟩
   case round =>
    clear HW0 x0 x1 x2 x3 x4;obtain ⟨n,hn,hgk,rfl,Cv,HA⟩:=hrel;obtain ⟨x0,x1,x2,x3,x4⟩:=jv (tV HXx.out Cv.out);by_cases hlt:n < c.kids.length
    ·obtain ⟨b,o,mv,rfl,hbs,hx,hcc,hkk,hok⟩:=aX.get (HKx.out.Bu Cv.out) n hlt;obtain ⟨y0,y1,y2,y3,y4⟩:=hcc;obtain ⟨ma,mc,rfl,-,-⟩:=hkk.form;have HC:=zZ (IH c.kids[n] _ wr hkk hok);have HBz:=Cv;have HT:=zZ fun h=>fG (p:=lV f) c.kids n _ hx HA.out h;have HN:=zZ fun h=>fB (p:=lV f) c.kids n _ hx h;clear hx hkk hok;generalize c.kids[n]=kd at *;cases hq:lV f kd
     ·rw [hq] at HC;have HN2:=zZ (HN.out hq);clear hq HT HN;go_wp2_with (go_at_call 113;refine HC.out.mono ?_;rintro e w3 ⟨rfl,hb3⟩;have HB3:=zZ hb3;clear hb3)
      go_ret;exact ⟨by rw [HN2.out]<;>rfl,by first|exact jf hp HBB.out (jg HBz.out HB3.out)|(rw [hp];exact jf hp HBB.out (jg HBz.out HB3.out))⟩
     ·rw [hq] at HC;have HT2:=zZ (HT.out hq);clear hq HT HN;go_wp2_with (go_at_call 113;refine HC.out.mono ?_;rintro e w3 ⟨rfl,hb3⟩;have HB3:=zZ hb3;clear hb3)
      go_roundg (c.kids.length - (n+1))
      case rel=>exact ⟨n+1,by omega,rfl,by go_num,jg HBz.out HB3.out,HT2.out⟩
      case measure=>omega
    ·have hall:c.kids.take n=c.kids:=List.take_of_length_le (by omega);rw [hall] at HA;have HAT:=HA;have Cq:Hid (Below p w wr):=jf hp HBB.out Cv.out;have HL1:=zZ fun W f t=>Cm.NG c.lo f t W hlo9;have HL2:=zZ fun W f t=>Cm.NG c.hi f t W hhi9;have HG:=zZ fun W=>NQ c.n W;clear hall Cv HBB HXx HKx HA IH hlo9 hhi9 ho;go_upto_block 2 with fail
     go_cut [6,7,8] (fun s6 s7 s8 wx=>s6=.bool (loB c.kind c.lo)/\s7=.bool (hiB c.kind c.hi)/\s8=.bool (nB c.kind c.n)/\wx=wr)
     case first =>
      clear HAT Cq;by_cases k1:c.kind=1
      ·have E1:Hid (loB c.kind c.lo=Cm.lM c.lo 5 5):=by show _=_;unfold loB;rw [if_pos k1]
       have E2:Hid (hiB c.kind c.hi=Cm.lM c.hi 5 5):=by show _=_;unfold hiB;rw [if_pos k1]
       have E3:Hid (nB c.kind c.n=(c.n == 0)):=by show _=_;rw [k1];rfl
       have b1:(c.kind == 1)=true:=by simp;omega
       clear k1;go_wp2_with (first|(go_at_call_of 50 (Value.string (mk c.lo));refine (HL1.out _ 5 5).mono ?_;rintro e w1 ⟨rfl,rfl⟩)|(go_at_call_of 50 (Value.string (mk c.hi));refine (HL2.out _ 5 5).mono ?_;rintro e w1 ⟨rfl,rfl⟩))
       go_meet
       exact ⟨by rw [E1.out]<;>rfl,by rw [E2.out]<;>rfl,by rw [E3.out]<;>rfl,rfl⟩
      by_cases k2:c.kind=2
      ·have E1:Hid (loB c.kind c.lo=Cm.lM c.lo 2 2):=by show _=_;rw [k2];rfl
       have E2:Hid (hiB c.kind c.hi=(mk c.hi).toList.isEmpty):=by show _=_;rw [k2,Ld];rfl
       have E3:Hid (nB c.kind c.n=(c.n == 0)):=by show _=_;rw [k2];rfl
       have b1:(c.kind == 1)=false:=by simp;omega
       have b2:(c.kind == 2)=true:=by simp;omega
       clear k1 k2;go_wp2_with (first|(go_at_call 50;refine (HL1.out _ 2 2).mono ?_;rintro e w1 ⟨rfl,rfl⟩))
       go_meet
       exact ⟨by rw [E1.out]<;>rfl,by rw [E2.out]<;>rfl,by rw [E3.out]<;>rfl,rfl⟩
      have E1:Hid (loB c.kind c.lo=(mk c.lo).toList.isEmpty):=by show _=_;rw [Ld];unfold loB;rw [if_neg k1,if_neg k2]
      have E2:Hid (hiB c.kind c.hi=(mk c.hi).toList.isEmpty):=by show _=_;rw [Ld];unfold hiB;rw [if_neg k1]
      have b1:(c.kind == 1)=false:=by simp;omega
      have b2:(c.kind == 2)=false:=by simp;omega
      clear k1 k2;by_cases k3:c.kind=3
      ·have E3:Hid (nB c.kind c.n=(decide (0<=c.n) && decide (c.n<=9999))):=by show _=_;rw [k3];rfl
       have b3:(c.kind == 3)=true:=by simp;omega
       clear k3;generalize hn:decide (0<=c.n)=N0 at *;cases N0
       iterate 2
        ·go_wp2;go_meet
         exact ⟨by rw [E1.out]<;>rfl,by rw [E2.out]<;>rfl,by rw [E3.out]<;>rfl,rfl⟩
      by_cases k4:c.kind=4
      ·have E3:Hid (nB c.kind c.n=qg c.n):=by show _=_;rw [k4];rfl
       have b3:(c.kind == 3)=false:=by simp;omega
       have b4:(c.kind == 4)=true:=by simp;omega
       clear k3 k4;go_wp2_with (first|(go_at_call 52;refine (HG.out _).mono ?_;rintro e w1 ⟨rfl,rfl⟩))
       go_meet
       exact ⟨by rw [E1.out]<;>rfl,by rw [E2.out]<;>rfl,by rw [E3.out]<;>rfl,rfl⟩
      ·have E3:Hid (nB c.kind c.n=(c.n == 0)):=by show _=_;unfold nB;rw [if_neg k3,if_neg k4];rfl
       have b3:(c.kind == 3)=false:=by simp;omega
       have b4:(c.kind == 4)=false:=by simp;omega
       clear k3 k4;go_wp2;go_meet
       exact ⟨by rw [E1.out]<;>rfl,by rw [E2.out]<;>rfl,by rw [E3.out]<;>rfl,rfl⟩
     case rest =>
      obtain ⟨rfl,rfl,rfl,rfl⟩:=hcut;clear HL1 HL2 HG;have HAL:Hid ((true && (c.kids.all (lV f) && uM c.kind c.lo c.hi c.n))=((decide (0<=c.kind) && decide (c.kind<=8)) && (loB c.kind c.lo && (hiB c.kind c.hi && nB c.kind c.n)))):=by
       show _=_;rw [HAT.out];rfl
      clear HAT;generalize loB c.kind c.lo=LO at *;generalize hiB c.kind c.hi=HI at *;generalize nB c.kind c.n=NB at *;generalize k0:decide (0<=c.kind)=K0 at *;generalize k8:decide (c.kind<=8)=K8 at *;cases K0<;>cases K8<;>cases LO<;>cases HI
      all_goals
       go_wp2;go_ret;exact ⟨by rw [HAL.out]<;>rfl,by first|exact Cq.out|(rw [hp];exact Cq.out)⟩
theorem Nw:∀(f:Nat) (d:Int),d+f=17->f<=16->∀(c:Cd) (m:Value) (w:World),aX All w m c.kids->Ok1 c →
  Calls Tryz.prog 113 #[cdv c m,iI d] w fun e w'=>e=.returned (.bool (lV f c))/\Below w.heap.size w w':=by
 intro f;induction f with
 | zero =>
  intro d hd _ c m w _ _;obtain rfl:d=17:=by omega
  exact Ny c m w
 | succ f ih=>intro d hd hf c m w hK ho;exact ND f d (by omega) (by omega) (fun c m w hK ho=>ih (d+1) (by omega) (by omega) c m w hK ho) c m w hK ho
end Pl
namespace Pl
open Go.RowKit
open Wo (Wd jI jQ tV qL)
theorem sN (s:St) (k:Int) (p:Nat) (w:World) (hp:w.heap[p]?=some (.cells #[iI k] 3 (0,0))) :
  Calls Tryz.prog 163 #[stv s,pP p 0] w fun e w'=>e=.returned (.bool (s.what == k))/\Below w.heap.size w w':=by
 have hb:=iU w (.cells #[iI s.what,iI s.n] 85);obtain ⟨c0,-⟩:=jI (tV hp hb);have HB:=zZ hb;clear hb hp;go_enter Tryz.func163,Tryz.ntmps163
 go_wp2;go_ret;exact ⟨rfl,HB.out⟩
theorem rM (v:Value) (ss:List St) (k:Int) (p:Nat) (w:World) (h:dD All w v ss) (hp:w.heap[p]?=some (.cells #[iI k] 3 (0,0))) :
  Calls Tryz.prog 173 #[v,.func (.func 163) #[] #[pP p 0]] w fun e w'=>(∃n:Int,e=.returned (iI n)/\(decide (0<=n)=decide (k ∈ ss.map (·.what))))/\Below w.heap.size w w':=by
 have HS:=zZ h;have HP:=zZ hp;obtain ⟨a,c,rfl,h1,h2,h4⟩:=h.form;have HB0:=zZ (Below.refl w.heap.size w);clear h hp;go_enter Tryz.func173,Tryz.ntmps173
 go_wp2;go_loopg [8] (ss.length) (fun g i wr=>∃(n:Nat),n<=ss.length/\g=ss.length - n/\i=iI n/\Hid (Below w.heap.size w wr)/\Hid (k ∉ (ss.take n).map (·.what)))
 case atStart=>exact ⟨0,Nat.zero_le _,rfl,rfl,HB0.out,by show _ ∉ _;simp⟩
 case round =>
  clear HB0;obtain ⟨n,hk,hg,rfl,HB,HA⟩:=hrel;by_cases hlt:n < ss.length
  ·obtain ⟨b,o,rfl,hbs,hx,hu0,hu1,-,-⟩:=dD.get (HS.out.Bu HB.out) n hlt;have HC:=zZ fun W (hW:W.heap[p]?=some (.cells #[iI k] 3 (0,0)))=>sN ss[n] k p W hW;have HP1:=zZ (tV HP.out HB.out);have HH:Hid (ss[n].what=k->k ∈ ss.map (·.what)):=fun e=>by rw [←e];exact List.mem_map_of_mem (List.getElem_mem hlt)
   have HN:Hid (¬ ss[n].what=k->k ∉ (ss.take (n+1)).map (·.what)):=fun he=>by
    show k ∉ (ss.take (n+1)).map (·.what);rw [List.take_add_one,hx];simp only [Option.toList_some,List.map_append,List.map_cons,List.map_nil,List.mem_append,List.mem_singleton,not_or];exact ⟨HA.out,fun e=>he e.symm⟩
   clear hx;generalize ss[n]=x at *;by_cases he:x.what=k
   ·have hq:(x.what == k)=true:=by simpa using he
    have HH2:=zZ (HH.out he);rw [hq] at HC;clear he hq;go_wp2_with (go_at_call 163;refine (HC.out _ HP1.out).mono ?_;rintro e w1 ⟨rfl,hb1⟩;have HB1:=zZ hb1;clear hb1)
    go_ret;refine ⟨⟨(n:Nat),rfl,?_⟩,jg HB.out HB1.out⟩;rw [decide_eq_true HH2.out,decide_eq_true (by omega)]
   ·have hq:(x.what == k)=false:=by simpa using he
    have HN2:=zZ (HN.out he);rw [hq] at HC;clear he hq;go_wp2_with (go_at_call 163;refine (HC.out _ HP1.out).mono ?_;rintro e w1 ⟨rfl,hb1⟩;have HB1:=zZ hb1;clear hb1)
    go_roundg (ss.length - (n+1))
    case rel=>exact ⟨n+1,by omega,rfl,by go_num,jg HB.out HB1.out,HN2.out⟩
    case measure=>omega
  ·have hall:ss.take n=ss:=List.take_of_length_le (by omega);have HM:Hid (k ∉ ss.map (·.what)):=by show _ ∉ _;rw [←hall];exact HA.out
   clear hall;go_wp2;go_ret;refine ⟨⟨-1,rfl,?_⟩,HB.out⟩;rw [decide_eq_false HM.out,decide_eq_false (by omega)]
theorem lZ (v:Value) (ss:List St) (k:Int) (p:Nat) (w:World) (h:dD All w v ss) (hp:w.heap[p]?=some (.cells #[iI k] 3 (0,0))) :
  Calls Tryz.prog 162 #[v,.func (.func 163) #[] #[pP p 0]] w fun e w'=>e=.returned (.bool (decide (k ∈ ss.map (·.what))))/\Below w.heap.size w w':=by
 have HC:=zZ (rM v ss k p w h hp);clear h hp;go_enter Tryz.func162,Tryz.ntmps162
 go_wp2_with (go_at_call 173;refine HC.out.mono ?_;rintro e w1 ⟨⟨n,rfl,hn⟩,hb1⟩;have HB1:=zZ hb1;have HN:=zZ hn;clear hb1 hn)
 go_ret;exact ⟨by rw [←HN.out];rfl,HB1.out⟩
theorem sJ (v:Value) (ss:List St) (k:Int) (w:World) (h:dD All w v ss) :
  Calls Tryz.prog 143 #[v,iI k] w fun e w'=>e=.returned (.bool (decide (k ∈ ss.map (·.what))))/\Below w.heap.size w w':=by
 have hb:=iU w (.cells #[iI k] 3);have HC:=zZ (lZ v ss k w.heap.size _ (h.Bu hb) (heap_alloc_new w (.cells #[iI k] 3)));have HB:=zZ hb;obtain ⟨a,c,rfl,h1,h2,h4⟩:=h.form;have hmf:∀(fn:Fn) (first cap:Array Value) (w:World),(Instr.makeFunc fn first cap).run Tryz.prog w=.ok (.func fn first cap) w:=fun _ _ _ _=>rfl;clear h hb;generalize decide (k ∈ ss.map (·.what))=R at *;go_enter Tryz.func143,Tryz.ntmps143
 go_wp2_with (go_at_call 162;refine HC.out.mono ?_;rintro e w1 ⟨rfl,hb1⟩;have HB1:=zZ hb1;clear hb1)
 go_ret;exact ⟨rfl,jg HB.out HB1.out⟩
end Pl
end Go.Proofs.YtfbfeoplldjbpaaGreatDoor
