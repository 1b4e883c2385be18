/-
  Texts put together (merge.py): XRWhy.
-/
import Derived.Test.YtfbfeoplldjbpaaGreatDoorMd28
set_option linter.unusedSimpArgs false
set_option linter.unusedVariables false
set_option maxHeartbeats 16000000
set_option maxRecDepth 100000
namespace Go.Proofs.YtfbfeoplldjbpaaGreatDoor
namespace Ex
open Go.RowKit
open Wo (Wd jI jQ tV qL iU jg)
open Cm (Ln bH bg lnv)
def Dq (W w':World):Prop:=∃q,w'=W.drewN q
theorem Dq.drew {W w':World} (h:Dq W w') (n:Nat):Dq W (w'.drewN n):=by
 obtain ⟨q,rfl⟩:=h;exact ⟨q+n,by rw [World.drewN_drewN]⟩
theorem gG (l:List Tx) (n:Nat) (h:n < l.length) (t:Tx):((l.take (n+1)).any fun u=>decide (u=t))=(((l.take n).any fun u=>decide (u=t)) || decide (l[n]=t)):=by
 have e:l.take (n+1)=l.take n ++ [l[n]]:=by rw [List.take_add_one,List.getElem?_eq_getElem h];rfl
 rw [e,List.any_append];simp
theorem Px {e:Ed} {x z:Ln} {i n:Nat} {l:List Ln} (h:l[n]?=some z):Ie e x i n (l.drop n)=if Ih e x i n z=0 then Ie e x i (n+1) (l.drop (n+1)) else Ih e x i n z:=by
 obtain ⟨hn,rfl⟩:=List.getElem?_eq_some_iff.1 h;rw [List.drop_eq_getElem_cons hn];rfl
theorem PG {e:Ed} {x z:Ln} {i n:Nat} (h:n=i ∨ ¬ z.date=x.date):Ih e x i n z=0:=by
 unfold Ih;rw [if_pos h]
theorem PI {k:Int} {ea eb:Tx} {YB:Bool} {en:Int} {x z:Ln} {i n:Nat} (h1:¬ n=i) (h2:z.date=x.date):Ih ⟨k,ea,eb,YB,en⟩ x i n z=if k=1/\x.proc=eb/\z.proc=ea/\¬ (YB=true/\byB x=true) then 97 else if k=2/\n < i/\(x.proc=ea/\z.proc=eb ∨ x.proc=eb/\z.proc=ea) then 236 else 0:=by
 unfold Ih;rw [if_neg (by rintro (h|h);exact h1 h;exact h h2)]
theorem Pz {k:Int} {ea eb:Tx} {YB:Bool} {en:Int} {x:Ln} {i:Nat} {l:List Ln} (h:k=3/\x.proc=ea/\en < x.units):Ii ⟨k,ea,eb,YB,en⟩ l i x=151:=by
 unfold Ii;rw [if_pos h]
theorem PD {k:Int} {ea eb:Tx} {YB:Bool} {en:Int} {x:Ln} {i:Nat} {l:List Ln} (h:¬ (k=3/\x.proc=ea/\en < x.units)):Ii ⟨k,ea,eb,YB,en⟩ l i x=Ie ⟨k,ea,eb,YB,en⟩ x i 0 (l.drop 0):=by
 unfold Ii;rw [if_neg h];rfl
theorem iW {w W w':World} {p:Nat} (hp:w.heap.size=p) (h:Below p w W) (hd:Dq W w'):Below w.heap.size w w':=by
 subst hp;obtain ⟨q,rfl⟩:=hd;exact h.trans ⟨rfl,rfl,rfl,Nat.le_refl _,fun _ _=>rfl⟩
theorem NI {e:Ed} {x:Ln} {i n:Nat} {l:List Ln} {RR:Int} {W w':World} (h:Ie e x i (n+1) (l.drop (n+1))=RR) (hn:n+1<=l.length) (hd:Dq W w'):∃(m q:Nat),m<=l.length/\l.length - (n+1)=l.length - m/\iI ((n:Int)+1)=iI (m:Nat)/\w'=W.drewN q/\Hid (Ie e x i m (l.drop m)=RR):=by
 obtain ⟨q,rfl⟩:=hd;exact ⟨n+1,q,hn,rfl,by simp,rfl,h⟩
theorem Py (e:Ed) (l:List Ln) (v:Value) (i:Nat) (x:Ln) (w:World) (h:bH All w v l) (hi:l[i]?=some x) (hok:Cm.bG x) (hln:l.length<=281474976710656):Calls Tryz.prog 96 #[edv e,v,iI (i:Nat)] w fun r w'=>r=.returned (iI (Ii e l i x))/\Below w.heap.size w w':=by
 obtain ⟨k,ea,eb,YB,en⟩:=e;show Calls _ _ #[.agg #[iI k,.string (mk ea),.string (mk eb),.bool YB,iI en],v,iI (i:Nat)] _ fun r w'=>r=.returned (iI (Ii ⟨k,ea,eb,YB,en⟩ l i x))/\Below w.heap.size w w';have HL:=zZ h;obtain ⟨la,lc,rfl,hl1,hl2⟩:=Cm.bH.form h;obtain ⟨b,oo,rfl⟩:=vY h hi;obtain ⟨m,hcc,hm⟩:=vG h hi;have hlt:i < l.length:=(List.getElem?_eq_some_iff.1 hi).1;have hltz:(i:Int) < (l.length:Int):=by omega
 have hicz:(i:Int)<=(lc:Int):=by omega
 have hi0:(0:Int)<=(i:Int):=by omega
 have hi1z:(i:Int)+1<=(l.length:Int):=by omega
 have hi2z:(l.length:Int)<=(lc:Int):=by omega
 have hi3z:(0:Int)<=(i:Int)+1:=by omega
 obtain ⟨ma,mc,rfl,-,-⟩:=Cm.dI.form hm;obtain ⟨k0,k1,k2,k3,k4,k5⟩:=hcc;have hb1:=iU w (.cells #[iI k,.string (mk ea),.string (mk eb),.bool YB,iI en] 56);have hbb:b < w.heap.size:=World.block_lt_of_cell? w _ k0;have hne:b ≠ w.heap.size:=Nat.ne_of_lt hbb;have hb2:=iU (w.alloc (.cells #[iI k,.string (mk ea),.string (mk eb),.bool YB,iI en] 56)) (.cells #[.string (mk x.proc),.slice ma x.mods.length mc,iI x.date,iI x.units,iI x.Av,iI x.prior] 48);have HZ1:=zZ (tV (heap_alloc_new w (.cells #[iI k,.string (mk ea),.string (mk eb),.bool YB,iI en] 56)) hb2);have hz2:=heap_alloc_new (w.alloc (.cells #[iI k,.string (mk ea),.string (mk eb),.bool YB,iI en] 56)) (.cells #[.string (mk x.proc),.slice ma x.mods.length mc,iI x.date,iI x.units,iI x.Av,iI x.prior] 48);rw [show (w.alloc (.cells #[iI k,.string (mk ea),.string (mk eb),.bool YB,iI en] 56)).heap.size=w.heap.size+1 by simp] at hz2;have HZ2:=zZ hz2;have HB:=zZ (jg hb1 hb2);have HL2:=zZ (wB HL.out (jg hb1 hb2));have HM2:=zZ (dI.move hm (Below.moves (jg hb1 hb2)));have g0:=(iU w (.cells #[iI k,.string (mk ea),.string (mk eb),.bool YB,iI en] 56)).cell (p:=⟨b,oo+i * 6,none⟩) hbb;have g1:=(iU w (.cells #[iI k,.string (mk ea),.string (mk eb),.bool YB,iI en] 56)).cell (p:=⟨b,oo+i * 6+1,none⟩) hbb;have g2:=(iU w (.cells #[iI k,.string (mk ea),.string (mk eb),.bool YB,iI en] 56)).cell (p:=⟨b,oo+i * 6+2,none⟩) hbb;have g3:=(iU w (.cells #[iI k,.string (mk ea),.string (mk eb),.bool YB,iI en] 56)).cell (p:=⟨b,oo+i * 6+3,none⟩) hbb;have g4:=(iU w (.cells #[iI k,.string (mk ea),.string (mk eb),.bool YB,iI en] 56)).cell (p:=⟨b,oo+i * 6+4,none⟩) hbb;have g5:=(iU w (.cells #[iI k,.string (mk ea),.string (mk eb),.bool YB,iI en] 56)).cell (p:=⟨b,oo+i * 6+5,none⟩) hbb;rw [k0] at g0;rw [k1] at g1;rw [k2] at g2;rw [k3] at g3;rw [k4] at g4;rw [k5] at g5;clear hb1 hb2 hz2 h hm k0 k1 k2 k3 k4 k5;have HHit:Hid (k=3/\x.proc=ea/\en < x.units->Ii ⟨k,ea,eb,YB,en⟩ l i x=151):=Pz;have HMis:Hid (¬ (k=3/\x.proc=ea/\en < x.units)->Ii ⟨k,ea,eb,YB,en⟩ l i x=Ie ⟨k,ea,eb,YB,en⟩ x i 0 (l.drop 0)):=PD;have hmz:x.mods.length<=281474976710656:=hok.2.2.2.2.2.1;generalize Ii ⟨k,ea,eb,YB,en⟩ l i x=RR at *;clear HL hi hok;obtain ⟨VA,HVA,qa⟩:∃V,Hid (decide (x.proc=ea)=V)/\((mk x.proc).toList == (mk ea).toList)=V:=⟨_,rfl,xH _ _⟩;obtain ⟨VB,HVB,qb⟩:∃V,Hid (decide (x.proc=eb)=V)/\((mk x.proc).toList == (mk eb).toList)=V:=⟨_,rfl,xH _ _⟩;go_enter Tryz.func96,Tryz.ntmps96
 go_upto_region 2 with fail
 generalize (w.alloc (.cells #[iI k,.string (mk ea),.string (mk eb),.bool YB,iI en] 56)).alloc (.cells #[.string (mk x.proc),.slice ma x.mods.length mc,iI x.date,iI x.units,iI x.Av,iI x.prior] 48)=W at *;generalize hp:w.heap.size=p at *;generalize p+1=p1 at *;clear g0 g1 g2 g3 g4 g5 hne hbb;obtain ⟨c0,c1,c2,c3,c4⟩:=cells5 HZ1.out;obtain ⟨d0,d1,d2,d3,d4,d5⟩:=ku HZ2.out;go_cut [31] (fun s31 wx=>wx=W/\((s31=.bool true/\Hid (RR=151)) ∨ (s31=.bool false/\Hid (¬ (k=3/\x.proc=ea/\en < x.units)))))
 case first =>
  by_cases h3:k=3
  rotate_left
  ·have q3:(k == 3)=false:=by rw [beq_eq_false_iff_ne];exact h3
   have HN:Hid (¬ (k=3/\x.proc=ea/\en < x.units)):=fun h=>h3 h.1;clear h3;go_wp2;go_meet
   exact ⟨rfl,Or.inr ⟨rfl,HN.out⟩⟩
  cases VA with
  | false =>
   have HN:Hid (¬ (k=3/\x.proc=ea/\en < x.units)):=fun h=>of_decide_eq_false HVA.out h.2.1;have h3':=zZ h3;subst h3;go_wp2;go_meet
   exact ⟨rfl,Or.inr ⟨rfl,HN.out⟩⟩
  | true =>
   by_cases hu:en < x.units
   ·have HN:Hid (RR=151):=HHit.out ⟨h3,of_decide_eq_true HVA.out,hu⟩;subst h3;go_wp2;go_meet
    exact ⟨rfl,Or.inl ⟨rfl,HN.out⟩⟩
   ·have HN:Hid (¬ (k=3/\x.proc=ea/\en < x.units)):=fun h=>hu h.2.2;subst h3;go_wp2;go_meet
    exact ⟨rfl,Or.inr ⟨rfl,HN.out⟩⟩
 case rest =>
 obtain ⟨hwc,hs⟩:=hcut;have hc2:=hwc.symm;subst hc2;rcases hs with ⟨rfl,HN⟩|⟨rfl,HN⟩
 ·clear HHit HMis;go_wp2;go_ret;exact ⟨by rw [HN.out];rfl,by first|exact HB.out|(rw [hp];exact HB.out)⟩
 have HE0:=zZ (HMis.out HN.out).symm;clear HHit HMis HN;go_wp2;go_loopg [8,9] (x.mods.length) (fun g s8 s9 wr=>∃n:Nat,n<=x.mods.length/\g=x.mods.length - n/\s9=iI (n:Nat)/\s8=.bool ((x.mods.take n).any fun t=>decide (t=t59))/\wr=W)
 case atStart=>exact ⟨0,Nat.zero_le _,rfl,rfl,rfl,rfl⟩
 case round =>
  obtain ⟨n,hn,hgk,rfl,rfl,hwr⟩:=hrel;subst hwr;by_cases hlt':n < x.mods.length
  ·have hltz':(n:Int) < (x.mods.length:Int):=by omega
   obtain ⟨mb,mo,rfl,-,hu⟩:=Cm.He HM2.out n hlt';have HA:=zZ (gG x.mods n hlt' t59);obtain ⟨VN,HVN,qn⟩:∃V,Hid (decide (x.mods[n]=t59)=V)/\((mk x.mods[n]).toList == [53,57])=V:=⟨decide (x.mods[n]=t59),rfl,by by_cases h:x.mods[n]=t59;rw [decide_eq_true h];exact LY h;rw [decide_eq_false h];exact LX h⟩;rw [HVN.out] at HA;generalize x.mods[n]=T at *;obtain ⟨V8,HV8⟩:∃V,V=((x.mods.take n).any fun t=>decide (t=t59)):=⟨_,rfl⟩;rw [←HV8] at HA ⊢;clear HV8;cases V8 with
   | true =>
    rw [Bool.true_or] at HA;go_wp2;go_roundg (x.mods.length - (n+1))
    case measure=>omega
    case rel=>exact ⟨n+1,by omega,rfl,by first|rfl|go_num|(congr 1;omega),by rw [HA.out],rfl⟩
   | false =>
    rw [Bool.false_or] at HA;go_wp2;go_roundg (x.mods.length - (n+1))
    case measure=>omega
    case rel=>exact ⟨n+1,by omega,rfl,by first|rfl|go_num|(congr 1;omega),by rw [HA.out],rfl⟩
  have hltz':¬ (n:Int) < (x.mods.length:Int):=by omega
  have HBY:Hid (((x.mods.take n).any fun t=>decide (t=t59))=byB x):=by show _=_;rw [List.take_of_length_le (by omega)];rfl
  rw [HBY.out];clear HBY hn hgk;obtain ⟨BY,HBY⟩:∃z,Hid (byB x=z):=⟨_,rfl⟩;rw [HBY.out];obtain ⟨W,hW⟩:∃z,z=wr:=⟨_,rfl⟩;subst hW;go_wp2;go_loopg [10] (l.length) (fun g s10 wr=>∃(n q:Nat),n<=l.length/\g=l.length - n/\s10=iI (n:Nat)/\wr=W.drewN q/\Hid (Ie ⟨k,ea,eb,YB,en⟩ x i n (l.drop n)=RR))
  case atStart=>exact ⟨0,0,Nat.zero_le _,rfl,rfl,rfl,HE0.out⟩
  case round =>
   clear HE0;obtain ⟨n,q,hn,hgk,rfl,rfl,HE⟩:=hrel;by_cases hl3:n < l.length
   rotate_left
   ·have hl3z:¬ (n:Int) < (l.length:Int):=by omega
    have HZ:Hid (RR=0):=by
     show _=_;rw [←HE.out,List.drop_eq_nil_of_le (by omega)];rfl
    go_wp2;go_ret;exact ⟨by rw [HZ.out];rfl,by first|exact iW hp HB.out ⟨q,rfl⟩|(rw [←hp];exact iW hp HB.out ⟨q,rfl⟩)⟩
   have hl3z:(n:Int) < (l.length:Int):=by omega
   have HIz:=zZ (List.getElem?_eq_getElem hl3);have HFD:=zZ (Px (e:=⟨k,ea,eb,YB,en⟩) (x:=x) (i:=i) HIz.out);rw [HE.out] at HFD;generalize l[n]=z at *;obtain ⟨zm,hzc,hzm⟩:=vG HL2.out HIz.out;obtain ⟨za,zc,rfl,-,-⟩:=Cm.dI.form hzm;obtain ⟨z0,z1,z2,z3,z4,z5⟩:=hzc;clear hzm HE;by_cases hni:n=i
   ·have HS:=zZ (HFD.out.trans (if_pos (PG (Or.inl hni)))).symm;clear HFD;subst hni;go_wp2_with fail
    go_quiet (fail)
    go_wp2;go_roundg (l.length - (n+1))
    case measure=>omega
    case rel=>exact NI HS.out (by omega) (by first|exact ⟨_,rfl⟩|exact Dq.drew ⟨_,rfl⟩ _|exact Dq.drew (Dq.drew ⟨_,rfl⟩ _) _)
   have hniz:((n:Int) == (i:Int))=false:=by rw [beq_eq_false_iff_ne];omega
   by_cases hda:z.date=x.date
   rotate_left
   ·have HS:=zZ (HFD.out.trans (if_pos (PG (Or.inr hda)))).symm;have hdz:(z.date != x.date)=true:=by simpa using hda
    have hdz':(z.date == x.date)=false:=by rw [beq_eq_false_iff_ne];exact hda
    clear HFD hda hni;go_wp2_with fail
    go_quiet (fail)
    go_wp2;go_roundg (l.length - (n+1))
    case measure=>omega
    case rel=>exact NI HS.out (by omega) (by first|exact ⟨_,rfl⟩|exact Dq.drew ⟨_,rfl⟩ _|exact Dq.drew (Dq.drew ⟨_,rfl⟩ _) _)
   obtain ⟨VD,hVD,hdz⟩:∃V:Bool,V=false/\(z.date != x.date)=V:=⟨_,by rw [hda];simp,rfl⟩;obtain ⟨VE,hVE,hdz'⟩:∃V:Bool,V=true/\(z.date == x.date)=V:=⟨_,by rw [hda];simp,rfl⟩;obtain ⟨ZA,HZA,za'⟩:∃V,Hid (decide (z.proc=ea)=V)/\((mk z.proc).toList == (mk ea).toList)=V:=⟨_,rfl,xH _ _⟩;obtain ⟨ZB,HZB,zb'⟩:∃V,Hid (decide (z.proc=eb)=V)/\((mk z.proc).toList == (mk eb).toList)=V:=⟨_,rfl,xH _ _⟩;obtain ⟨P1,HP1⟩:∃V:Bool,Hid (V=decide (k=1/\x.proc=eb/\z.proc=ea/\¬ (YB=true/\byB x=true))):=⟨_,rfl⟩;obtain ⟨P2,HP2⟩:∃V:Bool,Hid (V=decide (k=2/\n < i/\(x.proc=ea/\z.proc=eb ∨ x.proc=eb/\z.proc=ea))):=⟨_,rfl⟩;have HW:=zZ (PI (k:=k) (YB:=YB) (ea:=ea) (eb:=eb) (en:=en) hni hda);rw [HW.out] at HFD;have HR1:Hid (P1=true->RR=97):=fun h=>by
    rw [HFD.out,if_pos (c:=k=1/\x.proc=eb/\z.proc=ea/\¬ (YB=true/\byB x=true)) (of_decide_eq_true (HP1.out.symm.trans h)),if_neg (by decide)]
   have HR2:Hid (P1=false->P2=true->RR=236):=fun h h'=>by
    rw [HFD.out,if_neg (c:=k=1/\x.proc=eb/\z.proc=ea/\¬ (YB=true/\byB x=true)) (of_decide_eq_false (HP1.out.symm.trans h)),if_pos (c:=k=2/\n < i/\(x.proc=ea/\z.proc=eb ∨ x.proc=eb/\z.proc=ea)) (of_decide_eq_true (HP2.out.symm.trans h')),if_neg (by decide)]
   have HS0:Hid (P1=false->P2=false->Ie ⟨k,ea,eb,YB,en⟩ x i (n+1) (l.drop (n+1))=RR):=fun h h'=>by
    rw [HFD.out,if_neg (c:=k=1/\x.proc=eb/\z.proc=ea/\¬ (YB=true/\byB x=true)) (of_decide_eq_false (HP1.out.symm.trans h)),if_neg (c:=k=2/\n < i/\(x.proc=ea/\z.proc=eb ∨ x.proc=eb/\z.proc=ea)) (of_decide_eq_false (HP2.out.symm.trans h')),if_pos rfl]
   have HNI:=zZ hni;clear HFD HW hda hni;go_wp2_with fail
   go_quiet (fail)
   go_wp2_with fail
   go_cut [94] (fun s94 wx=>s94=.bool P1/\Dq W wx)
   case first =>
    clear HR1 HR2 HS0 HP2;by_cases h1:k=1
    rotate_left
    ·have q1:(k == 1)=false:=by rw [beq_eq_false_iff_ne];exact h1
     obtain rfl:P1=false:=HP1.out.trans (decide_eq_false fun h=>h1 h.1);clear h1 HP1;go_quiet (fail)
     go_wp2;go_meet
     exact ⟨rfl,by first|exact ⟨_,rfl⟩|exact Dq.drew ⟨_,rfl⟩ _|exact Dq.drew (Dq.drew ⟨_,rfl⟩ _) _⟩
    cases VB with
    | false =>
     obtain rfl:P1=false:=HP1.out.trans (decide_eq_false fun h=>of_decide_eq_false HVB.out h.2.1);subst h1;clear HP1;go_quiet (fail)
     go_wp2;go_meet
     exact ⟨rfl,by first|exact ⟨_,rfl⟩|exact Dq.drew ⟨_,rfl⟩ _|exact Dq.drew (Dq.drew ⟨_,rfl⟩ _) _⟩
    | true =>
    cases ZA with
    | false =>
     obtain rfl:P1=false:=HP1.out.trans (decide_eq_false fun h=>of_decide_eq_false HZA.out h.2.2.1);subst h1;clear HP1;go_quiet (fail)
     go_wp2;go_meet
     exact ⟨rfl,by first|exact ⟨_,rfl⟩|exact Dq.drew ⟨_,rfl⟩ _|exact Dq.drew (Dq.drew ⟨_,rfl⟩ _) _⟩
    | true =>
    cases YB with
    | false =>
     obtain rfl:P1=true:=HP1.out.trans (decide_eq_true ⟨h1,of_decide_eq_true HVB.out,of_decide_eq_true HZA.out,fun h=>by cases h.1⟩);subst h1;clear HP1;go_quiet (fail)
     go_wp2;go_meet
     exact ⟨rfl,by first|exact ⟨_,rfl⟩|exact Dq.drew ⟨_,rfl⟩ _|exact Dq.drew (Dq.drew ⟨_,rfl⟩ _) _⟩
    | true =>
    cases BY with
    | false =>
     obtain rfl:P1=true:=HP1.out.trans (decide_eq_true ⟨h1,of_decide_eq_true HVB.out,of_decide_eq_true HZA.out,fun h=>by rw [HBY.out] at h;cases h.2⟩);subst h1;clear HP1;go_quiet (fail)
     go_wp2;go_meet
     exact ⟨rfl,by first|exact ⟨_,rfl⟩|exact Dq.drew ⟨_,rfl⟩ _|exact Dq.drew (Dq.drew ⟨_,rfl⟩ _) _⟩
    | true =>
     obtain rfl:P1=false:=HP1.out.trans (decide_eq_false fun h=>h.2.2.2 ⟨rfl,HBY.out⟩);subst h1;clear HP1;go_quiet (fail)
     go_wp2;go_meet
     exact ⟨rfl,by first|exact ⟨_,rfl⟩|exact Dq.drew ⟨_,rfl⟩ _|exact Dq.drew (Dq.drew ⟨_,rfl⟩ _) _⟩
   case rest =>
   obtain ⟨rfl,q2,hq2⟩:=hcut;rw [hq2];clear hq2 wc;cases P1 with
   | true =>
    have HR:=zZ (HR1.out (by first|rfl|trivial));clear HR1 HR2 HS0 HP1 HP2;go_wp2;go_ret;have hdq:=iW hp HB.out ⟨q2,rfl⟩;exact ⟨by rw [HR.out];rfl,by first|exact hdq|(rw [←hp];exact hdq)⟩
   | false =>
   clear HR1 HP1;go_wp2_with fail
   go_cut [136] (fun s136 wx=>s136=.bool P2/\Dq W wx)
   case first =>
    clear HR2 HS0;by_cases h2:k=2
    rotate_left
    ·have q2':(k == 2)=false:=by rw [beq_eq_false_iff_ne];exact h2
     obtain rfl:P2=false:=HP2.out.trans (decide_eq_false fun h=>h2 h.1);clear h2 HP2;go_quiet (fail)
     go_wp2;go_meet
     exact ⟨rfl,by first|exact ⟨_,rfl⟩|exact Dq.drew ⟨_,rfl⟩ _|exact Dq.drew (Dq.drew ⟨_,rfl⟩ _) _⟩
    by_cases hlt3:n < i
    rotate_left
    ·have hl4:decide ((n:Int) < (i:Int))=false:=decide_eq_false (by omega);have hl5:¬ (n:Int) < (i:Int):=by omega
     obtain rfl:P2=false:=HP2.out.trans (decide_eq_false fun h=>hlt3 h.2.1);subst h2;clear HP2;go_quiet (fail)
     go_wp2;go_meet
     exact ⟨rfl,by first|exact ⟨_,rfl⟩|exact Dq.drew ⟨_,rfl⟩ _|exact Dq.drew (Dq.drew ⟨_,rfl⟩ _) _⟩
    have hl4:(n:Int) < (i:Int):=by omega
    have HVal:Hid (P2=((VA && ZB) || (VB && ZA))):=by
     show _=_;rw [HP2.out,←HVA.out,←HVB.out,←HZA.out,←HZB.out,Bool.eq_iff_iff];simp only [Bool.or_eq_true,Bool.and_eq_true,decide_eq_true_eq];exact ⟨fun h=>h.2.2,fun h=>⟨h2,hlt3,h⟩⟩
    subst h2;clear HP2 HVA HVB HZA HZB;cases VA with
    | true =>
     cases ZB with
     | true =>
      obtain rfl:P2=true:=HVal.out;clear HVal;go_quiet (fail)
      go_wp2;go_meet
      exact ⟨rfl,by first|exact ⟨_,rfl⟩|exact Dq.drew ⟨_,rfl⟩ _|exact Dq.drew (Dq.drew ⟨_,rfl⟩ _) _⟩
     | false =>
      cases VB with
      | true =>
       obtain rfl:P2=ZA:=HVal.out;clear HVal;go_quiet (fail)
       go_wp2;go_meet
       exact ⟨rfl,by first|exact ⟨_,rfl⟩|exact Dq.drew ⟨_,rfl⟩ _|exact Dq.drew (Dq.drew ⟨_,rfl⟩ _) _⟩
      | false =>
       obtain rfl:P2=false:=HVal.out;clear HVal;go_quiet (fail)
       go_wp2;go_meet
       exact ⟨rfl,by first|exact ⟨_,rfl⟩|exact Dq.drew ⟨_,rfl⟩ _|exact Dq.drew (Dq.drew ⟨_,rfl⟩ _) _⟩
    | false =>
     cases VB with
     | true =>
      obtain rfl:P2=ZA:=HVal.out.trans (by cases ZB<;>rfl);clear HVal;go_quiet (fail)
      go_wp2;go_meet
      exact ⟨rfl,by first|exact ⟨_,rfl⟩|exact Dq.drew ⟨_,rfl⟩ _|exact Dq.drew (Dq.drew ⟨_,rfl⟩ _) _⟩
     | false =>
      obtain rfl:P2=false:=HVal.out.trans (by cases ZB<;>rfl);clear HVal;go_quiet (fail)
      go_wp2;go_meet
      exact ⟨rfl,by first|exact ⟨_,rfl⟩|exact Dq.drew ⟨_,rfl⟩ _|exact Dq.drew (Dq.drew ⟨_,rfl⟩ _) _⟩
   case rest =>
   obtain ⟨rfl,q3,hq3⟩:=hcut;rw [hq3];clear hq3 wc;cases P2 with
   | true =>
    have HR:=zZ (HR2.out (by first|rfl|trivial) (by first|rfl|trivial));clear HR2 HS0 HP2;go_wp2;go_ret;have hdq:=iW hp HB.out ⟨q3,rfl⟩;exact ⟨by rw [HR.out];rfl,by first|exact hdq|(rw [←hp];exact hdq)⟩
   | false =>
    have HS:=zZ (HS0.out (by first|rfl|trivial) (by first|rfl|trivial));clear HR2 HS0 HP2;go_wp2;go_roundg (l.length - (n+1))
    case measure=>omega
    case rel=>exact NI HS.out (by omega) ⟨q3,rfl⟩
theorem NH (t:List Ed) (u:Value) (l:List Ln) (v:Value) (i:Int) (w:World) (ht:aP All w u t) (h:bH All w v l) (hn:t.length<=281474976710656) (hln:l.length<=281474976710656) (hok:∀x ∈ l,Cm.bG x):Calls Tryz.prog 56 #[u,v,iI i] w fun r w'=>r=.returned (iI (mO t l i))/\Below w.heap.size w w':=by
 have HT:=zZ ht;have HL:=zZ h;have HOK:=zZ hok;clear hok;obtain ⟨ta,tc,rfl,ht1,ht2⟩:=ht.form;obtain ⟨la,lc,rfl,hl1,hl2⟩:=Cm.bH.form h;clear ht h;by_cases h0:i < 0
 ·rw [mW (Or.inl h0)];go_enter Tryz.func56,Tryz.ntmps56
  go_wp2;go_ret;exact ⟨rfl,Below.refl _ _⟩
 by_cases h1:(l.length:Int)<=i
 ·rw [mW (Or.inr h1)];go_enter Tryz.func56,Tryz.ntmps56
  go_wp2;go_ret;exact ⟨rfl,Below.refl _ _⟩
 obtain ⟨i,rfl⟩:∃n:Nat,i=(n:Int):=⟨i.toNat,by omega⟩;have hi:i < l.length:=by omega
 have HI:=zZ (List.getElem?_eq_getElem hi);have HO:=zZ (HOK.out l[i] (List.getElem_mem hi));generalize l[i]=x at *;rw [mQ HI.out];obtain ⟨RR,HRR⟩:∃z,Hid (mM l i x t=z):=⟨_,rfl⟩;rw [HRR.out];go_enter Tryz.func56,Tryz.ntmps56
 go_wp2;go_loopg [7] (t.length) (fun g j wr=>∃n:Nat,n<=t.length/\g=t.length - n/\j=iI (n:Nat)/\Hid (Below w.heap.size w wr)/\Hid (mM l i x (t.drop n)=RR))
 case atStart=>exact ⟨0,Nat.zero_le _,rfl,rfl,Below.refl _ _,HRR.out⟩
 case round =>
  clear HRR;obtain ⟨n,hn',hgk,rfl,Co,HE⟩:=hrel;by_cases hlt:n < t.length
  ·obtain ⟨b,oo,rfl,hbs,-,hcc⟩:=aP.get (HT.out.Bu Co.out) n hlt;have HFD:=zZ (mV (l:=l) (i:=i) (x:=x) hlt);generalize t[n]=e at *;obtain ⟨c0,c1,c2,c3,c4⟩:=hcc;have HRW:=zZ (Py e l _ i x wr (wB HL.out Co.out) HI.out HO.out hln);have HB2:=Co;go_wp2_with fail
   go_at_call 96
   refine HRW.out.mono ?_;rintro r5 w5 ⟨rfl,hg⟩;have CF:=zZ (jg HB2.out hg);clear hg HRW HB2 c0 c1 c2 c3 c4;obtain ⟨r,HRV⟩:∃r,Hid (Ii e l i x=r):=⟨_,rfl⟩;rw [HRV.out] at HFD;rw [HRV.out];by_cases hr:r=0
   ·have q1:(r != 0)=false:=by rw [hr];rfl
    have HE2:Hid (mM l i x (t.drop (n+1))=RR):=by show _=_;rw [←HE.out,HFD.out,if_pos hr]
    clear HE HFD hr;go_wp2;go_roundg (t.length - (n+1))
    case measure=>omega
    case rel=>exact ⟨n+1,by omega,rfl,by first|rfl|go_num|(congr 1;omega),CF.out,HE2.out⟩
   ·have q1:(r != 0)=true:=by simpa using hr
    have HE2:Hid (RR=r):=by show _=_;rw [←HE.out,HFD.out,if_neg hr]
    clear HE HFD hr;go_wp2;go_ret;exact ⟨by rw [HE2.out];rfl,CF.out⟩
  ·have hltz:¬ (n:Int) < (t.length:Int):=by omega
   have HE2:Hid (RR=0):=by
    show _=_;have e:t.drop n=[]:=List.drop_eq_nil_of_le (by omega);have:=HE.out;rw [e] at this;exact this.symm
   go_wp2;go_ret;exact ⟨by rw [HE2.out];rfl,Co.out⟩
end Ex
end Go.Proofs.YtfbfeoplldjbpaaGreatDoor
