/-
  Texts put together (merge.py): ZBin.
-/
import Derived.Test.YtfbfeoplldjbpaaGreatDoorMd16
set_option linter.unusedSimpArgs false
set_option linter.unusedVariables false
set_option maxHeartbeats 16000000
set_option maxRecDepth 100000
namespace Go.Proofs.YtfbfeoplldjbpaaGreatDoor
namespace Fe
open Go.RowKit
open Wo (tV jI jQ qL iU jg)
theorem jf {w a b:World} {p:Nat} (hp:w.heap.size=p) (h:Below p w a) (k:Below a.heap.size a b):Below p w b:=by subst hp;exact jg h k
def BsV (l:List Cr) (k:Cr) (e:Ending):Prop:=∃(i:Nat) (fb:Bool),e=.returned (.tuple #[iI (i:Nat),.bool fb])/\i<=l.length/\(∀t (ht:t < l.length),t < i->dR l[t] k=true)/\(∀t (ht:t < l.length),i<=t->dR l[t] k=false)/\(fb=true ↔ ∃hi:i < l.length,Ew l[i] k)
theorem jZ {l:List Cr} {w:World} {b oo n c:Nat} (h:aU All w (.slice (some ⟨b,oo,none⟩) n c) l) (t:Nat) (ht:t < l.length):aS w b (oo+t * 5) l[t]:=by
 obtain ⟨b1,o1,e1,-,-,c1⟩:=aU.get h t ht;simp only [Option.some.injEq,Addr.mk.injEq,and_true] at e1;obtain ⟨rfl,rfl⟩:=e1;exact c1
theorem dX {l:List Cr} (hU:Up l) (k:Cr) (h:Nat) (hh:h < l.length) (e:dR l[h] k=true) (t:Nat) (ht:t < l.length) (htl:t < h+1):dR l[t] k=true:=by
 rcases Nat.lt_or_ge t h with c|c
 ·exact dZ (Ht hU ht hh c) e
 ·have:t=h:=by omega
  subst this;exact e
theorem iQ {l:List Cr} (hU:Up l) (k:Cr) (h:Nat) (hh:h < l.length) (e:dR l[h] k=false) (t:Nat) (ht:t < l.length) (htl:h<=t):dR l[t] k=false:=by
 rcases Nat.lt_or_ge h t with c|c
 ·cases hv:dR l[t] k with
  | false=>rfl
  | true =>
   have:=dZ (Ht hU hh ht c) hv;rw [e] at this;cases this
 ·have:t=h:=by omega
  subst this;exact e
theorem jS (l:List Cr) (k:Cr) (v:Value) (w:World) (h:aU All w v l) (hl:l.length<=281474976710656) (hU:Up l) :
  Calls Tryz.prog 153 #[v,plv k,.func (.func 154) #[] #[]] w fun e w'=>BsV l k e/\Below w.heap.size w w':=by
 have HU:=zZ hU;obtain ⟨fa,fk,rfl,hm1,hm2⟩:=h.form;have hb0:=iU w (.cells #[sS k.proc,sS k.mod,iI k.net,iI k.Ch] 152);have HZ:=zZ (heap_alloc_new w (.cells #[sS k.proc,sS k.mod,iI k.net,iI k.Ch] 152));have HF:=zZ (h.Bu hb0);have HB0:=zZ hb0;have HCm:=zZ fun (x:Cr) W'=>uK x k W';clear h hU hb0;go_enter Tryz.func153,Tryz.ntmps153
 go_upto_region 1 with fail
 generalize w.alloc (.cells #[sS k.proc,sS k.mod,iI k.net,iI k.Ch] 152)=W at *;generalize hp:w.heap.size=p at *;go_wp2;go_loopg [9,10] (l.length) (fun g s9 s10 wr=>∃lo hi:Nat,s9=iI lo/\s10=iI hi/\lo<=hi/\hi<=l.length/\hi - lo<=g/\Hid (Below W.heap.size W wr)/\Hid ((∀t (ht:t < l.length),t < lo->dR l[t] k=true)/\(∀t (ht:t < l.length),hi<=t->dR l[t] k=false)))
 case atStart=>exact ⟨0,l.length,rfl,rfl,Nat.zero_le _,Nat.le_refl _,by omega,Below.refl _ _,(⟨fun t ht h=>absurd h (Nat.not_lt_zero _),fun t ht h=>by omega⟩:(∀t (ht:t < l.length),t < 0->dR l[t] k=true)/\(∀t (ht:t < l.length),l.length<=t->dR l[t] k=false))⟩
 case round =>
  obtain ⟨lo,hi,rfl,rfl,hlh,hin,hgk,Co,HI⟩:=hrel;by_cases hlt:lo < hi
  ·have hltz:(lo:Int) < (hi:Int):=by omega
   obtain ⟨md,hmd⟩:∃h,h=(lo+hi) / 2:=⟨_,rfl⟩;have zmd:((lo:Int)+(hi:Int)) / 2=(md:Int):=by omega
   have h1:lo<=md:=by omega
   have h2:md < hi:=by omega
   have hml:md < l.length:=by omega
   clear hmd;obtain ⟨b,oo,rfl,-,-,-⟩:=aU.get HF.out md hml;have Bt:=zZ fun W' (hW:Below wr.heap.size wr W')=>And.intro (jZ (HF.out.Bu (jg Co.out hW)) md hml) (bB (tV HZ.out (jg Co.out hW)));have HMo:=zZ (dX HU.out k md hml);have HMb:=zZ (iQ HU.out k md hml);generalize l[md]=x at *;have HD:=zZ (Below.drew (Below.refl wr.heap.size wr));obtain ⟨wo,hwo⟩:∃z,z=wr:=⟨_,rfl⟩;subst hwo;go_upto_region 5 with fail
   refine Ri.IX (by kernel_rfl) (by kernel_rfl) (by kernel_rfl) (fun Wx=>Below wo.heap.size wo Wx) (fun kz vs wz=>(fun kx vx wx=>match kx with|0=>vx=.func (.func 154) #[] #[]|1=>vx=.slice (some ⟨b,oo,none⟩) l.length fk|2=>vx=iI (md:Nat)|3=>vx=pP b (oo+md * 5)|4=>vx=fev x|5=>vx=plv k|6=>vx=iI (zC x k)|7=>vx=.bool (decide (zC x k < 0))|_=>True:Nat->Value->World->Prop) kz (vs kz) wz) (fun kz=>[kz]) (by kernel_rfl) (fun jz vs iz vz wz hiz hz=>Ri.wI (F:=(fun kx vx wx=>match kx with|0=>vx=.func (.func 154) #[] #[]|1=>vx=.slice (some ⟨b,oo,none⟩) l.length fk|2=>vx=iI (md:Nat)|3=>vx=pP b (oo+md * 5)|4=>vx=fev x|5=>vx=plv k|6=>vx=iI (zC x k)|7=>vx=.bool (decide (zC x k < 0))|_=>True:Nat->Value->World->Prop)) jz vs iz vz wz hiz hz) HD.out ⟨⟨rfl,?_⟩,⟨rfl,?_⟩,⟨rfl,?_⟩,⟨rfl,?_⟩,⟨rfl,?_⟩,⟨rfl,?_⟩,⟨rfl,?_⟩,⟨rfl,?_⟩,trivial⟩ ?_
   ·intro vs Wx A hA hB hpre K hK;have e2:=(hA 2).trans (show _=Value.func (.func 154) #[] #[] by kernel_rfl);clear hA hpre;go_simp;exact hK _ _ hB rfl (fun _ _ h=>h)
   ·intro vs Wx A hA hB hpre K hK;have e0:=(hA 0).trans (show _=Value.slice (some ⟨b,oo,none⟩) l.length fk by kernel_rfl);clear hA hpre;go_simp;exact hK _ _ hB rfl (fun _ _ h=>h)
   ·intro vs Wx A hA hB hpre K hK;have e11:=(hA 11).trans (show _=iI (md:Nat) by kernel_rfl);clear hA hpre;go_simp;exact hK _ _ hB rfl (fun _ _ h=>h)
   ·intro vs Wx A hA hB hpre K hK;have e25:=tT (hA 25) (by kernel_rfl) (hpre.1 rfl);have e26:=tT (hA 26) (by kernel_rfl) (hpre.2.1 rfl);clear hA hpre;go_simp;exact hK _ _ hB rfl (fun _ _ h=>h)
   ·intro vs Wx A hA hB hpre K hK;have e27:=tT (hA 27) (by kernel_rfl) (hpre.1 rfl);obtain ⟨⟨x0,x1,x2,x3,x4⟩,⟨y0,y1,y2,y3⟩⟩:=Bt.out Wx hB;clear hA hpre;go_simp;exact hK _ _ hB rfl (fun _ _ h=>h)
   ·intro vs Wx A hA hB hpre K hK;have e4:=(hA 4).trans (show _=pP p 0 by kernel_rfl);obtain ⟨⟨x0,x1,x2,x3,x4⟩,⟨y0,y1,y2,y3⟩⟩:=Bt.out Wx hB;clear hA hpre;go_simp;exact hK _ _ hB rfl (fun _ _ h=>h)
   ·intro vs Wx A hA hB hpre K hK;have e24:=tT (hA 24) (by kernel_rfl) (hpre.1 rfl);have e28:=tT (hA 28) (by kernel_rfl) (hpre.2.1 rfl);have e29:=tT (hA 29) (by kernel_rfl) (hpre.2.2.1 rfl);clear hA hpre;go_simp;go_at_call 154
    refine (HCm.out _ _).mono ?_;rintro e w3 ⟨rfl,hg⟩;exact hK _ _ (jg hB hg.1) rfl (fun _ _ h=>h)
   ·intro vs Wx A hA hB hpre K hK;have e30:=tT (hA 30) (by kernel_rfl) (hpre.1 rfl);clear hA hpre;go_simp;exact hK _ _ hB rfl (fun _ _ h=>h)
   ·intro vs Wx hB hF;have hL:vs 7=.bool (decide (zC x k < 0)):=hF 7 (by decide);have Cn:=zZ (jg Co.out hB);clear hF hB;simp only [Ri.puts];rw [hL];clear hL;cases hlv:dR x k with
    | true =>
     have hd:decide (zC x k < 0)=true:=decide_eq_true ((zF x k).2 hlv);rw [hd];have HI2:Hid ((∀t (ht:t < l.length),t < md+1->dR l[t] k=true)/\(∀t (ht:t < l.length),hi<=t->dR l[t] k=false)):=⟨fun t ht h=>HMo.out hlv t ht h,HI.out.2⟩;clear hd HMo HMb HI;go_simp;go_wp2;go_roundg (hi - (md+1))
     case measure=>omega
     case rel=>exact ⟨md+1,hi,by first|rfl|go_num|(congr 1;omega),rfl,by omega,hin,by omega,Cn.out,HI2.out⟩
    | false =>
     have hd:decide (zC x k < 0)=false:=decide_eq_false (fun h=>by rw [(zF x k).1 h] at hlv;cases hlv);rw [hd];have HI2:Hid ((∀t (ht:t < l.length),t < lo->dR l[t] k=true)/\(∀t (ht:t < l.length),md<=t->dR l[t] k=false)):=⟨HI.out.1,fun t ht h=>HMb.out hlv t ht h⟩;clear hd HMo HMb HI;go_simp;go_wp2;go_roundg (md - lo)
     case measure=>omega
     case rel=>exact ⟨lo,md,rfl,by first|rfl|go_num|(congr 1;omega),by omega,by omega,by omega,Cn.out,HI2.out⟩
  ·have hltz:¬ (lo:Int) < (hi:Int):=by omega
   have ehl:hi=lo:=by omega
   have HI2:Hid ((∀t (ht:t < l.length),t < lo->dR l[t] k=true)/\(∀t (ht:t < l.length),lo<=t->dR l[t] k=false)):=by rw [ehl] at HI;exact HI
   have hlen:lo<=l.length:=by omega
   clear HI ehl;have HD:=zZ (Below.drew (Below.refl wr.heap.size wr));obtain ⟨wo,hwo⟩:∃z,z=wr:=⟨_,rfl⟩;subst hwo;by_cases hn:lo < l.length
   ·have hnz:(lo:Int) < (l.length:Int):=by omega
    obtain ⟨b,oo,rfl,-,-,-⟩:=aU.get HF.out lo hn;have Bt:=zZ fun W' (hW:Below wo.heap.size wo W')=>And.intro (jZ (HF.out.Bu (jg Co.out hW)) lo hn) (bB (tV HZ.out (jg Co.out hW)));obtain ⟨x,HX⟩:∃x,Hid (l[lo]=x):=⟨l[lo],(rfl:l[lo]=l[lo])⟩;rw [HX.out] at Bt;go_upto_region 8 with fail
    refine Ri.IZ (by kernel_rfl) (by kernel_rfl) (by kernel_rfl) (fun Wx=>Below wo.heap.size wo Wx) (fun kz vs wz=>(fun kx vx wx=>match kx with|0=>vx=iI (lo:Nat)|1=>vx=iI (lo:Nat)|2=>vx=iI (l.length:Nat)|3=>vx=.bool true|4=>vx=.bool true|5=>vx=.func (.func 154) #[] #[]|6=>vx=.slice (some ⟨b,oo,none⟩) l.length fk|7=>vx=iI (lo:Nat)|8=>vx=pP b (oo+lo * 5)|9=>vx=fev x|10=>vx=plv k|11=>vx=iI (zC x k)|12=>vx=.bool (zC x k == 0)|13=>vx=.bool (zC x k == 0)|14=>vx=iI (lo:Nat)|15=>vx=.bool (zC x k == 0)|_=>True:Nat->Value->World->Prop) kz (vs kz) wz) (fun kz=>[kz]) (by kernel_rfl) (fun jz vs iz vz wz hiz hz=>Ri.wI (F:=(fun kx vx wx=>match kx with|0=>vx=iI (lo:Nat)|1=>vx=iI (lo:Nat)|2=>vx=iI (l.length:Nat)|3=>vx=.bool true|4=>vx=.bool true|5=>vx=.func (.func 154) #[] #[]|6=>vx=.slice (some ⟨b,oo,none⟩) l.length fk|7=>vx=iI (lo:Nat)|8=>vx=pP b (oo+lo * 5)|9=>vx=fev x|10=>vx=plv k|11=>vx=iI (zC x k)|12=>vx=.bool (zC x k == 0)|13=>vx=.bool (zC x k == 0)|14=>vx=iI (lo:Nat)|15=>vx=.bool (zC x k == 0)|_=>True:Nat->Value->World->Prop)) jz vs iz vz wz hiz hz) HD.out ⟨Or.inl ⟨rfl,?_⟩,Or.inl ⟨rfl,?_⟩,Or.inl ⟨rfl,?_⟩,Or.inl ⟨rfl,?_⟩,Or.inl ⟨rfl,?_⟩,Or.inr ⟨4,true,39,rfl,rfl,?_⟩,Or.inr ⟨4,true,39,rfl,rfl,?_⟩,Or.inr ⟨4,true,39,rfl,rfl,?_⟩,Or.inr ⟨4,true,39,rfl,rfl,?_⟩,Or.inr ⟨4,true,39,rfl,rfl,?_⟩,Or.inr ⟨4,true,39,rfl,rfl,?_⟩,Or.inr ⟨4,true,39,rfl,rfl,?_⟩,Or.inr ⟨4,true,39,rfl,rfl,?_⟩,Or.inl ⟨rfl,?_⟩,Or.inl ⟨rfl,?_⟩,Or.inl ⟨rfl,?_⟩,trivial⟩ ?_
    iterate 2
     ·intro vs Wx A hA hB hpre K hK;have e9:=(hA 9).trans (show _=iI (lo:Nat) by kernel_rfl);clear hA hpre;go_simp;exact hK _ _ hB rfl (fun _ _ h=>h)
    ·intro vs Wx A hA hB hpre K hK;have e8:=(hA 8).trans (show _=iI (l.length:Nat) by kernel_rfl);clear hA hpre;go_simp;exact hK _ _ hB rfl (fun _ _ h=>h)
    ·intro vs Wx A hA hB hpre K hK;have e36:=tT (hA 36) (by kernel_rfl) (hpre.1 rfl);have e37:=tT (hA 37) (by kernel_rfl) (hpre.2.1 rfl);clear hA hpre;go_simp;exact hK _ _ hB rfl (fun _ _ h=>h)
    ·intro vs Wx A hA hB hpre K hK;have e38:=tT (hA 38) (by kernel_rfl) (hpre.1 rfl);clear hA hpre;go_simp;exact hK _ _ hB rfl (fun _ _ h=>h)
    ·intro vs Wx A hA hB hpre;have eg:=tT (hA 39) (by kernel_rfl) (hpre.1 rfl);refine ⟨true,eg,fun _ K hK=>?_,fun h=>absurd rfl h⟩;have e2:=(hA 2).trans (show _=Value.func (.func 154) #[] #[] by kernel_rfl);clear hA hpre;go_simp;exact hK _ _ hB rfl (fun _ _ h=>h)
    ·intro vs Wx A hA hB hpre;have eg:=tT (hA 39) (by kernel_rfl) (hpre.1 rfl);refine ⟨true,eg,fun _ K hK=>?_,fun h=>absurd rfl h⟩;have e0:=(hA 0).trans (show _=Value.slice (some ⟨b,oo,none⟩) l.length fk by kernel_rfl);clear hA hpre;go_simp;exact hK _ _ hB rfl (fun _ _ h=>h)
    ·intro vs Wx A hA hB hpre;have eg:=tT (hA 39) (by kernel_rfl) (hpre.1 rfl);refine ⟨true,eg,fun _ K hK=>?_,fun h=>absurd rfl h⟩;have e9:=(hA 9).trans (show _=iI (lo:Nat) by kernel_rfl);clear hA hpre;go_simp;exact hK _ _ hB rfl (fun _ _ h=>h)
    ·intro vs Wx A hA hB hpre;have eg:=tT (hA 39) (by kernel_rfl) (hpre.2.2.1 rfl);refine ⟨true,eg,fun _ K hK=>?_,fun h=>absurd rfl h⟩;have e41:=tT (hA 41) (by kernel_rfl) (hpre.1 rfl);have e42:=tT (hA 42) (by kernel_rfl) (hpre.2.1 rfl);clear hA hpre;go_simp;exact hK _ _ hB rfl (fun _ _ h=>h)
    ·intro vs Wx A hA hB hpre;have eg:=tT (hA 39) (by kernel_rfl) (hpre.2.1 rfl);refine ⟨true,eg,fun _ K hK=>?_,fun h=>absurd rfl h⟩;have e43:=tT (hA 43) (by kernel_rfl) (hpre.1 rfl);obtain ⟨⟨x0,x1,x2,x3,x4⟩,⟨y0,y1,y2,y3⟩⟩:=Bt.out Wx hB;clear hA hpre;go_simp;exact hK _ _ hB rfl (fun _ _ h=>h)
    ·intro vs Wx A hA hB hpre;have eg:=tT (hA 39) (by kernel_rfl) (hpre.1 rfl);refine ⟨true,eg,fun _ K hK=>?_,fun h=>absurd rfl h⟩;have e4:=(hA 4).trans (show _=pP p 0 by kernel_rfl);obtain ⟨⟨x0,x1,x2,x3,x4⟩,⟨y0,y1,y2,y3⟩⟩:=Bt.out Wx hB;clear hA hpre;go_simp;exact hK _ _ hB rfl (fun _ _ h=>h)
    ·intro vs Wx A hA hB hpre;have eg:=tT (hA 39) (by kernel_rfl) (hpre.2.2.2.1 rfl);refine ⟨true,eg,fun _ K hK=>?_,fun h=>absurd rfl h⟩;have e40:=tT (hA 40) (by kernel_rfl) (hpre.1 rfl);have e44:=tT (hA 44) (by kernel_rfl) (hpre.2.1 rfl);have e45:=tT (hA 45) (by kernel_rfl) (hpre.2.2.1 rfl);clear hA hpre;go_simp;go_at_call 154
     refine (HCm.out _ _).mono ?_;rintro e w3 ⟨rfl,hg⟩;exact hK _ _ (jg hB hg.1) rfl (fun _ _ h=>h)
    ·intro vs Wx A hA hB hpre;have eg:=tT (hA 39) (by kernel_rfl) (hpre.2.1 rfl);refine ⟨true,eg,fun _ K hK=>?_,fun h=>absurd rfl h⟩;have e46:=tT (hA 46) (by kernel_rfl) (hpre.1 rfl);clear hA hpre;go_simp;exact hK _ _ hB rfl (fun _ _ h=>h)
    ·intro vs Wx A hA hB hpre K hK;have e39:=tT (hA 39) (by kernel_rfl) (hpre.1 rfl);have e47:=tT (hA 47) (by kernel_rfl) (hpre.2.1 rfl);clear hA hpre;go_simp;exact hK _ _ hB rfl (fun _ _ h=>h)
    ·intro vs Wx A hA hB hpre K hK;have e35:=tT (hA 35) (by kernel_rfl) (hpre.1 rfl);clear hA hpre;go_simp;exact hK _ _ hB rfl (fun _ _ h=>h)
    ·intro vs Wx A hA hB hpre K hK;have e48:=tT (hA 48) (by kernel_rfl) (hpre.1 rfl);clear hA hpre;go_simp;exact hK _ _ hB rfl (fun _ _ h=>h)
    ·intro vs Wx hB hF;have hL:vs 15=.bool (zC x k == 0):=hF 15 (by decide);have hL2:vs 14=iI (lo:Nat):=hF 14 (by decide);have Cn:=zZ (jf hp HB0.out (jg Co.out hB));clear hF hB;simp only [Ri.puts];rw [hL,hL2];clear hL hL2;go_simp;go_wp2_with fail
     go_ret2;refine ⟨⟨lo,(zC x k == 0),rfl,hlen,HI2.out.1,HI2.out.2,?_⟩,by first|exact Cn.out|(rw [hp];exact Cn.out)⟩;rw [beq_iff_eq,zH];exact ⟨fun h=>⟨hn,by rw [HX.out];exact h⟩,fun ⟨_,h⟩=>by rw [HX.out] at h;exact h⟩
   ·have hnz:¬ (lo:Int) < (l.length:Int):=by omega
    go_upto_region 8 with fail
    refine Ri.IZ (by kernel_rfl) (by kernel_rfl) (by kernel_rfl) (fun Wx=>Below wo.heap.size wo Wx) (fun kz vs wz=>(fun kx vx wx=>match kx with|0=>vx=iI (lo:Nat)|1=>vx=iI (lo:Nat)|2=>vx=iI (l.length:Nat)|3=>vx=.bool false|4=>vx=.bool false|5=>True|6=>True|7=>True|8=>True|9=>True|10=>True|11=>True|12=>True|13=>vx=.bool false|14=>vx=iI (lo:Nat)|15=>vx=.bool false|_=>True:Nat->Value->World->Prop) kz (vs kz) wz) (fun kz=>[kz]) (by kernel_rfl) (fun jz vs iz vz wz hiz hz=>Ri.wI (F:=(fun kx vx wx=>match kx with|0=>vx=iI (lo:Nat)|1=>vx=iI (lo:Nat)|2=>vx=iI (l.length:Nat)|3=>vx=.bool false|4=>vx=.bool false|5=>True|6=>True|7=>True|8=>True|9=>True|10=>True|11=>True|12=>True|13=>vx=.bool false|14=>vx=iI (lo:Nat)|15=>vx=.bool false|_=>True:Nat->Value->World->Prop)) jz vs iz vz wz hiz hz) HD.out ⟨Or.inl ⟨rfl,?_⟩,Or.inl ⟨rfl,?_⟩,Or.inl ⟨rfl,?_⟩,Or.inl ⟨rfl,?_⟩,Or.inl ⟨rfl,?_⟩,Or.inr ⟨4,true,39,rfl,rfl,?_⟩,Or.inr ⟨4,true,39,rfl,rfl,?_⟩,Or.inr ⟨4,true,39,rfl,rfl,?_⟩,Or.inr ⟨4,true,39,rfl,rfl,?_⟩,Or.inr ⟨4,true,39,rfl,rfl,?_⟩,Or.inr ⟨4,true,39,rfl,rfl,?_⟩,Or.inr ⟨4,true,39,rfl,rfl,?_⟩,Or.inr ⟨4,true,39,rfl,rfl,?_⟩,Or.inl ⟨rfl,?_⟩,Or.inl ⟨rfl,?_⟩,Or.inl ⟨rfl,?_⟩,trivial⟩ ?_
    iterate 2
     ·intro vs Wx A hA hB hpre K hK;have e9:=(hA 9).trans (show _=iI (lo:Nat) by kernel_rfl);clear hA hpre;go_simp;exact hK _ _ hB rfl (fun _ _ h=>h)
    ·intro vs Wx A hA hB hpre K hK;have e8:=(hA 8).trans (show _=iI (l.length:Nat) by kernel_rfl);clear hA hpre;go_simp;exact hK _ _ hB rfl (fun _ _ h=>h)
    ·intro vs Wx A hA hB hpre K hK;have e36:=tT (hA 36) (by kernel_rfl) (hpre.1 rfl);have e37:=tT (hA 37) (by kernel_rfl) (hpre.2.1 rfl);clear hA hpre;go_simp;exact hK _ _ hB rfl (fun _ _ h=>h)
    ·intro vs Wx A hA hB hpre K hK;have e38:=tT (hA 38) (by kernel_rfl) (hpre.1 rfl);clear hA hpre;go_simp;exact hK _ _ hB rfl (fun _ _ h=>h)
    iterate 3
     ·intro vs Wx A hA hB hpre;have eg:=tT (hA 39) (by kernel_rfl) (hpre.1 rfl);exact ⟨false,eg,fun h=>(by cases h),fun _=>trivial⟩
    ·intro vs Wx A hA hB hpre;have eg:=tT (hA 39) (by kernel_rfl) (hpre.2.2.1 rfl);exact ⟨false,eg,fun h=>(by cases h),fun _=>trivial⟩
    ·intro vs Wx A hA hB hpre;have eg:=tT (hA 39) (by kernel_rfl) (hpre.2.1 rfl);exact ⟨false,eg,fun h=>(by cases h),fun _=>trivial⟩
    ·intro vs Wx A hA hB hpre;have eg:=tT (hA 39) (by kernel_rfl) (hpre.1 rfl);exact ⟨false,eg,fun h=>(by cases h),fun _=>trivial⟩
    ·intro vs Wx A hA hB hpre;have eg:=tT (hA 39) (by kernel_rfl) (hpre.2.2.2.1 rfl);exact ⟨false,eg,fun h=>(by cases h),fun _=>trivial⟩
    ·intro vs Wx A hA hB hpre;have eg:=tT (hA 39) (by kernel_rfl) (hpre.2.1 rfl);exact ⟨false,eg,fun h=>(by cases h),fun _=>trivial⟩
    ·intro vs Wx A hA hB hpre K hK;have e39:=tT (hA 39) (by kernel_rfl) (hpre.1 rfl);clear hA hpre;go_simp;exact hK _ _ hB rfl (fun _ _ h=>h)
    ·intro vs Wx A hA hB hpre K hK;have e35:=tT (hA 35) (by kernel_rfl) (hpre.1 rfl);clear hA hpre;go_simp;exact hK _ _ hB rfl (fun _ _ h=>h)
    ·intro vs Wx A hA hB hpre K hK;have e48:=tT (hA 48) (by kernel_rfl) (hpre.1 rfl);clear hA hpre;go_simp;exact hK _ _ hB rfl (fun _ _ h=>h)
    ·intro vs Wx hB hF;have hL:vs 15=.bool false:=hF 15 (by decide);have hL2:vs 14=iI (lo:Nat):=hF 14 (by decide);have Cn:=zZ (jf hp HB0.out (jg Co.out hB));clear hF hB;simp only [Ri.puts];rw [hL,hL2];clear hL hL2;go_simp;go_wp2_with fail
     go_ret2;exact ⟨⟨lo,false,rfl,hlen,HI2.out.1,HI2.out.2,⟨fun h=>(by cases h),fun ⟨h,_⟩=>absurd h hn⟩⟩,by first|exact Cn.out|(rw [hp];exact Cn.out)⟩
end Fe
end Go.Proofs.YtfbfeoplldjbpaaGreatDoor
