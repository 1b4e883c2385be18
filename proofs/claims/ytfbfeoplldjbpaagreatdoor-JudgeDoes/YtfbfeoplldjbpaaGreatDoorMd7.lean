/-
  Texts put together (merge.py): YBin, YGet, YClone, YIns.
-/
import Derived.Lib.Overlaps
import Derived.Lib.AppendZerosOnto
import Derived.Laws.CopyOwn
import Derived.Test.YtfbfeoplldjbpaaGreatDoorMd6
set_option linter.unusedSimpArgs false
set_option linter.unusedVariables false
set_option maxHeartbeats 16000000
set_option maxRecDepth 100000
namespace Go.Proofs.YtfbfeoplldjbpaaGreatDoor
namespace Ac
open Go.RowKit
def BsV (l:List Row) (k:Row) (e:Ending):Prop:=∃(i:Nat) (fb:Bool),e=.returned (.tuple #[iI (i:Nat),.bool fb])/\dh l k i fb
theorem jS (l:List Row) (k:Row) (v:Value) (w:World) (h:cu All w v l) (hl:l.length<=281474976710656) (hU:Up l) :
  Calls Tryz.prog 170 #[v,rwv k,.func (.func 43) #[] #[]] w fun e w'=>BsV l k e/\Below w.heap.size w w':=by
 have HU:=zZ hU;obtain ⟨fa,fk,rfl,hm1,hm2⟩:=h.form;have hb0:=iU w (.cells #[sS k.who,.bool k.Br,iI k.year,iI k.de,iI k.oo] TA);have HZ:=zZ (heap_alloc_new w (.cells #[sS k.who,.bool k.Br,iI k.year,iI k.de,iI k.oo] TA));have HF:=zZ (h.Bu hb0);have HB0:=zZ hb0;have HCm:=zZ fun (x:Row) W'=>zI x k W';clear h hU hb0;go_enter Tryz.func170,Tryz.ntmps170
 go_upto_region 1 with fail
 generalize w.alloc (.cells #[sS k.who,.bool k.Br,iI k.year,iI k.de,iI k.oo] TA)=W at *;generalize hp:w.heap.size=p at *;go_wp2;go_loopg [9,10] (l.length) (fun g s9 s10 wr=>∃lo hi:Nat,s9=iI lo/\s10=iI hi/\lo<=hi/\hi<=l.length/\hi - lo<=g/\Hid (Below W.heap.size W wr)/\Hid ((∀t (ht:t < l.length),t < lo->dR l[t] k=true)/\(∀t (ht:t < l.length),hi<=t->dR l[t] k=false)))
 case atStart=>exact ⟨0,l.length,rfl,rfl,Nat.zero_le _,Nat.le_refl _,by omega,Below.refl _ _,(⟨fun t ht h=>absurd h (Nat.not_lt_zero _),fun t ht h=>by omega⟩:(∀t (ht:t < l.length),t < 0->dR l[t] k=true)/\(∀t (ht:t < l.length),l.length<=t->dR l[t] k=false))⟩
 case round =>
  obtain ⟨lo,hi,rfl,rfl,hlh,hin,hgk,Co,HI⟩:=hrel;by_cases hlt:lo < hi
  ·have hltz:(lo:Int) < (hi:Int):=by omega
   obtain ⟨md,hmd⟩:∃h,h=(lo+hi) / 2:=⟨_,rfl⟩;have zmd:((lo:Int)+(hi:Int)) / 2=(md:Int):=by omega
   have h1:lo<=md:=by omega
   have h2:md < hi:=by omega
   have hml:md < l.length:=by omega
   clear hmd;obtain ⟨b,oo,rfl,-,-,-⟩:=cu.get HF.out md hml;have Bt:=zZ fun W' (hW:Below wr.heap.size wr W')=>And.intro (jZ (HF.out.Bu (jg Co.out hW)) md hml) (cells5 (tV HZ.out (jg Co.out hW)));have HMo:=zZ (dX HU.out k md hml);have HMb:=zZ (iQ HU.out k md hml);generalize l[md]=x at *;have HD:=zZ (Below.drew (Below.refl wr.heap.size wr));obtain ⟨wo,hwo⟩:∃z,z=wr:=⟨_,rfl⟩;subst hwo;go_upto_region 5 with fail
   refine Ri.IX (by kernel_rfl) (by kernel_rfl) (by kernel_rfl) (fun Wx=>Below wo.heap.size wo Wx) (fun kz vs wz=>(fun kx vx wx=>match kx with|0=>vx=.func (.func 43) #[] #[]|1=>vx=.slice (some ⟨b,oo,none⟩) l.length fk|2=>vx=iI (md:Nat)|3=>vx=pP b (oo+md * 5)|4=>vx=rwv x|5=>vx=rwv k|6=>vx=iI (zC x k)|7=>vx=.bool (decide (zC x k < 0))|_=>True:Nat->Value->World->Prop) kz (vs kz) wz) (fun kz=>[kz]) (by kernel_rfl) (fun jz vs iz vz wz hiz hz=>Ri.wI (F:=(fun kx vx wx=>match kx with|0=>vx=.func (.func 43) #[] #[]|1=>vx=.slice (some ⟨b,oo,none⟩) l.length fk|2=>vx=iI (md:Nat)|3=>vx=pP b (oo+md * 5)|4=>vx=rwv x|5=>vx=rwv k|6=>vx=iI (zC x k)|7=>vx=.bool (decide (zC x k < 0))|_=>True:Nat->Value->World->Prop)) jz vs iz vz wz hiz hz) HD.out ⟨⟨rfl,?_⟩,⟨rfl,?_⟩,⟨rfl,?_⟩,⟨rfl,?_⟩,⟨rfl,?_⟩,⟨rfl,?_⟩,⟨rfl,?_⟩,⟨rfl,?_⟩,trivial⟩ ?_
   ·intro vs Wx A hA hB hpre K hK;have e2:=(hA 2).trans (show _=Value.func (.func 43) #[] #[] by kernel_rfl);clear hA hpre;go_simp;exact hK _ _ hB rfl (fun _ _ h=>h)
   ·intro vs Wx A hA hB hpre K hK;have e0:=(hA 0).trans (show _=Value.slice (some ⟨b,oo,none⟩) l.length fk by kernel_rfl);clear hA hpre;go_simp;exact hK _ _ hB rfl (fun _ _ h=>h)
   ·intro vs Wx A hA hB hpre K hK;have e11:=(hA 11).trans (show _=iI (md:Nat) by kernel_rfl);clear hA hpre;go_simp;exact hK _ _ hB rfl (fun _ _ h=>h)
   ·intro vs Wx A hA hB hpre K hK;have e25:=tT (hA 25) (by kernel_rfl) (hpre.1 rfl);have e26:=tT (hA 26) (by kernel_rfl) (hpre.2.1 rfl);clear hA hpre;go_simp;exact hK _ _ hB rfl (fun _ _ h=>h)
   ·intro vs Wx A hA hB hpre K hK;have e27:=tT (hA 27) (by kernel_rfl) (hpre.1 rfl);obtain ⟨⟨x0,x1,x2,x3,x4⟩,⟨y0,y1,y2,y3,y4⟩⟩:=Bt.out Wx hB;clear hA hpre;go_simp;exact hK _ _ hB rfl (fun _ _ h=>h)
   ·intro vs Wx A hA hB hpre K hK;have e4:=(hA 4).trans (show _=pP p 0 by kernel_rfl);obtain ⟨⟨x0,x1,x2,x3,x4⟩,⟨y0,y1,y2,y3,y4⟩⟩:=Bt.out Wx hB;clear hA hpre;go_simp;exact hK _ _ hB rfl (fun _ _ h=>h)
   ·intro vs Wx A hA hB hpre K hK;have e24:=tT (hA 24) (by kernel_rfl) (hpre.1 rfl);have e28:=tT (hA 28) (by kernel_rfl) (hpre.2.1 rfl);have e29:=tT (hA 29) (by kernel_rfl) (hpre.2.2.1 rfl);clear hA hpre;go_simp;go_at_call 43
    refine (HCm.out _ _).mono ?_;rintro e w3 ⟨rfl,hg⟩;exact hK _ _ (jg hB hg) rfl (fun _ _ h=>h)
   ·intro vs Wx A hA hB hpre K hK;have e30:=tT (hA 30) (by kernel_rfl) (hpre.1 rfl);clear hA hpre;go_simp;exact hK _ _ hB rfl (fun _ _ h=>h)
   ·intro vs Wx hB hF;have hL:vs 7=.bool (decide (zC x k < 0)):=hF 7 (by decide);have Cn:=zZ (jg Co.out hB);clear hF hB;simp only [Ri.puts];rw [hL];clear hL;cases hlv:dR x k with
    | true =>
     have hd:decide (zC x k < 0)=true:=decide_eq_true ((zF x k).2 hlv);rw [hd];have HI2:Hid ((∀t (ht:t < l.length),t < md+1->dR l[t] k=true)/\(∀t (ht:t < l.length),hi<=t->dR l[t] k=false)):=⟨fun t ht h=>HMo.out hlv t ht h,HI.out.2⟩;clear hd HMo HMb HI;go_simp;go_wp2;go_roundg (hi - (md+1))
     case measure=>omega
     case rel=>exact ⟨md+1,hi,by first|rfl|go_num|(congr 1;omega),rfl,by omega,hin,by omega,Cn.out,HI2.out⟩
    | false =>
     have hd:decide (zC x k < 0)=false:=decide_eq_false (fun h=>by rw [(zF x k).1 h] at hlv;cases hlv);rw [hd];have HI2:Hid ((∀t (ht:t < l.length),t < lo->dR l[t] k=true)/\(∀t (ht:t < l.length),md<=t->dR l[t] k=false)):=⟨HI.out.1,fun t ht h=>HMb.out hlv t ht h⟩;clear hd HMo HMb HI;go_simp;go_wp2;go_roundg (md - lo)
     case measure=>omega
     case rel=>exact ⟨lo,md,rfl,by first|rfl|go_num|(congr 1;omega),by omega,by omega,by omega,Cn.out,HI2.out⟩
  ·have hltz:¬ (lo:Int) < (hi:Int):=by omega
   have ehl:hi=lo:=by omega
   have HI2:Hid ((∀t (ht:t < l.length),t < lo->dR l[t] k=true)/\(∀t (ht:t < l.length),lo<=t->dR l[t] k=false)):=by rw [ehl] at HI;exact HI
   have hlen:lo<=l.length:=by omega
   clear HI ehl;have HD:=zZ (Below.drew (Below.refl wr.heap.size wr));obtain ⟨wo,hwo⟩:∃z,z=wr:=⟨_,rfl⟩;subst hwo;by_cases hn:lo < l.length
   ·have hnz:(lo:Int) < (l.length:Int):=by omega
    obtain ⟨b,oo,rfl,-,-,-⟩:=cu.get HF.out lo hn;have Bt:=zZ fun W' (hW:Below wo.heap.size wo W')=>And.intro (jZ (HF.out.Bu (jg Co.out hW)) lo hn) (cells5 (tV HZ.out (jg Co.out hW)));obtain ⟨x,HX⟩:∃x,Hid (l[lo]=x):=⟨l[lo],(rfl:l[lo]=l[lo])⟩;rw [HX.out] at Bt;go_upto_region 8 with fail
    refine Ri.IZ (by kernel_rfl) (by kernel_rfl) (by kernel_rfl) (fun Wx=>Below wo.heap.size wo Wx) (fun kz vs wz=>(fun kx vx wx=>match kx with|0=>vx=iI (lo:Nat)|1=>vx=iI (lo:Nat)|2=>vx=iI (l.length:Nat)|3=>vx=.bool true|4=>vx=.bool true|5=>vx=.func (.func 43) #[] #[]|6=>vx=.slice (some ⟨b,oo,none⟩) l.length fk|7=>vx=iI (lo:Nat)|8=>vx=pP b (oo+lo * 5)|9=>vx=rwv x|10=>vx=rwv k|11=>vx=iI (zC x k)|12=>vx=.bool (zC x k == 0)|13=>vx=.bool (zC x k == 0)|14=>vx=iI (lo:Nat)|15=>vx=.bool (zC x k == 0)|_=>True:Nat->Value->World->Prop) kz (vs kz) wz) (fun kz=>[kz]) (by kernel_rfl) (fun jz vs iz vz wz hiz hz=>Ri.wI (F:=(fun kx vx wx=>match kx with|0=>vx=iI (lo:Nat)|1=>vx=iI (lo:Nat)|2=>vx=iI (l.length:Nat)|3=>vx=.bool true|4=>vx=.bool true|5=>vx=.func (.func 43) #[] #[]|6=>vx=.slice (some ⟨b,oo,none⟩) l.length fk|7=>vx=iI (lo:Nat)|8=>vx=pP b (oo+lo * 5)|9=>vx=rwv x|10=>vx=rwv k|11=>vx=iI (zC x k)|12=>vx=.bool (zC x k == 0)|13=>vx=.bool (zC x k == 0)|14=>vx=iI (lo:Nat)|15=>vx=.bool (zC x k == 0)|_=>True:Nat->Value->World->Prop)) jz vs iz vz wz hiz hz) HD.out ⟨Or.inl ⟨rfl,?_⟩,Or.inl ⟨rfl,?_⟩,Or.inl ⟨rfl,?_⟩,Or.inl ⟨rfl,?_⟩,Or.inl ⟨rfl,?_⟩,Or.inr ⟨4,true,39,rfl,rfl,?_⟩,Or.inr ⟨4,true,39,rfl,rfl,?_⟩,Or.inr ⟨4,true,39,rfl,rfl,?_⟩,Or.inr ⟨4,true,39,rfl,rfl,?_⟩,Or.inr ⟨4,true,39,rfl,rfl,?_⟩,Or.inr ⟨4,true,39,rfl,rfl,?_⟩,Or.inr ⟨4,true,39,rfl,rfl,?_⟩,Or.inr ⟨4,true,39,rfl,rfl,?_⟩,Or.inl ⟨rfl,?_⟩,Or.inl ⟨rfl,?_⟩,Or.inl ⟨rfl,?_⟩,trivial⟩ ?_
    iterate 2
     ·intro vs Wx A hA hB hpre K hK;have e9:=(hA 9).trans (show _=iI (lo:Nat) by kernel_rfl);clear hA hpre;go_simp;exact hK _ _ hB rfl (fun _ _ h=>h)
    ·intro vs Wx A hA hB hpre K hK;have e8:=(hA 8).trans (show _=iI (l.length:Nat) by kernel_rfl);clear hA hpre;go_simp;exact hK _ _ hB rfl (fun _ _ h=>h)
    ·intro vs Wx A hA hB hpre K hK;have e36:=tT (hA 36) (by kernel_rfl) (hpre.1 rfl);have e37:=tT (hA 37) (by kernel_rfl) (hpre.2.1 rfl);clear hA hpre;go_simp;exact hK _ _ hB rfl (fun _ _ h=>h)
    ·intro vs Wx A hA hB hpre K hK;have e38:=tT (hA 38) (by kernel_rfl) (hpre.1 rfl);clear hA hpre;go_simp;exact hK _ _ hB rfl (fun _ _ h=>h)
    ·intro vs Wx A hA hB hpre;have eg:=tT (hA 39) (by kernel_rfl) (hpre.1 rfl);refine ⟨true,eg,fun _ K hK=>?_,fun h=>absurd rfl h⟩;have e2:=(hA 2).trans (show _=Value.func (.func 43) #[] #[] by kernel_rfl);clear hA hpre;go_simp;exact hK _ _ hB rfl (fun _ _ h=>h)
    ·intro vs Wx A hA hB hpre;have eg:=tT (hA 39) (by kernel_rfl) (hpre.1 rfl);refine ⟨true,eg,fun _ K hK=>?_,fun h=>absurd rfl h⟩;have e0:=(hA 0).trans (show _=Value.slice (some ⟨b,oo,none⟩) l.length fk by kernel_rfl);clear hA hpre;go_simp;exact hK _ _ hB rfl (fun _ _ h=>h)
    ·intro vs Wx A hA hB hpre;have eg:=tT (hA 39) (by kernel_rfl) (hpre.1 rfl);refine ⟨true,eg,fun _ K hK=>?_,fun h=>absurd rfl h⟩;have e9:=(hA 9).trans (show _=iI (lo:Nat) by kernel_rfl);clear hA hpre;go_simp;exact hK _ _ hB rfl (fun _ _ h=>h)
    ·intro vs Wx A hA hB hpre;have eg:=tT (hA 39) (by kernel_rfl) (hpre.2.2.1 rfl);refine ⟨true,eg,fun _ K hK=>?_,fun h=>absurd rfl h⟩;have e41:=tT (hA 41) (by kernel_rfl) (hpre.1 rfl);have e42:=tT (hA 42) (by kernel_rfl) (hpre.2.1 rfl);clear hA hpre;go_simp;exact hK _ _ hB rfl (fun _ _ h=>h)
    ·intro vs Wx A hA hB hpre;have eg:=tT (hA 39) (by kernel_rfl) (hpre.2.1 rfl);refine ⟨true,eg,fun _ K hK=>?_,fun h=>absurd rfl h⟩;have e43:=tT (hA 43) (by kernel_rfl) (hpre.1 rfl);obtain ⟨⟨x0,x1,x2,x3,x4⟩,⟨y0,y1,y2,y3,y4⟩⟩:=Bt.out Wx hB;clear hA hpre;go_simp;exact hK _ _ hB rfl (fun _ _ h=>h)
    ·intro vs Wx A hA hB hpre;have eg:=tT (hA 39) (by kernel_rfl) (hpre.1 rfl);refine ⟨true,eg,fun _ K hK=>?_,fun h=>absurd rfl h⟩;have e4:=(hA 4).trans (show _=pP p 0 by kernel_rfl);obtain ⟨⟨x0,x1,x2,x3,x4⟩,⟨y0,y1,y2,y3,y4⟩⟩:=Bt.out Wx hB;clear hA hpre;go_simp;exact hK _ _ hB rfl (fun _ _ h=>h)
    ·intro vs Wx A hA hB hpre;have eg:=tT (hA 39) (by kernel_rfl) (hpre.2.2.2.1 rfl);refine ⟨true,eg,fun _ K hK=>?_,fun h=>absurd rfl h⟩;have e40:=tT (hA 40) (by kernel_rfl) (hpre.1 rfl);have e44:=tT (hA 44) (by kernel_rfl) (hpre.2.1 rfl);have e45:=tT (hA 45) (by kernel_rfl) (hpre.2.2.1 rfl);clear hA hpre;go_simp;go_at_call 43
     refine (HCm.out _ _).mono ?_;rintro e w3 ⟨rfl,hg⟩;exact hK _ _ (jg hB hg) rfl (fun _ _ h=>h)
    ·intro vs Wx A hA hB hpre;have eg:=tT (hA 39) (by kernel_rfl) (hpre.2.1 rfl);refine ⟨true,eg,fun _ K hK=>?_,fun h=>absurd rfl h⟩;have e46:=tT (hA 46) (by kernel_rfl) (hpre.1 rfl);clear hA hpre;go_simp;exact hK _ _ hB rfl (fun _ _ h=>h)
    ·intro vs Wx A hA hB hpre K hK;have e39:=tT (hA 39) (by kernel_rfl) (hpre.1 rfl);have e47:=tT (hA 47) (by kernel_rfl) (hpre.2.1 rfl);clear hA hpre;go_simp;exact hK _ _ hB rfl (fun _ _ h=>h)
    ·intro vs Wx A hA hB hpre K hK;have e35:=tT (hA 35) (by kernel_rfl) (hpre.1 rfl);clear hA hpre;go_simp;exact hK _ _ hB rfl (fun _ _ h=>h)
    ·intro vs Wx A hA hB hpre K hK;have e48:=tT (hA 48) (by kernel_rfl) (hpre.1 rfl);clear hA hpre;go_simp;exact hK _ _ hB rfl (fun _ _ h=>h)
    ·intro vs Wx hB hF;have hL:vs 15=.bool (zC x k == 0):=hF 15 (by decide);have hL2:vs 14=iI (lo:Nat):=hF 14 (by decide);have Cn:=zZ (jf hp HB0.out (jg Co.out hB));clear hF hB;simp only [Ri.puts];rw [hL,hL2];clear hL hL2;go_simp;go_wp2_with fail
     go_ret2;refine ⟨⟨lo,(zC x k == 0),rfl,hlen,HI2.out.1,HI2.out.2,?_⟩,by first|exact Cn.out|(rw [hp];exact Cn.out)⟩;rw [beq_iff_eq,zH];exact ⟨fun h=>⟨hn,by rw [HX.out];exact h⟩,fun ⟨_,h⟩=>by rw [HX.out] at h;exact h⟩
   ·have hnz:¬ (lo:Int) < (l.length:Int):=by omega
    go_upto_region 8 with fail
    refine Ri.IZ (by kernel_rfl) (by kernel_rfl) (by kernel_rfl) (fun Wx=>Below wo.heap.size wo Wx) (fun kz vs wz=>(fun kx vx wx=>match kx with|0=>vx=iI (lo:Nat)|1=>vx=iI (lo:Nat)|2=>vx=iI (l.length:Nat)|3=>vx=.bool false|4=>vx=.bool false|5=>True|6=>True|7=>True|8=>True|9=>True|10=>True|11=>True|12=>True|13=>vx=.bool false|14=>vx=iI (lo:Nat)|15=>vx=.bool false|_=>True:Nat->Value->World->Prop) kz (vs kz) wz) (fun kz=>[kz]) (by kernel_rfl) (fun jz vs iz vz wz hiz hz=>Ri.wI (F:=(fun kx vx wx=>match kx with|0=>vx=iI (lo:Nat)|1=>vx=iI (lo:Nat)|2=>vx=iI (l.length:Nat)|3=>vx=.bool false|4=>vx=.bool false|5=>True|6=>True|7=>True|8=>True|9=>True|10=>True|11=>True|12=>True|13=>vx=.bool false|14=>vx=iI (lo:Nat)|15=>vx=.bool false|_=>True:Nat->Value->World->Prop)) jz vs iz vz wz hiz hz) HD.out ⟨Or.inl ⟨rfl,?_⟩,Or.inl ⟨rfl,?_⟩,Or.inl ⟨rfl,?_⟩,Or.inl ⟨rfl,?_⟩,Or.inl ⟨rfl,?_⟩,Or.inr ⟨4,true,39,rfl,rfl,?_⟩,Or.inr ⟨4,true,39,rfl,rfl,?_⟩,Or.inr ⟨4,true,39,rfl,rfl,?_⟩,Or.inr ⟨4,true,39,rfl,rfl,?_⟩,Or.inr ⟨4,true,39,rfl,rfl,?_⟩,Or.inr ⟨4,true,39,rfl,rfl,?_⟩,Or.inr ⟨4,true,39,rfl,rfl,?_⟩,Or.inr ⟨4,true,39,rfl,rfl,?_⟩,Or.inl ⟨rfl,?_⟩,Or.inl ⟨rfl,?_⟩,Or.inl ⟨rfl,?_⟩,trivial⟩ ?_
    iterate 2
     ·intro vs Wx A hA hB hpre K hK;have e9:=(hA 9).trans (show _=iI (lo:Nat) by kernel_rfl);clear hA hpre;go_simp;exact hK _ _ hB rfl (fun _ _ h=>h)
    ·intro vs Wx A hA hB hpre K hK;have e8:=(hA 8).trans (show _=iI (l.length:Nat) by kernel_rfl);clear hA hpre;go_simp;exact hK _ _ hB rfl (fun _ _ h=>h)
    ·intro vs Wx A hA hB hpre K hK;have e36:=tT (hA 36) (by kernel_rfl) (hpre.1 rfl);have e37:=tT (hA 37) (by kernel_rfl) (hpre.2.1 rfl);clear hA hpre;go_simp;exact hK _ _ hB rfl (fun _ _ h=>h)
    ·intro vs Wx A hA hB hpre K hK;have e38:=tT (hA 38) (by kernel_rfl) (hpre.1 rfl);clear hA hpre;go_simp;exact hK _ _ hB rfl (fun _ _ h=>h)
    iterate 3
     ·intro vs Wx A hA hB hpre;have eg:=tT (hA 39) (by kernel_rfl) (hpre.1 rfl);exact ⟨false,eg,fun h=>(by cases h),fun _=>trivial⟩
    ·intro vs Wx A hA hB hpre;have eg:=tT (hA 39) (by kernel_rfl) (hpre.2.2.1 rfl);exact ⟨false,eg,fun h=>(by cases h),fun _=>trivial⟩
    ·intro vs Wx A hA hB hpre;have eg:=tT (hA 39) (by kernel_rfl) (hpre.2.1 rfl);exact ⟨false,eg,fun h=>(by cases h),fun _=>trivial⟩
    ·intro vs Wx A hA hB hpre;have eg:=tT (hA 39) (by kernel_rfl) (hpre.1 rfl);exact ⟨false,eg,fun h=>(by cases h),fun _=>trivial⟩
    ·intro vs Wx A hA hB hpre;have eg:=tT (hA 39) (by kernel_rfl) (hpre.2.2.2.1 rfl);exact ⟨false,eg,fun h=>(by cases h),fun _=>trivial⟩
    ·intro vs Wx A hA hB hpre;have eg:=tT (hA 39) (by kernel_rfl) (hpre.2.1 rfl);exact ⟨false,eg,fun h=>(by cases h),fun _=>trivial⟩
    ·intro vs Wx A hA hB hpre K hK;have e39:=tT (hA 39) (by kernel_rfl) (hpre.1 rfl);clear hA hpre;go_simp;exact hK _ _ hB rfl (fun _ _ h=>h)
    ·intro vs Wx A hA hB hpre K hK;have e35:=tT (hA 35) (by kernel_rfl) (hpre.1 rfl);clear hA hpre;go_simp;exact hK _ _ hB rfl (fun _ _ h=>h)
    ·intro vs Wx A hA hB hpre K hK;have e48:=tT (hA 48) (by kernel_rfl) (hpre.1 rfl);clear hA hpre;go_simp;exact hK _ _ hB rfl (fun _ _ h=>h)
    ·intro vs Wx hB hF;have hL:vs 15=.bool false:=hF 15 (by decide);have hL2:vs 14=iI (lo:Nat):=hF 14 (by decide);have Cn:=zZ (jf hp HB0.out (jg Co.out hB));clear hF hB;simp only [Ri.puts];rw [hL,hL2];clear hL hL2;go_simp;go_wp2_with fail
     go_ret2;exact ⟨⟨lo,false,rfl,hlen,HI2.out.1,HI2.out.2,⟨fun h=>(by cases h),fun ⟨h,_⟩=>absurd h hn⟩⟩,by first|exact Cn.out|(rw [hp];exact Cn.out)⟩
theorem oQ (l:List Row) (k:Row) (v:Value) (w:World) (h:cu All w v l) (hl:l.length<=281474976710656) (hU:Up l) :
  Calls Tryz.prog 156 #[v,rwv k] w fun e w'=>BsV l k e/\Below w.heap.size w w':=by
 have hb0:=iU w (.cells #[sS k.who,.bool k.Br,iI k.year,iI k.de,iI k.oo] TA);have HZ:=zZ (heap_alloc_new w (.cells #[sS k.who,.bool k.Br,iI k.year,iI k.de,iI k.oo] TA));have HB0:=zZ hb0;have HBS:=zZ (jS l k v _ (h.Bu hb0) hl hU);obtain ⟨fa,fk,rfl,hm1,hm2⟩:=h.form;clear h hU hb0;go_enter Tryz.func156,Tryz.ntmps156
 go_upto_region 1 with fail
 generalize w.alloc (.cells #[sS k.who,.bool k.Br,iI k.year,iI k.de,iI k.oo] TA)=W at *;generalize hp:w.heap.size=p at *;obtain ⟨z0,z1,z2,z3,z4⟩:=cells5 HZ.out;go_wp2_with fail
 go_at_call 170
 refine HBS.out.mono ?_;rintro e w1 ⟨⟨i,fb,rfl,hs⟩,hb1⟩;have HB1:=zZ (jf hp HB0.out hb1);have HS:=zZ hs;clear hb1 hs HBS HZ z0 z1 z2 z3 z4;go_wp2;go_ret2;exact ⟨⟨i,fb,rfl,HS.out⟩,by first|exact HB1.out|(rw [hp];exact HB1.out)⟩
end Ac
namespace Ac
open Go.RowKit
theorem bX (l:List Row) (wh:Tx) (f:Bool) (y:Int) (v:Value) (w:World) (h:cu All w v l) (hl:l.length<=281474976710656) (hU:Up l) :
  Calls Tryz.prog 131 #[v,sS wh,.bool f,iI y] w fun e w'=>e=.returned (rwv (pU l wh f y))/\Below w.heap.size w w':=by
 have hb1:=iU w (.cells #[.string ⟨#[]⟩,.bool false,iI 0,iI 0,iI 0] TA);have hz1:=heap_alloc_new w (.cells #[.string ⟨#[]⟩,.bool false,iI 0,iI 0,iI 0] TA);have hs1:(w.alloc (.cells #[.string ⟨#[]⟩,.bool false,iI 0,iI 0,iI 0] TA)).heap.size=w.heap.size+1:=by simp
 have hb2:=iU (w.alloc (.cells #[.string ⟨#[]⟩,.bool false,iI 0,iI 0,iI 0] TA)) (.cells #[sS wh,.bool f,iI y,iI 0,iI 0] TA);have hz2:=heap_alloc_new (w.alloc (.cells #[.string ⟨#[]⟩,.bool false,iI 0,iI 0,iI 0] TA)) (.cells #[sS wh,.bool f,iI y,iI 0,iI 0] TA);rw [hs1] at hz2;have HR:=zZ (tV hz1 hb2);have HZ:=zZ hz2;have HB:=zZ (jg hb1 hb2);have HF:=zZ (h.Bu (jg hb1 hb2));have HU:=zZ hU;have HFi:Hid (∀W,cu All W v l->Calls Tryz.prog 156 #[v,.agg #[sS wh,.bool f,iI y,iI 0,iI 0]] W fun e w'=>BsV l ⟨wh,f,y,0,0⟩ e/\Below W.heap.size W w'):=fun W hW=>oQ l ⟨wh,f,y,0,0⟩ v W hW hl hU;obtain ⟨fa,fk,rfl,hm1,hm2⟩:=h.form;obtain ⟨G,HG⟩:∃G,Hid (pU l wh f y=G):=⟨_,(rfl:pU l wh f y=_)⟩;rw [HG.out];clear h hU hb1 hz1 hb2 hz2 hs1;go_enter Tryz.func131,Tryz.ntmps131
 go_upto_region 2 with fail
 generalize (w.alloc (.cells #[.string ⟨#[]⟩,.bool false,iI 0,iI 0,iI 0] TA)).alloc (.cells #[sS wh,.bool f,iI y,iI 0,iI 0] TA)=W at *;obtain ⟨q,hq⟩:∃q,q=w.heap.size+1:=⟨_,rfl⟩;rw [←hq] at HZ ⊢;have hqp:w.heap.size ≠ q:=by omega
 generalize hp:w.heap.size=p at *;clear hq;obtain ⟨z0,z1,z2,z3,z4⟩:=cells5 HZ.out;go_wp2_with fail
 go_at_call 156
 refine (HFi.out W HF.out).mono ?_;rintro e w1 ⟨⟨i,fb,rfl,hs⟩,hb1⟩;have HB1:=zZ (jf hp HB.out hb1);have HR1:=zZ (tV HR.out hb1);have HZ1:=zZ (tV HZ.out hb1);have HF1:=zZ (HF.out.Bu hb1);have HS:=zZ hs;clear hb1 hs HFi HZ HR HF HB z0 z1 z2 z3 z4;cases fb with
 | true =>
  obtain ⟨hi,hgv⟩:=pW HU.out HS.out;obtain ⟨b,oo,rfl,-,-,hc⟩:=cu.get HF1.out i hi;have hGe:l[i]=G:=by rw [←hgv];exact HG.out
  rw [hGe] at hc;obtain ⟨x0,x1,x2,x3,x4⟩:=hc;have hiz:(i:Int) < (l.length:Int):=by omega
  obtain ⟨r0,r1,r2,r3,r4⟩:=cells5 HR1.out;obtain ⟨t0,t1,t2,t3,t4⟩:=pO HR1.out;have Cy:Hid ((((((w1.setCell ⟨p,0,none⟩ (sS G.who)).setCell ⟨p,1,none⟩ (.bool G.Br)).setCell ⟨p,2,none⟩ (iI G.year)).setCell ⟨p,3,none⟩ (iI G.de)).setCell ⟨p,4,none⟩ (iI G.oo)).heap[p]?=some (.cells #[sS G.who,.bool G.Br,iI G.year,iI G.de,iI G.oo] TA (0,0))):=BO HR1.out;have Cq:Hid (Below p w (((((w1.setCell ⟨p,0,none⟩ (sS G.who)).setCell ⟨p,1,none⟩ (.bool G.Br)).setCell ⟨p,2,none⟩ (iI G.year)).setCell ⟨p,3,none⟩ (iI G.de)).setCell ⟨p,4,none⟩ (iI G.oo))):=BN HB1.out p (Nat.le_refl _) _ _ _ _ _;clear hgv hGe HG HS HU;go_wp2;clear r0 r1 r2 r3 r4 t0 t1 t2 t3 t4 x0 x1 x2 x3 x4;generalize (((((w1.setCell ⟨p,0,none⟩ (sS G.who)).setCell ⟨p,1,none⟩ (.bool G.Br)).setCell ⟨p,2,none⟩ (iI G.year)).setCell ⟨p,3,none⟩ (iI G.de)).setCell ⟨p,4,none⟩ (iI G.oo))=WF at *;obtain ⟨r0,r1,r2,r3,r4⟩:=cells5 Cy.out;refine bodyPost_ret (v:=rwv G) (by simp [results,Tryz.results131,go_sem,r0,r1,r2,r3,r4]) rfl ?_;exact ⟨rfl,by first|exact Cq.out|(rw [hp];exact Cq.out)⟩
 | false =>
  have hgv:=get_none HU.out HS.out;have hGe:G=⟨wh,f,y,0,0⟩:=by rw [←hgv];exact HG.out.symm
  subst hGe;obtain ⟨z0,z1,z2,z3,z4⟩:=cells5 HZ1.out;obtain ⟨r0,r1,r2,r3,r4⟩:=cells5 HR1.out;obtain ⟨t0,t1,t2,t3,t4⟩:=pO HR1.out;have Cy:Hid ((((((w1.setCell ⟨p,0,none⟩ (sS wh)).setCell ⟨p,1,none⟩ (.bool f)).setCell ⟨p,2,none⟩ (iI y)).setCell ⟨p,3,none⟩ (iI 0)).setCell ⟨p,4,none⟩ (iI 0)).heap[p]?=some (.cells #[sS wh,.bool f,iI y,iI 0,iI 0] TA (0,0))):=BO HR1.out;have Cq:Hid (Below p w (((((w1.setCell ⟨p,0,none⟩ (sS wh)).setCell ⟨p,1,none⟩ (.bool f)).setCell ⟨p,2,none⟩ (iI y)).setCell ⟨p,3,none⟩ (iI 0)).setCell ⟨p,4,none⟩ (iI 0))):=BN HB1.out p (Nat.le_refl _) _ _ _ _ _;clear hgv HG HS HU;go_wp2;clear r0 r1 r2 r3 r4 t0 t1 t2 t3 t4 z0 z1 z2 z3 z4;generalize (((((w1.setCell ⟨p,0,none⟩ (sS wh)).setCell ⟨p,1,none⟩ (.bool f)).setCell ⟨p,2,none⟩ (iI y)).setCell ⟨p,3,none⟩ (iI 0)).setCell ⟨p,4,none⟩ (iI 0))=WF at *;obtain ⟨r0,r1,r2,r3,r4⟩:=cells5 Cy.out;refine bodyPost_ret (v:=.agg #[sS wh,.bool f,iI y,iI 0,iI 0]) (by simp [results,Tryz.results131,go_sem,r0,r1,r2,r3,r4]) rfl ?_;exact ⟨rfl,by first|exact Cq.out|(rw [hp];exact Cq.out)⟩
end Ac
namespace Ac
open Go.RowKit
theorem Ee (P:Program) (w:World) (dT sT ty elem:TypeId) (sz g o dLen dCap:Nat) (a:Addr) (sLen sCap:Nat) (cur:Array Value) (t:TypeId) (cs:List Value)
  (hu:P.underlying dT=some (.slice elem)) (hs:(P.info? elem).map (·.size)=some sz)
  (hg:w.heap[g]?=some (.cells cur t (0,0))) (hn:cs.length=Nat.min sLen dLen * sz)
  (hsrc:∀j v,cs[j]?=some v->w.cell? (a.add j)=some v) (hfit:o+cs.length<=cur.size) (h1:∀v ∈ cs,v.oneCell'=true) :
  (Builtin.copy_ #[dT,sT] ty #[.slice (some ⟨g,o,none⟩) dLen dCap,.slice (some a) sLen sCap]).run P w =
   .ok (goInt (Nat.min sLen dLen)) (w.setRow g (cur.toList.take o ++ cs ++ cur.toList.drop (o+cs.length)).toArray):=by
 have hl:=run_loadCells_list (P:=P) w a cs hsrc;have hst:=run_storeCells_at P g o t cs 0 cur w hg (by simpa using hfit) h1;cases hq:P.info? elem with
 | none=>simp [hq] at hs
 | some i =>
  have hi:i.size=sz:=by simpa [hq] using hs
  simp [Builtin.copy_,run_underlying hu,Builtin.lenOf,Builtin.firstCells,sizeOf,typeInfo,hq,hi,←hn,hl,hst]
theorem add_lit (b o j:Nat):(⟨b,o,none⟩:Addr).add j=⟨b,o+j,none⟩:=by unfold Addr.add;split<;>simp_all
theorem DY {w:World} {b o:Nat} {l:List Row} (h:∀(j:Nat) x,l[j]?=some x->bZ w b (o+j * 5) x) (j:Nat) (u:Value) (hj:(rcs l)[j]?=some u):w.cell? ⟨b,o+j,none⟩=some u:=by
 have hjl:j < l.length * 5:=by have:=(List.getElem?_eq_some_iff.1 hj).1;rwa [Dj] at this
 have hq:j / 5 < l.length:=by omega
 have hx:=List.getElem?_eq_getElem hq;obtain ⟨c0,c1,c2,c3,c4⟩:=h _ _ hx;have e:=Df l (j / 5) _ hx (j % 5) (Nat.mod_lt _ (by omega));rw [show j / 5 * 5+j % 5=j by omega,hj] at e;have hr:j % 5=0 ∨ j % 5=1 ∨ j % 5=2 ∨ j % 5=3 ∨ j % 5=4:=by omega
 rcases hr with r|r|r|r|r<;>rw [r] at e
 ·rw [show o+j=o+j / 5 * 5 by omega,c0];exact e.symm
 ·rw [show o+j=o+j / 5 * 5+1 by omega,c1];exact e.symm
 ·rw [show o+j=o+j / 5 * 5+2 by omega,c2];exact e.symm
 ·rw [show o+j=o+j / 5 * 5+3 by omega,c3];exact e.symm
 ·rw [show o+j=o+j / 5 * 5+4 by omega,c4];exact e.symm
theorem bN (l:List Row) (v:Value) (w:World) (h:cu All w v l) (hl:l.length<=1000000) :
  Calls Tryz.prog 25 #[v] w fun e w'=>∃v',e=.returned v'/\Own w.heap.size w' v' l/\Below w.heap.size w w':=by
 obtain ⟨a,c,rfl,h1,h2,h3⟩:=h;have q22:∀(w:World) (a:Option Addr) (n c n' c':Nat),(binOp .eql 32 (.slice a n c) (.slice none n' c')).run Tryz.prog w=.ok (.bool a.isNone) w:=fun w a n c n' c'=>Lib.run_eql_slice_nil w _ _ a n c n' c' Tryz.underlying32;cases a with
 | none =>
  have hl0:l=[]:=by
   rcases h3 with h|⟨b,o,e,_⟩
   ·exact h
   ·cases e
  subst hl0;go_enter Tryz.func25,Tryz.ntmps25
  go_wp2;go_ret;exact ⟨_,rfl,Ap _ _,Below.refl _ _⟩
 | some ad =>
  obtain ⟨b,o,s⟩:=ad;obtain ⟨i0,hi,hz0,hz1,hz2⟩:=rX;have HS:Hid (∀j u,(rcs l)[j]?=some u->w.cell? ((⟨b,o,s⟩:Addr).add j)=some u):=by
   intro j u hj;rcases h3 with h|⟨b',o',e,_,_,hc⟩
   ·subst h;simp [rcs] at hj
   ·simp only [Option.some.injEq,Addr.mk.injEq] at e;obtain ⟨rfl,rfl,rfl⟩:=e;rw [add_lit];exact DY hc j u hj
  clear h3;go_enter Tryz.func25,Tryz.ntmps25
  go_wp2_with (at_builtin;refine wpList_append_own _ rfl _ _ 32 rfl w.heap.size TA i0 _ 5 48 Tryz.underlying32 hi hz0 hz1 hz2 rfl (by decide) _ _ _ rfl (World.ownsRow_made w #[] 0 (Nat.le_refl _) (Nat.zero_le _) rfl) ⟨b,o,s⟩ l.length c (rcs l) rfl ?qc1 ?qc2 ?qc3 ?qc4 ?qc5 ?qc6 ?_)
  case qc1=>rw [Dj]
  case qc2=>intro j u hj;exact Lib.cell?_alloc_some _ (HS.out j u hj)
  case qc3=>exact Dk l
  case qc4=>unfold maxLen;omega
  case qc5=>omega
  case qc6=>simp
  intro v' w1 hown hgrow hnil;go_wp2;go_ret;refine ⟨v',rfl,?_,?_⟩
  ·unfold Own;simpa using hown
  ·exact ((Below.refl _ w).alloc (Nat.le_refl _) _).grown hgrow (by simp) (by intro k hk;simp [Value.ownBlock] at hk;omega)
end Ac
namespace Ac
open Go.RowKit
theorem IL {P:Program} {w:World} {ops:Array Oper} {rest:List Oper} {o:Oper} {a:Act} {Q:Exit->Act->World->Prop} (hgd:o.guard=none) (s x:Operand) (t tn:TypeId)
  (ho:o.op=.call { callee:=.builtin .append,args:=#[s,x],argTypes:=#[t,tn] }) (vs vx:Value) (hs:a.eval s=vs) (hx:a.eval x=vx) (v':Value) (R:World->Prop)
  (hr:∃w',(Builtin.append_ #[t,tn] o.type #[vs,vx]).run P w=.ok v' w'/\R w') (h:∀w',Hid (R w')->wpList P ops Q rest (a.put o.dst v') w'):wpList P ops Q (o :: rest) a w:=by
 obtain ⟨w',hr,hR⟩:=hr;exact Lib.wpList_append_run w hgd s x t tn ho vs vx hs hx v' w' hr (h w' hR)
theorem F8 {P:Program} {ops:Array Oper} {o:Oper} {a:Act} {w:World} {K:Act->World->Prop} {Q:Exit->Act->World->Prop} {E:Prop}
  (hg:o.guard=none) (d x:Operand) (dT sT:TypeId) (hop:o.op=Op.call { callee:=Callee.builtin Builtin.copy,args:=#[d,x],argTypes:=#[dT,sT] })
  (v u:Value) (hd:a.eval d=v) (hx:a.eval x=u) (v':Value) (R:World->Prop) (hr:∃w',(Builtin.copy_ #[dT,sT] o.type #[v,u]).run P w=.ok v' w'/\R w') (hK:∀w',Hid (R w')->K (a.put o.dst v') w') :
  if Region.wanted o (yielded ops a.tmps)=true then Oper.wp P o a w K Q else E:=by
 obtain ⟨w',h1,h2⟩:=hr;have h3:=hK w' h2;subst hd hx;rw [if_pos (show Region.wanted o (yielded ops a.tmps)=true by simp [Region.wanted,hg])];unfold Oper.wp;simp [execOp,hop,resolve,invoke,builtin,h1,Result.andThen];exact h3
def spl (L:List Value) (off:Nat) (cs:List Value):List Value:=L.take off ++ cs ++ L.drop (off+cs.length)
theorem FU (L:List Value) (off:Nat) (cs:List Value) (h:off+cs.length<=L.length):(spl L off cs).length=L.length:=by simp [spl];omega
theorem FW (L:List Value) (off:Nat) (cs:List Value) (h:off+cs.length<=L.length):(spl L off cs).take (off+cs.length)=L.take off ++ cs:=by
 unfold spl;exact List.take_left' (by simp;omega)
theorem FT (L:List Value) (off:Nat) (cs:List Value) (k:Nat) (hk:k<=off) (h:off+cs.length<=L.length):(spl L off cs).take k=L.take k:=by
 unfold spl;rw [List.append_assoc,List.take_append_of_le_length (by simp;omega),List.take_take];congr 1;omega
theorem FX {L A X D:List Value} {p q r:Nat} (hA:L.take p=A) (hp:p+X.length=q) (hq:q+D.length=r) (hr:r<=L.length):(spl (spl L p X) q D).take r=A ++ X ++ D:=by
 have h1:p+X.length<=L.length:=by omega
 have e1:=FW L p X h1;rw [hA,hp] at e1;have h2:q+D.length<=(spl L p X).length:=by rw [FU _ _ _ h1];omega
 have e2:=FW (spl L p X) q D h2;rw [e1,hq] at e2;exact e2
theorem FV {L A X D:List Value} {p q r:Nat} (hA:L.take p=A) (hp:p+X.length=q) (hq:q+D.length=r) (hr:r<=L.length):(spl (spl L q D) p X).take r=A ++ X ++ D:=by
 have h1:q+D.length<=L.length:=by omega
 have h2:p+X.length<=(spl L q D).length:=by rw [FU _ _ _ h1];omega
 have e0:(spl L q D).take p=A:=by rw [FT L q D p (by omega) h1,hA]
 have hAl:A.length=p:=by rw [←hA,List.length_take];omega
 have e1:spl (spl L q D) p X=A ++ X ++ (spl L q D).drop q:=by
  conv=>lhs;unfold spl
  rw [show (List.take q L ++ D ++ List.drop (q+D.length) L)=spl L q D from rfl,e0,hp]
 have e3:(spl L q D).drop q=D ++ L.drop r:=by
  unfold spl;rw [List.append_assoc,List.drop_left' (by simp;omega),hq]
 rw [e1,e3,←List.append_assoc];exact List.take_left' (by simp;omega)
def aD (H:Nat) (L:List Value) (p:Nat) (w:World) (W:World):Prop:=W.heap[H]?=some (.cells L.toArray TA (0,0))/\Below p w W
theorem l9 {H:Nat} {L:List Value} {p:Nat} {w W:World} (h:aD H L p w W) (hpH:p<=H) (a:Addr) (o dLen dCap sLen sCap:Nat) (cs:List Value) (k:Nat) (hk:Nat.min sLen dLen=k) (hn:cs.length=k * 5)
  (hsrc:∀j v,cs[j]?=some v->W.cell? (a.add j)=some v) (hfit:o+cs.length<=L.length) (h1:∀v ∈ cs,v.oneCell'=true) (ty:TypeId) :
  ∃W',(Builtin.copy_ #[32,32] ty #[.slice (some ⟨H,o,none⟩) dLen dCap,.slice (some a) sLen sCap]).run Tryz.prog W=.ok (goInt k) W'/\aD H (spl L o cs) p w W':=by
 obtain ⟨i0,hi,hz0,hz1,hz2⟩:=rX;have hr:=Ee Tryz.prog W 32 32 ty TA 5 H o dLen dCap a sLen sCap L.toArray TA cs Tryz.underlying32 (by rw [hi];simp [hz1]) h.1 (by rw [hk];exact hn) hsrc (by simpa using hfit) h1;rw [hk] at hr;refine ⟨_,hr,?_,below_setRow h.2 hpH _⟩;have:=setRow_heap W H L.toArray (L.toArray.toList.take o ++ cs ++ L.toArray.toList.drop (o+cs.length)).toArray TA _ h.1;exact this
theorem rZ (l:List Row) (x:Row) (B:Nat) (v:Value) (vb:Nat) (w:World) (hown:Own B w v l) (hl:l.length<=100000) (hB:B<=w.heap.size)
  (hx:w.heap[vb]?=some (.cells #[sS x.who,.bool x.Br,iI x.year,iI x.de,iI x.oo] TA (0,0))) :
  Calls Tryz.prog 171 #[v,iI (l.length:Nat),.slice (some ⟨vb,0,none⟩) 1 1] w fun e w'=>∃v',e=.returned v'/\Own B w' v' (l ++ [x])/\Below B w w':=by
 have HO:=zZ hown;rcases hown.2 with ⟨rfl,h0⟩|⟨g,cap,cur,rfl,hbg,hg,h1,h2,hs,ht⟩
 ·have hl0:l=[]:=List.length_eq_zero_iff.1 h0;subst hl0;clear hown h0;go_enter Tryz.func171,Tryz.ntmps171
  go_wp2_with (at_builtin;refine wpList_plain (by rfl) (fun K hK=>?_);refine IQ _ _ rfl B (.slice none 0 0) [] rfl HO.out vb 1 x rfl hx (by simp) hB (fun v' w' ho hg _=>?_);refine hK _ _ ?_)
  have HB:=zZ (qo HO.out hg hB);have HO2:=zZ ho;obtain ⟨a,c,rfl,-,-⟩:=Am ho;clear hg ho;go_wp2;go_ret;exact ⟨_,rfl,HO2.out,HB.out⟩
 ·have hnz:(l.length:Int)<=(cap:Int):=by omega
  have hc63:cap<=9223372036854775807:=by unfold maxLen at h2;exact h2
  clear hown hs ht h2;by_cases hc:cap=l.length
  ·subst hc;go_enter Tryz.func171,Tryz.ntmps171
   go_wp2_with (at_builtin;refine wpList_plain (by rfl) (fun K hK=>?_);refine IQ _ _ rfl B (.slice (some ⟨g,0,none⟩) l.length l.length) l rfl HO.out vb 1 x rfl hx (by omega) hB (fun v' w' ho hg _=>?_);refine hK _ _ ?_)
   have HB:=zZ (qo HO.out hg hB);have HO2:=zZ ho;obtain ⟨a,c,rfl,-,-⟩:=Am ho;clear hg ho;go_wp2;go_ret;exact ⟨_,rfl,HO2.out,HB.out⟩
  ·go_enter Tryz.func171,Tryz.ntmps171
   go_wp2_with (at_builtin;refine wpList_plain (by rfl) (fun K hK=>?_);refine IQ _ _ rfl B (.slice (some ⟨g,0,none⟩) l.length cap) l rfl HO.out vb 1 x rfl hx (by omega) hB (fun v' w' ho hg _=>?_);refine hK _ _ ?_)
   have HB:=zZ (qo HO.out hg hB);have HO2:=zZ ho;obtain ⟨a,c,rfl,-,-⟩:=Am ho;clear hg ho;go_wp2;go_ret;exact ⟨_,rfl,HO2.out,HB.out⟩
end Ac
end Go.Proofs.YtfbfeoplldjbpaaGreatDoor
