/-
  Texts put together (merge.py): ZBin.
-/
import Derived.Test.YtfbfeoplldjbpaaGreatDoorMo17
import Derived.Test.YtfbfeoplldjbpaaGreatDoorMo9
set_option linter.unusedSimpArgs false
set_option linter.unusedVariables false
set_option maxHeartbeats 16000000
set_option maxRecDepth 100000
section
namespace Go.Proofs.YtfbfeoplldjbpaaGreatDoor.Fe
open Go.RowKit
open Wo (tV jI jQ qL iU jg)
theorem jf {w a b:World} {p:Nat} (hp:w.heap.size=p) (h:Below p w a) (k:Below a.heap.size a b):Below p w b:=by subst hp;exact jg h k
def BsV (l:List Fee) (k:Fee) (e:Ending):Prop:=∃(i:Nat) (fb:Bool),e=.returned (.tuple #[.int .i64 (i:Nat),.bool fb])/\i<=l.length/\(∀t (ht:t < l.length),t < i->dR l[t] k=true)/\(∀t (ht:t < l.length),i<=t->dR l[t] k=false)/\(fb=true ↔ ∃hi:i < l.length,Ew l[i] k)
theorem jZ {l:List Fee} {w:World} {b oo n c:Nat} (h:aU All w (.slice (some ⟨b,oo,none⟩) n c) l) (t:Nat) (ht:t < l.length):aS w b (oo+t * 5) l[t]:=by
 obtain ⟨b1,o1,e1,-,-,c1⟩:=aU.get h t ht
 simp only [Option.some.injEq,Addr.mk.injEq,and_true] at e1
 obtain ⟨rfl,rfl⟩:=e1
 exact c1
theorem dX {l:List Fee} (hU:Up l) (k:Fee) (h:Nat) (hh:h < l.length) (e:dR l[h] k=true) (t:Nat) (ht:t < l.length) (htl:t < h+1):dR l[t] k=true:=by
 rcases Nat.lt_or_ge t h with c|c
 ·exact dZ (Ht hU ht hh c) e
 ·have:t=h:=by omega
  subst this;exact e
theorem iQ {l:List Fee} (hU:Up l) (k:Fee) (h:Nat) (hh:h < l.length) (e:dR l[h] k=false) (t:Nat) (ht:t < l.length) (htl:h<=t):dR l[t] k=false:=by
 rcases Nat.lt_or_ge h t with c|c
 ·cases hv:dR l[t] k with
  | false=>rfl
  | true =>
   have:=dZ (Ht hU hh ht c) hv
   rw [e] at this;cases this
 ·have:t=h:=by omega
  subst this;exact e
theorem jS (l:List Fee) (k:Fee) (v:Value) (w:World) (h:aU All w v l) (hl:l.length<=281474976710656) (hU:Up l) :
  Calls Tryz.prog 153 #[v,plv k,.func (.func 154) #[] #[]] w fun e w'=>BsV l k e/\Below w.heap.size w w':=by
 have HU:=Lib.hid hU
 obtain ⟨fa,fk,rfl,hm1,hm2⟩:=h.form
 have hb0:=iU w (.cells #[.string (mk k.proc),.string (mk k.mod),.int .i64 k.net,.int .i64 k.frm] 152)
 have HZ:=Lib.hid (heap_alloc_new w (.cells #[.string (mk k.proc),.string (mk k.mod),.int .i64 k.net,.int .i64 k.frm] 152))
 have HF:=Lib.hid (h.grw hb0)
 have HB0:=Lib.hid hb0
 have HCm:=Lib.hid fun (x:Fee) W'=>uK x k W'
 clear h hU hb0
 go_enter Tryz.func153,Tryz.ntmps153
 go_upto_region 1 with fail
 generalize w.alloc (.cells #[.string (mk k.proc),.string (mk k.mod),.int .i64 k.net,.int .i64 k.frm] 152)=W at *
 generalize hp:w.heap.size=p at *
 go_wp2
 go_loopg [9,10] (l.length) (fun g s9 s10 wr=>∃lo hi:Nat,s9=.int .i64 lo/\s10=.int .i64 hi/\lo<=hi/\hi<=l.length/\hi - lo<=g/\Hid (Below W.heap.size W wr)/\Hid ((∀t (ht:t < l.length),t < lo->dR l[t] k=true)/\(∀t (ht:t < l.length),hi<=t->dR l[t] k=false)))
 case atStart=>exact ⟨0,l.length,rfl,rfl,Nat.zero_le _,Nat.le_refl _,by omega,Below.refl _ _,(⟨fun t ht h=>absurd h (Nat.not_lt_zero _),fun t ht h=>by omega⟩:(∀t (ht:t < l.length),t < 0->dR l[t] k=true)/\(∀t (ht:t < l.length),l.length<=t->dR l[t] k=false))⟩
 case round =>
  obtain ⟨lo,hi,rfl,rfl,hlh,hin,hgk,HBn,HI⟩:=hrel
  by_cases hlt:lo < hi
  ·have hltz:(lo:Int) < (hi:Int):=by omega
   obtain ⟨md,hmd⟩:∃h,h=(lo+hi) / 2:=⟨_,rfl⟩
   have zmd:((lo:Int)+(hi:Int)) / 2=(md:Int):=by omega
   have h1:lo<=md:=by omega
   have h2:md < hi:=by omega
   have hml:md < l.length:=by omega
   clear hmd
   obtain ⟨b,oo,rfl,-,-,-⟩:=aU.get HF.out md hml
   have HXK:=Lib.hid fun W' (hW:Below wr.heap.size wr W')=>And.intro (jZ (HF.out.grw (jg HBn.out hW)) md hml) (cells4 (tV HZ.out (jg HBn.out hW)))
   have HMo:=Lib.hid (dX HU.out k md hml)
   have HMb:=Lib.hid (iQ HU.out k md hml)
   generalize l[md]=x at *
   have HD:=Lib.hid (Below.drew (Below.refl wr.heap.size wr))
   obtain ⟨wo,hwo⟩:∃z,z=wr:=⟨_,rfl⟩
   subst hwo
   go_upto_region 5 with fail
   refine Ri.IX (by kernel_rfl) (by kernel_rfl) (by kernel_rfl) (fun Wx=>Below wo.heap.size wo Wx) (fun kz vs wz=>(fun kx vx wx=>match kx with|0=>vx=.func (.func 154) #[] #[]|1=>vx=.slice (some ⟨b,oo,none⟩) l.length fk|2=>vx=.int .i64 (md:Nat)|3=>vx=.pointer (some ⟨b,oo+md * 5,none⟩)|4=>vx=fev x|5=>vx=plv k|6=>vx=.int .i64 (zC x k)|7=>vx=.bool (decide (zC x k < 0))|_=>True:Nat->Value->World->Prop) kz (vs kz) wz) (fun kz=>[kz]) (by kernel_rfl) (fun jz vs iz vz wz hiz hz=>Ri.wI (F:=(fun kx vx wx=>match kx with|0=>vx=.func (.func 154) #[] #[]|1=>vx=.slice (some ⟨b,oo,none⟩) l.length fk|2=>vx=.int .i64 (md:Nat)|3=>vx=.pointer (some ⟨b,oo+md * 5,none⟩)|4=>vx=fev x|5=>vx=plv k|6=>vx=.int .i64 (zC x k)|7=>vx=.bool (decide (zC x k < 0))|_=>True:Nat->Value->World->Prop)) jz vs iz vz wz hiz hz) HD.out ⟨⟨rfl,?_⟩,⟨rfl,?_⟩,⟨rfl,?_⟩,⟨rfl,?_⟩,⟨rfl,?_⟩,⟨rfl,?_⟩,⟨rfl,?_⟩,⟨rfl,?_⟩,trivial⟩ ?_
   ·intro vs Wx A hA hB hpre K hK
    have e2:=(hA 2).trans (show _=Value.func (.func 154) #[] #[] by kernel_rfl)
    clear hA hpre
    go_simp
    exact hK _ _ hB rfl (fun _ _ h=>h)
   ·intro vs Wx A hA hB hpre K hK
    have e0:=(hA 0).trans (show _=Value.slice (some ⟨b,oo,none⟩) l.length fk by kernel_rfl)
    clear hA hpre
    go_simp
    exact hK _ _ hB rfl (fun _ _ h=>h)
   ·intro vs Wx A hA hB hpre K hK
    have e11:=(hA 11).trans (show _=Value.int .i64 (md:Nat) by kernel_rfl)
    clear hA hpre
    go_simp
    exact hK _ _ hB rfl (fun _ _ h=>h)
   ·intro vs Wx A hA hB hpre K hK
    have e25:=((hA 25).trans (show _=vs 1 by kernel_rfl)).trans (hpre.1 rfl)
    have e26:=((hA 26).trans (show _=vs 2 by kernel_rfl)).trans (hpre.2.1 rfl)
    clear hA hpre
    go_simp
    exact hK _ _ hB rfl (fun _ _ h=>h)
   ·intro vs Wx A hA hB hpre K hK
    have e27:=((hA 27).trans (show _=vs 3 by kernel_rfl)).trans (hpre.1 rfl)
    obtain ⟨⟨x0,x1,x2,x3,x4⟩,⟨y0,y1,y2,y3⟩⟩:=HXK.out Wx hB
    clear hA hpre
    go_simp
    exact hK _ _ hB rfl (fun _ _ h=>h)
   ·intro vs Wx A hA hB hpre K hK
    have e4:=(hA 4).trans (show _=Value.pointer (some ⟨p,0,none⟩) by kernel_rfl)
    obtain ⟨⟨x0,x1,x2,x3,x4⟩,⟨y0,y1,y2,y3⟩⟩:=HXK.out Wx hB
    clear hA hpre
    go_simp
    exact hK _ _ hB rfl (fun _ _ h=>h)
   ·intro vs Wx A hA hB hpre K hK
    have e24:=((hA 24).trans (show _=vs 0 by kernel_rfl)).trans (hpre.1 rfl)
    have e28:=((hA 28).trans (show _=vs 4 by kernel_rfl)).trans (hpre.2.1 rfl)
    have e29:=((hA 29).trans (show _=vs 5 by kernel_rfl)).trans (hpre.2.2.1 rfl)
    clear hA hpre
    go_simp
    go_at_call 154
    refine (HCm.out _ _).mono ?_
    rintro e w3 ⟨rfl,hg⟩
    exact hK _ _ (jg hB hg.1) rfl (fun _ _ h=>h)
   ·intro vs Wx A hA hB hpre K hK
    have e30:=((hA 30).trans (show _=vs 6 by kernel_rfl)).trans (hpre.1 rfl)
    clear hA hpre
    go_simp
    exact hK _ _ hB rfl (fun _ _ h=>h)
   ·intro vs Wx hB hF
    have hL:vs 7=.bool (decide (zC x k < 0)):=hF 7 (by decide)
    have HBW:=Lib.hid (jg HBn.out hB)
    clear hF hB
    simp only [Ri.puts]
    rw [hL]
    clear hL
    cases hlv:dR x k with
    | true =>
     have hd:decide (zC x k < 0)=true:=decide_eq_true ((zF x k).2 hlv)
     rw [hd]
     have HI2:Hid ((∀t (ht:t < l.length),t < md+1->dR l[t] k=true)/\(∀t (ht:t < l.length),hi<=t->dR l[t] k=false)):=⟨fun t ht h=>HMo.out hlv t ht h,HI.out.2⟩
     clear hd HMo HMb HI
     go_simp
     go_wp2
     go_roundg (hi - (md+1))
     case measure=>omega
     case rel=>exact ⟨md+1,hi,by first|rfl|go_num|(congr 1;omega),rfl,by omega,hin,by omega,HBW.out,HI2.out⟩
    | false =>
     have hd:decide (zC x k < 0)=false:=decide_eq_false (fun h=>by rw [(zF x k).1 h] at hlv;cases hlv)
     rw [hd]
     have HI2:Hid ((∀t (ht:t < l.length),t < lo->dR l[t] k=true)/\(∀t (ht:t < l.length),md<=t->dR l[t] k=false)):=⟨HI.out.1,fun t ht h=>HMb.out hlv t ht h⟩
     clear hd HMo HMb HI
     go_simp
     go_wp2
     go_roundg (md - lo)
     case measure=>omega
     case rel=>exact ⟨lo,md,rfl,by first|rfl|go_num|(congr 1;omega),by omega,by omega,by omega,HBW.out,HI2.out⟩
  ·have hltz:¬ (lo:Int) < (hi:Int):=by omega
   have ehl:hi=lo:=by omega
   have HI2:Hid ((∀t (ht:t < l.length),t < lo->dR l[t] k=true)/\(∀t (ht:t < l.length),lo<=t->dR l[t] k=false)):=by rw [ehl] at HI;exact HI
   have hlen:lo<=l.length:=by omega
   clear HI ehl
   have HD:=Lib.hid (Below.drew (Below.refl wr.heap.size wr))
   obtain ⟨wo,hwo⟩:∃z,z=wr:=⟨_,rfl⟩
   subst hwo
   by_cases hn:lo < l.length
   ·have hnz:(lo:Int) < (l.length:Int):=by omega
    obtain ⟨b,oo,rfl,-,-,-⟩:=aU.get HF.out lo hn
    have HXK:=Lib.hid fun W' (hW:Below wo.heap.size wo W')=>And.intro (jZ (HF.out.grw (jg HBn.out hW)) lo hn) (cells4 (tV HZ.out (jg HBn.out hW)))
    obtain ⟨x,HX⟩:∃x,Hid (l[lo]=x):=⟨l[lo],(rfl:l[lo]=l[lo])⟩
    rw [HX.out] at HXK
    go_upto_region 8 with fail
    refine Ri.IZ (by kernel_rfl) (by kernel_rfl) (by kernel_rfl) (fun Wx=>Below wo.heap.size wo Wx) (fun kz vs wz=>(fun kx vx wx=>match kx with|0=>vx=.int .i64 (lo:Nat)|1=>vx=.int .i64 (lo:Nat)|2=>vx=.int .i64 (l.length:Nat)|3=>vx=.bool true|4=>vx=.bool true|5=>vx=.func (.func 154) #[] #[]|6=>vx=.slice (some ⟨b,oo,none⟩) l.length fk|7=>vx=.int .i64 (lo:Nat)|8=>vx=.pointer (some ⟨b,oo+lo * 5,none⟩)|9=>vx=fev x|10=>vx=plv k|11=>vx=.int .i64 (zC x k)|12=>vx=.bool (zC x k == 0)|13=>vx=.bool (zC x k == 0)|14=>vx=.int .i64 (lo:Nat)|15=>vx=.bool (zC x k == 0)|_=>True:Nat->Value->World->Prop) kz (vs kz) wz) (fun kz=>[kz]) (by kernel_rfl) (fun jz vs iz vz wz hiz hz=>Ri.wI (F:=(fun kx vx wx=>match kx with|0=>vx=.int .i64 (lo:Nat)|1=>vx=.int .i64 (lo:Nat)|2=>vx=.int .i64 (l.length:Nat)|3=>vx=.bool true|4=>vx=.bool true|5=>vx=.func (.func 154) #[] #[]|6=>vx=.slice (some ⟨b,oo,none⟩) l.length fk|7=>vx=.int .i64 (lo:Nat)|8=>vx=.pointer (some ⟨b,oo+lo * 5,none⟩)|9=>vx=fev x|10=>vx=plv k|11=>vx=.int .i64 (zC x k)|12=>vx=.bool (zC x k == 0)|13=>vx=.bool (zC x k == 0)|14=>vx=.int .i64 (lo:Nat)|15=>vx=.bool (zC x k == 0)|_=>True:Nat->Value->World->Prop)) jz vs iz vz wz hiz hz) HD.out ⟨Or.inl ⟨rfl,?_⟩,Or.inl ⟨rfl,?_⟩,Or.inl ⟨rfl,?_⟩,Or.inl ⟨rfl,?_⟩,Or.inl ⟨rfl,?_⟩,Or.inr ⟨4,true,39,rfl,rfl,?_⟩,Or.inr ⟨4,true,39,rfl,rfl,?_⟩,Or.inr ⟨4,true,39,rfl,rfl,?_⟩,Or.inr ⟨4,true,39,rfl,rfl,?_⟩,Or.inr ⟨4,true,39,rfl,rfl,?_⟩,Or.inr ⟨4,true,39,rfl,rfl,?_⟩,Or.inr ⟨4,true,39,rfl,rfl,?_⟩,Or.inr ⟨4,true,39,rfl,rfl,?_⟩,Or.inl ⟨rfl,?_⟩,Or.inl ⟨rfl,?_⟩,Or.inl ⟨rfl,?_⟩,trivial⟩ ?_
    iterate 2
     ·intro vs Wx A hA hB hpre K hK
      have e9:=(hA 9).trans (show _=Value.int .i64 (lo:Nat) by kernel_rfl)
      clear hA hpre
      go_simp
      exact hK _ _ hB rfl (fun _ _ h=>h)
    ·intro vs Wx A hA hB hpre K hK
     have e8:=(hA 8).trans (show _=Value.int .i64 (l.length:Nat) by kernel_rfl)
     clear hA hpre
     go_simp
     exact hK _ _ hB rfl (fun _ _ h=>h)
    ·intro vs Wx A hA hB hpre K hK
     have e36:=((hA 36).trans (show _=vs 1 by kernel_rfl)).trans (hpre.1 rfl)
     have e37:=((hA 37).trans (show _=vs 2 by kernel_rfl)).trans (hpre.2.1 rfl)
     clear hA hpre
     go_simp
     exact hK _ _ hB rfl (fun _ _ h=>h)
    ·intro vs Wx A hA hB hpre K hK
     have e38:=((hA 38).trans (show _=vs 3 by kernel_rfl)).trans (hpre.1 rfl)
     clear hA hpre
     go_simp
     exact hK _ _ hB rfl (fun _ _ h=>h)
    ·intro vs Wx A hA hB hpre
     have eg:=((hA 39).trans (show _=vs 4 by kernel_rfl)).trans (hpre.1 rfl)
     refine ⟨true,eg,fun _ K hK=>?_,fun h=>absurd rfl h⟩
     have e2:=(hA 2).trans (show _=Value.func (.func 154) #[] #[] by kernel_rfl)
     clear hA hpre
     go_simp
     exact hK _ _ hB rfl (fun _ _ h=>h)
    ·intro vs Wx A hA hB hpre
     have eg:=((hA 39).trans (show _=vs 4 by kernel_rfl)).trans (hpre.1 rfl)
     refine ⟨true,eg,fun _ K hK=>?_,fun h=>absurd rfl h⟩
     have e0:=(hA 0).trans (show _=Value.slice (some ⟨b,oo,none⟩) l.length fk by kernel_rfl)
     clear hA hpre
     go_simp
     exact hK _ _ hB rfl (fun _ _ h=>h)
    ·intro vs Wx A hA hB hpre
     have eg:=((hA 39).trans (show _=vs 4 by kernel_rfl)).trans (hpre.1 rfl)
     refine ⟨true,eg,fun _ K hK=>?_,fun h=>absurd rfl h⟩
     have e9:=(hA 9).trans (show _=Value.int .i64 (lo:Nat) by kernel_rfl)
     clear hA hpre
     go_simp
     exact hK _ _ hB rfl (fun _ _ h=>h)
    ·intro vs Wx A hA hB hpre
     have eg:=((hA 39).trans (show _=vs 4 by kernel_rfl)).trans (hpre.2.2.1 rfl)
     refine ⟨true,eg,fun _ K hK=>?_,fun h=>absurd rfl h⟩
     have e41:=((hA 41).trans (show _=vs 6 by kernel_rfl)).trans (hpre.1 rfl)
     have e42:=((hA 42).trans (show _=vs 7 by kernel_rfl)).trans (hpre.2.1 rfl)
     clear hA hpre
     go_simp
     exact hK _ _ hB rfl (fun _ _ h=>h)
    ·intro vs Wx A hA hB hpre
     have eg:=((hA 39).trans (show _=vs 4 by kernel_rfl)).trans (hpre.2.1 rfl)
     refine ⟨true,eg,fun _ K hK=>?_,fun h=>absurd rfl h⟩
     have e43:=((hA 43).trans (show _=vs 8 by kernel_rfl)).trans (hpre.1 rfl)
     obtain ⟨⟨x0,x1,x2,x3,x4⟩,⟨y0,y1,y2,y3⟩⟩:=HXK.out Wx hB
     clear hA hpre
     go_simp
     exact hK _ _ hB rfl (fun _ _ h=>h)
    ·intro vs Wx A hA hB hpre
     have eg:=((hA 39).trans (show _=vs 4 by kernel_rfl)).trans (hpre.1 rfl)
     refine ⟨true,eg,fun _ K hK=>?_,fun h=>absurd rfl h⟩
     have e4:=(hA 4).trans (show _=Value.pointer (some ⟨p,0,none⟩) by kernel_rfl)
     obtain ⟨⟨x0,x1,x2,x3,x4⟩,⟨y0,y1,y2,y3⟩⟩:=HXK.out Wx hB
     clear hA hpre
     go_simp
     exact hK _ _ hB rfl (fun _ _ h=>h)
    ·intro vs Wx A hA hB hpre
     have eg:=((hA 39).trans (show _=vs 4 by kernel_rfl)).trans (hpre.2.2.2.1 rfl)
     refine ⟨true,eg,fun _ K hK=>?_,fun h=>absurd rfl h⟩
     have e40:=((hA 40).trans (show _=vs 5 by kernel_rfl)).trans (hpre.1 rfl)
     have e44:=((hA 44).trans (show _=vs 9 by kernel_rfl)).trans (hpre.2.1 rfl)
     have e45:=((hA 45).trans (show _=vs 10 by kernel_rfl)).trans (hpre.2.2.1 rfl)
     clear hA hpre
     go_simp
     go_at_call 154
     refine (HCm.out _ _).mono ?_
     rintro e w3 ⟨rfl,hg⟩
     exact hK _ _ (jg hB hg.1) rfl (fun _ _ h=>h)
    ·intro vs Wx A hA hB hpre
     have eg:=((hA 39).trans (show _=vs 4 by kernel_rfl)).trans (hpre.2.1 rfl)
     refine ⟨true,eg,fun _ K hK=>?_,fun h=>absurd rfl h⟩
     have e46:=((hA 46).trans (show _=vs 11 by kernel_rfl)).trans (hpre.1 rfl)
     clear hA hpre
     go_simp
     exact hK _ _ hB rfl (fun _ _ h=>h)
    ·intro vs Wx A hA hB hpre K hK
     have e39:=((hA 39).trans (show _=vs 4 by kernel_rfl)).trans (hpre.1 rfl)
     have e47:=((hA 47).trans (show _=vs 12 by kernel_rfl)).trans (hpre.2.1 rfl)
     clear hA hpre
     go_simp
     exact hK _ _ hB rfl (fun _ _ h=>h)
    ·intro vs Wx A hA hB hpre K hK
     have e35:=((hA 35).trans (show _=vs 0 by kernel_rfl)).trans (hpre.1 rfl)
     clear hA hpre
     go_simp
     exact hK _ _ hB rfl (fun _ _ h=>h)
    ·intro vs Wx A hA hB hpre K hK
     have e48:=((hA 48).trans (show _=vs 13 by kernel_rfl)).trans (hpre.1 rfl)
     clear hA hpre
     go_simp
     exact hK _ _ hB rfl (fun _ _ h=>h)
    ·intro vs Wx hB hF
     have hL:vs 15=.bool (zC x k == 0):=hF 15 (by decide)
     have hL2:vs 14=.int .i64 (lo:Nat):=hF 14 (by decide)
     have HBW:=Lib.hid (jf hp HB0.out (jg HBn.out hB))
     clear hF hB
     simp only [Ri.puts]
     rw [hL,hL2]
     clear hL hL2
     go_simp
     go_wp2_with fail
     go_ret2
     refine ⟨⟨lo,(zC x k == 0),rfl,hlen,HI2.out.1,HI2.out.2,?_⟩,by first|exact HBW.out|(rw [hp];exact HBW.out)⟩
     rw [beq_iff_eq,zH]
     exact ⟨fun h=>⟨hn,by rw [HX.out];exact h⟩,fun ⟨_,h⟩=>by rw [HX.out] at h;exact h⟩
   ·have hnz:¬ (lo:Int) < (l.length:Int):=by omega
    go_upto_region 8 with fail
    refine Ri.IZ (by kernel_rfl) (by kernel_rfl) (by kernel_rfl) (fun Wx=>Below wo.heap.size wo Wx) (fun kz vs wz=>(fun kx vx wx=>match kx with|0=>vx=.int .i64 (lo:Nat)|1=>vx=.int .i64 (lo:Nat)|2=>vx=.int .i64 (l.length:Nat)|3=>vx=.bool false|4=>vx=.bool false|5=>True|6=>True|7=>True|8=>True|9=>True|10=>True|11=>True|12=>True|13=>vx=.bool false|14=>vx=.int .i64 (lo:Nat)|15=>vx=.bool false|_=>True:Nat->Value->World->Prop) kz (vs kz) wz) (fun kz=>[kz]) (by kernel_rfl) (fun jz vs iz vz wz hiz hz=>Ri.wI (F:=(fun kx vx wx=>match kx with|0=>vx=.int .i64 (lo:Nat)|1=>vx=.int .i64 (lo:Nat)|2=>vx=.int .i64 (l.length:Nat)|3=>vx=.bool false|4=>vx=.bool false|5=>True|6=>True|7=>True|8=>True|9=>True|10=>True|11=>True|12=>True|13=>vx=.bool false|14=>vx=.int .i64 (lo:Nat)|15=>vx=.bool false|_=>True:Nat->Value->World->Prop)) jz vs iz vz wz hiz hz) HD.out ⟨Or.inl ⟨rfl,?_⟩,Or.inl ⟨rfl,?_⟩,Or.inl ⟨rfl,?_⟩,Or.inl ⟨rfl,?_⟩,Or.inl ⟨rfl,?_⟩,Or.inr ⟨4,true,39,rfl,rfl,?_⟩,Or.inr ⟨4,true,39,rfl,rfl,?_⟩,Or.inr ⟨4,true,39,rfl,rfl,?_⟩,Or.inr ⟨4,true,39,rfl,rfl,?_⟩,Or.inr ⟨4,true,39,rfl,rfl,?_⟩,Or.inr ⟨4,true,39,rfl,rfl,?_⟩,Or.inr ⟨4,true,39,rfl,rfl,?_⟩,Or.inr ⟨4,true,39,rfl,rfl,?_⟩,Or.inl ⟨rfl,?_⟩,Or.inl ⟨rfl,?_⟩,Or.inl ⟨rfl,?_⟩,trivial⟩ ?_
    iterate 2
     ·intro vs Wx A hA hB hpre K hK
      have e9:=(hA 9).trans (show _=Value.int .i64 (lo:Nat) by kernel_rfl)
      clear hA hpre
      go_simp
      exact hK _ _ hB rfl (fun _ _ h=>h)
    ·intro vs Wx A hA hB hpre K hK
     have e8:=(hA 8).trans (show _=Value.int .i64 (l.length:Nat) by kernel_rfl)
     clear hA hpre
     go_simp
     exact hK _ _ hB rfl (fun _ _ h=>h)
    ·intro vs Wx A hA hB hpre K hK
     have e36:=((hA 36).trans (show _=vs 1 by kernel_rfl)).trans (hpre.1 rfl)
     have e37:=((hA 37).trans (show _=vs 2 by kernel_rfl)).trans (hpre.2.1 rfl)
     clear hA hpre
     go_simp
     exact hK _ _ hB rfl (fun _ _ h=>h)
    ·intro vs Wx A hA hB hpre K hK
     have e38:=((hA 38).trans (show _=vs 3 by kernel_rfl)).trans (hpre.1 rfl)
     clear hA hpre
     go_simp
     exact hK _ _ hB rfl (fun _ _ h=>h)
    iterate 3
     ·intro vs Wx A hA hB hpre
      have eg:=((hA 39).trans (show _=vs 4 by kernel_rfl)).trans (hpre.1 rfl)
      exact ⟨false,eg,fun h=>(by cases h),fun _=>trivial⟩
    ·intro vs Wx A hA hB hpre
     have eg:=((hA 39).trans (show _=vs 4 by kernel_rfl)).trans (hpre.2.2.1 rfl)
     exact ⟨false,eg,fun h=>(by cases h),fun _=>trivial⟩
    ·intro vs Wx A hA hB hpre
     have eg:=((hA 39).trans (show _=vs 4 by kernel_rfl)).trans (hpre.2.1 rfl)
     exact ⟨false,eg,fun h=>(by cases h),fun _=>trivial⟩
    ·intro vs Wx A hA hB hpre
     have eg:=((hA 39).trans (show _=vs 4 by kernel_rfl)).trans (hpre.1 rfl)
     exact ⟨false,eg,fun h=>(by cases h),fun _=>trivial⟩
    ·intro vs Wx A hA hB hpre
     have eg:=((hA 39).trans (show _=vs 4 by kernel_rfl)).trans (hpre.2.2.2.1 rfl)
     exact ⟨false,eg,fun h=>(by cases h),fun _=>trivial⟩
    ·intro vs Wx A hA hB hpre
     have eg:=((hA 39).trans (show _=vs 4 by kernel_rfl)).trans (hpre.2.1 rfl)
     exact ⟨false,eg,fun h=>(by cases h),fun _=>trivial⟩
    ·intro vs Wx A hA hB hpre K hK
     have e39:=((hA 39).trans (show _=vs 4 by kernel_rfl)).trans (hpre.1 rfl)
     clear hA hpre
     go_simp
     exact hK _ _ hB rfl (fun _ _ h=>h)
    ·intro vs Wx A hA hB hpre K hK
     have e35:=((hA 35).trans (show _=vs 0 by kernel_rfl)).trans (hpre.1 rfl)
     clear hA hpre
     go_simp
     exact hK _ _ hB rfl (fun _ _ h=>h)
    ·intro vs Wx A hA hB hpre K hK
     have e48:=((hA 48).trans (show _=vs 13 by kernel_rfl)).trans (hpre.1 rfl)
     clear hA hpre
     go_simp
     exact hK _ _ hB rfl (fun _ _ h=>h)
    ·intro vs Wx hB hF
     have hL:vs 15=.bool false:=hF 15 (by decide)
     have hL2:vs 14=.int .i64 (lo:Nat):=hF 14 (by decide)
     have HBW:=Lib.hid (jf hp HB0.out (jg HBn.out hB))
     clear hF hB
     simp only [Ri.puts]
     rw [hL,hL2]
     clear hL hL2
     go_simp
     go_wp2_with fail
     go_ret2
     exact ⟨⟨lo,false,rfl,hlen,HI2.out.1,HI2.out.2,⟨fun h=>(by cases h),fun ⟨h,_⟩=>absurd h hn⟩⟩,by first|exact HBW.out|(rw [hp];exact HBW.out)⟩
end Go.Proofs.YtfbfeoplldjbpaaGreatDoor.Fe
end
