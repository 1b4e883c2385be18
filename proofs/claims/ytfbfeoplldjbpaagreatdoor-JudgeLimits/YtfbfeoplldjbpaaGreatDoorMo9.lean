/-
  Texts put together (merge.py): RInvB, YBin, YGet.
-/
import Derived.Test.YtfbfeoplldjbpaaGreatDoorMo5
import Derived.Test.YtfbfeoplldjbpaaGreatDoorMo8
set_option linter.unusedSimpArgs false
set_option linter.unusedVariables false
set_option maxHeartbeats 16000000
set_option maxRecDepth 100000
section
namespace Go.Proofs.YtfbfeoplldjbpaaGreatDoor.Ri
open Go
def gV:Nat->List Oper->Bool
 | _,[]=>true
 | k,o :: l=>(o.after.all fun e=>!Region.binds .any e || decide (e.on < k)) && gV (k+1) l
theorem gW:∀(l:List Oper) (k i:Nat) (o:Oper),gV k l=true->l[i]?=some o->∀e ∈ o.after,Region.binds .any e=true->e.on < k+i
 | [],_,_,_,_,h=>by simp at h
 | x :: l,k,0,o,hb,h=>by
  simp at h;subst h
  simp only [gV,Bool.and_eq_true,Array.all_eq_true_iff_forall_mem,Bool.or_eq_true,decide_eq_true_eq] at hb
  intro e he hbe
  rcases hb.1 e he with h1|h1
  ·rw [hbe] at h1;cases h1
  ·exact h1
 | x :: l,k,i+1,o,hb,h=>by
  simp at h
  simp only [gV,Bool.and_eq_true] at hb
  intro e he hbe
  have:=gW l (k+1) i o hb.2 h e he hbe
  omega
theorem IW {P:Program} {id:Nat} {l:List Oper} {Q:Exit->Act->World->Prop} {a0:Act} {w0:World} (hm:P.follows .mixedOrders=true) (hap:gJ l=true) (hbk:gV 0 l=true)
  (B:World->Prop) (F:Nat->(Nat->Value)->World->Prop) (deps:Nat->List Nat) (hdp:mX deps 0 l=true)
  (hloc:∀j vs i v w,i ∉ deps j->F j vs w->F j (upd vs i v) w) (h0:B w0.drew) (hop:Each P l Q a0 B F 0 l)
  (hd:∀vs w,B w->(∀j,j < l.length->F j vs w)->Q .normal (puts l 0 vs a0) w):(Code.region id l.toArray true).wp P Q a0 w0:=by
 refine wp_region_any hm (IK (fun listed a w=>listed.size=l.length/\(∀j,listed.getD j false=true->∀d ∈ deps j,listed.getD d false=true)/\∃vs,a=puts l 0 vs a0/\B w/\∀j,listed.getD j false=true->F j vs w) ?_ ?_ _ _ _ _ (by rw [zn];exact Nat.le_refl _) ?_)
 ·rintro listed a w ⟨hsz,hcl,vs,rfl,hB,hF⟩ i hi
  obtain ⟨hni,o,ho,hpre⟩:=mem_ready.1 hi
  have ho':l[i]?=some o:=by simpa using ho
  have hil:i < l.length:=(List.getElem?_eq_some_iff.1 ho').1
  have hnf:listed.getD i false=false:=by
   have:i < listed.size:=by omega
   simpa [this] using hni
  have hst:=Each.get l 0 i o hop ho'
  rw [Nat.zero_add] at hst
  refine wpOp_step ho fun K hK=>?_
  refine hst vs w hB (fun e he hb=>hF _ (hpre e he hb)) K fun v w' hB' hFi hFj=>hK _ _ ?_
  have hset:∀j,(listed.setIfInBounds i true).getD j false=true->j=i ∨ listed.getD j false=true:=fun j hj=>by
   by_cases hji:i=j
   ·exact Or.inl hji.symm
   ·rw [getD_set_ne false hji] at hj;exact Or.inr hj
  refine ⟨by simp [hsz],fun j hj d hdd=>?_,upd vs i v,by have:=CP l 0 i o vs a0 v hap ho';rwa [Nat.zero_add] at this,hB',fun j hj=>?_⟩
  ·rcases hset j hj with rfl|hj'
   ·have:=mY deps l 0 j o hdp ho'
    rw [Nat.zero_add] at this
    rcases this d hdd with rfl|⟨e,he,hb,hde⟩
    ·have:d < listed.size:=by omega
     simp [this]
    ·exact getD_set_true (hcl _ (hpre e he hb) d hde)
   ·exact getD_set_true (hcl j hj' d hdd)
  ·by_cases hji:j=i
   ·subst hji;exact hFi
   ·rcases hset j hj with h|hj'
    ·exact absurd h hji
    ·refine hloc j vs i v w' (fun hin=>?_) (hFj j hji (hF j hj'))
     rw [hcl j hj' i hin] at hnf
     cases hnf
 ·rintro listed a w ⟨hsz,hcl,vs,rfl,hB,hF⟩ hr
  refine hd vs w hB fun j hj=>hF j ?_
  have all:∀n,∀j,j < n->j < l.length->listed.getD j false=true:=by
   intro n
   induction n with
   | zero=>intro j h;omega
   | succ n ih =>
    intro j hjn hjl
    rcases Nat.lt_or_ge j n with h|h
    ·exact ih j h hjl
    obtain rfl:j=n:=by omega
    have hoj:l[j]?=some l[j]:=List.getElem?_eq_getElem hjl
    by_cases hc:listed.getD j false=true
    ·exact hc
    ·exfalso
     have hjs:j < listed.size:=by omega
     have hmem:j ∈ Region.ready .any l.toArray listed:=mem_ready.2 ⟨by simpa [hjs] using hc,l[j],by simp,fun e he hbe=>by
      have:=gW l 0 j _ hbk hoj e he hbe
      exact ih e.on (by omega) (by omega)⟩
     rw [hr] at hmem
     cases hmem
  exact all (j+1) j (by omega) hj
 ·obtain ⟨vs,hvs⟩:=CQ l 0 a0
  refine ⟨by simp,fun j hj=>?_,vs,hvs.symm,h0,fun j hj=>?_⟩
  all_goals
   exfalso
   rw [Array.getD_eq_getD_getElem?,Array.getElem?_replicate] at hj
   split at hj<;>simp at hj
theorem IY {P:Program} {id:Nat} {l:List Oper} {Q:Exit->Act->World->Prop} {a0:Act} {w0:World} (hm:P.follows .mixedOrders=true) (hap:gJ l=true) (hbk:gV 0 l=true)
  (B:World->Prop) (F:Nat->(Nat->Value)->World->Prop) (deps:Nat->List Nat) (hdp:mX deps 0 l=true)
  (hloc:∀j vs i v w,i ∉ deps j->F j vs w->F j (upd vs i v) w) (h0:B w0.drew) (hop:aH P l Q a0 B F 0 l)
  (hd:∀vs w,B w->(∀j,j < l.length->F j vs w)->Q .normal (puts l 0 vs a0) w):(Code.region id l.toArray true).wp P Q a0 w0:=
 IW hm hap hbk B F deps hdp hloc h0 (aH.each l 0 hop) hd
theorem IZ {P:Program} {id:Nat} {l:List Oper} {Q:Exit->Act->World->Prop} {a0:Act} {w0:World} (hm:P.follows .mixedOrders=true) (hap:gJ l=true) (hbk:gV 0 l=true)
  (B:World->Prop) (F:Nat->(Nat->Value)->World->Prop) (deps:Nat->List Nat) (hdp:mX deps 0 l=true)
  (hloc:∀j vs i v w,i ∉ deps j->F j vs w->F j (upd vs i v) w) (h0:B w0.drew) (hop:aI P l Q a0 B F 0 l)
  (hd:∀vs w,B w->(∀j,j < l.length->F j vs w)->Q .normal (puts l 0 vs a0) w):(Code.region id l.toArray true).wp P Q a0 w0:=
 IW hm hap hbk B F deps hdp hloc h0 (aI.each l 0 hop) hd
end Go.Proofs.YtfbfeoplldjbpaaGreatDoor.Ri
end
section
namespace Go.Proofs.YtfbfeoplldjbpaaGreatDoor.Ac
open Go.RowKit
def BsV (l:List Row) (k:Row) (e:Ending):Prop:=∃(i:Nat) (fb:Bool),e=.returned (.tuple #[.int .i64 (i:Nat),.bool fb])/\dh l k i fb
theorem jS (l:List Row) (k:Row) (v:Value) (w:World) (h:cu All w v l) (hl:l.length<=281474976710656) (hU:Up l) :
  Calls Tryz.prog 170 #[v,rwv k,.func (.func 43) #[] #[]] w fun e w'=>BsV l k e/\Below w.heap.size w w':=by
 have HU:=Lib.hid hU
 obtain ⟨fa,fk,rfl,hm1,hm2⟩:=h.form
 have hb0:=iU w (.cells #[.string (mk k.who),.bool k.fam,.int .i64 k.year,.int .i64 k.de,.int .i64 k.oo] TA)
 have HZ:=Lib.hid (heap_alloc_new w (.cells #[.string (mk k.who),.bool k.fam,.int .i64 k.year,.int .i64 k.de,.int .i64 k.oo] TA))
 have HF:=Lib.hid (h.grw hb0)
 have HB0:=Lib.hid hb0
 have HCm:=Lib.hid fun (x:Row) W'=>zI x k W'
 clear h hU hb0
 go_enter Tryz.func170,Tryz.ntmps170
 go_upto_region 1 with fail
 generalize w.alloc (.cells #[.string (mk k.who),.bool k.fam,.int .i64 k.year,.int .i64 k.de,.int .i64 k.oo] TA)=W at *
 generalize hp:w.heap.size=p at *
 go_wp2
 go_loopg [9,10] (l.length) (fun g s9 s10 wr=>∃lo hi:Nat,s9=.int .i64 lo/\s10=.int .i64 hi/\lo<=hi/\hi<=l.length/\hi - lo<=g/\Hid (Below W.heap.size W wr)/\Hid ((∀t (ht:t < l.length),t < lo->dR l[t] k=true)/\(∀t (ht:t < l.length),hi<=t->dR l[t] k=false)))
 case atStart=>exact ⟨0,l.length,rfl,rfl,Nat.zero_le _,Nat.le_refl _,by omega,Below.refl _ _,(⟨fun t ht h=>absurd h (Nat.not_lt_zero _),fun t ht h=>by omega⟩:(∀t (ht:t < l.length),t < 0->dR l[t] k=true)/\(∀t (ht:t < l.length),l.length<=t->dR l[t] k=false))⟩
 case round =>
  obtain ⟨lo,hi,rfl,rfl,hlh,hin,hgk,HBn,HI⟩:=hrel
  by_cases hlt:lo < hi
  ·have hltz:(lo:Int) < (hi:Int):=by omega
   obtain ⟨md,hmd⟩:∃h,h=(lo+hi) / 2:=⟨_,rfl⟩
   have zmd:((lo:Int)+(hi:Int)) / 2=(md:Int):=by omega
   have h1:lo<=md:=by omega
   have h2:md < hi:=by omega
   have hml:md < l.length:=by omega
   clear hmd
   obtain ⟨b,oo,rfl,-,-,-⟩:=cu.get HF.out md hml
   have HXK:=Lib.hid fun W' (hW:Below wr.heap.size wr W')=>And.intro (jZ (HF.out.grw (jg HBn.out hW)) md hml) (cells5 (tV HZ.out (jg HBn.out hW)))
   have HMo:=Lib.hid (dX HU.out k md hml)
   have HMb:=Lib.hid (iQ HU.out k md hml)
   generalize l[md]=x at *
   have HD:=Lib.hid (Below.drew (Below.refl wr.heap.size wr))
   obtain ⟨wo,hwo⟩:∃z,z=wr:=⟨_,rfl⟩
   subst hwo
   go_upto_region 5 with fail
   refine Ri.IX (by kernel_rfl) (by kernel_rfl) (by kernel_rfl) (fun Wx=>Below wo.heap.size wo Wx) (fun kz vs wz=>(fun kx vx wx=>match kx with|0=>vx=.func (.func 43) #[] #[]|1=>vx=.slice (some ⟨b,oo,none⟩) l.length fk|2=>vx=.int .i64 (md:Nat)|3=>vx=.pointer (some ⟨b,oo+md * 5,none⟩)|4=>vx=rwv x|5=>vx=rwv k|6=>vx=.int .i64 (zC x k)|7=>vx=.bool (decide (zC x k < 0))|_=>True:Nat->Value->World->Prop) kz (vs kz) wz) (fun kz=>[kz]) (by kernel_rfl) (fun jz vs iz vz wz hiz hz=>Ri.wI (F:=(fun kx vx wx=>match kx with|0=>vx=.func (.func 43) #[] #[]|1=>vx=.slice (some ⟨b,oo,none⟩) l.length fk|2=>vx=.int .i64 (md:Nat)|3=>vx=.pointer (some ⟨b,oo+md * 5,none⟩)|4=>vx=rwv x|5=>vx=rwv k|6=>vx=.int .i64 (zC x k)|7=>vx=.bool (decide (zC x k < 0))|_=>True:Nat->Value->World->Prop)) jz vs iz vz wz hiz hz) HD.out ⟨⟨rfl,?_⟩,⟨rfl,?_⟩,⟨rfl,?_⟩,⟨rfl,?_⟩,⟨rfl,?_⟩,⟨rfl,?_⟩,⟨rfl,?_⟩,⟨rfl,?_⟩,trivial⟩ ?_
   ·intro vs Wx A hA hB hpre K hK
    have e2:=(hA 2).trans (show _=Value.func (.func 43) #[] #[] by kernel_rfl)
    clear hA hpre
    go_simp
    exact hK _ _ hB rfl (fun _ _ h=>h)
   ·intro vs Wx A hA hB hpre K hK
    have e0:=(hA 0).trans (show _=Value.slice (some ⟨b,oo,none⟩) l.length fk by kernel_rfl)
    clear hA hpre
    go_simp
    exact hK _ _ hB rfl (fun _ _ h=>h)
   ·intro vs Wx A hA hB hpre K hK
    have e11:=(hA 11).trans (show _=Value.int .i64 (md:Nat) by kernel_rfl)
    clear hA hpre
    go_simp
    exact hK _ _ hB rfl (fun _ _ h=>h)
   ·intro vs Wx A hA hB hpre K hK
    have e25:=((hA 25).trans (show _=vs 1 by kernel_rfl)).trans (hpre.1 rfl)
    have e26:=((hA 26).trans (show _=vs 2 by kernel_rfl)).trans (hpre.2.1 rfl)
    clear hA hpre
    go_simp
    exact hK _ _ hB rfl (fun _ _ h=>h)
   ·intro vs Wx A hA hB hpre K hK
    have e27:=((hA 27).trans (show _=vs 3 by kernel_rfl)).trans (hpre.1 rfl)
    obtain ⟨⟨x0,x1,x2,x3,x4⟩,⟨y0,y1,y2,y3,y4⟩⟩:=HXK.out Wx hB
    clear hA hpre
    go_simp
    exact hK _ _ hB rfl (fun _ _ h=>h)
   ·intro vs Wx A hA hB hpre K hK
    have e4:=(hA 4).trans (show _=Value.pointer (some ⟨p,0,none⟩) by kernel_rfl)
    obtain ⟨⟨x0,x1,x2,x3,x4⟩,⟨y0,y1,y2,y3,y4⟩⟩:=HXK.out Wx hB
    clear hA hpre
    go_simp
    exact hK _ _ hB rfl (fun _ _ h=>h)
   ·intro vs Wx A hA hB hpre K hK
    have e24:=((hA 24).trans (show _=vs 0 by kernel_rfl)).trans (hpre.1 rfl)
    have e28:=((hA 28).trans (show _=vs 4 by kernel_rfl)).trans (hpre.2.1 rfl)
    have e29:=((hA 29).trans (show _=vs 5 by kernel_rfl)).trans (hpre.2.2.1 rfl)
    clear hA hpre
    go_simp
    go_at_call 43
    refine (HCm.out _ _).mono ?_
    rintro e w3 ⟨rfl,hg⟩
    exact hK _ _ (jg hB hg) rfl (fun _ _ h=>h)
   ·intro vs Wx A hA hB hpre K hK
    have e30:=((hA 30).trans (show _=vs 6 by kernel_rfl)).trans (hpre.1 rfl)
    clear hA hpre
    go_simp
    exact hK _ _ hB rfl (fun _ _ h=>h)
   ·intro vs Wx hB hF
    have hL:vs 7=.bool (decide (zC x k < 0)):=hF 7 (by decide)
    have HBW:=Lib.hid (jg HBn.out hB)
    clear hF hB
    simp only [Ri.puts]
    rw [hL]
    clear hL
    cases hlv:dR x k with
    | true =>
     have hd:decide (zC x k < 0)=true:=decide_eq_true ((zF x k).2 hlv)
     rw [hd]
     have HI2:Hid ((∀t (ht:t < l.length),t < md+1->dR l[t] k=true)/\(∀t (ht:t < l.length),hi<=t->dR l[t] k=false)):=⟨fun t ht h=>HMo.out hlv t ht h,HI.out.2⟩
     clear hd HMo HMb HI
     go_simp
     go_wp2
     go_roundg (hi - (md+1))
     case measure=>omega
     case rel=>exact ⟨md+1,hi,by first|rfl|go_num|(congr 1;omega),rfl,by omega,hin,by omega,HBW.out,HI2.out⟩
    | false =>
     have hd:decide (zC x k < 0)=false:=decide_eq_false (fun h=>by rw [(zF x k).1 h] at hlv;cases hlv)
     rw [hd]
     have HI2:Hid ((∀t (ht:t < l.length),t < lo->dR l[t] k=true)/\(∀t (ht:t < l.length),md<=t->dR l[t] k=false)):=⟨HI.out.1,fun t ht h=>HMb.out hlv t ht h⟩
     clear hd HMo HMb HI
     go_simp
     go_wp2
     go_roundg (md - lo)
     case measure=>omega
     case rel=>exact ⟨lo,md,rfl,by first|rfl|go_num|(congr 1;omega),by omega,by omega,by omega,HBW.out,HI2.out⟩
  ·have hltz:¬ (lo:Int) < (hi:Int):=by omega
   have ehl:hi=lo:=by omega
   have HI2:Hid ((∀t (ht:t < l.length),t < lo->dR l[t] k=true)/\(∀t (ht:t < l.length),lo<=t->dR l[t] k=false)):=by rw [ehl] at HI;exact HI
   have hlen:lo<=l.length:=by omega
   clear HI ehl
   have HD:=Lib.hid (Below.drew (Below.refl wr.heap.size wr))
   obtain ⟨wo,hwo⟩:∃z,z=wr:=⟨_,rfl⟩
   subst hwo
   by_cases hn:lo < l.length
   ·have hnz:(lo:Int) < (l.length:Int):=by omega
    obtain ⟨b,oo,rfl,-,-,-⟩:=cu.get HF.out lo hn
    have HXK:=Lib.hid fun W' (hW:Below wo.heap.size wo W')=>And.intro (jZ (HF.out.grw (jg HBn.out hW)) lo hn) (cells5 (tV HZ.out (jg HBn.out hW)))
    obtain ⟨x,HX⟩:∃x,Hid (l[lo]=x):=⟨l[lo],(rfl:l[lo]=l[lo])⟩
    rw [HX.out] at HXK
    go_upto_region 8 with fail
    refine Ri.IZ (by kernel_rfl) (by kernel_rfl) (by kernel_rfl) (fun Wx=>Below wo.heap.size wo Wx) (fun kz vs wz=>(fun kx vx wx=>match kx with|0=>vx=.int .i64 (lo:Nat)|1=>vx=.int .i64 (lo:Nat)|2=>vx=.int .i64 (l.length:Nat)|3=>vx=.bool true|4=>vx=.bool true|5=>vx=.func (.func 43) #[] #[]|6=>vx=.slice (some ⟨b,oo,none⟩) l.length fk|7=>vx=.int .i64 (lo:Nat)|8=>vx=.pointer (some ⟨b,oo+lo * 5,none⟩)|9=>vx=rwv x|10=>vx=rwv k|11=>vx=.int .i64 (zC x k)|12=>vx=.bool (zC x k == 0)|13=>vx=.bool (zC x k == 0)|14=>vx=.int .i64 (lo:Nat)|15=>vx=.bool (zC x k == 0)|_=>True:Nat->Value->World->Prop) kz (vs kz) wz) (fun kz=>[kz]) (by kernel_rfl) (fun jz vs iz vz wz hiz hz=>Ri.wI (F:=(fun kx vx wx=>match kx with|0=>vx=.int .i64 (lo:Nat)|1=>vx=.int .i64 (lo:Nat)|2=>vx=.int .i64 (l.length:Nat)|3=>vx=.bool true|4=>vx=.bool true|5=>vx=.func (.func 43) #[] #[]|6=>vx=.slice (some ⟨b,oo,none⟩) l.length fk|7=>vx=.int .i64 (lo:Nat)|8=>vx=.pointer (some ⟨b,oo+lo * 5,none⟩)|9=>vx=rwv x|10=>vx=rwv k|11=>vx=.int .i64 (zC x k)|12=>vx=.bool (zC x k == 0)|13=>vx=.bool (zC x k == 0)|14=>vx=.int .i64 (lo:Nat)|15=>vx=.bool (zC x k == 0)|_=>True:Nat->Value->World->Prop)) jz vs iz vz wz hiz hz) HD.out ⟨Or.inl ⟨rfl,?_⟩,Or.inl ⟨rfl,?_⟩,Or.inl ⟨rfl,?_⟩,Or.inl ⟨rfl,?_⟩,Or.inl ⟨rfl,?_⟩,Or.inr ⟨4,true,39,rfl,rfl,?_⟩,Or.inr ⟨4,true,39,rfl,rfl,?_⟩,Or.inr ⟨4,true,39,rfl,rfl,?_⟩,Or.inr ⟨4,true,39,rfl,rfl,?_⟩,Or.inr ⟨4,true,39,rfl,rfl,?_⟩,Or.inr ⟨4,true,39,rfl,rfl,?_⟩,Or.inr ⟨4,true,39,rfl,rfl,?_⟩,Or.inr ⟨4,true,39,rfl,rfl,?_⟩,Or.inl ⟨rfl,?_⟩,Or.inl ⟨rfl,?_⟩,Or.inl ⟨rfl,?_⟩,trivial⟩ ?_
    iterate 2
     ·intro vs Wx A hA hB hpre K hK
      have e9:=(hA 9).trans (show _=Value.int .i64 (lo:Nat) by kernel_rfl)
      clear hA hpre
      go_simp
      exact hK _ _ hB rfl (fun _ _ h=>h)
    ·intro vs Wx A hA hB hpre K hK
     have e8:=(hA 8).trans (show _=Value.int .i64 (l.length:Nat) by kernel_rfl)
     clear hA hpre
     go_simp
     exact hK _ _ hB rfl (fun _ _ h=>h)
    ·intro vs Wx A hA hB hpre K hK
     have e36:=((hA 36).trans (show _=vs 1 by kernel_rfl)).trans (hpre.1 rfl)
     have e37:=((hA 37).trans (show _=vs 2 by kernel_rfl)).trans (hpre.2.1 rfl)
     clear hA hpre
     go_simp
     exact hK _ _ hB rfl (fun _ _ h=>h)
    ·intro vs Wx A hA hB hpre K hK
     have e38:=((hA 38).trans (show _=vs 3 by kernel_rfl)).trans (hpre.1 rfl)
     clear hA hpre
     go_simp
     exact hK _ _ hB rfl (fun _ _ h=>h)
    ·intro vs Wx A hA hB hpre
     have eg:=((hA 39).trans (show _=vs 4 by kernel_rfl)).trans (hpre.1 rfl)
     refine ⟨true,eg,fun _ K hK=>?_,fun h=>absurd rfl h⟩
     have e2:=(hA 2).trans (show _=Value.func (.func 43) #[] #[] by kernel_rfl)
     clear hA hpre
     go_simp
     exact hK _ _ hB rfl (fun _ _ h=>h)
    ·intro vs Wx A hA hB hpre
     have eg:=((hA 39).trans (show _=vs 4 by kernel_rfl)).trans (hpre.1 rfl)
     refine ⟨true,eg,fun _ K hK=>?_,fun h=>absurd rfl h⟩
     have e0:=(hA 0).trans (show _=Value.slice (some ⟨b,oo,none⟩) l.length fk by kernel_rfl)
     clear hA hpre
     go_simp
     exact hK _ _ hB rfl (fun _ _ h=>h)
    ·intro vs Wx A hA hB hpre
     have eg:=((hA 39).trans (show _=vs 4 by kernel_rfl)).trans (hpre.1 rfl)
     refine ⟨true,eg,fun _ K hK=>?_,fun h=>absurd rfl h⟩
     have e9:=(hA 9).trans (show _=Value.int .i64 (lo:Nat) by kernel_rfl)
     clear hA hpre
     go_simp
     exact hK _ _ hB rfl (fun _ _ h=>h)
    ·intro vs Wx A hA hB hpre
     have eg:=((hA 39).trans (show _=vs 4 by kernel_rfl)).trans (hpre.2.2.1 rfl)
     refine ⟨true,eg,fun _ K hK=>?_,fun h=>absurd rfl h⟩
     have e41:=((hA 41).trans (show _=vs 6 by kernel_rfl)).trans (hpre.1 rfl)
     have e42:=((hA 42).trans (show _=vs 7 by kernel_rfl)).trans (hpre.2.1 rfl)
     clear hA hpre
     go_simp
     exact hK _ _ hB rfl (fun _ _ h=>h)
    ·intro vs Wx A hA hB hpre
     have eg:=((hA 39).trans (show _=vs 4 by kernel_rfl)).trans (hpre.2.1 rfl)
     refine ⟨true,eg,fun _ K hK=>?_,fun h=>absurd rfl h⟩
     have e43:=((hA 43).trans (show _=vs 8 by kernel_rfl)).trans (hpre.1 rfl)
     obtain ⟨⟨x0,x1,x2,x3,x4⟩,⟨y0,y1,y2,y3,y4⟩⟩:=HXK.out Wx hB
     clear hA hpre
     go_simp
     exact hK _ _ hB rfl (fun _ _ h=>h)
    ·intro vs Wx A hA hB hpre
     have eg:=((hA 39).trans (show _=vs 4 by kernel_rfl)).trans (hpre.1 rfl)
     refine ⟨true,eg,fun _ K hK=>?_,fun h=>absurd rfl h⟩
     have e4:=(hA 4).trans (show _=Value.pointer (some ⟨p,0,none⟩) by kernel_rfl)
     obtain ⟨⟨x0,x1,x2,x3,x4⟩,⟨y0,y1,y2,y3,y4⟩⟩:=HXK.out Wx hB
     clear hA hpre
     go_simp
     exact hK _ _ hB rfl (fun _ _ h=>h)
    ·intro vs Wx A hA hB hpre
     have eg:=((hA 39).trans (show _=vs 4 by kernel_rfl)).trans (hpre.2.2.2.1 rfl)
     refine ⟨true,eg,fun _ K hK=>?_,fun h=>absurd rfl h⟩
     have e40:=((hA 40).trans (show _=vs 5 by kernel_rfl)).trans (hpre.1 rfl)
     have e44:=((hA 44).trans (show _=vs 9 by kernel_rfl)).trans (hpre.2.1 rfl)
     have e45:=((hA 45).trans (show _=vs 10 by kernel_rfl)).trans (hpre.2.2.1 rfl)
     clear hA hpre
     go_simp
     go_at_call 43
     refine (HCm.out _ _).mono ?_
     rintro e w3 ⟨rfl,hg⟩
     exact hK _ _ (jg hB hg) rfl (fun _ _ h=>h)
    ·intro vs Wx A hA hB hpre
     have eg:=((hA 39).trans (show _=vs 4 by kernel_rfl)).trans (hpre.2.1 rfl)
     refine ⟨true,eg,fun _ K hK=>?_,fun h=>absurd rfl h⟩
     have e46:=((hA 46).trans (show _=vs 11 by kernel_rfl)).trans (hpre.1 rfl)
     clear hA hpre
     go_simp
     exact hK _ _ hB rfl (fun _ _ h=>h)
    ·intro vs Wx A hA hB hpre K hK
     have e39:=((hA 39).trans (show _=vs 4 by kernel_rfl)).trans (hpre.1 rfl)
     have e47:=((hA 47).trans (show _=vs 12 by kernel_rfl)).trans (hpre.2.1 rfl)
     clear hA hpre
     go_simp
     exact hK _ _ hB rfl (fun _ _ h=>h)
    ·intro vs Wx A hA hB hpre K hK
     have e35:=((hA 35).trans (show _=vs 0 by kernel_rfl)).trans (hpre.1 rfl)
     clear hA hpre
     go_simp
     exact hK _ _ hB rfl (fun _ _ h=>h)
    ·intro vs Wx A hA hB hpre K hK
     have e48:=((hA 48).trans (show _=vs 13 by kernel_rfl)).trans (hpre.1 rfl)
     clear hA hpre
     go_simp
     exact hK _ _ hB rfl (fun _ _ h=>h)
    ·intro vs Wx hB hF
     have hL:vs 15=.bool (zC x k == 0):=hF 15 (by decide)
     have hL2:vs 14=.int .i64 (lo:Nat):=hF 14 (by decide)
     have HBW:=Lib.hid (jf hp HB0.out (jg HBn.out hB))
     clear hF hB
     simp only [Ri.puts]
     rw [hL,hL2]
     clear hL hL2
     go_simp
     go_wp2_with fail
     go_ret2
     refine ⟨⟨lo,(zC x k == 0),rfl,hlen,HI2.out.1,HI2.out.2,?_⟩,by first|exact HBW.out|(rw [hp];exact HBW.out)⟩
     rw [beq_iff_eq,zH]
     exact ⟨fun h=>⟨hn,by rw [HX.out];exact h⟩,fun ⟨_,h⟩=>by rw [HX.out] at h;exact h⟩
   ·have hnz:¬ (lo:Int) < (l.length:Int):=by omega
    go_upto_region 8 with fail
    refine Ri.IZ (by kernel_rfl) (by kernel_rfl) (by kernel_rfl) (fun Wx=>Below wo.heap.size wo Wx) (fun kz vs wz=>(fun kx vx wx=>match kx with|0=>vx=.int .i64 (lo:Nat)|1=>vx=.int .i64 (lo:Nat)|2=>vx=.int .i64 (l.length:Nat)|3=>vx=.bool false|4=>vx=.bool false|5=>True|6=>True|7=>True|8=>True|9=>True|10=>True|11=>True|12=>True|13=>vx=.bool false|14=>vx=.int .i64 (lo:Nat)|15=>vx=.bool false|_=>True:Nat->Value->World->Prop) kz (vs kz) wz) (fun kz=>[kz]) (by kernel_rfl) (fun jz vs iz vz wz hiz hz=>Ri.wI (F:=(fun kx vx wx=>match kx with|0=>vx=.int .i64 (lo:Nat)|1=>vx=.int .i64 (lo:Nat)|2=>vx=.int .i64 (l.length:Nat)|3=>vx=.bool false|4=>vx=.bool false|5=>True|6=>True|7=>True|8=>True|9=>True|10=>True|11=>True|12=>True|13=>vx=.bool false|14=>vx=.int .i64 (lo:Nat)|15=>vx=.bool false|_=>True:Nat->Value->World->Prop)) jz vs iz vz wz hiz hz) HD.out ⟨Or.inl ⟨rfl,?_⟩,Or.inl ⟨rfl,?_⟩,Or.inl ⟨rfl,?_⟩,Or.inl ⟨rfl,?_⟩,Or.inl ⟨rfl,?_⟩,Or.inr ⟨4,true,39,rfl,rfl,?_⟩,Or.inr ⟨4,true,39,rfl,rfl,?_⟩,Or.inr ⟨4,true,39,rfl,rfl,?_⟩,Or.inr ⟨4,true,39,rfl,rfl,?_⟩,Or.inr ⟨4,true,39,rfl,rfl,?_⟩,Or.inr ⟨4,true,39,rfl,rfl,?_⟩,Or.inr ⟨4,true,39,rfl,rfl,?_⟩,Or.inr ⟨4,true,39,rfl,rfl,?_⟩,Or.inl ⟨rfl,?_⟩,Or.inl ⟨rfl,?_⟩,Or.inl ⟨rfl,?_⟩,trivial⟩ ?_
    iterate 2
     ·intro vs Wx A hA hB hpre K hK
      have e9:=(hA 9).trans (show _=Value.int .i64 (lo:Nat) by kernel_rfl)
      clear hA hpre
      go_simp
      exact hK _ _ hB rfl (fun _ _ h=>h)
    ·intro vs Wx A hA hB hpre K hK
     have e8:=(hA 8).trans (show _=Value.int .i64 (l.length:Nat) by kernel_rfl)
     clear hA hpre
     go_simp
     exact hK _ _ hB rfl (fun _ _ h=>h)
    ·intro vs Wx A hA hB hpre K hK
     have e36:=((hA 36).trans (show _=vs 1 by kernel_rfl)).trans (hpre.1 rfl)
     have e37:=((hA 37).trans (show _=vs 2 by kernel_rfl)).trans (hpre.2.1 rfl)
     clear hA hpre
     go_simp
     exact hK _ _ hB rfl (fun _ _ h=>h)
    ·intro vs Wx A hA hB hpre K hK
     have e38:=((hA 38).trans (show _=vs 3 by kernel_rfl)).trans (hpre.1 rfl)
     clear hA hpre
     go_simp
     exact hK _ _ hB rfl (fun _ _ h=>h)
    iterate 3
     ·intro vs Wx A hA hB hpre
      have eg:=((hA 39).trans (show _=vs 4 by kernel_rfl)).trans (hpre.1 rfl)
      exact ⟨false,eg,fun h=>(by cases h),fun _=>trivial⟩
    ·intro vs Wx A hA hB hpre
     have eg:=((hA 39).trans (show _=vs 4 by kernel_rfl)).trans (hpre.2.2.1 rfl)
     exact ⟨false,eg,fun h=>(by cases h),fun _=>trivial⟩
    ·intro vs Wx A hA hB hpre
     have eg:=((hA 39).trans (show _=vs 4 by kernel_rfl)).trans (hpre.2.1 rfl)
     exact ⟨false,eg,fun h=>(by cases h),fun _=>trivial⟩
    ·intro vs Wx A hA hB hpre
     have eg:=((hA 39).trans (show _=vs 4 by kernel_rfl)).trans (hpre.1 rfl)
     exact ⟨false,eg,fun h=>(by cases h),fun _=>trivial⟩
    ·intro vs Wx A hA hB hpre
     have eg:=((hA 39).trans (show _=vs 4 by kernel_rfl)).trans (hpre.2.2.2.1 rfl)
     exact ⟨false,eg,fun h=>(by cases h),fun _=>trivial⟩
    ·intro vs Wx A hA hB hpre
     have eg:=((hA 39).trans (show _=vs 4 by kernel_rfl)).trans (hpre.2.1 rfl)
     exact ⟨false,eg,fun h=>(by cases h),fun _=>trivial⟩
    ·intro vs Wx A hA hB hpre K hK
     have e39:=((hA 39).trans (show _=vs 4 by kernel_rfl)).trans (hpre.1 rfl)
     clear hA hpre
     go_simp
     exact hK _ _ hB rfl (fun _ _ h=>h)
    ·intro vs Wx A hA hB hpre K hK
     have e35:=((hA 35).trans (show _=vs 0 by kernel_rfl)).trans (hpre.1 rfl)
     clear hA hpre
     go_simp
     exact hK _ _ hB rfl (fun _ _ h=>h)
    ·intro vs Wx A hA hB hpre K hK
     have e48:=((hA 48).trans (show _=vs 13 by kernel_rfl)).trans (hpre.1 rfl)
     clear hA hpre
     go_simp
     exact hK _ _ hB rfl (fun _ _ h=>h)
    ·intro vs Wx hB hF
     have hL:vs 15=.bool false:=hF 15 (by decide)
     have hL2:vs 14=.int .i64 (lo:Nat):=hF 14 (by decide)
     have HBW:=Lib.hid (jf hp HB0.out (jg HBn.out hB))
     clear hF hB
     simp only [Ri.puts]
     rw [hL,hL2]
     clear hL hL2
     go_simp
     go_wp2_with fail
     go_ret2
     exact ⟨⟨lo,false,rfl,hlen,HI2.out.1,HI2.out.2,⟨fun h=>(by cases h),fun ⟨h,_⟩=>absurd h hn⟩⟩,by first|exact HBW.out|(rw [hp];exact HBW.out)⟩
theorem oQ (l:List Row) (k:Row) (v:Value) (w:World) (h:cu All w v l) (hl:l.length<=281474976710656) (hU:Up l) :
  Calls Tryz.prog 156 #[v,rwv k] w fun e w'=>BsV l k e/\Below w.heap.size w w':=by
 have hb0:=iU w (.cells #[.string (mk k.who),.bool k.fam,.int .i64 k.year,.int .i64 k.de,.int .i64 k.oo] TA)
 have HZ:=Lib.hid (heap_alloc_new w (.cells #[.string (mk k.who),.bool k.fam,.int .i64 k.year,.int .i64 k.de,.int .i64 k.oo] TA))
 have HB0:=Lib.hid hb0
 have HBS:=Lib.hid (jS l k v _ (h.grw hb0) hl hU)
 obtain ⟨fa,fk,rfl,hm1,hm2⟩:=h.form
 clear h hU hb0
 go_enter Tryz.func156,Tryz.ntmps156
 go_upto_region 1 with fail
 generalize w.alloc (.cells #[.string (mk k.who),.bool k.fam,.int .i64 k.year,.int .i64 k.de,.int .i64 k.oo] TA)=W at *
 generalize hp:w.heap.size=p at *
 obtain ⟨z0,z1,z2,z3,z4⟩:=cells5 HZ.out
 go_wp2_with fail
 go_at_call 170
 refine HBS.out.mono ?_
 rintro e w1 ⟨⟨i,fb,rfl,hs⟩,hb1⟩
 have HB1:=Lib.hid (jf hp HB0.out hb1)
 have HS:=Lib.hid hs
 clear hb1 hs HBS HZ z0 z1 z2 z3 z4
 go_wp2
 go_ret2
 exact ⟨⟨i,fb,rfl,HS.out⟩,by first|exact HB1.out|(rw [hp];exact HB1.out)⟩
end Go.Proofs.YtfbfeoplldjbpaaGreatDoor.Ac
end
section
namespace Go.Proofs.YtfbfeoplldjbpaaGreatDoor.Ac
open Go.RowKit
theorem get_any (l:List Row) (wh:Tx) (f:Bool) (y:Int) (v:Value) (w:World) (h:cu All w v l) (hl:l.length<=281474976710656) (hU:Up l) :
  Calls Tryz.prog 131 #[v,.string (mk wh),.bool f,.int .i64 y] w fun e w'=>e=.returned (rwv (pU l wh f y))/\Below w.heap.size w w':=by
 have hb1:=iU w (.cells #[.string ⟨#[]⟩,.bool false,.int .i64 0,.int .i64 0,.int .i64 0] TA)
 have hz1:=heap_alloc_new w (.cells #[.string ⟨#[]⟩,.bool false,.int .i64 0,.int .i64 0,.int .i64 0] TA)
 have hs1:(w.alloc (.cells #[.string ⟨#[]⟩,.bool false,.int .i64 0,.int .i64 0,.int .i64 0] TA)).heap.size=w.heap.size+1:=by simp
 have hb2:=iU (w.alloc (.cells #[.string ⟨#[]⟩,.bool false,.int .i64 0,.int .i64 0,.int .i64 0] TA)) (.cells #[.string (mk wh),.bool f,.int .i64 y,.int .i64 0,.int .i64 0] TA)
 have hz2:=heap_alloc_new (w.alloc (.cells #[.string ⟨#[]⟩,.bool false,.int .i64 0,.int .i64 0,.int .i64 0] TA)) (.cells #[.string (mk wh),.bool f,.int .i64 y,.int .i64 0,.int .i64 0] TA)
 rw [hs1] at hz2
 have HR:=Lib.hid (tV hz1 hb2)
 have HZ:=Lib.hid hz2
 have HB:=Lib.hid (jg hb1 hb2)
 have HF:=Lib.hid (h.grw (jg hb1 hb2))
 have HU:=Lib.hid hU
 have HFi:Hid (∀W,cu All W v l->Calls Tryz.prog 156 #[v,.agg #[.string (mk wh),.bool f,.int .i64 y,.int .i64 0,.int .i64 0]] W fun e w'=>BsV l ⟨wh,f,y,0,0⟩ e/\Below W.heap.size W w'):=fun W hW=>oQ l ⟨wh,f,y,0,0⟩ v W hW hl hU
 obtain ⟨fa,fk,rfl,hm1,hm2⟩:=h.form
 obtain ⟨G,HG⟩:∃G,Hid (pU l wh f y=G):=⟨_,(rfl:pU l wh f y=_)⟩
 rw [HG.out]
 clear h hU hb1 hz1 hb2 hz2 hs1
 go_enter Tryz.func131,Tryz.ntmps131
 go_upto_region 2 with fail
 generalize (w.alloc (.cells #[.string ⟨#[]⟩,.bool false,.int .i64 0,.int .i64 0,.int .i64 0] TA)).alloc (.cells #[.string (mk wh),.bool f,.int .i64 y,.int .i64 0,.int .i64 0] TA)=W at *
 obtain ⟨q,hq⟩:∃q,q=w.heap.size+1:=⟨_,rfl⟩
 rw [←hq] at HZ ⊢
 have hqp:w.heap.size ≠ q:=by omega
 generalize hp:w.heap.size=p at *
 clear hq
 obtain ⟨z0,z1,z2,z3,z4⟩:=cells5 HZ.out
 go_wp2_with fail
 go_at_call 156
 refine (HFi.out W HF.out).mono ?_
 rintro e w1 ⟨⟨i,fb,rfl,hs⟩,hb1⟩
 have HB1:=Lib.hid (jf hp HB.out hb1)
 have HR1:=Lib.hid (tV HR.out hb1)
 have HZ1:=Lib.hid (tV HZ.out hb1)
 have HF1:=Lib.hid (HF.out.grw hb1)
 have HS:=Lib.hid hs
 clear hb1 hs HFi HZ HR HF HB z0 z1 z2 z3 z4
 cases fb with
 | true =>
  obtain ⟨hi,hgv⟩:=pW HU.out HS.out
  obtain ⟨b,oo,rfl,-,-,hc⟩:=cu.get HF1.out i hi
  have hGe:l[i]=G:=by rw [←hgv];exact HG.out
  rw [hGe] at hc
  obtain ⟨x0,x1,x2,x3,x4⟩:=hc
  have hiz:(i:Int) < (l.length:Int):=by omega
  obtain ⟨r0,r1,r2,r3,r4⟩:=cells5 HR1.out
  obtain ⟨t0,t1,t2,t3,t4⟩:=pO HR1.out
  have HXF:Hid ((((((w1.setCell ⟨p,0,none⟩ (.string (mk G.who))).setCell ⟨p,1,none⟩ (.bool G.fam)).setCell ⟨p,2,none⟩ (.int .i64 G.year)).setCell ⟨p,3,none⟩ (.int .i64 G.de)).setCell ⟨p,4,none⟩ (.int .i64 G.oo)).heap[p]?=some (.cells #[.string (mk G.who),.bool G.fam,.int .i64 G.year,.int .i64 G.de,.int .i64 G.oo] TA (0,0))):=BO HR1.out
  have HBF:Hid (Below p w (((((w1.setCell ⟨p,0,none⟩ (.string (mk G.who))).setCell ⟨p,1,none⟩ (.bool G.fam)).setCell ⟨p,2,none⟩ (.int .i64 G.year)).setCell ⟨p,3,none⟩ (.int .i64 G.de)).setCell ⟨p,4,none⟩ (.int .i64 G.oo))):=BN HB1.out p (Nat.le_refl _) _ _ _ _ _
  clear hgv hGe HG HS HU
  go_wp2
  clear r0 r1 r2 r3 r4 t0 t1 t2 t3 t4 x0 x1 x2 x3 x4
  generalize (((((w1.setCell ⟨p,0,none⟩ (.string (mk G.who))).setCell ⟨p,1,none⟩ (.bool G.fam)).setCell ⟨p,2,none⟩ (.int .i64 G.year)).setCell ⟨p,3,none⟩ (.int .i64 G.de)).setCell ⟨p,4,none⟩ (.int .i64 G.oo))=WF at *
  obtain ⟨r0,r1,r2,r3,r4⟩:=cells5 HXF.out
  refine bodyPost_ret (v:=rwv G) (by simp [results,Tryz.results131,go_sem,r0,r1,r2,r3,r4]) rfl ?_
  exact ⟨rfl,by first|exact HBF.out|(rw [hp];exact HBF.out)⟩
 | false =>
  have hgv:=get_none HU.out HS.out
  have hGe:G=⟨wh,f,y,0,0⟩:=by rw [←hgv];exact HG.out.symm
  subst hGe
  obtain ⟨z0,z1,z2,z3,z4⟩:=cells5 HZ1.out
  obtain ⟨r0,r1,r2,r3,r4⟩:=cells5 HR1.out
  obtain ⟨t0,t1,t2,t3,t4⟩:=pO HR1.out
  have HXF:Hid ((((((w1.setCell ⟨p,0,none⟩ (.string (mk wh))).setCell ⟨p,1,none⟩ (.bool f)).setCell ⟨p,2,none⟩ (.int .i64 y)).setCell ⟨p,3,none⟩ (.int .i64 0)).setCell ⟨p,4,none⟩ (.int .i64 0)).heap[p]?=some (.cells #[.string (mk wh),.bool f,.int .i64 y,.int .i64 0,.int .i64 0] TA (0,0))):=BO HR1.out
  have HBF:Hid (Below p w (((((w1.setCell ⟨p,0,none⟩ (.string (mk wh))).setCell ⟨p,1,none⟩ (.bool f)).setCell ⟨p,2,none⟩ (.int .i64 y)).setCell ⟨p,3,none⟩ (.int .i64 0)).setCell ⟨p,4,none⟩ (.int .i64 0))):=BN HB1.out p (Nat.le_refl _) _ _ _ _ _
  clear hgv HG HS HU
  go_wp2
  clear r0 r1 r2 r3 r4 t0 t1 t2 t3 t4 z0 z1 z2 z3 z4
  generalize (((((w1.setCell ⟨p,0,none⟩ (.string (mk wh))).setCell ⟨p,1,none⟩ (.bool f)).setCell ⟨p,2,none⟩ (.int .i64 y)).setCell ⟨p,3,none⟩ (.int .i64 0)).setCell ⟨p,4,none⟩ (.int .i64 0))=WF at *
  obtain ⟨r0,r1,r2,r3,r4⟩:=cells5 HXF.out
  refine bodyPost_ret (v:=.agg #[.string (mk wh),.bool f,.int .i64 y,.int .i64 0,.int .i64 0]) (by simp [results,Tryz.results131,go_sem,r0,r1,r2,r3,r4]) rfl ?_
  exact ⟨rfl,by first|exact HBF.out|(rw [hp];exact HBF.out)⟩
end Go.Proofs.YtfbfeoplldjbpaaGreatDoor.Ac
end
