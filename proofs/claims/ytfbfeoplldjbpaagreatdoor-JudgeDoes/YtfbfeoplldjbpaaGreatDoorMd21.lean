/-
  Texts put together (merge.py): RTailX, RTailW, JRef.
-/
import Derived.Test.YtfbfeoplldjbpaaGreatDoorMd20
set_option linter.unusedSimpArgs false
set_option linter.unusedVariables false
set_option maxHeartbeats 16000000
set_option maxRecDepth 100000
namespace Go.Proofs.YtfbfeoplldjbpaaGreatDoor
namespace Ri
open Go
def dA (P:Program) (l:List Oper) (Q:Exit->Act->World->Prop) (a0:Act) (B:World->Prop) (F:Nat->(Nat->Value)->World->Prop) (X:(Nat->Bool)->(Nat->Value)->Prop) (s:Nat) (k:Nat) (o:Oper):Prop:=
 ∀(vs:Nat->Value) (w:World) (A:Act) (Cw:Nat->Bool),(∀t:Nat,A.tmps[t]?.getD undef=(puts l 0 vs a0).tmps[t]?.getD undef)->B w->(∀j,Cw j=true->F j vs w)->X Cw vs->(∀j,s<=j->Cw j=false)->Pre F vs w o.after.toList->∀K:Act->World->Prop,(∀v w',B w'->F k (upd vs k v) w'->(∀j,j ≠ k->F j vs w->F j vs w')->X (fun j=>if j=k then true else Cw j) (upd vs k v)->K (A.put o.dst v) w')->o.wp P A w K Q
def aK (P:Program) (l:List Oper) (Q:Exit->Act->World->Prop) (a0:Act) (B:World->Prop) (F:Nat->(Nat->Value)->World->Prop) (X:(Nat->Bool)->(Nat->Value)->Prop) (s:Nat):Nat->List Oper->Prop
 | _,[]=>True
 | k,o :: r=>(o.guard=none/\dA P l Q a0 B F X s k o)/\aK P l Q a0 B F X s (k+1) r
theorem aK.get {P:Program} {l:List Oper} {Q:Exit->Act->World->Prop} {a0:Act} {B:World->Prop} {F:Nat->(Nat->Value)->World->Prop} {X:(Nat->Bool)->(Nat->Value)->Prop} {s:Nat}:∀(r:List Oper) (k i:Nat) (o:Oper),aK P l Q a0 B F X s k r->r[i]?=some o->o.guard=none/\dA P l Q a0 B F X s (k+i) o
 | [],_,_,_,_,h=>by simp at h
 | x :: r,k,0,o,hh,h=>by simp at h;subst h;exact hh.1
 | x :: r,k,i+1,o,hh,h=>by
  simp at h;have:=aK.get r (k+1) i o hh.2 h;rwa [show k+1+i=k+(i+1) by omega] at this
theorem I7 {P:Program} {id:Nat} {l:List Oper} {Q:Exit->Act->World->Prop} {a0:Act} {w0:World} (s:Nat) (hm:P.follows .mixedOrders=true) (hap:gJ l=true) (hbk:gV 0 l=true)
  (hsl:s < l.length) (htl:GU l s=true)
  (B:World->Prop) (F:Nat->(Nat->Value)->World->Prop) (X:(Nat->Bool)->(Nat->Value)->Prop) (deps:Nat->List Nat) (hdp:mX deps 0 l=true)
  (hloc:∀j vs i v w,i ∉ deps j->F j vs w->F j (upd vs i v) w) (h0:B w0.drew) (hX0:∀vs,puts l 0 vs a0=a0->X (fun _=>false) vs) (hop:aK P l Q a0 B F X s 0 (l.take s))
  (hlast:∀(vs:Nat->Value) (w:World) (Cw:Nat->Bool),(∀j,j < s->Cw j=true)->X Cw vs->B w->(∀j,j < s->F j vs w)->Tail P l Q a0 s (l.drop s) vs w) :
  (Code.region id l.toArray true).wp P Q a0 w0:=by
 refine wp_region_any hm (IK (fun listed a w=>listed.size=l.length/\((∀j,listed.getD j false=true->∀d ∈ deps j,listed.getD d false=true)/\∀j o,listed.getD j false=true->l[j]?=some o->∀e ∈ o.after,Region.binds .any e=true->listed.getD e.on false=true)/\∃vs,a=puts l 0 vs a0/\(((∀j,s<=j->listed.getD j false=false)/\X (fun j=>listed.getD j false) vs/\B w/\∀j,listed.getD j false=true->F j vs w) ∨ ∃t,s<=t/\t<=l.length/\(∀j,j < t->listed.getD j false=true)/\(∀j,t<=j->listed.getD j false=false)/\Tail P l Q a0 t (l.drop t) vs w)) ?_ ?_ _ _ _ _ (by rw [zn];exact Nat.le_refl _) ?_)
 ·rintro listed a w ⟨hsz,⟨hcl,hcd⟩,vs,rfl,hcase⟩ i hi;obtain ⟨hni,oi,hoi,hpre⟩:=mem_ready.1 hi;have ho':l[i]?=some oi:=by simpa using hoi
  have hil:i < l.length:=(List.getElem?_eq_some_iff.1 ho').1;have hnf:listed.getD i false=false:=by
   have:i < listed.size:=by omega
   simpa [this] using hni
  have hset:∀j,(listed.setIfInBounds i true).getD j false=true->j=i ∨ listed.getD j false=true:=fun j hj=>by
   by_cases hji:i=j
   ·exact Or.inl hji.symm
   ·rw [getD_set_ne false hji] at hj;exact Or.inr hj
  have hself:(listed.setIfInBounds i true).getD i false=true:=by
   have:i < listed.size:=by omega
   simp [this]
  have hdeps:∀j,(listed.setIfInBounds i true).getD j false=true->∀d ∈ deps j,(listed.setIfInBounds i true).getD d false=true:=fun j hj d hdd=>by
   rcases hset j hj with rfl|hj'
   ·have:=mY deps l 0 j oi hdp ho';rw [Nat.zero_add] at this;rcases this d hdd with rfl|⟨e,he,hb,hde⟩
    ·exact hself
    ·exact getD_set_true (hcl _ (hpre e he hb) d hde)
   ·exact getD_set_true (hcl j hj' d hdd)
  have hcd2:∀j o,(listed.setIfInBounds i true).getD j false=true->l[j]?=some o->∀e ∈ o.after,Region.binds .any e=true->(listed.setIfInBounds i true).getD e.on false=true:=fun j o hj hoj e he hb=>by
   rcases hset j hj with rfl|hj'
   ·obtain rfl:o=oi:=Option.some.inj (hoj.symm.trans ho');exact getD_set_true (hpre e he hb)
   ·exact getD_set_true (hcd j o hj' hoj e he hb)
  have hputs:∀v,(puts l 0 vs a0).put oi.dst v=puts l 0 (upd vs i v) a0:=fun v=>by have:=CP l 0 i oi vs a0 v hap ho';rwa [Nat.zero_add] at this
  have later:s<=i->(∀j,j < i->listed.getD j false=true):=fun hsi j hj=>by
   exact Dp (listed:=fun j=>listed.getD j false=true) hcd j l.length i (fun o ho e he hb=>by
    obtain rfl:o=oi:=Option.some.inj (ho.symm.trans ho');exact hpre e he hb) ((GV htl i oi hsi ho').1 j hj)
  have hdrop:l.drop i=oi :: l.drop (i+1):=by
   rw [List.drop_eq_getElem_cons hil];have:l[i]=oi:=by rw [List.getElem?_eq_getElem hil] at ho';exact Option.some.inj ho'
   rw [this]
  have hd2:(i < s/\(∀j,s<=j->listed.getD j false=false)/\X (fun j=>listed.getD j false) vs/\B w/\∀j,listed.getD j false=true->F j vs w) ∨ (s<=i/\(∀j,i<=j->listed.getD j false=false)/\Tail P l Q a0 i (l.drop i) vs w):=by
   rcases hcase with ⟨hns,hX,hB,hF⟩|⟨t,hst,htl',hlow,hhigh,hT⟩
   ·by_cases his:i < s
    ·exact Or.inl ⟨his,hns,hX,hB,hF⟩
    ·have hsi:s<=i:=by omega
     have hl:=later hsi;have:i=s:=by
      rcases Nat.lt_or_ge s i with h|h
      ·have h1:=hl s h;rw [hns s (Nat.le_refl _)] at h1;cases h1
      ·omega
     subst this;exact Or.inr ⟨Nat.le_refl _,hns,hlast vs w (fun j=>listed.getD j false) (fun j hj=>hl j hj) hX hB fun j hj=>hF j (hl j hj)⟩
   ·have hti:t<=i:=by
     rcases Nat.lt_or_ge i t with h|h
     ·rw [hlow i h] at hnf;cases hnf
     ·exact h
    have hl:=later (by omega);have:i=t:=by
     rcases Nat.lt_or_ge t i with h|h
     ·have h1:=hl t h;rw [hhigh t (Nat.le_refl _)] at h1;cases h1
     ·omega
    subst this;exact Or.inr ⟨hst,hhigh,hT⟩
  rcases hd2 with ⟨his,hns,hX,hB,hF⟩|⟨hsi,hhigh,hT⟩
  ·have hot:(l.take s)[i]?=some oi:=by rw [List.getElem?_take,if_pos his];exact ho'
   obtain ⟨hgd,hst⟩:=aK.get (l.take s) 0 i oi hop hot;rw [Nat.zero_add] at hst;refine wpOp_step hoi fun K hK=>?_;rw [if_pos (by simp [Region.wanted,hgd])];refine hst vs w _ (fun j=>listed.getD j false) (fun _=>rfl) hB hF hX hns (Pre.of _ fun e he hb=>hF _ (hpre e (by simpa using he) hb)) K fun v w' hB' hFi hFj hX'=>hK _ _ ?_;have hfun:(fun j=>(listed.setIfInBounds i true).getD j false)=fun j=>if j=i then true else listed.getD j false:=by
    funext j
    by_cases hji:j=i
    ·subst hji;rw [if_pos rfl];exact hself
    ·rw [if_neg hji,getD_set_ne false (fun e=>hji e.symm)]
   refine ⟨by simp [hsz],⟨hdeps,hcd2⟩,upd vs i v,hputs v,Or.inl ⟨fun j hj=>?_,by rw [hfun];exact hX',hB',fun j hj=>?_⟩⟩
   ·rw [getD_set_ne false (by omega)];exact hns j hj
   ·by_cases hji:j=i
    ·subst hji;exact hFi
    ·rcases hset j hj with h|hj'
     ·exact absurd h hji
     ·refine hloc j vs i v w' (fun hin=>?_) (hFj j hji (hF j hj'));rw [hcl j hj' i hin] at hnf;cases hnf
  ·rw [hdrop] at hT;refine wpOp_step hoi fun K hK=>?_;rw [if_pos (by simp [Region.wanted,(GV htl i oi hsi ho').2])];refine hT _ (fun _=>rfl) K fun v w' hT'=>hK _ _ ?_;refine ⟨by simp [hsz],⟨hdeps,hcd2⟩,upd vs i v,hputs v,Or.inr ⟨i+1,by omega,hil,fun j hj=>?_,fun j hj=>?_,hT'⟩⟩
   ·rcases Nat.lt_or_ge j i with h|h
    ·exact getD_set_true (later hsi j h)
    ·obtain rfl:j=i:=by omega
     exact hself
   ·rw [getD_set_ne false (by omega)];exact hhigh j (by omega)
 ·rintro listed a w ⟨hsz,⟨hcl,hcd⟩,vs,rfl,hcase⟩ hr;have all:∀n,∀j,j < n->j < l.length->listed.getD j false=true:=by
   intro n;induction n with
   | zero=>intro j h;omega
   | succ n ih =>
    intro j hjn hjl;rcases Nat.lt_or_ge j n with h|h
    ·exact ih j h hjl
    obtain rfl:j=n:=by omega
    have hoj:l[j]?=some l[j]:=List.getElem?_eq_getElem hjl;by_cases hc:listed.getD j false=true
    ·exact hc
    ·exfalso;have hjs:j < listed.size:=by omega
     have hmem:j ∈ Region.ready .any l.toArray listed:=mem_ready.2 ⟨by simpa [hjs] using hc,l[j],by simp,fun e he hbe=>by
      have:=gW l 0 j _ hbk hoj e he hbe;exact ih e.on (by omega) (by omega)⟩
     rw [hr] at hmem;cases hmem
  rcases hcase with ⟨hns,hX,hB,hF⟩|⟨t,hst,htl',hlow,hhigh,hT⟩
  ·exfalso;have h1:=all (s+1) s (by omega) hsl;rw [hns s (Nat.le_refl _)] at h1;cases h1
  ·have:t=l.length:=by
    rcases Nat.lt_or_ge t l.length with h|h
    ·have h1:=all (t+1) t (by omega) h;rw [hhigh t (Nat.le_refl _)] at h1;cases h1
    ·omega
   subst this;rw [List.drop_length] at hT;exact hT
 ·obtain ⟨vs,hvs⟩:=CQ l 0 a0;have hno:∀j,(Array.replicate l.toArray.size false).getD j false=false:=fun j=>by
   rw [Array.getD_eq_getD_getElem?,Array.getElem?_replicate];split<;>rfl
  refine ⟨by simp,⟨fun j hj=>?_,fun j o hj=>?_⟩,vs,hvs.symm,Or.inl ⟨fun j _=>hno j,by rw [show (fun j=>(Array.replicate l.toArray.size false).getD j false)=fun _=>false from funext hno];exact hX0 vs hvs,h0,fun j hj=>?_⟩⟩;all_goals
   rw [hno] at hj;cases hj
end Ri
namespace Ri
open Go
def dw (P:Program) (l:List Oper) (Q:Exit->Act->World->Prop) (a0:Act) (B:World->Prop) (F:Nat->(Nat->Value)->World->Prop) (X:(Nat->Bool)->(Nat->Value)->World->Prop) (s:Nat) (k:Nat) (o:Oper):Prop:=
 ∀(vs:Nat->Value) (w:World) (A:Act) (Cw:Nat->Bool),(∀t:Nat,A.tmps[t]?.getD undef=(puts l 0 vs a0).tmps[t]?.getD undef)->B w->(∀j,Cw j=true->F j vs w)->X Cw vs w->(∀j,(j=k ∨ reach l l.length k j=true)->Cw j=false)->Pre F vs w o.after.toList->∀K:Act->World->Prop,(∀v w',B w'->F k (upd vs k v) w'->(∀j,j ≠ k->F j vs w->F j vs w')->X (fun j=>if j=k then true else Cw j) (upd vs k v) w'->K (A.put o.dst v) w')->o.wp P A w K Q
def aJ (P:Program) (l:List Oper) (Q:Exit->Act->World->Prop) (a0:Act) (B:World->Prop) (F:Nat->(Nat->Value)->World->Prop) (X:(Nat->Bool)->(Nat->Value)->World->Prop) (s:Nat):Nat->List Oper->Prop
 | _,[]=>True
 | k,o :: r=>(o.guard=none/\dw P l Q a0 B F X s k o)/\aJ P l Q a0 B F X s (k+1) r
theorem aJ.get {P:Program} {l:List Oper} {Q:Exit->Act->World->Prop} {a0:Act} {B:World->Prop} {F:Nat->(Nat->Value)->World->Prop} {X:(Nat->Bool)->(Nat->Value)->World->Prop} {s:Nat}:∀(r:List Oper) (k i:Nat) (o:Oper),aJ P l Q a0 B F X s k r->r[i]?=some o->o.guard=none/\dw P l Q a0 B F X s (k+i) o
 | [],_,_,_,_,h=>by simp at h
 | x :: r,k,0,o,hh,h=>by simp at h;subst h;exact hh.1
 | x :: r,k,i+1,o,hh,h=>by
  simp at h;have:=aJ.get r (k+1) i o hh.2 h;rwa [show k+1+i=k+(i+1) by omega] at this
theorem I5 {P:Program} {id:Nat} {l:List Oper} {Q:Exit->Act->World->Prop} {a0:Act} {w0:World} (s:Nat) (hm:P.follows .mixedOrders=true) (hap:gJ l=true) (hbk:gV 0 l=true)
  (hsl:s < l.length) (htl:GU l s=true)
  (B:World->Prop) (F:Nat->(Nat->Value)->World->Prop) (X:(Nat->Bool)->(Nat->Value)->World->Prop) (deps:Nat->List Nat) (hdp:mX deps 0 l=true)
  (hloc:∀j vs i v w,i ∉ deps j->F j vs w->F j (upd vs i v) w) (h0:B w0.drew) (hX0:∀vs,puts l 0 vs a0=a0->X (fun _=>false) vs w0.drew) (hop:aJ P l Q a0 B F X s 0 (l.take s))
  (hlast:∀(vs:Nat->Value) (w:World) (Cw:Nat->Bool),(∀j,j < s->Cw j=true)->X Cw vs w->B w->(∀j,j < s->F j vs w)->Tail P l Q a0 s (l.drop s) vs w) :
  (Code.region id l.toArray true).wp P Q a0 w0:=by
 refine wp_region_any hm (IK (fun listed a w=>listed.size=l.length/\((∀j,listed.getD j false=true->∀d ∈ deps j,listed.getD d false=true)/\∀j o,listed.getD j false=true->l[j]?=some o->∀e ∈ o.after,Region.binds .any e=true->listed.getD e.on false=true)/\∃vs,a=puts l 0 vs a0/\(((∀j,s<=j->listed.getD j false=false)/\X (fun j=>listed.getD j false) vs w/\B w/\∀j,listed.getD j false=true->F j vs w) ∨ ∃t,s<=t/\t<=l.length/\(∀j,j < t->listed.getD j false=true)/\(∀j,t<=j->listed.getD j false=false)/\Tail P l Q a0 t (l.drop t) vs w)) ?_ ?_ _ _ _ _ (by rw [zn];exact Nat.le_refl _) ?_)
 ·rintro listed a w ⟨hsz,⟨hcl,hcd⟩,vs,rfl,hcase⟩ i hi;obtain ⟨hni,oi,hoi,hpre⟩:=mem_ready.1 hi;have ho':l[i]?=some oi:=by simpa using hoi
  have hil:i < l.length:=(List.getElem?_eq_some_iff.1 ho').1;have hnf:listed.getD i false=false:=by
   have:i < listed.size:=by omega
   simpa [this] using hni
  have hset:∀j,(listed.setIfInBounds i true).getD j false=true->j=i ∨ listed.getD j false=true:=fun j hj=>by
   by_cases hji:i=j
   ·exact Or.inl hji.symm
   ·rw [getD_set_ne false hji] at hj;exact Or.inr hj
  have hself:(listed.setIfInBounds i true).getD i false=true:=by
   have:i < listed.size:=by omega
   simp [this]
  have hdeps:∀j,(listed.setIfInBounds i true).getD j false=true->∀d ∈ deps j,(listed.setIfInBounds i true).getD d false=true:=fun j hj d hdd=>by
   rcases hset j hj with rfl|hj'
   ·have:=mY deps l 0 j oi hdp ho';rw [Nat.zero_add] at this;rcases this d hdd with rfl|⟨e,he,hb,hde⟩
    ·exact hself
    ·exact getD_set_true (hcl _ (hpre e he hb) d hde)
   ·exact getD_set_true (hcl j hj' d hdd)
  have hcd2:∀j o,(listed.setIfInBounds i true).getD j false=true->l[j]?=some o->∀e ∈ o.after,Region.binds .any e=true->(listed.setIfInBounds i true).getD e.on false=true:=fun j o hj hoj e he hb=>by
   rcases hset j hj with rfl|hj'
   ·obtain rfl:o=oi:=Option.some.inj (hoj.symm.trans ho');exact getD_set_true (hpre e he hb)
   ·exact getD_set_true (hcd j o hj' hoj e he hb)
  have hputs:∀v,(puts l 0 vs a0).put oi.dst v=puts l 0 (upd vs i v) a0:=fun v=>by have:=CP l 0 i oi vs a0 v hap ho';rwa [Nat.zero_add] at this
  have later:s<=i->(∀j,j < i->listed.getD j false=true):=fun hsi j hj=>by
   exact Dp (listed:=fun j=>listed.getD j false=true) hcd j l.length i (fun o ho e he hb=>by
    obtain rfl:o=oi:=Option.some.inj (ho.symm.trans ho');exact hpre e he hb) ((GV htl i oi hsi ho').1 j hj)
  have hdrop:l.drop i=oi :: l.drop (i+1):=by
   rw [List.drop_eq_getElem_cons hil];have:l[i]=oi:=by rw [List.getElem?_eq_getElem hil] at ho';exact Option.some.inj ho'
   rw [this]
  have hd2:(i < s/\(∀j,s<=j->listed.getD j false=false)/\X (fun j=>listed.getD j false) vs w/\B w/\∀j,listed.getD j false=true->F j vs w) ∨ (s<=i/\(∀j,i<=j->listed.getD j false=false)/\Tail P l Q a0 i (l.drop i) vs w):=by
   rcases hcase with ⟨hns,hX,hB,hF⟩|⟨t,hst,htl',hlow,hhigh,hT⟩
   ·by_cases his:i < s
    ·exact Or.inl ⟨his,hns,hX,hB,hF⟩
    ·have hsi:s<=i:=by omega
     have hl:=later hsi;have:i=s:=by
      rcases Nat.lt_or_ge s i with h|h
      ·have h1:=hl s h;rw [hns s (Nat.le_refl _)] at h1;cases h1
      ·omega
     subst this;exact Or.inr ⟨Nat.le_refl _,hns,hlast vs w (fun j=>listed.getD j false) (fun j hj=>hl j hj) hX hB fun j hj=>hF j (hl j hj)⟩
   ·have hti:t<=i:=by
     rcases Nat.lt_or_ge i t with h|h
     ·rw [hlow i h] at hnf;cases hnf
     ·exact h
    have hl:=later (by omega);have:i=t:=by
     rcases Nat.lt_or_ge t i with h|h
     ·have h1:=hl t h;rw [hhigh t (Nat.le_refl _)] at h1;cases h1
     ·omega
    subst this;exact Or.inr ⟨hst,hhigh,hT⟩
  rcases hd2 with ⟨his,hns,hX,hB,hF⟩|⟨hsi,hhigh,hT⟩
  ·have hot:(l.take s)[i]?=some oi:=by rw [List.getElem?_take,if_pos his];exact ho'
   obtain ⟨hgd,hst⟩:=aJ.get (l.take s) 0 i oi hop hot;rw [Nat.zero_add] at hst;refine wpOp_step hoi fun K hK=>?_;rw [if_pos (by simp [Region.wanted,hgd])];refine hst vs w _ (fun j=>listed.getD j false) (fun _=>rfl) hB hF hX (fun j hj=>?_) (Pre.of _ fun e he hb=>hF _ (hpre e (by simpa using he) hb)) K fun v w' hB' hFi hFj hX'=>hK _ _ ?_
   ·cases hlj:listed.getD j false with
    | false=>rfl
    | true =>
     rcases hj with rfl|hj
     ·rw [hlj] at hnf;cases hnf
     have:=Dp (listed:=fun j=>listed.getD j false=true) (l:=l) (fun j o h1 h2 e he hb=>hcd j o h1 h2 e he hb) i l.length j (fun o h2 e he hb=>hcd j o hlj h2 e he hb) hj;rw [this] at hnf;cases hnf
   have hfun:(fun j=>(listed.setIfInBounds i true).getD j false)=fun j=>if j=i then true else listed.getD j false:=by
    funext j
    by_cases hji:j=i
    ·subst hji;rw [if_pos rfl];exact hself
    ·rw [if_neg hji,getD_set_ne false (fun e=>hji e.symm)]
   refine ⟨by simp [hsz],⟨hdeps,hcd2⟩,upd vs i v,hputs v,Or.inl ⟨fun j hj=>?_,by rw [hfun];exact hX',hB',fun j hj=>?_⟩⟩
   ·rw [getD_set_ne false (by omega)];exact hns j hj
   ·by_cases hji:j=i
    ·subst hji;exact hFi
    ·rcases hset j hj with h|hj'
     ·exact absurd h hji
     ·refine hloc j vs i v w' (fun hin=>?_) (hFj j hji (hF j hj'));rw [hcl j hj' i hin] at hnf;cases hnf
  ·rw [hdrop] at hT;refine wpOp_step hoi fun K hK=>?_;rw [if_pos (by simp [Region.wanted,(GV htl i oi hsi ho').2])];refine hT _ (fun _=>rfl) K fun v w' hT'=>hK _ _ ?_;refine ⟨by simp [hsz],⟨hdeps,hcd2⟩,upd vs i v,hputs v,Or.inr ⟨i+1,by omega,hil,fun j hj=>?_,fun j hj=>?_,hT'⟩⟩
   ·rcases Nat.lt_or_ge j i with h|h
    ·exact getD_set_true (later hsi j h)
    ·obtain rfl:j=i:=by omega
     exact hself
   ·rw [getD_set_ne false (by omega)];exact hhigh j (by omega)
 ·rintro listed a w ⟨hsz,⟨hcl,hcd⟩,vs,rfl,hcase⟩ hr;have all:∀n,∀j,j < n->j < l.length->listed.getD j false=true:=by
   intro n;induction n with
   | zero=>intro j h;omega
   | succ n ih =>
    intro j hjn hjl;rcases Nat.lt_or_ge j n with h|h
    ·exact ih j h hjl
    obtain rfl:j=n:=by omega
    have hoj:l[j]?=some l[j]:=List.getElem?_eq_getElem hjl;by_cases hc:listed.getD j false=true
    ·exact hc
    ·exfalso;have hjs:j < listed.size:=by omega
     have hmem:j ∈ Region.ready .any l.toArray listed:=mem_ready.2 ⟨by simpa [hjs] using hc,l[j],by simp,fun e he hbe=>by
      have:=gW l 0 j _ hbk hoj e he hbe;exact ih e.on (by omega) (by omega)⟩
     rw [hr] at hmem;cases hmem
  rcases hcase with ⟨hns,hX,hB,hF⟩|⟨t,hst,htl',hlow,hhigh,hT⟩
  ·exfalso;have h1:=all (s+1) s (by omega) hsl;rw [hns s (Nat.le_refl _)] at h1;cases h1
  ·have:t=l.length:=by
    rcases Nat.lt_or_ge t l.length with h|h
    ·have h1:=all (t+1) t (by omega) h;rw [hhigh t (Nat.le_refl _)] at h1;cases h1
    ·omega
   subst this;rw [List.drop_length] at hT;exact hT
 ·obtain ⟨vs,hvs⟩:=CQ l 0 a0;have hno:∀j,(Array.replicate l.toArray.size false).getD j false=false:=fun j=>by
   rw [Array.getD_eq_getD_getElem?,Array.getElem?_replicate];split<;>rfl
  refine ⟨by simp,⟨fun j hj=>?_,fun j o hj=>?_⟩,vs,hvs.symm,Or.inl ⟨fun j _=>hno j,by rw [show (fun j=>(Array.replicate l.toArray.size false).getD j false)=fun _=>false from funext hno];exact hX0 vs hvs,h0,fun j hj=>?_⟩⟩;all_goals
   rw [hno] at hj;cases hj
end Ri
namespace Ju
open Go.RowKit
open Ac (Row pU dJ dM jF jG DW DU left cu Own tV qL iU jg jf fK)
open Sh (Ot bD bC bK bE EP EW Dt Du member Jj)
open Cm (Ln Cl bH lnv clv bG aC)
def SvV (q:Nat) (E:Int) (V:Ot) (R:List Row) (cs:Value->Array Value) (w:World) (e:Ending) (w':World):Prop:=
 (∃o:Ot,e=.returned (.tuple #[.agg #[iI o.al,iI o.de,iI o.cp,iI o.cn,iI o.plan,iI o.wr,iI o.pr,iI o.deny],iI E])/\(E=0->o=V))/\w.grownBy w' (some q)/\(E=0->∃v',w'.heap[q]?=some (.cells (cs v') 66 (0,0))/\cu (fun b=>b ≠ q) w' v' R)
theorem grown_of {q:Nat} {w w':World} (h:Below w.heap.size w w'):w.grownBy w' (some q):=⟨h.os,h.tape,h.output,h.size,fun k hk _=>h.block k hk⟩
theorem En {q:Nat} {w w':World} {v:Value} {l:List Row} (h:cu (fun b=>b ≠ q) w v l) (hb:Below w.heap.size w w'):cu (fun b=>b ≠ q) w' v l:=h.move ⟨hb.size,fun b hl hk=>⟨hk,hb.block b hl⟩⟩
theorem GH {q:Nat} {E:Int} {V o:Ot} {R r:List Row} {cs:Value->Array Value} {w w':World} {vr:Value} (hq:w.heap[q]?=some (.cells (cs vr) 66 (0,0))) (hr:cu (fun b=>b ≠ q) w vr r) (hb:Below w.heap.size w w') (ho:E=0->o=V) (hR:E=0->R=r) :
  SvV q E V R cs w (.returned (.tuple #[.agg #[iI o.al,iI o.de,iI o.cp,iI o.cn,iI o.plan,iI o.wr,iI o.pr,iI o.deny],iI E])) w':=
 ⟨⟨o,rfl,ho⟩,grown_of hb,fun h=>⟨vr,tV hq hb,by rw [hR h];exact En hr hb⟩⟩
theorem dz {q:Nat} {w W W':World} (h:w.grownBy W (some q)) (hb:Below W.heap.size W W'):w.grownBy W' (some q):=⟨hb.os.trans h.os,hb.tape.trans h.tape,hb.output.trans h.output,Nat.le_trans h.size hb.size,fun k hk hne=>(hb.block k (Nat.lt_of_lt_of_le hk h.size)).trans (h.block k hk hne)⟩
theorem oD {W:World} {k q:Nat} (hne:k ≠ q) (b0 b1 b2 b3 b4 b5 b6 b7:Value):((((((((W.setCell ⟨q,0,none⟩ b0).setCell ⟨q,1,none⟩ b1).setCell ⟨q,2,none⟩ b2).setCell ⟨q,3,none⟩ b3).setCell ⟨q,4,none⟩ b4).setCell ⟨q,5,none⟩ b5).setCell ⟨q,6,none⟩ b6).setCell ⟨q,7,none⟩ b7).heap[k]?=W.heap[k]?:=by
 repeat rw [Below.heap_setCell _ _ _ _ hne]
theorem Ep {B q:Nat} {w:World} {v:Value} {l:List Row} (h:Own B w v l) (hq:q < B):cu (fun b=>b ≠ q) w v l:=Ac.Eo h (fun b hb=>by omega)
theorem Dz (x:Ln) (mx:Value) (why:Int) (w:World) (hm:∃a c,mx=.slice a x.mods.length c) :
  Calls Tryz.prog 45 #[.agg #[sS x.proc,mx,iI x.date,iI x.units,iI x.Av,iI x.prior],iI why] w fun e w'=>e=.returned (.tuple #[.agg #[iI (Du x.Av x.prior why).al,iI (Du x.Av x.prior why).de,iI (Du x.Av x.prior why).cp,iI (Du x.Av x.prior why).cn,iI (Du x.Av x.prior why).plan,iI (Du x.Av x.prior why).wr,iI (Du x.Av x.prior why).pr,iI (Du x.Av x.prior why).deny],iI (Dt x.Av x.prior why)])/\Below w.heap.size w w':=by
 obtain ⟨xa,xc,rfl⟩:=hm;have hbx:Below w.heap.size w ((w.alloc (.cells #[sS x.proc,.slice xa x.mods.length xc,iI x.date,iI x.units,iI x.Av,iI x.prior] 48)).alloc (.cells #[iI 0,iI 0,iI 0,iI 0,iI 0,iI 0,iI 0,iI 0] 45)):=jg (iU _ _) (iU _ _);have hz1:=tV (fK w #[sS x.proc,.slice xa x.mods.length xc,iI x.date,iI x.units,iI x.Av,iI x.prior] 48) (iU _ (.cells #[iI 0,iI 0,iI 0,iI 0,iI 0,iI 0,iI 0,iI 0] 45));have hz2:=fK (w.alloc (.cells #[sS x.proc,.slice xa x.mods.length xc,iI x.date,iI x.units,iI x.Av,iI x.prior] 48)) #[iI 0,iI 0,iI 0,iI 0,iI 0,iI 0,iI 0,iI 0] 45;rw [show (w.alloc (.cells #[sS x.proc,.slice xa x.mods.length xc,iI x.date,iI x.units,iI x.Av,iI x.prior] 48)).heap.size=w.heap.size+1 by simp] at hz2;have HX:=zZ hz1;have HY:=zZ hz2;have HB0:=zZ hbx;have HR:=zZ fun W=>Sh.Dz x.Av x.prior why W;generalize Du x.Av x.prior why=V at *;generalize Dt x.Av x.prior why=E at *;clear hbx hz1 hz2;go_enter Tryz.func45,Tryz.ntmps45
 go_upto_region 1 with fail
 generalize ((w.alloc (.cells #[sS x.proc,.slice xa x.mods.length xc,iI x.date,iI x.units,iI x.Av,iI x.prior] 48)).alloc (.cells #[iI 0,iI 0,iI 0,iI 0,iI 0,iI 0,iI 0,iI 0] 45))=W at *;generalize hp:w.heap.size=p at *;obtain ⟨u,hu⟩:∃u,u=p+1:=⟨_,rfl⟩;have HU:Hid (p<=u):=by show p<=u;omega
 rw [←hu] at HY ⊢;clear hu;obtain ⟨x0,x1,x2,x3,x4,x5⟩:=Pl.jU HX.out;go_wp2_with fail
 try (go_at_call 82)
 refine (HR.out W).mono ?_;rintro e w1 ⟨rfl,hb1⟩;have HB1:=zZ (jf hp HB0.out hb1);have HY1:=zZ (tV HY.out hb1);clear x0 x1 x2 x3 x4 x5 hb1 HX HY HB0 HR;obtain ⟨b0,b1,b2,b3,b4,b5,b6,b7⟩:=Sh.eight HY1.out;obtain ⟨f0,f1,f2,f3,f4,f5,f6,f7⟩:=Sh.frz HY1.out;go_wp2;clear b0 b1 b2 b3 b4 b5 b6 b7 f0 f1 f2 f3 f4 f5 f6 f7;generalize Cg:((((((((w1.setCell ⟨u,0,none⟩ (iI V.al)).setCell ⟨u,1,none⟩ (iI V.de)).setCell ⟨u,2,none⟩ (iI V.cp)).setCell ⟨u,3,none⟩ (iI V.cn)).setCell ⟨u,4,none⟩ (iI V.plan)).setCell ⟨u,5,none⟩ (iI V.wr)).setCell ⟨u,6,none⟩ (iI V.pr)).setCell ⟨u,7,none⟩ (iI V.deny))=WF at *;have Cy:Hid (WF.heap[u]?=some (.cells #[iI V.al,iI V.de,iI V.cp,iI V.cn,iI V.plan,iI V.wr,iI V.pr,iI V.deny] 45 (0,0))):=by rw [←Cg];exact Sh.BR HY1.out
 have Cq:Hid (Below p w WF):=by rw [←Cg];exact Sh.BP HB1.out u HU.out _ _ _ _ _ _ _ _
 clear Cg;obtain ⟨b0,b1,b2,b3,b4,b5,b6,b7⟩:=Sh.eight Cy.out;refine bodyPost_ret (v:=.tuple #[.agg #[iI V.al,iI V.de,iI V.cp,iI V.cn,iI V.plan,iI V.wr,iI V.pr,iI V.deny],iI E]) (by simp [results,Tryz.results45,go_sem,b0,b1,b2,b3,b4,b5,b6,b7]) rfl ?_;exact ⟨rfl,by first|exact Cq.out|(rw [hp];exact Cq.out)⟩
end Ju
end Go.Proofs.YtfbfeoplldjbpaaGreatDoor
