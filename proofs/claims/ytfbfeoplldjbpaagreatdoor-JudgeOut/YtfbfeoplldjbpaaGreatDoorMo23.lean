/-
  Texts put together (merge.py): HSettle, RTail, RTailX, RTailW.
-/
import Derived.Test.YtfbfeoplldjbpaaGreatDoorMo22
import Derived.Test.YtfbfeoplldjbpaaGreatDoorMo9
set_option linter.unusedSimpArgs false
set_option linter.unusedVariables false
set_option maxHeartbeats 16000000
set_option maxRecDepth 100000
section
namespace Go.Proofs.YtfbfeoplldjbpaaGreatDoor.Sh
open Go.RowKit
theorem six (bi al pr de cp cn:Int):[bi,al,pr,de,cp,cn].all Ce.good=FM bi al pr de cp cn:=by simp [FM]
theorem FN {bi al pr de cp cn:Int} (h:[bi,al,pr,de,cp,cn].all Ce.good=true):(0<=bi/\bi<=10000000000000)/\(0<=al/\al<=10000000000000)/\(0<=pr/\pr<=10000000000000)/\(0<=de/\de<=10000000000000)/\(0<=cp/\cp<=10000000000000)/\(0<=cn/\cn<=10000000000000):=by
 simp only [List.all_cons,List.all_nil,Bool.and_true,Bool.and_eq_true,Ce.ql] at h
 exact h
theorem Fj {bi al pr de cp cn E:Int} (h:EP bi al pr de cp cn=E) (hE:E ≠ 0):EW bi al pr de cp cn=ot0:=by unfold EW;rw [h,if_neg hE]
theorem ER {bi al pr de cp cn:Int} (h:[bi,al,pr,de,cp,cn].all Ce.good=false):EP bi al pr de cp cn=1:=by unfold EP;rw [←six,h];rfl
theorem EU {bi al pr de cp cn:Int} (h:[bi,al,pr,de,cp,cn].all Ce.good=true) (h2:bi < al ∨ bi < pr ∨ al < de+cp+cn):EP bi al pr de cp cn=3:=by
 unfold EP
 rw [←six,if_pos h,if_neg]
 simp only [pF,Bool.and_eq_true,decide_eq_true_eq]
 omega
theorem ET {bi al pr de cp cn:Int} (h:[bi,al,pr,de,cp,cn].all Ce.good=true) (h1:¬ bi < al) (h2:¬ bi < pr) (h3:¬ al < de+cp+cn):EP bi al pr de cp cn=0:=by
 unfold EP
 rw [←six,if_pos h,if_pos]
 simp only [pF,Bool.and_eq_true,decide_eq_true_eq]
 omega
theorem DR (al pr:Int):max (al - pr) 0=rest al pr:=by unfold rest;split<;>omega
theorem FD (bi al pr de cp cn:Int) (w:World) :
  Calls Tryz.prog 91 #[.int .i64 bi,.int .i64 al,.int .i64 pr,.int .i64 de,.int .i64 cp,.int .i64 cn] w fun e w'=>e=.returned (.tuple #[.agg #[.int .i64 (EW bi al pr de cp cn).al,.int .i64 (EW bi al pr de cp cn).de,.int .i64 (EW bi al pr de cp cn).cp,.int .i64 (EW bi al pr de cp cn).cn,.int .i64 (EW bi al pr de cp cn).plan,.int .i64 (EW bi al pr de cp cn).wr,.int .i64 (EW bi al pr de cp cn).pr,.int .i64 (EW bi al pr de cp cn).deny],.int .i64 (EP bi al pr de cp cn)])/\Below w.heap.size w w':=by
 cases hAll:[bi,al,pr,de,cp,cn].all Ce.good
 ·have e:=ER hAll
  rw [Fj e (by decide),e]
  exact EY bi al pr de cp cn w hAll
 obtain ⟨⟨a0,a1⟩,⟨b0,b1⟩,⟨c0',c1⟩,⟨e0,e1⟩,⟨f0,f1⟩,⟨g0,g1⟩⟩:=FN hAll
 by_cases h1:bi < al
 ·have e:=EU hAll (Or.inl h1)
  rw [Fj e (by decide),e]
  exact E5 bi al pr de cp cn w a0 a1 b0 b1 c0' c1 e0 e1 f0 f1 g0 g1 hAll h1
 by_cases h2:bi < pr
 ·have e:=EU hAll (Or.inr (Or.inl h2))
  rw [Fj e (by decide),e]
  exact E8 bi al pr de cp cn w a0 a1 b0 b1 c0' c1 e0 e1 f0 f1 g0 g1 hAll h1 h2
 by_cases h3:al < de+cp+cn
 ·have e:=EU hAll (Or.inr (Or.inr h3))
  rw [Fj e (by decide),e]
  exact Fa bi al pr de cp cn w a0 a1 b0 b1 c0' c1 e0 e1 f0 f1 g0 g1 hAll h1 h2 h3
 have e:=ET hAll h1 h2 h3
 obtain ⟨r0,r1,r2,q0,q1,q2,q3,q4,q5,q6,q7⟩:=Fg e
 have ev:EW bi al pr de cp cn=⟨al,sD al pr de cp cn,sC al pr de cp cn,sK al pr de cp cn,sP al pr de cp cn,bi - pr - sP al pr de cp cn - sD al pr de cp cn - sC al pr de cp cn - sK al pr de cp cn,pr,0⟩:=by unfold EW;rw [if_pos e]
 rw [ev,e]
 have x0:least (al - de - cp - cn) (rest al pr)=sP al pr de cp cn:=rfl
 have x1:least de (rest al pr - sP al pr de cp cn)=sD al pr de cp cn:=rfl
 have x2:least cp (rest al pr - sP al pr de cp cn - sD al pr de cp cn)=sC al pr de cp cn:=rfl
 have x3:least cn (rest al pr - sP al pr de cp cn - sD al pr de cp cn - sC al pr de cp cn)=sK al pr de cp cn:=rfl
 clear ev
 have k1':sD al pr de cp cn<=10000000000000:=by omega
 have k2':sC al pr de cp cn<=10000000000000:=by omega
 have k3':sK al pr de cp cn<=10000000000000:=by omega
 have HR:Hid (max (al - pr) 0=rest al pr):=DR al pr
 have HM:Hid (∀w:World,Calls Tryz.prog 135 #[.agg #[.int .i64 al,.int .i64 (sD al pr de cp cn),.int .i64 (sC al pr de cp cn),.int .i64 (sK al pr de cp cn),.int .i64 (sP al pr de cp cn),.int .i64 0,.int .i64 pr,.int .i64 0]] w fun e w'=>e=.returned (.int .i64 (sD al pr de cp cn+sC al pr de cp cn+sK al pr de cp cn))/\Below w.heap.size w w'):=fun w=>xu ⟨al,sD al pr de cp cn,sC al pr de cp cn,sK al pr de cp cn,sP al pr de cp cn,0,pr,0⟩ w q1 k1' q2 k2' q3 k3'
 generalize sP al pr de cp cn=P at *
 generalize sD al pr de cp cn=D at *
 generalize sC al pr de cp cn=C at *
 generalize sK al pr de cp cn=K at *
 generalize rest al pr=R at *
 rw [show bi - pr - P - D - C - K=bi - pr - P - (D+C+K) by omega]
 rw [show al - de - cp - cn=al - (de+cp+cn) by omega] at x0
 exact EX bi al pr de cp cn w a0 a1 b0 b1 c0' c1 e0 e1 f0 f1 g0 g1 hAll h1 h2 h3 R P D C K (D+C+K) (R - P) (R - P - D) (R - P - D - C) (R - P - D - C - K) HR (Lib.hid ⟨by omega,by omega,by omega,by omega,x0,rfl⟩) (Lib.hid ⟨by omega,by omega,by omega,by omega,x1,rfl⟩) (Lib.hid ⟨by omega,by omega,by omega,by omega,x2,rfl⟩) (Lib.hid ⟨by omega,by omega,by omega,by omega,x3,rfl⟩) HM (by omega) (by omega) (by omega) (by omega)
end Go.Proofs.YtfbfeoplldjbpaaGreatDoor.Sh
end
section
namespace Go.Proofs.YtfbfeoplldjbpaaGreatDoor.Ri
open Go
def reach (l:List Oper):Nat->Nat->Nat->Bool
 | 0,_,_=>false
 | f+1,k,t=>match l[t]? with
  | none=>false
  | some o=>(o.after.any fun e=>Region.binds .any e && e.on == k) || (o.after.any fun e=>Region.binds .any e && reach l f k e.on)
theorem Dp {l:List Oper} {listed:Nat->Prop} (hcl:∀j o,listed j->l[j]?=some o->∀e ∈ o.after,Region.binds .any e=true->listed e.on) (k:Nat) :
  ∀(f t:Nat),(∀o,l[t]?=some o->∀e ∈ o.after,Region.binds .any e=true->listed e.on)->reach l f k t=true->listed k:=by
 intro f
 induction f with
 | zero=>intro t _ h;cases h
 | succ f ih =>
  intro t hp h
  unfold reach at h
  split at h
  ·cases h
  ·next o ho =>
   simp only [Bool.or_eq_true,Array.any_eq_true',Bool.and_eq_true,beq_iff_eq] at h
   rcases h with ⟨e,he,hb,rfl⟩|⟨e,he,hb,hr⟩
   ·exact hp o ho e he hb
   ·exact ih e.on (fun o' ho' e' he' hb'=>hcl e.on o' (hp o ho e he hb) ho' e' he' hb') hr
def GU (l:List Oper) (s:Nat):Bool:=(List.range l.length).all fun t=>decide (t < s) || (((List.range t).all fun k=>reach l l.length k t) && ((l[t]?).bind (·.guard)).isNone)
theorem GV {l:List Oper} {s:Nat} (h:GU l s=true) (t:Nat) (o:Oper) (hst:s<=t) (ho:l[t]?=some o):(∀k,k < t->reach l l.length k t=true)/\o.guard=none:=by
 unfold GU at h
 have:=List.all_eq_true.1 h t (List.mem_range.2 (List.getElem?_eq_some_iff.1 ho).1)
 rw [decide_eq_false (by omega),Bool.false_or,Bool.and_eq_true,ho] at this
 exact ⟨fun k hk=>List.all_eq_true.1 this.1 k (List.mem_range.2 hk),Option.isNone_iff_eq_none.1 this.2⟩
def Tail (P:Program) (l:List Oper) (Q:Exit->Act->World->Prop) (a0:Act):Nat->List Oper->(Nat->Value)->World->Prop
 | _,[],vs,w=>Q .normal (puts l 0 vs a0) w
 | t,o :: r,vs,w=>∀(A:Act),(∀t:Nat,A.tmps[t]?.getD undef=(puts l 0 vs a0).tmps[t]?.getD undef)->∀K:Act->World->Prop,(∀v w',Tail P l Q a0 (t+1) r (upd vs t v) w'->K (A.put o.dst v) w')->o.wp P A w K Q
end Go.Proofs.YtfbfeoplldjbpaaGreatDoor.Ri
end
section
namespace Go.Proofs.YtfbfeoplldjbpaaGreatDoor.Ri
open Go
def dA (P:Program) (l:List Oper) (Q:Exit->Act->World->Prop) (a0:Act) (B:World->Prop) (F:Nat->(Nat->Value)->World->Prop) (X:(Nat->Bool)->(Nat->Value)->Prop) (s:Nat) (k:Nat) (o:Oper):Prop:=
 ∀(vs:Nat->Value) (w:World) (A:Act) (lst:Nat->Bool),(∀t:Nat,A.tmps[t]?.getD undef=(puts l 0 vs a0).tmps[t]?.getD undef)->B w->(∀j,lst j=true->F j vs w)->X lst vs->(∀j,s<=j->lst j=false)->Pre F vs w o.after.toList->∀K:Act->World->Prop,(∀v w',B w'->F k (upd vs k v) w'->(∀j,j ≠ k->F j vs w->F j vs w')->X (fun j=>if j=k then true else lst j) (upd vs k v)->K (A.put o.dst v) w')->o.wp P A w K Q
def aK (P:Program) (l:List Oper) (Q:Exit->Act->World->Prop) (a0:Act) (B:World->Prop) (F:Nat->(Nat->Value)->World->Prop) (X:(Nat->Bool)->(Nat->Value)->Prop) (s:Nat):Nat->List Oper->Prop
 | _,[]=>True
 | k,o :: r=>(o.guard=none/\dA P l Q a0 B F X s k o)/\aK P l Q a0 B F X s (k+1) r
theorem aK.get {P:Program} {l:List Oper} {Q:Exit->Act->World->Prop} {a0:Act} {B:World->Prop} {F:Nat->(Nat->Value)->World->Prop} {X:(Nat->Bool)->(Nat->Value)->Prop} {s:Nat}:∀(r:List Oper) (k i:Nat) (o:Oper),aK P l Q a0 B F X s k r->r[i]?=some o->o.guard=none/\dA P l Q a0 B F X s (k+i) o
 | [],_,_,_,_,h=>by simp at h
 | x :: r,k,0,o,hh,h=>by simp at h;subst h;exact hh.1
 | x :: r,k,i+1,o,hh,h=>by
  simp at h
  have:=aK.get r (k+1) i o hh.2 h
  rwa [show k+1+i=k+(i+1) by omega] at this
theorem I7 {P:Program} {id:Nat} {l:List Oper} {Q:Exit->Act->World->Prop} {a0:Act} {w0:World} (s:Nat) (hm:P.follows .mixedOrders=true) (hap:gJ l=true) (hbk:gV 0 l=true)
  (hsl:s < l.length) (htl:GU l s=true)
  (B:World->Prop) (F:Nat->(Nat->Value)->World->Prop) (X:(Nat->Bool)->(Nat->Value)->Prop) (deps:Nat->List Nat) (hdp:mX deps 0 l=true)
  (hloc:∀j vs i v w,i ∉ deps j->F j vs w->F j (upd vs i v) w) (h0:B w0.drew) (hX0:∀vs,puts l 0 vs a0=a0->X (fun _=>false) vs) (hop:aK P l Q a0 B F X s 0 (l.take s))
  (hlast:∀(vs:Nat->Value) (w:World) (lst:Nat->Bool),(∀j,j < s->lst j=true)->X lst vs->B w->(∀j,j < s->F j vs w)->Tail P l Q a0 s (l.drop s) vs w) :
  (Code.region id l.toArray true).wp P Q a0 w0:=by
 refine wp_region_any hm (IK (fun listed a w=>listed.size=l.length/\((∀j,listed.getD j false=true->∀d ∈ deps j,listed.getD d false=true)/\∀j o,listed.getD j false=true->l[j]?=some o->∀e ∈ o.after,Region.binds .any e=true->listed.getD e.on false=true)/\∃vs,a=puts l 0 vs a0/\(((∀j,s<=j->listed.getD j false=false)/\X (fun j=>listed.getD j false) vs/\B w/\∀j,listed.getD j false=true->F j vs w) ∨ ∃t,s<=t/\t<=l.length/\(∀j,j < t->listed.getD j false=true)/\(∀j,t<=j->listed.getD j false=false)/\Tail P l Q a0 t (l.drop t) vs w)) ?_ ?_ _ _ _ _ (by rw [zn];exact Nat.le_refl _) ?_)
 ·rintro listed a w ⟨hsz,⟨hcl,hcd⟩,vs,rfl,hcase⟩ i hi
  obtain ⟨hni,oi,hoi,hpre⟩:=mem_ready.1 hi
  have ho':l[i]?=some oi:=by simpa using hoi
  have hil:i < l.length:=(List.getElem?_eq_some_iff.1 ho').1
  have hnf:listed.getD i false=false:=by
   have:i < listed.size:=by omega
   simpa [this] using hni
  have hset:∀j,(listed.setIfInBounds i true).getD j false=true->j=i ∨ listed.getD j false=true:=fun j hj=>by
   by_cases hji:i=j
   ·exact Or.inl hji.symm
   ·rw [getD_set_ne false hji] at hj;exact Or.inr hj
  have hself:(listed.setIfInBounds i true).getD i false=true:=by
   have:i < listed.size:=by omega
   simp [this]
  have hdeps:∀j,(listed.setIfInBounds i true).getD j false=true->∀d ∈ deps j,(listed.setIfInBounds i true).getD d false=true:=fun j hj d hdd=>by
   rcases hset j hj with rfl|hj'
   ·have:=mY deps l 0 j oi hdp ho'
    rw [Nat.zero_add] at this
    rcases this d hdd with rfl|⟨e,he,hb,hde⟩
    ·exact hself
    ·exact getD_set_true (hcl _ (hpre e he hb) d hde)
   ·exact getD_set_true (hcl j hj' d hdd)
  have hcd2:∀j o,(listed.setIfInBounds i true).getD j false=true->l[j]?=some o->∀e ∈ o.after,Region.binds .any e=true->(listed.setIfInBounds i true).getD e.on false=true:=fun j o hj hoj e he hb=>by
   rcases hset j hj with rfl|hj'
   ·obtain rfl:o=oi:=Option.some.inj (hoj.symm.trans ho')
    exact getD_set_true (hpre e he hb)
   ·exact getD_set_true (hcd j o hj' hoj e he hb)
  have hputs:∀v,(puts l 0 vs a0).put oi.dst v=puts l 0 (upd vs i v) a0:=fun v=>by have:=CP l 0 i oi vs a0 v hap ho';rwa [Nat.zero_add] at this
  have later:s<=i->(∀j,j < i->listed.getD j false=true):=fun hsi j hj=>by
   exact Dp (listed:=fun j=>listed.getD j false=true) hcd j l.length i (fun o ho e he hb=>by
    obtain rfl:o=oi:=Option.some.inj (ho.symm.trans ho')
    exact hpre e he hb) ((GV htl i oi hsi ho').1 j hj)
  have hdrop:l.drop i=oi :: l.drop (i+1):=by
   rw [List.drop_eq_getElem_cons hil]
   have:l[i]=oi:=by rw [List.getElem?_eq_getElem hil] at ho';exact Option.some.inj ho'
   rw [this]
  have hd2:(i < s/\(∀j,s<=j->listed.getD j false=false)/\X (fun j=>listed.getD j false) vs/\B w/\∀j,listed.getD j false=true->F j vs w) ∨ (s<=i/\(∀j,i<=j->listed.getD j false=false)/\Tail P l Q a0 i (l.drop i) vs w):=by
   rcases hcase with ⟨hns,hX,hB,hF⟩|⟨t,hst,htl',hlow,hhigh,hT⟩
   ·by_cases his:i < s
    ·exact Or.inl ⟨his,hns,hX,hB,hF⟩
    ·have hsi:s<=i:=by omega
     have hl:=later hsi
     have:i=s:=by
      rcases Nat.lt_or_ge s i with h|h
      ·have h1:=hl s h;rw [hns s (Nat.le_refl _)] at h1;cases h1
      ·omega
     subst this
     exact Or.inr ⟨Nat.le_refl _,hns,hlast vs w (fun j=>listed.getD j false) (fun j hj=>hl j hj) hX hB fun j hj=>hF j (hl j hj)⟩
   ·have hti:t<=i:=by
     rcases Nat.lt_or_ge i t with h|h
     ·rw [hlow i h] at hnf;cases hnf
     ·exact h
    have hl:=later (by omega)
    have:i=t:=by
     rcases Nat.lt_or_ge t i with h|h
     ·have h1:=hl t h;rw [hhigh t (Nat.le_refl _)] at h1;cases h1
     ·omega
    subst this
    exact Or.inr ⟨hst,hhigh,hT⟩
  rcases hd2 with ⟨his,hns,hX,hB,hF⟩|⟨hsi,hhigh,hT⟩
  ·have hot:(l.take s)[i]?=some oi:=by rw [List.getElem?_take,if_pos his];exact ho'
   obtain ⟨hgd,hst⟩:=aK.get (l.take s) 0 i oi hop hot
   rw [Nat.zero_add] at hst
   refine wpOp_step hoi fun K hK=>?_
   rw [if_pos (by simp [Region.wanted,hgd])]
   refine hst vs w _ (fun j=>listed.getD j false) (fun _=>rfl) hB hF hX hns (Pre.of _ fun e he hb=>hF _ (hpre e (by simpa using he) hb)) K fun v w' hB' hFi hFj hX'=>hK _ _ ?_
   have hfun:(fun j=>(listed.setIfInBounds i true).getD j false)=fun j=>if j=i then true else listed.getD j false:=by
    funext j
    by_cases hji:j=i
    ·subst hji;rw [if_pos rfl];exact hself
    ·rw [if_neg hji,getD_set_ne false (fun e=>hji e.symm)]
   refine ⟨by simp [hsz],⟨hdeps,hcd2⟩,upd vs i v,hputs v,Or.inl ⟨fun j hj=>?_,by rw [hfun];exact hX',hB',fun j hj=>?_⟩⟩
   ·rw [getD_set_ne false (by omega)];exact hns j hj
   ·by_cases hji:j=i
    ·subst hji;exact hFi
    ·rcases hset j hj with h|hj'
     ·exact absurd h hji
     ·refine hloc j vs i v w' (fun hin=>?_) (hFj j hji (hF j hj'))
      rw [hcl j hj' i hin] at hnf
      cases hnf
  ·rw [hdrop] at hT
   refine wpOp_step hoi fun K hK=>?_
   rw [if_pos (by simp [Region.wanted,(GV htl i oi hsi ho').2])]
   refine hT _ (fun _=>rfl) K fun v w' hT'=>hK _ _ ?_
   refine ⟨by simp [hsz],⟨hdeps,hcd2⟩,upd vs i v,hputs v,Or.inr ⟨i+1,by omega,hil,fun j hj=>?_,fun j hj=>?_,hT'⟩⟩
   ·rcases Nat.lt_or_ge j i with h|h
    ·exact getD_set_true (later hsi j h)
    ·obtain rfl:j=i:=by omega
     exact hself
   ·rw [getD_set_ne false (by omega)];exact hhigh j (by omega)
 ·rintro listed a w ⟨hsz,⟨hcl,hcd⟩,vs,rfl,hcase⟩ hr
  have all:∀n,∀j,j < n->j < l.length->listed.getD j false=true:=by
   intro n
   induction n with
   | zero=>intro j h;omega
   | succ n ih =>
    intro j hjn hjl
    rcases Nat.lt_or_ge j n with h|h
    ·exact ih j h hjl
    obtain rfl:j=n:=by omega
    have hoj:l[j]?=some l[j]:=List.getElem?_eq_getElem hjl
    by_cases hc:listed.getD j false=true
    ·exact hc
    ·exfalso
     have hjs:j < listed.size:=by omega
     have hmem:j ∈ Region.ready .any l.toArray listed:=mem_ready.2 ⟨by simpa [hjs] using hc,l[j],by simp,fun e he hbe=>by
      have:=gW l 0 j _ hbk hoj e he hbe
      exact ih e.on (by omega) (by omega)⟩
     rw [hr] at hmem
     cases hmem
  rcases hcase with ⟨hns,hX,hB,hF⟩|⟨t,hst,htl',hlow,hhigh,hT⟩
  ·exfalso
   have h1:=all (s+1) s (by omega) hsl
   rw [hns s (Nat.le_refl _)] at h1
   cases h1
  ·have:t=l.length:=by
    rcases Nat.lt_or_ge t l.length with h|h
    ·have h1:=all (t+1) t (by omega) h
     rw [hhigh t (Nat.le_refl _)] at h1
     cases h1
    ·omega
   subst this
   rw [List.drop_length] at hT
   exact hT
 ·obtain ⟨vs,hvs⟩:=CQ l 0 a0
  have hno:∀j,(Array.replicate l.toArray.size false).getD j false=false:=fun j=>by
   rw [Array.getD_eq_getD_getElem?,Array.getElem?_replicate]
   split<;>rfl
  refine ⟨by simp,⟨fun j hj=>?_,fun j o hj=>?_⟩,vs,hvs.symm,Or.inl ⟨fun j _=>hno j,by rw [show (fun j=>(Array.replicate l.toArray.size false).getD j false)=fun _=>false from funext hno];exact hX0 vs hvs,h0,fun j hj=>?_⟩⟩
  all_goals
   rw [hno] at hj
   cases hj
end Go.Proofs.YtfbfeoplldjbpaaGreatDoor.Ri
end
section
namespace Go.Proofs.YtfbfeoplldjbpaaGreatDoor.Ri
open Go
def dw (P:Program) (l:List Oper) (Q:Exit->Act->World->Prop) (a0:Act) (B:World->Prop) (F:Nat->(Nat->Value)->World->Prop) (X:(Nat->Bool)->(Nat->Value)->World->Prop) (s:Nat) (k:Nat) (o:Oper):Prop:=
 ∀(vs:Nat->Value) (w:World) (A:Act) (lst:Nat->Bool),(∀t:Nat,A.tmps[t]?.getD undef=(puts l 0 vs a0).tmps[t]?.getD undef)->B w->(∀j,lst j=true->F j vs w)->X lst vs w->(∀j,(j=k ∨ reach l l.length k j=true)->lst j=false)->Pre F vs w o.after.toList->∀K:Act->World->Prop,(∀v w',B w'->F k (upd vs k v) w'->(∀j,j ≠ k->F j vs w->F j vs w')->X (fun j=>if j=k then true else lst j) (upd vs k v) w'->K (A.put o.dst v) w')->o.wp P A w K Q
def aJ (P:Program) (l:List Oper) (Q:Exit->Act->World->Prop) (a0:Act) (B:World->Prop) (F:Nat->(Nat->Value)->World->Prop) (X:(Nat->Bool)->(Nat->Value)->World->Prop) (s:Nat):Nat->List Oper->Prop
 | _,[]=>True
 | k,o :: r=>(o.guard=none/\dw P l Q a0 B F X s k o)/\aJ P l Q a0 B F X s (k+1) r
theorem aJ.get {P:Program} {l:List Oper} {Q:Exit->Act->World->Prop} {a0:Act} {B:World->Prop} {F:Nat->(Nat->Value)->World->Prop} {X:(Nat->Bool)->(Nat->Value)->World->Prop} {s:Nat}:∀(r:List Oper) (k i:Nat) (o:Oper),aJ P l Q a0 B F X s k r->r[i]?=some o->o.guard=none/\dw P l Q a0 B F X s (k+i) o
 | [],_,_,_,_,h=>by simp at h
 | x :: r,k,0,o,hh,h=>by simp at h;subst h;exact hh.1
 | x :: r,k,i+1,o,hh,h=>by
  simp at h
  have:=aJ.get r (k+1) i o hh.2 h
  rwa [show k+1+i=k+(i+1) by omega] at this
theorem I5 {P:Program} {id:Nat} {l:List Oper} {Q:Exit->Act->World->Prop} {a0:Act} {w0:World} (s:Nat) (hm:P.follows .mixedOrders=true) (hap:gJ l=true) (hbk:gV 0 l=true)
  (hsl:s < l.length) (htl:GU l s=true)
  (B:World->Prop) (F:Nat->(Nat->Value)->World->Prop) (X:(Nat->Bool)->(Nat->Value)->World->Prop) (deps:Nat->List Nat) (hdp:mX deps 0 l=true)
  (hloc:∀j vs i v w,i ∉ deps j->F j vs w->F j (upd vs i v) w) (h0:B w0.drew) (hX0:∀vs,puts l 0 vs a0=a0->X (fun _=>false) vs w0.drew) (hop:aJ P l Q a0 B F X s 0 (l.take s))
  (hlast:∀(vs:Nat->Value) (w:World) (lst:Nat->Bool),(∀j,j < s->lst j=true)->X lst vs w->B w->(∀j,j < s->F j vs w)->Tail P l Q a0 s (l.drop s) vs w) :
  (Code.region id l.toArray true).wp P Q a0 w0:=by
 refine wp_region_any hm (IK (fun listed a w=>listed.size=l.length/\((∀j,listed.getD j false=true->∀d ∈ deps j,listed.getD d false=true)/\∀j o,listed.getD j false=true->l[j]?=some o->∀e ∈ o.after,Region.binds .any e=true->listed.getD e.on false=true)/\∃vs,a=puts l 0 vs a0/\(((∀j,s<=j->listed.getD j false=false)/\X (fun j=>listed.getD j false) vs w/\B w/\∀j,listed.getD j false=true->F j vs w) ∨ ∃t,s<=t/\t<=l.length/\(∀j,j < t->listed.getD j false=true)/\(∀j,t<=j->listed.getD j false=false)/\Tail P l Q a0 t (l.drop t) vs w)) ?_ ?_ _ _ _ _ (by rw [zn];exact Nat.le_refl _) ?_)
 ·rintro listed a w ⟨hsz,⟨hcl,hcd⟩,vs,rfl,hcase⟩ i hi
  obtain ⟨hni,oi,hoi,hpre⟩:=mem_ready.1 hi
  have ho':l[i]?=some oi:=by simpa using hoi
  have hil:i < l.length:=(List.getElem?_eq_some_iff.1 ho').1
  have hnf:listed.getD i false=false:=by
   have:i < listed.size:=by omega
   simpa [this] using hni
  have hset:∀j,(listed.setIfInBounds i true).getD j false=true->j=i ∨ listed.getD j false=true:=fun j hj=>by
   by_cases hji:i=j
   ·exact Or.inl hji.symm
   ·rw [getD_set_ne false hji] at hj;exact Or.inr hj
  have hself:(listed.setIfInBounds i true).getD i false=true:=by
   have:i < listed.size:=by omega
   simp [this]
  have hdeps:∀j,(listed.setIfInBounds i true).getD j false=true->∀d ∈ deps j,(listed.setIfInBounds i true).getD d false=true:=fun j hj d hdd=>by
   rcases hset j hj with rfl|hj'
   ·have:=mY deps l 0 j oi hdp ho'
    rw [Nat.zero_add] at this
    rcases this d hdd with rfl|⟨e,he,hb,hde⟩
    ·exact hself
    ·exact getD_set_true (hcl _ (hpre e he hb) d hde)
   ·exact getD_set_true (hcl j hj' d hdd)
  have hcd2:∀j o,(listed.setIfInBounds i true).getD j false=true->l[j]?=some o->∀e ∈ o.after,Region.binds .any e=true->(listed.setIfInBounds i true).getD e.on false=true:=fun j o hj hoj e he hb=>by
   rcases hset j hj with rfl|hj'
   ·obtain rfl:o=oi:=Option.some.inj (hoj.symm.trans ho')
    exact getD_set_true (hpre e he hb)
   ·exact getD_set_true (hcd j o hj' hoj e he hb)
  have hputs:∀v,(puts l 0 vs a0).put oi.dst v=puts l 0 (upd vs i v) a0:=fun v=>by have:=CP l 0 i oi vs a0 v hap ho';rwa [Nat.zero_add] at this
  have later:s<=i->(∀j,j < i->listed.getD j false=true):=fun hsi j hj=>by
   exact Dp (listed:=fun j=>listed.getD j false=true) hcd j l.length i (fun o ho e he hb=>by
    obtain rfl:o=oi:=Option.some.inj (ho.symm.trans ho')
    exact hpre e he hb) ((GV htl i oi hsi ho').1 j hj)
  have hdrop:l.drop i=oi :: l.drop (i+1):=by
   rw [List.drop_eq_getElem_cons hil]
   have:l[i]=oi:=by rw [List.getElem?_eq_getElem hil] at ho';exact Option.some.inj ho'
   rw [this]
  have hd2:(i < s/\(∀j,s<=j->listed.getD j false=false)/\X (fun j=>listed.getD j false) vs w/\B w/\∀j,listed.getD j false=true->F j vs w) ∨ (s<=i/\(∀j,i<=j->listed.getD j false=false)/\Tail P l Q a0 i (l.drop i) vs w):=by
   rcases hcase with ⟨hns,hX,hB,hF⟩|⟨t,hst,htl',hlow,hhigh,hT⟩
   ·by_cases his:i < s
    ·exact Or.inl ⟨his,hns,hX,hB,hF⟩
    ·have hsi:s<=i:=by omega
     have hl:=later hsi
     have:i=s:=by
      rcases Nat.lt_or_ge s i with h|h
      ·have h1:=hl s h;rw [hns s (Nat.le_refl _)] at h1;cases h1
      ·omega
     subst this
     exact Or.inr ⟨Nat.le_refl _,hns,hlast vs w (fun j=>listed.getD j false) (fun j hj=>hl j hj) hX hB fun j hj=>hF j (hl j hj)⟩
   ·have hti:t<=i:=by
     rcases Nat.lt_or_ge i t with h|h
     ·rw [hlow i h] at hnf;cases hnf
     ·exact h
    have hl:=later (by omega)
    have:i=t:=by
     rcases Nat.lt_or_ge t i with h|h
     ·have h1:=hl t h;rw [hhigh t (Nat.le_refl _)] at h1;cases h1
     ·omega
    subst this
    exact Or.inr ⟨hst,hhigh,hT⟩
  rcases hd2 with ⟨his,hns,hX,hB,hF⟩|⟨hsi,hhigh,hT⟩
  ·have hot:(l.take s)[i]?=some oi:=by rw [List.getElem?_take,if_pos his];exact ho'
   obtain ⟨hgd,hst⟩:=aJ.get (l.take s) 0 i oi hop hot
   rw [Nat.zero_add] at hst
   refine wpOp_step hoi fun K hK=>?_
   rw [if_pos (by simp [Region.wanted,hgd])]
   refine hst vs w _ (fun j=>listed.getD j false) (fun _=>rfl) hB hF hX (fun j hj=>?_) (Pre.of _ fun e he hb=>hF _ (hpre e (by simpa using he) hb)) K fun v w' hB' hFi hFj hX'=>hK _ _ ?_
   ·cases hlj:listed.getD j false with
    | false=>rfl
    | true =>
     rcases hj with rfl|hj
     ·rw [hlj] at hnf;cases hnf
     have:=Dp (listed:=fun j=>listed.getD j false=true) (l:=l) (fun j o h1 h2 e he hb=>hcd j o h1 h2 e he hb) i l.length j (fun o h2 e he hb=>hcd j o hlj h2 e he hb) hj
     rw [this] at hnf
     cases hnf
   have hfun:(fun j=>(listed.setIfInBounds i true).getD j false)=fun j=>if j=i then true else listed.getD j false:=by
    funext j
    by_cases hji:j=i
    ·subst hji;rw [if_pos rfl];exact hself
    ·rw [if_neg hji,getD_set_ne false (fun e=>hji e.symm)]
   refine ⟨by simp [hsz],⟨hdeps,hcd2⟩,upd vs i v,hputs v,Or.inl ⟨fun j hj=>?_,by rw [hfun];exact hX',hB',fun j hj=>?_⟩⟩
   ·rw [getD_set_ne false (by omega)];exact hns j hj
   ·by_cases hji:j=i
    ·subst hji;exact hFi
    ·rcases hset j hj with h|hj'
     ·exact absurd h hji
     ·refine hloc j vs i v w' (fun hin=>?_) (hFj j hji (hF j hj'))
      rw [hcl j hj' i hin] at hnf
      cases hnf
  ·rw [hdrop] at hT
   refine wpOp_step hoi fun K hK=>?_
   rw [if_pos (by simp [Region.wanted,(GV htl i oi hsi ho').2])]
   refine hT _ (fun _=>rfl) K fun v w' hT'=>hK _ _ ?_
   refine ⟨by simp [hsz],⟨hdeps,hcd2⟩,upd vs i v,hputs v,Or.inr ⟨i+1,by omega,hil,fun j hj=>?_,fun j hj=>?_,hT'⟩⟩
   ·rcases Nat.lt_or_ge j i with h|h
    ·exact getD_set_true (later hsi j h)
    ·obtain rfl:j=i:=by omega
     exact hself
   ·rw [getD_set_ne false (by omega)];exact hhigh j (by omega)
 ·rintro listed a w ⟨hsz,⟨hcl,hcd⟩,vs,rfl,hcase⟩ hr
  have all:∀n,∀j,j < n->j < l.length->listed.getD j false=true:=by
   intro n
   induction n with
   | zero=>intro j h;omega
   | succ n ih =>
    intro j hjn hjl
    rcases Nat.lt_or_ge j n with h|h
    ·exact ih j h hjl
    obtain rfl:j=n:=by omega
    have hoj:l[j]?=some l[j]:=List.getElem?_eq_getElem hjl
    by_cases hc:listed.getD j false=true
    ·exact hc
    ·exfalso
     have hjs:j < listed.size:=by omega
     have hmem:j ∈ Region.ready .any l.toArray listed:=mem_ready.2 ⟨by simpa [hjs] using hc,l[j],by simp,fun e he hbe=>by
      have:=gW l 0 j _ hbk hoj e he hbe
      exact ih e.on (by omega) (by omega)⟩
     rw [hr] at hmem
     cases hmem
  rcases hcase with ⟨hns,hX,hB,hF⟩|⟨t,hst,htl',hlow,hhigh,hT⟩
  ·exfalso
   have h1:=all (s+1) s (by omega) hsl
   rw [hns s (Nat.le_refl _)] at h1
   cases h1
  ·have:t=l.length:=by
    rcases Nat.lt_or_ge t l.length with h|h
    ·have h1:=all (t+1) t (by omega) h
     rw [hhigh t (Nat.le_refl _)] at h1
     cases h1
    ·omega
   subst this
   rw [List.drop_length] at hT
   exact hT
 ·obtain ⟨vs,hvs⟩:=CQ l 0 a0
  have hno:∀j,(Array.replicate l.toArray.size false).getD j false=false:=fun j=>by
   rw [Array.getD_eq_getD_getElem?,Array.getElem?_replicate]
   split<;>rfl
  refine ⟨by simp,⟨fun j hj=>?_,fun j o hj=>?_⟩,vs,hvs.symm,Or.inl ⟨fun j _=>hno j,by rw [show (fun j=>(Array.replicate l.toArray.size false).getD j false)=fun _=>false from funext hno];exact hX0 vs hvs,h0,fun j hj=>?_⟩⟩
  all_goals
   rw [hno] at hj
   cases hj
end Go.Proofs.YtfbfeoplldjbpaaGreatDoor.Ri
end
