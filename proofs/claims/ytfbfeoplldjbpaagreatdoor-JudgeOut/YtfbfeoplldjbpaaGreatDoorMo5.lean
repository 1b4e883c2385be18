/-
  Texts put together (merge.py): RInv, XBase, LCode.
-/
import Derived.RegionTactic
import Derived.Handy
import Derived.Sort.Grow
import Derived.Deep.DeepCutAuto
import Derived.Test.YtfbfeoplldjbpaaGreatDoorMo4
set_option linter.unusedSimpArgs false
set_option linter.unusedVariables false
set_option maxHeartbeats 16000000
set_option maxRecDepth 100000
section
namespace Go.Proofs.YtfbfeoplldjbpaaGreatDoor.Ri
open Go
def opn (l:Array Bool):Nat:=l.toList.countP (fun b=>!b)
theorem zo {l:Array Bool} {i:Nat} (h:l.getD i true=false):opn (l.setIfInBounds i true)+1=opn l:=by
 have hi:i < l.size:=by
  rcases Nat.lt_or_ge i l.size with h' | h'
  ·exact h'
  ·simp [Array.getElem?_eq_none h'] at h
 have hb:l[i]=false:=by simpa [hi] using h
 unfold opn
 rw [Array.toList_setIfInBounds]
 have e:l.toList=l.toList.take i ++ false :: l.toList.drop (i+1):=by
  have:=List.take_append_drop i l.toList
  rw [List.drop_eq_getElem_cons (by simpa using hi)] at this
  rw [←hb];simpa using this.symm
 have e2:l.toList.set i true=l.toList.take i ++ true :: l.toList.drop (i+1):=by
  rw [List.set_eq_take_append_cons_drop,if_pos (by simpa using hi)]
 rw [e2]
 conv=>rhs;rw [e]
 simp only [List.countP_append,List.countP_cons]
 simp
 omega
theorem IK {P:Program} {ops:Array Oper} {Q:Exit->Act->World->Prop} (I:Array Bool->Act->World->Prop)
  (hs:∀listed a w,I listed a w->∀i ∈ Region.ready .any ops listed,wpOp P ops Q i (I (listed.setIfInBounds i true)) a w)
  (hd:∀listed a w,I listed a w->Region.ready .any ops listed=[]->Q .normal a w) :
  ∀(fuel:Nat) (listed:Array Bool) (a:Act) (w:World),opn listed<=fuel->I listed a w->wpAny P .any ops Q fuel listed a w
 | 0,listed,a,w,hf,h=>by
  have hr:Region.ready .any ops listed=[]:=by
   cases hr:Region.ready .any ops listed with
   | nil=>rfl
   | cons i r =>
    have hi:i ∈ Region.ready .any ops listed:=by rw [hr];exact List.mem_cons_self
    have:=zo (mem_ready.1 hi).1
    omega
  exact ⟨hr,hd _ _ _ h hr⟩
 | fuel+1,listed,a,w,hf,h=>⟨fun hr=>hd _ _ _ h hr,fun i hi=>wpOp_mono (fun a' w' h'=>IK I hs hd fuel _ a' w' (by have:=zo (mem_ready.1 hi).1;omega) h') (hs _ _ _ h i hi)⟩
theorem zn (n:Nat):opn (Array.replicate n false)=n:=by simp [opn,List.countP_replicate]
def upd (vs:Nat->Value) (i:Nat) (v:Value):Nat->Value:=fun k=>if k=i then v else vs k
theorem upd_same (vs:Nat->Value) (i:Nat) (v:Value):upd vs i v i=v:=if_pos rfl
theorem upd_ne (vs:Nat->Value) {i k:Nat} (v:Value) (h:k ≠ i):upd vs i v k=vs k:=if_neg h
def puts:List Oper->Nat->(Nat->Value)->Act->Act
 | [],_,_,a=>a
 | o :: l,k,vs,a=>puts l (k+1) vs (a.put o.dst (vs k))
def gJ:List Oper->Bool
 | []=>true
 | o :: l=>(o.dst.isNone || l.all fun x=>x.dst != o.dst) && gJ l
theorem CJ:∀(l:List Oper) (k:Nat) (vs us:Nat->Value) (a:Act),(∀j,k<=j->vs j=us j)->puts l k vs a=puts l k us a
 | [],_,_,_,_,_=>rfl
 | o :: l,k,vs,us,a,h=>by
  show puts l (k+1) vs (a.put o.dst (vs k))=puts l (k+1) us (a.put o.dst (us k))
  rw [h k (Nat.le_refl _)]
  exact CJ l (k+1) vs us _ fun j hj=>h j (by omega)
theorem Cj (a:Act) (d:Option Tmp) (u v:Value):(a.put d u).put d v=a.put d v:=by
 cases d with
 | none=>rfl
 | some d=>simp [Act.put]
theorem CO:∀(l:List Oper) (k:Nat) (vs:Nat->Value) (a:Act) (d:Option Tmp) (v:Value),(∀x ∈ l,∀t,x.dst=some t->d ≠ some t)->(puts l k vs a).put d v=puts l k vs (a.put d v)
 | [],_,_,_,_,_,_=>rfl
 | o :: l,k,vs,a,d,v,h=>by
  show (puts l (k+1) vs (a.put o.dst (vs k))).put d v=puts l (k+1) vs ((a.put d v).put o.dst (vs k))
  rw [CO l (k+1) vs _ d v fun x hx=>h x (List.mem_cons_of_mem _ hx),Act.put_comm a (vs k) v fun t ht=>h o List.mem_cons_self t ht]
theorem CP:∀(l:List Oper) (k i:Nat) (o:Oper) (vs:Nat->Value) (a:Act) (v:Value),gJ l=true->l[i]?=some o->(puts l k vs a).put o.dst v=puts l k (upd vs (k+i) v) a
 | [],_,_,_,_,_,_,_,h=>by simp at h
 | x :: l,k,0,o,vs,a,v,hap,h=>by
  simp at h
  subst h
  show (puts l (k+1) vs (a.put x.dst (vs k))).put x.dst v=puts l (k+1) (upd vs k v) (a.put x.dst (upd vs k v k))
  rw [upd_same]
  simp only [gJ,Bool.and_eq_true,Bool.or_eq_true,List.all_eq_true] at hap
  rw [CO l (k+1) vs _ x.dst v ?_,Cj]
  ·exact CJ l (k+1) _ _ _ fun j hj=>(upd_ne vs v (by omega)).symm
  ·intro y hy t ht e
   rcases hap.1 with h1|h1
   ·rw [e] at h1;cases h1
   ·have:=h1 y hy
    rw [ht,e] at this
    simp at this
 | x :: l,k,i+1,o,vs,a,v,hap,h=>by
  simp at h
  show (puts l (k+1) vs (a.put x.dst (vs k))).put o.dst v=puts l (k+1) (upd vs (k+(i+1)) v) (a.put x.dst (upd vs (k+(i+1)) v k))
  simp only [gJ,Bool.and_eq_true] at hap
  rw [CP l (k+1) i o vs _ v hap.2 h,upd_ne vs v (show k ≠ k+(i+1) by omega),show k+1+i=k+(i+1) by omega]
theorem CB (a:Act) (d:Option Tmp):∃v,a.put d v=a:=by
  cases d with
  | none=>exact ⟨undef,rfl⟩
  | some d =>
    refine ⟨a.tmps.getD d undef,?_⟩
    show ({ a with tmps:=a.tmps.setIfInBounds d (a.tmps.getD d undef) }:Act)=a
    have:a.tmps.setIfInBounds d (a.tmps.getD d undef)=a.tmps:=by
      apply Array.ext_getElem?
      intro i
      rw [Array.getElem?_setIfInBounds]
      split
      · next h => subst h; split
                  · next h'=>simp [h']
                  · next h'=>rw [Array.getElem?_eq_none (by omega)]
      · rfl
    rw [this]
theorem CQ:∀(l:List Oper) (k:Nat) (a:Act),∃vs,puts l k vs a=a
 | [],_,a=>⟨fun _=>undef,rfl⟩
 | o :: l,k,a=>by
  obtain ⟨v,hv⟩:=CB a o.dst
  obtain ⟨vs,hvs⟩:=CQ l (k+1) a
  refine ⟨upd vs k v,?_⟩
  show puts l (k+1) (upd vs k v) (a.put o.dst (upd vs k v k))=a
  rw [upd_same,hv,CJ l (k+1) _ vs a fun j hj=>upd_ne vs v (by omega)]
  exact hvs
def back:Nat->List Oper->Bool
 | _,[]=>true
 | k,o :: l=>(o.after.all fun e=>decide (e.on < k)) && back (k+1) l
theorem gY:∀(l:List Oper) (k i:Nat) (o:Oper),back k l=true->l[i]?=some o->∀e ∈ o.after,e.on < k+i
 | [],_,_,_,_,h=>by simp at h
 | x :: l,k,0,o,hb,h=>by
  simp at h;subst h
  simp only [back,Bool.and_eq_true,Array.all_eq_true_iff_forall_mem,decide_eq_true_eq] at hb
  exact fun e he=>hb.1 e he
 | x :: l,k,i+1,o,hb,h=>by
  simp at h
  simp only [back,Bool.and_eq_true] at hb
  intro e he
  have:=gY l (k+1) i o hb.2 h e he
  omega
def mX (deps:Nat->List Nat):Nat->List Oper->Bool
 | _,[]=>true
 | k,o :: l=>((deps k).all fun d=>d == k || o.after.any fun e=>Region.binds .any e && (deps e.on).contains d) && mX deps (k+1) l
theorem mY (deps:Nat->List Nat):∀(l:List Oper) (k i:Nat) (o:Oper),mX deps k l=true->l[i]?=some o->∀d ∈ deps (k+i),d=k+i ∨ ∃e ∈ o.after,Region.binds .any e=true/\d ∈ deps e.on
 | [],_,_,_,_,h=>by simp at h
 | x :: l,k,0,o,hb,h=>by
  simp at h;subst h
  simp only [mX,Bool.and_eq_true,List.all_eq_true,Bool.or_eq_true,beq_iff_eq,Array.any_eq_true',List.contains_eq_mem,decide_eq_true_eq] at hb
  intro d hd
  rcases hb.1 d hd with h1|⟨e,he,h2,h3⟩
  ·exact Or.inl h1
  ·exact Or.inr ⟨e,he,h2,h3⟩
 | x :: l,k,i+1,o,hb,h=>by
  simp at h
  simp only [mX,Bool.and_eq_true] at hb
  intro d hd
  have:=mY deps l (k+1) i o hb.2 h d (by rw [show k+1+i=k+(i+1) by omega];exact hd)
  rwa [show k+1+i=k+(i+1) by omega] at this
def Step (P:Program) (l:List Oper) (Q:Exit->Act->World->Prop) (a0:Act) (B:World->Prop) (F:Nat->(Nat->Value)->World->Prop) (k:Nat) (o:Oper):Prop:=
 ∀(vs:Nat->Value) (w:World),B w->(∀e ∈ o.after,Region.binds .any e=true->F e.on vs w)->∀K:Act->World->Prop,(∀v w',B w'->F k (upd vs k v) w'->(∀j,j ≠ k->F j vs w->F j vs w')->K ((puts l 0 vs a0).put o.dst v) w')->if Region.wanted o (yielded l.toArray (puts l 0 vs a0).tmps)=true then Oper.wp P o (puts l 0 vs a0) w K Q else K ((puts l 0 vs a0).put o.dst undef) w
def Each (P:Program) (l:List Oper) (Q:Exit->Act->World->Prop) (a0:Act) (B:World->Prop) (F:Nat->(Nat->Value)->World->Prop):Nat->List Oper->Prop
 | _,[]=>True
 | k,o :: r=>Step P l Q a0 B F k o/\Each P l Q a0 B F (k+1) r
theorem Each.get {P:Program} {l:List Oper} {Q:Exit->Act->World->Prop} {a0:Act} {B:World->Prop} {F:Nat->(Nat->Value)->World->Prop}:∀(r:List Oper) (k i:Nat) (o:Oper),Each P l Q a0 B F k r->r[i]?=some o->Step P l Q a0 B F (k+i) o
 | [],_,_,_,_,h=>by simp at h
 | x :: r,k,0,o,hh,h=>by simp at h;subst h;exact hh.1
 | x :: r,k,i+1,o,hh,h=>by
  simp at h
  have:=Each.get r (k+1) i o hh.2 h
  rwa [show k+1+i=k+(i+1) by omega] at this
theorem IV {P:Program} {id:Nat} {l:List Oper} {Q:Exit->Act->World->Prop} {a0:Act} {w0:World} (hm:P.follows .mixedOrders=true) (hap:gJ l=true) (hbk:back 0 l=true)
  (B:World->Prop) (F:Nat->(Nat->Value)->World->Prop) (deps:Nat->List Nat) (hdp:mX deps 0 l=true)
  (hloc:∀j vs i v w,i ∉ deps j->F j vs w->F j (upd vs i v) w) (h0:B w0.drew) (hop:Each P l Q a0 B F 0 l)
  (hd:∀vs w,B w->(∀j,j < l.length->F j vs w)->Q .normal (puts l 0 vs a0) w):(Code.region id l.toArray true).wp P Q a0 w0:=by
 refine wp_region_any hm (IK (fun listed a w=>listed.size=l.length/\(∀j,listed.getD j false=true->∀d ∈ deps j,listed.getD d false=true)/\∃vs,a=puts l 0 vs a0/\B w/\∀j,listed.getD j false=true->F j vs w) ?_ ?_ _ _ _ _ (by rw [zn];exact Nat.le_refl _) ?_)
 ·rintro listed a w ⟨hsz,hcl,vs,rfl,hB,hF⟩ i hi
  obtain ⟨hni,o,ho,hpre⟩:=mem_ready.1 hi
  have ho':l[i]?=some o:=by simpa using ho
  have hil:i < l.length:=(List.getElem?_eq_some_iff.1 ho').1
  have hnf:listed.getD i false=false:=by
   have:i < listed.size:=by omega
   simpa [this] using hni
  have hst:=Each.get l 0 i o hop ho'
  rw [Nat.zero_add] at hst
  refine wpOp_step ho fun K hK=>?_
  refine hst vs w hB (fun e he hb=>hF _ (hpre e he hb)) K fun v w' hB' hFi hFj=>hK _ _ ?_
  have hset:∀j,(listed.setIfInBounds i true).getD j false=true->j=i ∨ listed.getD j false=true:=fun j hj=>by
   by_cases hji:i=j
   ·exact Or.inl hji.symm
   ·rw [getD_set_ne false hji] at hj;exact Or.inr hj
  refine ⟨by simp [hsz],fun j hj d hdd=>?_,upd vs i v,by have:=CP l 0 i o vs a0 v hap ho';rwa [Nat.zero_add] at this,hB',fun j hj=>?_⟩
  ·rcases hset j hj with rfl|hj'
   ·have:=mY deps l 0 j o hdp ho'
    rw [Nat.zero_add] at this
    rcases this d hdd with rfl|⟨e,he,hb,hde⟩
    ·have:d < listed.size:=by omega
     simp [this]
    ·exact getD_set_true (hcl _ (hpre e he hb) d hde)
   ·exact getD_set_true (hcl j hj' d hdd)
  ·by_cases hji:j=i
   ·subst hji;exact hFi
   ·rcases hset j hj with h|hj'
    ·exact absurd h hji
    ·refine hloc j vs i v w' (fun hin=>?_) (hFj j hji (hF j hj'))
     rw [hcl j hj' i hin] at hnf
     cases hnf
 ·rintro listed a w ⟨hsz,hcl,vs,rfl,hB,hF⟩ hr
  refine hd vs w hB fun j hj=>hF j ?_
  have all:∀n,∀j,j < n->j < l.length->listed.getD j false=true:=by
   intro n
   induction n with
   | zero=>intro j h;omega
   | succ n ih =>
    intro j hjn hjl
    rcases Nat.lt_or_ge j n with h|h
    ·exact ih j h hjl
    obtain rfl:j=n:=by omega
    have hoj:l[j]?=some l[j]:=List.getElem?_eq_getElem hjl
    by_cases hc:listed.getD j false=true
    ·exact hc
    ·exfalso
     have hjs:j < listed.size:=by omega
     have hmem:j ∈ Region.ready .any l.toArray listed:=mem_ready.2 ⟨by simpa [hjs] using hc,l[j],by simp,fun e he _=>by
      have:=gY l 0 j _ hbk hoj e he
      exact ih e.on (by omega) (by omega)⟩
     rw [hr] at hmem
     cases hmem
  exact all (j+1) j (by omega) hj
 ·obtain ⟨vs,hvs⟩:=CQ l 0 a0
  refine ⟨by simp,fun j hj=>?_,vs,hvs.symm,h0,fun j hj=>?_⟩
  all_goals
   exfalso
   rw [Array.getD_eq_getD_getElem?,Array.getElem?_replicate] at hj
   split at hj<;>simp at hj
def Pre (F:Nat->(Nat->Value)->World->Prop) (vs:Nat->Value) (w:World):List Edge->Prop
 | []=>True
 | e :: r=>(Region.binds .any e=true->F e.on vs w)/\Pre F vs w r
theorem Pre.of {F:Nat->(Nat->Value)->World->Prop} {vs:Nat->Value} {w:World}:∀(r:List Edge),(∀e ∈ r,Region.binds .any e=true->F e.on vs w)->Pre F vs w r
 | [],_=>trivial
 | e :: r,h=>⟨h e List.mem_cons_self,Pre.of r fun e he=>h e (List.mem_cons_of_mem _ he)⟩
def StepA (P:Program) (l:List Oper) (Q:Exit->Act->World->Prop) (a0:Act) (B:World->Prop) (F:Nat->(Nat->Value)->World->Prop) (k:Nat) (o:Oper):Prop:=
 ∀(vs:Nat->Value) (w:World) (A:Act),(∀t:Nat,A.tmps[t]?.getD undef=(puts l 0 vs a0).tmps[t]?.getD undef)->B w->Pre F vs w o.after.toList->∀K:Act->World->Prop,(∀v w',B w'->F k (upd vs k v) w'->(∀j,j ≠ k->F j vs w->F j vs w')->K (A.put o.dst v) w')->o.wp P A w K Q
def aH (P:Program) (l:List Oper) (Q:Exit->Act->World->Prop) (a0:Act) (B:World->Prop) (F:Nat->(Nat->Value)->World->Prop):Nat->List Oper->Prop
 | _,[]=>True
 | k,o :: r=>(o.guard=none/\StepA P l Q a0 B F k o)/\aH P l Q a0 B F (k+1) r
theorem aH.each {P:Program} {l:List Oper} {Q:Exit->Act->World->Prop} {a0:Act} {B:World->Prop} {F:Nat->(Nat->Value)->World->Prop}:∀(r:List Oper) (k:Nat),aH P l Q a0 B F k r->Each P l Q a0 B F k r
 | [],_,_=>trivial
 | o :: r,k,h=>⟨fun vs w hB hpre K hK=>by
   rw [if_pos (by simp [Region.wanted,h.1.1])]
   exact h.1.2 vs w _ (fun _=>rfl) hB (Pre.of _ fun e he=>hpre e (by simpa using he)) K hK,aH.each r (k+1) h.2⟩
theorem IX {P:Program} {id:Nat} {l:List Oper} {Q:Exit->Act->World->Prop} {a0:Act} {w0:World} (hm:P.follows .mixedOrders=true) (hap:gJ l=true) (hbk:back 0 l=true)
  (B:World->Prop) (F:Nat->(Nat->Value)->World->Prop) (deps:Nat->List Nat) (hdp:mX deps 0 l=true)
  (hloc:∀j vs i v w,i ∉ deps j->F j vs w->F j (upd vs i v) w) (h0:B w0.drew) (hop:aH P l Q a0 B F 0 l)
  (hd:∀vs w,B w->(∀j,j < l.length->F j vs w)->Q .normal (puts l 0 vs a0) w):(Code.region id l.toArray true).wp P Q a0 w0:=
 IV hm hap hbk B F deps hdp hloc h0 (aH.each l 0 hop) hd
def dn (P:Program) (l:List Oper) (Q:Exit->Act->World->Prop) (a0:Act) (B:World->Prop) (F:Nat->(Nat->Value)->World->Prop) (k:Nat) (o:Oper) (want:Bool) (d:Nat):Prop:=
 ∀(vs:Nat->Value) (w:World) (A:Act),(∀t:Nat,A.tmps[t]?.getD undef=(puts l 0 vs a0).tmps[t]?.getD undef)->B w->Pre F vs w o.after.toList->∃b:Bool,A.tmps[d]?.getD undef=.bool b/\(b=want->∀K:Act->World->Prop,(∀v w',B w'->F k (upd vs k v) w'->(∀j,j ≠ k->F j vs w->F j vs w')->K (A.put o.dst v) w')->o.wp P A w K Q)/\(b ≠ want->F k (upd vs k undef) w)
def aI (P:Program) (l:List Oper) (Q:Exit->Act->World->Prop) (a0:Act) (B:World->Prop) (F:Nat->(Nat->Value)->World->Prop):Nat->List Oper->Prop
 | _,[]=>True
 | k,o :: r=>((o.guard=none/\StepA P l Q a0 B F k o) ∨ ∃(j:Nat) (want:Bool) (d:Nat),o.guard=some (j,want)/\(l[j]?).bind (·.dst)=some d/\dn P l Q a0 B F k o want d)/\aI P l Q a0 B F (k+1) r
theorem Jd {l:List Oper} {A:Act} {j d:Nat} {b:Bool} (hd:(l[j]?).bind (·.dst)=some d) (hb:A.tmps[d]?.getD undef=.bool b):yielded l.toArray A.tmps j=some b:=by
 have h:A.tmps[d]?=some (.bool b):=by
  cases hx:A.tmps[d]? with
  | none=>rw [hx] at hb;cases hb
  | some v=>rw [hx] at hb;exact congrArg some hb
 unfold yielded
 rw [List.getElem?_toArray,hd]
 show (match A.tmps[d]? with|some (.bool b)=>some b|_=>none)=some b
 rw [h]
theorem aI.each {P:Program} {l:List Oper} {Q:Exit->Act->World->Prop} {a0:Act} {B:World->Prop} {F:Nat->(Nat->Value)->World->Prop}:∀(r:List Oper) (k:Nat),aI P l Q a0 B F k r->Each P l Q a0 B F k r
 | [],_,_=>trivial
 | o :: r,k,h=>⟨fun vs w hB hpre K hK=>by
   rcases h.1 with h1|⟨j,want,d,hg,hd,hs⟩
   ·rw [if_pos (by simp [Region.wanted,h1.1])]
    exact h1.2 vs w _ (fun _=>rfl) hB (Pre.of _ fun e he=>hpre e (by simpa using he)) K hK
   ·obtain ⟨b,hb,hy,hn⟩:=hs vs w (puts l 0 vs a0) (fun _=>rfl) hB (Pre.of _ fun e he=>hpre e (by simpa using he))
    have hw:Region.wanted o (yielded l.toArray (puts l 0 vs a0).tmps)=(b == want):=by
     unfold Region.wanted
     rw [hg]
     show (yielded l.toArray (puts l 0 vs a0).tmps j == some want)=_
     rw [Jd hd hb]
     cases b<;>cases want<;>rfl
    rw [hw]
    by_cases e:b=want
    ·rw [if_pos (by simp [e])];exact hy e K hK
    ·rw [if_neg (by simp [e])];exact hK undef w hB (hn e) (fun _ _ h=>h),aI.each r (k+1) h.2⟩
theorem I4 {P:Program} {id:Nat} {l:List Oper} {Q:Exit->Act->World->Prop} {a0:Act} {w0:World} (hm:P.follows .mixedOrders=true) (hap:gJ l=true) (hbk:back 0 l=true)
  (B:World->Prop) (F:Nat->(Nat->Value)->World->Prop) (deps:Nat->List Nat) (hdp:mX deps 0 l=true)
  (hloc:∀j vs i v w,i ∉ deps j->F j vs w->F j (upd vs i v) w) (h0:B w0.drew) (hop:aI P l Q a0 B F 0 l)
  (hd:∀vs w,B w->(∀j,j < l.length->F j vs w)->Q .normal (puts l 0 vs a0) w):(Code.region id l.toArray true).wp P Q a0 w0:=
 IV hm hap hbk B F deps hdp hloc h0 (aI.each l 0 hop) hd
theorem wI {F:Nat->Value->World->Prop} (j:Nat) (vs:Nat->Value) (i:Nat) (v:Value) (w:World) (hi:i ∉ [j]) (h:F j (vs j) w):F j (upd vs i v j) w:=by
 rw [upd_ne vs v (fun e=>hi (by rw [e];exact List.mem_singleton.2 rfl))];exact h
end Go.Proofs.YtfbfeoplldjbpaaGreatDoor.Ri
end
section
namespace Go.Proofs.YtfbfeoplldjbpaaGreatDoor.Ex
open Go.RowKit
open Wo (Wd tV jI jQ qL iU jg)
theorem xJ (x:Tx):(mk x).toList=x:=by rw [Lib.toList_data,xI]
theorem xH (x y:Tx):((mk x).toList == (mk y).toList)=decide (x=y):=by
 rw [xJ,xJ,Bool.eq_iff_iff]
 simp
theorem xE (s:Tx):(mk s).toList.isEmpty=decide (s=[]):=by
 rw [xJ]
 cases s<;>simp
theorem cells5 {w:World} {g:Nat} {a b c d e:Value} {T:TypeId} (h:w.heap[g]?=some (.cells #[a,b,c,d,e] T (0,0))):w.cell? ⟨g,0,none⟩=some a/\w.cell? ⟨g,1,none⟩=some b/\w.cell? ⟨g,2,none⟩=some c/\w.cell? ⟨g,3,none⟩=some d/\w.cell? ⟨g,4,none⟩=some e:=by
 refine ⟨?_,?_,?_,?_,?_⟩<;>(rw [cell_of_row w g _ _ T (0,0) h];rfl)
theorem ku {w:World} {g:Nat} {a b c d e f:Value} {T:TypeId} (h:w.heap[g]?=some (.cells #[a,b,c,d,e,f] T (0,0))):w.cell? ⟨g,0,none⟩=some a/\w.cell? ⟨g,1,none⟩=some b/\w.cell? ⟨g,2,none⟩=some c/\w.cell? ⟨g,3,none⟩=some d/\w.cell? ⟨g,4,none⟩=some e/\w.cell? ⟨g,5,none⟩=some f:=by
 refine ⟨?_,?_,?_,?_,?_,?_⟩<;>(rw [cell_of_row w g _ _ T (0,0) h];rfl)
def aO (f:Ed):Prop:=(f.a.length<=281474976710656/\f.b.length<=281474976710656)/\(-9223372036854775808<=f.kind/\f.kind<=9223372036854775807)/\(-9223372036854775808<=f.n/\f.n<=9223372036854775807)
end Go.Proofs.YtfbfeoplldjbpaaGreatDoor.Ex
end
section
namespace Go.Proofs.YtfbfeoplldjbpaaGreatDoor.Cm
open Go.RowKit
theorem FI (c : UInt8) (w : World) :
    Calls Tryz.prog 149 #[.int .u8 c.toNat] w fun e w'=>e=.returned (.bool (FH c))/\w'=w:=by
  unfold FH
  generalize c.toNat=n
  cases h1:decide (65<=n)<;>cases h2:decide (n<=90)<;>cases h3:decide (48<=n)<;>cases h4:decide (n<=57) <;>
  · simp only [decide_eq_true_eq,decide_eq_false_iff_not] at h1 h2 h3 h4
    first
      | omega
      | (go_enter Tryz.func149, Tryz.ntmps149
         go_wp2
         go_ret
         exact ⟨by first|rfl|(simp;omega),rfl⟩)
theorem fF {p:UInt8->Bool} (s:Tx) (k:Nat) (c:UInt8) (h:s[k]?=some c) (hk:(s.take k).all p=true) (hc:p c=true):(s.take (k+1)).all p=true:=by
 rw [List.take_add_one,h];simp_all
theorem fA {p:UInt8->Bool} (s:Tx) (k:Nat) (c:UInt8) (h:s[k]?=some c) (hc:p c=false):s.all p=false:=by
 rw [List.all_eq_false]
 exact ⟨c,List.mem_of_getElem? h,by simp [hc]⟩
theorem lT (s:Tx) (f t:Int) (h:(s.length:Int) < f):lM s f t=false:=by unfold lM;rw [decide_eq_false (by omega)];simp
theorem lS (s:Tx) (f t:Int) (h:t < (s.length:Int)):lM s f t=false:=by unfold lM;rw [decide_eq_false (p:=(s.length:Int)<=t) (by omega)];simp
theorem lQ (s:Tx) (f t:Int) (h1:f<=(s.length:Int)) (h2:(s.length:Int)<=t):lM s f t=s.all FH:=by unfold lM;rw [decide_eq_true h1,decide_eq_true h2];simp
theorem xC (s:Tx) (k:Nat) (hk:k < (mk s).size):s[k]?=some (mk s)[k]:=by
 have hl:k < s.length:=by rw [←xM];exact hk
 rw [List.getElem?_eq_getElem hl]
 rfl
theorem lN (s:Tx) (f t:Int) (w:World) (hs:s.length<=9223372036854775807) :
  Calls Tryz.prog 116 #[.string (mk s),.int .i64 f,.int .i64 t] w fun e w'=>e=.returned (.bool (lM s f t))/\w'=w:=by
 have hz:=xM s
 have HS:=Lib.hid hs
 have HAT:=Lib.hid (xC s)
 have HSH:=Lib.hid (lT s f t)
 have HLO:=Lib.hid (lS s f t)
 have HIN:=Lib.hid (lQ s f t)
 generalize lM s f t=R at *
 rw [←hz] at hs HSH HLO HIN
 have HZ:=Lib.hid hz
 clear hz
 generalize mk s=X at *
 by_cases h1:(X.size:Int) < f
 ·rw [HSH.out h1]
  go_enter Tryz.func116,Tryz.ntmps116
  go_wp2
  go_ret
  exact ⟨rfl,rfl⟩
 by_cases h2:t < (X.size:Int)
 ·rw [HLO.out h2]
  go_enter Tryz.func116,Tryz.ntmps116
  go_wp2
  go_ret
  exact ⟨rfl,rfl⟩
 rw [HIN.out (by omega) (by omega)]
 go_enter Tryz.func116,Tryz.ntmps116
 go_wp2
 go_loopg [20] (X.size) (fun g i wr=>∃k:Nat,k<=X.size/\g=X.size - k/\i=.int .i64 k/\wr=w/\Hid ((s.take k).all FH=true))
 case atStart=>exact ⟨0,Nat.zero_le _,rfl,rfl,rfl,rfl⟩
 case round =>
  obtain ⟨k,hk,hg,rfl,hw,HA⟩:=hrel
  rw [hw]
  clear hw wr
  by_cases hlt:k < X.size
  ·have HC:=Lib.hid (HAT.out k hlt)
   cases hq:FH X[k]
   ·go_wp2_with (go_at_call 149;refine (FI _ _).mono ?_;rintro e w' ⟨rfl,rfl⟩)
    go_ret
    exact ⟨by rw [fA s k _ HC.out hq];rfl,rfl⟩
   ·go_wp2_with (go_at_call 149;refine (FI _ _).mono ?_;rintro e w' ⟨rfl,rfl⟩)
    go_roundg (X.size - (k+1))
    case rel=>exact ⟨k+1,by omega,rfl,by go_num,rfl,fF s k _ HC.out HA.out hq⟩
    case measure=>omega
  ·have hall:(s.take k)=s:=List.take_of_length_le (by rw [←HZ.out];omega)
   rw [hall] at HA
   clear hall
   go_wp2
   go_ret
   exact ⟨by rw [HA.out];rfl,rfl⟩
theorem name_any (s:Tx) (w:World) (hs:s.length<=9223372036854775807) :
  Calls Tryz.prog 71 #[.string (mk s)] w fun e w'=>e=.returned (.bool (lM s 1 12))/\w'=w:=by
 have HC:=Lib.hid fun w=>lN s 1 12 w hs
 generalize lM s 1 12=R at *
 go_enter Tryz.func71,Tryz.ntmps71
 go_wp2_with (go_at_call 116;refine (HC.out _).mono ?_;rintro e w' ⟨rfl,rfl⟩)
 go_ret
 exact ⟨rfl,rfl⟩
theorem yg (l:List Tx) (k:Nat) (c:Tx) (h:l[k]?=some c) (hk:((l.take k).all fun x=>lM x 2 2)=true) (hc:lM c 2 2=true):((l.take (k+1)).all fun x=>lM x 2 2)=true:=by
 rw [List.take_add_one,h];simp_all
theorem yc (l:List Tx) (k:Nat) (c:Tx) (h:l[k]?=some c) (hc:lM c 2 2=false):xQ l=false:=by
 unfold xQ
 have:(l.all fun x=>lM x 2 2)=false:=by
  rw [List.all_eq_false]
  exact ⟨c,List.mem_of_getElem? h,by simp [hc]⟩
 rw [this];simp
theorem x9 (l:List Tx) (h:¬ l.length<=4):xQ l=false:=by unfold xQ;rw [decide_eq_false h];rfl
theorem xY (l:List Tx) (k:Nat) (h:l.length<=4) (hk:l.length<=k) (ha:((l.take k).all fun x=>lM x 2 2)=true):xQ l=true:=by
 rw [List.take_of_length_le hk] at ha
 unfold xQ;rw [decide_eq_true h,ha];rfl
theorem xZ (v:Value) (l:List Tx) (w:World) (h:dI All w v l) (hz:∀t ∈ l,t.length<=281474976710656) :
  Calls Tryz.prog 117 #[v] w fun e w'=>e=.returned (.bool (xQ l))/\w'=w:=by
 have HV:=Lib.hid h
 have HZ:=Lib.hid hz
 obtain ⟨a,c,rfl,h1,h2⟩:=dI.form h
 clear h hz
 have HM:=Lib.hid (x9 l)
 have HALL:=Lib.hid (xY l)
 have HNO:=Lib.hid (yc l)
 generalize xQ l=R at *
 by_cases h4:l.length<=4
 ·have h4':¬ (4:Int) < (l.length:Int):=by omega
  go_enter Tryz.func117,Tryz.ntmps117
  go_wp2
  go_loopg [10] (l.length) (fun g i wr=>∃k:Nat,k<=l.length/\g=l.length - k/\i=.int .i64 k/\wr=w/\Hid (((l.take k).all fun x=>lM x 2 2)=true))
  case atStart=>exact ⟨0,Nat.zero_le _,rfl,rfl,rfl,rfl⟩
  case round =>
   obtain ⟨k,hk,hg,rfl,hw,HA⟩:=hrel
   rw [hw]
   clear hw wr
   by_cases hlt:k < l.length
   ·obtain ⟨b,o,rfl,hx,hu⟩:=He HV.out k hlt
    have HX:=Lib.hid hx
    have hq:=HZ.out _ (List.mem_of_getElem? hx)
    have HC:=Lib.hid fun w=>lN l[k] 2 2 w (by omega)
    clear hq hx
    cases hq:lM l[k] 2 2
    ·rw [hq] at HC
     have HQ:=Lib.hid (HNO.out k _ HX.out hq)
     clear hq
     go_wp2_with (go_at_call 116;refine (HC.out _).mono ?_;rintro e w' ⟨rfl,rfl⟩)
     go_ret
     exact ⟨by rw [HQ.out];rfl,rfl⟩
    ·rw [hq] at HC
     have HQ:=Lib.hid (yg l k _ HX.out HA.out hq)
     clear hq
     go_wp2_with (go_at_call 116;refine (HC.out _).mono ?_;rintro e w' ⟨rfl,rfl⟩)
     go_roundg (l.length - (k+1))
     case rel=>exact ⟨k+1,by omega,rfl,by go_num,rfl,HQ.out⟩
     case measure=>omega
   ·have HQ:=Lib.hid (HALL.out k h4 (by omega) HA.out)
    go_wp2
    go_ret
    exact ⟨by rw [HQ.out];rfl,rfl⟩
 ·rw [HM.out h4]
  have h4':(4:Int) < (l.length:Int):=by omega
  go_enter Tryz.func117,Tryz.ntmps117
  go_wp2
  go_ret
  exact ⟨rfl,rfl⟩
end Go.Proofs.YtfbfeoplldjbpaaGreatDoor.Cm
end
