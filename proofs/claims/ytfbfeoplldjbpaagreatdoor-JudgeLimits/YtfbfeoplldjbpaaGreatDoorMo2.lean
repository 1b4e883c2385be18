/-
  Texts put together (merge.py): JMath, QSpec, WMath, CSumMath, DMath, LMath, NMath, PMath, UMath, WLaws, PBack.
-/
import Derived.Lib.ItoaNum
import GoSem.Claim
import Derived.Test.YtfbfeoplldjbpaaGreatDoorMo1
set_option linter.unusedSimpArgs false
set_option linter.unusedVariables false
set_option maxHeartbeats 16000000
set_option maxRecDepth 100000
section
namespace Go.Proofs.YtfbfeoplldjbpaaGreatDoor.Ju
open Ac (Row pU dJ dM jF jG DW DU left)
open Sh (Ot bD bC bK bE EP EW Dt Du member Jj)
structure It where
 why:Int
 al:Int
 dd:Bool
 cp:Int
 cn:Int
 yr:Int
 bi:Int
 pr:Int
structure Cx where
 mode:Int
 iD:Int
 fD:Int
 iO:Int
 fO:Int
 mem:Tx
 fam:Tx
 net:Int
def rD (x:Cx) (r:List Row) (y:Int):Int:=DU x.mode x.iD x.fD (pU r x.mem false y).de (pU r x.fam true y).de
def rO (x:Cx) (r:List Row) (y:Int):Int:=DU x.mode x.iO x.fO (pU r x.mem false y).oo (pU r x.fam true y).oo
def eB (x:Cx) (r:List Row) (i:It):Int:=bE i.al i.cp i.cn (rD x r i.yr) (rO x r i.yr)
def vD (x:Cx) (r:List Row) (i:It):Int:=bD i.al i.dd i.cp i.cn (rD x r i.yr) (rO x r i.yr) x.net
def vC (x:Cx) (r:List Row) (i:It):Int:=bC i.al i.dd i.cp i.cn (rD x r i.yr) (rO x r i.yr) x.net
def vK (x:Cx) (r:List Row) (i:It):Int:=bK i.al i.dd i.cp i.cn (rD x r i.yr) (rO x r i.yr) x.net
def eS (x:Cx) (r:List Row) (i:It):Int:=EP i.bi i.al i.pr (vD x r i) (vC x r i) (vK x r i)
def zU (x:Cx) (r:List Row) (i:It):Ot:=if i.why=0 then EW i.bi i.al i.pr (vD x r i) (vC x r i) (vK x r i) else Du i.bi i.pr i.why
def zL (x:Cx) (r:List Row) (i:It):Int:=
 if i.why=0 then (if eB x r i=0 then (if eS x r i=0 then (if x.net=0 then jF r x.mem x.fam i.yr (zU x r i) else 0) else eS x r i) else eB x r i) else Dt i.bi i.pr i.why
def zO (x:Cx) (r:List Row) (i:It):List Row:=if i.why=0/\x.net=0 then jG r x.mem x.fam i.yr (zU x r i) else r
def D6 (x:Cx):List Row->List It->Int
 | _,[]=>0
 | r,i :: l=>if zL x r i=0 then D6 x (zO x r i) l else zL x r i
def Ea (x:Cx):List Row->List It->List Ot
 | _,[]=>[]
 | r,i :: l=>zU x r i :: Ea x (zO x r i) l
def D7 (x:Cx):List Row->List It->List Row
 | r,[]=>r
 | r,i :: l=>D7 x (zO x r i) l
theorem JU {x:Cx} {r:List Row} {i:It} {l:List It} (h:D6 x r (i :: l)=0):zL x r i=0/\D6 x (zO x r i) l=0:=by
 unfold D6 at h
 by_cases h1:zL x r i=0
 ·rw [if_pos h1] at h;exact ⟨h1,h⟩
 ·rw [if_neg h1] at h;exact absurd h h1
theorem out_ok {x:Cx} {r:List Row} {i:It} (h:zL x r i=0) (hw:i.why=0):eB x r i=0/\eS x r i=0/\(x.net=0->jF r x.mem x.fam i.yr (zU x r i)=0):=by
 unfold zL at h
 rw [if_pos hw] at h
 by_cases h1:eB x r i=0
 ·rw [if_pos h1] at h
  by_cases h2:eS x r i=0
  ·rw [if_pos h2] at h
   refine ⟨h1,h2,fun hn=>?_⟩
   rw [if_pos hn] at h;exact h
  ·rw [if_neg h2] at h;exact absurd h h2
 ·rw [if_neg h1] at h;exact absurd h h1
theorem JG {x:Cx} {r:List Row} {i:It} (h:zL x r i=0) (hw:i.why ≠ 0):Dt i.bi i.pr i.why=0:=by
 unfold zL at h
 rw [if_neg hw] at h;exact h
theorem step_ok {x:Cx} {r:List Row} {i:It} (hr:Ac.Ok r) (h:zL x r i=0):Ac.Ok (zO x r i):=by
 unfold zO
 by_cases hc:i.why=0/\x.net=0
 ·rw [if_pos hc];exact Ac.both_ok hr ((out_ok h hc.1).2.2 hc.2)
 ·rw [if_neg hc];exact hr
theorem JW (x:Cx):∀(l:List It) (r:List Row),Ac.Ok r->D6 x r l=0->Ac.Ok (D7 x r l)
 | [],_,h,_=>h
 | i :: l,r,h,e=>by
  have k:=JU e
  exact JW x l _ (step_ok h k.1) k.2
theorem Ef (x:Cx):∀(l:List It) (r:List Row),(Ea x r l).length=l.length
 | [],_=>rfl
 | i :: l,r=>by simp only [Ea,List.length_cons,Ef x l]
def soB (i:It) (o:Ot):Prop:=Jj i.bi o=true/\o.pr=i.pr/\(o.deny ≠ 0->o.plan=0/\member o=0/\o.al=0)/\o.deny=i.why
theorem J3 {x:Cx} {r:List Row} {i:It} (h:zL x r i=0):soB i (zU x r i):=by
 by_cases hw:i.why=0
 ·have k:=out_ok h hw
  have hs:EP i.bi i.al i.pr (vD x r i) (vC x r i) (vK x r i)=0:=k.2.1
  have e:zU x r i=EW i.bi i.al i.pr (vD x r i) (vC x r i) (vK x r i):=by unfold zU;rw [if_pos hw]
  rw [e]
  refine ⟨Sh.JZ _ _ _ _ _ _ hs,?_,?_,?_⟩
  ·unfold EW;rw [if_pos hs]
  ·intro hd;unfold EW at hd;rw [if_pos hs] at hd;simp at hd
  ·unfold EW;rw [if_pos hs,hw]
 ·have hs:=JG h hw
  have e:zU x r i=Du i.bi i.pr i.why:=by unfold zU;rw [if_neg hw]
  have b:=Sh.JJ _ _ _ hs
  rw [e]
  refine ⟨b.1,?_,fun _=>⟨b.2.2,b.2.1,?_⟩,?_⟩<;>(unfold Du;rw [if_pos hs])
theorem JQ (x:Cx):∀(l:List It) (r:List Row),D6 x r l=0->∀(k:Nat) (i:It) (o:Ot),l[k]?=some i->(Ea x r l)[k]?=some o->soB i o
 | [],_,_,k,i,o,h,_=>by simp at h
 | i :: l,r,e,0,j,o,h,g=>by
  simp [Ea] at h g
  subst h;subst g
  exact J3 (JU e).1
 | i :: l,r,e,k+1,j,o,h,g=>by
  simp only [Ea,List.getElem?_cons_succ] at h g
  exact JQ x l _ (JU e).2 k j o h g
def J6:List Ot->Int
 | []=>0
 | o :: l=>o.de+J6 l
def J7:List Ot->Int
 | []=>0
 | o :: l=>member o+J7 l
theorem JK {i:It} (h:Dt i.bi i.pr i.why=0):(Du i.bi i.pr i.why).de=0/\member (Du i.bi i.pr i.why)=0:=by
 refine ⟨?_,(Sh.JJ _ _ _ h).2.1⟩
 unfold Du;rw [if_pos h]
theorem J5 {x:Cx} {r:List Row} {i:It} (hr:Ac.Ok r) (h:zL x r i=0) (hn:x.net=0) (w:Tx) (g:Bool) (z:Int) :
  (pU (zO x r i) w g z).de=(pU r w g z).de+(if (x.fam=w/\true=g/\i.yr=z) ∨ (x.mem=w/\false=g/\i.yr=z) then (zU x r i).de else 0) ∧
  (pU (zO x r i) w g z).oo=(pU r w g z).oo+(if (x.fam=w/\true=g/\i.yr=z) ∨ (x.mem=w/\false=g/\i.yr=z) then member (zU x r i) else 0):=by
 by_cases hw:i.why=0
 ·have k:=(out_ok h hw).2.2 hn
  have e:zO x r i=jG r x.mem x.fam i.yr (zU x r i):=by unfold zO;rw [if_pos ⟨hw,hn⟩]
  rw [e,Ac.Jm hr k]
  by_cases h1:x.fam=w/\true=g/\i.yr=z
  ·rw [if_pos h1,if_pos (Or.inl h1),if_pos (Or.inl h1)]
   obtain ⟨rfl,rfl,rfl⟩:=h1
   exact ⟨rfl,rfl⟩
  ·rw [if_neg h1]
   by_cases h2:x.mem=w/\false=g/\i.yr=z
   ·rw [if_pos h2,if_pos (Or.inr h2),if_pos (Or.inr h2)]
    obtain ⟨rfl,rfl,rfl⟩:=h2
    exact ⟨rfl,rfl⟩
   ·have h3:¬ ((x.fam=w/\true=g/\i.yr=z) ∨ (x.mem=w/\false=g/\i.yr=z)):=fun e=>e.elim h1 h2
    rw [if_neg h2,if_neg h3,if_neg h3];omega
 ·have e:zO x r i=r:=by unfold zO;rw [if_neg (fun e=>hw e.1)]
  have o:zU x r i=Du i.bi i.pr i.why:=by unfold zU;rw [if_neg hw]
  have z:=JK (JG h hw)
  rw [e,o,z.1,z.2]
  constructor<;>(split<;>omega)
theorem JV (x:Cx) (y:Int) (hn:x.net=0):∀(l:List It) (r:List Row),Ac.Ok r->D6 x r l=0->(∀i ∈ l,i.yr=y) →
  (pU (D7 x r l) x.mem false y).de=(pU r x.mem false y).de+J6 (Ea x r l)/\(pU (D7 x r l) x.mem false y).oo=(pU r x.mem false y).oo+J7 (Ea x r l) ∧
  (pU (D7 x r l) x.fam true y).de=(pU r x.fam true y).de+J6 (Ea x r l)/\(pU (D7 x r l) x.fam true y).oo=(pU r x.fam true y).oo+J7 (Ea x r l)
 | [],r,_,_,_=>by simp [D7,Ea,J6,J7]
 | i :: l,r,hr,e,hy=>by
  have k:=JU e
  have yi:=hy i (List.mem_cons_self ..)
  have t:=JV x y hn l _ (step_ok hr k.1) k.2 (fun j hj=>hy j (List.mem_cons_of_mem _ hj))
  have m:=J5 hr k.1 hn x.mem false y
  have f:=J5 hr k.1 hn x.fam true y
  rw [if_pos (Or.inr ⟨rfl,rfl,yi⟩),if_pos (Or.inr ⟨rfl,rfl,yi⟩)] at m
  rw [if_pos (Or.inl ⟨rfl,rfl,yi⟩),if_pos (Or.inl ⟨rfl,rfl,yi⟩)] at f
  simp only [D7,Ea,J6,J7]
  omega
theorem JX (x:Cx) (hn:x.net ≠ 0):∀(l:List It) (r:List Row),D7 x r l=r
 | [],_=>rfl
 | i :: l,r=>by
  have e:zO x r i=r:=by unfold zO;rw [if_neg (fun e=>hn e.2)]
  simp only [D7,e,JX x hn l]
def JB (x:Cx) (f:Bool):Int:=if f=false/\x.mode=0 then x.iD else x.fD
def JC (x:Cx) (f:Bool):Int:=if f=false/\x.mode=0 then x.iO else x.fO
def Within (x:Cx) (r:List Row):Prop:=∀w f y,(pU r w f y).de<=JB x f/\(pU r w f y).oo<=JC x f
def Jh (x:Cx):Prop:=0<=x.iD/\0<=x.fD/\0<=x.iO/\0<=x.fO
theorem within_iff (x:Cx) (hx:Jh x) {r:List Row} (hr:Ac.Ok r):Within x r ↔ ∀a ∈ r,a.de<=JB x a.fam/\a.oo<=JC x a.fam:=by
 constructor
 ·intro h a ha
  have:=h a.who a.fam a.year
  rwa [Ac.get_mem hr a ha] at this
 ·intro h w f y
  have z:(pU r w f y).fam=f:=((Ac.qN _ _ _ _).1 (Ac.get_hit r w f y)).2.1
  rcases Ac.pX r w f y with k|⟨k,_⟩
  ·have:=h _ k;rwa [z] at this
  ·rw [k]
   obtain ⟨a,b,c,d⟩:=hx
   unfold JB JC
   constructor<;>(simp only;split<;>omega)
theorem J4 {x:Cx} {r:List Row} {i:It} (h:zL x r i=0) (hn:x.net=0) :
  0<=(zU x r i).de/\0<=member (zU x r i)/\(i.why=0->(zU x r i).de<=rD x r i.yr/\member (zU x r i)<=rO x r i.yr)/\(i.why ≠ 0->(zU x r i).de=0/\member (zU x r i)=0):=by
 by_cases hw:i.why=0
 ·obtain ⟨k1,k2,_⟩:=out_ok h hw
  have b:=Sh.Jk i.al i.dd i.cp i.cn (rD x r i.yr) (rO x r i.yr) k1
  have hs:EP i.bi i.al i.pr (vD x r i) (vC x r i) (vK x r i)=0:=k2
  have p:=Sh.Fg hs
  have d1:vD x r i=bD i.al i.dd i.cp i.cn (rD x r i.yr) (rO x r i.yr) 0:=by unfold vD;rw [hn]
  have d2:vC x r i=bC i.al i.dd i.cp i.cn (rD x r i.yr) (rO x r i.yr) 0:=by unfold vC;rw [hn]
  have d3:vK x r i=bK i.al i.dd i.cp i.cn (rD x r i.yr) (rO x r i.yr) 0:=by unfold vK;rw [hn]
  rw [←d1,←d2,←d3] at b
  have e:zU x r i=EW i.bi i.al i.pr (vD x r i) (vC x r i) (vK x r i):=by unfold zU;rw [if_pos hw]
  have e1:(zU x r i).de=Sh.sD i.al i.pr (vD x r i) (vC x r i) (vK x r i):=by rw [e];unfold EW;rw [if_pos hs]
  have e2:member (zU x r i)=Sh.sD i.al i.pr (vD x r i) (vC x r i) (vK x r i)+Sh.sC i.al i.pr (vD x r i) (vC x r i) (vK x r i)+Sh.sK i.al i.pr (vD x r i) (vC x r i) (vK x r i):=by rw [e];unfold EW member;rw [if_pos hs]
  rw [e1,e2]
  refine ⟨by omega,by omega,fun _=>⟨by omega,by omega⟩,fun hx=>absurd hw hx⟩
 ·have o:zU x r i=Du i.bi i.pr i.why:=by unfold zU;rw [if_neg hw]
  have z:=JK (JG h hw)
  rw [o,z.1,z.2]
  exact ⟨by omega,by omega,fun hx=>absurd hx hw,fun _=>⟨rfl,rfl⟩⟩
theorem Jz (a b d:Int) (h:b<=a) (hd:d<=left a b):b+d<=a:=by
 unfold left at hd;split at hd<;>omega
theorem step_within {x:Cx} (hx:Jh x) {r:List Row} {i:It} (hr:Ac.Ok r) (h:zL x r i=0) (hn:x.net=0) (hw:Within x r)
  (hm:x.mode=0 ∨ ((pU r x.mem false i.yr).de<=(pU r x.fam true i.yr).de/\(pU r x.mem false i.yr).oo<=(pU r x.fam true i.yr).oo)):Within x (zO x r i):=by
 intro w f y
 have s:=J5 hr h hn w f y
 have b:=J4 h hn
 have q:=hw w f y
 by_cases hh:i.why=0
 case neg =>
  have z:=b.2.2.2 hh
  rw [z.1,z.2] at s
  constructor
  ·rw [s.1];split<;>omega
  ·rw [s.2];split<;>omega
 case pos =>
  have c:=b.2.2.1 hh
  have gm:=Ac.qc hr x.mem false i.yr
  have gf:=Ac.qc hr x.fam true i.yr
  obtain ⟨x1,x2,x3,x4⟩:=hx
  have r1:=Ac.JM x.mode x.iD x.fD (pU r x.mem false i.yr).de (pU r x.fam true i.yr).de x1 x2 (by omega) (by omega)
  have r2:=Ac.JM x.mode x.iO x.fO (pU r x.mem false i.yr).oo (pU r x.fam true i.yr).oo x3 x4 (by omega) (by omega)
  have u1:rD x r i.yr=DU x.mode x.iD x.fD (pU r x.mem false i.yr).de (pU r x.fam true i.yr).de:=rfl
  have u2:rO x r i.yr=DU x.mode x.iO x.fO (pU r x.mem false i.yr).oo (pU r x.fam true i.yr).oo:=rfl
  rw [←u1] at r1
  rw [←u2] at r2
  have qm:=hw x.mem false i.yr
  have qf:=hw x.fam true i.yr
  have lf1:JB x true=x.fD:=by simp [JB]
  have lf2:JC x true=x.fO:=by simp [JC]
  rw [lf1,lf2] at qf
  have a1:=Jz x.fD _ (zU x r i).de qf.1 (by omega)
  have a2:=Jz x.fO _ (member (zU x r i)) qf.2 (by omega)
  by_cases k1:x.fam=w/\true=f/\i.yr=y
  ·rw [if_pos (Or.inl k1),if_pos (Or.inl k1)] at s
   obtain ⟨rfl,rfl,rfl⟩:=k1
   rw [lf1,lf2,s.1,s.2]
   exact ⟨a1,a2⟩
  ·by_cases k2:x.mem=w/\false=f/\i.yr=y
   ·rw [if_pos (Or.inr k2),if_pos (Or.inr k2)] at s
    obtain ⟨rfl,rfl,rfl⟩:=k2
    rw [s.1,s.2]
    by_cases hmo:x.mode=0
    ·have l1:JB x false=x.iD:=by simp [JB,hmo]
     have l2:JC x false=x.iO:=by simp [JC,hmo]
     rw [l1,l2] at qm ⊢
     have b1:=r1.2.2.2 hmo
     have b2:=r2.2.2.2 hmo
     exact ⟨Jz x.iD _ _ qm.1 (by omega),Jz x.iO _ _ qm.2 (by omega)⟩
    ·have l1:JB x false=x.fD:=by simp [JB,hmo]
     have l2:JC x false=x.fO:=by simp [JC,hmo]
     rw [l1,l2]
     rcases hm with hm|hm
     ·exact absurd hm hmo
     ·omega
   ·have k3:¬ ((x.fam=w/\true=f/\i.yr=y) ∨ (x.mem=w/\false=f/\i.yr=y)):=fun e=>e.elim k1 k2
    rw [if_neg k3,if_neg k3] at s
    omega
theorem JY (x:Cx) (hx:Jh x) (y:Int):∀(l:List It) (r:List Row),Ac.Ok r->D6 x r l=0->(∀i ∈ l,i.yr=y)->Within x r →
  (x.mode=0 ∨ ((pU r x.mem false y).de<=(pU r x.fam true y).de/\(pU r x.mem false y).oo<=(pU r x.fam true y).oo))->Within x (D7 x r l)
 | [],r,_,_,_,h,_=>h
 | i :: l,r,hr,e,hy,h,hm=>by
  by_cases hn:x.net=0
  case neg=>rw [JX x hn];exact h
  case pos =>
   have k:=JU e
   have yi:=hy i (List.mem_cons_self ..)
   have s:=step_within hx hr k.1 hn h (by rw [yi];exact hm)
   have m:=J5 hr k.1 hn x.mem false y
   have f:=J5 hr k.1 hn x.fam true y
   rw [if_pos (Or.inr ⟨rfl,rfl,yi⟩),if_pos (Or.inr ⟨rfl,rfl,yi⟩)] at m
   rw [if_pos (Or.inl ⟨rfl,rfl,yi⟩),if_pos (Or.inl ⟨rfl,rfl,yi⟩)] at f
   refine JY x hx y l _ (step_ok hr k.1) k.2 (fun j hj=>hy j (List.mem_cons_of_mem _ hj)) s ?_
   rcases hm with hm|hm
   ·exact Or.inl hm
   ·exact Or.inr (by omega)
theorem Gf {x:Cx} (hx:Jh x) (hf:x.fD<=10000000000000/\x.fO<=10000000000000) (hn:x.net ≠ 0) {r:List Row} {i:It} (h:zL x r i=0) :
  zL x [] i=0/\zU x [] i=zU x r i/\(zU x r i).de=0:=by
 by_cases hw:i.why=0
 ·obtain ⟨k1,k2,_⟩:=out_ok h hw
  have b1:=Sh.PO i.al i.dd i.cp i.cn (rD x r i.yr) (rO x r i.yr) x.net hn k1
  have hb:Sh.ig i.al i.cp i.cn (rD x r i.yr) (rO x r i.yr)=true:=by
   have k1':bE i.al i.cp i.cn (rD x r i.yr) (rO x r i.yr)=0:=k1
   cases e:Sh.ig i.al i.cp i.cn (rD x r i.yr) (rO x r i.yr) with
   | true=>rfl
   | false=>simp [bE,e] at k1'
  obtain ⟨p,q,_,_,n⟩:=(Sh.iG _ _ _ _ _).1 hb
  have r1:0<=rD x [] i.yr/\rD x [] i.yr<=x.fD:=by
   have:=Ac.JM x.mode x.iD x.fD 0 0 hx.1 hx.2.1 (by omega) (by omega)
   exact ⟨this.1,this.2.1⟩
  have r2:0<=rO x [] i.yr/\rO x [] i.yr<=x.fO:=by
   have:=Ac.JM x.mode x.iO x.fO 0 0 hx.2.2.1 hx.2.2.2 (by omega) (by omega)
   exact ⟨this.1,this.2.1⟩
  have e0:eB x [] i=0:=by
   have hb2:Sh.ig i.al i.cp i.cn (rD x [] i.yr) (rO x [] i.yr)=true:=(Sh.iG _ _ _ _ _).2 ⟨p,q,by omega,by omega,n⟩
   unfold eB bE;rw [if_pos hb2]
  have b2:=Sh.PO i.al i.dd i.cp i.cn (rD x [] i.yr) (rO x [] i.yr) x.net hn e0
  have e1:vD x [] i=vD x r i:=b2.2.1.symm.trans b1.2.1
  have e2:vC x [] i=vC x r i:=b2.2.2.1.symm.trans b1.2.2.1
  have e3:vK x [] i=vK x r i:=b2.2.2.2.1.symm.trans b1.2.2.2.1
  have z:vD x r i=0:=b1.2.1.symm.trans b1.2.2.2.2
  have es:eS x [] i=0:=by unfold eS;rw [e1,e2,e3];exact k2
  have ev:zU x [] i=zU x r i:=by unfold zU;rw [e1,e2,e3]
  refine ⟨?_,ev,?_⟩
  ·unfold zL;rw [if_pos hw,if_pos e0,if_pos es,if_neg hn]
  ·have hs:EP i.bi i.al i.pr (vD x r i) (vC x r i) (vK x r i)=0:=k2
   have t:=Sh.Fg hs
   have d:(zU x r i).de=Sh.sD i.al i.pr (vD x r i) (vC x r i) (vK x r i):=by unfold zU;rw [if_pos hw];unfold EW;rw [if_pos hs]
   rw [d];omega
 ·have k:=JG h hw
  have o (t:List Row):zU x t i=Du i.bi i.pr i.why:=by unfold zU;rw [if_neg hw]
  refine ⟨?_,(o []).trans (o r).symm,?_⟩
  ·unfold zL;rw [if_neg hw];exact k
  ·rw [o r];exact (JK k).1
theorem run_any (x:Cx) (hx:Jh x) (hf:x.fD<=10000000000000/\x.fO<=10000000000000) (hn:x.net ≠ 0):∀(l:List It) (r:List Row),D6 x r l=0 →
  D6 x [] l=0/\Ea x [] l=Ea x r l/\∀o ∈ Ea x r l,o.de=0
 | [],_,_=>⟨rfl,rfl,by simp [Ea]⟩
 | i :: l,r,h=>by
  have k:=JU h
  have s:=Gf hx hf hn k.1
  have e (t:List Row):zO x t i=t:=by unfold zO;rw [if_neg (fun e=>hn e.2)]
  have k2:=k.2
  rw [e] at k2
  have t:=run_any x hx hf hn l r k2
  simp only [Ea,e]
  refine ⟨?_,?_,fun o ho=>?_⟩
  ·unfold D6;rw [if_pos s.1,e];exact t.1
  ·rw [s.2.1,t.2.1]
  ·rcases List.mem_cons.1 ho with rfl|ho
   ·exact s.2.2
   ·exact t.2.2 o ho
end Go.Proofs.YtfbfeoplldjbpaaGreatDoor.Ju
end
section
namespace Go.Proofs.YtfbfeoplldjbpaaGreatDoor
end Go.Proofs.YtfbfeoplldjbpaaGreatDoor
end
section
namespace Go.Proofs.YtfbfeoplldjbpaaGreatDoor.Wo
abbrev Wd:=Tx × Nat
def kd (c:UInt8):Nat:=if c=32 ∨ c=10 then 1 else if c=40 ∨ c=41 then 2 else if c=46 ∨ (48<=c/\c<=57) ∨ (65<=c/\c<=90) ∨ (97<=c/\c<=122) then 3 else 0
def fb:Nat->Tx->Option Nat
 | _,[]=>none
 | p,c :: t=>if kd c=0 then some p else fb (p+1) t
def good (l:Tx):Bool:=l.all fun c=>kd c != 0
end Go.Proofs.YtfbfeoplldjbpaaGreatDoor.Wo
end
section
namespace Go.Proofs.YtfbfeoplldjbpaaGreatDoor.Ce
def eF (f:Nat->Int):Nat->Bool
 | 0=>true
 | n+1=>eF f n && good (f n)
def tot (f:Nat->Int):Nat->Int
 | 0=>0
 | n+1=>tot f n+f n
def Gu (f:Nat->Int) (n:Nat):Int:=if eF f n=true/\tot f n<=10000000000000 then tot f n else 0
def Gt (f:Nat->Int) (n:Nat):Int:=if eF f n=true then (if tot f n<=10000000000000 then 0 else 2) else 1
theorem eG (f:Nat->Int):∀(n k:Nat),k < n->eF f n=true->good (f k)=true
 | 0,_,h,_=>absurd h (by omega)
 | n+1,k,h,g=>by
  simp only [eF,Bool.and_eq_true] at g
  by_cases e:k=n
  ·rw [e];exact g.2
  ·exact eG f n k (by omega) g.1
theorem eU (f:Nat->Int) (n k:Nat) (h:k < n) (g:good (f k)=false):eF f n=false:=by
 cases e:eF f n
 ·rfl
 ·rw [eG f n k h e] at g;cases g
theorem eP (f:Nat->Int) (k:Nat) (h:eF f k=true) (g:good (f k)=true):eF f (k+1)=true:=by
 simp only [eF,h,g,Bool.and_self]
theorem G7 (f:Nat->Int) (n:Nat) (g:eF f n=true):∀(j k:Nat),k+j=n->tot f k<=tot f n
 | 0,k,h=>by rw [←h];exact Int.le_refl _
 | j+1,k,h=>by
  have h1:=G7 f n g j (k+1) (by omega)
  have h2:=(ql _).1 (eG f n k (by omega) g)
  simp only [tot] at h1
  omega
theorem G8 (f:Nat->Int) (n:Nat) (g:eF f n=true) (k:Nat) (h:k<=n):0<=tot f k:=by
 induction k with
 | zero=>exact Int.le_refl _
 | succ k ih =>
  have h1:=ih (by omega)
  have h2:=(ql _).1 (eG f n k (by omega) g)
  simp only [tot]
  omega
theorem Gx (f:Nat->Int) (n k:Nat) (g:eF f n=true) (h:k < n) (o:10000000000000 < tot f k+f k):Gu f n=0/\Gt f n=2:=by
 have h1:=G7 f n g (n - (k+1)) (k+1) (by omega)
 simp only [tot] at h1
 constructor
 ·unfold Gu;rw [if_neg];omega
 ·unfold Gt;rw [if_pos g,if_neg];omega
theorem Gw (f:Nat->Int) (n:Nat) (g:eF f n=true) (h:tot f n<=10000000000000):Gu f n=tot f n/\Gt f n=0:=by
 constructor
 ·unfold Gu;rw [if_pos ⟨g,h⟩]
 ·unfold Gt;rw [if_pos g,if_pos h]
theorem Gv (f:Nat->Int) (n:Nat) (g:eF f n=false):Gu f n=0/\Gt f n=1:=by
 constructor
 ·unfold Gu;rw [if_neg];rw [g];simp
 ·unfold Gt;rw [if_neg];rw [g];simp
end Go.Proofs.YtfbfeoplldjbpaaGreatDoor.Ce
end
section
namespace Go.Proofs.YtfbfeoplldjbpaaGreatDoor.Da
def uP (y:Int):Bool:=(y % 4 == 0 && y % 100 != 0) || y % 400 == 0
def lens:List Int:=[31,28,31,30,31,30,31,31,30,31,30,31]
def uV (m:Int):Int:=lens.getD (m - 1).toNat 0
def uU (y m:Int):Int:=if (m == 2 && uP y)=true then 29 else uV m
def yr (n:Int):Int:=n.tdiv 10000
def mo (n:Int):Int:=(n.tdiv 100).tmod 100
def da (n:Int):Int:=n.tmod 100
def good (n:Int):Bool:=decide (1<=yr n/\yr n<=9999/\1<=mo n/\mo n<=12/\1<=da n/\da n<=uU (yr n) (mo n))
theorem Je (n:Int) (h:0<=n):yr n=n / 10000:=by unfold yr;exact Int.tdiv_eq_ediv_of_nonneg h
theorem xO (n:Int) (h:0<=n):mo n=n / 100 % 100:=by unfold mo;rw [Int.tdiv_eq_ediv_of_nonneg h,Int.tmod_eq_emod_of_nonneg (by omega)]
theorem mG (n:Int) (h:0<=n):da n=n % 100:=by unfold da;exact Int.tmod_eq_emod_of_nonneg h
theorem yj (m:Int) (h1:1<=m) (h2:m<=12):m=1 ∨ m=2 ∨ m=3 ∨ m=4 ∨ m=5 ∨ m=6 ∨ m=7 ∨ m=8 ∨ m=9 ∨ m=10 ∨ m=11 ∨ m=12:=by omega
theorem parts (n:Int) (h:0<=n):n=yr n * 10000+mo n * 100+da n/\0<=mo n/\mo n<=99/\0<=da n/\da n<=99/\0<=yr n:=by
 rw [Je n h,xO n h,mG n h];omega
end Go.Proofs.YtfbfeoplldjbpaaGreatDoor.Da
end
section
namespace Go.Proofs.YtfbfeoplldjbpaaGreatDoor.Cm
structure Ln where
 proc:Tx
 mods:List Tx
 date:Int
 units:Int
 billed:Int
 prior:Int
structure Cl where
 id:Tx
 mem:Tx
 fam:Tx
 net:Int
 does:Int
 ref:Tx
 lines:List Ln
def ln0:Ln:=⟨[],[],0,0,0,0⟩
def I64 (n:Int):Prop:=-9223372036854775808<=n/\n<=9223372036854775807
def bG (x:Ln):Prop:=I64 x.date/\I64 x.units/\I64 x.billed/\I64 x.prior/\x.proc.length<=281474976710656/\x.mods.length<=281474976710656/\∀t ∈ x.mods,t.length<=281474976710656
def aC (c:Cl):Prop:=I64 c.net/\I64 c.does/\c.id.length<=281474976710656/\c.mem.length<=281474976710656/\c.fam.length<=281474976710656/\c.ref.length<=281474976710656/\c.lines.length<=281474976710656/\∀x ∈ c.lines,bG x
def FH (c:UInt8):Bool:=(decide (65<=c.toNat) && decide (c.toNat<=90)) || (decide (48<=c.toNat) && decide (c.toNat<=57))
def lM (s:Tx) (f t:Int):Bool:=decide (f<=(s.length:Int)) && decide ((s.length:Int)<=t) && s.all FH
def xQ (l:List Tx):Bool:=decide (l.length<=4) && l.all fun x=>lM x 2 2
def lU (l:Ln):Bool:=lM l.proc 5 5 && xQ l.mods
def Hq (n:Int):Bool:=decide (1<=n) && decide (n<=9999)
def yh (l:Ln):Bool:=Ce.good l.billed && Ce.good l.prior && decide (l.prior<=l.billed)
def vS (l:Ln):Int:=if lU l=true then (if Da.good l.date=true then (if Hq l.units=true then (if yh l=true then 0 else 8) else 3) else 7) else 9
def bil (ls:List Ln) (i:Nat):Int:=(ls.getD i ln0).billed
def G6 (ls:List Ln):Int:=if Ce.Gt (bil ls) ls.length=0 then Ce.Gu (bil ls) ls.length else 0
def G5 (ls:List Ln):Int:=if Ce.Gt (bil ls) ls.length=0 then 0 else 8
def oU (y:Int):List Ln->Int
 | []=>0
 | x :: r=>if vS x=0 then (if Da.yr x.date=y then oU y r else 7) else vS x
def vW (ls:List Ln):Int:=oU (Da.yr (ls.getD 0 ln0).date) ls
def yA (c:Cl):Bool:=lM c.id 1 12 && (lM c.mem 1 12 && lM c.fam 1 12)
def yF (n:Int):Bool:=decide (n=0) || decide (n=1)
def Dq (c:Cl):Bool:=if c.does=1 then decide (c.ref=[]) else lM c.ref 1 12
def nD (n:Int):Bool:=decide (n=1) || (decide (n=7) || decide (n=8))
def qJ (c:Cl):Int:=if yA c=true then (if yF c.net=true then (if Dq c=true then (if nD c.does=true then 0 else 3) else 9) else 3) else 9
def Ia (c:Cl):Bool:=(decide (c.does=8) == decide (c.lines.length=0))
def DJ (c:Cl):Int:=if c.lines.length<=999 then (if Ia c=true then (if vW c.lines=0 then G5 c.lines else vW c.lines) else 6) else 10
def kF (c:Cl):Int:=if qJ c=0 then DJ c else qJ c
theorem drop_step {α:Type} (l:List α) (k:Nat) (x:α) (h:l[k]?=some x):l.drop k=x :: l.drop (k+1):=by
 obtain ⟨hk,rfl⟩:=List.getElem?_eq_some_iff.1 h
 exact List.drop_eq_getElem_cons hk
theorem jy (ls:List Ln) (k:Nat) (x:Ln) (h:ls[k]?=some x):bil ls k=x.billed:=by
 unfold bil;rw [List.getD_eq_getElem?_getD,h];rfl
theorem oV (y:Int) (ls:List Ln) (k:Nat) (x:Ln) (h:ls[k]?=some x) (hk:oU y (ls.drop k)=oU y ls) (h0:vS x ≠ 0):oU y ls=vS x:=by
 rw [←hk,drop_step ls k x h];simp [oU,h0]
theorem o8 (y:Int) (ls:List Ln) (k:Nat) (x:Ln) (h:ls[k]?=some x) (hk:oU y (ls.drop k)=oU y ls) (h0:vS x=0) (h1:Da.yr x.date ≠ y):oU y ls=7:=by
 rw [←hk,drop_step ls k x h];simp [oU,h0,h1]
theorem o7 (y:Int) (ls:List Ln) (k:Nat) (x:Ln) (h:ls[k]?=some x) (hk:oU y (ls.drop k)=oU y ls) (h0:vS x=0) (h1:Da.yr x.date=y):oU y (ls.drop (k+1))=oU y ls:=by
 rw [←hk,drop_step ls k x h];simp [oU,h0,h1]
theorem oZ (y:Int) (ls:List Ln) (k:Nat) (h:ls.length<=k) (hk:oU y (ls.drop k)=oU y ls):oU y ls=0:=by
 rw [←hk,List.drop_of_length_le h];rfl
theorem vT {x:Ln} (h:vS x=0):Da.good x.date=true:=by
 unfold vS at h
 split at h
 ·split at h
  ·assumption
  ·omega
 ·omega
end Go.Proofs.YtfbfeoplldjbpaaGreatDoor.Cm
end
section
namespace Go.Proofs.YtfbfeoplldjbpaaGreatDoor.Nu
open Go.Lib
end Go.Proofs.YtfbfeoplldjbpaaGreatDoor.Nu
end
section
namespace Go.Proofs.YtfbfeoplldjbpaaGreatDoor.Pl
open Wo (Wd)
structure Cd where
 kind:Int
 lo:Tx
 hi:Tx
 n:Int
 kids:List Cd
structure St where
 what:Int
 n:Int
structure Ru where
 rank:Int
 cif:Cd
 unl:List Cd
 sets:List St
structure Pn where
 mode:Int
 indDed:Int
 famDed:Int
 indOop:Int
 famOop:Int
 rules:List Ru
def cd0:Cd:=.mk 0 [] [] 0 []
def qg (n:Int):Bool:=decide (0<=n) && decide (n<=10000000000000)
def uD (k:Int):Nat:=if k=6 then 1 else if k=7 ∨ k=8 then 2 else 0
def loB (k:Int) (lo:Tx):Bool:=if k=1 then Cm.lM lo 5 5 else if k=2 then Cm.lM lo 2 2 else decide (lo=[])
def hiB (k:Int) (hi:Tx):Bool:=if k=1 then Cm.lM hi 5 5 else decide (hi=[])
def nB (k n:Int):Bool:=if k=3 then decide (0<=n) && decide (n<=9999) else if k=4 then qg n else decide (n=0)
def uM (k:Int) (lo hi:Tx) (n:Int):Bool:=(decide (0<=k) && decide (k<=8)) && (loB k lo && (hiB k hi && nB k n))
def lV:Nat->Cd->Bool
 | 0,_=>false
 | f+1,.mk k lo hi n ks=>decide (ks.length=uD k) && (ks.all (lV f) && uM k lo hi n)
def setB (s:St):Bool:=decide (0<=s.n) && (if s.what=1 ∨ s.what=2 then decide (s.n<=1) else if s.what=3 then qg s.n else if s.what=4 then decide (s.n<=10000) else false)
def Fp:List Int->List St->Bool
 | _,[]=>true
 | seen,s :: r=>setB s && (decide (s.what ∉ seen) && Fp (seen ++ [s.what]) r)
def DZ (r:Ru):Bool:=(decide (0<=r.rank) && decide (r.rank<=9999)) && (lV 16 r.cif && (decide (r.unl.length<=1) && (r.unl.all (lV 16) && (decide (1<=r.sets.length) && Fp [] r.sets))))
def vI (p:Pn):Bool:=qg p.indDed && (qg p.famOop && (decide (p.indDed<=p.famDed) && (decide (p.famDed<=p.famOop) && (decide (p.indDed<=p.indOop) && decide (p.indOop<=p.famOop)))))
def Bj (p:Pn):Bool:=(decide (p.mode=0) || decide (p.mode=1)) && (decide (p.rules.length<=64) && (vI p && p.rules.all DZ))
def kF (p:Pn):Int:=if Bj p=true then 0 else 15
abbrev R (α:Type):=Except (Int × Nat) (α × List Wd)
def pos (E:Nat):List Wd->Nat
 | []=>E
 | x :: _=>x.2
theorem map_cons {a:List Wd} {t:Tx} {ts:List Tx} (h:a.map (·.1)=t :: ts):∃p r,a=(t,p) :: r/\r.map (·.1)=ts:=by
 cases a with
 | nil=>cases h
 | cons x r=>simp only [List.map_cons,List.cons.injEq] at h;exact ⟨x.2,r,by rw [←h.1],h.2⟩
theorem map_nil {a:List Wd} (h:a.map (·.1)=[]):a=[]:=by simpa using h
theorem tN {k:Int} (h0:0<=k) (h8:k<=8):k=0 ∨ k=1 ∨ k=2 ∨ k=3 ∨ k=4 ∨ k=5 ∨ k=6 ∨ k=7 ∨ k=8:=by omega
end Go.Proofs.YtfbfeoplldjbpaaGreatDoor.Pl
end
section
namespace Go.Proofs.YtfbfeoplldjbpaaGreatDoor.Ul
open Pl (Cd St Ru Pn)
open Cm (Ln)
def holdsB (x:Ln) (net:Int):Cd->Bool
 | ⟨k,lo,hi,n,ks⟩ =>
  if k=0 then true
  else if k=1 then !Op.bytesLess x.proc lo && !Op.bytesLess hi x.proc
  else if k=2 then x.mods.any fun t=>decide (t=lo)
  else if k=3 then decide (n < x.units)
  else if k=4 then decide (n < x.billed)
  else if k=5 then decide (net=1)
  else match ks with
   | []=>decide (k=6)
   | [a]=>if k=6 then !holdsB x net a else if k=8 then holdsB x net a else false
   | a :: b :: _=>if k=6 then !holdsB x net a else if k=7 then holdsB x net a && holdsB x net b else if k=8 then holdsB x net a || holdsB x net b else false
def uz (x:Ln) (net:Int) (ks:List Cd) (i:Nat):Bool:=(ks.map (holdsB x net)).getD i false
theorem uF (x:Ln) (net:Int) (ks:List Cd) (i:Nat) (h:ks.length<=i):uz x net ks i=false:=by
 unfold uz
 rw [List.getD_eq_getElem?_getD,List.getElem?_eq_none (by simpa using h)];rfl
theorem uG (x:Ln) (net:Int) (ks:List Cd) (i:Nat) (c:Cd) (h:ks[i]?=some c):uz x net ks i=holdsB x net c:=by
 unfold uz
 rw [List.getD_eq_getElem?_getD,List.getElem?_map,h];rfl
theorem rG (x:Ln) (net n:Int) (lo hi:Tx) (ks:List Cd):holdsB x net (.mk 6 lo hi n ks) = !uz x net ks 0:=by
 match ks with
 | []=>rw [holdsB];rfl
 | [a]=>rw [holdsB];rfl
 | a :: b :: r=>rw [holdsB];rfl
theorem rF (x:Ln) (net n:Int) (lo hi:Tx) (ks:List Cd):holdsB x net (.mk 7 lo hi n ks)=(uz x net ks 0 && uz x net ks 1):=by
 match ks with
 | []=>rw [holdsB];rfl
 | [a]=>rw [holdsB];show false=(holdsB x net a && false);rw [Bool.and_false]
 | a :: b :: r=>rw [holdsB];rfl
theorem rH (x:Ln) (net n:Int) (lo hi:Tx) (ks:List Cd):holdsB x net (.mk 8 lo hi n ks)=(uz x net ks 0 || uz x net ks 1):=by
 match ks with
 | []=>rw [holdsB];rfl
 | [a]=>rw [holdsB];show holdsB x net a=(holdsB x net a || false);rw [Bool.or_false]
 | a :: b :: r=>rw [holdsB];rfl
theorem holds_none (x:Ln) (net n k:Int) (lo hi:Tx) (ks:List Cd) (h:k < 0 ∨ 8 < k):holdsB x net (.mk k lo hi n ks)=false:=by
 have e:∀j:Int,0<=j->j<=8->k ≠ j:=fun j h0 h8 e=>by omega
 match ks with
 | []=>rw [holdsB];simp [e]
 | [a]=>rw [holdsB];simp [e]
 | a :: b :: r=>rw [holdsB];simp [e]
def gK (x:Ln) (net:Int) (r:Ru):Bool:=holdsB x net r.cif && !r.unl.any (holdsB x net)
def setOf (what:Int) (l:List St):Option Int:=(l.find? fun s=>decide (s.what=what)).map (·.n)
def F7 (x:Ln) (net what:Int) (b:Int × Int) (r:Ru):Int × Int:=
 if r.rank<=b.1 then b else if gK x net r=true then (match setOf what r.sets with|some n=>(r.rank,n)|none=>b) else b
def jm (x:Ln) (net what:Int) (l:List Ru):Int × Int:=l.foldl (F7 x net what) (-1,0)
def Hy (x:Ln) (net what:Int) (l:List Ru):Int:=(jm x net what l).2
theorem Gf {x:Ln} {net what:Int} {b:Int × Int} {r:Ru} (h:gK x net r=false):F7 x net what b r=b:=by
 unfold F7;rw [h];split<;>rfl
end Go.Proofs.YtfbfeoplldjbpaaGreatDoor.Ul
end
section
namespace Go.Proofs.YtfbfeoplldjbpaaGreatDoor.Wo
def bP (s:Tx):Nat->List Wd->Prop
 | _,[]=>True
 | a,x :: r=>a<=x.2/\x.1 ≠ []/\x.2+x.1.length<=s.length/\(s.drop x.2).take x.1.length=x.1/\bP s (x.2+x.1.length) r
theorem bP.at {s:Tx} {a:Nat} {l:List Wd} {k:Nat} (h:bP s a (l.drop k)) (hk:k < l.length):a<=l[k].2/\l[k].1 ≠ []/\l[k].2+l[k].1.length<=s.length/\(s.drop l[k].2).take l[k].1.length=l[k].1/\bP s (l[k].2+l[k].1.length) (l.drop (k+1)):=by
 rw [List.drop_eq_getElem_cons hk] at h
 exact h
end Go.Proofs.YtfbfeoplldjbpaaGreatDoor.Wo
end
section
namespace Go.Proofs.YtfbfeoplldjbpaaGreatDoor.Pl
open Wo (Wd kd)
end Go.Proofs.YtfbfeoplldjbpaaGreatDoor.Pl
end
