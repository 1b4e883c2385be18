/-
  Texts put together (merge.py): XHas, IMath, YOrd.
-/
import Derived.Test.YtfbfeoplldjbpaaGreatDoorMd4
set_option linter.unusedSimpArgs false
set_option linter.unusedVariables false
set_option maxHeartbeats 16000000
set_option maxRecDepth 100000
namespace Go.Proofs.YtfbfeoplldjbpaaGreatDoor
namespace Ex
open Go.RowKit
open Wo (Wd jI jQ tV qL iU jg)
open Cm (Ln bH bg lnv)
def ixF:Nat->List Tx->Tx->Int
 | _,[],_=>-1
 | n,y :: r,x=>if y=x then (n:Nat) else ixF (n+1) r x
abbrev ixI (ts:List Tx) (x:Tx):Int:=ixF 0 ts x
theorem sW:∀ {ts:List Tx} {x:Tx} {k n:Nat},ts[k]?=some x->x ∉ ts.take k->ixF n ts x=(n+k:Nat)
 | [],x,k,n,h,_=>by simp at h
 | y :: r,x,0,n,h,_=>by simp at h;subst h;simp [ixF]
 | y :: r,x,k+1,n,h,hn=>by
  simp only [List.take_succ_cons,List.mem_cons,not_or] at hn;have ih:=sW (ts:=r) (x:=x) (k:=k) (n:=n+1) (by simpa using h) hn.2;simp only [ixF];rw [if_neg (fun e=>hn.1 e.symm),ih];omega
theorem tq:∀ {ts:List Tx} {x:Tx} {n:Nat},x ∉ ts->ixF n ts x=-1
 | [],_,_,_=>rfl
 | y :: r,x,n,h=>by
  simp only [List.mem_cons,not_or] at h;simp only [ixF];rw [if_neg (fun e=>h.1 e.symm),tq h.2]
theorem sV {ts:List Tx} {x:Tx} {k:Nat} (h:ts[k]?=some x) (hn:x ∉ ts.take k):ixI ts x=(k:Nat):=by rw [ixI,sW h hn,Nat.zero_add]
theorem sZ {ts:List Tx} {x:Tx} (hn:x ∉ ts):ixI ts x=-1:=tq hn
theorem rU (v:Value) (ts:List Tx) (x:Tx) (w:World) (h:dI All w v ts) :
  Calls Tryz.prog 166 #[v,.string (mk x)] w fun e w'=>e=.returned (iI (ixI ts x))/\w'=w:=by
 obtain ⟨a,c,rfl,h1,h2,h3⟩:=h;have H3:=zZ h3;unfold maxLen at h2;clear h3;have HH:=zZ fun (k:Nat) (hk:k < ts.length) (he:ts[k]=x) (hn:x ∉ ts.take k)=>sV (by rw [List.getElem?_eq_getElem hk,he]) hn;have HM:=zZ fun (hn:x ∉ ts)=>sZ hn;generalize ixI ts x=R at *;go_enter Tryz.func166,Tryz.ntmps166
 go_wp2;go_loopg [8] (ts.length) (fun g i wr=>∃(k:Nat),k<=ts.length/\g=ts.length - k/\i=iI k/\wr=w/\Hid (x ∉ ts.take k))
 case atStart=>exact ⟨0,Nat.zero_le _,rfl,rfl,rfl,by show _ ∉ _;simp⟩
 case round =>
  obtain ⟨k,hk,hg,rfl,hw,HA⟩:=hrel;rw [hw];clear hw wr;by_cases hlt:k < ts.length
  ·obtain ⟨b,o,rfl,hx,hu⟩:∃b o,a=some ⟨b,o,none⟩/\ts[k]?=some ts[k]/\w.cell? ⟨b,o+k,none⟩=some (.string (mk ts[k])):=by
    rcases H3.out with h|⟨b,o,ha,_,hb,hc⟩
    ·subst h;simp at hlt
    ·have hx:=List.getElem?_eq_getElem hlt;obtain ⟨u,q1,rfl⟩:=hc k _ hx;exact ⟨b,o,ha,hx,q1⟩
   have hn:=xH x ts[k];have HK:=zZ fun he=>HH.out k hlt he HA.out;have HN:Hid (¬ ts[k]=x->x ∉ ts.take (k+1)):=fun he=>by
    show x ∉ ts.take (k+1);rw [List.take_add_one,hx];simp only [Option.toList_some,List.mem_append,List.mem_singleton,not_or];exact ⟨HA.out,fun e=>he e.symm⟩
   clear hx;by_cases he:x=ts[k]
   ·rw [decide_eq_true he] at hn;have HK2:=zZ (HK.out he.symm);clear he;generalize mk ts[k]=Y at *;generalize mk x=X at *;go_wp2;go_ret;exact ⟨by rw [HK2.out];rfl,rfl⟩
   ·rw [decide_eq_false he] at hn;have HN2:=zZ (HN.out fun e=>he e.symm);clear he;generalize mk ts[k]=Y at *;generalize mk x=X at *;go_wp2;go_roundg (ts.length - (k+1))
    case rel=>exact ⟨k+1,by omega,rfl,by go_num,rfl,HN2.out⟩
    case measure=>omega
  ·have hall:ts.take k=ts:=List.take_of_length_le (by omega);have HM2:=zZ (HM.out (by rw [←hall];exact HA.out));clear hall;go_wp2;go_ret;exact ⟨by rw [HM2.out];rfl,rfl⟩
theorem sU:∀(ts:List Tx) (x:Tx) (n:Nat),x ∈ ts->0<=ixF n ts x
 | [],x,n,h=>by cases h
 | y :: r,x,n,h=>by
  simp only [ixF];split
  ·omega
  ·next e=>exact sU r x (n+1) (by rcases List.mem_cons.1 h with h|h;exact absurd h.symm e;exact h)
def hasB (l:List Ln) (p:Tx) (d:Int):Bool:=l.any fun x=>decide (x.proc=p) && decide (x.date=d)
theorem qA {l:List Ln} {p:Tx} {d:Int}:hasB l p d=true ↔ ∃(j:Nat) (b:Ln),l[j]?=some b/\b.proc=p/\b.date=d:=by
 unfold hasB;rw [List.any_eq_true];constructor
 ·rintro ⟨x,hx,h⟩;obtain ⟨j,hj⟩:=List.getElem?_of_mem hx;simp only [Bool.and_eq_true,decide_eq_true_eq] at h;exact ⟨j,x,hj,h⟩
 ·rintro ⟨j,b,hj,h1,h2⟩;exact ⟨b,List.mem_of_getElem? hj,by simp [h1,h2]⟩
theorem qC {l:List Ln} {p:Tx} {d:Int} {i:Nat}:hasB (l.take i) p d=true ↔ ∃(j:Nat) (b:Ln),l[j]?=some b/\j < i/\b.proc=p/\b.date=d:=by
 rw [qA];constructor
 ·rintro ⟨j,b,hj,h⟩;rw [List.getElem?_take] at hj;split at hj
  ·next hlt=>exact ⟨j,b,hj,hlt,h⟩
  ·cases hj
 ·rintro ⟨j,b,hj,hlt,h⟩;exact ⟨j,b,by rw [List.getElem?_take,if_pos hlt];exact hj,h⟩
theorem qx {l:List Ln} {p:Tx} {d:Int} {i:Nat}:hasB (l.drop (i+1)) p d=true ↔ ∃(j:Nat) (b:Ln),l[j]?=some b/\i < j/\b.proc=p/\b.date=d:=by
 rw [qA];constructor
 ·rintro ⟨j,b,hj,h⟩;rw [List.getElem?_drop] at hj;exact ⟨i+1+j,b,hj,by omega,h⟩
 ·rintro ⟨j,b,hj,hlt,h⟩;exact ⟨j - (i+1),b,by rw [List.getElem?_drop,show i+1+(j - (i+1))=j by omega];exact hj,h⟩
theorem Ig (e:Ed) (a:Ln) (i:Nat) (V:Int) (P:Nat->Ln->Prop) (hV:¬ V=0) (h:∀k b,(P k b/\Ih e a i k b=V) ∨ (¬ P k b/\Ih e a i k b=0)):∀(l:List Ln) (k:Nat),((∃(j:Nat) (b:Ln),l[j]?=some b/\P (k+j) b)/\Ie e a i k l=V) ∨ ((∀j b,l[j]?=some b->¬ P (k+j) b)/\Ie e a i k l=0)
 | [],k=>Or.inr ⟨by simp,rfl⟩
 | b :: r,k=>by
  rcases h k b with ⟨h1,h2⟩|⟨h1,h2⟩
  ·refine Or.inl ⟨⟨0,b,rfl,h1⟩,?_⟩;unfold Ie;rw [h2,if_neg hV]
  ·have e1:Ie e a i k (b :: r)=Ie e a i (k+1) r:=by rw [Ie,if_pos h2]
   rw [e1];rcases Ig e a i V P hV h r (k+1) with ⟨⟨j,c,hj,hp⟩,hw⟩|⟨hn,hw⟩
   ·exact Or.inl ⟨⟨j+1,c,by simpa using hj,by rw [show k+(j+1)=k+1+j by omega];exact hp⟩,hw⟩
   ·refine Or.inr ⟨fun j c hj=>?_,hw⟩;cases j with
    | zero=>simp at hj;subst hj;exact h1
    | succ j=>rw [show k+(j+1)=k+1+j by omega];exact hn j c (by simpa using hj)
def toB (e:Ed) (a:Ln):Bool:=decide (a.proc=e.a) && decide (e.n < a.units)
def buB (e:Ed) (l:List Ln) (i:Nat) (a:Ln):Bool:=decide (a.proc=e.b) && !(e.bypass && byB a) && (hasB (l.take i) e.a a.date || hasB (l.drop (i+1)) e.a a.date)
def exB (e:Ed) (l:List Ln) (i:Nat) (a:Ln):Bool:=if a.proc=e.a then hasB (l.take i) e.b a.date else if a.proc=e.b then hasB (l.take i) e.a a.date else false
theorem Io (e:Ed) (l:List Ln) (i:Nat) (a:Ln) (h1:¬ e.kind=1) (h2:¬ e.kind=2):Ie e a i 0 l=0:=by
 rcases Ig e a i 1 (fun _ _=>False) (by decide) (fun k b=>Or.inr ⟨id,by unfold Ih;split;rfl;rw [if_neg (fun h=>h1 h.1),if_neg (fun h=>h2 h.1)]⟩) l 0 with ⟨⟨_,_,_,h⟩,_⟩|⟨_,h⟩
 ·exact h.elim
 ·exact h
theorem Ij (e:Ed) (l:List Ln) (i:Nat) (a:Ln) (hk:e.kind=1):Ie e a i 0 l=if buB e l i a=true then 97 else 0:=by
 have h2:¬ e.kind=2:=by omega
 have hb:buB e l i a=true ↔ (a.proc=e.b/\¬ (e.bypass=true/\byB a=true))/\((∃(j:Nat) (b:Ln),l[j]?=some b/\j < i/\b.proc=e.a/\b.date=a.date) ∨ (∃(j:Nat) (b:Ln),l[j]?=some b/\i < j/\b.proc=e.a/\b.date=a.date)):=by
  have hn:(!(e.bypass && byB a))=true ↔ ¬ (e.bypass=true/\byB a=true):=by cases e.bypass<;>cases byB a<;>simp
  unfold buB;rw [Bool.and_eq_true,Bool.and_eq_true,hn,Bool.or_eq_true,qC,qx,decide_eq_true_eq]
 rcases Ig e a i 97 (fun k b=>k ≠ i/\b.date=a.date/\a.proc=e.b/\b.proc=e.a/\¬ (e.bypass=true/\byB a=true)) (by decide) (fun k b=>by
  unfold Ih;by_cases c:k ≠ i/\b.date=a.date/\a.proc=e.b/\b.proc=e.a/\¬ (e.bypass=true/\byB a=true)
  ·refine Or.inl ⟨c,?_⟩;rw [if_neg (by rintro (h|h);exact c.1 h;exact h c.2.1),if_pos ⟨hk,c.2.2⟩]
  ·refine Or.inr ⟨c,?_⟩;by_cases d:k=i ∨ b.date ≠ a.date
   ·rw [if_pos d]
   ·rw [if_neg d,if_neg (fun h=>c ⟨fun h'=>d (Or.inl h'),Classical.byContradiction fun h'=>d (Or.inr h'),h.2⟩),if_neg (fun h=>h2 h.1)]) l 0 with ⟨⟨j,b,hj,hp⟩,hw⟩|⟨hn,hw⟩
 ·rw [hw,if_pos (hb.2 ⟨⟨hp.2.2.1,hp.2.2.2.2⟩,?_⟩)];have hji:j ≠ i:=by have:=hp.1;omega
  rcases Nat.lt_or_gt_of_ne hji with h|h
  ·exact Or.inl ⟨j,b,hj,h,hp.2.2.2.1,hp.2.1⟩
  ·exact Or.inr ⟨j,b,hj,h,hp.2.2.2.1,hp.2.1⟩
 ·rw [hw,if_neg];intro hh;obtain ⟨⟨c1,c2⟩,h⟩:=hb.1 hh;rcases h with ⟨j,b,hj,hlt,hp,hd⟩|⟨j,b,hj,hlt,hp,hd⟩
  iterate 2
   ·exact hn j b hj ⟨by omega,hd,c1,hp,c2⟩
theorem Ik (e:Ed) (l:List Ln) (i:Nat) (a:Ln) (hk:e.kind=2):Ie e a i 0 l=if exB e l i a=true then 236 else 0:=by
 have h1:¬ e.kind=1:=by omega
 have hb:exB e l i a=true ↔ ∃(j:Nat) (b:Ln),l[j]?=some b/\j < i/\b.date=a.date/\(a.proc=e.a/\b.proc=e.b ∨ a.proc=e.b/\b.proc=e.a):=by
  unfold exB;split
  ·next h =>
   rw [qC];constructor
   ·rintro ⟨j,b,hj,hlt,hp,hd⟩;exact ⟨j,b,hj,hlt,hd,Or.inl ⟨h,hp⟩⟩
   ·rintro ⟨j,b,hj,hlt,hd,hp|hp⟩
    ·exact ⟨j,b,hj,hlt,hp.2,hd⟩
    ·exact ⟨j,b,hj,hlt,by rw [hp.2,←h,hp.1],hd⟩
  ·next h =>
   split
   ·next h' =>
    rw [qC];constructor
    ·rintro ⟨j,b,hj,hlt,hp,hd⟩;exact ⟨j,b,hj,hlt,hd,Or.inr ⟨h',hp⟩⟩
    ·rintro ⟨j,b,hj,hlt,hd,hp|hp⟩
     ·exact absurd hp.1 h
     ·exact ⟨j,b,hj,hlt,hp.2,hd⟩
   ·next h' =>
    constructor
    ·intro hh;cases hh
    ·rintro ⟨j,b,hj,hlt,hd,hp|hp⟩
     ·exact absurd hp.1 h
     ·exact absurd hp.1 h'
 rcases Ig e a i 236 (fun k b=>k < i/\b.date=a.date/\(a.proc=e.a/\b.proc=e.b ∨ a.proc=e.b/\b.proc=e.a)) (by decide) (fun k b=>by
  unfold Ih;by_cases c:k < i/\b.date=a.date/\(a.proc=e.a/\b.proc=e.b ∨ a.proc=e.b/\b.proc=e.a)
  ·refine Or.inl ⟨c,?_⟩;rw [if_neg (by rintro (h|h);omega;exact h c.2.1),if_neg (fun h=>h1 h.1),if_pos ⟨hk,c.1,c.2.2⟩]
  ·refine Or.inr ⟨c,?_⟩;by_cases d:k=i ∨ b.date ≠ a.date
   ·rw [if_pos d]
   ·rw [if_neg d,if_neg (fun h=>h1 h.1),if_neg (fun h=>c ⟨h.2.1,Classical.byContradiction fun h'=>d (Or.inr h'),h.2.2⟩)]) l 0 with ⟨⟨j,b,hj,hp⟩,hw⟩|⟨hn,hw⟩
 ·rw [hw,if_pos (hb.2 ⟨j,b,hj,by have:=hp.1;omega,hp.2⟩)]
 ·rw [hw,if_neg];intro hh;obtain ⟨j,b,hj,hlt,hp⟩:=hb.1 hh;exact hn j b hj ⟨by omega,hp⟩
theorem Il (e:Ed) (l:List Ln) (i:Nat) (a:Ln):Ii e l i a=if e.kind=3 then (if toB e a=true then 151 else 0) else if e.kind=1 then (if buB e l i a=true then 97 else 0) else if e.kind=2 then (if exB e l i a=true then 236 else 0) else 0:=by
 unfold Ii;by_cases h3:e.kind=3
 ·rw [if_pos h3,Io e l i a (by omega) (by omega)];have:toB e a=true ↔ a.proc=e.a/\e.n < a.units:=by unfold toB;rw [Bool.and_eq_true,decide_eq_true_eq,decide_eq_true_eq]
  by_cases ht:toB e a=true
  ·rw [if_pos ht,if_pos ⟨h3,this.1 ht⟩]
  ·rw [if_neg ht,if_neg (fun h=>ht (this.2 h.2))]
 ·rw [if_neg h3,if_neg (fun h=>h3 h.1)];by_cases h1:e.kind=1
  ·rw [if_pos h1,Ij e l i a h1]
  ·rw [if_neg h1];by_cases h2:e.kind=2
   ·rw [if_pos h2,Ik e l i a h2]
   ·rw [if_neg h2,Io e l i a h1 h2]
theorem wB {w w':World} {v:Value} {l:List Ln} (h:bH All w v l) (hb:Below w.heap.size w w'):bH All w' v l:=h.move (Below.moves hb)
theorem wF {w:World} {a:Option Addr} {n c:Nat} {l:List Ln} (h:bH All w (.slice a n c) l) {i:Nat} (hi:i<=l.length):bH All w (.slice a i c) (l.take i):=by
 obtain ⟨a',c',he,h1,h2,h3⟩:=h;obtain ⟨rfl,-,rfl⟩:a=a'/\n=l.length/\c=c':=by injection he with e1 e2 e3;exact ⟨e1,e2,e3⟩
 have hl:(l.take i).length=i:=by rw [List.length_take];omega
 refine ⟨a,c,by rw [hl],by omega,h2,?_⟩;rcases h3 with h|⟨b,o,ha,hk,hb,hc⟩
 ·subst h;exact Or.inl (by simp)
 ·exact Or.inr ⟨b,o,ha,hk,hb,fun j x hj=>hc j x (by rw [List.getElem?_take] at hj;split at hj;exact hj;cases hj)⟩
theorem wu {w:World} {b o n c:Nat} {l:List Ln} (h:bH All w (.slice (some ⟨b,o,none⟩) n c) l) {i:Nat} (hi:i<=l.length):bH All w (.slice (some ⟨b,o+i * 6,none⟩) (l.length - i) (c - i)) (l.drop i):=by
 obtain ⟨a',c',he,h1,h2,h3⟩:=h;obtain ⟨rfl,-,rfl⟩:some ⟨b,o,none⟩=a'/\n=l.length/\c=c':=by injection he with e1 e2 e3;exact ⟨e1,e2,e3⟩
 have hl:(l.drop i).length=l.length - i:=List.length_drop;refine ⟨_,c - i,by rw [hl],by omega,by omega,?_⟩;rcases h3 with h|⟨b',o',ha,hk,hb,hc⟩
 ·subst h;exact Or.inl (by simp)
 ·simp only [Option.some.injEq,Addr.mk.injEq,and_true] at ha;obtain ⟨rfl,rfl⟩:=ha;refine Or.inr ⟨b,o+i * 6,rfl,hk,hb,fun j x hj=>?_⟩;rw [List.getElem?_drop] at hj;have:=hc (i+j) x hj;rw [show o+i * 6+j * 6=o+(i+j) * 6 by omega];exact this
theorem wE {w:World} (a:Option Addr):bH All w (.slice a 0 0) []:=⟨a,0,rfl,by simp,by simp [maxLen],Or.inl rfl⟩
theorem tu (ts:List Tx) (x:Tx):decide (0<=ixI ts x)=ts.any fun t=>decide (t=x):=by
 by_cases h:x ∈ ts
 ·rw [decide_eq_true (sU ts x 0 h)];symm
  rw [List.any_eq_true];exact ⟨x,h,decide_eq_true rfl⟩
 ·rw [sZ h];symm
  rw [show decide ((0:Int) ≤ -1)=false by decide,List.any_eq_false];intro t ht;simp only [decide_eq_true_eq];rintro rfl;exact h ht
theorem lY (v:Value) (ts:List Tx) (x:Tx) (w:World) (h:dI All w v ts) :
  Calls Tryz.prog 150 #[v,.string (mk x)] w fun e w'=>e=.returned (.bool (ts.any fun t=>decide (t=x)))/\w'=w:=by
 have HI:=zZ (rU v ts x w h);rw [←tu];obtain ⟨a,c,rfl,-,-,-⟩:=h;generalize ixI ts x=r at *;go_enter Tryz.func150,Tryz.ntmps150
 go_wp2_with (go_at_call 166;refine HI.out.mono ?_;rintro e w' ⟨rfl,hw⟩;rw [hw];clear hw w')
 go_ret;exact ⟨rfl,rfl⟩
theorem qp (x:Ln) (m:Value) (p:Tx) (d:Int) (b1 b2:Nat) (w:World) (hm:dI All w m x.mods) (h1:w.heap[b1]?=some (.cells #[.string (mk p)] 9 (0,0))) (h2:w.heap[b2]?=some (.cells #[iI d] 3 (0,0))) :
  Calls Tryz.prog 168 #[lnv x m,pP b1 0,pP b2 0] w fun e w'=>e=.returned (.bool (decide (x.proc=p) && decide (x.date=d)))/\Below w.heap.size w w':=by
 obtain ⟨ma,mc,rfl,-,-⟩:=Cm.dI.form hm;have hb:=iU w (.cells #[.string (mk x.proc),.slice ma x.mods.length mc,iI x.date,iI x.units,iI x.Av,iI x.prior] 48);obtain ⟨c1,-⟩:=jI (tV h1 hb);obtain ⟨c2,-⟩:=jI (tV h2 hb);have HB:=zZ hb;have hne1:b1 ≠ w.heap.size:=Nat.ne_of_lt (Array.getElem?_eq_some_iff.1 h1).1;have hne2:b2 ≠ w.heap.size:=Nat.ne_of_lt (Array.getElem?_eq_some_iff.1 h2).1;have HZ:=zZ (heap_alloc_new w (.cells #[.string (mk x.proc),.slice ma x.mods.length mc,iI x.date,iI x.units,iI x.Av,iI x.prior] 48));clear hm h1 h2 hb;by_cases hp:x.proc=p
 ·have q1:((mk x.proc).toList == (mk p).toList)=true:=by rw [xH];exact decide_eq_true hp
  rw [decide_eq_true hp,Bool.true_and];clear hp;obtain ⟨V,HV,q2⟩:∃V,Hid (decide (x.date=d)=V)/\(x.date == d)=V:=⟨_,rfl,by rw [Bool.eq_iff_iff];simp⟩;rw [HV.out];go_enter Tryz.func168,Tryz.ntmps168
  go_upto_region 1 with fail
  generalize w.alloc (.cells #[.string (mk x.proc),.slice ma x.mods.length mc,iI x.date,iI x.units,iI x.Av,iI x.prior] 48)=W at *;generalize hp:w.heap.size=q at *;obtain ⟨d0,d1,d2,d3,d4,d5⟩:=ku HZ.out;go_wp2;go_ret;exact ⟨rfl,by first|exact HB.out|(rw [hp];exact HB.out)⟩
 ·have q1:((mk x.proc).toList == (mk p).toList)=false:=by rw [xH];exact decide_eq_false hp
  rw [decide_eq_false hp,Bool.false_and];clear hp;go_enter Tryz.func168,Tryz.ntmps168
  go_upto_region 1 with fail
  generalize w.alloc (.cells #[.string (mk x.proc),.slice ma x.mods.length mc,iI x.date,iI x.units,iI x.Av,iI x.prior] 48)=W at *;generalize hp:w.heap.size=q at *;obtain ⟨d0,d1,d2,d3,d4,d5⟩:=ku HZ.out;go_wp2;go_ret;exact ⟨rfl,by first|exact HB.out|(rw [hp];exact HB.out)⟩
def IxV (l:List Ln) (p:Tx) (d:Int) (e:Ending):Prop:=∃r:Int,e=.returned (iI r)/\decide (0<=r)=hasB l p d
theorem qB {l:List Ln} {p:Tx} {d:Int} {n:Nat} (hn:n < l.length) (h:hasB (l.take n) p d=false) (hx:(decide (l[n].proc=p) && decide (l[n].date=d))=false):hasB (l.take (n+1)) p d=false:=by
 have e:l.take (n+1)=l.take n ++ [l[n]]:=by rw [List.take_add_one,List.getElem?_eq_getElem hn];rfl
 unfold hasB at h ⊢;rw [e,List.any_append,h];simp only [List.any_cons,List.any_nil,hx,Bool.or_false]
theorem qy {l:List Ln} {p:Tx} {d:Int} {n:Nat} (hn:n < l.length) (hx:(decide (l[n].proc=p) && decide (l[n].date=d))=true):hasB l p d=true:=by
 unfold hasB;rw [List.any_eq_true];exact ⟨l[n],List.getElem_mem hn,hx⟩
theorem rQ (l:List Ln) (v:Value) (p:Tx) (d:Int) (b1 b2:Nat) (w:World) (h:bH All w v l) (h1:w.heap[b1]?=some (.cells #[.string (mk p)] 9 (0,0))) (h2:w.heap[b2]?=some (.cells #[iI d] 3 (0,0))) :
  Calls Tryz.prog 174 #[v,.func (.func 168) #[] #[pP b1 0,pP b2 0]] w fun e w'=>IxV l p d e/\Below w.heap.size w w':=by
 have HL:=zZ h;have H1:=zZ h1;have H2:=zZ h2;obtain ⟨la,lc,rfl,hl1,hl2⟩:=Cm.bH.form h;clear h h1 h2;go_enter Tryz.func174,Tryz.ntmps174
 go_wp2;go_loopg [8] (l.length) (fun g i wr=>∃n:Nat,n<=l.length/\g=l.length - n/\i=iI (n:Nat)/\Hid (Below w.heap.size w wr)/\Hid (hasB (l.take n) p d=false))
 case atStart=>exact ⟨0,Nat.zero_le _,rfl,rfl,Below.refl _ _,(by show _=_;simp [hasB])⟩
 case round =>
  obtain ⟨n,hn,hgk,rfl,Co,HN⟩:=hrel;by_cases hlt:n < l.length
  ·have hltz:(n:Int) < (l.length:Int):=by omega
   obtain ⟨b,oo,m,rfl,-,hcc,hm⟩:=Cm.bH.get (wB HL.out Co.out) n hlt;have HC:=zZ (qp l[n] m p d b1 b2 wr hm (tV H1.out Co.out) (tV H2.out Co.out));have HSn:=zZ (qB (p:=p) (d:=d) hlt HN.out);have HHt:=zZ (qy (p:=p) (d:=d) hlt);obtain ⟨ma,mc,rfl,-,-⟩:=Cm.dI.form hm;clear hm;generalize l[n]=x at *;obtain ⟨V,HV⟩:∃V,Hid ((decide (x.proc=p) && decide (x.date=d))=V):=⟨_,rfl⟩;rw [HV.out] at HC HSn HHt;obtain ⟨c0,c1,c2,c3,c4,c5⟩:=hcc;cases V with
   | true =>
    have HR:=zZ (HHt.out rfl);clear HSn HHt HV HN;go_wp2_with (go_at_call 168;refine HC.out.mono ?_;rintro e w3 ⟨rfl,hb3⟩;have HB3:=zZ (jg Co.out hb3);clear hb3)
    go_ret;exact ⟨⟨(n:Int),rfl,by rw [HR.out];exact decide_eq_true (by omega)⟩,HB3.out⟩
   | false =>
    have HR:=zZ (HSn.out rfl);clear HSn HHt HV HN;go_wp2_with (go_at_call 168;refine HC.out.mono ?_;rintro e w3 ⟨rfl,hb3⟩;have HB3:=zZ (jg Co.out hb3);clear hb3)
    go_roundg (l.length - (n+1))
    case measure=>omega
    case rel=>exact ⟨n+1,by omega,rfl,by first|rfl|go_num|(congr 1;omega),HB3.out,HR.out⟩
  ·have hltz:¬ (n:Int) < (l.length:Int):=by omega
   have HR:Hid (hasB l p d=false):=by
    have:=HN.out;rw [List.take_of_length_le (by omega)] at this;exact this
   go_wp2;go_ret;exact ⟨⟨-1,rfl,by rw [HR.out];decide⟩,Co.out⟩
theorem lX (l:List Ln) (v:Value) (p:Tx) (d:Int) (b1 b2:Nat) (w:World) (h:bH All w v l) (h1:w.heap[b1]?=some (.cells #[.string (mk p)] 9 (0,0))) (h2:w.heap[b2]?=some (.cells #[iI d] 3 (0,0))) :
  Calls Tryz.prog 167 #[v,.func (.func 168) #[] #[pP b1 0,pP b2 0]] w fun e w'=>e=.returned (.bool (hasB l p d))/\Below w.heap.size w w':=by
 have HI:=zZ (rQ l v p d b1 b2 w h h1 h2);obtain ⟨la,lc,rfl,hl1,hl2⟩:=Cm.bH.form h;clear h h1 h2;go_enter Tryz.func167,Tryz.ntmps167
 go_wp2_with (go_at_call 174;refine HI.out.mono ?_;rintro e w' ⟨⟨r,rfl,hr⟩,hb⟩;have HB:=zZ hb;have HR:=zZ hr;clear hb hr)
 go_ret;exact ⟨by rw [←HR.out];rfl,HB.out⟩
theorem qw (l:List Ln) (v:Value) (p:Tx) (d:Int) (w:World) (h:bH All w v l) :
  Calls Tryz.prog 152 #[v,.string (mk p),iI d] w fun e w'=>e=.returned (.bool (hasB l p d))/\Below w.heap.size w w':=by
 have hb1:=iU w (.cells #[.string (mk p)] 9);have hb2:=iU (w.alloc (.cells #[.string (mk p)] 9)) (.cells #[iI d] 3);have h1:=tV (heap_alloc_new w (.cells #[.string (mk p)] 9)) hb2;have h2:=heap_alloc_new (w.alloc (.cells #[.string (mk p)] 9)) (.cells #[iI d] 3);rw [show (w.alloc (.cells #[.string (mk p)] 9)).heap.size=w.heap.size+1 by simp] at h2;have HC:=zZ (lX l v p d w.heap.size (w.heap.size+1) _ (wB h (jg hb1 hb2)) h1 h2);have HB:=zZ (jg hb1 hb2);obtain ⟨la,lc,rfl,hl1,hl2⟩:=Cm.bH.form h;clear h h1 h2 hb1 hb2;go_enter Tryz.func152,Tryz.ntmps152
 go_upto_region 1 with fail
 generalize (w.alloc (.cells #[.string (mk p)] 9)).alloc (.cells #[iI d] 3)=W at *;go_wp2_with (go_at_call 167;refine HC.out.mono ?_;rintro e w' ⟨rfl,hb⟩;have HB3:=zZ (jg HB.out hb);clear hb)
 go_ret;exact ⟨rfl,HB3.out⟩
end Ex
namespace Tw
open Cm (Ln ln0)
def dig (n:Int):Int:=if n.tmod 10 < 0 then n.tmod 10+10 else n.tmod 10
def ng:Nat->Int->List UInt8
 | 0,_=>[]
 | k+1,n=>UInt8.ofNat (48+dig n).toNat :: ng k (n.tdiv 10)
def xR:List (List UInt8)->List UInt8
 | []=>[]
 | m :: ms=>58 :: (m ++ xR ms)
def uo (l:Ln):List UInt8:=ng 8 l.date ++ (l.proc ++ xR l.mods)
theorem mZ (n:Int):0<=dig n/\dig n<=9:=by
 unfold dig;have h1:=Int.tmod_lt_of_pos n (b:=10) (by omega);have h2:=Int.lt_tmod_of_pos n (b:=10) (by omega);split<;>omega
theorem ni:∀(k:Nat) (n:Int),(ng k n).length=k
 | 0,_=>rfl
 | k+1,n=>by simp only [ng,List.length_cons,ni k]
def inB (x:Ln) (A:List Ln):Bool:=A.any fun y=>uo y == uo x
def wZ:List Ln->List Ln->List Bool
 | _,[]=>[]
 | A,x :: xs=>inB x A :: wZ (A ++ [x]) xs
theorem rP (x:Ln) (A B:List Ln):inB x (A ++ B)=(inB x A || inB x B):=by simp [inB]
theorem xq:∀(l A:List Ln),(wZ A l).length=l.length
 | [],_=>rfl
 | x :: xs,A=>by simp only [wZ,List.length_cons,xq xs]
theorem xg:∀(l A:List Ln) (i:Nat) (x:Ln),l[i]?=some x->(wZ A l)[i]?=some (inB x A || inB x (l.take i))
 | [],_,_,_,h=>by simp at h
 | y :: ys,A,0,x,h=>by
  simp at h;subst h;simp [wZ,inB]
 | y :: ys,A,i+1,x,h=>by
  simp only [List.getElem?_cons_succ] at h;simp only [wZ,List.getElem?_cons_succ,List.take_succ_cons];rw [xg ys (A ++ [y]) i x h,rP];have e:inB x (y :: ys.take i)=(inB x [y] || inB x (ys.take i)):=rP x [y] (ys.take i);rw [e,Bool.or_assoc]
end Tw
namespace Ac
def kW (a b:Tx):Int:=if a=b then 0 else if uY a b=true then -1 else 1
def lg (a b:Int):Int:=if a=b then 0 else if a < b then -1 else 1
def CV (a:Row):Int:=if a.Br=true then 1 else 0
def orI (a b:Int):Int:=if a=0 then b else a
def zC (a b:Row):Int:=orI (lg a.year b.year) (orI (lg (CV a) (CV b)) (kW a.who b.who))
theorem kZ (a:Tx):kW a a=0:=if_pos rfl
theorem lu (a:Int):lg a a=0:=if_pos rfl
theorem kY {a b:Tx} (h:a ≠ b):kW a b ≠ 0:=by unfold kW;rw [if_neg h];split<;>decide
theorem lq {a b:Int} (h:a ≠ b):lg a b ≠ 0:=by unfold lg;rw [if_neg h];split<;>decide
theorem zA (b:Int):orI 0 b=b:=rfl
theorem zy {a:Int} (b:Int) (h:a ≠ 0):orI a b=a:=if_neg h
theorem CY {a b:Row} (h:a.Br ≠ b.Br):CV a ≠ CV b:=by
 unfold CV;cases e:a.Br<;>cases e2:b.Br<;>simp_all
theorem CX {a b:Row} (h:a.Br=b.Br):CV a=CV b:=by unfold CV;rw [h]
theorem zF (a b:Row):zC a b < 0 ↔ dR a b=true:=by
 unfold zC dR;by_cases h1:a.year=b.year
 ·rw [if_pos h1,h1,lu,zA];by_cases h2:a.Br=b.Br
  ·rw [if_pos h2,CX h2,lu,zA];unfold kW;by_cases h3:a.who=b.who
   ·rw [if_pos h3,h3,vg];simp
   ·rw [if_neg h3];cases uY a.who b.who<;>decide
  ·rw [if_neg h2,zy _ (lq (CY h2))];unfold lg;rw [if_neg (CY h2)];unfold CV;cases e:a.Br<;>cases e2:b.Br<;>simp_all
 ·rw [if_neg h1,zy _ (lq h1)];unfold lg;rw [if_neg h1];by_cases h:a.year < b.year
  ·rw [if_pos h];simp [h]
  ·rw [if_neg h];simp [h]
theorem zH (a b:Row):zC a b=0 ↔ Ew a b:=by
 unfold zC Ew;by_cases h1:a.year=b.year
 ·rw [h1,lu,zA];by_cases h2:a.Br=b.Br
  ·rw [CX h2,lu,zA];by_cases h3:a.who=b.who
   ·rw [h3,kZ];simp [h2]
   ·simp [kY h3,h3]
  ·rw [zy _ (lq (CY h2))];simp [lq (CY h2),h2]
 ·rw [zy _ (lq h1)];simp [lq h1,h1]
theorem zD (a b:Row):decide (0<=zC a b) = !(dR a b):=by
 cases h:dR a b with
 | true=>have:=(zF a b).2 h;simp;omega
 | false =>
  have:¬ zC a b < 0:=fun e=>by rw [(zF a b).1 e] at h;cases h
  simp;omega
def Up (l:List Row):Prop:=l.Pairwise (fun a b=>dR a b=true)
theorem Ok.up {l:List Row} (h:Ok l):Up l:=h.2
theorem Ht {l:List Row} (h:Up l) {i j:Nat} (hi:i < l.length) (hj:j < l.length) (hij:i < j):dR l[i] l[j]=true:=List.pairwise_iff_getElem.1 h i j hi hj hij
theorem dX {l:List Row} (hU:Up l) (k:Row) (h:Nat) (hh:h < l.length) (e:dR l[h] k=true) (t:Nat) (ht:t < l.length) (htl:t < h+1):dR l[t] k=true:=by
 rcases Nat.lt_or_ge t h with c|c
 ·exact dZ (Ht hU ht hh c) e
 ·have:t=h:=by omega
  subst this;exact e
theorem iQ {l:List Row} (hU:Up l) (k:Row) (h:Nat) (hh:h < l.length) (e:dR l[h] k=false) (t:Nat) (ht:t < l.length) (htl:h<=t):dR l[t] k=false:=by
 rcases Nat.lt_or_ge h t with c|c
 ·cases hv:dR l[t] k with
  | false=>rfl
  | true =>
   have:=dZ (Ht hU hh ht c) hv;rw [e] at this;cases this
 ·have:t=h:=by omega
  subst this;exact e
def dh (l:List Row) (k:Row) (i:Nat) (fb:Bool):Prop:=i<=l.length/\(∀t (ht:t < l.length),t < i->dR l[t] k=true)/\(∀t (ht:t < l.length),i<=t->dR l[t] k=false)/\(fb=true ↔ ∃hi:i < l.length,Ew l[i] k)
theorem Ez {a b:Row} (h:Ew a b):Ew b a:=⟨h.1.symm,h.2.1.symm,h.2.2.symm⟩
theorem pW {l:List Row} (hU:Up l) {w:Tx} {f:Bool} {y d o:Int} {i:Nat} (h:dh l ⟨w,f,y,d,o⟩ i true):∃hi:i < l.length,pU l w f y=l[i]:=by
 obtain ⟨h0,h1,h2,h3⟩:=h;obtain ⟨hi,hs⟩:=h3.1 rfl;refine ⟨hi,?_⟩;obtain ⟨s1,s2,s3⟩:=hs;simp only at s1 s2 s3;have hm:∀(l:List Row),Up l->∀a ∈ l,hit w f y a=true->pU l w f y=a:=by
  intro l;induction l with
  | nil=>intro _ a ha;simp at ha
  | cons x r ih =>
   intro hu a ha hh;have hu2:=List.pairwise_cons.1 hu;unfold pU;rcases List.mem_cons.1 ha with rfl|ha
   ·rw [if_pos hh]
   ·rw [if_neg,ih hu2.2 a ha hh];intro e;have q1:=(qN _ _ _ _).1 hh;have q2:=(qN _ _ _ _).1 e;have:=hu2.1 a ha;rw [dW ⟨q2.1.trans q1.1.symm,q2.2.1.trans q1.2.1.symm,q2.2.2.trans q1.2.2.symm⟩] at this;cases this
 exact hm l hU _ (List.getElem_mem hi) ((qN _ _ _ _).2 ⟨s1,s2,s3⟩)
theorem yG {l:List Row} {w:Tx} {f:Bool} {y d o:Int} {i:Nat} (hU:Up l) (h:dh l ⟨w,f,y,d,o⟩ i false):∀a ∈ l,hit w f y a=false:=by
 obtain ⟨h0,h1,h2,h3⟩:=h;intro a ha;cases hh:hit w f y a with
 | false=>rfl
 | true =>
  exfalso;obtain ⟨t,ht,rfl⟩:=List.getElem_of_mem ha;have hs:Ew l[t] ⟨w,f,y,d,o⟩:=(qN _ _ _ _).1 hh;have hti:i<=t:=by
   rcases Nat.lt_or_ge t i with c|c
   ·have:=h1 t ht c;rw [dW hs] at this;cases this
   ·exact c
  rcases Nat.lt_or_ge i t with c|c
  ·have hi:i < l.length:=by omega
   have e:=Ht hU hi ht c;rw [dV _ hs,h2 i hi (Nat.le_refl _)] at e;cases e
  ·have:t=i:=by omega
   subst this;have:=h3.2 ⟨ht,hs⟩;cases this
theorem get_none {l:List Row} (hU:Up l) {w:Tx} {f:Bool} {y d o:Int} {i:Nat} (h:dh l ⟨w,f,y,d,o⟩ i false):pU l w f y=⟨w,f,y,0,0⟩:=by
 have hn:=yG hU h;rcases pX l w f y with k|⟨k,_⟩
 ·have:=hn _ k;rw [dx] at this;cases this
 ·exact k
theorem BZ {a:Row}:∀(l:List Row) (i:Nat),i<=l.length->(∀t (ht:t < l.length),t < i->dR l[t] a=true)->(∀t (ht:t < l.length),i<=t->dR l[t] a=false)->put a l=l.take i ++ (match l.drop i with | []=>[a]|x :: xs=>if dR a x=true then a :: x :: xs else a :: xs)
 | [],i,_,_,_=>by simp [put]
 | x :: xs,0,_,h1,h2=>by
  have:=h2 0 (by simp) (Nat.le_refl _);simp only [List.getElem_cons_zero] at this;simp [put,this]
 | x :: xs,i+1,hi,h1,h2=>by
  have e:=h1 0 (by simp) (by omega);simp only [List.getElem_cons_zero] at e;have ih:=BZ xs i (by simpa using hi) (fun t ht hti=>h1 (t+1) (Nat.succ_lt_succ ht) (by omega)) (fun t ht hti=>h2 (t+1) (Nat.succ_lt_succ ht) (by omega));simp only [put,e,if_true,List.take_succ_cons,List.drop_succ_cons,List.cons_append,ih]
theorem Cb {l:List Row} {a:Row} {i:Nat} (h:dh l a i true):∃hi:i < l.length,put a l=l.set i a:=by
 obtain ⟨h0,h1,h2,h3⟩:=h;obtain ⟨hi,hs⟩:=h3.1 rfl;refine ⟨hi,?_⟩;rw [BZ l i h0 h1 h2,List.drop_eq_getElem_cons hi];have e:dR a l[i]=false:=dW (Ez hs);simp only [e];rw [List.set_eq_take_append_cons_drop,if_pos hi];rfl
theorem Cc {l:List Row} {a:Row} {i:Nat} (h:dh l a i false):put a l=l.take i ++ a :: l.drop i:=by
 obtain ⟨h0,h1,h2,h3⟩:=h;rw [BZ l i h0 h1 h2];rcases Nat.lt_or_ge i l.length with hi|hi
 ·rw [List.drop_eq_getElem_cons hi];have e:dR a l[i]=true:=by
   rcases eu a l[i] with k|k|k
   ·exact k
   ·have:=h3.2 ⟨hi,Ez k⟩;cases this
   ·rw [h2 i hi (Nat.le_refl _)] at k;cases k
  simp only [e,if_true]
 ·rw [List.drop_eq_nil_of_le hi]
end Ac
end Go.Proofs.YtfbfeoplldjbpaaGreatDoor
