/-
  Texts put together (merge.py): PMath, UMath, WLaws, PBack, POnce, PText, PSize, ZMath, ZLook, ZOrd, ZPrice, ZBound, XMath, QMem, WMem, WMemB.
-/
import Derived.Deep.AppendLies
import Derived.WalkKit
import Derived.Deep.RegionLaw
import Derived.Deep.LoopGhost
import Derived.Deep.RegionHeld3
import Derived.Lib.Hide
import Derived.Lib.Builder
import Derived.Test.YtfbfeoplldjbpaaGreatDoorMd1
set_option linter.unusedSimpArgs false
set_option linter.unusedVariables false
set_option maxHeartbeats 16000000
set_option maxRecDepth 100000
namespace Go.Proofs.YtfbfeoplldjbpaaGreatDoor
namespace Pl
open Wo (Wd)
structure Cd where
 kind:Int
 lo:Tx
 hi:Tx
 n:Int
 kids:List Cd
structure St where
 what:Int
 n:Int
structure Ru where
 rank:Int
 BS:Cd
 Ct:List Cd
 sets:List St
structure Pn where
 mode:Int
 Ay:Int
 AR:Int
 Bb:Int
 AJ:Int
 rules:List Ru
def cd0:Cd:=.mk 0 [] [] 0 []
def qg (n:Int):Bool:=decide (0<=n) && decide (n<=10000000000000)
def uD (k:Int):Nat:=if k=6 then 1 else if k=7 ∨ k=8 then 2 else 0
def loB (k:Int) (lo:Tx):Bool:=if k=1 then Cm.lM lo 5 5 else if k=2 then Cm.lM lo 2 2 else decide (lo=[])
def hiB (k:Int) (hi:Tx):Bool:=if k=1 then Cm.lM hi 5 5 else decide (hi=[])
def nB (k n:Int):Bool:=if k=3 then decide (0<=n) && decide (n<=9999) else if k=4 then qg n else decide (n=0)
def uM (k:Int) (lo hi:Tx) (n:Int):Bool:=(decide (0<=k) && decide (k<=8)) && (loB k lo && (hiB k hi && nB k n))
def lV:Nat->Cd->Bool
 | 0,_=>false
 | f+1,.mk k lo hi n ks=>decide (ks.length=uD k) && (ks.all (lV f) && uM k lo hi n)
def gM (s:St):Bool:=decide (0<=s.n) && (if s.what=1 ∨ s.what=2 then decide (s.n<=1) else if s.what=3 then qg s.n else if s.what=4 then decide (s.n<=10000) else false)
def Fp:List Int->List St->Bool
 | _,[]=>true
 | seen,s :: r=>gM s && (decide (s.what ∉ seen) && Fp (seen ++ [s.what]) r)
def DZ (r:Ru):Bool:=(decide (0<=r.rank) && decide (r.rank<=9999)) && (lV 16 r.BS && (decide (r.Ct.length<=1) && (r.Ct.all (lV 16) && (decide (1<=r.sets.length) && Fp [] r.sets))))
def vI (p:Pn):Bool:=qg p.Ay && (qg p.AJ && (decide (p.Ay<=p.AR) && (decide (p.AR<=p.AJ) && (decide (p.Ay<=p.Bb) && decide (p.Bb<=p.AJ)))))
def Bj (p:Pn):Bool:=(decide (p.mode=0) || decide (p.mode=1)) && (decide (p.rules.length<=64) && (vI p && p.rules.all DZ))
def kF (p:Pn):Int:=if Bj p=true then 0 else 15
abbrev R (α:Type):=Except (Int × Nat) (α × List Wd)
def pos (E:Nat):List Wd->Nat
 | []=>E
 | x :: _=>x.2
theorem map_cons {a:List Wd} {t:Tx} {ts:List Tx} (h:a.map (·.1)=t :: ts):∃p r,a=(t,p) :: r/\r.map (·.1)=ts:=by
 cases a with
 | nil=>cases h
 | cons x r=>simp only [List.map_cons,List.cons.injEq] at h;exact ⟨x.2,r,by rw [←h.1],h.2⟩
theorem map_nil {a:List Wd} (h:a.map (·.1)=[]):a=[]:=by simpa using h
theorem tN {k:Int} (h0:0<=k) (h8:k<=8):k=0 ∨ k=1 ∨ k=2 ∨ k=3 ∨ k=4 ∨ k=5 ∨ k=6 ∨ k=7 ∨ k=8:=by omega
end Pl
namespace Ul
open Pl (Cd St Ru Pn)
open Cm (Ln)
def eD (x:Ln) (net:Int):Cd->Bool
 | ⟨k,lo,hi,n,ks⟩ =>
  if k=0 then true
  else if k=1 then !Op.bytesLess x.proc lo && !Op.bytesLess hi x.proc
  else if k=2 then x.mods.any fun t=>decide (t=lo)
  else if k=3 then decide (n < x.units)
  else if k=4 then decide (n < x.Av)
  else if k=5 then decide (net=1)
  else match ks with
   | []=>decide (k=6)
   | [a]=>if k=6 then !eD x net a else if k=8 then eD x net a else false
   | a :: b :: _=>if k=6 then !eD x net a else if k=7 then eD x net a && eD x net b else if k=8 then eD x net a || eD x net b else false
def uz (x:Ln) (net:Int) (ks:List Cd) (i:Nat):Bool:=(ks.map (eD x net)).getD i false
theorem uF (x:Ln) (net:Int) (ks:List Cd) (i:Nat) (h:ks.length<=i):uz x net ks i=false:=by
 unfold uz;rw [List.getD_eq_getElem?_getD,List.getElem?_eq_none (by simpa using h)];rfl
theorem uG (x:Ln) (net:Int) (ks:List Cd) (i:Nat) (c:Cd) (h:ks[i]?=some c):uz x net ks i=eD x net c:=by
 unfold uz;rw [List.getD_eq_getElem?_getD,List.getElem?_map,h];rfl
theorem rG (x:Ln) (net n:Int) (lo hi:Tx) (ks:List Cd):eD x net (.mk 6 lo hi n ks) = !uz x net ks 0:=by
 match ks with
 | []=>rw [eD];rfl
 | [a]=>rw [eD];rfl
 | a :: b :: r=>rw [eD];rfl
theorem rF (x:Ln) (net n:Int) (lo hi:Tx) (ks:List Cd):eD x net (.mk 7 lo hi n ks)=(uz x net ks 0 && uz x net ks 1):=by
 match ks with
 | []=>rw [eD];rfl
 | [a]=>rw [eD];show false=(eD x net a && false);rw [Bool.and_false]
 | a :: b :: r=>rw [eD];rfl
theorem rH (x:Ln) (net n:Int) (lo hi:Tx) (ks:List Cd):eD x net (.mk 8 lo hi n ks)=(uz x net ks 0 || uz x net ks 1):=by
 match ks with
 | []=>rw [eD];rfl
 | [a]=>rw [eD];show eD x net a=(eD x net a || false);rw [Bool.or_false]
 | a :: b :: r=>rw [eD];rfl
theorem holds_none (x:Ln) (net n k:Int) (lo hi:Tx) (ks:List Cd) (h:k < 0 ∨ 8 < k):eD x net (.mk k lo hi n ks)=false:=by
 have e:∀j:Int,0<=j->j<=8->k ≠ j:=fun j h0 h8 e=>by omega
 match ks with
 | []=>rw [eD];simp [e]
 | [a]=>rw [eD];simp [e]
 | a :: b :: r=>rw [eD];simp [e]
def gK (x:Ln) (net:Int) (r:Ru):Bool:=eD x net r.BS && !r.Ct.any (eD x net)
def setOf (what:Int) (l:List St):Option Int:=(l.find? fun s=>decide (s.what=what)).map (·.n)
def F7 (x:Ln) (net what:Int) (b:Int × Int) (r:Ru):Int × Int:=
 if r.rank<=b.1 then b else if gK x net r=true then (match setOf what r.sets with|some n=>(r.rank,n)|none=>b) else b
def jm (x:Ln) (net what:Int) (l:List Ru):Int × Int:=l.foldl (F7 x net what) (-1,0)
def Hy (x:Ln) (net what:Int) (l:List Ru):Int:=(jm x net what l).2
theorem Gf {x:Ln} {net what:Int} {b:Int × Int} {r:Ru} (h:gK x net r=false):F7 x net what b r=b:=by
 unfold F7;rw [h];split<;>rfl
end Ul
namespace Wo
def bP (s:Tx):Nat->List Wd->Prop
 | _,[]=>True
 | a,x :: r=>a<=x.2/\x.1 ≠ []/\x.2+x.1.length<=s.length/\(s.drop x.2).take x.1.length=x.1/\bP s (x.2+x.1.length) r
theorem bP.at {s:Tx} {a:Nat} {l:List Wd} {k:Nat} (h:bP s a (l.drop k)) (hk:k < l.length):a<=l[k].2/\l[k].1 ≠ []/\l[k].2+l[k].1.length<=s.length/\(s.drop l[k].2).take l[k].1.length=l[k].1/\bP s (l[k].2+l[k].1.length) (l.drop (k+1)):=by
 rw [List.drop_eq_getElem_cons hk] at h;exact h
end Wo
namespace Pl
open Wo (Wd kd)
def aD (E:Nat) (l:List Wd):Prop:=∀x ∈ l,x.2<=E
theorem aD.pos {E:Nat} {l:List Wd} (h:aD E l):pos E l<=E:=by
 cases l with
 | nil=>exact Nat.le_refl _
 | cons x r=>exact h x List.mem_cons_self
end Pl
namespace Pl
def lF:Nat->Cd->Nat
 | 0,_=>0
 | f+1,.mk _ _ _ _ ks=>1+(ks.map (lF f)).sum
def lH (r:Ru):Nat:=1+r.sets.length+lF 16 r.BS+(r.Ct.map (lF 16)).sum
def lG (p:Pn):Nat:=(p.rules.map lH).sum
end Pl
namespace Fe
open Wo (Wd)
open Pl (pos R)
structure Cr where
 proc:Tx
 mod:Tx
 net:Int
 Ch:Int
 Ck:Int
def uY (a b:Tx):Bool:=Op.bytesLess a b
theorem vg (a:Tx):uY a a=false:=by unfold uY;rw [Go.Proofs.bytesLess_eq];simp [List.lt_irrefl]
theorem uZ {a b:Tx} (h:uY a b=true):uY b a=false:=by
 unfold uY at *;rw [Go.Proofs.bytesLess_eq] at h ⊢;simp only [decide_eq_true_eq,decide_eq_false_iff_not] at *;exact List.not_lt.2 (List.le_of_lt h)
theorem vw {a b c:Tx} (h:uY a b=true) (h2:uY b c=true):uY a c=true:=by
 unfold uY at *;rw [Go.Proofs.bytesLess_eq] at h h2 ⊢;simp only [decide_eq_true_eq] at *;exact List.lt_trans h h2
theorem vF (a b:Tx):uY a b=true ∨ a=b ∨ uY b a=true:=by
 unfold uY;rw [Go.Proofs.bytesLess_eq,Go.Proofs.bytesLess_eq];simp only [decide_eq_true_eq];rcases Classical.em (a < b) with h|h
 ·exact Or.inl h
 ·rcases Classical.em (b < a) with h2|h2
  ·exact Or.inr (Or.inr h2)
  ·exact Or.inr (Or.inl (List.le_antisymm (List.not_lt.1 h2) (List.not_lt.1 h)))
def dR (a b:Cr):Bool:=if a.proc=b.proc then (if a.mod=b.mod then (if a.net=b.net then decide (a.Ch < b.Ch) else decide (a.net < b.net)) else uY a.mod b.mod) else uY a.proc b.proc
def Ew (a b:Cr):Prop:=a.proc=b.proc/\a.mod=b.mod/\a.net=b.net/\a.Ch=b.Ch
theorem Ew.symm {a b:Cr} (h:Ew a b):Ew b a:=⟨h.1.symm,h.2.1.symm,h.2.2.1.symm,h.2.2.2.symm⟩
theorem dW {a b:Cr} (h:Ew a b):dR a b=false:=by
 obtain ⟨h1,h2,h3,h4⟩:=h;unfold dR;rw [if_pos h1,if_pos h2,if_pos h3,h4];simp
theorem dS {a b:Cr} (h:dR a b=true):dR b a=false:=by
 unfold dR at *;by_cases h1:a.proc=b.proc
 ·rw [if_pos h1] at h;rw [if_pos h1.symm];by_cases h2:a.mod=b.mod
  ·rw [if_pos h2] at h;rw [if_pos h2.symm];by_cases h3:a.net=b.net
   ·rw [if_pos h3] at h;rw [if_pos h3.symm];simp at *;omega
   ·rw [if_neg h3] at h;rw [if_neg (Ne.symm h3)];simp at *;omega
  ·rw [if_neg h2] at h;rw [if_neg (Ne.symm h2)];exact uZ h
 ·rw [if_neg h1] at h;rw [if_neg (Ne.symm h1)];exact uZ h
theorem eu (a b:Cr):dR a b=true ∨ Ew a b ∨ dR b a=true:=by
 unfold dR Ew;by_cases h1:a.proc=b.proc
 ·rw [if_pos h1,if_pos h1.symm];by_cases h2:a.mod=b.mod
  ·rw [if_pos h2,if_pos h2.symm];by_cases h3:a.net=b.net
   ·rw [if_pos h3,if_pos h3.symm];simp [h1,h2,h3];omega
   ·rw [if_neg h3,if_neg (Ne.symm h3)];simp;omega
  ·rw [if_neg h2,if_neg (Ne.symm h2)];rcases vF a.mod b.mod with h|h|h
   ·exact Or.inl h
   ·exact absurd h h2
   ·exact Or.inr (Or.inr h)
 ·rw [if_neg h1,if_neg (Ne.symm h1)];rcases vF a.proc b.proc with h|h|h
  ·exact Or.inl h
  ·exact absurd h h1
  ·exact Or.inr (Or.inr h)
theorem dZ {a b c:Cr} (h:dR a b=true) (h':dR b c=true):dR a c=true:=by
 unfold dR at *;by_cases h1:a.proc=b.proc
 ·rw [if_pos h1] at h;by_cases k1:b.proc=c.proc
  ·rw [if_pos k1] at h';rw [if_pos (h1.trans k1)];by_cases h2:a.mod=b.mod
   ·rw [if_pos h2] at h;by_cases k2:b.mod=c.mod
    ·rw [if_pos k2] at h';rw [if_pos (h2.trans k2)];by_cases h3:a.net=b.net
     ·rw [if_pos h3] at h;by_cases k3:b.net=c.net
      ·rw [if_pos k3] at h';rw [if_pos (h3.trans k3)];simp at *;omega
      ·rw [if_neg k3] at h';rw [if_neg (by rw [h3];exact k3)];simp at *;omega
     ·rw [if_neg h3] at h;by_cases k3:b.net=c.net
      ·rw [if_neg (by rw [←k3];exact h3)];simp at *;omega
      ·rw [if_neg k3] at h';simp at h h';rw [if_neg (by omega)];simp;omega
    ·rw [if_neg k2] at h';rw [if_neg (by rw [h2];exact k2),h2];exact h'
   ·rw [if_neg h2] at h;by_cases k2:b.mod=c.mod
    ·rw [if_neg (by rw [←k2];exact h2),←k2];exact h
    ·rw [if_neg k2] at h';have ht:=vw h h';rw [if_neg (fun e=>by rw [e,vg] at ht;cases ht)];exact ht
  ·rw [if_neg k1] at h';rw [if_neg (by rw [h1];exact k1),h1];exact h'
 ·rw [if_neg h1] at h;by_cases k1:b.proc=c.proc
  ·rw [if_neg (by rw [←k1];exact h1),←k1];exact h
  ·rw [if_neg k1] at h';have ht:=vw h h';rw [if_neg (fun e=>by rw [e,vg] at ht;cases ht)];exact ht
theorem dY {a b c:Cr} (h:Ew a b):dR a c=dR b c/\dR c a=dR c b:=by
 obtain ⟨h1,h2,h3,h4⟩:=h;unfold dR;rw [h1,h2,h3,h4];exact ⟨rfl,rfl⟩
def yQ (f:Cr):Int:=if Cm.lM f.proc 5 5 && (decide (f.mod=[]) || Cm.lM f.mod 2 2) then (if 0<=f.net/\f.net<=1 then (if Da.good f.Ch=true then (if Pl.qg f.Ck=true then 0 else 8) else 7) else 3) else 9
def oU:List Cr->Int
 | []=>0
 | f :: r=>if yQ f=0 then oU r else yQ f
def nbE:List Cr->Int
 | a :: b :: r=>if dR b a=true then 11 else if dR a b=true then nbE (b :: r) else 12
 | _=>0
def kF (l:List Cr):Int:=if 512 < l.length then 10 else if oU l=0 then nbE l else oU l
def Up (l:List Cr):Prop:=l.Pairwise fun a b=>dR a b=true
def Wk (l:List Cr):Prop:=l.Pairwise fun a b=>dR b a=false
theorem Up.wk {l:List Cr} (h:Up l):Wk l:=List.Pairwise.imp (fun h=>dS h) h
theorem yE:∀(l:List Cr),nbE l=0 ↔ Up l
 | []=>by simp [nbE,Up]
 | [a]=>by simp [nbE,Up]
 | a :: b :: r=>by
  have ih:=yE (b :: r);unfold nbE;by_cases h1:dR b a=true
  ·rw [if_pos h1];refine ⟨fun h=>(by cases h),fun h=>?_⟩;have:=(List.pairwise_cons.1 h).1 b List.mem_cons_self;rw [dS this] at h1;cases h1
  ·rw [if_neg h1];by_cases h2:dR a b=true
   ·rw [if_pos h2,ih];refine ⟨fun h=>List.pairwise_cons.2 ⟨fun x hx=>?_,h⟩,fun h=>(List.pairwise_cons.1 h).2⟩;rcases List.mem_cons.1 hx with rfl|hx
    ·exact h2
    ·exact dZ h2 ((List.pairwise_cons.1 h).1 x hx)
   ·rw [if_neg h2];refine ⟨fun h=>(by cases h),fun h=>?_⟩;exact absurd ((List.pairwise_cons.1 h).1 b List.mem_cons_self) h2
def put:List Cr->Cr->List Cr
 | [],f=>[f]
 | x :: r,f=>if dR f x=true then f :: x :: r else x :: put r f
def Apart (l:List Cr):Prop:=l.Pairwise fun a b=>¬ Ew a b
theorem II {l:List Cr} (h:Wk l):Up l ↔ Apart l:=by
 constructor
 ·intro hu;exact List.Pairwise.imp (fun {a b} hab hs=>by rw [dW hs] at hab;cases hab) hu
 ·intro ha;have:=List.Pairwise.and h ha;exact List.Pairwise.imp (fun {a b} hab=>by
   rcases eu a b with h|h|h
   ·exact h
   ·exact absurd h hab.2
   ·rw [hab.1] at h;cases h) this
end Fe
namespace Fe
open Wo (Wd)
structure Key where
 proc:Tx
 mod:Tx
 net:Int
 day:Int
def hit (k:Key) (f:Cr):Bool:=decide (f.proc=k.proc) && (decide (f.mod=k.mod) && (decide (f.net=k.net) && decide (f.Ch<=k.day)))
theorem qN {k:Key} {f:Cr}:hit k f=true ↔ f.proc=k.proc/\f.mod=k.mod/\f.net=k.net/\f.Ch<=k.day:=by simp [hit]
def F6 (k:Key) (b:Option Cr) (f:Cr):Option Cr:=if hit k f=true then (match b with|none=>some f|some g=>if g.Ch < f.Ch then some f else some g) else b
def wK (k:Key) (l:List Cr):Option Cr:=l.foldl (F6 k) none
def wL (k:Key) (l:List Cr):Int:=((wK k l).map (·.Ck)).getD 0
def wJ (k:Key) (l:List Cr):Bool:=(wK k l).isSome
theorem F9 {k:Key} {b:Option Cr} {f:Cr} (h:hit k f=false):F6 k b f=b:=by unfold F6;rw [h];rfl
theorem wR (k:Key):∀(l:List Cr) (b:Option Cr) (g:Cr),l.foldl (F6 k) b=some g->(g ∈ l/\hit k g=true) ∨ b=some g
 | [],b,g,h=>Or.inr h
 | f :: r,b,g,h=>by
  rw [List.foldl_cons] at h;rcases wR k r _ g h with h1|h1
  ·exact Or.inl ⟨List.mem_cons_of_mem _ h1.1,h1.2⟩
  ·cases hf:hit k f with
   | false=>rw [F9 hf] at h1;exact Or.inr h1
   | true =>
    unfold F6 at h1;rw [if_pos hf] at h1;cases b with
    | none=>simp only [Option.some.injEq] at h1;subst h1;exact Or.inl ⟨List.mem_cons_self,hf⟩
    | some q =>
     simp only at h1;split at h1
     ·simp only [Option.some.injEq] at h1;subst h1;exact Or.inl ⟨List.mem_cons_self,hf⟩
     ·exact Or.inr h1
theorem wM (k:Key):∀(l:List Cr) (b:Option Cr),(∀f ∈ l,hit k f=true->∃g,l.foldl (F6 k) b=some g/\f.Ch<=g.Ch)/\(∀q,b=some q->∃g,l.foldl (F6 k) b=some g/\q.Ch<=g.Ch)
 | [],b=>⟨fun f hf=>(by cases hf),fun q hq=>⟨q,hq,by omega⟩⟩
 | f :: r,b=>by
  obtain ⟨i1,i2⟩:=wM k r (F6 k b f);refine ⟨fun x hx hh=>?_,fun q hq=>?_⟩
  ·rcases List.mem_cons.1 hx with rfl|hx
   ·have:∃y,F6 k b x=some y/\x.Ch<=y.Ch:=by
     unfold F6;rw [if_pos hh];cases b with
     | none=>exact ⟨x,rfl,by omega⟩
     | some z =>
      simp only;split
      ·exact ⟨x,rfl,by omega⟩
      ·exact ⟨z,rfl,by omega⟩
    obtain ⟨y,hy,hxy⟩:=this;obtain ⟨g,hg,hyg⟩:=i2 y hy;exact ⟨g,hg,by omega⟩
   ·exact i1 x hx hh
  ·have:∃y,F6 k b f=some y/\q.Ch<=y.Ch:=by
    unfold F6;subst hq;split
    ·simp only;split
     ·exact ⟨f,rfl,by omega⟩
     ·exact ⟨q,rfl,by omega⟩
    ·exact ⟨q,rfl,by omega⟩
   obtain ⟨y,hy,hqy⟩:=this;obtain ⟨g,hg,hyg⟩:=i2 y hy;exact ⟨g,hg,by omega⟩
theorem wV {k:Key} {l:List Cr} {g:Cr} (hd:Apart l) (hg:g ∈ l) (hh:hit k g=true) (hm:∀f ∈ l,hit k f=true->f.Ch<=g.Ch):wK k l=some g:=by
 obtain ⟨y,hy,hle⟩:=(wM k l none).1 g hg hh;rcases wR k l none y hy with ⟨y1,y2⟩|h
 ·have e1:=hm y y1 y2;have e:y=g:=by
   rcases Classical.em (y=g) with e|e
   ·exact e
   ·exfalso;obtain ⟨a1,a2,a3,-⟩:=qN.1 hh;obtain ⟨b1,b2,b3,-⟩:=qN.1 y2;have hs:Ew y g:=⟨b1.trans a1.symm,b2.trans a2.symm,b3.trans a3.symm,by omega⟩;have:∀(l:List Cr),Apart l->y ∈ l->g ∈ l->False:=fun l=>by
     induction l with
     | nil=>intro _ h;cases h
     | cons z r ih =>
      intro ha h1 h2;obtain ⟨k1,k2⟩:=List.pairwise_cons.1 ha;rcases List.mem_cons.1 h1 with e1|m1
      ·rcases List.mem_cons.1 h2 with e2|m2
       ·exact e (e1.trans e2.symm)
       ·exact k1 g m2 (e1 ▸ hs)
      ·rcases List.mem_cons.1 h2 with e2|m2
       ·exact k1 y m1 (e2 ▸ hs.symm)
       ·exact ih k2 m1 m2
    exact this l hd y1 hg
  rw [←e];exact hy
 ·cases h
theorem wU {k:Key} {l:List Cr} (h:∀f ∈ l,hit k f=false):wK k l=none:=by
 cases hl:wK k l with
 | none=>rfl
 | some g =>
  rcases wR k l none g hl with ⟨h1,h2⟩|h1
  ·rw [h g h1] at h2;cases h2
  ·cases h1
end Fe
namespace Fe
def kW (a b:Tx):Int:=if uY a b=true then -1 else if uY b a=true then 1 else 0
def lg (a b:Int):Int:=if a < b then -1 else if b < a then 1 else 0
def orI (a b:Int):Int:=if a=0 then b else a
def zC (a b:Cr):Int:=orI (kW a.proc b.proc) (orI (kW a.mod b.mod) (orI (lg a.net b.net) (lg a.Ch b.Ch)))
theorem kZ (a:Tx):kW a a=0:=by unfold kW;rw [vg];simp
theorem kX {a b:Tx} (h:a ≠ b):kW a b=if uY a b=true then -1 else 1:=by
 unfold kW;rcases vF a b with h1|h1|h1
 ·rw [if_pos h1,if_pos h1]
 ·exact absurd h1 h
 ·rw [uZ h1,h1];rfl
theorem kY {a b:Tx} (h:a ≠ b):kW a b ≠ 0:=by rw [kX h];split<;>decide
theorem zA (b:Int):orI 0 b=b:=rfl
theorem zy {a:Int} (b:Int) (h:a ≠ 0):orI a b=a:=if_neg h
theorem zF (a b:Cr):zC a b < 0 ↔ dR a b=true:=by
 unfold zC dR;by_cases h1:a.proc=b.proc
 ·rw [if_pos h1,h1,kZ,zA];by_cases h2:a.mod=b.mod
  ·rw [if_pos h2,h2,kZ,zA];by_cases h3:a.net=b.net
   ·rw [if_pos h3,h3];have:lg b.net b.net=0:=by unfold lg;rw [if_neg (by omega),if_neg (by omega)]
    rw [this,zA];unfold lg;by_cases h4:a.Ch < b.Ch
    ·rw [if_pos h4];simp [h4]
    ·rw [if_neg h4];simp [h4];split<;>omega
   ·rw [if_neg h3];have hz:lg a.net b.net=if a.net < b.net then -1 else 1:=by unfold lg;by_cases h:a.net < b.net;rw [if_pos h,if_pos h];rw [if_neg h,if_neg h,if_pos (by omega)]
    rw [zy _ (by rw [hz];split<;>decide),hz];by_cases h:a.net < b.net
    ·rw [if_pos h];simp [h]
    ·rw [if_neg h];simp [h]
  ·rw [if_neg h2,zy _ (kY h2),kX h2];cases uY a.mod b.mod<;>decide
 ·rw [if_neg h1,zy _ (kY h1),kX h1];cases uY a.proc b.proc<;>decide
theorem zH (a b:Cr):zC a b=0 ↔ Ew a b:=by
 unfold zC Ew;by_cases h1:a.proc=b.proc
 ·rw [h1,kZ,zA];by_cases h2:a.mod=b.mod
  ·rw [h2,kZ,zA];by_cases h3:a.net=b.net
   ·rw [h3];have:lg b.net b.net=0:=by unfold lg;rw [if_neg (by omega),if_neg (by omega)]
    rw [this,zA];unfold lg;by_cases h4:a.Ch < b.Ch
    ·rw [if_pos h4];exact ⟨fun h=>absurd h (by decide),fun h=>absurd h.2.2.2 (by omega)⟩
    ·rw [if_neg h4];by_cases h5:b.Ch < a.Ch
     ·rw [if_pos h5];exact ⟨fun h=>absurd h (by decide),fun h=>absurd h.2.2.2 (by omega)⟩
     ·rw [if_neg h5];exact ⟨fun _=>⟨rfl,rfl,rfl,by omega⟩,fun _=>rfl⟩
   ·have hz:lg a.net b.net ≠ 0:=by unfold lg;by_cases h:a.net < b.net;rw [if_pos h];decide;rw [if_neg h,if_pos (by omega)];decide
    rw [zy _ hz];simp [hz,h3]
  ·rw [zy _ (kY h2)];simp [kY h2,h2]
 ·rw [zy _ (kY h1)];simp [kY h1,h1]
theorem zG (a b:Cr):0 < zC a b ↔ dR b a=true:=by
 rcases eu a b with h|h|h
 ·have:=(zF a b).2 h;rw [dS h];simp;omega
 ·have:=(zH a b).2 h;rw [dW h.symm];simp;omega
 ·have h1:¬ zC a b < 0:=fun e=>by rw [zF,dS h] at e;cases e
  have h2:zC a b ≠ 0:=fun e=>by rw [dW ((zH a b).1 e).symm] at h;cases h
  simp [h];omega
theorem yD (a b:Cr) (r:List Cr):nbE (a :: b :: r)=if zC a b=0 then 12 else if 0 < zC a b then 11 else nbE (b :: r):=by
 conv=>lhs;unfold nbE
 rcases eu a b with h|h|h
 ·have h1:=(zF a b).2 h;rw [dS h,h,if_neg (by decide),if_pos rfl,if_neg (by omega),if_neg (by omega)]
 ·rw [dW h,dW h.symm,if_neg (by decide),if_neg (by decide),if_pos ((zH a b).2 h)]
 ·have h1:=(zG a b).2 h;rw [h,if_pos rfl,if_neg (by omega),if_pos h1]
def tZ (k:Key):Cr:=⟨k.proc,k.mod,k.net,k.day,0⟩
def Gj (k:Key) (f:Cr):Bool:=decide (f.proc=k.proc) && (decide (f.mod=k.mod) && decide (f.net=k.net))
theorem Gq {k:Key} {f:Cr}:Gj k f=true ↔ f.proc=k.proc/\f.mod=k.mod/\f.net=k.net:=by simp [Gj]
theorem Ht {l:List Cr} (h:Up l) {i j:Nat} (hi:i < l.length) (hj:j < l.length) (hij:i < j):dR l[i] l[j]=true:=List.pairwise_iff_getElem.1 h i j hi hj hij
theorem between {a b:Cr} {k:Key} (ha:Gj k a=true) (h1:dR a b=true) (h2:dR b (tZ k)=true):Gj k b=true:=by
 obtain ⟨p1,p2,p3⟩:=Gq.1 ha;rw [Gq];unfold dR tZ at *;simp only at h2;by_cases e1:b.proc=k.proc
 ·refine ⟨e1,?_⟩;rw [if_pos (p1.trans e1.symm)] at h1;rw [if_pos e1] at h2;by_cases e2:b.mod=k.mod
  ·refine ⟨e2,?_⟩;rw [if_pos (p2.trans e2.symm)] at h1;rw [if_pos e2] at h2;rcases Classical.em (b.net=k.net) with e3|e3
   ·exact e3
   ·exfalso;rw [if_neg (by omega)] at h1;rw [if_neg e3] at h2;simp at h1 h2;omega
  ·exfalso;rw [if_neg (by rw [p2];exact Ne.symm e2),p2] at h1;rw [if_neg e2] at h2;have:=vw h1 h2;rw [vg] at this;cases this
 ·exfalso;rw [if_neg (by rw [p1];exact Ne.symm e1),p1] at h1;rw [if_neg e1] at h2;have:=vw h1 h2;rw [vg] at this;cases this
theorem uy {k:Key} {f:Cr}:Ew f (tZ k) ↔ Gj k f=true/\f.Ch=k.day:=by rw [Gq];unfold Ew tZ;simp;exact ⟨fun ⟨a,b,c,d⟩=>⟨⟨a,b,c⟩,d⟩,fun ⟨⟨a,b,c⟩,d⟩=>⟨a,b,c,d⟩⟩
theorem Gn {k:Key} {f:Cr} (h:Gj k f=true):dR f (tZ k)=decide (f.Ch < k.day):=by
 obtain ⟨p1,p2,p3⟩:=Gq.1 h;unfold dR tZ;simp only;rw [if_pos p1,if_pos p2,if_pos p3]
theorem qO {k:Key} {f:Cr}:hit k f=true ↔ Gj k f=true/\f.Ch<=k.day:=by rw [qN,Gq];exact ⟨fun ⟨a,b,c,d⟩=>⟨⟨a,b,c⟩,d⟩,fun ⟨⟨a,b,c⟩,d⟩=>⟨a,b,c,d⟩⟩
theorem wP {l:List Cr} (h:Up l) (k:Key) (i:Nat) (hi:i < l.length) (hs:Ew l[i] (tZ k)):wK k l=some l[i]:=by
 obtain ⟨s1,s2⟩:=uy.1 hs;exact wV ((II h.wk).1 h) (List.getElem_mem hi) (qO.2 ⟨s1,by omega⟩) fun f _ hf=>by have:=(qO.1 hf).2;omega
theorem qM {l:List Cr} (h:Up l) (k:Key) (i:Nat) (hle:i<=l.length) (h2:∀t (ht:t < l.length),i<=t->dR l[t] (tZ k)=false) (hn:∀hi:i < l.length,¬ Ew l[i] (tZ k)) (t:Nat) (ht:t < l.length) (hh:hit k l[t]=true):t < i:=by
 rcases Nat.lt_or_ge t i with c|c
 ·exact c
 ·exfalso;obtain ⟨s1,s2⟩:=qO.1 hh;have e:=h2 t ht c;rw [Gn s1] at e;have hd:l[t].Ch=k.day:=by simp at e;omega
  have hst:Ew l[t] (tZ k):=uy.2 ⟨s1,hd⟩;rcases Nat.lt_or_ge i t with c2|c2
  ·have hi:i < l.length:=by omega
   have e2:=Ht h hi ht c2;rw [(dY hst (c:=l[i])).2,h2 i hi (Nat.le_refl _)] at e2;cases e2
  ·have:t=i:=by omega
   subst this;exact hn ht hst
theorem wQ {l:List Cr} (h:Up l) (k:Key) (i:Nat) (hle:i+1<=l.length) (h1:∀t (ht:t < l.length),t < i+1->dR l[t] (tZ k)=true) (h2:∀t (ht:t < l.length),i+1<=t->dR l[t] (tZ k)=false) (hn:∀hi:i+1 < l.length,¬ Ew l[i+1] (tZ k)) (hs:Gj k (l[i]'(by omega))=true):wK k l=some (l[i]'(by omega)):=by
 have hi:i < l.length:=by omega
 refine wV ((II h.wk).1 h) (List.getElem_mem hi) (qO.2 ⟨hs,?_⟩) fun f hf hh=>?_
 ·have:=h1 i hi (by omega);rw [Gn hs] at this;simp at this;omega
 ·obtain ⟨t,ht,rfl⟩:=List.getElem_of_mem hf;have ht2:=qM h k (i+1) hle h2 hn t ht hh;rcases Nat.lt_or_ge t i with c|c
  ·have e:=Ht h ht hi c;obtain ⟨a1,a2,a3⟩:=Gq.1 (qO.1 hh).1;obtain ⟨b1,b2,b3⟩:=Gq.1 hs;unfold dR at e;rw [if_pos (a1.trans b1.symm),if_pos (a2.trans b2.symm),if_pos (a3.trans b3.symm)] at e;simp at e;omega
  ·have:t=i:=by omega
   subst this;omega
theorem wS {l:List Cr} (h:Up l) (k:Key) (i:Nat) (hle:i<=l.length) (h1:∀t (ht:t < l.length),t < i->dR l[t] (tZ k)=true) (h2:∀t (ht:t < l.length),i<=t->dR l[t] (tZ k)=false) (hn:∀hi:i < l.length,¬ Ew l[i] (tZ k)) (hs:i=0 ∨ ∃h0:i - 1 < l.length,Gj k l[i - 1]=false):wK k l=none:=by
 refine wU fun f hf=>?_;cases hh:hit k f with
 | false=>rfl
 | true =>
  exfalso;obtain ⟨t,ht,rfl⟩:=List.getElem_of_mem hf;have ht2:=qM h k i hle h2 hn t ht hh;rcases hs with rfl|⟨h0,hs⟩
  ·omega
  ·have hsub:=(qO.1 hh).1;rcases Nat.lt_or_ge t (i - 1) with c|c
   ·have:=between hsub (Ht h ht h0 c) (h1 (i - 1) h0 (by omega));rw [hs] at this;cases this
   ·have e:t=i - 1:=by omega
    subst e;rw [hs] at hsub;cases hsub
end Fe
namespace Fe
open Cm (Ln)
def o9 (l:List Cr) (x:Ln) (net:Int):List Tx->Option Cr
 | []=>none
 | t :: r=>if wJ ⟨x.proc,t,net,x.date⟩ l=true then wK ⟨x.proc,t,net,x.date⟩ l else o9 l x net r
def Bz (l:List Cr) (x:Ln) (net:Int):Option Cr:=o9 l x net (x.mods ++ [[]])
def BA (l:List Cr) (x:Ln) (net:Int):Int:=((Bz l x net).map (·.Ck)).getD 0
def Bv (l:List Cr) (x:Ln) (net:Int):Bool:=(Bz l x net).isSome
def fP (l:List Cr) (x:Ln) (net:Int):Int:=if Bv l x net=true then (if Ce.EF (BA l x net) x.units 1 ≠ 0 ∨ x.Av < Ce.EG (BA l x net) x.units 1 then x.Av else Ce.EG (BA l x net) x.units 1) else 0
theorem pq {l:List Cr} {x:Ln} {net:Int} {n:Nat} (h:n < x.mods.length):o9 l x net (x.mods.drop n ++ [[]])=if wJ ⟨x.proc,x.mods[n],net,x.date⟩ l=true then wK ⟨x.proc,x.mods[n],net,x.date⟩ l else o9 l x net (x.mods.drop (n+1) ++ [[]]):=by
 rw [List.drop_eq_getElem_cons h];rfl
theorem BF {l:List Cr} {x:Ln} {net:Int} {b:Option Cr} {t:Tx} {V:Int} {s:List Tx} (h1:o9 l x net s=o9 l x net (x.mods ++ [[]])) (h2:o9 l x net s=if true=true then wK ⟨x.proc,t,net,x.date⟩ l else b) (h3:wJ ⟨x.proc,t,net,x.date⟩ l=true) (h4:wL ⟨x.proc,t,net,x.date⟩ l=V):BA l x net=V/\Bv l x net=true:=by
 unfold BA Bv Bz;rw [←h1,h2,if_pos rfl];exact ⟨h4,h3⟩
theorem BG {l:List Cr} {x:Ln} {net:Int} {n:Nat} (h:x.mods.length<=n) (h1:o9 l x net (x.mods.drop n ++ [[]])=o9 l x net (x.mods ++ [[]])):BA l x net=wL ⟨x.proc,[],net,x.date⟩ l/\Bv l x net=wJ ⟨x.proc,[],net,x.date⟩ l:=by
 rw [List.drop_eq_nil_of_le h] at h1;unfold BA Bv Bz;rw [←h1];show ((if wJ ⟨x.proc,[],net,x.date⟩ l=true then wK ⟨x.proc,[],net,x.date⟩ l else none).map (·.Ck)).getD 0=_/\(if wJ ⟨x.proc,[],net,x.date⟩ l=true then wK ⟨x.proc,[],net,x.date⟩ l else none).isSome=_;cases hb:wJ ⟨x.proc,[],net,x.date⟩ l
 ·rw [if_neg (by decide)];refine ⟨?_,rfl⟩;unfold wJ at hb;unfold wL;cases hf:wK ⟨x.proc,[],net,x.date⟩ l with
  | none=>rfl
  | some f=>rw [hf] at hb;cases hb
 ·rw [if_pos rfl];exact ⟨rfl,hb⟩
end Fe
namespace Ex
open Wo (Wd)
open Pl (R)
open Cm (Ln)
structure Ed where
 kind:Int
 a:Tx
 b:Tx
 bypass:Bool
 n:Int
def yQ (x:Ed):Int:=
 if Cm.lM x.a 5 5=true then
  (if x.kind=1 ∨ x.kind=2 ∨ x.kind=3 then
   (if x.kind=3 then (if x.b=[]/\x.bypass=false/\1<=x.n/\x.n<=9999 then 0 else 1)
   else (if x.a ≠ x.b/\Cm.lM x.b 5 5=true then (if x.n=0/\¬ (x.kind=2/\x.bypass=true) then 0 else 1) else 9))
  else 1)
 else 9
def oU:List Ed->Int
 | []=>0
 | f :: r=>if yQ f=0 then oU r else yQ f
def kF (l:List Ed):Int:=if 256 < l.length then 10 else oU l
def t59:Tx:=[53,57]
def byB (x:Ln):Bool:=x.mods.any fun t=>decide (t=t59)
def Ih (e:Ed) (a:Ln) (i k:Nat) (b:Ln):Int:=
 if k=i ∨ b.date ≠ a.date then 0
 else if e.kind=1/\a.proc=e.b/\b.proc=e.a/\¬ (e.bypass=true/\byB a=true) then 97
 else if e.kind=2/\k < i/\(a.proc=e.a/\b.proc=e.b ∨ a.proc=e.b/\b.proc=e.a) then 236 else 0
def Ie (e:Ed) (a:Ln) (i:Nat):Nat->List Ln->Int
 | _,[]=>0
 | k,b :: r=>if Ih e a i k b=0 then Ie e a i (k+1) r else Ih e a i k b
def Ii (e:Ed) (l:List Ln) (i:Nat) (a:Ln):Int:=if e.kind=3/\a.proc=e.a/\e.n < a.units then 151 else Ie e a i 0 l
def mM (l:List Ln) (i:Nat) (a:Ln):List Ed->Int
 | []=>0
 | e :: r=>if Ii e l i a=0 then mM l i a r else Ii e l i a
def mO (t:List Ed) (l:List Ln) (i:Int):Int:=if 0<=i then (match l[i.toNat]? with|some a=>mM l i.toNat a t|none=>0) else 0
end Ex
section
open Go.RowKit
abbrev All:Nat->Prop:=fun _=>True
def bT {α:Type} (K:Nat->Prop) (R:World->Value->α->Prop) (w:World) (v:Value) (xs:List α):Prop:=
 ∃a c,v=.slice a xs.length c/\xs.length<=c/\c<=maxLen/\(xs=[] ∨ ∃b o,a=some ⟨b,o,none⟩/\K b/\b < w.heap.size/\∀(j:Nat) x,xs[j]?=some x->∃u,w.cell? ⟨b,o+j,none⟩=some u/\R w u x)
def dB (_:World) (u:Value) (x:Tx):Prop:=u=sS x
def dI (K:Nat->Prop):World->Value->List Tx->Prop:=bT K dB
def aQ (K:Nat->Prop):World->Value->Sg->Prop:=bT K (dI K)
def cZ (K:Nat->Prop):World->Value->List Sg->Prop:=bT K (aQ K)
def Moves (K K':Nat->Prop) (w w':World):Prop:=w.heap.size<=w'.heap.size/\∀b,b < w.heap.size->K b->K' b/\w'.heap[b]?=w.heap[b]?
theorem bT.move {α:Type} {K K':Nat->Prop} {R R':World->Value->α->Prop} {w w':World} {v:Value} {xs:List α} (h:bT K R w v xs) (hm:Moves K K' w w') (hR:∀u x,x ∈ xs->R w u x->R' w' u x):bT K' R' w' v xs:=by
 obtain ⟨a,c,rfl,h1,h2,h3⟩:=h;refine ⟨a,c,rfl,h1,h2,h3.imp id ?_⟩;rintro ⟨b,o,rfl,hk,hb,hc⟩;obtain ⟨k',hh⟩:=hm.2 b hb hk;refine ⟨b,o,rfl,k',Nat.lt_of_lt_of_le hb hm.1,fun j x hj=>?_⟩;obtain ⟨u,hu,hr⟩:=hc j x hj;exact ⟨u,by rw [World.cell?_of_block (w:=w) hh];exact hu,hR u x (List.mem_of_getElem? hj) hr⟩
theorem dI.move {K K':Nat->Prop} {w w':World} {v:Value} {xs:List Tx} (h:dI K w v xs) (hm:Moves K K' w w'):dI K' w' v xs:=bT.move h hm fun _ _ _ h=>h
theorem aQ.move {K K':Nat->Prop} {w w':World} {v:Value} {xs:Sg} (h:aQ K w v xs) (hm:Moves K K' w w'):aQ K' w' v xs:=bT.move h hm fun _ _ _ h=>dI.move h hm
theorem cZ.move {K K':Nat->Prop} {w w':World} {v:Value} {xs:List Sg} (h:cZ K w v xs) (hm:Moves K K' w w'):cZ K' w' v xs:=bT.move h hm fun _ _ _ h=>aQ.move h hm
theorem Below.moves {w w':World} (h:Below w.heap.size w w'):Moves All All w w':=⟨h.size,fun b hb _=>⟨trivial,h.block b hb⟩⟩
theorem Below.yu {B:Nat} {w w':World} (h:Below B w w'):Moves (fun b=>b < B) (fun b=>b < B) w w':=⟨h.size,fun b _ hk=>⟨hk,h.block b hk⟩⟩
theorem yt (K:Nat->Prop) (w:World) (o:Obj):Moves K K w (w.alloc o):=⟨by simp,fun b hb hk=>⟨hk,Below.heap_alloc w o b hb⟩⟩
theorem yw {K K':Nat->Prop} (w:World) (h:∀b,b < w.heap.size->K b->K' b):Moves K K' w w:=⟨Nat.le_refl _,fun b hb hk=>⟨h b hb hk,rfl⟩⟩
theorem dI.nil (K:Nat->Prop) (w:World):dI K w (.slice none 0 0) []:=⟨none,0,rfl,by simp,by simp [maxLen],Or.inl rfl⟩
theorem aQ.nil (K:Nat->Prop) (w:World):aQ K w (.slice none 0 0) []:=⟨none,0,rfl,by simp,by simp [maxLen],Or.inl rfl⟩
theorem cZ.nil (K:Nat->Prop) (w:World):cZ K w (.slice none 0 0) []:=⟨none,0,rfl,by simp,by simp [maxLen],Or.inl rfl⟩
theorem Oq {α:Type} {K:Nat->Prop} {R:World->Value->α->Prop} {w:World} {base:Nat} {e:TypeId} {v:Value} {xs:List Value} {ys:List α}
  (h:w.ownsRow base e 1 v ys.length xs) (hK:∀b,v.ownBlock=some b->K b) (hR:∀(j:Nat) u y,xs[j]?=some u->ys[j]?=some y->R w u y):bT K R w v ys:=by
 obtain ⟨hl,h⟩:=h;rcases h with ⟨rfl,h0⟩|⟨g,cap,cur,rfl,_,hg,h1,h2,hs,ht⟩
 ·obtain rfl:=List.length_eq_zero_iff.1 h0;exact ⟨none,0,rfl,by simp,by simp [maxLen],Or.inl rfl⟩
 ·refine ⟨_,cap,rfl,h1,h2,Or.inr ⟨g,0,rfl,hK g rfl,(Array.getElem?_eq_some_iff.1 hg).1,fun j y hj=>?_⟩⟩;have hjl:j < ys.length:=(List.getElem?_eq_some_iff.1 hj).1;have hjx:j < xs.length:=by omega
  refine ⟨xs[j],?_,hR j _ y (List.getElem?_eq_getElem hjx) hj⟩;rw [Nat.zero_add,cell_of_row w g j cur e (0,0) hg];obtain ⟨u,hu⟩:∃u,xs[j]?=some u:=⟨_,List.getElem?_eq_getElem hjx⟩;have hu2:xs[j]=u:=by rw [List.getElem?_eq_getElem hjx] at hu;exact Option.some.inj hu
  rw [hu2];rw [←ht,List.getElem?_take] at hu;split at hu
  ·simpa using hu
  ·cases hu
end
namespace Wo
open Go.RowKit
theorem tV {w w':World} {q:Nat} {o:Obj} (h:w.heap[q]?=some o) (hb:Below w.heap.size w w'):w'.heap[q]?=some o:=by
 rw [hb.block q (Array.getElem?_eq_some_iff.1 h).1];exact h
theorem jI {w:World} {q:Nat} {v:Value} {T:TypeId} (h:w.heap[q]?=some (.cells #[v] T (0,0))):w.cell? ⟨q,0,none⟩=some v/\w.frozen? ⟨q,0,none⟩=false:=
 ⟨by rw [cell_of_row w q 0 _ T (0,0) h];rfl,Lib.frozen_of_heap h 0⟩
theorem jQ {w:World} {q:Nat} {v u:Value} {T:TypeId} (h:w.heap[q]?=some (.cells #[v,u] T (0,0))):w.cell? ⟨q,0,none⟩=some v/\w.cell? ⟨q,1,none⟩=some u/\w.frozen? ⟨q,0,none⟩=false/\w.frozen? ⟨q,1,none⟩=false:=
 ⟨by rw [cell_of_row w q 0 _ T (0,0) h];rfl,by rw [cell_of_row w q 1 _ T (0,0) h];rfl,Lib.frozen_of_heap h 0,Lib.frozen_of_heap h 1⟩
theorem qL {w:World} {b q j:Nat} {o:Obj} {u:Value} (h:w.heap[b]?=some o) (hne:b ≠ q):(w.setCell ⟨q,j,none⟩ u).heap[b]?=some o:=by
 rw [Below.heap_setCell _ _ _ _ hne];exact h
end Wo
namespace Wo
open Go.RowKit
theorem iU (w:World) (o:Obj):Below w.heap.size w (w.alloc o):=(Below.refl _ w).alloc (Nat.le_refl _) o
theorem jg {a b c:World} (h:Below a.heap.size a b) (k:Below b.heap.size b c):Below a.heap.size a c:=h.trans (k.mono h.size)
end Wo
end Go.Proofs.YtfbfeoplldjbpaaGreatDoor
