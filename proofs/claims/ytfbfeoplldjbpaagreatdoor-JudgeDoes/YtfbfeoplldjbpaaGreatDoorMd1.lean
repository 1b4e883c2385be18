/-
  Texts put together (merge.py): QMath, CMath, HMath, YMath, JMath, QSpec, WMath, CSumMath, DMath, LMath, NMath.
-/
import Derived.Lib.Join
import Derived.Lib.SplitLaws
import Derived.Sort.Walk0
import Derived.Lib.ItoaNum
import Derived.Test.YtfbfeoplldjbpaaGreatDoorMd0
import Derived.Test.YtfbfeoplldjbpaaGreatDoorProg
set_option linter.unusedSimpArgs false
set_option linter.unusedVariables false
set_option maxHeartbeats 16000000
set_option maxRecDepth 100000
namespace Go.Proofs.YtfbfeoplldjbpaaGreatDoor
section
abbrev Tx:=List UInt8
abbrev Sg:=List (List Tx)
def mk (l:Tx):ByteArray:=⟨l.toArray⟩
abbrev sS (x:Tx):Value:=.string (mk x)
theorem xI (l:Tx):(mk l).data.toList=l:=by simp [mk]
theorem xK (s:ByteArray):mk s.data.toList=s:=Lib.mk_data s
theorem xM (l:Tx):(mk l).size=l.length:=by rw [Lib.size_eq,xI]
def FH (c:UInt8):Bool:=decide (33<=c.toNat) && decide (c.toNat<=126) && !(decide (c.toNat=45)) && !(decide (c.toNat=46)) && !(decide (48<=c.toNat) && decide (c.toNat<=57)) && !(decide (65<=c.toNat) && decide (c.toNat<=90)) && !(decide (97<=c.toNat) && decide (c.toNat<=122))
def qg (e p s:UInt8):Bool:=e != p && e != s && p != s && FH e && FH p && FH s
end
namespace Ce
def good (a:Int):Bool:=decide (0<=a) && decide (a<=10000000000000)
theorem ql (a:Int):good a=true ↔ 0<=a/\a<=10000000000000:=by
 unfold good;simp
theorem qm (a:Int):good a=false ↔ a < 0 ∨ 10000000000000 < a:=by
 have h:=ql a;cases g:good a
 ·simp only [true_iff];rw [g] at h;simp at h;omega
 ·rw [g] at h;simp at h;simp;omega
def dM (a b:Int):Int:=if good a=true/\good b=true/\good (a+b)=true then a+b else 0
def dJ (a b:Int):Int:=if good a=true/\good b=true then (if good (a+b)=true then 0 else 2) else 1
def Gm (a b:Int):Int:=if good a=true/\good b=true/\b<=a then a - b else 0
def Gl (a b:Int):Int:=if good a=true/\good b=true then (if b<=a then 0 else 3) else 1
def EG (a n d:Int):Int:=if good a=true/\0<=n/\1<=d/\good (a * n / d)=true then a * n / d else 0
def EF (a n d:Int):Int:=if good a=true/\0<=n/\1<=d then (if good (a * n / d)=true then 0 else 2) else 1
def AZ (a p:Int):Int:=if 0<=p/\p<=10000 then EG a p 10000 else 0
def AY (a p:Int):Int:=if 0<=p/\p<=10000 then EF a p 10000 else 1
end Ce
namespace Sh
def least (a b:Int):Int:=if b < a then b else a
theorem Bd (a p:Int) (h:0<=a) (hp:0<=p) (hq:p<=10000):0<=Ce.AZ a p/\Ce.AZ a p<=a:=by
 have e1:0<=a * p:=Int.mul_nonneg h hp;have e2:a * p<=a * 10000:=Int.mul_le_mul_of_nonneg_left hq h;unfold Ce.AZ Ce.EG;split
 ·split<;>omega
 ·omega
def ig (al cp cn de oo:Int):Bool:=(Ce.good al && (Ce.good cp && (Ce.good de && Ce.good oo))) && (decide (0<=cn) && decide (cn<=10000))
def d0 (al:Int) (dd:Bool) (de net:Int):Int:=if dd=true/\net=0 then least de al else 0
def c0 (al:Int) (dd:Bool) (cp de net:Int):Int:=least cp (al - d0 al dd de net)
def k0 (al:Int) (dd:Bool) (cp cn de net:Int):Int:=Ce.AZ (al - d0 al dd de net - c0 al dd cp de net) cn
def bD (al:Int) (dd:Bool) (cp cn de oo net:Int):Int:=if ig al cp cn de oo=true then (if net=0 then least (d0 al dd de net) oo else d0 al dd de net) else 0
def bC (al:Int) (dd:Bool) (cp cn de oo net:Int):Int:=if ig al cp cn de oo=true then (if net=0 then least (c0 al dd cp de net) (oo - bD al dd cp cn de oo net) else c0 al dd cp de net) else 0
def bK (al:Int) (dd:Bool) (cp cn de oo net:Int):Int:=if ig al cp cn de oo=true then (if net=0 then least (k0 al dd cp cn de net) (oo - bD al dd cp cn de oo net - bC al dd cp cn de oo net) else k0 al dd cp cn de net) else 0
def bE (al cp cn de oo:Int):Int:=if ig al cp cn de oo=true then 0 else 1
theorem iG (al cp cn de oo:Int):ig al cp cn de oo=true ↔ (0<=al/\al<=10000000000000)/\(0<=cp/\cp<=10000000000000)/\(0<=de/\de<=10000000000000)/\(0<=oo/\oo<=10000000000000)/\0<=cn/\cn<=10000:=by
 simp only [ig,Bool.and_eq_true,decide_eq_true_eq,Ce.ql];constructor
 ·rintro ⟨⟨a,b,c,d⟩,e,f⟩;exact ⟨a,b,c,d,e,f⟩
 ·rintro ⟨a,b,c,d,e,f⟩;exact ⟨⟨a,b,c,d⟩,e,f⟩
theorem PO (al:Int) (dd:Bool) (cp cn de oo net:Int) (hn:net ≠ 0) (h:bE al cp cn de oo=0) :
  bE al cp cn 0 0=0/\bD al dd cp cn 0 0 net=bD al dd cp cn de oo net/\bC al dd cp cn 0 0 net=bC al dd cp cn de oo net/\bK al dd cp cn 0 0 net=bK al dd cp cn de oo net/\bD al dd cp cn 0 0 net=0:=by
 have hb:ig al cp cn de oo=true:=by
  cases e:ig al cp cn de oo with
  | true=>rfl
  | false=>simp [bE,e] at h
 have hb2:ig al cp cn 0 0=true:=by
  obtain ⟨a,c,_,_,n⟩:=(iG al cp cn de oo).mp hb;exact (iG al cp cn 0 0).mpr ⟨a,c,by omega,by omega,n⟩
 have z (e:Int):d0 al dd e net=0:=by simp [d0,hn]
 simp [bE,bD,bC,bK,hb,hb2,hn,z,c0,k0]
structure Ot where
 al:Int
 de:Int
 cp:Int
 cn:Int
 plan:Int
 wr:Int
 pr:Int
 deny:Int
def ot0:Ot:=⟨0,0,0,0,0,0,0,0⟩
def member (o:Ot):Int:=o.de+o.cp+o.cn
def FM (bi al pr de cp cn:Int):Bool:=Ce.good bi && (Ce.good al && (Ce.good pr && (Ce.good de && (Ce.good cp && Ce.good cn))))
def pF (bi al pr de cp cn:Int):Bool:=decide (al<=bi) && (decide (pr<=bi) && decide (de+cp+cn<=al))
def rest (al pr:Int):Int:=if pr < al then al - pr else 0
def sP (al pr de cp cn:Int):Int:=least (al - de - cp - cn) (rest al pr)
def sD (al pr de cp cn:Int):Int:=least de (rest al pr - sP al pr de cp cn)
def sC (al pr de cp cn:Int):Int:=least cp (rest al pr - sP al pr de cp cn - sD al pr de cp cn)
def sK (al pr de cp cn:Int):Int:=least cn (rest al pr - sP al pr de cp cn - sD al pr de cp cn - sC al pr de cp cn)
def EP (bi al pr de cp cn:Int):Int:=if FM bi al pr de cp cn=true then (if pF bi al pr de cp cn=true then 0 else 3) else 1
def EW (bi al pr de cp cn:Int):Ot:=if EP bi al pr de cp cn=0 then ⟨al,sD al pr de cp cn,sC al pr de cp cn,sK al pr de cp cn,sP al pr de cp cn,bi - pr - sP al pr de cp cn - sD al pr de cp cn - sC al pr de cp cn - sK al pr de cp cn,pr,0⟩ else ot0
theorem Fb {bi al pr de cp cn:Int} (h:EP bi al pr de cp cn=0) :
  (0<=bi/\bi<=10000000000000)/\(0<=al/\al<=10000000000000)/\(0<=pr/\pr<=10000000000000)/\(0<=de/\de<=10000000000000)/\(0<=cp/\cp<=10000000000000)/\(0<=cn/\cn<=10000000000000)/\al<=bi/\pr<=bi/\de+cp+cn<=al:=by
 unfold EP at h;split at h
 case isFalse=>simp at h
 case isTrue h1 =>
  split at h
  case isFalse=>simp at h
  case isTrue h2 =>
   simp only [FM,Bool.and_eq_true,Ce.ql] at h1;simp only [pF,Bool.and_eq_true,decide_eq_true_eq] at h2;obtain ⟨a,b,c,d,e,f⟩:=h1;obtain ⟨x,y,z⟩:=h2;exact ⟨a,b,c,d,e,f,x,y,z⟩
theorem Fg {bi al pr de cp cn:Int} (h:EP bi al pr de cp cn=0) :
  0<=rest al pr/\rest al pr<=al/\rest al pr+pr<=bi/\0<=sP al pr de cp cn/\0<=sD al pr de cp cn/\0<=sC al pr de cp cn/\0<=sK al pr de cp cn ∧
  sD al pr de cp cn<=de/\sC al pr de cp cn<=cp/\sK al pr de cp cn<=cn ∧
  sP al pr de cp cn+(sD al pr de cp cn+sC al pr de cp cn+sK al pr de cp cn)=rest al pr:=by
 obtain ⟨h1,h2,h3,h4,h5,h6,h7,h8,h9⟩:=Fb h;have r:0<=rest al pr/\rest al pr<=al/\rest al pr+pr<=bi:=by unfold rest;split<;>omega
 have x0:sP al pr de cp cn=least (al - de - cp - cn) (rest al pr):=rfl;have x1:sD al pr de cp cn=least de (rest al pr - sP al pr de cp cn):=rfl;have x2:sC al pr de cp cn=least cp (rest al pr - sP al pr de cp cn - sD al pr de cp cn):=rfl;have x3:sK al pr de cp cn=least cn (rest al pr - sP al pr de cp cn - sD al pr de cp cn - sC al pr de cp cn):=rfl;generalize sP al pr de cp cn=P at *;generalize sD al pr de cp cn=D at *;generalize sC al pr de cp cn=C at *;generalize sK al pr de cp cn=K at *;generalize rest al pr=R at *;unfold least at x0 x1 x2 x3;refine ⟨r.1,r.2.1,r.2.2,?_⟩;split at x0<;>split at x1<;>split at x2<;>split at x3<;>omega
def Jj (bi:Int) (o:Ot):Bool:=(decide (0<=o.plan) && (decide (0<=o.wr) && (decide (0<=o.pr) && (decide (0<=o.de) && (decide (0<=o.cp) && decide (0<=o.cn)))))) && (decide (o.plan+o.wr+o.pr+o.de+o.cp+o.cn=bi) && (decide (o.de+o.cp+o.cn<=o.al) && decide (o.al<=bi)))
def Dt (bi pr why:Int):Int:=if why ≠ 0/\Ce.good bi=true/\Ce.good pr=true then (if pr<=bi then 0 else 3) else 1
def Du (bi pr why:Int):Ot:=if Dt bi pr why=0 then ⟨0,0,0,0,0,bi - pr,pr,why⟩ else ot0
theorem JJ (bi pr why:Int) (h:Dt bi pr why=0):Jj bi (Du bi pr why)=true/\member (Du bi pr why)=0/\(Du bi pr why).plan=0:=by
 have hh:(0<=bi/\0<=pr)/\pr<=bi:=by
  unfold Dt at h;split at h
  case isFalse=>simp at h
  case isTrue h1 =>
   split at h
   case isFalse=>simp at h
   case isTrue h2=>exact ⟨⟨((Ce.ql _).mp h1.2.1).1,((Ce.ql _).mp h1.2.2).1⟩,h2⟩
 simp only [Du,if_pos h,Jj,member,Bool.and_eq_true,decide_eq_true_eq];refine ⟨⟨⟨?_,?_,?_,?_,?_,?_⟩,?_,?_,?_⟩,?_,?_⟩<;>first|trivial|omega
end Sh
namespace Ac
def uY (a b:Tx):Bool:=Op.bytesLess a b
theorem vg (a:Tx):uY a a=false:=by unfold uY;rw [Go.Proofs.bytesLess_eq];simp [List.lt_irrefl]
theorem uZ {a b:Tx} (h:uY a b=true):uY b a=false:=by
 unfold uY at *;rw [Go.Proofs.bytesLess_eq] at h ⊢;simp only [decide_eq_true_eq,decide_eq_false_iff_not] at *;exact List.not_lt.2 (List.le_of_lt h)
theorem vw {a b c:Tx} (h:uY a b=true) (h2:uY b c=true):uY a c=true:=by
 unfold uY at *;rw [Go.Proofs.bytesLess_eq] at h h2 ⊢;simp only [decide_eq_true_eq] at *;exact List.lt_trans h h2
theorem vF (a b:Tx):uY a b=true ∨ a=b ∨ uY b a=true:=by
 unfold uY;rw [Go.Proofs.bytesLess_eq,Go.Proofs.bytesLess_eq];simp only [decide_eq_true_eq];rcases Classical.em (a < b) with h|h
 ·exact Or.inl h
 ·rcases Classical.em (b < a) with h2|h2
  ·exact Or.inr (Or.inr h2)
  ·exact Or.inr (Or.inl (List.le_antisymm (List.not_lt.1 h2) (List.not_lt.1 h)))
structure Row where
 who:Tx
 Br:Bool
 year:Int
 de:Int
 oo:Int
def dR (a b:Row):Bool:=if a.year=b.year then (if a.Br=b.Br then uY a.who b.who else b.Br) else decide (a.year < b.year)
def hit (w:Tx) (f:Bool) (y:Int) (a:Row):Bool:=decide (a.who=w) && (decide (a.Br=f) && decide (a.year=y))
theorem qN (w:Tx) (f:Bool) (y:Int) (a:Row):hit w f y a=true ↔ a.who=w/\a.Br=f/\a.year=y:=by simp [hit]
def Ew (a b:Row):Prop:=a.who=b.who/\a.Br=b.Br/\a.year=b.year
theorem dW {a b:Row} (h:Ew a b):dR a b=false:=by
 obtain ⟨h1,h2,h3⟩:=h;unfold dR;rw [if_pos h3,if_pos h2,h1,vg]
theorem dS {a b:Row} (h:dR a b=true):dR b a=false:=by
 unfold dR at *;by_cases h1:a.year=b.year
 ·rw [if_pos h1] at h;rw [if_pos h1.symm];by_cases h2:a.Br=b.Br
  ·rw [if_pos h2] at h;rw [if_pos h2.symm];exact uZ h
  ·rw [if_neg h2] at h;rw [if_neg (Ne.symm h2)];cases e:a.Br with
   | false=>rfl
   | true=>rw [e,h] at h2;exact absurd rfl h2
 ·rw [if_neg h1] at h;rw [if_neg (Ne.symm h1)];simp at *;omega
theorem eu (a b:Row):dR a b=true ∨ Ew a b ∨ dR b a=true:=by
 unfold dR Ew;by_cases h1:a.year=b.year
 ·rw [if_pos h1,if_pos h1.symm];by_cases h2:a.Br=b.Br
  ·rw [if_pos h2,if_pos h2.symm];rcases vF a.who b.who with h|h|h
   ·exact Or.inl h
   ·exact Or.inr (Or.inl ⟨h,h2,h1⟩)
   ·exact Or.inr (Or.inr h)
  ·rw [if_neg h2,if_neg (Ne.symm h2)];cases e:a.Br<;>cases e2:b.Br<;>simp_all
 ·rw [if_neg h1,if_neg (Ne.symm h1)];simp;omega
theorem dZ {a b c:Row} (h:dR a b=true) (g:dR b c=true):dR a c=true:=by
 unfold dR at *;by_cases h1:a.year=b.year
 ·rw [if_pos h1] at h;by_cases g1:b.year=c.year
  ·rw [if_pos g1] at g;rw [if_pos (h1.trans g1)];by_cases h2:a.Br=b.Br
   ·rw [if_pos h2] at h;by_cases g2:b.Br=c.Br
    ·rw [if_pos g2] at g;rw [if_pos (h2.trans g2)];exact vw h g
    ·rw [if_neg g2] at g;rw [h2,if_neg g2];exact g
   ·rw [if_neg h2] at h;by_cases g2:b.Br=c.Br
    ·rw [if_neg (fun e=>h2 (e.trans g2.symm)),←g2];exact h
    ·rw [if_neg g2] at g;exact absurd (h.trans g.symm) g2
  ·rw [if_neg g1] at g;rw [if_neg (fun e=>g1 (h1.symm.trans e)),h1];exact g
 ·rw [if_neg h1] at h;by_cases g1:b.year=c.year
  ·rw [if_neg (fun e=>h1 (e.trans g1.symm)),←g1];exact h
  ·rw [if_neg g1] at g;simp only [decide_eq_true_eq] at h g;rw [if_neg (by omega)];simp only [decide_eq_true_eq];omega
theorem dU {a b:Row} (c:Row) (h:Ew a b):dR a c=dR b c:=by
 obtain ⟨h1,h2,h3⟩:=h;unfold dR;rw [h1,h2,h3]
theorem dV {a b:Row} (c:Row) (h:Ew a b):dR c a=dR c b:=by
 obtain ⟨h1,h2,h3⟩:=h;unfold dR;rw [h1,h2,h3]
def yP (a:Row):Bool:=Ce.good a.oo && (decide (a.oo ≠ 0) && (decide (0<=a.de) && decide (a.de<=a.oo)))
theorem yT (a:Row):yP a=true ↔ (0<=a.oo/\a.oo<=10000000000000)/\a.oo ≠ 0/\0<=a.de/\a.de<=a.oo:=by
 simp only [yP,Bool.and_eq_true,decide_eq_true_eq,Ce.ql]
def iL (p:Option Row) (a:Row):Bool:=match p with
 | none=>true
 | some q=>dR q a
def ckE:Option Row->List Row->Int
 | _,[]=>0
 | p,a :: l=>if yP a=true then (if iL p a=true then ckE (some a) l else 11) else 1
def kF (l:List Row):Int:=ckE none l
def Ok (l:List Row):Prop:=(∀a ∈ l,yP a=true)/\l.Pairwise (fun a b=>dR a b=true)
theorem kS:∀(l:List Row) (p:Option Row),ckE p l=0->Ok l/\∀a ∈ l,iL p a=true
 | [],_,_=>⟨⟨by simp,List.Pairwise.nil⟩,by simp⟩
 | a :: l,p,h=>by
  unfold ckE at h;by_cases h1:yP a=true
  ·rw [if_pos h1] at h;by_cases h2:iL p a=true
   ·rw [if_pos h2] at h;obtain ⟨⟨k1,k2⟩,k3⟩:=kS l (some a) h;refine ⟨⟨?_,List.Pairwise.cons k3 k2⟩,?_⟩
    ·intro x hx;rcases List.mem_cons.1 hx with rfl|hx
     ·exact h1
     ·exact k1 x hx
    ·intro x hx;rcases List.mem_cons.1 hx with rfl|hx
     ·exact h2
     ·cases p with
      | none=>rfl
      | some q=>exact dZ (show dR q a=true from h2) (show dR a x=true from k3 x hx)
   ·rw [if_neg h2] at h;simp at h
  ·rw [if_neg h1] at h;simp at h
theorem yJ:∀(l:List Row) (p:Option Row),Ok l->(∀a ∈ l,iL p a=true)->ckE p l=0
 | [],_,_,_=>rfl
 | a :: l,p,⟨h1,h2⟩,h3=>by
  unfold ckE;rw [if_pos (h1 a (List.mem_cons_self ..)),if_pos (h3 a (List.mem_cons_self ..))];have h4:=List.pairwise_cons.1 h2;exact yJ l (some a) ⟨fun x hx=>h1 x (List.mem_cons_of_mem _ hx),h4.2⟩ h4.1
theorem kG (l:List Row):kF l=0 ↔ Ok l:=
 ⟨fun h=>(kS l none h).1,fun h=>yJ l none h fun _ _=>rfl⟩
def pU (l:List Row) (w:Tx) (f:Bool) (y:Int):Row:=match l with
 | []=>⟨w,f,y,0,0⟩
 | a :: l=>if hit w f y a=true then a else pU l w f y
theorem dx:∀(l:List Row) (w:Tx) (f:Bool) (y:Int),hit w f y (pU l w f y)=true
 | [],w,f,y=>by simp [pU,hit]
 | a :: l,w,f,y=>by
  unfold pU;split
  ·assumption
  ·exact dx l w f y
theorem pX:∀(l:List Row) (w:Tx) (f:Bool) (y:Int),pU l w f y ∈ l ∨ (pU l w f y=⟨w,f,y,0,0⟩/\∀a ∈ l,hit w f y a=false)
 | [],w,f,y=>Or.inr ⟨rfl,by simp⟩
 | a :: l,w,f,y=>by
  unfold pU;split
  ·exact Or.inl (List.mem_cons_self ..)
  ·next h =>
   rcases pX l w f y with k|⟨k1,k2⟩
   ·exact Or.inl (List.mem_cons_of_mem _ k)
   ·refine Or.inr ⟨k1,fun x hx=>?_⟩;rcases List.mem_cons.1 hx with rfl|hx
    ·simpa using h
    ·exact k2 x hx
theorem qc {l:List Row} (h:Ok l) (w:Tx) (f:Bool) (y:Int):0<=(pU l w f y).de/\(pU l w f y).de<=(pU l w f y).oo/\(pU l w f y).oo<=10000000000000:=by
 rcases pX l w f y with k|⟨k,_⟩
 ·have:=(yT _).1 (h.1 _ k);omega
 ·rw [k];simp
theorem get_mem:∀ {l:List Row},Ok l->∀a ∈ l,pU l a.who a.Br a.year=a
 | [],_,a,ha=>by simp at ha
 | x :: l,⟨h1,h2⟩,a,ha=>by
  have h3:=List.pairwise_cons.1 h2;unfold pU;rcases List.mem_cons.1 ha with rfl|ha
  ·rw [if_pos (by simp [hit])]
  ·rw [if_neg ?_]
   ·exact get_mem ⟨fun x hx=>h1 x (List.mem_cons_of_mem _ hx),h3.2⟩ a ha
   ·intro e;have h4:=h3.1 a ha;rw [dW ((qN _ _ _ _).1 e)] at h4;simp at h4
theorem mem_iff {l:List Row} (h:Ok l) (a:Row):a ∈ l ↔ pU l a.who a.Br a.year=a/\a.oo ≠ 0:=by
 constructor
 ·intro ha;exact ⟨get_mem h a ha,((yT a).1 (h.1 a ha)).2.1⟩
 ·rintro ⟨h1,h2⟩;rcases pX l a.who a.Br a.year with k|⟨k,_⟩
  ·rwa [h1] at k
  ·rw [h1] at k;rw [k] at h2;simp at h2
theorem O5:∀ {l m:List Row},l.Pairwise (fun a b=>dR a b=true)->m.Pairwise (fun a b=>dR a b=true)->(∀a,a ∈ l ↔ a ∈ m)->l=m
 | [],[],_,_,_=>rfl
 | [],b :: m,_,_,h=>by have:=(h b).2 (List.mem_cons_self ..);simp at this
 | a :: l,[],_,_,h=>by have:=(h a).1 (List.mem_cons_self ..);simp at this
 | a :: l,b :: m,hl,hm,h=>by
  have l1:=List.pairwise_cons.1 hl;have m1:=List.pairwise_cons.1 hm;have nl (x:Row) (hx:x ∈ l):x ≠ a:=by
   intro e;subst e;have:=l1.1 _ hx;rw [dW ⟨rfl,rfl,rfl⟩] at this;simp at this
  have nm (x:Row) (hx:x ∈ m):x ≠ b:=by
   intro e;subst e;have:=m1.1 _ hx;rw [dW ⟨rfl,rfl,rfl⟩] at this;simp at this
  have hab:a=b:=by
   rcases List.mem_cons.1 ((h a).1 (List.mem_cons_self ..)) with e|e
   ·exact e
   ·rcases List.mem_cons.1 ((h b).2 (List.mem_cons_self ..)) with e2|e2
    ·exact e2.symm
    ·have x1:=l1.1 b e2;have x2:=m1.1 a e;rw [dS x1] at x2;simp at x2
  subst hab;rw [O5 l1.2 m1.2];intro x;constructor
  ·intro hx;rcases List.mem_cons.1 ((h x).1 (List.mem_cons_of_mem _ hx)) with e|e
   ·exact absurd e (nl x hx)
   ·exact e
  ·intro hx;rcases List.mem_cons.1 ((h x).2 (List.mem_cons_of_mem _ hx)) with e|e
   ·exact absurd e (nm x hx)
   ·exact e
theorem ext {l m:List Row} (hl:Ok l) (hm:Ok m) (h:∀w f y,pU l w f y=pU m w f y):l=m:=
 O5 hl.2 hm.2 fun a=>by rw [mem_iff hl,mem_iff hm,h]
def put (a:Row):List Row->List Row
 | []=>[a]
 | x :: xs=>if dR x a=true then x :: put a xs else (if dR a x=true then a :: x :: xs else a :: xs)
theorem put_mem (a:Row):∀(l:List Row) (x:Row),x ∈ put a l->x=a ∨ x ∈ l
 | [],x,h=>by simp [put] at h;exact Or.inl h
 | b :: l,x,h=>by
  unfold put at h;split at h
  ·rcases List.mem_cons.1 h with rfl|h
   ·exact Or.inr (List.mem_cons_self ..)
   ·rcases put_mem a l x h with k|k
    ·exact Or.inl k
    ·exact Or.inr (List.mem_cons_of_mem _ k)
  ·split at h
   ·rcases List.mem_cons.1 h with h|h
    ·exact Or.inl h
    ·exact Or.inr h
   ·rcases List.mem_cons.1 h with h|h
    ·exact Or.inl h
    ·exact Or.inr (List.mem_cons_of_mem _ h)
theorem Ci (a:Row) (ha:yP a=true):∀(l:List Row),Ok l->Ok (put a l)
 | [],_=>⟨by simp [put,ha],by simp [put]⟩
 | b :: l,⟨h1,h2⟩=>by
  have h3:=List.pairwise_cons.1 h2;have hl:Ok l:=⟨fun x hx=>h1 x (List.mem_cons_of_mem _ hx),h3.2⟩;have hp:=Ci a ha l hl;refine ⟨fun x hx=>?_,?_⟩
  ·rcases put_mem a (b :: l) x hx with rfl|k
   ·exact ha
   ·exact h1 x k
  ·unfold put;split
   ·next e =>
    refine List.Pairwise.cons (fun x hx=>?_) hp.2;rcases put_mem a l x hx with rfl|k
    ·exact e
    ·exact h3.1 x k
   ·next e =>
    split
    ·next g =>
     refine List.Pairwise.cons (fun x hx=>?_) h2;rcases List.mem_cons.1 hx with rfl|hx
     ·exact g
     ·exact dZ g (h3.1 x hx)
    ·next g =>
     have s:Ew a b:=by
      rcases eu a b with k|k|k
      ·exact absurd k g
      ·exact k
      ·exact absurd k e
     exact List.Pairwise.cons (fun x hx=>by rw [dU x s];exact h3.1 x hx) h3.2
def dJ (l:List Row) (w:Tx) (f:Bool) (y d o:Int):Int:=
 if Ce.dJ (pU l w f y).de d=0 then (if Ce.dJ (pU l w f y).oo o=0 then (if d<=o then 0 else 3) else Ce.dJ (pU l w f y).oo o) else Ce.dJ (pU l w f y).de d
def DW (l:List Row) (w:Tx) (f:Bool) (y d o:Int):Row:=⟨w,f,y,(pU l w f y).de+d,(pU l w f y).oo+o⟩
def dM (l:List Row) (w:Tx) (f:Bool) (y d o:Int):List Row:=
 if dJ l w f y d o=0 then (if (pU l w f y).oo+o=0 then l else put (DW l w f y d o) l) else []
theorem jX (a b:Int):Ce.dJ a b=0 ↔ (0<=a/\a<=10000000000000)/\(0<=b/\b<=10000000000000)/\a+b<=10000000000000:=by
 unfold Ce.dJ;by_cases h:Ce.good a=true/\Ce.good b=true
 ·rw [if_pos h];have h1:=(Ce.ql a).1 h.1;have h2:=(Ce.ql b).1 h.2;by_cases h3:Ce.good (a+b)=true
  ·rw [if_pos h3];have:=(Ce.ql (a+b)).1 h3;simp;omega
  ·rw [if_neg h3];rw [Ce.ql] at h3;simp;omega
 ·rw [if_neg h];rw [Ce.ql,Ce.ql] at h;simp;omega
theorem add_zero {l:List Row} {w:Tx} {f:Bool} {y d o:Int} (h:dJ l w f y d o=0) :
  (0<=(pU l w f y).de/\0<=d/\(pU l w f y).de+d<=10000000000000)/\(0<=(pU l w f y).oo/\0<=o/\(pU l w f y).oo+o<=10000000000000)/\d<=o:=by
 unfold dJ at h;by_cases h1:Ce.dJ (pU l w f y).de d=0
 ·rw [if_pos h1] at h;by_cases h2:Ce.dJ (pU l w f y).oo o=0
  ·rw [if_pos h2] at h;by_cases h3:d<=o
   ·have k1:=(jX _ _).1 h1;have k2:=(jX _ _).1 h2;omega
   ·rw [if_neg h3] at h;simp at h
  ·rw [if_neg h2] at h;exact absurd h h2
 ·rw [if_neg h1] at h;exact absurd h h1
theorem dO {l:List Row} (hl:Ok l) {w:Tx} {f:Bool} {y d o:Int} (h:dJ l w f y d o=0):Ok (dM l w f y d o):=by
 have k:=add_zero h;have g:=qc hl w f y;unfold dM;rw [if_pos h];split
 ·exact hl
 ·refine Ci _ ?_ l hl;rw [yT];simp only [DW];omega
def jF (l:List Row) (m f:Tx) (y:Int) (o:Sh.Ot):Int:=
 if dJ l m false y o.de (Sh.member o)=0 then dJ (dM l m false y o.de (Sh.member o)) f true y o.de (Sh.member o) else dJ l m false y o.de (Sh.member o)
def jG (l:List Row) (m f:Tx) (y:Int) (o:Sh.Ot):List Row:=
 if dJ l m false y o.de (Sh.member o)=0 then dM (dM l m false y o.de (Sh.member o)) f true y o.de (Sh.member o) else []
theorem bA {l:List Row} (hl:Ok l) {m f:Tx} {y:Int} {o:Sh.Ot} (h:jF l m f y o=0):Ok (jG l m f y o):=by
 unfold jF at h;unfold jG;by_cases h1:dJ l m false y o.de (Sh.member o)=0
 ·rw [if_pos h1] at h ⊢;exact dO (dO hl h1) h
 ·rw [if_neg h1] at h;exact absurd h h1
def left (most had:Int):Int:=if most<=had then 0 else most - had
def DU (mode ind Br hi hf:Int):Int:=if mode=0 then Sh.least (left Br hf) (left ind hi) else left Br hf
theorem JA (a b:Int) (h:0<=a) (hb:0<=b):0<=left a b/\left a b<=a:=by unfold left;split<;>omega
theorem JM (mode ind Br hi hf:Int) (h1:0<=ind) (h2:0<=Br) (h3:0<=hi) (h4:0<=hf):0<=DU mode ind Br hi hf/\DU mode ind Br hi hf<=Br/\DU mode ind Br hi hf<=left Br hf/\(mode=0->DU mode ind Br hi hf<=left ind hi):=by
 have a:=JA Br hf h2 h4;have b:=JA ind hi h1 h3;unfold DU Sh.least;split
 ·split<;>omega
 ·omega
end Ac
namespace Ju
open Ac (Row pU dJ dM jF jG DW DU left)
open Sh (Ot bD bC bK bE EP EW Dt Du member Jj)
structure It where
 why:Int
 al:Int
 dd:Bool
 cp:Int
 cn:Int
 yr:Int
 bi:Int
 pr:Int
structure Cx where
 mode:Int
 iD:Int
 fD:Int
 iO:Int
 fO:Int
 mem:Tx
 Br:Tx
 net:Int
def rD (x:Cx) (r:List Row) (y:Int):Int:=DU x.mode x.iD x.fD (pU r x.mem false y).de (pU r x.Br true y).de
def rO (x:Cx) (r:List Row) (y:Int):Int:=DU x.mode x.iO x.fO (pU r x.mem false y).oo (pU r x.Br true y).oo
def eB (x:Cx) (r:List Row) (i:It):Int:=bE i.al i.cp i.cn (rD x r i.yr) (rO x r i.yr)
def vD (x:Cx) (r:List Row) (i:It):Int:=bD i.al i.dd i.cp i.cn (rD x r i.yr) (rO x r i.yr) x.net
def vC (x:Cx) (r:List Row) (i:It):Int:=bC i.al i.dd i.cp i.cn (rD x r i.yr) (rO x r i.yr) x.net
def vK (x:Cx) (r:List Row) (i:It):Int:=bK i.al i.dd i.cp i.cn (rD x r i.yr) (rO x r i.yr) x.net
def eS (x:Cx) (r:List Row) (i:It):Int:=EP i.bi i.al i.pr (vD x r i) (vC x r i) (vK x r i)
def zU (x:Cx) (r:List Row) (i:It):Ot:=if i.why=0 then EW i.bi i.al i.pr (vD x r i) (vC x r i) (vK x r i) else Du i.bi i.pr i.why
def zL (x:Cx) (r:List Row) (i:It):Int:=
 if i.why=0 then (if eB x r i=0 then (if eS x r i=0 then (if x.net=0 then jF r x.mem x.Br i.yr (zU x r i) else 0) else eS x r i) else eB x r i) else Dt i.bi i.pr i.why
def zO (x:Cx) (r:List Row) (i:It):List Row:=if i.why=0/\x.net=0 then jG r x.mem x.Br i.yr (zU x r i) else r
def D6 (x:Cx):List Row->List It->Int
 | _,[]=>0
 | r,i :: l=>if zL x r i=0 then D6 x (zO x r i) l else zL x r i
def Ea (x:Cx):List Row->List It->List Ot
 | _,[]=>[]
 | r,i :: l=>zU x r i :: Ea x (zO x r i) l
def D7 (x:Cx):List Row->List It->List Row
 | r,[]=>r
 | r,i :: l=>D7 x (zO x r i) l
theorem gD {x:Cx} {r:List Row} {i:It} (h:zL x r i=0) (hw:i.why=0):eB x r i=0/\eS x r i=0/\(x.net=0->jF r x.mem x.Br i.yr (zU x r i)=0):=by
 unfold zL at h;rw [if_pos hw] at h;by_cases h1:eB x r i=0
 ·rw [if_pos h1] at h;by_cases h2:eS x r i=0
  ·rw [if_pos h2] at h;refine ⟨h1,h2,fun hn=>?_⟩;rw [if_pos hn] at h;exact h
  ·rw [if_neg h2] at h;exact absurd h h2
 ·rw [if_neg h1] at h;exact absurd h h1
theorem JG {x:Cx} {r:List Row} {i:It} (h:zL x r i=0) (hw:i.why ≠ 0):Dt i.bi i.pr i.why=0:=by
 unfold zL at h;rw [if_neg hw] at h;exact h
theorem step_ok {x:Cx} {r:List Row} {i:It} (hr:Ac.Ok r) (h:zL x r i=0):Ac.Ok (zO x r i):=by
 unfold zO;by_cases hc:i.why=0/\x.net=0
 ·rw [if_pos hc];exact Ac.bA hr ((gD h hc.1).2.2 hc.2)
 ·rw [if_neg hc];exact hr
theorem Ef (x:Cx):∀(l:List It) (r:List Row),(Ea x r l).length=l.length
 | [],_=>rfl
 | i :: l,r=>by simp only [Ea,List.length_cons,Ef x l]
theorem JK {i:It} (h:Dt i.bi i.pr i.why=0):(Du i.bi i.pr i.why).de=0/\member (Du i.bi i.pr i.why)=0:=by
 refine ⟨?_,(Sh.JJ _ _ _ h).2.1⟩;unfold Du;rw [if_pos h]
def Jh (x:Cx):Prop:=0<=x.iD/\0<=x.fD/\0<=x.iO/\0<=x.fO
theorem Gf {x:Cx} (hx:Jh x) (hf:x.fD<=10000000000000/\x.fO<=10000000000000) (hn:x.net ≠ 0) {r:List Row} {i:It} (h:zL x r i=0) :
  zL x [] i=0/\zU x [] i=zU x r i/\(zU x r i).de=0:=by
 by_cases hw:i.why=0
 ·obtain ⟨k1,k2,_⟩:=gD h hw;have b1:=Sh.PO i.al i.dd i.cp i.cn (rD x r i.yr) (rO x r i.yr) x.net hn k1;have hb:Sh.ig i.al i.cp i.cn (rD x r i.yr) (rO x r i.yr)=true:=by
   have k1':bE i.al i.cp i.cn (rD x r i.yr) (rO x r i.yr)=0:=k1;cases e:Sh.ig i.al i.cp i.cn (rD x r i.yr) (rO x r i.yr) with
   | true=>rfl
   | false=>simp [bE,e] at k1'
  obtain ⟨p,q,_,_,n⟩:=(Sh.iG _ _ _ _ _).1 hb;have r1:0<=rD x [] i.yr/\rD x [] i.yr<=x.fD:=by
   have:=Ac.JM x.mode x.iD x.fD 0 0 hx.1 hx.2.1 (by omega) (by omega);exact ⟨this.1,this.2.1⟩
  have r2:0<=rO x [] i.yr/\rO x [] i.yr<=x.fO:=by
   have:=Ac.JM x.mode x.iO x.fO 0 0 hx.2.2.1 hx.2.2.2 (by omega) (by omega);exact ⟨this.1,this.2.1⟩
  have e0:eB x [] i=0:=by
   have hb2:Sh.ig i.al i.cp i.cn (rD x [] i.yr) (rO x [] i.yr)=true:=(Sh.iG _ _ _ _ _).2 ⟨p,q,by omega,by omega,n⟩;unfold eB bE;rw [if_pos hb2]
  have b2:=Sh.PO i.al i.dd i.cp i.cn (rD x [] i.yr) (rO x [] i.yr) x.net hn e0;have e1:vD x [] i=vD x r i:=b2.2.1.symm.trans b1.2.1;have e2:vC x [] i=vC x r i:=b2.2.2.1.symm.trans b1.2.2.1;have e3:vK x [] i=vK x r i:=b2.2.2.2.1.symm.trans b1.2.2.2.1;have z:vD x r i=0:=b1.2.1.symm.trans b1.2.2.2.2;have es:eS x [] i=0:=by unfold eS;rw [e1,e2,e3];exact k2
  have ev:zU x [] i=zU x r i:=by unfold zU;rw [e1,e2,e3]
  refine ⟨?_,ev,?_⟩
  ·unfold zL;rw [if_pos hw,if_pos e0,if_pos es,if_neg hn]
  ·have hs:EP i.bi i.al i.pr (vD x r i) (vC x r i) (vK x r i)=0:=k2;have t:=Sh.Fg hs;have d:(zU x r i).de=Sh.sD i.al i.pr (vD x r i) (vC x r i) (vK x r i):=by unfold zU;rw [if_pos hw];unfold EW;rw [if_pos hs]
   rw [d];omega
 ·have k:=JG h hw;have o (t:List Row):zU x t i=Du i.bi i.pr i.why:=by unfold zU;rw [if_neg hw]
  refine ⟨?_,(o []).trans (o r).symm,?_⟩
  ·unfold zL;rw [if_neg hw];exact k
  ·rw [o r];exact (JK k).1
end Ju
namespace Wo
abbrev Wd:=Tx × Nat
def kd (c:UInt8):Nat:=if c=32 ∨ c=10 then 1 else if c=40 ∨ c=41 then 2 else if c=46 ∨ (48<=c/\c<=57) ∨ (65<=c/\c<=90) ∨ (97<=c/\c<=122) then 3 else 0
def fb:Nat->Tx->Option Nat
 | _,[]=>none
 | p,c :: t=>if kd c=0 then some p else fb (p+1) t
def good (l:Tx):Bool:=l.all fun c=>kd c != 0
end Wo
namespace Ce
def eF (f:Nat->Int):Nat->Bool
 | 0=>true
 | n+1=>eF f n && good (f n)
def tot (f:Nat->Int):Nat->Int
 | 0=>0
 | n+1=>tot f n+f n
def Gu (f:Nat->Int) (n:Nat):Int:=if eF f n=true/\tot f n<=10000000000000 then tot f n else 0
def Gt (f:Nat->Int) (n:Nat):Int:=if eF f n=true then (if tot f n<=10000000000000 then 0 else 2) else 1
theorem eG (f:Nat->Int):∀(n k:Nat),k < n->eF f n=true->good (f k)=true
 | 0,_,h,_=>absurd h (by omega)
 | n+1,k,h,g=>by
  simp only [eF,Bool.and_eq_true] at g;by_cases e:k=n
  ·rw [e];exact g.2
  ·exact eG f n k (by omega) g.1
theorem eU (f:Nat->Int) (n k:Nat) (h:k < n) (g:good (f k)=false):eF f n=false:=by
 cases e:eF f n
 ·rfl
 ·rw [eG f n k h e] at g;cases g
theorem eP (f:Nat->Int) (k:Nat) (h:eF f k=true) (g:good (f k)=true):eF f (k+1)=true:=by
 simp only [eF,h,g,Bool.and_self]
theorem G7 (f:Nat->Int) (n:Nat) (g:eF f n=true):∀(j k:Nat),k+j=n->tot f k<=tot f n
 | 0,k,h=>by rw [←h];exact Int.le_refl _
 | j+1,k,h=>by
  have h1:=G7 f n g j (k+1) (by omega);have h2:=(ql _).1 (eG f n k (by omega) g);simp only [tot] at h1;omega
theorem G8 (f:Nat->Int) (n:Nat) (g:eF f n=true) (k:Nat) (h:k<=n):0<=tot f k:=by
 induction k with
 | zero=>exact Int.le_refl _
 | succ k ih =>
  have h1:=ih (by omega);have h2:=(ql _).1 (eG f n k (by omega) g);simp only [tot];omega
theorem Gx (f:Nat->Int) (n k:Nat) (g:eF f n=true) (h:k < n) (o:10000000000000 < tot f k+f k):Gu f n=0/\Gt f n=2:=by
 have h1:=G7 f n g (n - (k+1)) (k+1) (by omega);simp only [tot] at h1;constructor
 ·unfold Gu;rw [if_neg];omega
 ·unfold Gt;rw [if_pos g,if_neg];omega
theorem Gw (f:Nat->Int) (n:Nat) (g:eF f n=true) (h:tot f n<=10000000000000):Gu f n=tot f n/\Gt f n=0:=by
 constructor
 ·unfold Gu;rw [if_pos ⟨g,h⟩]
 ·unfold Gt;rw [if_pos g,if_pos h]
theorem Gv (f:Nat->Int) (n:Nat) (g:eF f n=false):Gu f n=0/\Gt f n=1:=by
 constructor
 ·unfold Gu;rw [if_neg];rw [g];simp
 ·unfold Gt;rw [if_neg];rw [g];simp
end Ce
namespace Da
def uP (y:Int):Bool:=(y % 4 == 0 && y % 100 != 0) || y % 400 == 0
def lens:List Int:=[31,28,31,30,31,30,31,31,30,31,30,31]
def uV (m:Int):Int:=lens.getD (m - 1).toNat 0
def uU (y m:Int):Int:=if (m == 2 && uP y)=true then 29 else uV m
def ahead (y:Int):Int:=(y - 1) * 365+(y - 1) / 4 - (y - 1) / 100+(y - 1) / 400
def yr (n:Int):Int:=n.tdiv 10000
def mo (n:Int):Int:=(n.tdiv 100).tmod 100
def da (n:Int):Int:=n.tmod 100
def good (n:Int):Bool:=decide (1<=yr n/\yr n<=9999/\1<=mo n/\mo n<=12/\1<=da n/\da n<=uU (yr n) (mo n))
theorem Je (n:Int) (h:0<=n):yr n=n / 10000:=by unfold yr;exact Int.tdiv_eq_ediv_of_nonneg h
theorem xO (n:Int) (h:0<=n):mo n=n / 100 % 100:=by unfold mo;rw [Int.tdiv_eq_ediv_of_nonneg h,Int.tmod_eq_emod_of_nonneg (by omega)]
theorem mG (n:Int) (h:0<=n):da n=n % 100:=by unfold da;exact Int.tmod_eq_emod_of_nonneg h
theorem Al (n:Int) (h:n < 0):yr n<=0:=by
 unfold yr;have:=Int.tdiv_nonneg (a:=-n) (b:=10000) (by omega) (by omega);rw [Int.neg_tdiv] at this;omega
theorem yj (m:Int) (h1:1<=m) (h2:m<=12):m=1 ∨ m=2 ∨ m=3 ∨ m=4 ∨ m=5 ∨ m=6 ∨ m=7 ∨ m=8 ∨ m=9 ∨ m=10 ∨ m=11 ∨ m=12:=by omega
theorem LW (y m:Int) (h1:1<=m) (h2:m<=12):28<=uU y m/\uU y m<=31:=by
 cases b:uP y <;>
 rcases yj m h1 h2 with rfl|rfl|rfl|rfl|rfl|rfl|rfl|rfl|rfl|rfl|rfl|rfl<;>simp [uU,uV,lens,b]
theorem dX (y z:Int) (_h:1<=y) (k:y<=z):ahead y<=ahead z:=by unfold ahead;omega
theorem ql (n:Int):good n=true ↔ (1<=yr n/\yr n<=9999/\1<=mo n/\mo n<=12/\1<=da n/\da n<=uU (yr n) (mo n)):=by simp [good]
theorem mE (n:Int) (h:good n=true):0<=n:=by
 rcases Int.lt_or_le n 0 with k|k
 ·have:=Al n k;have:=((ql n).1 h).1;omega
 ·exact k
theorem parts (n:Int) (h:0<=n):n=yr n * 10000+mo n * 100+da n/\0<=mo n/\mo n<=99/\0<=da n/\da n<=99/\0<=yr n:=by
 rw [Je n h,xO n h,mG n h];omega
theorem Lp (n:Int) (h:good n=true):10101<=n/\n<=99991231:=by
 have p:=parts n (mE n h);obtain ⟨a,b,c,d,e,f⟩:=(ql n).1 h;have:=LW (yr n) (mo n) c d;omega
end Da
namespace Cm
structure Ln where
 proc:Tx
 mods:List Tx
 date:Int
 units:Int
 Av:Int
 prior:Int
structure Cl where
 id:Tx
 mem:Tx
 Br:Tx
 net:Int
 does:Int
 ref:Tx
 lines:List Ln
def ln0:Ln:=⟨[],[],0,0,0,0⟩
def I64 (n:Int):Prop:=-9223372036854775808<=n/\n<=9223372036854775807
def bG (x:Ln):Prop:=I64 x.date/\I64 x.units/\I64 x.Av/\I64 x.prior/\x.proc.length<=281474976710656/\x.mods.length<=281474976710656/\∀t ∈ x.mods,t.length<=281474976710656
def aC (c:Cl):Prop:=I64 c.net/\I64 c.does/\c.id.length<=281474976710656/\c.mem.length<=281474976710656/\c.Br.length<=281474976710656/\c.ref.length<=281474976710656/\c.lines.length<=281474976710656/\∀x ∈ c.lines,bG x
def FH (c:UInt8):Bool:=(decide (65<=c.toNat) && decide (c.toNat<=90)) || (decide (48<=c.toNat) && decide (c.toNat<=57))
def lM (s:Tx) (f t:Int):Bool:=decide (f<=(s.length:Int)) && decide ((s.length:Int)<=t) && s.all FH
def xQ (l:List Tx):Bool:=decide (l.length<=4) && l.all fun x=>lM x 2 2
def lU (l:Ln):Bool:=lM l.proc 5 5 && xQ l.mods
def Hq (n:Int):Bool:=decide (1<=n) && decide (n<=9999)
def yh (l:Ln):Bool:=Ce.good l.Av && Ce.good l.prior && decide (l.prior<=l.Av)
def vS (l:Ln):Int:=if lU l=true then (if Da.good l.date=true then (if Hq l.units=true then (if yh l=true then 0 else 8) else 3) else 7) else 9
def bil (ls:List Ln) (i:Nat):Int:=(ls.getD i ln0).Av
def G6 (ls:List Ln):Int:=if Ce.Gt (bil ls) ls.length=0 then Ce.Gu (bil ls) ls.length else 0
def G5 (ls:List Ln):Int:=if Ce.Gt (bil ls) ls.length=0 then 0 else 8
def oU (y:Int):List Ln->Int
 | []=>0
 | x :: r=>if vS x=0 then (if Da.yr x.date=y then oU y r else 7) else vS x
def vW (ls:List Ln):Int:=oU (Da.yr (ls.getD 0 ln0).date) ls
def yA (c:Cl):Bool:=lM c.id 1 12 && (lM c.mem 1 12 && lM c.Br 1 12)
def yF (n:Int):Bool:=decide (n=0) || decide (n=1)
def Dq (c:Cl):Bool:=if c.does=1 then decide (c.ref=[]) else lM c.ref 1 12
def nD (n:Int):Bool:=decide (n=1) || (decide (n=7) || decide (n=8))
def qJ (c:Cl):Int:=if yA c=true then (if yF c.net=true then (if Dq c=true then (if nD c.does=true then 0 else 3) else 9) else 3) else 9
def Ia (c:Cl):Bool:=(decide (c.does=8) == decide (c.lines.length=0))
def DJ (c:Cl):Int:=if c.lines.length<=999 then (if Ia c=true then (if vW c.lines=0 then G5 c.lines else vW c.lines) else 6) else 10
def kF (c:Cl):Int:=if qJ c=0 then DJ c else qJ c
theorem bO {α:Type} (l:List α) (k:Nat) (x:α) (h:l[k]?=some x):l.drop k=x :: l.drop (k+1):=by
 obtain ⟨hk,rfl⟩:=List.getElem?_eq_some_iff.1 h;exact List.drop_eq_getElem_cons hk
theorem jy (ls:List Ln) (k:Nat) (x:Ln) (h:ls[k]?=some x):bil ls k=x.Av:=by
 unfold bil;rw [List.getD_eq_getElem?_getD,h];rfl
theorem oV (y:Int) (ls:List Ln) (k:Nat) (x:Ln) (h:ls[k]?=some x) (hk:oU y (ls.drop k)=oU y ls) (h0:vS x ≠ 0):oU y ls=vS x:=by
 rw [←hk,bO ls k x h];simp [oU,h0]
theorem o8 (y:Int) (ls:List Ln) (k:Nat) (x:Ln) (h:ls[k]?=some x) (hk:oU y (ls.drop k)=oU y ls) (h0:vS x=0) (h1:Da.yr x.date ≠ y):oU y ls=7:=by
 rw [←hk,bO ls k x h];simp [oU,h0,h1]
theorem o7 (y:Int) (ls:List Ln) (k:Nat) (x:Ln) (h:ls[k]?=some x) (hk:oU y (ls.drop k)=oU y ls) (h0:vS x=0) (h1:Da.yr x.date=y):oU y (ls.drop (k+1))=oU y ls:=by
 rw [←hk,bO ls k x h];simp [oU,h0,h1]
theorem oZ (y:Int) (ls:List Ln) (k:Nat) (h:ls.length<=k) (hk:oU y (ls.drop k)=oU y ls):oU y ls=0:=by
 rw [←hk,List.drop_of_length_le h];rfl
theorem vT {x:Ln} (h:vS x=0):Da.good x.date=true:=by
 unfold vS at h;split at h
 ·split at h
  ·assumption
  ·omega
 ·omega
end Cm
end Go.Proofs.YtfbfeoplldjbpaaGreatDoor
