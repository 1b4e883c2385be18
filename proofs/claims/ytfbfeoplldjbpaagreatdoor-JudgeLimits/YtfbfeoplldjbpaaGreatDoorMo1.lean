/-
  Texts put together (merge.py): QMath, CMath, HMath, YMath.
-/
import Derived.Lib.Join
import Derived.Lib.Strings
import Derived.Lib.SplitLaws
import Derived.Sort.Walk0
import Derived.Test.YtfbfeoplldjbpaaGreatDoorProg
set_option linter.unusedSimpArgs false
set_option linter.unusedVariables false
set_option maxHeartbeats 16000000
set_option maxRecDepth 100000
section
namespace Go.Proofs.YtfbfeoplldjbpaaGreatDoor
abbrev Tx:=List UInt8
abbrev Sg:=List (List Tx)
def mk (l:Tx):ByteArray:=⟨l.toArray⟩
theorem xI (l:Tx):(mk l).data.toList=l:=by simp [mk]
theorem xK (s:ByteArray):mk s.data.toList=s:=Lib.mk_data s
theorem xM (l:Tx):(mk l).size=l.length:=by rw [Lib.size_eq,xI]
def FH (c:UInt8):Bool:=decide (33<=c.toNat) && decide (c.toNat<=126) && !(decide (c.toNat=45)) && !(decide (c.toNat=46)) && !(decide (48<=c.toNat) && decide (c.toNat<=57)) && !(decide (65<=c.toNat) && decide (c.toNat<=90)) && !(decide (97<=c.toNat) && decide (c.toNat<=122))
def qg (e p s:UInt8):Bool:=e != p && e != s && p != s && FH e && FH p && FH s
end Go.Proofs.YtfbfeoplldjbpaaGreatDoor
end
section
namespace Go.Proofs.YtfbfeoplldjbpaaGreatDoor.Ce
def good (a:Int):Bool:=decide (0<=a) && decide (a<=10000000000000)
theorem ql (a:Int):good a=true ↔ 0<=a/\a<=10000000000000:=by
 unfold good;simp
theorem qm (a:Int):good a=false ↔ a < 0 ∨ 10000000000000 < a:=by
 have h:=ql a
 cases g:good a
 ·simp only [true_iff]
  rw [g] at h
  simp at h
  omega
 ·rw [g] at h
  simp at h
  simp
  omega
def dM (a b:Int):Int:=if good a=true/\good b=true/\good (a+b)=true then a+b else 0
def dJ (a b:Int):Int:=if good a=true/\good b=true then (if good (a+b)=true then 0 else 2) else 1
def Gm (a b:Int):Int:=if good a=true/\good b=true/\b<=a then a - b else 0
def Gl (a b:Int):Int:=if good a=true/\good b=true then (if b<=a then 0 else 3) else 1
def EG (a n d:Int):Int:=if good a=true/\0<=n/\1<=d/\good (a * n / d)=true then a * n / d else 0
def EF (a n d:Int):Int:=if good a=true/\0<=n/\1<=d then (if good (a * n / d)=true then 0 else 2) else 1
def AZ (a p:Int):Int:=if 0<=p/\p<=10000 then EG a p 10000 else 0
def AY (a p:Int):Int:=if 0<=p/\p<=10000 then EF a p 10000 else 1
end Go.Proofs.YtfbfeoplldjbpaaGreatDoor.Ce
end
section
namespace Go.Proofs.YtfbfeoplldjbpaaGreatDoor.Sh
def least (a b:Int):Int:=if b < a then b else a
theorem Jy (a b:Int):(a<=b/\least a b=a) ∨ (b < a/\least a b=b):=by unfold least;split<;>omega
theorem Bd (a p:Int) (h:0<=a) (hp:0<=p) (hq:p<=10000):0<=Ce.AZ a p/\Ce.AZ a p<=a:=by
 have e1:0<=a * p:=Int.mul_nonneg h hp
 have e2:a * p<=a * 10000:=Int.mul_le_mul_of_nonneg_left hq h
 unfold Ce.AZ Ce.EG
 split
 ·split<;>omega
 ·omega
def ig (al cp cn de oo:Int):Bool:=(Ce.good al && (Ce.good cp && (Ce.good de && Ce.good oo))) && (decide (0<=cn) && decide (cn<=10000))
def d0 (al:Int) (dd:Bool) (de net:Int):Int:=if dd=true/\net=0 then least de al else 0
def c0 (al:Int) (dd:Bool) (cp de net:Int):Int:=least cp (al - d0 al dd de net)
def k0 (al:Int) (dd:Bool) (cp cn de net:Int):Int:=Ce.AZ (al - d0 al dd de net - c0 al dd cp de net) cn
def bD (al:Int) (dd:Bool) (cp cn de oo net:Int):Int:=if ig al cp cn de oo=true then (if net=0 then least (d0 al dd de net) oo else d0 al dd de net) else 0
def bC (al:Int) (dd:Bool) (cp cn de oo net:Int):Int:=if ig al cp cn de oo=true then (if net=0 then least (c0 al dd cp de net) (oo - bD al dd cp cn de oo net) else c0 al dd cp de net) else 0
def bK (al:Int) (dd:Bool) (cp cn de oo net:Int):Int:=if ig al cp cn de oo=true then (if net=0 then least (k0 al dd cp cn de net) (oo - bD al dd cp cn de oo net - bC al dd cp cn de oo net) else k0 al dd cp cn de net) else 0
def bE (al cp cn de oo:Int):Int:=if ig al cp cn de oo=true then 0 else 1
theorem iG (al cp cn de oo:Int):ig al cp cn de oo=true ↔ (0<=al/\al<=10000000000000)/\(0<=cp/\cp<=10000000000000)/\(0<=de/\de<=10000000000000)/\(0<=oo/\oo<=10000000000000)/\0<=cn/\cn<=10000:=by
 simp only [ig,Bool.and_eq_true,decide_eq_true_eq,Ce.ql]
 constructor
 ·rintro ⟨⟨a,b,c,d⟩,e,f⟩;exact ⟨a,b,c,d,e,f⟩
 ·rintro ⟨a,b,c,d,e,f⟩;exact ⟨⟨a,b,c,d⟩,e,f⟩
theorem JI (al:Int) (dd:Bool) (cp cn de net:Int) (ha:0<=al) (hc:0<=cp) (hd:0<=de) (hn:0<=cn) (hm:cn<=10000) :
  0<=d0 al dd de net/\d0 al dd de net<=de/\d0 al dd de net<=al/\0<=c0 al dd cp de net/\c0 al dd cp de net<=cp/\0<=k0 al dd cp cn de net/\d0 al dd de net+c0 al dd cp de net+k0 al dd cp cn de net<=al:=by
 have h1:0<=d0 al dd de net/\d0 al dd de net<=de/\d0 al dd de net<=al:=by
  unfold d0;split
  ·rcases Jy de al with ⟨x,y⟩|⟨x,y⟩<;>rw [y]<;>omega
  ·omega
 have h2:0<=c0 al dd cp de net/\c0 al dd cp de net<=cp/\c0 al dd cp de net<=al - d0 al dd de net:=by
  unfold c0
  rcases Jy cp (al - d0 al dd de net) with ⟨x,y⟩|⟨x,y⟩<;>rw [y]<;>omega
 have h3:=Bd (al - d0 al dd de net - c0 al dd cp de net) cn (by omega) hn hm
 have h4:k0 al dd cp cn de net=Ce.AZ (al - d0 al dd de net - c0 al dd cp de net) cn:=rfl
 rw [←h4] at h3
 omega
theorem Jk (al:Int) (dd:Bool) (cp cn de oo:Int) (h:bE al cp cn de oo=0) :
  0<=bD al dd cp cn de oo 0/\0<=bC al dd cp cn de oo 0/\0<=bK al dd cp cn de oo 0/\bD al dd cp cn de oo 0<=de ∧
  bD al dd cp cn de oo 0+bC al dd cp cn de oo 0+bK al dd cp cn de oo 0<=oo/\bD al dd cp cn de oo 0+bC al dd cp cn de oo 0+bK al dd cp cn de oo 0<=al:=by
 have hb:ig al cp cn de oo=true:=by
  cases e:ig al cp cn de oo with
  | true=>rfl
  | false=>simp [bE,e] at h
 obtain ⟨⟨a1,a2⟩,⟨c1,c2⟩,⟨e1,e2⟩,⟨o1,o2⟩,n1,n2⟩:=(iG al cp cn de oo).mp hb
 have hr:=JI al dd cp cn de 0 a1 c1 e1 n1 n2
 have x1:bD al dd cp cn de oo 0=least (d0 al dd de 0) oo:=by simp [bD,hb]
 have x2:bC al dd cp cn de oo 0=least (c0 al dd cp de 0) (oo - bD al dd cp cn de oo 0):=by simp only [bC,hb,if_true]
 have x3:bK al dd cp cn de oo 0=least (k0 al dd cp cn de 0) (oo - bD al dd cp cn de oo 0 - bC al dd cp cn de oo 0):=by simp only [bK,hb,if_true]
 rcases Jy (d0 al dd de 0) oo with ⟨p1,q1⟩|⟨p1,q1⟩ <;>
 rcases Jy (c0 al dd cp de 0) (oo - bD al dd cp cn de oo 0) with ⟨p2,q2⟩|⟨p2,q2⟩ <;>
 rcases Jy (k0 al dd cp cn de 0) (oo - bD al dd cp cn de oo 0 - bC al dd cp cn de oo 0) with ⟨p3,q3⟩|⟨p3,q3⟩ <;>
 rw [q1] at x1<;>rw [q2] at x2<;>rw [q3] at x3<;>omega
theorem PO (al:Int) (dd:Bool) (cp cn de oo net:Int) (hn:net ≠ 0) (h:bE al cp cn de oo=0) :
  bE al cp cn 0 0=0/\bD al dd cp cn 0 0 net=bD al dd cp cn de oo net/\bC al dd cp cn 0 0 net=bC al dd cp cn de oo net/\bK al dd cp cn 0 0 net=bK al dd cp cn de oo net/\bD al dd cp cn 0 0 net=0:=by
 have hb:ig al cp cn de oo=true:=by
  cases e:ig al cp cn de oo with
  | true=>rfl
  | false=>simp [bE,e] at h
 have hb2:ig al cp cn 0 0=true:=by
  obtain ⟨a,c,_,_,n⟩:=(iG al cp cn de oo).mp hb
  exact (iG al cp cn 0 0).mpr ⟨a,c,by omega,by omega,n⟩
 have z (e:Int):d0 al dd e net=0:=by simp [d0,hn]
 simp [bE,bD,bC,bK,hb,hb2,hn,z,c0,k0]
structure Ot where
 al:Int
 de:Int
 cp:Int
 cn:Int
 plan:Int
 wr:Int
 pr:Int
 deny:Int
def ot0:Ot:=⟨0,0,0,0,0,0,0,0⟩
def member (o:Ot):Int:=o.de+o.cp+o.cn
def FM (bi al pr de cp cn:Int):Bool:=Ce.good bi && (Ce.good al && (Ce.good pr && (Ce.good de && (Ce.good cp && Ce.good cn))))
def pF (bi al pr de cp cn:Int):Bool:=decide (al<=bi) && (decide (pr<=bi) && decide (de+cp+cn<=al))
def rest (al pr:Int):Int:=if pr < al then al - pr else 0
def sP (al pr de cp cn:Int):Int:=least (al - de - cp - cn) (rest al pr)
def sD (al pr de cp cn:Int):Int:=least de (rest al pr - sP al pr de cp cn)
def sC (al pr de cp cn:Int):Int:=least cp (rest al pr - sP al pr de cp cn - sD al pr de cp cn)
def sK (al pr de cp cn:Int):Int:=least cn (rest al pr - sP al pr de cp cn - sD al pr de cp cn - sC al pr de cp cn)
def EP (bi al pr de cp cn:Int):Int:=if FM bi al pr de cp cn=true then (if pF bi al pr de cp cn=true then 0 else 3) else 1
def EW (bi al pr de cp cn:Int):Ot:=if EP bi al pr de cp cn=0 then ⟨al,sD al pr de cp cn,sC al pr de cp cn,sK al pr de cp cn,sP al pr de cp cn,bi - pr - sP al pr de cp cn - sD al pr de cp cn - sC al pr de cp cn - sK al pr de cp cn,pr,0⟩ else ot0
theorem Fb {bi al pr de cp cn:Int} (h:EP bi al pr de cp cn=0) :
  (0<=bi/\bi<=10000000000000)/\(0<=al/\al<=10000000000000)/\(0<=pr/\pr<=10000000000000)/\(0<=de/\de<=10000000000000)/\(0<=cp/\cp<=10000000000000)/\(0<=cn/\cn<=10000000000000)/\al<=bi/\pr<=bi/\de+cp+cn<=al:=by
 unfold EP at h
 split at h
 case isFalse=>simp at h
 case isTrue h1 =>
  split at h
  case isFalse=>simp at h
  case isTrue h2 =>
   simp only [FM,Bool.and_eq_true,Ce.ql] at h1
   simp only [pF,Bool.and_eq_true,decide_eq_true_eq] at h2
   obtain ⟨a,b,c,d,e,f⟩:=h1
   obtain ⟨x,y,z⟩:=h2
   exact ⟨a,b,c,d,e,f,x,y,z⟩
theorem Fg {bi al pr de cp cn:Int} (h:EP bi al pr de cp cn=0) :
  0<=rest al pr/\rest al pr<=al/\rest al pr+pr<=bi/\0<=sP al pr de cp cn/\0<=sD al pr de cp cn/\0<=sC al pr de cp cn/\0<=sK al pr de cp cn ∧
  sD al pr de cp cn<=de/\sC al pr de cp cn<=cp/\sK al pr de cp cn<=cn ∧
  sP al pr de cp cn+(sD al pr de cp cn+sC al pr de cp cn+sK al pr de cp cn)=rest al pr:=by
 obtain ⟨h1,h2,h3,h4,h5,h6,h7,h8,h9⟩:=Fb h
 have r:0<=rest al pr/\rest al pr<=al/\rest al pr+pr<=bi:=by unfold rest;split<;>omega
 have x0:sP al pr de cp cn=least (al - de - cp - cn) (rest al pr):=rfl
 have x1:sD al pr de cp cn=least de (rest al pr - sP al pr de cp cn):=rfl
 have x2:sC al pr de cp cn=least cp (rest al pr - sP al pr de cp cn - sD al pr de cp cn):=rfl
 have x3:sK al pr de cp cn=least cn (rest al pr - sP al pr de cp cn - sD al pr de cp cn - sC al pr de cp cn):=rfl
 generalize sP al pr de cp cn=P at *
 generalize sD al pr de cp cn=D at *
 generalize sC al pr de cp cn=C at *
 generalize sK al pr de cp cn=K at *
 generalize rest al pr=R at *
 unfold least at x0 x1 x2 x3
 refine ⟨r.1,r.2.1,r.2.2,?_⟩
 split at x0<;>split at x1<;>split at x2<;>split at x3<;>omega
def Jj (bi:Int) (o:Ot):Bool:=(decide (0<=o.plan) && (decide (0<=o.wr) && (decide (0<=o.pr) && (decide (0<=o.de) && (decide (0<=o.cp) && decide (0<=o.cn)))))) && (decide (o.plan+o.wr+o.pr+o.de+o.cp+o.cn=bi) && (decide (o.de+o.cp+o.cn<=o.al) && decide (o.al<=bi)))
theorem JZ (bi al pr de cp cn:Int) (h:EP bi al pr de cp cn=0):Jj bi (EW bi al pr de cp cn)=true:=by
 have hs:=Fg h
 have ho:=Fb h
 simp only [EW,if_pos h,Jj,Bool.and_eq_true,decide_eq_true_eq]
 omega
def Dt (bi pr why:Int):Int:=if why ≠ 0/\Ce.good bi=true/\Ce.good pr=true then (if pr<=bi then 0 else 3) else 1
def Du (bi pr why:Int):Ot:=if Dt bi pr why=0 then ⟨0,0,0,0,0,bi - pr,pr,why⟩ else ot0
theorem JJ (bi pr why:Int) (h:Dt bi pr why=0):Jj bi (Du bi pr why)=true/\member (Du bi pr why)=0/\(Du bi pr why).plan=0:=by
 have hh:(0<=bi/\0<=pr)/\pr<=bi:=by
  unfold Dt at h
  split at h
  case isFalse=>simp at h
  case isTrue h1 =>
   split at h
   case isFalse=>simp at h
   case isTrue h2=>exact ⟨⟨((Ce.ql _).mp h1.2.1).1,((Ce.ql _).mp h1.2.2).1⟩,h2⟩
 simp only [Du,if_pos h,Jj,member,Bool.and_eq_true,decide_eq_true_eq]
 refine ⟨⟨⟨?_,?_,?_,?_,?_,?_⟩,?_,?_,?_⟩,?_,?_⟩<;>first|trivial|omega
end Go.Proofs.YtfbfeoplldjbpaaGreatDoor.Sh
end
section
namespace Go.Proofs.YtfbfeoplldjbpaaGreatDoor.Ac
def uY (a b:Tx):Bool:=Op.bytesLess a b
theorem vg (a:Tx):uY a a=false:=by unfold uY;rw [Go.Proofs.bytesLess_eq];simp [List.lt_irrefl]
theorem uZ {a b:Tx} (h:uY a b=true):uY b a=false:=by
 unfold uY at *
 rw [Go.Proofs.bytesLess_eq] at h ⊢
 simp only [decide_eq_true_eq,decide_eq_false_iff_not] at *
 exact List.not_lt.2 (List.le_of_lt h)
theorem vw {a b c:Tx} (h:uY a b=true) (h2:uY b c=true):uY a c=true:=by
 unfold uY at *
 rw [Go.Proofs.bytesLess_eq] at h h2 ⊢
 simp only [decide_eq_true_eq] at *
 exact List.lt_trans h h2
theorem vF (a b:Tx):uY a b=true ∨ a=b ∨ uY b a=true:=by
 unfold uY
 rw [Go.Proofs.bytesLess_eq,Go.Proofs.bytesLess_eq]
 simp only [decide_eq_true_eq]
 rcases Classical.em (a < b) with h|h
 ·exact Or.inl h
 ·rcases Classical.em (b < a) with h2|h2
  ·exact Or.inr (Or.inr h2)
  ·exact Or.inr (Or.inl (List.le_antisymm (List.not_lt.1 h2) (List.not_lt.1 h)))
structure Row where
 who:Tx
 fam:Bool
 year:Int
 de:Int
 oo:Int
def dR (a b:Row):Bool:=if a.year=b.year then (if a.fam=b.fam then uY a.who b.who else b.fam) else decide (a.year < b.year)
def hit (w:Tx) (f:Bool) (y:Int) (a:Row):Bool:=decide (a.who=w) && (decide (a.fam=f) && decide (a.year=y))
theorem qN (w:Tx) (f:Bool) (y:Int) (a:Row):hit w f y a=true ↔ a.who=w/\a.fam=f/\a.year=y:=by simp [hit]
def Ew (a b:Row):Prop:=a.who=b.who/\a.fam=b.fam/\a.year=b.year
theorem dW {a b:Row} (h:Ew a b):dR a b=false:=by
 obtain ⟨h1,h2,h3⟩:=h
 unfold dR
 rw [if_pos h3,if_pos h2,h1,vg]
theorem dS {a b:Row} (h:dR a b=true):dR b a=false:=by
 unfold dR at *
 by_cases h1:a.year=b.year
 ·rw [if_pos h1] at h;rw [if_pos h1.symm]
  by_cases h2:a.fam=b.fam
  ·rw [if_pos h2] at h;rw [if_pos h2.symm];exact uZ h
  ·rw [if_neg h2] at h;rw [if_neg (Ne.symm h2)]
   cases e:a.fam with
   | false=>rfl
   | true=>rw [e,h] at h2;exact absurd rfl h2
 ·rw [if_neg h1] at h;rw [if_neg (Ne.symm h1)];simp at *;omega
theorem eu (a b:Row):dR a b=true ∨ Ew a b ∨ dR b a=true:=by
 unfold dR Ew
 by_cases h1:a.year=b.year
 ·rw [if_pos h1,if_pos h1.symm]
  by_cases h2:a.fam=b.fam
  ·rw [if_pos h2,if_pos h2.symm]
   rcases vF a.who b.who with h|h|h
   ·exact Or.inl h
   ·exact Or.inr (Or.inl ⟨h,h2,h1⟩)
   ·exact Or.inr (Or.inr h)
  ·rw [if_neg h2,if_neg (Ne.symm h2)]
   cases e:a.fam<;>cases e2:b.fam<;>simp_all
 ·rw [if_neg h1,if_neg (Ne.symm h1)];simp;omega
theorem dZ {a b c:Row} (h:dR a b=true) (g:dR b c=true):dR a c=true:=by
 unfold dR at *
 by_cases h1:a.year=b.year
 ·rw [if_pos h1] at h
  by_cases g1:b.year=c.year
  ·rw [if_pos g1] at g
   rw [if_pos (h1.trans g1)]
   by_cases h2:a.fam=b.fam
   ·rw [if_pos h2] at h
    by_cases g2:b.fam=c.fam
    ·rw [if_pos g2] at g;rw [if_pos (h2.trans g2)];exact vw h g
    ·rw [if_neg g2] at g;rw [h2,if_neg g2];exact g
   ·rw [if_neg h2] at h
    by_cases g2:b.fam=c.fam
    ·rw [if_neg (fun e=>h2 (e.trans g2.symm)),←g2];exact h
    ·rw [if_neg g2] at g;exact absurd (h.trans g.symm) g2
  ·rw [if_neg g1] at g;rw [if_neg (fun e=>g1 (h1.symm.trans e)),h1];exact g
 ·rw [if_neg h1] at h
  by_cases g1:b.year=c.year
  ·rw [if_neg (fun e=>h1 (e.trans g1.symm)),←g1];exact h
  ·rw [if_neg g1] at g
   simp only [decide_eq_true_eq] at h g
   rw [if_neg (by omega)];simp only [decide_eq_true_eq];omega
theorem dU {a b:Row} (c:Row) (h:Ew a b):dR a c=dR b c:=by
 obtain ⟨h1,h2,h3⟩:=h
 unfold dR;rw [h1,h2,h3]
theorem dV {a b:Row} (c:Row) (h:Ew a b):dR c a=dR c b:=by
 obtain ⟨h1,h2,h3⟩:=h
 unfold dR;rw [h1,h2,h3]
def yP (a:Row):Bool:=Ce.good a.oo && (decide (a.oo ≠ 0) && (decide (0<=a.de) && decide (a.de<=a.oo)))
theorem yT (a:Row):yP a=true ↔ (0<=a.oo/\a.oo<=10000000000000)/\a.oo ≠ 0/\0<=a.de/\a.de<=a.oo:=by
 simp only [yP,Bool.and_eq_true,decide_eq_true_eq,Ce.ql]
def iL (p:Option Row) (a:Row):Bool:=match p with
 | none=>true
 | some q=>dR q a
def ckE:Option Row->List Row->Int
 | _,[]=>0
 | p,a :: l=>if yP a=true then (if iL p a=true then ckE (some a) l else 11) else 1
def kF (l:List Row):Int:=ckE none l
def Ok (l:List Row):Prop:=(∀a ∈ l,yP a=true)/\l.Pairwise (fun a b=>dR a b=true)
theorem kS:∀(l:List Row) (p:Option Row),ckE p l=0->Ok l/\∀a ∈ l,iL p a=true
 | [],_,_=>⟨⟨by simp,List.Pairwise.nil⟩,by simp⟩
 | a :: l,p,h=>by
  unfold ckE at h
  by_cases h1:yP a=true
  ·rw [if_pos h1] at h
   by_cases h2:iL p a=true
   ·rw [if_pos h2] at h
    obtain ⟨⟨k1,k2⟩,k3⟩:=kS l (some a) h
    refine ⟨⟨?_,List.Pairwise.cons k3 k2⟩,?_⟩
    ·intro x hx
     rcases List.mem_cons.1 hx with rfl|hx
     ·exact h1
     ·exact k1 x hx
    ·intro x hx
     rcases List.mem_cons.1 hx with rfl|hx
     ·exact h2
     ·cases p with
      | none=>rfl
      | some q=>exact dZ (show dR q a=true from h2) (show dR a x=true from k3 x hx)
   ·rw [if_neg h2] at h;simp at h
  ·rw [if_neg h1] at h;simp at h
theorem yJ:∀(l:List Row) (p:Option Row),Ok l->(∀a ∈ l,iL p a=true)->ckE p l=0
 | [],_,_,_=>rfl
 | a :: l,p,⟨h1,h2⟩,h3=>by
  unfold ckE
  rw [if_pos (h1 a (List.mem_cons_self ..)),if_pos (h3 a (List.mem_cons_self ..))]
  have h4:=List.pairwise_cons.1 h2
  exact yJ l (some a) ⟨fun x hx=>h1 x (List.mem_cons_of_mem _ hx),h4.2⟩ h4.1
theorem kG (l:List Row):kF l=0 ↔ Ok l:=
 ⟨fun h=>(kS l none h).1,fun h=>yJ l none h fun _ _=>rfl⟩
def pU (l:List Row) (w:Tx) (f:Bool) (y:Int):Row:=match l with
 | []=>⟨w,f,y,0,0⟩
 | a :: l=>if hit w f y a=true then a else pU l w f y
theorem get_hit:∀(l:List Row) (w:Tx) (f:Bool) (y:Int),hit w f y (pU l w f y)=true
 | [],w,f,y=>by simp [pU,hit]
 | a :: l,w,f,y=>by
  unfold pU;split
  ·assumption
  ·exact get_hit l w f y
theorem pX:∀(l:List Row) (w:Tx) (f:Bool) (y:Int),pU l w f y ∈ l ∨ (pU l w f y=⟨w,f,y,0,0⟩/\∀a ∈ l,hit w f y a=false)
 | [],w,f,y=>Or.inr ⟨rfl,by simp⟩
 | a :: l,w,f,y=>by
  unfold pU;split
  ·exact Or.inl (List.mem_cons_self ..)
  ·next h =>
   rcases pX l w f y with k|⟨k1,k2⟩
   ·exact Or.inl (List.mem_cons_of_mem _ k)
   ·refine Or.inr ⟨k1,fun x hx=>?_⟩
    rcases List.mem_cons.1 hx with rfl|hx
    ·simpa using h
    ·exact k2 x hx
theorem qc {l:List Row} (h:Ok l) (w:Tx) (f:Bool) (y:Int):0<=(pU l w f y).de/\(pU l w f y).de<=(pU l w f y).oo/\(pU l w f y).oo<=10000000000000:=by
 rcases pX l w f y with k|⟨k,_⟩
 ·have:=(yT _).1 (h.1 _ k);omega
 ·rw [k];simp
theorem get_mem:∀ {l:List Row},Ok l->∀a ∈ l,pU l a.who a.fam a.year=a
 | [],_,a,ha=>by simp at ha
 | x :: l,⟨h1,h2⟩,a,ha=>by
  have h3:=List.pairwise_cons.1 h2
  unfold pU
  rcases List.mem_cons.1 ha with rfl|ha
  ·rw [if_pos (by simp [hit])]
  ·rw [if_neg ?_]
   ·exact get_mem ⟨fun x hx=>h1 x (List.mem_cons_of_mem _ hx),h3.2⟩ a ha
   ·intro e
    have h4:=h3.1 a ha
    rw [dW ((qN _ _ _ _).1 e)] at h4
    simp at h4
def put (a:Row):List Row->List Row
 | []=>[a]
 | x :: xs=>if dR x a=true then x :: put a xs else (if dR a x=true then a :: x :: xs else a :: xs)
theorem put_mem (a:Row):∀(l:List Row) (x:Row),x ∈ put a l->x=a ∨ x ∈ l
 | [],x,h=>by simp [put] at h;exact Or.inl h
 | b :: l,x,h=>by
  unfold put at h
  split at h
  ·rcases List.mem_cons.1 h with rfl|h
   ·exact Or.inr (List.mem_cons_self ..)
   ·rcases put_mem a l x h with k|k
    ·exact Or.inl k
    ·exact Or.inr (List.mem_cons_of_mem _ k)
  ·split at h
   ·rcases List.mem_cons.1 h with h|h
    ·exact Or.inl h
    ·exact Or.inr h
   ·rcases List.mem_cons.1 h with h|h
    ·exact Or.inl h
    ·exact Or.inr (List.mem_cons_of_mem _ h)
theorem Ci (a:Row) (ha:yP a=true):∀(l:List Row),Ok l->Ok (put a l)
 | [],_=>⟨by simp [put,ha],by simp [put]⟩
 | b :: l,⟨h1,h2⟩=>by
  have h3:=List.pairwise_cons.1 h2
  have hl:Ok l:=⟨fun x hx=>h1 x (List.mem_cons_of_mem _ hx),h3.2⟩
  have hp:=Ci a ha l hl
  refine ⟨fun x hx=>?_,?_⟩
  ·rcases put_mem a (b :: l) x hx with rfl|k
   ·exact ha
   ·exact h1 x k
  ·unfold put
   split
   ·next e =>
    refine List.Pairwise.cons (fun x hx=>?_) hp.2
    rcases put_mem a l x hx with rfl|k
    ·exact e
    ·exact h3.1 x k
   ·next e =>
    split
    ·next g =>
     refine List.Pairwise.cons (fun x hx=>?_) h2
     rcases List.mem_cons.1 hx with rfl|hx
     ·exact g
     ·exact dZ g (h3.1 x hx)
    ·next g =>
     have s:Ew a b:=by
      rcases eu a b with k|k|k
      ·exact absurd k g
      ·exact k
      ·exact absurd k e
     exact List.Pairwise.cons (fun x hx=>by rw [dU x s];exact h3.1 x hx) h3.2
theorem get_put (a:Row) (w:Tx) (f:Bool) (y:Int):∀(l:List Row),Ok l->pU (put a l) w f y=if hit w f y a=true then a else pU l w f y
 | [],_=>by simp [put,pU]
 | b :: l,⟨h1,h2⟩=>by
  have h3:=List.pairwise_cons.1 h2
  have hl:Ok l:=⟨fun x hx=>h1 x (List.mem_cons_of_mem _ hx),h3.2⟩
  have hp:=get_put a w f y l hl
  unfold put
  split
  ·next e =>
   unfold pU
   by_cases hb:hit w f y b=true
   ·rw [if_pos hb,if_pos hb,if_neg ?_]
    intro ha
    have s:Ew b a:=by
     have x:=(qN _ _ _ _).1 hb
     have z:=(qN _ _ _ _).1 ha
     exact ⟨x.1.trans z.1.symm,x.2.1.trans z.2.1.symm,x.2.2.trans z.2.2.symm⟩
    rw [dW s] at e;simp at e
   ·rw [if_neg hb,if_neg hb];exact hp
  ·next e =>
   split
   ·simp only [pU]
   ·next g =>
    have s:Ew a b:=by
     rcases eu a b with k|k|k
     ·exact absurd k g
     ·exact k
     ·exact absurd k e
    have hh:hit w f y b=hit w f y a:=by simp [hit,s.1,s.2.1,s.2.2]
    simp only [pU,hh]
    by_cases ha:hit w f y a=true
    ·simp only [if_pos ha]
    ·simp only [if_neg ha]
def dJ (l:List Row) (w:Tx) (f:Bool) (y d o:Int):Int:=
 if Ce.dJ (pU l w f y).de d=0 then (if Ce.dJ (pU l w f y).oo o=0 then (if d<=o then 0 else 3) else Ce.dJ (pU l w f y).oo o) else Ce.dJ (pU l w f y).de d
def DW (l:List Row) (w:Tx) (f:Bool) (y d o:Int):Row:=⟨w,f,y,(pU l w f y).de+d,(pU l w f y).oo+o⟩
def dM (l:List Row) (w:Tx) (f:Bool) (y d o:Int):List Row:=
 if dJ l w f y d o=0 then (if (pU l w f y).oo+o=0 then l else put (DW l w f y d o) l) else []
theorem jX (a b:Int):Ce.dJ a b=0 ↔ (0<=a/\a<=10000000000000)/\(0<=b/\b<=10000000000000)/\a+b<=10000000000000:=by
 unfold Ce.dJ
 by_cases h:Ce.good a=true/\Ce.good b=true
 ·rw [if_pos h]
  have h1:=(Ce.ql a).1 h.1
  have h2:=(Ce.ql b).1 h.2
  by_cases h3:Ce.good (a+b)=true
  ·rw [if_pos h3]
   have:=(Ce.ql (a+b)).1 h3
   simp;omega
  ·rw [if_neg h3]
   rw [Ce.ql] at h3
   simp;omega
 ·rw [if_neg h]
  rw [Ce.ql,Ce.ql] at h
  simp;omega
theorem add_zero {l:List Row} {w:Tx} {f:Bool} {y d o:Int} (h:dJ l w f y d o=0) :
  (0<=(pU l w f y).de/\0<=d/\(pU l w f y).de+d<=10000000000000)/\(0<=(pU l w f y).oo/\0<=o/\(pU l w f y).oo+o<=10000000000000)/\d<=o:=by
 unfold dJ at h
 by_cases h1:Ce.dJ (pU l w f y).de d=0
 ·rw [if_pos h1] at h
  by_cases h2:Ce.dJ (pU l w f y).oo o=0
  ·rw [if_pos h2] at h
   by_cases h3:d<=o
   ·have k1:=(jX _ _).1 h1
    have k2:=(jX _ _).1 h2
    omega
   ·rw [if_neg h3] at h;simp at h
  ·rw [if_neg h2] at h;exact absurd h h2
 ·rw [if_neg h1] at h;exact absurd h h1
theorem dO {l:List Row} (hl:Ok l) {w:Tx} {f:Bool} {y d o:Int} (h:dJ l w f y d o=0):Ok (dM l w f y d o):=by
 have k:=add_zero h
 have g:=qc hl w f y
 unfold dM
 rw [if_pos h]
 split
 ·exact hl
 ·refine Ci _ ?_ l hl
  rw [yT]
  simp only [DW]
  omega
theorem Jl {l:List Row} (hl:Ok l) {w:Tx} {f:Bool} {y d o:Int} (h:dJ l w f y d o=0) (w':Tx) (f':Bool) (y':Int) :
  pU (dM l w f y d o) w' f' y'=if w=w'/\f=f'/\y=y' then DW l w f y d o else pU l w' f' y':=by
 have k:=add_zero h
 have g:=qc hl w f y
 unfold dM
 rw [if_pos h]
 by_cases h0:(pU l w f y).oo+o=0
 ·rw [if_pos h0]
  by_cases hk:w=w'/\f=f'/\y=y'
  ·rw [if_pos hk]
   obtain ⟨rfl,rfl,rfl⟩:=hk
   have z:=(qN _ _ _ _).1 (get_hit l w f y)
   have e1:(pU l w f y).de+d=(pU l w f y).de:=by omega
   have e2:(pU l w f y).oo+o=(pU l w f y).oo:=by omega
   unfold DW
   rw [e1,e2]
   generalize pU l w f y=r at *
   obtain ⟨a,b,c,d,e⟩:=r
   obtain ⟨z1,z2,z3⟩:=z
   simp only at z1 z2 z3
   subst z1;subst z2;subst z3
   rfl
  ·rw [if_neg hk]
 ·rw [if_neg h0,get_put _ _ _ _ _ hl]
  by_cases hk:w=w'/\f=f'/\y=y'
  ·rw [if_pos hk,if_pos ((qN _ _ _ _).2 hk)]
  ·rw [if_neg hk,if_neg (fun e=>hk ((qN _ _ _ _).1 e))]
theorem Ji {l:List Row} (hl:Ok l) {w:Tx} {f:Bool} {y d o:Int} (h:dJ l w f y d o=0) (w':Tx) (f':Bool) (y':Int) (hn:¬ (w=w'/\f=f'/\y=y')) :
  pU (dM l w f y d o) w' f' y'=pU l w' f' y':=by
 rw [Jl hl h,if_neg hn]
def jF (l:List Row) (m f:Tx) (y:Int) (o:Sh.Ot):Int:=
 if dJ l m false y o.de (Sh.member o)=0 then dJ (dM l m false y o.de (Sh.member o)) f true y o.de (Sh.member o) else dJ l m false y o.de (Sh.member o)
def jG (l:List Row) (m f:Tx) (y:Int) (o:Sh.Ot):List Row:=
 if dJ l m false y o.de (Sh.member o)=0 then dM (dM l m false y o.de (Sh.member o)) f true y o.de (Sh.member o) else []
theorem both_ok {l:List Row} (hl:Ok l) {m f:Tx} {y:Int} {o:Sh.Ot} (h:jF l m f y o=0):Ok (jG l m f y o):=by
 unfold jF at h
 unfold jG
 by_cases h1:dJ l m false y o.de (Sh.member o)=0
 ·rw [if_pos h1] at h ⊢;exact dO (dO hl h1) h
 ·rw [if_neg h1] at h;exact absurd h h1
theorem Jm {l:List Row} (hl:Ok l) {m f:Tx} {y:Int} {o:Sh.Ot} (h:jF l m f y o=0) (w:Tx) (g:Bool) (z:Int) :
  pU (jG l m f y o) w g z=if f=w/\true=g/\y=z then DW l f true y o.de (Sh.member o) else (if m=w/\false=g/\y=z then DW l m false y o.de (Sh.member o) else pU l w g z):=by
 unfold jF at h
 unfold jG
 by_cases h1:dJ l m false y o.de (Sh.member o)=0
 ·rw [if_pos h1] at h ⊢
  rw [Jl (dO hl h1) h,Jl hl h1]
  have:DW (dM l m false y o.de (Sh.member o)) f true y o.de (Sh.member o)=DW l f true y o.de (Sh.member o):=by
   unfold DW;rw [Ji hl h1 f true y (by simp)]
  rw [this]
 ·rw [if_neg h1] at h;exact absurd h h1
def left (most had:Int):Int:=if most<=had then 0 else most - had
def DU (mode ind fam hi hf:Int):Int:=if mode=0 then Sh.least (left fam hf) (left ind hi) else left fam hf
theorem JA (a b:Int) (h:0<=a) (hb:0<=b):0<=left a b/\left a b<=a:=by unfold left;split<;>omega
theorem JM (mode ind fam hi hf:Int) (h1:0<=ind) (h2:0<=fam) (h3:0<=hi) (h4:0<=hf):0<=DU mode ind fam hi hf/\DU mode ind fam hi hf<=fam/\DU mode ind fam hi hf<=left fam hf/\(mode=0->DU mode ind fam hi hf<=left ind hi):=by
 have a:=JA fam hf h2 h4
 have b:=JA ind hi h1 h3
 unfold DU Sh.least
 split
 ·split<;>omega
 ·omega
end Go.Proofs.YtfbfeoplldjbpaaGreatDoor.Ac
end
