/-
  Texts put together (merge.py): YPut, CAdds, CRefs, CSubs, YAdd.
-/
import Derived.WalkKit
import Derived.Test.YtfbfeoplldjbpaaGreatDoorMo9
import Derived.Test.YtfbfeoplldjbpaaGreatDoorMo10
import Derived.Test.YtfbfeoplldjbpaaGreatDoorProg
import Derived.Test.YtfbfeoplldjbpaaGreatDoorMo1
set_option linter.unusedSimpArgs false
set_option linter.unusedVariables false
set_option maxHeartbeats 16000000
set_option maxRecDepth 100000
section
namespace Go.Proofs.YtfbfeoplldjbpaaGreatDoor.Ac
open Go.RowKit
theorem EM (A D:List Value) (b0 b1 b2 b3 b4 a0 a1 a2 a3 a4:Value) (p:Nat) (hA:A.length=p) :
  (((((A ++ b0 :: b1 :: b2 :: b3 :: b4 :: D).set p a0).set (p+1) a1).set (p+2) a2).set (p+3) a3).set (p+4) a4=A ++ a0 :: a1 :: a2 :: a3 :: a4 :: D:=by
 subst hA
 simp [List.set_append]
theorem nG (L:List Value) (p:Nat) (h:p+5<=L.length):∃b0 b1 b2 b3 b4,L=L.take p ++ b0 :: b1 :: b2 :: b3 :: b4 :: L.drop (p+5):=by
 refine ⟨L[p],L[p+1],L[p+2],L[p+3],L[p+4],?_⟩
 rw [←List.drop_eq_getElem_cons (show p+4 < L.length by omega),←List.drop_eq_getElem_cons (show p+3 < L.length by omega),←List.drop_eq_getElem_cons (show p+2 < L.length by omega),←List.drop_eq_getElem_cons (show p+1 < L.length by omega),←List.drop_eq_getElem_cons (show p < L.length by omega),List.take_append_drop]
theorem Dl (l:List Row) (i:Nat) (r:Row) (hi:i < l.length):rcs (l.set i r)=(rcs l).take (i * 5) ++ rc r ++ (rcs l).drop (i * 5+5):=by
 rw [List.set_eq_take_append_cons_drop,if_pos hi,Dc,Dh,Dn,Di,List.append_assoc]
 congr 3
 omega
theorem GX (C X:List Value) (n p:Nat) (hX:X.length=5) (hp:p+5<=n) (hn:n<=C.length):(C.take p ++ X ++ C.drop (p+5)).take n=(C.take n).take p ++ X ++ (C.take n).drop (p+5):=by
 have h1:(C.take p ++ X).length=p+5:=by rw [List.length_append,List.length_take,hX];omega
 rw [List.take_append,h1,List.take_of_length_le (by omega),List.take_take,Nat.min_eq_left (by omega),List.drop_take]
theorem Ar {B:Nat} {w:World} {g cap:Nat} {l:List Row} (h:Own B w (.slice (some ⟨g,0,none⟩) l.length cap) l) (i:Nat) (r:Row) (hi:i < l.length) :
  Own B (((((w.setCell ⟨g,i * 5,none⟩ (.string (mk r.who))).setCell ⟨g,i * 5+1,none⟩ (.bool r.fam)).setCell ⟨g,i * 5+2,none⟩ (.int .i64 r.year)).setCell ⟨g,i * 5+3,none⟩ (.int .i64 r.de)).setCell ⟨g,i * 5+4,none⟩ (.int .i64 r.oo)) (.slice (some ⟨g,0,none⟩) l.length cap) (l.set i r):=by
 rcases h.2 with ⟨e,_⟩|⟨g',cap',cur,e,hbg,hg,h1,h2,hs,ht⟩
 ·simp at e
 ·simp only [Value.slice.injEq,Option.some.injEq,Addr.mk.injEq,and_true,true_and] at e
  obtain ⟨rfl,rfl⟩:=e
  have s1:=heap_set hg (i * 5) (.string (mk r.who))
  have s2:=heap_set s1 (i * 5+1) (.bool r.fam)
  have s3:=heap_set s2 (i * 5+2) (.int .i64 r.year)
  have s4:=heap_set s3 (i * 5+3) (.int .i64 r.de)
  have s5:=heap_set s4 (i * 5+4) (.int .i64 r.oo)
  have hlen:(l.set i r).length=l.length:=List.length_set
  refine ⟨by rw [Dj],Or.inr ⟨g,cap,_,by rw [hlen],hbg,s5,by rw [hlen];exact h1,h2,by simpa using hs,?_⟩⟩
  simp only [Array.toList_setIfInBounds]
  have hcl:cur.toList.length=cap * 5:=by simpa using hs
  obtain ⟨b0,b1,b2,b3,b4,hd⟩:=nG cur.toList (i * 5) (by omega)
  have hpl:(cur.toList.take (i * 5)).length=i * 5:=by rw [List.length_take];omega
  have hall:((((cur.toList.set (i * 5) (.string (mk r.who))).set (i * 5+1) (.bool r.fam)).set (i * 5+2) (.int .i64 r.year)).set (i * 5+3) (.int .i64 r.de)).set (i * 5+4) (.int .i64 r.oo)=cur.toList.take (i * 5) ++ rc r ++ cur.toList.drop (i * 5+5):=by
   conv=>lhs;rw [hd]
   rw [EM _ _ _ _ _ _ _ _ _ _ _ _ _ hpl]
   simp [rc]
  rw [hall,hlen,Dl l i r hi,←ht]
  exact GX cur.toList (rc r) (l.length * 5) (i * 5) rfl (by omega) (by omega)
theorem own_base {B B':Nat} {w:World} {v:Value} {l:List Row} (hB:B' ≤ B) (h:Own B w v l):Own B' w v l:=
 ⟨h.1,h.2.imp id fun ⟨g,c,cur,e,h0,r⟩=>⟨g,c,cur,e,Nat.le_trans hB h0,r⟩⟩
def BX (l:List Row) (r:Row) (i:Nat) (fb:Bool):List Row:=if fb=true then l.set i r else if r.oo=0 then l else l.take i ++ r :: l.drop i
theorem put_any (l:List Row) (r:Row) (v:Value) (w:World) (h:cu All w v l) (hl:l.length<=10000) (hU:Up l) :
  Calls Tryz.prog 158 #[v,rwv r] w fun e w'=>∃v' i fb,e=.returned v'/\dh l r i fb/\Own w.heap.size w' v' (BX l r i fb)/\Below w.heap.size w w':=by
 have hb1:=iU w (.cells #[.string (mk r.who),.bool r.fam,.int .i64 r.year,.int .i64 r.de,.int .i64 r.oo] TA)
 have hz1:=heap_alloc_new w (.cells #[.string (mk r.who),.bool r.fam,.int .i64 r.year,.int .i64 r.de,.int .i64 r.oo] TA)
 have hs1:(w.alloc (.cells #[.string (mk r.who),.bool r.fam,.int .i64 r.year,.int .i64 r.de,.int .i64 r.oo] TA)).heap.size=w.heap.size+1:=by simp
 have HZ:=Lib.hid hz1
 have HB:=Lib.hid hb1
 have HCl:=Lib.hid (clone_any l v _ (h.grw hb1) (by omega))
 have HFi:=Lib.hid fun W v' (hW:cu All W v' l)=>oQ l r v' W hW (by omega) hU
 obtain ⟨fa,fk,rfl,hm1,hm2⟩:=h.form
 have HL:=Lib.hid hl
 clear h hb1 hz1
 go_enter Tryz.func158,Tryz.ntmps158
 go_upto_region 1 with fail
 generalize w.alloc (.cells #[.string (mk r.who),.bool r.fam,.int .i64 r.year,.int .i64 r.de,.int .i64 r.oo] TA)=W at *
 generalize hp:w.heap.size=p at *
 go_wp2_with fail
 go_at_call 25
 refine HCl.out.mono ?_
 rintro e w1 ⟨v1,rfl,ho1,hb1⟩
 have HB1:=Lib.hid (jf hp HB.out hb1)
 have HZ1:=Lib.hid (tV HZ.out hb1)
 have HWp:Hid (p<=W.heap.size):=Nat.le_trans (Nat.le_succ p) (Nat.le_of_eq hs1.symm)
 have HS1:=Lib.hid (Nat.le_trans (Nat.le_of_eq hs1.symm) hb1.size)
 have HO1:=Lib.hid ho1
 have HQ:Hid (∀b,v1.ownBlock=some b->p+1<=b):=fun b hb=>by have:=(ho1.lt b hb).1;rw [hs1] at this;exact this
 obtain ⟨a1,c1,rfl,hm3,hm4⟩:=Am ho1
 have hc1:=(Eo (K:=All) ho1 fun _ _=>trivial)
 have HR1:=Lib.hid hc1
 clear ho1 hb1 HCl HZ HB hc1 hs1
 obtain ⟨z0,z1,z2,z3,z4⟩:=cells5 HZ1.out
 go_wp2_with fail
 go_at_call 156
 refine (HFi.out _ _ HR1.out).mono ?_
 rintro e w2 ⟨⟨i,fb,rfl,hst⟩,hb2⟩
 have HB2:=Lib.hid (jf hp HB1.out hb2)
 have HZ2:=Lib.hid (tV HZ1.out hb2)
 have HO2:=Lib.hid (Ak HO1.out hb2)
 have HS2:=Lib.hid (Nat.le_trans HS1.out hb2.size)
 have HST:=Lib.hid hst
 clear hb2 hst HFi HB1 HZ1 HO1 HR1 HS1 z0 z1 z2 z3 z4
 obtain ⟨z0,z1,z2,z3,z4⟩:=cells5 HZ2.out
 cases fb with
 | true =>
  obtain ⟨hi,-⟩:=HST.out.2.2.2.1 rfl
  have HE:Hid (BX l r i true=l.set i r):=(rfl:BX l r i true=l.set i r)
  have hform:∃g cur,a1=some ⟨g,0,none⟩/\p+1<=g/\w2.heap[g]?=some (.cells cur TA (0,0)):=by
   rcases HO2.out.2 with ⟨e,h0⟩|⟨g,cap,cur,e,hbg,hg,_⟩
   ·omega
   ·simp only [Value.slice.injEq] at e
    exact ⟨g,cur,e.1,HQ.out g (by rw [e.1];rfl),hg⟩
  obtain ⟨g,cur,rfl,hgp,hg⟩:=hform
  have hc:=jZ (Eo (K:=All) HO2.out fun _ _=>trivial) i hi
  rw [Nat.zero_add] at hc
  obtain ⟨x0,x1,x2,x3,x4⟩:=hc
  have t0:w2.frozen? ⟨g,i * 5,none⟩=false:=Lib.frozen_of_heap hg _
  have t1:w2.frozen? ⟨g,i * 5+1,none⟩=false:=Lib.frozen_of_heap hg _
  have t2:w2.frozen? ⟨g,i * 5+2,none⟩=false:=Lib.frozen_of_heap hg _
  have t3:w2.frozen? ⟨g,i * 5+3,none⟩=false:=Lib.frozen_of_heap hg _
  have t4:w2.frozen? ⟨g,i * 5+4,none⟩=false:=Lib.frozen_of_heap hg _
  have HOF:=Lib.hid (Ar HO2.out i r hi)
  have HBF:Hid (Below p w (((((w2.setCell ⟨g,i * 5,none⟩ (.string (mk r.who))).setCell ⟨g,i * 5+1,none⟩ (.bool r.fam)).setCell ⟨g,i * 5+2,none⟩ (.int .i64 r.year)).setCell ⟨g,i * 5+3,none⟩ (.int .i64 r.de)).setCell ⟨g,i * 5+4,none⟩ (.int .i64 r.oo))):=
   ((((HB2.out.setCell (p:=⟨g,i * 5,none⟩) (show p<=g by omega) _).setCell (p:=⟨g,i * 5+1,none⟩) (show p<=g by omega) _).setCell (p:=⟨g,i * 5+2,none⟩) (show p<=g by omega) _).setCell (p:=⟨g,i * 5+3,none⟩) (show p<=g by omega) _).setCell (p:=⟨g,i * 5+4,none⟩) (show p<=g by omega) _
  have hiz:(i:Int) < (l.length:Int):=by omega
  clear hg HO2 HB2 HZ2 HS2 HQ
  go_wp2
  go_ret
  refine ⟨_,i,true,rfl,HST.out,?_,?_⟩
  ·rw [hp,HE.out]
   exact own_base HWp.out HOF.out
  ·rw [hp];exact HBF.out
 | false =>
  by_cases h0:r.oo=0
  ·have HE:Hid (BX l r i false=l):=(by unfold BX;rw [if_neg (by decide),if_pos h0]:BX l r i false=l)
   have hz:(r.oo == 0)=true:=by simp [h0]
   clear h0
   go_wp2
   go_ret
   refine ⟨_,i,false,rfl,HST.out,?_,?_⟩
   ·rw [hp,HE.out]
    exact own_base HWp.out HO2.out
   ·rw [hp];exact HB2.out
  ·have HE:Hid (BX l r i false=l.take i ++ r :: l.drop i):=(by unfold BX;rw [if_neg (by decide),if_neg h0]:BX l r i false=l.take i ++ r :: l.drop i)
   have hz:(r.oo == 0)=false:=by simp [h0]
   have hb3:=iU w2 (.cells #[.string (mk r.who),.bool r.fam,.int .i64 r.year,.int .i64 r.de,.int .i64 r.oo] TA)
   have hz3:=heap_alloc_new w2 (.cells #[.string (mk r.who),.bool r.fam,.int .i64 r.year,.int .i64 r.de,.int .i64 r.oo] TA)
   have HIn:=Lib.hid (sH l r i p _ w2.heap.size _ (own_base HWp.out (Ak HO2.out hb3)) HST.out.1 (by omega) (Nat.le_trans (by have:=HS2.out;omega) hb3.size) (fun e=>by have:=(HO2.out.lt _ e).2;omega) hz3)
   have HB3:=Lib.hid (jf hp HB2.out hb3)
   obtain ⟨l2,Hl2⟩:∃l2,Hid (l.take i ++ r :: l.drop i=l2):=⟨_,(rfl:l.take i ++ r :: l.drop i=_)⟩
   rw [Hl2.out] at HIn HE
   clear h0 hb3 hz3 HO2 HB2 HZ2 HS2 HQ
   go_wp2_with fail
   go_at_call 171
   refine HIn.out.mono ?_
   rintro e w4 ⟨v4,rfl,ho4,hb4⟩
   have HO4:=Lib.hid ho4
   have HB4:=Lib.hid (HB3.out.trans hb4)
   obtain ⟨a4,c4,rfl,-,-⟩:=Am ho4
   clear ho4 hb4 HIn HB3 z0 z1 z2 z3 z4
   go_wp2
   go_ret
   refine ⟨_,i,false,rfl,HST.out,?_,?_⟩
   ·rw [hp,HE.out]
    exact HO4.out
   ·rw [hp];exact HB4.out
end Go.Proofs.YtfbfeoplldjbpaaGreatDoor.Ac
end
section
namespace Go.Proofs.YtfbfeoplldjbpaaGreatDoor.Ce
open Go.RowKit
theorem qh (a:Int) (w:World) :
  Calls Tryz.prog 76 #[.int .i64 a] w fun e w'=>e=.returned (.bool (good a))/\w'=w:=by
 by_cases h0:0<=a
 ·by_cases h1:a<=10000000000000
  ·have g:good a=true:=(ql a).2 ⟨h0,h1⟩
   rw [g]
   go_enter Tryz.func76,Tryz.ntmps76
   go_wp2
   go_ret
   exact ⟨rfl,rfl⟩
  ·have g:good a=false:=(qm a).2 (by omega)
   rw [g]
   go_enter Tryz.func76,Tryz.ntmps76
   go_wp2
   go_ret
   exact ⟨rfl,rfl⟩
 ·have g:good a=false:=(qm a).2 (by omega)
  rw [g]
  go_enter Tryz.func76,Tryz.ntmps76
  go_wp2
  go_ret
  exact ⟨rfl,rfl⟩
theorem add_any (a b:Int) (w:World) :
  Calls Tryz.prog 120 #[.int .i64 a,.int .i64 b] w fun e w'=>e=.returned (.tuple #[.int .i64 (dM a b),.int .i64 (dJ a b)])/\w'=w:=by
 cases ga:good a
 ·have e1:dM a b=0:=by simp [dM,ga]
  have e2:dJ a b=1:=by simp [dJ,ga]
  rw [e1,e2]
  go_enter Tryz.func120,Tryz.ntmps120
  go_wp2_with (go_at_call 76;refine (qh _ _).mono ?_;rintro e w' ⟨rfl,rfl⟩)
  go_ret2
  exact ⟨rfl,rfl⟩
 ·cases gb:good b
  ·have e1:dM a b=0:=by simp [dM,gb]
   have e2:dJ a b=1:=by simp [dJ,gb]
   rw [e1,e2]
   go_enter Tryz.func120,Tryz.ntmps120
   go_wp2_with (go_at_call 76;refine (qh _ _).mono ?_;rintro e w' ⟨rfl,rfl⟩)
   go_ret2
   exact ⟨rfl,rfl⟩
  ·have ba:=(ql a).1 ga
   have bb:=(ql b).1 gb
   obtain ⟨a0,a1⟩:=ba
   obtain ⟨b0,b1⟩:=bb
   cases gc:good (a+b)
   ·have e1:dM a b=0:=by simp [dM,gc]
    have e2:dJ a b=2:=by simp [dJ,ga,gb,gc]
    rw [e1,e2]
    go_enter Tryz.func120,Tryz.ntmps120
    go_wp2_with (go_at_call 76;refine (qh _ _).mono ?_;rintro e w' ⟨rfl,rfl⟩)
    go_ret2
    exact ⟨rfl,rfl⟩
   ·have e1:dM a b=a+b:=by simp [dM,ga,gb,gc]
    have e2:dJ a b=0:=by simp [dJ,ga,gb,gc]
    rw [e1,e2]
    go_enter Tryz.func120,Tryz.ntmps120
    go_wp2_with (go_at_call 76;refine (qh _ _).mono ?_;rintro e w' ⟨rfl,rfl⟩)
    go_ret2
    exact ⟨rfl,rfl⟩
end Go.Proofs.YtfbfeoplldjbpaaGreatDoor.Ce
end
section
namespace Go.Proofs.YtfbfeoplldjbpaaGreatDoor.Ce
open Go.RowKit
end Go.Proofs.YtfbfeoplldjbpaaGreatDoor.Ce
end
section
namespace Go.Proofs.YtfbfeoplldjbpaaGreatDoor.Ce
open Go.RowKit
theorem Gp (a b:Int) (w:World) :
  Calls Tryz.prog 122 #[.int .i64 a,.int .i64 b] w fun e w'=>e=.returned (.tuple #[.int .i64 (Gm a b),.int .i64 (Gl a b)])/\w'=w:=by
 cases ga:good a
 ·have e1:Gm a b=0:=by simp [Gm,ga]
  have e2:Gl a b=1:=by simp [Gl,ga]
  rw [e1,e2]
  go_enter Tryz.func122,Tryz.ntmps122
  go_wp2_with (go_at_call 76;refine (qh _ _).mono ?_;rintro e w' ⟨rfl,rfl⟩)
  go_ret2
  exact ⟨rfl,rfl⟩
 ·cases gb:good b
  ·have e1:Gm a b=0:=by simp [Gm,gb]
   have e2:Gl a b=1:=by simp [Gl,gb]
   rw [e1,e2]
   go_enter Tryz.func122,Tryz.ntmps122
   go_wp2_with (go_at_call 76;refine (qh _ _).mono ?_;rintro e w' ⟨rfl,rfl⟩)
   go_ret2
   exact ⟨rfl,rfl⟩
  ·have ba:=(ql a).1 ga
   have bb:=(ql b).1 gb
   obtain ⟨a0,a1⟩:=ba
   obtain ⟨b0,b1⟩:=bb
   by_cases gc:a < b
   ·have nb:¬ b<=a:=by omega
    have e1:Gm a b=0:=by simp [Gm,nb]
    have e2:Gl a b=3:=by simp [Gl,ga,gb,nb]
    rw [e1,e2]
    go_enter Tryz.func122,Tryz.ntmps122
    go_wp2_with (go_at_call 76;refine (qh _ _).mono ?_;rintro e w' ⟨rfl,rfl⟩)
    go_ret2
    exact ⟨rfl,rfl⟩
   ·have nb:b<=a:=by omega
    have e1:Gm a b=a - b:=by simp [Gm,ga,gb,nb]
    have e2:Gl a b=0:=by simp [Gl,ga,gb,nb]
    rw [e1,e2]
    go_enter Tryz.func122,Tryz.ntmps122
    go_wp2_with (go_at_call 76;refine (qh _ _).mono ?_;rintro e w' ⟨rfl,rfl⟩)
    go_ret2
    exact ⟨rfl,rfl⟩
end Go.Proofs.YtfbfeoplldjbpaaGreatDoor.Ce
end
section
namespace Go.Proofs.YtfbfeoplldjbpaaGreatDoor.Ac
open Go.RowKit
theorem pV (l:List Row) (wh:Tx) (f:Bool) (y:Int):∃gd go,pU l wh f y=⟨wh,f,y,gd,go⟩:=by
 have h:=(qN _ _ _ _).1 (get_hit l wh f y)
 generalize pU l wh f y=G at *
 obtain ⟨a,b,c,d,e⟩:=G
 obtain ⟨h1,h2,h3⟩:=h
 simp only at h1 h2 h3
 subst h1 h2 h3
 exact ⟨d,e,rfl⟩
theorem jY {a b:Int} (h:Ce.dJ a b=0):Ce.dM a b=a+b:=by
 have h1:=(jX a b).1 h
 unfold Ce.dM
 have g1:Ce.good a=true:=(Ce.ql a).2 (by omega)
 have g2:Ce.good b=true:=(Ce.ql b).2 (by omega)
 have g3:Ce.good (a+b)=true:=(Ce.ql _).2 (by omega)
 simp [g1,g2,g3]
theorem dP {l:List Row} (hl:Ok l) {wh:Tx} {f:Bool} {y d o:Int} (h:dJ l wh f y d o=0) {i:Nat} {fb:Bool} (hs:dh l (DW l wh f y d o) i fb):BX l (DW l wh f y d o) i fb=dM l wh f y d o:=by
 have k:=add_zero h
 unfold BX dM
 rw [if_pos h]
 cases fb with
 | true =>
  rw [if_pos rfl]
  obtain ⟨hi,hg⟩:=pW hl.up hs
  have hone:=(yT _).1 (hl.1 _ (List.getElem_mem hi))
  rw [if_neg (by rw [hg];rw [hg] at k;omega)]
  obtain ⟨_,hp⟩:=Cb hs
  exact hp.symm
 | false =>
  rw [if_neg (by decide)]
  by_cases h0:(pU l wh f y).oo+o=0
  ·rw [if_pos h0,if_pos (show (DW l wh f y d o).oo=0 from h0)]
  ·rw [if_neg h0,if_neg (show ¬ (DW l wh f y d o).oo=0 from h0),Cc hs]
theorem Em {w:World} {v:Value} {l:List Row} (h:cu All w v l):cu (fun b=>b < w.heap.size) w v l:=by
 obtain ⟨a,c,rfl,h1,h2,h3⟩:=h
 exact ⟨a,c,rfl,h1,h2,h3.imp id fun ⟨b,o,e,_,hb,hc⟩=>⟨b,o,e,hb,hb,hc⟩⟩
theorem jO {w:World} {b:Nat} {a0 a1 a2 a3 a4:Value} {T:TypeId} (h:w.heap[b]?=some (.cells #[a0,a1,a2,a3,a4] T (0,0))) (u:Value):(w.setCell ⟨b,3,none⟩ u).heap[b]?=some (.cells #[a0,a1,a2,u,a4] T (0,0)):=by rw [heap_set h];rfl
theorem jP {w:World} {b:Nat} {a0 a1 a2 a3 a4:Value} {T:TypeId} (h:w.heap[b]?=some (.cells #[a0,a1,a2,a3,a4] T (0,0))) (u:Value):(w.setCell ⟨b,4,none⟩ u).heap[b]?=some (.cells #[a0,a1,a2,a3,u] T (0,0)):=by rw [heap_set h];rfl
theorem add_any (l:List Row) (wh:Tx) (f:Bool) (y d o:Int) (v:Value) (w:World) (h:cu All w v l) (hl:l.length<=10000) (hO:Ok l) :
  Calls Tryz.prog 136 #[v,.string (mk wh),.bool f,.int .i64 y,.int .i64 d,.int .i64 o] w fun e w'=>∃v',e=.returned (.tuple #[v',.int .i64 (dJ l wh f y d o)])/\Own w.heap.size w' v' (dM l wh f y d o)/\Below w.heap.size w w':=by
 obtain ⟨gd,go,hG⟩:=pV l wh f y
 have HGet:Hid (Calls Tryz.prog 131 #[v,.string (mk wh),.bool f,.int .i64 y] w fun e w'=>e=.returned (.agg #[.string (mk wh),.bool f,.int .i64 y,.int .i64 gd,.int .i64 go])/\Below w.heap.size w w'):=by
  have hq:=get_any l wh f y v w h (by omega) hO.up
  rw [hG] at hq
  exact hq
 have HRlo:Hid (∀W,Below w.heap.size w W->cu All W v l):=fun W hW=>((Em h).move (Below.yu hW)).all
 have HO:=Lib.hid hO
 have HPut:Hid (∀W,cu All W v l->Calls Tryz.prog 158 #[v,.agg #[.string (mk wh),.bool f,.int .i64 y,.int .i64 (gd+d),.int .i64 (go+o)]] W fun e w'=>∃v' i fb,e=.returned v'/\dh l ⟨wh,f,y,gd+d,go+o⟩ i fb/\Own W.heap.size w' v' (BX l ⟨wh,f,y,gd+d,go+o⟩ i fb)/\Below W.heap.size W w'):=fun W hW=>put_any l ⟨wh,f,y,gd+d,go+o⟩ v W hW hl hO.up
 have HRow:Hid (DW l wh f y d o=⟨wh,f,y,gd+d,go+o⟩):=(by unfold DW;rw [hG]:DW l wh f y d o=⟨wh,f,y,gd+d,go+o⟩)
 obtain ⟨fa,fk,rfl,hm1,hm2⟩:=h.form
 have HA1:=Lib.hid fun W=>Ce.add_any gd d W
 have HA2:=Lib.hid fun W=>Ce.add_any go o W
 obtain ⟨E,HE⟩:∃E,Hid (dJ l wh f y d o=E):=⟨_,(rfl:dJ l wh f y d o=_)⟩
 have HEd:Hid (E=if Ce.dJ gd d=0 then (if Ce.dJ go o=0 then (if d<=o then 0 else 3) else Ce.dJ go o) else Ce.dJ gd d):=(by rw [←HE.out];unfold dJ;rw [hG]:E=_)
 have HPL:Hid (E=0->∀i fb,dh l (DW l wh f y d o) i fb->BX l (DW l wh f y d o) i fb=dM l wh f y d o):=fun h0 i fb hs=>dP hO (HE.out.trans h0) hs
 have HNil:Hid (E ≠ 0->dM l wh f y d o=[]):=fun h0=>by unfold dM;rw [if_neg (by rw [HE.out];exact h0)]
 rw [HE.out]
 rw [HRow.out] at HPL
 obtain ⟨L2,HL2⟩:∃L2,Hid (dM l wh f y d o=L2):=⟨_,(rfl:dM l wh f y d o=_)⟩
 rw [HL2.out] at HPL HNil ⊢
 have HV1:Hid (Ce.dJ gd d=0->Ce.dM gd d=gd+d):=jY
 have HV2:Hid (Ce.dJ go o=0->Ce.dM go o=go+o):=jY
 generalize Ce.dJ gd d=E1 at *
 generalize Ce.dJ go o=E2 at *
 generalize Ce.dM gd d=V1 at *
 generalize Ce.dM go o=V2 at *
 clear h hO hG HE HO HRow HL2
 go_enter Tryz.func136,Tryz.ntmps136
 go_wp2_with fail
 go_at_call 131
 refine HGet.out.mono ?_
 rintro e w1 ⟨rfl,hb1⟩
 have hb2:=iU w1 (.cells #[.string (mk wh),.bool f,.int .i64 y,.int .i64 gd,.int .i64 go] TA)
 have HZ:=Lib.hid (heap_alloc_new w1 (.cells #[.string (mk wh),.bool f,.int .i64 y,.int .i64 gd,.int .i64 go] TA))
 have HB:=Lib.hid (jg hb1 hb2)
 have HS:=Lib.hid hb1.size
 clear hb1 hb2 HGet
 go_upto_region 3 with fail
 generalize w1.alloc (.cells #[.string (mk wh),.bool f,.int .i64 y,.int .i64 gd,.int .i64 go] TA)=W at *
 generalize hq:w1.heap.size=q at *
 generalize hp:w.heap.size=p at *
 have HPQ:=Lib.hid HS.out
 obtain ⟨z0,z1,z2,z3,z4⟩:=cells5 HZ.out
 obtain ⟨t0,t1,t2,t3,t4⟩:=pO HZ.out
 have HZ2:=Lib.hid (jO HZ.out (.int .i64 V1))
 have HB2:Hid (Below p w (W.setCell ⟨q,3,none⟩ (.int .i64 V1))):=HB.out.setCell (p:=⟨q,3,none⟩) HPQ.out _
 by_cases h1:E1=0
 ·have e1:=HV1.out h1
  have b1:(E1 != 0)=false:=by simp [h1]
  have HEd2:Hid (E=if E2=0 then (if d<=o then 0 else 3) else E2):=HEd.out.trans (by rw [if_pos h1])
  rw [←e1] at HPut HPL
  clear HEd HV1 e1 h1
  go_upto_region 6 with (go_at_call 120;refine (HA1.out _).mono ?_;rintro e w' ⟨rfl,hw⟩;rw [hw];clear hw w')
  generalize W.setCell ⟨q,3,none⟩ (.int .i64 V1)=W3 at *
  clear z0 z1 z2 z3 z4 t0 t1 t2 t3 t4 HZ HB HA1 b1
  obtain ⟨z0,z1,z2,z3,z4⟩:=cells5 HZ2.out
  obtain ⟨t0,t1,t2,t3,t4⟩:=pO HZ2.out
  have HZ3:=Lib.hid (jP HZ2.out (.int .i64 V2))
  have HB3:Hid (Below p w (W3.setCell ⟨q,4,none⟩ (.int .i64 V2))):=HB2.out.setCell (p:=⟨q,4,none⟩) HPQ.out _
  by_cases h2:E2=0
  ·have e2:=HV2.out h2
   have b2:(E2 != 0)=false:=by simp [h2]
   have HEd3:Hid (E=if d<=o then 0 else 3):=HEd2.out.trans (by rw [if_pos h2])
   rw [←e2] at HPut HPL
   clear HEd2 HV2 e2 h2
   go_upto_region 9 with (go_at_call 120;refine (HA2.out _).mono ?_;rintro e w' ⟨rfl,hw⟩;rw [hw];clear hw w')
   generalize W3.setCell ⟨q,4,none⟩ (.int .i64 V2)=W4 at *
   clear z0 z1 z2 z3 z4 t0 t1 t2 t3 t4 HZ2 HB2 HA2 b2
   obtain ⟨z0,z1,z2,z3,z4⟩:=cells5 HZ3.out
   by_cases h3:d<=o
   ·have HE0:Hid (E=0):=HEd3.out.trans (by rw [if_pos h3])
    have n3:¬ o < d:=by omega
    clear h3
    have HP:=Lib.hid (HPut.out W4 (HRlo.out W4 HB3.out))
    clear HPut
    go_wp2_with fail
    go_at_call 158
    refine HP.out.mono ?_
    rintro e w5 ⟨v5,i5,fb5,rfl,hs5,ho5,hb5⟩
    rw [HPL.out HE0.out i5 fb5 hs5] at ho5
    have HO5:=Lib.hid (own_base HB3.out.size ho5)
    have HB5:=Lib.hid (jf hp HB3.out hb5)
    obtain ⟨a5,c5,rfl,-,-⟩:=Am ho5
    clear hs5 ho5 hb5 HP HPL z0 z1 z2 z3 z4
    go_wp2
    go_ret2
    exact ⟨_,(by first|(rw [HE0.out];done)|(rw [HE0.out];rfl)),by first|exact HO5.out|(rw [hp];exact HO5.out),by first|exact HB5.out|(rw [hp];exact HB5.out)⟩
   ·have HE0:Hid (E=3):=HEd3.out.trans (by rw [if_neg h3])
    have n3:o < d:=by omega
    have HNl:Hid (L2=[]):=HNil.out (by rw [HE0.out];decide)
    clear h3
    go_wp2
    go_ret2
    exact ⟨.slice none 0 0,(by first|(rw [HE0.out];done)|(rw [HE0.out];rfl)),by rw [HNl.out];exact Ap _ _,by first|exact HB3.out|(rw [hp];exact HB3.out)⟩
  ·have b2:(E2 != 0)=true:=by simp [h2]
   have HE0:Hid (E=E2):=HEd2.out.trans (by rw [if_neg h2])
   have HNl:Hid (L2=[]):=HNil.out (by rw [HE0.out];exact h2)
   clear h2 HV2 HPL HNil HEd2
   go_wp2_with (go_at_call 120;refine (HA2.out _).mono ?_;rintro e w' ⟨rfl,hw⟩;rw [hw];clear hw w')
   go_ret2
   exact ⟨.slice none 0 0,(by first|(rw [HE0.out];done)|(rw [HE0.out];rfl)),by rw [HNl.out];exact Ap _ _,by first|exact HB3.out|(rw [hp];exact HB3.out)⟩
 ·have b1:(E1 != 0)=true:=by simp [h1]
  have HE0:Hid (E=E1):=HEd.out.trans (by rw [if_neg h1])
  have HNl:Hid (L2=[]):=HNil.out (by rw [HE0.out];exact h1)
  clear HEd h1 HV1 HV2 HPL HNil
  go_wp2_with (go_at_call 120;refine (HA1.out _).mono ?_;rintro e w' ⟨rfl,hw⟩;rw [hw];clear hw w')
  go_ret2
  exact ⟨.slice none 0 0,(by first|(rw [HE0.out];done)|(rw [HE0.out];rfl)),by rw [HNl.out];exact Ap _ _,by first|exact HB2.out|(rw [hp];exact HB2.out)⟩
theorem eight {w:World} {b:Nat} {c0 c1 c2 c3 c4 c5 c6 c7:Value} {T:TypeId} (h:w.heap[b]?=some (.cells #[c0,c1,c2,c3,c4,c5,c6,c7] T (0,0))):w.cell? ⟨b,0,none⟩=some c0/\w.cell? ⟨b,1,none⟩=some c1/\w.cell? ⟨b,2,none⟩=some c2/\w.cell? ⟨b,3,none⟩=some c3/\w.cell? ⟨b,4,none⟩=some c4/\w.cell? ⟨b,5,none⟩=some c5/\w.cell? ⟨b,6,none⟩=some c6/\w.cell? ⟨b,7,none⟩=some c7:=by
 refine ⟨?_,?_,?_,?_,?_,?_,?_,?_⟩<;>(rw [cell_of_row w b _ _ T (0,0) h];rfl)
open Sh (Ot member)
def Small (o:Ot):Prop:=(-1152921504606846976<=o.de/\o.de<=1152921504606846976)/\(-1152921504606846976<=o.cp/\o.cp<=1152921504606846976)/\(-1152921504606846976<=o.cn/\o.cn<=1152921504606846976)
theorem xu (o:Ot) (w:World) (hs:Small o) :
  Calls Tryz.prog 135 #[.agg #[.int .i64 o.al,.int .i64 o.de,.int .i64 o.cp,.int .i64 o.cn,.int .i64 o.plan,.int .i64 o.wr,.int .i64 o.pr,.int .i64 o.deny]] w fun e w'=>e=.returned (.int .i64 (member o))/\Below w.heap.size w w':=by
 obtain ⟨⟨h1,h2⟩,⟨h3,h4⟩,⟨h5,h6⟩⟩:=hs
 have HB:=Lib.hid (iU w (.cells #[.int .i64 o.al,.int .i64 o.de,.int .i64 o.cp,.int .i64 o.cn,.int .i64 o.plan,.int .i64 o.wr,.int .i64 o.pr,.int .i64 o.deny] 45))
 have HX:=Lib.hid (fK w #[.int .i64 o.al,.int .i64 o.de,.int .i64 o.cp,.int .i64 o.cn,.int .i64 o.plan,.int .i64 o.wr,.int .i64 o.pr,.int .i64 o.deny] 45)
 rw [show member o=o.de+o.cp+o.cn from rfl]
 go_enter Tryz.func135,Tryz.ntmps135
 go_upto_region 1 with fail
 generalize w.alloc (.cells #[.int .i64 o.al,.int .i64 o.de,.int .i64 o.cp,.int .i64 o.cn,.int .i64 o.plan,.int .i64 o.wr,.int .i64 o.pr,.int .i64 o.deny] 45)=W at *
 generalize hp:w.heap.size=p at *
 obtain ⟨b0,b1,b2,b3,b4,b5,b6,b7⟩:=eight HX.out
 go_wp2
 go_ret
 exact ⟨rfl,by first|exact HB.out|(rw [hp];exact HB.out)⟩
theorem dN (l:List Row) (wh:Tx) (f:Bool) (y d o:Int):(dM l wh f y d o).length<=l.length+1:=by
 unfold dM
 split
 ·split
  ·omega
  ·have:∀(a:Row) (l:List Row),(put a l).length<=l.length+1:=by
    intro a l
    induction l with
    | nil=>simp [put]
    | cons x r ih=>unfold put;split;simp;omega;split<;>simp
   exact this _ _
 ·simp
theorem both_any (l:List Row) (m f:Tx) (y:Int) (o:Ot) (v:Value) (w:World) (h:cu All w v l) (hl:l.length<=9000) (hO:Ok l) (hs:Small o) :
  Calls Tryz.prog 92 #[v,.string (mk m),.string (mk f),.int .i64 y,.agg #[.int .i64 o.al,.int .i64 o.de,.int .i64 o.cp,.int .i64 o.cn,.int .i64 o.plan,.int .i64 o.wr,.int .i64 o.pr,.int .i64 o.deny]] w fun e w'=>∃v',e=.returned (.tuple #[v',.int .i64 (jF l m f y o)])/\Own w.heap.size w' v' (jG l m f y o)/\Below w.heap.size w w':=by
 have HB:=Lib.hid (iU w (.cells #[.int .i64 o.al,.int .i64 o.de,.int .i64 o.cp,.int .i64 o.cn,.int .i64 o.plan,.int .i64 o.wr,.int .i64 o.pr,.int .i64 o.deny] 45))
 have HX:=Lib.hid (fK w #[.int .i64 o.al,.int .i64 o.de,.int .i64 o.cp,.int .i64 o.cn,.int .i64 o.plan,.int .i64 o.wr,.int .i64 o.pr,.int .i64 o.deny] 45)
 have HM:=Lib.hid fun W=>xu o W hs
 have HRlo:Hid (∀W,Below w.heap.size w W->cu All W v l):=fun W hW=>((Em h).move (Below.yu hW)).all
 have HA1:=Lib.hid fun W (hW:cu All W v l)=>add_any l m false y o.de (member o) v W hW (by omega) hO
 have HA2:Hid (dJ l m false y o.de (member o)=0->∀W v2,cu All W v2 (dM l m false y o.de (member o))->Calls Tryz.prog 136 #[v2,.string (mk f),.bool true,.int .i64 y,.int .i64 o.de,.int .i64 (member o)] W fun e w'=>∃v',e=.returned (.tuple #[v',.int .i64 (dJ (dM l m false y o.de (member o)) f true y o.de (member o))])/\Own W.heap.size w' v' (dM (dM l m false y o.de (member o)) f true y o.de (member o))/\Below W.heap.size W w'):=fun h0 W v2 hW =>
  add_any _ f true y o.de (member o) v2 W hW (by have:=dN l m false y o.de (member o);omega) (dO hO h0)
 obtain ⟨fa,fk,rfl,hm1,hm2⟩:=h.form
 have HE:Hid (jF l m f y o=if dJ l m false y o.de (member o)=0 then dJ (dM l m false y o.de (member o)) f true y o.de (member o) else dJ l m false y o.de (member o)):=(rfl:jF l m f y o=_)
 have HV:Hid (jG l m f y o=if dJ l m false y o.de (member o)=0 then dM (dM l m false y o.de (member o)) f true y o.de (member o) else []):=(rfl:jG l m f y o=_)
 generalize jF l m f y o=E at *
 generalize jG l m f y o=V at *
 generalize dM (dM l m false y o.de (member o)) f true y o.de (member o)=V2 at *
 generalize dJ (dM l m false y o.de (member o)) f true y o.de (member o)=E2 at *
 generalize dM l m false y o.de (member o)=V1 at *
 generalize dJ l m false y o.de (member o)=E1 at *
 generalize member o=M at *
 clear h hO hs
 go_enter Tryz.func92,Tryz.ntmps92
 go_upto_region 1 with fail
 generalize w.alloc (.cells #[.int .i64 o.al,.int .i64 o.de,.int .i64 o.cp,.int .i64 o.cn,.int .i64 o.plan,.int .i64 o.wr,.int .i64 o.pr,.int .i64 o.deny] 45)=W at *
 generalize hp:w.heap.size=p at *
 obtain ⟨b0,b1,b2,b3,b4,b5,b6,b7⟩:=eight HX.out
 go_wp2_with fail
 go_at_call 135
 refine (HM.out _).mono ?_
 rintro e w1 ⟨rfl,hb1⟩
 have HB1:=Lib.hid (jf hp HB.out hb1)
 have HX1:=Lib.hid (tV HX.out hb1)
 clear hb1 b0 b1 b2 b3 b4 b5 b6 b7 HX HB HM
 obtain ⟨b0,b1,b2,b3,b4,b5,b6,b7⟩:=eight HX1.out
 go_wp2_with fail
 go_at_call 136
 refine (HA1.out w1 (HRlo.out w1 HB1.out)).mono ?_
 rintro e w2 ⟨v2,rfl,ho2,hb2⟩
 have HB2:=Lib.hid (jf hp HB1.out hb2)
 have HX2:=Lib.hid (tV HX1.out hb2)
 have HR2:=Lib.hid (Eo (K:=All) ho2 fun _ _=>trivial)
 obtain ⟨a2,c2,rfl,hm3,hm4⟩:=Am ho2
 clear ho2 hb2 b0 b1 b2 b3 b4 b5 b6 b7 HX1 HB1 HA1 HRlo
 obtain ⟨b0,b1,b2,b3,b4,b5,b6,b7⟩:=eight HX2.out
 by_cases h1:E1=0
 ·have n1:(E1 != 0)=false:=by simp [h1]
  have HE0:Hid (E=E2):=HE.out.trans (if_pos h1)
  have HV0:Hid (V=V2):=HV.out.trans (if_pos h1)
  have HA:=Lib.hid (HA2.out h1 w2 _ HR2.out)
  clear h1 HA2 HE HV
  go_wp2_with fail
  go_at_call 136
  refine HA.out.mono ?_
  rintro e w3 ⟨v3,rfl,ho3,hb3⟩
  have HO3:=Lib.hid (own_base HB2.out.size ho3)
  have HB3:=Lib.hid (jf hp HB2.out hb3)
  obtain ⟨a3,c3,rfl,-,-⟩:=Am ho3
  clear ho3 hb3 HA b0 b1 b2 b3 b4 b5 b6 b7
  go_wp2
  go_ret2
  exact ⟨_,(by first|(rw [HE0.out];done)|(rw [HE0.out];rfl)),by rw [HV0.out];first|exact HO3.out|(rw [hp];exact HO3.out),by first|exact HB3.out|(rw [hp];exact HB3.out)⟩
 ·have n1:(E1 != 0)=true:=by simp [h1]
  have HE0:Hid (E=E1):=HE.out.trans (if_neg h1)
  have HV0:Hid (V=[]):=HV.out.trans (if_neg h1)
  clear h1 HA2 HE HV
  go_wp2
  go_ret2
  exact ⟨.slice none 0 0,(by first|(rw [HE0.out];done)|(rw [HE0.out];rfl)),by rw [HV0.out];exact Ap _ _,by first|exact HB2.out|(rw [hp];exact HB2.out)⟩
end Go.Proofs.YtfbfeoplldjbpaaGreatDoor.Ac
end
