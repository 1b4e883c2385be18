/-
  Texts put together (merge.py): YClone, YIns, YInsG.
-/
import Derived.Lib.Overlaps
import Derived.Lib.AppendZerosOnto
import Derived.Lib.SliceRun
import Derived.Laws.CopyRow
import Derived.Laws.CopyOwn
import Derived.Laws.Externs
import Derived.Test.YtfbfeoplldjbpaaGreatDoorMo8
set_option linter.unusedSimpArgs false
set_option linter.unusedVariables false
set_option maxHeartbeats 16000000
set_option maxRecDepth 100000
section
namespace Go.Proofs.YtfbfeoplldjbpaaGreatDoor.Ac
open Go.RowKit
theorem Ee (P:Program) (w:World) (dT sT ty elem:TypeId) (sz g o dLen dCap:Nat) (a:Addr) (sLen sCap:Nat) (cur:Array Value) (t:TypeId) (cs:List Value)
  (hu:P.underlying dT=some (.slice elem)) (hs:(P.info? elem).map (·.size)=some sz)
  (hg:w.heap[g]?=some (.cells cur t (0,0))) (hn:cs.length=Nat.min sLen dLen * sz)
  (hsrc:∀j v,cs[j]?=some v->w.cell? (a.add j)=some v) (hfit:o+cs.length<=cur.size) (h1:∀v ∈ cs,v.oneCell'=true) :
  (Builtin.copy_ #[dT,sT] ty #[.slice (some ⟨g,o,none⟩) dLen dCap,.slice (some a) sLen sCap]).run P w =
   .ok (goInt (Nat.min sLen dLen)) (w.setRow g (cur.toList.take o ++ cs ++ cur.toList.drop (o+cs.length)).toArray):=by
 have hl:=run_loadCells_list (P:=P) w a cs hsrc
 have hst:=run_storeCells_at P g o t cs 0 cur w hg (by simpa using hfit) h1
 cases hq:P.info? elem with
 | none=>simp [hq] at hs
 | some i =>
  have hi:i.size=sz:=by simpa [hq] using hs
  simp [Builtin.copy_,run_underlying hu,Builtin.lenOf,Builtin.firstCells,sizeOf,typeInfo,hq,hi,←hn,hl,hst]
theorem add_lit (b o j:Nat):(⟨b,o,none⟩:Addr).add j=⟨b,o+j,none⟩:=by unfold Addr.add;split<;>simp_all
theorem DY {w:World} {b o:Nat} {l:List Row} (h:∀(j:Nat) x,l[j]?=some x->bZ w b (o+j * 5) x) (j:Nat) (u:Value) (hj:(rcs l)[j]?=some u):w.cell? ⟨b,o+j,none⟩=some u:=by
 have hjl:j < l.length * 5:=by have:=(List.getElem?_eq_some_iff.1 hj).1;rwa [Dj] at this
 have hq:j / 5 < l.length:=by omega
 have hx:=List.getElem?_eq_getElem hq
 obtain ⟨c0,c1,c2,c3,c4⟩:=h _ _ hx
 have e:=Df l (j / 5) _ hx (j % 5) (Nat.mod_lt _ (by omega))
 rw [show j / 5 * 5+j % 5=j by omega,hj] at e
 have hr:j % 5=0 ∨ j % 5=1 ∨ j % 5=2 ∨ j % 5=3 ∨ j % 5=4:=by omega
 rcases hr with r|r|r|r|r<;>rw [r] at e
 ·rw [show o+j=o+j / 5 * 5 by omega,c0];exact e.symm
 ·rw [show o+j=o+j / 5 * 5+1 by omega,c1];exact e.symm
 ·rw [show o+j=o+j / 5 * 5+2 by omega,c2];exact e.symm
 ·rw [show o+j=o+j / 5 * 5+3 by omega,c3];exact e.symm
 ·rw [show o+j=o+j / 5 * 5+4 by omega,c4];exact e.symm
theorem clone_any (l:List Row) (v:Value) (w:World) (h:cu All w v l) (hl:l.length<=1000000) :
  Calls Tryz.prog 25 #[v] w fun e w'=>∃v',e=.returned v'/\Own w.heap.size w' v' l/\Below w.heap.size w w':=by
 obtain ⟨a,c,rfl,h1,h2,h3⟩:=h
 have q22:∀(w:World) (a:Option Addr) (n c n' c':Nat),(binOp .eql 32 (.slice a n c) (.slice none n' c')).run Tryz.prog w=.ok (.bool a.isNone) w:=fun w a n c n' c'=>Lib.run_eql_slice_nil w _ _ a n c n' c' Tryz.underlying32
 cases a with
 | none =>
  have hl0:l=[]:=by
   rcases h3 with h|⟨b,o,e,_⟩
   ·exact h
   ·cases e
  subst hl0
  go_enter Tryz.func25,Tryz.ntmps25
  go_wp2
  go_ret
  exact ⟨_,rfl,Ap _ _,Below.refl _ _⟩
 | some ad =>
  obtain ⟨b,o,s⟩:=ad
  obtain ⟨i0,hi,hz0,hz1,hz2⟩:=rX
  have HS:Hid (∀j u,(rcs l)[j]?=some u->w.cell? ((⟨b,o,s⟩:Addr).add j)=some u):=by
   intro j u hj
   rcases h3 with h|⟨b',o',e,_,_,hc⟩
   ·subst h;simp [rcs] at hj
   ·simp only [Option.some.injEq,Addr.mk.injEq] at e
    obtain ⟨rfl,rfl,rfl⟩:=e
    rw [add_lit]
    exact DY hc j u hj
  clear h3
  go_enter Tryz.func25,Tryz.ntmps25
  go_wp2_with (at_builtin;refine wpList_append_own _ rfl _ _ 32 rfl w.heap.size TA i0 _ 5 48 Tryz.underlying32 hi hz0 hz1 hz2 rfl (by decide) _ _ _ rfl (World.ownsRow_made w #[] 0 (Nat.le_refl _) (Nat.zero_le _) rfl) ⟨b,o,s⟩ l.length c (rcs l) rfl ?qc1 ?qc2 ?qc3 ?qc4 ?qc5 ?qc6 ?_)
  case qc1=>rw [Dj]
  case qc2=>intro j u hj;exact Lib.cell?_alloc_some _ (HS.out j u hj)
  case qc3=>exact Dk l
  case qc4=>unfold maxLen;omega
  case qc5=>omega
  case qc6=>simp
  intro v' w1 hown hgrow hnil
  go_wp2
  go_ret
  refine ⟨v',rfl,?_,?_⟩
  ·unfold Own;simpa using hown
  ·exact ((Below.refl _ w).alloc (Nat.le_refl _) _).grown hgrow (by simp) (by intro k hk;simp [Value.ownBlock] at hk;omega)
end Go.Proofs.YtfbfeoplldjbpaaGreatDoor.Ac
end
section
namespace Go.Proofs.YtfbfeoplldjbpaaGreatDoor.Ac
open Go.RowKit
theorem IL {P:Program} {w:World} {ops:Array Oper} {rest:List Oper} {o:Oper} {a:Act} {Q:Exit->Act->World->Prop} (hgd:o.guard=none) (s x:Operand) (t tn:TypeId)
  (ho:o.op=.call { callee:=.builtin .append,args:=#[s,x],argTypes:=#[t,tn] }) (vs vx:Value) (hs:a.eval s=vs) (hx:a.eval x=vx) (v':Value) (R:World->Prop)
  (hr:∃w',(Builtin.append_ #[t,tn] o.type #[vs,vx]).run P w=.ok v' w'/\R w') (h:∀w',Hid (R w')->wpList P ops Q rest (a.put o.dst v') w'):wpList P ops Q (o :: rest) a w:=by
 obtain ⟨w',hr,hR⟩:=hr
 exact Lib.wpList_append_run w hgd s x t tn ho vs vx hs hx v' w' hr (h w' hR)
theorem F8 {P:Program} {ops:Array Oper} {o:Oper} {a:Act} {w:World} {K:Act->World->Prop} {Q:Exit->Act->World->Prop} {E:Prop}
  (hg:o.guard=none) (d x:Operand) (dT sT:TypeId) (hop:o.op=Op.call { callee:=Callee.builtin Builtin.copy,args:=#[d,x],argTypes:=#[dT,sT] })
  (v u:Value) (hd:a.eval d=v) (hx:a.eval x=u) (v':Value) (R:World->Prop) (hr:∃w',(Builtin.copy_ #[dT,sT] o.type #[v,u]).run P w=.ok v' w'/\R w') (hK:∀w',Hid (R w')->K (a.put o.dst v') w') :
  if Region.wanted o (yielded ops a.tmps)=true then Oper.wp P o a w K Q else E:=by
 obtain ⟨w',h1,h2⟩:=hr
 have h3:=hK w' h2
 subst hd hx
 rw [if_pos (show Region.wanted o (yielded ops a.tmps)=true by simp [Region.wanted,hg])]
 unfold Oper.wp
 simp [execOp,hop,resolve,invoke,builtin,h1,Result.andThen]
 exact h3
def spl (L:List Value) (off:Nat) (cs:List Value):List Value:=L.take off ++ cs ++ L.drop (off+cs.length)
theorem FU (L:List Value) (off:Nat) (cs:List Value) (h:off+cs.length<=L.length):(spl L off cs).length=L.length:=by simp [spl];omega
theorem FW (L:List Value) (off:Nat) (cs:List Value) (h:off+cs.length<=L.length):(spl L off cs).take (off+cs.length)=L.take off ++ cs:=by
 unfold spl
 exact List.take_left' (by simp;omega)
theorem FT (L:List Value) (off:Nat) (cs:List Value) (k:Nat) (hk:k<=off) (h:off+cs.length<=L.length):(spl L off cs).take k=L.take k:=by
 unfold spl
 rw [List.append_assoc,List.take_append_of_le_length (by simp;omega),List.take_take]
 congr 1;omega
theorem FX {L A X D:List Value} {p q r:Nat} (hA:L.take p=A) (hp:p+X.length=q) (hq:q+D.length=r) (hr:r<=L.length):(spl (spl L p X) q D).take r=A ++ X ++ D:=by
 have h1:p+X.length<=L.length:=by omega
 have e1:=FW L p X h1
 rw [hA,hp] at e1
 have h2:q+D.length<=(spl L p X).length:=by rw [FU _ _ _ h1];omega
 have e2:=FW (spl L p X) q D h2
 rw [e1,hq] at e2
 exact e2
theorem FV {L A X D:List Value} {p q r:Nat} (hA:L.take p=A) (hp:p+X.length=q) (hq:q+D.length=r) (hr:r<=L.length):(spl (spl L q D) p X).take r=A ++ X ++ D:=by
 have h1:q+D.length<=L.length:=by omega
 have h2:p+X.length<=(spl L q D).length:=by rw [FU _ _ _ h1];omega
 have e0:(spl L q D).take p=A:=by rw [FT L q D p (by omega) h1,hA]
 have hAl:A.length=p:=by rw [←hA,List.length_take];omega
 have e1:spl (spl L q D) p X=A ++ X ++ (spl L q D).drop q:=by
  conv=>lhs;unfold spl
  rw [show (List.take q L ++ D ++ List.drop (q+D.length) L)=spl L q D from rfl,e0,hp]
 have e3:(spl L q D).drop q=D ++ L.drop r:=by
  unfold spl
  rw [List.append_assoc,List.drop_left' (by simp;omega),hq]
 rw [e1,e3,←List.append_assoc]
 exact List.take_left' (by simp;omega)
def Lies (H:Nat) (L:List Value) (p:Nat) (w:World) (W:World):Prop:=W.heap[H]?=some (.cells L.toArray TA (0,0))/\Below p w W
theorem l9 {H:Nat} {L:List Value} {p:Nat} {w W:World} (h:Lies H L p w W) (hpH:p<=H) (a:Addr) (o dLen dCap sLen sCap:Nat) (cs:List Value) (k:Nat) (hk:Nat.min sLen dLen=k) (hn:cs.length=k * 5)
  (hsrc:∀j v,cs[j]?=some v->W.cell? (a.add j)=some v) (hfit:o+cs.length<=L.length) (h1:∀v ∈ cs,v.oneCell'=true) (ty:TypeId) :
  ∃W',(Builtin.copy_ #[32,32] ty #[.slice (some ⟨H,o,none⟩) dLen dCap,.slice (some a) sLen sCap]).run Tryz.prog W=.ok (goInt k) W'/\Lies H (spl L o cs) p w W':=by
 obtain ⟨i0,hi,hz0,hz1,hz2⟩:=rX
 have hr:=Ee Tryz.prog W 32 32 ty TA 5 H o dLen dCap a sLen sCap L.toArray TA cs Tryz.underlying32 (by rw [hi];simp [hz1]) h.1 (by rw [hk];exact hn) hsrc (by simpa using hfit) h1
 rw [hk] at hr
 refine ⟨_,hr,?_,below_setRow h.2 hpH _⟩
 have:=setRow_heap W H L.toArray (L.toArray.toList.take o ++ cs ++ L.toArray.toList.drop (o+cs.length)).toArray TA _ h.1
 exact this
theorem rZ (l:List Row) (x:Row) (B:Nat) (v:Value) (vb:Nat) (w:World) (hown:Own B w v l) (hl:l.length<=100000) (hB:B<=w.heap.size)
  (hx:w.heap[vb]?=some (.cells #[.string (mk x.who),.bool x.fam,.int .i64 x.year,.int .i64 x.de,.int .i64 x.oo] TA (0,0))) :
  Calls Tryz.prog 171 #[v,.int .i64 (l.length:Nat),.slice (some ⟨vb,0,none⟩) 1 1] w fun e w'=>∃v',e=.returned v'/\Own B w' v' (l ++ [x])/\Below B w w':=by
 have HO:=Lib.hid hown
 rcases hown.2 with ⟨rfl,h0⟩|⟨g,cap,cur,rfl,hbg,hg,h1,h2,hs,ht⟩
 ·have hl0:l=[]:=List.length_eq_zero_iff.1 h0
  subst hl0
  clear hown h0
  go_enter Tryz.func171,Tryz.ntmps171
  go_wp2_with (at_builtin;refine wpList_plain (by rfl) (fun K hK=>?_);refine IQ _ _ rfl B (.slice none 0 0) [] rfl HO.out vb 1 x rfl hx (by simp) hB (fun v' w' ho hg _=>?_);refine hK _ _ ?_)
  have HB:=Lib.hid (qo HO.out hg hB)
  have HO2:=Lib.hid ho
  obtain ⟨a,c,rfl,-,-⟩:=Am ho
  clear hg ho
  go_wp2
  go_ret
  exact ⟨_,rfl,HO2.out,HB.out⟩
 ·have hnz:(l.length:Int)<=(cap:Int):=by omega
  have hc63:cap<=9223372036854775807:=by unfold maxLen at h2;exact h2
  clear hown hs ht h2
  by_cases hc:cap=l.length
  ·subst hc
   go_enter Tryz.func171,Tryz.ntmps171
   go_wp2_with (at_builtin;refine wpList_plain (by rfl) (fun K hK=>?_);refine IQ _ _ rfl B (.slice (some ⟨g,0,none⟩) l.length l.length) l rfl HO.out vb 1 x rfl hx (by omega) hB (fun v' w' ho hg _=>?_);refine hK _ _ ?_)
   have HB:=Lib.hid (qo HO.out hg hB)
   have HO2:=Lib.hid ho
   obtain ⟨a,c,rfl,-,-⟩:=Am ho
   clear hg ho
   go_wp2
   go_ret
   exact ⟨_,rfl,HO2.out,HB.out⟩
  ·go_enter Tryz.func171,Tryz.ntmps171
   go_wp2_with (at_builtin;refine wpList_plain (by rfl) (fun K hK=>?_);refine IQ _ _ rfl B (.slice (some ⟨g,0,none⟩) l.length cap) l rfl HO.out vb 1 x rfl hx (by omega) hB (fun v' w' ho hg _=>?_);refine hK _ _ ?_)
   have HB:=Lib.hid (qo HO.out hg hB)
   have HO2:=Lib.hid ho
   obtain ⟨a,c,rfl,-,-⟩:=Am ho
   clear hg ho
   go_wp2
   go_ret
   exact ⟨_,rfl,HO2.out,HB.out⟩
end Go.Proofs.YtfbfeoplldjbpaaGreatDoor.Ac
end
section
namespace Go.Proofs.YtfbfeoplldjbpaaGreatDoor.Ac
open Go.RowKit
theorem rY (l:List Row) (x:Row) (i:Nat):rcs (l.take i) ++ rc x ++ rcs (l.drop i)=rcs (l.take i ++ x :: l.drop i):=by
 rw [Dc,Dh,List.append_assoc]
theorem sF (l:List Row) (x:Row) (i:Nat) (hi:i<=l.length):(l.take i ++ x :: l.drop i).length=l.length+1:=by simp;omega
theorem C9 {w:World} {vb:Nat} {x:Row} (hx:w.heap[vb]?=some (.cells #[.string (mk x.who),.bool x.fam,.int .i64 x.year,.int .i64 x.de,.int .i64 x.oo] TA (0,0))) (j:Nat) (u:Value) (hj:(rc x)[j]?=some u):w.cell? ((⟨vb,0,none⟩:Addr).add j)=some u:=by
 rw [add_lit,Nat.zero_add,cell_of_row w vb j _ _ (0,0) hx]
 match j,hj with
 | 0,hj=>exact hj
 | 1,hj=>exact hj
 | 2,hj=>exact hj
 | 3,hj=>exact hj
 | 4,hj=>exact hj
 | n+5,hj=>simp [rc] at hj
theorem CZ (x:Row):∀u ∈ rc x,u.oneCell'=true:=fun u hu=>Dk [x] u (by simpa [rcs,rc] using hu)
theorem Aq {B H G p:Nat} {w W:World} {L:List Value} {l:List Row} (h:Lies H L p w W) (hB:B<=H) (hG:l.length<=G) (hG2:G<=maxLen) (hL:L.length=G * 5) (ht:L.take (l.length * 5)=rcs l):Own B W (.slice (some ⟨H,0,none⟩) l.length G) l:=
 ⟨Dj l,Or.inr ⟨H,G,L.toArray,rfl,hB,h.1,hG,hG2,by simpa using hL,by simpa using ht⟩⟩
theorem nH {W:World} {g:Nat} {cur:List Value} (hg:W.heap[g]?=some (.cells cur.toArray TA (0,0))) {l:List Row} (ht:cur.take (l.length * 5)=rcs l) (i:Nat) (j:Nat) (u:Value) (hj:(rcs (l.drop i))[j]?=some u):W.cell? ((⟨g,i * 5,none⟩:Addr).add j)=some u:=by
 rw [add_lit,cell_of_row W g _ _ _ (0,0) hg]
 rw [Di,List.getElem?_drop,←ht,List.getElem?_take] at hj
 split at hj
 ·simpa using hj
 ·cases hj
theorem Jf (k:Nat):(Builtin.zeroCells (Value.agg #[.string ByteArray.empty,.bool false,.int .i64 0,.int .i64 0,.int .i64 0]).cells k).size=k * 5:=by
 simp [Builtin.zeroCells,Value.cells]
theorem su (l:List Row) (x:Row) (i:Nat) (B g c:Nat) (cur:List Value) (vb:Nat) (w:World) (hi:i < l.length) (hl:l.length<=100000) (hB:B<=w.heap.size)
  (hg:w.heap[g]?=some (.cells cur.toArray TA (0,0))) (hc1:l.length<=c) (hc2:c < l.length+1) (ht:cur.take (l.length * 5)=rcs l)
  (hx:w.heap[vb]?=some (.cells #[.string (mk x.who),.bool x.fam,.int .i64 x.year,.int .i64 x.de,.int .i64 x.oo] TA (0,0))) :
  Calls Tryz.prog 171 #[.slice (some ⟨g,0,none⟩) l.length c,.int .i64 (i:Nat),.slice (some ⟨vb,0,none⟩) 1 1] w fun e w'=>∃v',e=.returned v'/\Own B w' v' (l.take i ++ x :: l.drop i)/\Below B w w':=by
 obtain ⟨n,hn⟩:∃n,l.length=n:=⟨_,rfl⟩
 rw [hn] at hi hl hc1 hc2 ⊢
 obtain ⟨i0,hi0,hz0,hz1,hz2⟩:=rX
 have hgw:g < w.heap.size:=(Array.getElem?_eq_some_iff.1 hg).1
 have hvw:vb < w.heap.size:=(Array.getElem?_eq_some_iff.1 hx).1
 have hil:(l.take i).length=i:=by rw [List.length_take];omega
 have hold:(Builtin.firstCells i0.size i (.slice (some ⟨g,0,none⟩) i c)).run Tryz.prog w.drew=.ok (rcs (l.take i)).toArray w.drew:=by
  rw [hz1]
  refine run_firstCells_some w.drew 5 i ⟨g,0,none⟩ i c _ (by rw [Dj,hil]) (fun j u hj=>?_)
  rw [add_lit,Nat.zero_add]
  have:w.drew.cell? ⟨g,j,none⟩=w.cell? ⟨g,j,none⟩:=rfl
  rw [this,cell_of_row w g _ _ _ (0,0) hg]
  rw [Dn,←ht,List.getElem?_take] at hj
  split at hj
  ·rw [List.getElem?_take] at hj
   split at hj
   ·simpa using hj
   ·cases hj
  ·cases hj
 obtain ⟨G,hG⟩:∃G,grownCap w (n+1) c TA=G:=⟨_,rfl⟩
 have hGn:n+1<=G:=by rw [←hG];exact grownCap_ge w _ _ _
 have hGm:G<=maxLen:=by rw [←hG];exact grownCap_le_maxLen w (n+1) c TA (by unfold maxLen;omega)
 have hG63:G<=9223372036854775807:=by unfold maxLen at hGm;exact hGm
 obtain ⟨L0,hL0⟩:∃L0:List Value,L0=((rcs (l.take i)).toArray ++ Builtin.zeroCells (Value.agg #[.string ByteArray.empty,.bool false,.int .i64 0,.int .i64 0,.int .i64 0]).cells (n+1 - i) ++ Builtin.zeroCells (Value.agg #[.string ByteArray.empty,.bool false,.int .i64 0,.int .i64 0,.int .i64 0]).cells (G - (n+1))).toList:=⟨_,rfl⟩
 have hLl:L0.length=G * 5:=by
  rw [hL0,Array.length_toList,Array.size_append,Array.size_append,Jf,Jf]
  simp only [List.size_toArray,Dj,hil]
  omega
 have hLt:L0.take (i * 5)=rcs (l.take i):=by
  rw [hL0,Array.toList_append,Array.toList_append,List.append_assoc]
  exact List.take_left' (by simp only [Dj,hil])
 have HA1:Hid (∀ty,∃W1,(Builtin.append_ #[32,3] ty #[.slice (some ⟨g,0,none⟩) i c,.int .i64 ((n:Int)+1 - (i:Int))]).run Tryz.prog w=.ok (.slice (some ⟨w.heap.size,0,none⟩) (n+1) G) W1/\Lies w.heap.size L0 w.heap.size w W1):=fun ty=>by
  have h:=Lib.run_append_grow_zeros w 32 3 ty TA i0 _ .i64 .i64 Tryz.underlying32 Tryz.underlying3 hi0 hz0 (some ⟨g,0,none⟩) i c _ hold (n+1 - i) (by omega) (by omega) (by omega) (by omega) (by rw [hz2];omega) (by rw [hz2,show i+(n+1 - i)=n+1 by omega];exact growslice_fits hc2 (by omega))
  rw [show i+(n+1 - i)=n+1 by omega,hG] at h
  rw [show (n:Int)+1 - (i:Int)=((n+1 - i:Nat):Int) by omega]
  refine ⟨_,h,?_,?_⟩
  ·rw [hL0,Array.toArray_toList]
   exact heap_alloc_new w.drew _
  ·exact ((Below.drew (Below.refl w.heap.size w)).alloc (Nat.le_refl _) _)
 have hdl:(l.drop i).length=n - i:=by rw [List.length_drop,hn]
 have HA2:Hid (∀W1,Lies w.heap.size L0 w.heap.size w W1->∀ty dc,∃W2,(Builtin.copy_ #[32,32] ty #[.slice (some ⟨w.heap.size,i * 5,none⟩) (n+1 - i) dc,.slice (some ⟨vb,0,none⟩) 1 1]).run Tryz.prog W1=.ok (goInt 1) W2/\Lies w.heap.size (spl L0 (i * 5) (rc x)) w.heap.size w W2):=fun W1 h1 ty dc =>
  l9 h1 (Nat.le_refl _) ⟨vb,0,none⟩ (i * 5) (n+1 - i) dc 1 1 (rc x) 1 (by simp only [Nat.min_def];split<;>omega) rfl (C9 (tV hx h1.2)) (by rw [hLl];simp only [rc,List.length_cons,List.length_nil];omega) (CZ x) ty
 have hL2:(spl L0 (i * 5) (rc x)).length=G * 5:=by rw [FU _ _ _ (by rw [hLl];simp only [rc,List.length_cons,List.length_nil];omega),hLl]
 have HA3:Hid (∀W2,Lies w.heap.size (spl L0 (i * 5) (rc x)) w.heap.size w W2->∀ty dc sc,∃W3,(Builtin.copy_ #[32,32] ty #[.slice (some ⟨w.heap.size,(i+1) * 5,none⟩) (n+1 - (i+1)) dc,.slice (some ⟨g,i * 5,none⟩) (n - i) sc]).run Tryz.prog W2.drew=.ok (goInt (n - i:Nat)) W3/\Lies w.heap.size (spl (spl L0 (i * 5) (rc x)) ((i+1) * 5) (rcs (l.drop i))) w.heap.size w W3):=fun W2 h2 ty dc sc =>
  l9 (W:=W2.drew) ⟨h2.1,Below.drew h2.2⟩ (Nat.le_refl _) ⟨g,i * 5,none⟩ ((i+1) * 5) (n+1 - (i+1)) dc (n - i) sc (rcs (l.drop i)) (n - i) (by simp only [Nat.min_def];split<;>omega) (by rw [Dj,hdl]) (fun j u hj=>nH (W:=W2.drew) (tV hg (Below.drew h2.2)) ht i j u hj) (by rw [hL2,Dj,hdl];omega) (Dk _) ty
 have HL3:Hid ((spl (spl L0 (i * 5) (rc x)) ((i+1) * 5) (rcs (l.drop i))).length=G * 5/\(spl (spl L0 (i * 5) (rc x)) ((i+1) * 5) (rcs (l.drop i))).take ((n+1) * 5)=rcs (l.take i ++ x :: l.drop i)):=by
  refine ⟨by rw [FU _ _ _ (by rw [hL2,Dj,hdl];omega),hL2],?_⟩
  rw [←rY]
  exact FX hLt (by simp only [rc,List.length_cons,List.length_nil];omega) (by rw [Dj,hdl];omega) (by rw [hLl];omega)
 have HE:Hid ((l.take i ++ x :: l.drop i).length=n+1):=by rw [←hn];exact sF l x i (by omega)
 have e1:¬ ((i:Int)=(n:Int)):=by omega
 have e1b:((i:Int) == (n:Int))=false:=by simp;omega
 have e2:(c:Int) < (n:Int)+1:=by omega
 have e3:(i:Int)<=(n:Int):=by omega
 have e4:(i:Int)<=(c:Int):=by omega
 have e5:¬ (c=i):=by omega
 have e6:¬ (G=i):=by omega
 have e7:¬ (G=i+1):=by omega
 have e8:(i:Int)+1<=(n:Int)+1:=by omega
 have e9:(i:Int)<=(n:Int)+1:=by omega
 have e10:((i:Int)+1).toNat=i+1:=by omega
 have e11:(0:Int)<=(i:Int)+1:=by omega
 have e12:IntKind.i64.wrap ((i:Int)+1)=(i:Int)+1:=by rw [IntKind.wrap_i64];omega
 have HG:=Lib.hid (And.intro hGn hGm)
 obtain ⟨l2,Hl2⟩:∃l2,Hid (l.take i ++ x :: l.drop i=l2):=⟨_,(rfl:l.take i ++ x :: l.drop i=_)⟩
 rw [Hl2.out] at HL3 HE ⊢
 generalize spl (spl L0 (i * 5) (rc x)) ((i+1) * 5) (rcs (l.drop i))=L3 at *
 generalize spl L0 (i * 5) (rc x)=L2 at *
 obtain ⟨p,Hp⟩:∃p,Hid (w.heap.size=p):=⟨_,(rfl:w.heap.size=_)⟩
 rw [Hp.out] at HA1 HA2 HA3 hB
 have hB':=hB
 clear hold hL0 hLl hLt hL2 hdl Hl2 hil hG hi0 hz0 hz1 hz2 hg hx ht hn hgw hvw
 go_enter Tryz.func171,Tryz.ntmps171
 go_upto_region 10 with (at_builtin;refine IL rfl _ _ 32 3 rfl (.slice (some ⟨g,0,none⟩) i c) (.int .i64 ((n:Int)+1 - (i:Int))) rfl rfl _ _ (HA1.out _) ?_;intro W1 HW1)
 obtain ⟨W2,hr2,hW2⟩:=HA2.out W1 HW1.out 3 (G - i)
 have HW2:=Lib.hid hW2
 clear hW2
 go_wp2_with fail
 clear hr2
 go_region_law (refine F8 rfl _ _ 32 32 rfl (.slice (some ⟨p,(i+1) * 5,none⟩) (n+1 - (i+1)) (G - (i+1))) (.slice (some ⟨g,i * 5,none⟩) (n - i) (c - i)) (by simp [Act.eval,Act.put]) (by simp [Act.eval,Act.put]) (goInt (n - i:Nat)) _ (HA3.out _ HW2.out 3 (G - (i+1)) (c - i)) ?_;intro W3 HW3)
 all_goals (
  go_wp2
  go_ret
  refine ⟨_,rfl,?_,?_⟩
  ·rw [←HE.out]
   exact Aq HW3.out hB' (by rw [HE.out];exact HG.out.1) HG.out.2 HL3.out.1 (by rw [HE.out];exact HL3.out.2)
  ·exact (HW3.out.2).mono hB')
theorem sG (l:List Row) (x:Row) (i:Nat) (B g c:Nat) (cur:List Value) (vb:Nat) (w:World) (hi:i < l.length) (hl:l.length<=100000) (hBg:B<=g) (hne:vb ≠ g)
  (hg:w.heap[g]?=some (.cells cur.toArray TA (0,0))) (hc2:l.length+1<=c) (hcm:c<=maxLen) (hcs:cur.length=c * 5) (ht:cur.take (l.length * 5)=rcs l)
  (hx:w.heap[vb]?=some (.cells #[.string (mk x.who),.bool x.fam,.int .i64 x.year,.int .i64 x.de,.int .i64 x.oo] TA (0,0))) :
  Calls Tryz.prog 171 #[.slice (some ⟨g,0,none⟩) l.length c,.int .i64 (i:Nat),.slice (some ⟨vb,0,none⟩) 1 1] w fun e w'=>∃v',e=.returned v'/\Own B w' v' (l.take i ++ x :: l.drop i)/\Below B w w':=by
 obtain ⟨n,hn⟩:∃n,l.length=n:=⟨_,rfl⟩
 rw [hn] at hi hl hc2 ⊢
 obtain ⟨i0,hi0,hz0,hz1,hz2⟩:=rX
 have hil:(l.take i).length=i:=by rw [List.length_take];omega
 have hdl:(l.drop i).length=n - i:=by rw [List.length_drop,hn]
 have hLt:cur.take (i * 5)=rcs (l.take i):=by
  rw [Dn,←ht,List.take_take];congr 1;omega
 have hsz:∀w,(Go.sizeOf TA).run Tryz.prog w=.ok 5 w:=fun w=>by simp [sizeOf,typeInfo,hi0,hz1]
 have hov:∀lb cb,(callFunc 175 #[.slice (some ⟨vb,0,none⟩) 1 1,.slice (some ⟨g,(i+1) * 5,none⟩) lb cb]).run Tryz.prog w=.ok (.value (.bool false)) w:=fun lb cb=>by
  rw [run_callFunc_extern Tryz.func175 (by kernel_rfl) (by kernel_rfl) (by kernel_rfl) (e:=Extern.SlicesOverlaps.overlaps #[32,32] #[4]) (by kernel_rfl),
   Lib.run_overlaps_apart w 32 4 TA Tryz.underlying32 5 hsz ⟨vb,0,none⟩ ⟨g,(i+1) * 5,none⟩ 1 1 lb cb hne TA TA 5 (c * 5) (by simp [World.shape?,hx]) (by simp [World.shape?,hg,hcs]) (by omega) (Lib.frozen_of_heap hx _) (Lib.frozen_of_heap hx _)]
  rfl
 have HA2:Hid (∀ty dc sc,∃W2,(Builtin.copy_ #[32,32] ty #[.slice (some ⟨g,(i+1) * 5,none⟩) (n+1 - (i+1)) dc,.slice (some ⟨g,i * 5,none⟩) (n+1 - i) sc]).run Tryz.prog w.drew=.ok (goInt (n - i:Nat)) W2/\Lies g (spl cur ((i+1) * 5) (rcs (l.drop i))) B w W2):=fun ty dc sc =>
  l9 (W:=w.drew) ⟨hg,Below.drew (Below.refl B w)⟩ hBg ⟨g,i * 5,none⟩ ((i+1) * 5) (n+1 - (i+1)) dc (n+1 - i) sc (rcs (l.drop i)) (n - i) (by simp only [Nat.min_def];split<;>omega) (by rw [Dj,hdl]) (fun j u hj=>nH (W:=w.drew) hg ht i j u hj) (by rw [hcs,Dj,hdl];omega) (Dk _) ty
 have hL2:(spl cur ((i+1) * 5) (rcs (l.drop i))).length=c * 5:=by rw [FU _ _ _ (by rw [hcs,Dj,hdl];omega),hcs]
 have HA3:Hid (∀W2,Lies g (spl cur ((i+1) * 5) (rcs (l.drop i))) B w W2->W2.heap[vb]?=w.heap[vb]?->∀ty dc,∃W3,(Builtin.copy_ #[32,32] ty #[.slice (some ⟨g,i * 5,none⟩) (n+1 - i) dc,.slice (some ⟨vb,0,none⟩) 1 1]).run Tryz.prog W2=.ok (goInt 1) W3/\Lies g (spl (spl cur ((i+1) * 5) (rcs (l.drop i))) (i * 5) (rc x)) B w W3):=fun W2 h2 hk ty dc =>
  l9 h2 hBg ⟨vb,0,none⟩ (i * 5) (n+1 - i) dc 1 1 (rc x) 1 (by simp only [Nat.min_def];split<;>omega) rfl (C9 (hk.trans hx)) (by rw [hL2];simp only [rc,List.length_cons,List.length_nil];omega) (CZ x) ty
 have HL3:Hid ((spl (spl cur ((i+1) * 5) (rcs (l.drop i))) (i * 5) (rc x)).length=c * 5/\(spl (spl cur ((i+1) * 5) (rcs (l.drop i))) (i * 5) (rc x)).take ((n+1) * 5)=rcs (l.take i ++ x :: l.drop i)):=by
  refine ⟨by rw [FU _ _ _ (by rw [hL2];simp only [rc,List.length_cons,List.length_nil];omega),hL2],?_⟩
  rw [←rY]
  exact FV hLt (by simp only [rc,List.length_cons,List.length_nil];omega) (by rw [Dj,hdl];omega) (by rw [hcs];omega)
 have HE:Hid ((l.take i ++ x :: l.drop i).length=n+1):=by rw [←hn];exact sF l x i (by omega)
 have e1:¬ ((i:Int)=(n:Int)):=by omega
 have e1b:((i:Int) == (n:Int))=false:=by simp;omega
 have hc63:c<=9223372036854775807:=by unfold maxLen at hcm;exact hcm
 have e2:¬ ((c:Int) < (n:Int)+1):=by omega
 have e3:(i:Int)<=(n:Int):=by omega
 have e4:(i:Int)<=(c:Int):=by omega
 have e5:¬ (c=i):=by omega
 have e7:¬ (c=i+1):=by omega
 have e8:(i:Int)+1<=(n:Int)+1:=by omega
 have e9:(i:Int)<=(n:Int)+1:=by omega
 have e10:((i:Int)+1).toNat=i+1:=by omega
 have e10b:((n:Int)+1).toNat=n+1:=by omega
 have e11:(0:Int)<=(i:Int)+1:=by omega
 have e11b:(n:Int)+1<=(c:Int):=by omega
 have e12:IntKind.i64.wrap ((i:Int)+1)=(i:Int)+1:=by rw [IntKind.wrap_i64];omega
 have HC:=Lib.hid (And.intro hc2 hcm)
 obtain ⟨l2,Hl2⟩:∃l2,Hid (l.take i ++ x :: l.drop i=l2):=⟨_,(rfl:l.take i ++ x :: l.drop i=_)⟩
 rw [Hl2.out] at HL3 HE ⊢
 generalize spl (spl cur ((i+1) * 5) (rcs (l.drop i))) (i * 5) (rc x)=L3 at *
 have HVB:Hid (∀W2,(∃ty dc sc,(Builtin.copy_ #[32,32] ty #[.slice (some ⟨g,(i+1) * 5,none⟩) (n+1 - (i+1)) dc,.slice (some ⟨g,i * 5,none⟩) (n+1 - i) sc]).run Tryz.prog w.drew=.ok (goInt (n - i:Nat)) W2)->W2.heap[vb]?=w.heap[vb]?):=by
  rintro W2 ⟨ty,dc,sc,h⟩
  have hr:=Ee Tryz.prog w.drew 32 32 ty TA 5 g ((i+1) * 5) (n+1 - (i+1)) dc ⟨g,i * 5,none⟩ (n+1 - i) sc cur.toArray TA (rcs (l.drop i)) Tryz.underlying32 (by rw [hi0];simp [hz1]) hg (by rw [Dj,hdl];congr 1;simp only [Nat.min_def];split<;>omega) (fun j u hj=>nH (W:=w.drew) hg ht i j u hj) (by simp only [List.size_toArray];rw [hcs,Dj,hdl];omega) (Dk _)
  rw [hr] at h
  injection h with _ h
  rw [←h]
  exact setRow_other w.drew g vb _ hne
 have HA4:Hid (∀ty dc sc,∃W2,(Builtin.copy_ #[32,32] ty #[.slice (some ⟨g,(i+1) * 5,none⟩) (n+1 - (i+1)) dc,.slice (some ⟨g,i * 5,none⟩) (n+1 - i) sc]).run Tryz.prog w.drew=.ok (goInt (n - i:Nat)) W2/\(Lies g (spl cur ((i+1) * 5) (rcs (l.drop i))) B w W2/\W2.heap[vb]?=w.heap[vb]?)):=fun ty dc sc=>by
  obtain ⟨W2,h,hl⟩:=HA2.out ty dc sc
  exact ⟨W2,h,hl,HVB.out W2 ⟨ty,dc,sc,h⟩⟩
 clear hL2 hdl hLt Hl2 hil hi0 hz0 hz1 hz2 hsz hg hx ht hn hcs HA2 HVB
 generalize spl cur ((i+1) * 5) (rcs (l.drop i))=L2 at *
 go_enter Tryz.func171,Tryz.ntmps171
 go_wp2_with (simp only [hov])
 go_region_law (refine F8 rfl _ _ 32 32 rfl (.slice (some ⟨g,(i+1) * 5,none⟩) (n+1 - (i+1)) (c - (i+1))) (.slice (some ⟨g,i * 5,none⟩) (n+1 - i) (c - i)) (by simp [Act.eval,Act.put]) (by simp [Act.eval,Act.put]) (goInt (n - i:Nat)) _ (HA4.out 3 (c - (i+1)) (c - i)) ?_;intro W2 HW2)
 all_goals (
  obtain ⟨W3,hr3,hW3⟩:=HA3.out W2 HW2.out.1 HW2.out.2 3 (c - i)
  have HW3:=Lib.hid hW3
  clear hW3
  go_wp2
  go_ret
  refine ⟨_,rfl,?_,?_⟩
  ·rw [←HE.out]
   exact Aq HW3.out hBg (by rw [HE.out];exact HC.out.1) HC.out.2 HL3.out.1 (by rw [HE.out];exact HL3.out.2)
  ·exact HW3.out.2)
theorem sH (l:List Row) (x:Row) (i:Nat) (B:Nat) (v:Value) (vb:Nat) (w:World) (hown:Own B w v l) (hi:i<=l.length) (hl:l.length<=100000) (hB:B<=w.heap.size) (hne:v.ownBlock ≠ some vb)
  (hx:w.heap[vb]?=some (.cells #[.string (mk x.who),.bool x.fam,.int .i64 x.year,.int .i64 x.de,.int .i64 x.oo] TA (0,0))) :
  Calls Tryz.prog 171 #[v,.int .i64 (i:Nat),.slice (some ⟨vb,0,none⟩) 1 1] w fun e w'=>∃v',e=.returned v'/\Own B w' v' (l.take i ++ x :: l.drop i)/\Below B w w':=by
 rcases Nat.lt_or_ge i l.length with h|h
 ·rcases hown.2 with ⟨rfl,h0⟩|⟨g,cap,cur,rfl,hbg,hg,h1,h2,hs,ht⟩
  ·omega
  ·have hg':w.heap[g]?=some (.cells cur.toList.toArray TA (0,0)):=by rw [Array.toArray_toList];exact hg
   have hs':cur.toList.length=cap * 5:=by simpa using hs
   have hne':vb ≠ g:=fun e=>hne (by rw [e];rfl)
   rcases Nat.lt_or_ge cap (l.length+1) with hc|hc
   ·exact su l x i B g cap cur.toList vb w h hl hB hg' h1 hc ht hx
   ·exact sG l x i B g cap cur.toList vb w h hl hbg hne' hg' hc h2 hs' ht hx
 ·have e:i=l.length:=by omega
  subst e
  rw [List.take_of_length_le (Nat.le_refl _),List.drop_eq_nil_of_le (Nat.le_refl _)]
  exact rZ l x B v vb w hown hl hB hx
end Go.Proofs.YtfbfeoplldjbpaaGreatDoor.Ac
end
