/-
  Texts put together (merge.py): YMem, YCmp, RInvB.
-/
import Derived.Test.YtfbfeoplldjbpaaGreatDoorMd5
set_option linter.unusedSimpArgs false
set_option linter.unusedVariables false
set_option maxHeartbeats 16000000
set_option maxRecDepth 100000
namespace Go.Proofs.YtfbfeoplldjbpaaGreatDoor
namespace Ac
open Go.RowKit
theorem tV {w w':World} {q:Nat} {o:Obj} (h:w.heap[q]?=some o) (hb:Below w.heap.size w w'):w'.heap[q]?=some o:=by
 rw [hb.block q (Array.getElem?_eq_some_iff.1 h).1];exact h
theorem qL {w:World} {b q j:Nat} {o:Obj} {u:Value} (h:w.heap[b]?=some o) (hne:b ≠ q):(w.setCell ⟨q,j,none⟩ u).heap[b]?=some o:=by
 rw [Below.heap_setCell _ _ _ _ hne];exact h
theorem iU (w:World) (o:Obj):Below w.heap.size w (w.alloc o):=(Below.refl _ w).alloc (Nat.le_refl _) o
theorem jg {a b c:World} (h:Below a.heap.size a b) (k:Below b.heap.size b c):Below a.heap.size a c:=h.trans (k.mono h.size)
theorem jf {w a b:World} {p:Nat} (hp:w.heap.size=p) (h:Below p w a) (k:Below a.heap.size a b):Below p w b:=by subst hp;exact jg h k
theorem fK (w:World) (cs:Array Value) (t:TypeId):(w.alloc (.cells cs t)).heap[w.heap.size]?=some (.cells cs t (0,0)):=heap_alloc_new w _
def rc (f:Row):List Value:=[sS f.who,.bool f.Br,iI f.year,iI f.de,iI f.oo]
abbrev rwv (f:Row):Value:=.agg #[sS f.who,.bool f.Br,iI f.year,iI f.de,iI f.oo]
def rcs:List Row->List Value
 | []=>[]
 | f :: r=>sS f.who :: .bool f.Br :: iI f.year :: iI f.de :: iI f.oo :: rcs r
theorem Dh (f:Row) (r:List Row):rcs (f :: r)=rc f ++ rcs r:=rfl
theorem Dc (a b:List Row):rcs (a ++ b)=rcs a ++ rcs b:=by induction a<;>simp_all [rcs]
theorem Dj (a:List Row):(rcs a).length=a.length * 5:=by induction a<;>simp_all [rcs];omega
theorem Df:∀(a:List Row) (j:Nat) (x:Row),a[j]?=some x->∀i,i < 5->(rcs a)[j * 5+i]?=(rc x)[i]?
 | [],j,x,h,_,_=>by simp at h
 | y :: r,0,x,h,i,hi=>by
  simp at h;subst h;match i,hi with
  | 0,_=>rfl
  | 1,_=>rfl
  | 2,_=>rfl
  | 3,_=>rfl
  | 4,_=>rfl
 | y :: r,j+1,x,h,i,hi=>by
  have:=Df r j x (by simpa using h) i hi;rw [show (j+1) * 5+i=(j * 5+i)+5 by omega];simpa [rcs] using this
theorem Dk:∀(a:List Row),∀u ∈ rcs a,u.oneCell'=true
 | [],u,h=>by simp [rcs] at h
 | f :: r,u,h=>by
  have ih:=Dk r;simp only [rcs,List.mem_cons] at h;rcases h with rfl|rfl|rfl|rfl|rfl|h
  all_goals first|rfl|exact ih u h
theorem Dn (l:List Row) (i:Nat):rcs (l.take i)=(rcs l).take (i * 5):=by
 rcases Nat.lt_or_ge i l.length with h|h
 ·have e:rcs l=rcs (l.take i) ++ rcs (l.drop i):=by rw [←Dc,List.take_append_drop]
  have hl:(rcs (l.take i)).length=i * 5:=by rw [Dj,List.length_take];congr 1;omega
  rw [e,List.take_left' hl]
 ·rw [List.take_of_length_le h,List.take_of_length_le (by rw [Dj];exact Nat.mul_le_mul_right _ h)]
theorem Di (l:List Row) (i:Nat):rcs (l.drop i)=(rcs l).drop (i * 5):=by
 rcases Nat.lt_or_ge i l.length with h|h
 ·have e:rcs l=rcs (l.take i) ++ rcs (l.drop i):=by rw [←Dc,List.take_append_drop]
  have hl:(rcs (l.take i)).length=i * 5:=by rw [Dj,List.length_take];congr 1;omega
  rw [e,List.drop_left' hl]
 ·rw [List.drop_eq_nil_of_le h,List.drop_eq_nil_of_le (by rw [Dj];exact Nat.mul_le_mul_right _ h)];rfl
def bZ (w:World) (b o:Nat) (f:Row):Prop:=
 w.cell? ⟨b,o,none⟩=some (sS f.who)/\w.cell? ⟨b,o+1,none⟩=some (.bool f.Br)/\w.cell? ⟨b,o+2,none⟩=some (iI f.year)/\w.cell? ⟨b,o+3,none⟩=some (iI f.de)/\w.cell? ⟨b,o+4,none⟩=some (iI f.oo)
theorem bZ.of {w w':World} {b o:Nat} {x:Row} (h:bZ w b o x) (he:w'.heap[b]?=w.heap[b]?):bZ w' b o x:=by
 obtain ⟨h0,h1,h2,h3,h4⟩:=h;refine ⟨?_,?_,?_,?_,?_⟩<;>rw [World.cell?_of_block (w:=w) he]<;>assumption
def cu (K:Nat->Prop) (w:World) (v:Value) (l:List Row):Prop:=
 ∃a c,v=.slice a l.length c/\l.length<=c/\c<=maxLen/\(l=[] ∨ ∃b o,a=some ⟨b,o,none⟩/\K b/\b < w.heap.size/\∀(j:Nat) x,l[j]?=some x->bZ w b (o+j * 5) x)
theorem cu.move {K K':Nat->Prop} {w w':World} {v:Value} {l:List Row} (h:cu K w v l) (hm:Moves K K' w w'):cu K' w' v l:=by
 obtain ⟨a,c,rfl,h1,h2,h3⟩:=h;refine ⟨a,c,rfl,h1,h2,h3.imp id ?_⟩;rintro ⟨b,o,rfl,hk,hb,hc⟩;obtain ⟨k',hh⟩:=hm.2 b hb hk;exact ⟨b,o,rfl,k',Nat.lt_of_lt_of_le hb hm.1,fun j x hj=>(hc j x hj).of hh⟩
theorem cu.Bu {w w':World} {v:Value} {l:List Row} (h:cu All w v l) (hb:Below w.heap.size w w'):cu All w' v l:=h.move (Below.moves hb)
theorem cu.all {K:Nat->Prop} {w:World} {v:Value} {l:List Row} (h:cu K w v l):cu All w v l:=h.move (yw w fun _ _ _=>trivial)
theorem cu.nil (K:Nat->Prop) (w:World):cu K w (.slice none 0 0) []:=⟨none,0,rfl,by simp,by simp [maxLen],Or.inl rfl⟩
theorem cu.form {K:Nat->Prop} {w:World} {v:Value} {xs:List Row} (h:cu K w v xs):∃a c,v=.slice a xs.length c/\xs.length<=c/\c<=9223372036854775807:=by
 obtain ⟨a,c,rfl,h1,h2,_⟩:=h;exact ⟨a,c,rfl,h1,by unfold maxLen at h2;exact h2⟩
theorem cu.get {K:Nat->Prop} {w:World} {a:Option Addr} {n c:Nat} {ls:List Row} (h:cu K w (.slice a n c) ls) (k:Nat) (hk:k < ls.length) :
  ∃b o,a=some ⟨b,o,none⟩/\b < w.heap.size/\ls[k]?=some ls[k]/\bZ w b (o+k * 5) ls[k]:=by
 obtain ⟨a',c',he,h1,h2,h3⟩:=h;have ha:a=a':=by injection he
 subst ha;rcases h3 with h|⟨b,o,ha,_,hb,hc⟩
 ·subst h;simp at hk
 ·have hx:=List.getElem?_eq_getElem hk;exact ⟨b,o,ha,hb,hx,hc k _ hx⟩
theorem jZ {l:List Row} {w:World} {b oo n c:Nat} (h:cu All w (.slice (some ⟨b,oo,none⟩) n c) l) (t:Nat) (ht:t < l.length):bZ w b (oo+t * 5) l[t]:=by
 obtain ⟨b1,o1,e1,-,-,c1⟩:=cu.get h t ht;simp only [Option.some.injEq,Addr.mk.injEq,and_true] at e1;obtain ⟨rfl,rfl⟩:=e1;exact c1
abbrev TA:TypeId:=50
def Own (B:Nat) (w:World) (v:Value) (l:List Row):Prop:=w.ownsRow B TA 5 v l.length (rcs l)
theorem Eo {K:Nat->Prop} {w:World} {base:Nat} {v:Value} {l:List Row} (h:Own base w v l) (hK:∀b,base<=b->K b):cu K w v l:=by
 obtain ⟨hl,h⟩:=h;rcases h with ⟨rfl,h0⟩|⟨g,cap,cur,rfl,hbg,hg,h1,h2,hs,ht⟩
 ·obtain rfl:=List.length_eq_zero_iff.1 h0;exact cu.nil _ _
 ·refine ⟨_,cap,rfl,h1,h2,Or.inr ⟨g,0,rfl,hK g hbg,(Array.getElem?_eq_some_iff.1 hg).1,fun j x hj=>?_⟩⟩;have hjl:j < l.length:=(List.getElem?_eq_some_iff.1 hj).1;have e:∀i,i < 5->w.cell? ⟨g,0+j * 5+i,none⟩=(rc x)[i]?:=fun i hi=>by
   have q:=Df l j x hj i hi;rw [←ht,List.getElem?_take,if_pos (by omega)] at q;rw [cell_of_row w g _ cur _ (0,0) hg,Nat.zero_add];simpa using q
  exact ⟨e 0 (by omega),e 1 (by omega),e 2 (by omega),e 3 (by omega),e 4 (by omega)⟩
theorem rX:∃i,Tryz.prog.info? TA=some i/\i.zero=some (.agg #[.string ByteArray.empty,.bool false,iI 0,iI 0,iI 0])/\i.size=5/\i.bytes=48:=by
 have hi:(Tryz.prog.info? TA).map (fun i=>(i.zero,i.size,i.bytes))=some (some (.agg #[.string ByteArray.empty,.bool false,iI 0,iI 0,iI 0]),5,48):=by kernel_rfl
 cases hq:Tryz.prog.info? TA with
 | none=>rw [hq] at hi;cases hi
 | some i =>
  rw [hq] at hi;simp only [Option.map_some,Option.some.injEq,Prod.mk.injEq] at hi;exact ⟨i,rfl,hi⟩
theorem IQ {o:Oper} {a:Act} {w:World} {K:Act->World->Prop} {Q:Exit->Act->World->Prop} (s x:Operand) (ho:o.op=.call { callee:=.builtin .append,args:=#[s,x],argTypes:=#[32,32] })
  (B:Nat) (v:Value) (L:List Row) (hs:a.eval s=v) (hown:Own B w v L) (b c:Nat) (f:Row) (hx:a.eval x=.slice (some ⟨b,0,none⟩) 1 c)
  (hc:w.heap[b]?=some (.cells #[sS f.who,.bool f.Br,iI f.year,iI f.de,iI f.oo] TA (0,0))) (hbd:L.length<=1000000) (hB:B<=w.heap.size)
  (h:∀v' w',Own B w' v' (L ++ [f])->w.grownBy w' v.ownBlock->(v'.ownBlock=v.ownBlock ∨ v'.ownBlock=some w.heap.size)->K (a.put o.dst v') w'):o.wp Tryz.prog a w K Q:=by
 obtain ⟨i,q1,q2,q3,q4⟩:=rX;have hb0:b < w.heap.size:=(Array.getElem?_eq_some_iff.1 hc).1;refine wp_append_lies w s x 32 ho B TA i _ 5 48 Tryz.underlying32 q1 q2 q3 q4 rfl (by omega) v L.length (rcs L) hs hown ⟨b,0,none⟩ 1 c (rc f) hx rfl (fun j u hj=>?_) (fun u hu=>Dk [f] u (by simpa [rcs,rc] using hu)) (by omega) (by unfold maxLen;omega) (by omega) hB w.heap.size rfl fun g cap w' hown' hg hat _=>?_
 ·rw [show (⟨b,0,none⟩:Addr).add j=⟨b,j,none⟩ by unfold Addr.add;split<;>simp_all];rw [cell_of_row w b j _ _ (0,0) hc];match j,hj with
  | 0,hj=>exact hj
  | 1,hj=>exact hj
  | 2,hj=>exact hj
  | 3,hj=>exact hj
  | 4,hj=>exact hj
  | n+5,hj=>simp [rc] at hj
 ·refine h _ w' (by unfold Own;rw [Dc,List.length_append];exact hown') hg ?_;rcases hat with e|e
  ·exact Or.inl (by rw [e];rfl)
  ·exact Or.inr (by rw [e];rfl)
theorem Am {w:World} {B:Nat} {v:Value} {l:List Row} (h:Own B w v l):∃a c,v=.slice a l.length c/\l.length<=c/\c<=9223372036854775807:=(Eo (K:=All) h fun _ _=>trivial).form
theorem Ak {w w':World} {B:Nat} {v:Value} {l:List Row} (h:Own B w v l) (hb:Below w.heap.size w w'):Own B w' v l:=by
 refine ⟨h.1,h.2.imp id ?_⟩;rintro ⟨g,c,cur,rfl,h0,hh,hr⟩;exact ⟨g,c,cur,rfl,h0,tV hh hb,hr⟩
theorem qo {w w':World} {B:Nat} {v:Value} {l:List Row} (ho:Own B w v l) (hg:w.grownBy w' v.ownBlock) (hB:B<=w.heap.size):Below B w w':=
 ⟨hg.os,hg.tape,hg.output,hg.size,fun k hk=>hg.block k (by omega) (fun e=>by have:=(ho.lt k e.symm).1;omega)⟩
theorem Ap (B:Nat) (w:World):Own B w (.slice none 0 0) []:=⟨rfl,Or.inl ⟨rfl,rfl⟩⟩
def av (w w':World):Prop:=Below w.heap.size w w'/\w.drawn<=w'.drawn
theorem cells3 {w:World} {g:Nat} {a b c:Value} {T:TypeId} (h:w.heap[g]?=some (.cells #[a,b,c] T (0,0))):w.cell? ⟨g,0,none⟩=some a/\w.cell? ⟨g,1,none⟩=some b/\w.cell? ⟨g,2,none⟩=some c:=by
 refine ⟨?_,?_,?_⟩<;>(rw [cell_of_row w g _ _ T (0,0) h];rfl)
theorem cells5 {w:World} {g:Nat} {a b c d e:Value} {T:TypeId} (h:w.heap[g]?=some (.cells #[a,b,c,d,e] T (0,0))):w.cell? ⟨g,0,none⟩=some a/\w.cell? ⟨g,1,none⟩=some b/\w.cell? ⟨g,2,none⟩=some c/\w.cell? ⟨g,3,none⟩=some d/\w.cell? ⟨g,4,none⟩=some e:=by
 refine ⟨?_,?_,?_,?_,?_⟩<;>(rw [cell_of_row w g _ _ T (0,0) h];rfl)
theorem pO {w:World} {g:Nat} {a b c d e:Value} {T:TypeId} (h:w.heap[g]?=some (.cells #[a,b,c,d,e] T (0,0))):w.frozen? ⟨g,0,none⟩=false/\w.frozen? ⟨g,1,none⟩=false/\w.frozen? ⟨g,2,none⟩=false/\w.frozen? ⟨g,3,none⟩=false/\w.frozen? ⟨g,4,none⟩=false:=by
 refine ⟨?_,?_,?_,?_,?_⟩<;>exact Lib.frozen_of_heap h _
theorem heap_set {w:World} {b:Nat} {cs:Array Value} {t:TypeId} (h:w.heap[b]?=some (.cells cs t (0,0))) (j:Nat) (u:Value):(w.setCell ⟨b,j,none⟩ u).heap[b]?=some (.cells (cs.setIfInBounds j u) t (0,0)):=by
 simp [World.setCell,Array.getElem?_modify,h]
theorem BO {w:World} {b:Nat} {a0 a1 a2 a3 a4 b0 b1 b2 b3 b4:Value} {T:TypeId} (h:w.heap[b]?=some (.cells #[a0,a1,a2,a3,a4] T (0,0))) :
  (((((w.setCell ⟨b,0,none⟩ b0).setCell ⟨b,1,none⟩ b1).setCell ⟨b,2,none⟩ b2).setCell ⟨b,3,none⟩ b3).setCell ⟨b,4,none⟩ b4).heap[b]?=some (.cells #[b0,b1,b2,b3,b4] T (0,0)):=by
 have h0:(w.setCell ⟨b,0,none⟩ b0).heap[b]?=some (.cells #[b0,a1,a2,a3,a4] T (0,0)):=by rw [heap_set h];rfl
 have h1:((w.setCell ⟨b,0,none⟩ b0).setCell ⟨b,1,none⟩ b1).heap[b]?=some (.cells #[b0,b1,a2,a3,a4] T (0,0)):=by rw [heap_set h0];rfl
 have h2:(((w.setCell ⟨b,0,none⟩ b0).setCell ⟨b,1,none⟩ b1).setCell ⟨b,2,none⟩ b2).heap[b]?=some (.cells #[b0,b1,b2,a3,a4] T (0,0)):=by rw [heap_set h1];rfl
 have h3:((((w.setCell ⟨b,0,none⟩ b0).setCell ⟨b,1,none⟩ b1).setCell ⟨b,2,none⟩ b2).setCell ⟨b,3,none⟩ b3).heap[b]?=some (.cells #[b0,b1,b2,b3,a4] T (0,0)):=by rw [heap_set h2];rfl
 rw [heap_set h3];rfl
theorem BN {p:Nat} {w W:World} (h:Below p w W) (b:Nat) (hb:p<=b) (a0 a1 a2 a3 a4:Value):Below p w (((((W.setCell ⟨b,0,none⟩ a0).setCell ⟨b,1,none⟩ a1).setCell ⟨b,2,none⟩ a2).setCell ⟨b,3,none⟩ a3).setCell ⟨b,4,none⟩ a4):=
 ((((h.setCell (p:=⟨b,0,none⟩) hb a0).setCell (p:=⟨b,1,none⟩) hb a1).setCell (p:=⟨b,2,none⟩) hb a2).setCell (p:=⟨b,3,none⟩) hb a3).setCell (p:=⟨b,4,none⟩) hb a4
end Ac
namespace Ac
open Go.RowKit
theorem xJ (x:Tx):(mk x).toList=x:=by rw [Lib.toList_data,xI]
theorem xH (x y:Tx):((mk x).toList == (mk y).toList)=decide (x=y):=by
 rw [xJ,xJ,Bool.eq_iff_iff];simp
theorem lC (a b:Int) (w:World):Calls Tryz.prog 78 #[iI a,iI b] w fun e w'=>e=.returned (iI (lg a b))/\w'=w:=by
 by_cases h0:a=b
 ·have e:lg a b=0:=if_pos h0;have hb:(a == b)=true:=by simp [h0]
  rw [e];clear h0 e;go_enter Tryz.func78,Tryz.ntmps78
  go_wp2;go_ret;exact ⟨rfl,rfl⟩
 ·have hb:(a == b)=false:=by simp [h0]
  by_cases h1:a < b
  ·have e:lg a b=-1:=by unfold lg;rw [if_neg h0,if_pos h1]
   rw [e];clear h0 e;go_enter Tryz.func78,Tryz.ntmps78
   go_wp2;go_ret;exact ⟨rfl,rfl⟩
  ·have e:lg a b=1:=by unfold lg;rw [if_neg h0,if_neg h1]
   rw [e];clear h0 e;go_enter Tryz.func78,Tryz.ntmps78
   go_wp2;go_ret;exact ⟨rfl,rfl⟩
theorem lD (a b:Tx) (w:World):Calls Tryz.prog 80 #[.string (mk a),.string (mk b)] w fun e w'=>e=.returned (iI (kW a b))/\w'=w:=by
 have HE:=xH a b;by_cases he:a=b
 ·have e:kW a b=0:=if_pos he;have h3:((mk a).toList == (mk b).toList)=true:=by rw [HE];exact decide_eq_true he
  rw [e];clear HE he e;go_enter Tryz.func80,Tryz.ntmps80
  go_wp2;go_ret;exact ⟨rfl,rfl⟩
 ·have h3:((mk a).toList == (mk b).toList)=false:=by rw [HE];exact decide_eq_false he
  cases h1:Op.bytesLess (mk a).toList (mk b).toList
  ·have l1:uY a b=false:=by rw [xJ,xJ] at h1;exact h1
   have e:kW a b=1:=by unfold kW;rw [if_neg he,l1];rfl
   rw [e];clear HE he e l1;go_enter Tryz.func80,Tryz.ntmps80
   go_wp2;go_ret;exact ⟨rfl,rfl⟩
  ·have l1:uY a b=true:=by rw [xJ,xJ] at h1;exact h1
   have e:kW a b=-1:=by unfold kW;rw [if_neg he,l1];rfl
   rw [e];clear HE he e l1;go_enter Tryz.func80,Tryz.ntmps80
   go_wp2;go_ret;exact ⟨rfl,rfl⟩
theorem CW (a:Row) (w:World):Calls Tryz.prog 79 #[rwv a] w fun e w'=>e=.returned (iI (CV a))/\Below w.heap.size w w':=by
 cases h:a.Br with
 | true =>
  have e:CV a=1:=by unfold CV;rw [h];rfl
  rw [e];clear e;unfold rwv;rw [h];go_enter Tryz.func79,Tryz.ntmps79
  go_wp2;go_ret;exact ⟨rfl,iU _ _⟩
 | false =>
  have e:CV a=0:=by unfold CV;rw [h];rfl
  rw [e];clear e;unfold rwv;rw [h];go_enter Tryz.func79,Tryz.ntmps79
  go_wp2;go_ret;exact ⟨rfl,iU _ _⟩
theorem zB (a b c:Int) (g:Nat) (w:World) (T:TypeId) (h:w.heap[g]?=some (.cells #[iI a,iI b,iI c] T (0,0))) :
  Calls Tryz.prog 77 #[.slice (some ⟨g,0,none⟩) 3 3] w fun e w'=>e=.returned (iI (orI a (orI b c)))/\w'=w:=by
 obtain ⟨c0,c1,c2⟩:=cells3 h;clear h;by_cases ha:a=0
 ·subst ha;by_cases hb:b=0
  ·subst hb;have e:orI 0 (orI 0 c)=c:=rfl;rw [e];by_cases hc:c=0
   ·subst hc;go_enter Tryz.func77,Tryz.ntmps77
    go_wp2;go_rounds 4
    go_ret;exact ⟨rfl,rfl⟩
   ·have hc':(c != 0)=true:=by simp [hc]
    go_enter Tryz.func77,Tryz.ntmps77
    go_wp2;go_rounds 3
    go_ret;exact ⟨rfl,rfl⟩
  ·have e:orI 0 (orI b c)=b:=by rw [zA,zy _ hb]
   rw [e];have hb':(b != 0)=true:=by simp [hb]
   go_enter Tryz.func77,Tryz.ntmps77
   go_wp2;go_rounds 2
   go_ret;exact ⟨rfl,rfl⟩
 ·have e:orI a (orI b c)=a:=zy _ ha;rw [e];have ha':(a != 0)=true:=by simp [ha]
  go_enter Tryz.func77,Tryz.ntmps77
  go_wp2;go_rounds 1
  go_ret;exact ⟨rfl,rfl⟩
theorem zI (a b:Row) (w:World):Calls Tryz.prog 43 #[rwv a,rwv b] w fun e w'=>e=.returned (iI (zC a b))/\Below w.heap.size w w':=by
 have HG0:Hid (Below w.heap.size w ((w.alloc (.cells #[.string (mk a.who),.bool a.Br,iI a.year,iI a.de,iI a.oo] TA)).alloc (.cells #[.string (mk b.who),.bool b.Br,iI b.year,iI b.de,iI b.oo] TA))):=jg (iU _ _) (iU _ _);have HA0:=zZ (tV (heap_alloc_new w (.cells #[.string (mk a.who),.bool a.Br,iI a.year,iI a.de,iI a.oo] TA)) (iU _ (.cells #[.string (mk b.who),.bool b.Br,iI b.year,iI b.de,iI b.oo] TA)));have hB0:=heap_alloc_new (w.alloc (.cells #[.string (mk a.who),.bool a.Br,iI a.year,iI a.de,iI a.oo] TA)) (.cells #[.string (mk b.who),.bool b.Br,iI b.year,iI b.de,iI b.oo] TA);rw [show (w.alloc (.cells #[.string (mk a.who),.bool a.Br,iI a.year,iI a.de,iI a.oo] TA)).heap.size=w.heap.size+1 by simp] at hB0;have HB0:=zZ hB0;clear hB0;go_enter Tryz.func43,Tryz.ntmps43
 go_upto_region 1 with fail
 generalize ((w.alloc (.cells #[.string (mk a.who),.bool a.Br,iI a.year,iI a.de,iI a.oo] TA)).alloc (.cells #[.string (mk b.who),.bool b.Br,iI b.year,iI b.de,iI b.oo] TA))=W at *;generalize hp:w.heap.size=p at *;obtain ⟨q,hq⟩:∃q,q=p+1:=⟨_,rfl⟩;rw [←hq] at HB0 ⊢;clear hq;have HD:=zZ (Below.drew (Below.refl W.heap.size W));have HXA:=zZ fun W' (hW:Below W.heap.size W W')=>cells5 (tV HA0.out hW);have HXB:=zZ fun W' (hW:Below W.heap.size W W')=>cells5 (tV HB0.out hW);refine Ri.IX (by kernel_rfl) (by kernel_rfl) (by kernel_rfl) (fun Wx=>Below W.heap.size W Wx) (fun kz vs wz=>(fun kx vx wx=>match kx with|0=>vx=pP p 2|1=>vx=iI a.year|2=>vx=pP q 2|3=>vx=iI b.year|4=>vx=iI (lg a.year b.year)|5=>vx=rwv a|6=>vx=iI (CV a)|7=>vx=rwv b|8=>vx=iI (CV b)|9=>vx=iI (lg (CV a) (CV b))|10=>vx=pP p 0|11=>vx=.string (mk a.who)|12=>vx=pP q 0|13=>vx=.string (mk b.who)|14=>vx=iI (kW a.who b.who)|15=>(∃g,vx=.slice (some ⟨g,0,none⟩) 3 3/\wx.heap[g]?=some (.cells #[iI (lg a.year b.year),iI (lg (CV a) (CV b)),iI (kW a.who b.who)] 3 (0,0)))|16=>vx=iI (zC a b)|17=>vx=iI (zC a b)|_=>True:Nat->Value->World->Prop) kz (vs kz) wz) (fun kz=>[kz]) (by kernel_rfl) (fun jz vs iz vz wz hiz hz=>Ri.wI (F:=(fun kx vx wx=>match kx with|0=>vx=pP p 2|1=>vx=iI a.year|2=>vx=pP q 2|3=>vx=iI b.year|4=>vx=iI (lg a.year b.year)|5=>vx=rwv a|6=>vx=iI (CV a)|7=>vx=rwv b|8=>vx=iI (CV b)|9=>vx=iI (lg (CV a) (CV b))|10=>vx=pP p 0|11=>vx=.string (mk a.who)|12=>vx=pP q 0|13=>vx=.string (mk b.who)|14=>vx=iI (kW a.who b.who)|15=>(∃g,vx=.slice (some ⟨g,0,none⟩) 3 3/\wx.heap[g]?=some (.cells #[iI (lg a.year b.year),iI (lg (CV a) (CV b)),iI (kW a.who b.who)] 3 (0,0)))|16=>vx=iI (zC a b)|17=>vx=iI (zC a b)|_=>True:Nat->Value->World->Prop)) jz vs iz vz wz hiz hz) HD.out ⟨⟨rfl,?_⟩,⟨rfl,?_⟩,⟨rfl,?_⟩,⟨rfl,?_⟩,⟨rfl,?_⟩,⟨rfl,?_⟩,⟨rfl,?_⟩,⟨rfl,?_⟩,⟨rfl,?_⟩,⟨rfl,?_⟩,⟨rfl,?_⟩,⟨rfl,?_⟩,⟨rfl,?_⟩,⟨rfl,?_⟩,⟨rfl,?_⟩,⟨rfl,?_⟩,⟨rfl,?_⟩,⟨rfl,?_⟩,trivial⟩ ?_
 ·intro vs Wx A hA hB hpre K hK;have e2:=(hA 2).trans (show _=pP p 0 by kernel_rfl);clear hA hpre;go_simp;exact hK _ _ hB rfl (fun _ _ h=>h)
 ·intro vs Wx A hA hB hpre K hK;have e5:=tT (hA 5) (by kernel_rfl) (hpre.1 rfl);obtain ⟨x0,x1,x2,x3,x4⟩:=HXA.out Wx hB;obtain ⟨y0,y1,y2,y3,y4⟩:=HXB.out Wx hB;clear hA hpre;go_simp;exact hK _ _ hB rfl (fun _ _ h=>h)
 ·intro vs Wx A hA hB hpre K hK;have e3:=(hA 3).trans (show _=pP q 0 by kernel_rfl);clear hA hpre;go_simp;exact hK _ _ hB rfl (fun _ _ h=>h)
 ·intro vs Wx A hA hB hpre K hK;have e7:=tT (hA 7) (by kernel_rfl) (hpre.1 rfl);obtain ⟨x0,x1,x2,x3,x4⟩:=HXA.out Wx hB;obtain ⟨y0,y1,y2,y3,y4⟩:=HXB.out Wx hB;clear hA hpre;go_simp;exact hK _ _ hB rfl (fun _ _ h=>h)
 ·intro vs Wx A hA hB hpre K hK;have e6:=tT (hA 6) (by kernel_rfl) (hpre.1 rfl);have e8:=tT (hA 8) (by kernel_rfl) (hpre.2.1 rfl);clear hA hpre;go_simp;go_at_call 78
  refine (lC _ _ _).mono ?_;rintro e w3 ⟨rfl,rfl⟩;exact hK _ _ hB rfl (fun _ _ h=>h)
 ·intro vs Wx A hA hB hpre K hK;have e2:=(hA 2).trans (show _=pP p 0 by kernel_rfl);obtain ⟨x0,x1,x2,x3,x4⟩:=HXA.out Wx hB;obtain ⟨y0,y1,y2,y3,y4⟩:=HXB.out Wx hB;clear hA hpre;go_simp;exact hK _ _ hB rfl (fun _ _ h=>h)
 ·intro vs Wx A hA hB hpre K hK;have e10:=tT (hA 10) (by kernel_rfl) (hpre.1 rfl);clear hA hpre;go_simp;go_at_call 79
  refine (CW a _).mono ?_;rintro e w3 ⟨rfl,hg⟩;refine hK _ _ (jg hB hg) rfl (fun jz hj hz=>?_);match jz,hj,hz with
  | 0,_,hz=>exact hz
  | 1,_,hz=>exact hz
  | 2,_,hz=>exact hz
  | 3,_,hz=>exact hz
  | 4,_,hz=>exact hz
  | 5,_,hz=>exact hz
  | 6,_,hz=>exact hz
  | 7,_,hz=>exact hz
  | 8,_,hz=>exact hz
  | 9,_,hz=>exact hz
  | 10,_,hz=>exact hz
  | 11,_,hz=>exact hz
  | 12,_,hz=>exact hz
  | 13,_,hz=>exact hz
  | 14,_,hz=>exact hz
  | 15,_,hz=>exact (by obtain ⟨g,h1,h2⟩:=hz;exact ⟨g,h1,tV h2 hg⟩)
  | 16,_,hz=>exact hz
  | 17,_,hz=>exact hz
  | n+18,_,hz=>exact hz
 ·intro vs Wx A hA hB hpre K hK;have e3:=(hA 3).trans (show _=pP q 0 by kernel_rfl);obtain ⟨x0,x1,x2,x3,x4⟩:=HXA.out Wx hB;obtain ⟨y0,y1,y2,y3,y4⟩:=HXB.out Wx hB;clear hA hpre;go_simp;exact hK _ _ hB rfl (fun _ _ h=>h)
 ·intro vs Wx A hA hB hpre K hK;have e12:=tT (hA 12) (by kernel_rfl) (hpre.1 rfl);clear hA hpre;go_simp;go_at_call 79
  refine (CW b _).mono ?_;rintro e w3 ⟨rfl,hg⟩;refine hK _ _ (jg hB hg) rfl (fun jz hj hz=>?_);match jz,hj,hz with
  | 0,_,hz=>exact hz
  | 1,_,hz=>exact hz
  | 2,_,hz=>exact hz
  | 3,_,hz=>exact hz
  | 4,_,hz=>exact hz
  | 5,_,hz=>exact hz
  | 6,_,hz=>exact hz
  | 7,_,hz=>exact hz
  | 8,_,hz=>exact hz
  | 9,_,hz=>exact hz
  | 10,_,hz=>exact hz
  | 11,_,hz=>exact hz
  | 12,_,hz=>exact hz
  | 13,_,hz=>exact hz
  | 14,_,hz=>exact hz
  | 15,_,hz=>exact (by obtain ⟨g,h1,h2⟩:=hz;exact ⟨g,h1,tV h2 hg⟩)
  | 16,_,hz=>exact hz
  | 17,_,hz=>exact hz
  | n+18,_,hz=>exact hz
 ·intro vs Wx A hA hB hpre K hK;have e11:=tT (hA 11) (by kernel_rfl) (hpre.1 rfl);have e13:=tT (hA 13) (by kernel_rfl) (hpre.2.1 rfl);clear hA hpre;go_simp;go_at_call 78
  refine (lC _ _ _).mono ?_;rintro e w3 ⟨rfl,rfl⟩;exact hK _ _ hB rfl (fun _ _ h=>h)
 ·intro vs Wx A hA hB hpre K hK;have e2:=(hA 2).trans (show _=pP p 0 by kernel_rfl);clear hA hpre;go_simp;exact hK _ _ hB rfl (fun _ _ h=>h)
 ·intro vs Wx A hA hB hpre K hK;have e15:=tT (hA 15) (by kernel_rfl) (hpre.1 rfl);obtain ⟨x0,x1,x2,x3,x4⟩:=HXA.out Wx hB;obtain ⟨y0,y1,y2,y3,y4⟩:=HXB.out Wx hB;clear hA hpre;go_simp;exact hK _ _ hB rfl (fun _ _ h=>h)
 ·intro vs Wx A hA hB hpre K hK;have e3:=(hA 3).trans (show _=pP q 0 by kernel_rfl);clear hA hpre;go_simp;exact hK _ _ hB rfl (fun _ _ h=>h)
 ·intro vs Wx A hA hB hpre K hK;have e17:=tT (hA 17) (by kernel_rfl) (hpre.1 rfl);obtain ⟨x0,x1,x2,x3,x4⟩:=HXA.out Wx hB;obtain ⟨y0,y1,y2,y3,y4⟩:=HXB.out Wx hB;clear hA hpre;go_simp;exact hK _ _ hB rfl (fun _ _ h=>h)
 ·intro vs Wx A hA hB hpre K hK;have e16:=tT (hA 16) (by kernel_rfl) (hpre.1 rfl);have e18:=tT (hA 18) (by kernel_rfl) (hpre.2.1 rfl);clear hA hpre;go_simp;go_at_call 80
  refine (lD _ _ _).mono ?_;rintro e w3 ⟨rfl,rfl⟩;exact hK _ _ hB rfl (fun _ _ h=>h)
 ·intro vs Wx A hA hB hpre K hK;have e9:=tT (hA 9) (by kernel_rfl) (hpre.1 rfl);have e14:=tT (hA 14) (by kernel_rfl) (hpre.2.1 rfl);have e19:=tT (hA 19) (by kernel_rfl) (hpre.2.2.1 rfl);clear hA hpre;go_simp;refine hK _ _ (jg hB (iU _ _)) ⟨_,rfl,heap_alloc_new Wx _⟩ (fun jz hj hz=>?_);match jz,hj,hz with
  | 0,_,hz=>exact hz
  | 1,_,hz=>exact hz
  | 2,_,hz=>exact hz
  | 3,_,hz=>exact hz
  | 4,_,hz=>exact hz
  | 5,_,hz=>exact hz
  | 6,_,hz=>exact hz
  | 7,_,hz=>exact hz
  | 8,_,hz=>exact hz
  | 9,_,hz=>exact hz
  | 10,_,hz=>exact hz
  | 11,_,hz=>exact hz
  | 12,_,hz=>exact hz
  | 13,_,hz=>exact hz
  | 14,_,hz=>exact hz
  | 15,hj,_=>exact absurd rfl hj
  | 16,_,hz=>exact hz
  | 17,_,hz=>exact hz
  | n+18,_,hz=>exact hz
 ·intro vs Wx A hA hB hpre K hK;have hx15:(∃g,vs 15=.slice (some ⟨g,0,none⟩) 3 3/\Wx.heap[g]?=some (.cells #[iI (lg a.year b.year),iI (lg (CV a) (CV b)),iI (kW a.who b.who)] 3 (0,0))):=hpre.1 rfl;obtain ⟨gx15,hv15,hh15⟩:=hx15;have e20:=((hA 20).trans (show _=vs 15 by kernel_rfl)).trans hv15;clear hA hpre;go_simp;go_at_call 77
  refine (zB _ _ _ _ _ _ hh15).mono ?_;rintro e w3 ⟨rfl,rfl⟩;exact hK _ _ hB rfl (fun _ _ h=>h)
 ·intro vs Wx A hA hB hpre K hK;have e21:=tT (hA 21) (by kernel_rfl) (hpre.1 rfl);clear hA hpre;go_simp;exact hK _ _ hB rfl (fun _ _ h=>h)
 ·intro vs Wx hB hF;have hL:vs 17=iI (zC a b):=hF 17 (by decide);have Cn:=zZ (jf hp HG0.out hB);clear hF hB;simp only [Ri.puts];go_simp;go_wp2_with fail
  go_ret;exact ⟨by first|rfl|(rw [hL])|simp [hL],by first|exact Cn.out|(rw [hp];exact Cn.out)⟩
end Ac
namespace Ri
open Go
def gV:Nat->List Oper->Bool
 | _,[]=>true
 | k,o :: l=>(o.after.all fun e=>!Region.binds .any e || decide (e.on < k)) && gV (k+1) l
theorem gW:∀(l:List Oper) (k i:Nat) (o:Oper),gV k l=true->l[i]?=some o->∀e ∈ o.after,Region.binds .any e=true->e.on < k+i
 | [],_,_,_,_,h=>by simp at h
 | x :: l,k,0,o,hb,h=>by
  simp at h;subst h;simp only [gV,Bool.and_eq_true,Array.all_eq_true_iff_forall_mem,Bool.or_eq_true,decide_eq_true_eq] at hb;intro e he hbe;rcases hb.1 e he with h1|h1
  ·rw [hbe] at h1;cases h1
  ·exact h1
 | x :: l,k,i+1,o,hb,h=>by
  simp at h;simp only [gV,Bool.and_eq_true] at hb;intro e he hbe;have:=gW l (k+1) i o hb.2 h e he hbe;omega
theorem IW {P:Program} {id:Nat} {l:List Oper} {Q:Exit->Act->World->Prop} {a0:Act} {w0:World} (hm:P.follows .mixedOrders=true) (hap:gJ l=true) (hbk:gV 0 l=true)
  (B:World->Prop) (F:Nat->(Nat->Value)->World->Prop) (deps:Nat->List Nat) (hdp:mX deps 0 l=true)
  (hloc:∀j vs i v w,i ∉ deps j->F j vs w->F j (upd vs i v) w) (h0:B w0.drew) (hop:Each P l Q a0 B F 0 l)
  (hd:∀vs w,B w->(∀j,j < l.length->F j vs w)->Q .normal (puts l 0 vs a0) w):(Code.region id l.toArray true).wp P Q a0 w0:=by
 refine wp_region_any hm (IK (fun listed a w=>listed.size=l.length/\(∀j,listed.getD j false=true->∀d ∈ deps j,listed.getD d false=true)/\∃vs,a=puts l 0 vs a0/\B w/\∀j,listed.getD j false=true->F j vs w) ?_ ?_ _ _ _ _ (by rw [zn];exact Nat.le_refl _) ?_)
 ·rintro listed a w ⟨hsz,hcl,vs,rfl,hB,hF⟩ i hi;obtain ⟨hni,o,ho,hpre⟩:=mem_ready.1 hi;have ho':l[i]?=some o:=by simpa using ho
  have hil:i < l.length:=(List.getElem?_eq_some_iff.1 ho').1;have hnf:listed.getD i false=false:=by
   have:i < listed.size:=by omega
   simpa [this] using hni
  have hst:=Each.get l 0 i o hop ho';rw [Nat.zero_add] at hst;refine wpOp_step ho fun K hK=>?_;refine hst vs w hB (fun e he hb=>hF _ (hpre e he hb)) K fun v w' hB' hFi hFj=>hK _ _ ?_;have hset:∀j,(listed.setIfInBounds i true).getD j false=true->j=i ∨ listed.getD j false=true:=fun j hj=>by
   by_cases hji:i=j
   ·exact Or.inl hji.symm
   ·rw [getD_set_ne false hji] at hj;exact Or.inr hj
  refine ⟨by simp [hsz],fun j hj d hdd=>?_,upd vs i v,by have:=CP l 0 i o vs a0 v hap ho';rwa [Nat.zero_add] at this,hB',fun j hj=>?_⟩
  ·rcases hset j hj with rfl|hj'
   ·have:=mY deps l 0 j o hdp ho';rw [Nat.zero_add] at this;rcases this d hdd with rfl|⟨e,he,hb,hde⟩
    ·have:d < listed.size:=by omega
     simp [this]
    ·exact getD_set_true (hcl _ (hpre e he hb) d hde)
   ·exact getD_set_true (hcl j hj' d hdd)
  ·by_cases hji:j=i
   ·subst hji;exact hFi
   ·rcases hset j hj with h|hj'
    ·exact absurd h hji
    ·refine hloc j vs i v w' (fun hin=>?_) (hFj j hji (hF j hj'));rw [hcl j hj' i hin] at hnf;cases hnf
 ·rintro listed a w ⟨hsz,hcl,vs,rfl,hB,hF⟩ hr;refine hd vs w hB fun j hj=>hF j ?_;have all:∀n,∀j,j < n->j < l.length->listed.getD j false=true:=by
   intro n;induction n with
   | zero=>intro j h;omega
   | succ n ih =>
    intro j hjn hjl;rcases Nat.lt_or_ge j n with h|h
    ·exact ih j h hjl
    obtain rfl:j=n:=by omega
    have hoj:l[j]?=some l[j]:=List.getElem?_eq_getElem hjl;by_cases hc:listed.getD j false=true
    ·exact hc
    ·exfalso;have hjs:j < listed.size:=by omega
     have hmem:j ∈ Region.ready .any l.toArray listed:=mem_ready.2 ⟨by simpa [hjs] using hc,l[j],by simp,fun e he hbe=>by
      have:=gW l 0 j _ hbk hoj e he hbe;exact ih e.on (by omega) (by omega)⟩
     rw [hr] at hmem;cases hmem
  exact all (j+1) j (by omega) hj
 ·obtain ⟨vs,hvs⟩:=CQ l 0 a0;refine ⟨by simp,fun j hj=>?_,vs,hvs.symm,h0,fun j hj=>?_⟩;all_goals
   exfalso;rw [Array.getD_eq_getD_getElem?,Array.getElem?_replicate] at hj;split at hj<;>simp at hj
theorem IY {P:Program} {id:Nat} {l:List Oper} {Q:Exit->Act->World->Prop} {a0:Act} {w0:World} (hm:P.follows .mixedOrders=true) (hap:gJ l=true) (hbk:gV 0 l=true)
  (B:World->Prop) (F:Nat->(Nat->Value)->World->Prop) (deps:Nat->List Nat) (hdp:mX deps 0 l=true)
  (hloc:∀j vs i v w,i ∉ deps j->F j vs w->F j (upd vs i v) w) (h0:B w0.drew) (hop:aH P l Q a0 B F 0 l)
  (hd:∀vs w,B w->(∀j,j < l.length->F j vs w)->Q .normal (puts l 0 vs a0) w):(Code.region id l.toArray true).wp P Q a0 w0:=
 IW hm hap hbk B F deps hdp hloc h0 (aH.each l 0 hop) hd
theorem IZ {P:Program} {id:Nat} {l:List Oper} {Q:Exit->Act->World->Prop} {a0:Act} {w0:World} (hm:P.follows .mixedOrders=true) (hap:gJ l=true) (hbk:gV 0 l=true)
  (B:World->Prop) (F:Nat->(Nat->Value)->World->Prop) (deps:Nat->List Nat) (hdp:mX deps 0 l=true)
  (hloc:∀j vs i v w,i ∉ deps j->F j vs w->F j (upd vs i v) w) (h0:B w0.drew) (hop:aI P l Q a0 B F 0 l)
  (hd:∀vs w,B w->(∀j,j < l.length->F j vs w)->Q .normal (puts l 0 vs a0) w):(Code.region id l.toArray true).wp P Q a0 w0:=
 IW hm hap hbk B F deps hdp hloc h0 (aI.each l 0 hop) hd
end Ri
end Go.Proofs.YtfbfeoplldjbpaaGreatDoor
