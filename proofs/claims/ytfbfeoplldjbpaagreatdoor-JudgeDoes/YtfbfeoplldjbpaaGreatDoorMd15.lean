/-
  Texts put together (merge.py): ZMem, IMem, HTake, HOut.
-/
import Derived.Test.YtfbfeoplldjbpaaGreatDoorMd8
set_option linter.unusedSimpArgs false
set_option linter.unusedVariables false
set_option maxHeartbeats 16000000
set_option maxRecDepth 100000
namespace Go.Proofs.YtfbfeoplldjbpaaGreatDoor
namespace Fe
open Go.RowKit
open Wo (tV jI jQ qL iU jg)
def fc (f:Cr):List Value:=[sS f.proc,sS f.mod,iI f.net,iI f.Ch,iI f.Ck]
abbrev fev (f:Cr):Value:=.agg #[sS f.proc,sS f.mod,iI f.net,iI f.Ch,iI f.Ck]
abbrev plv (f:Cr):Value:=.agg #[sS f.proc,sS f.mod,iI f.net,iI f.Ch]
def fcs:List Cr->List Value
 | []=>[]
 | f :: r=>sS f.proc :: sS f.mod :: iI f.net :: iI f.Ch :: iI f.Ck :: fcs r
theorem Le (a b:List Cr):fcs (a ++ b)=fcs a ++ fcs b:=by induction a<;>simp_all [fcs]
theorem Lh:∀(a:List Cr),∀u ∈ fcs a,u.oneCell'=true
 | [],u,h=>by simp [fcs] at h
 | f :: r,u,h=>by
  have ih:=Lh r;simp only [fcs,List.mem_cons] at h;rcases h with rfl|rfl|rfl|rfl|rfl|h
  all_goals first|rfl|exact ih u h
def aS (w:World) (b o:Nat) (f:Cr):Prop:=
 w.cell? ⟨b,o,none⟩=some (sS f.proc)/\w.cell? ⟨b,o+1,none⟩=some (sS f.mod)/\w.cell? ⟨b,o+2,none⟩=some (iI f.net)/\w.cell? ⟨b,o+3,none⟩=some (iI f.Ch)/\w.cell? ⟨b,o+4,none⟩=some (iI f.Ck)
theorem aS.of {w w':World} {b o:Nat} {x:Cr} (h:aS w b o x) (he:w'.heap[b]?=w.heap[b]?):aS w' b o x:=by
 obtain ⟨h0,h1,h2,h3,h4⟩:=h;refine ⟨?_,?_,?_,?_,?_⟩<;>rw [World.cell?_of_block (w:=w) he]<;>assumption
def aU (K:Nat->Prop) (w:World) (v:Value) (l:List Cr):Prop:=
 ∃a c,v=.slice a l.length c/\l.length<=c/\c<=maxLen/\(l=[] ∨ ∃b o,a=some ⟨b,o,none⟩/\K b/\b < w.heap.size/\∀(j:Nat) x,l[j]?=some x->aS w b (o+j * 5) x)
theorem aU.move {K K':Nat->Prop} {w w':World} {v:Value} {l:List Cr} (h:aU K w v l) (hm:Moves K K' w w'):aU K' w' v l:=by
 obtain ⟨a,c,rfl,h1,h2,h3⟩:=h;refine ⟨a,c,rfl,h1,h2,h3.imp id ?_⟩;rintro ⟨b,o,rfl,hk,hb,hc⟩;obtain ⟨k',hh⟩:=hm.2 b hb hk;exact ⟨b,o,rfl,k',Nat.lt_of_lt_of_le hb hm.1,fun j x hj=>(hc j x hj).of hh⟩
theorem aU.Bu {w w':World} {v:Value} {l:List Cr} (h:aU All w v l) (hb:Below w.heap.size w w'):aU All w' v l:=h.move (Below.moves hb)
theorem aU.nil (K:Nat->Prop) (w:World):aU K w (.slice none 0 0) []:=⟨none,0,rfl,by simp,by simp [maxLen],Or.inl rfl⟩
theorem aU.form {K:Nat->Prop} {w:World} {v:Value} {xs:List Cr} (h:aU K w v xs):∃a c,v=.slice a xs.length c/\xs.length<=c/\c<=9223372036854775807:=by
 obtain ⟨a,c,rfl,h1,h2,_⟩:=h;exact ⟨a,c,rfl,h1,by unfold maxLen at h2;exact h2⟩
theorem aU.get {K:Nat->Prop} {w:World} {a:Option Addr} {n c:Nat} {ls:List Cr} (h:aU K w (.slice a n c) ls) (k:Nat) (hk:k < ls.length) :
  ∃b o,a=some ⟨b,o,none⟩/\b < w.heap.size/\ls[k]?=some ls[k]/\aS w b (o+k * 5) ls[k]:=by
 obtain ⟨a',c',he,h1,h2,h3⟩:=h;have ha:a=a':=by injection he
 subst ha;rcases h3 with h|⟨b,o,ha,_,hb,hc⟩
 ·subst h;simp at hk
 ·have hx:=List.getElem?_eq_getElem hk;exact ⟨b,o,ha,hb,hx,hc k _ hx⟩
theorem LH:∃i,Tryz.prog.info? 54=some i/\i.zero=some (.agg #[.string ByteArray.empty,.string ByteArray.empty,iI 0,iI 0,iI 0])/\i.size=5/\i.bytes=56:=by
 have hi:(Tryz.prog.info? 54).map (fun i=>(i.zero,i.size,i.bytes))=some (some (.agg #[.string ByteArray.empty,.string ByteArray.empty,iI 0,iI 0,iI 0]),5,56):=by kernel_rfl
 cases hq:Tryz.prog.info? 54 with
 | none=>rw [hq] at hi;cases hi
 | some i =>
  rw [hq] at hi;simp only [Option.map_some,Option.some.injEq,Prod.mk.injEq] at hi;exact ⟨i,rfl,hi⟩
def av (w w':World):Prop:=Below w.heap.size w w'/\w.drawn<=w'.drawn
theorem av.refl (w:World):av w w:=⟨Below.refl _ _,Nat.le_refl _⟩
theorem av.trans {a b c:World} (h:av a b) (k:av b c):av a c:=⟨jg h.1 k.1,Nat.le_trans h.2 k.2⟩
theorem av.alloc {a b:World} (h:av a b) (o:Obj):av a (b.alloc o):=⟨jg h.1 (iU b o),h.2⟩
theorem av.drew {a b:World} (h:av a b):av a b.drew:=⟨Below.drew h.1,Nat.le_trans h.2 (Nat.le_succ _)⟩
end Fe
namespace Tw
open Go.RowKit
open Cm (Ln iU jg)
theorem tV {w w':World} {q:Nat} {o:Obj} (h:w.heap[q]?=some o) (hb:Below w.heap.size w w'):w'.heap[q]?=some o:=by
 rw [hb.block q (Array.getElem?_eq_some_iff.1 h).1];exact h
theorem rW:∃i,Tryz.prog.info? 5=some i/\i.zero=some (.int .u8 0)/\i.size=1/\i.bytes=1:=by
 have hi:(Tryz.prog.info? 5).map (fun i=>(i.zero,i.size,i.bytes))=some (some (.int .u8 0),1,1):=by kernel_rfl
 cases hq:Tryz.prog.info? 5 with
 | none=>rw [hq] at hi;cases hi
 | some i =>
  rw [hq] at hi;simp only [Option.map_some,Option.some.injEq,Prod.mk.injEq] at hi;exact ⟨i,rfl,hi⟩
def Own (B:Nat) (w:World) (v:Value) (l:List UInt8):Prop:=w.ownsRow B 5 1 v l.length (Lib.strCells (mk l))
theorem Gh (a b:List UInt8):Lib.strCells (mk a) ++ Lib.strCells (mk b)=Lib.strCells (mk (a ++ b)):=by
 simp [Lib.strCells,mk]
theorem L9 (a b:List UInt8):mk a ++ mk b=mk (a ++ b):=by
 unfold mk;apply ByteArray.ext;simp
theorem Own.nil (B:Nat) (w:World):Own B w (.slice none 0 0) []:=World.ownsRow_nil _ _ _ _
theorem Ak {w w':World} {B:Nat} {e:TypeId} {z:Nat} {v:Value} {n:Nat} {xs:List Value} (h:w.ownsRow B e z v n xs) (hb:Below w.heap.size w w'):w'.ownsRow B e z v n xs:=by
 refine ⟨h.1,h.2.imp id ?_⟩;rintro ⟨g,c,cur,rfl,h0,hh,hr⟩;exact ⟨g,c,cur,rfl,h0,tV hh hb,hr⟩
theorem qo {w w':World} {B:Nat} {e:TypeId} {z:Nat} {v:Value} {n:Nat} {xs:List Value} (ho:w.ownsRow B e z v n xs) (hg:w.grownBy w' v.ownBlock) (hB:B<=w.heap.size):Below B w w':=
 ⟨hg.os,hg.tape,hg.output,hg.size,fun k hk=>hg.block k (by omega) (fun e=>by have:=(ho.lt k e.symm).1;omega)⟩
theorem gQ {ops:Array Oper} {rest:List Oper} {o:Oper} {a:Act} {w:World} {Q:Exit->Act->World->Prop} (hgd:o.guard=none) (s x:Operand) (ho:o.op=.call { callee:=.builtin .append,args:=#[s,x],argTypes:=#[130,130] })
  (B:Nat) (v:Value) (l:List UInt8) (hs:a.eval s=v) (hown:Own B w v l) (b k:Nat) (n:Int) (c:UInt8) (hx:a.eval x=.slice (some ⟨b,0,none⟩) 1 k) (hn:n=(c.toNat:Int))
  (hc:w.cell? ⟨b,0,none⟩=some (.int .u8 n)) (hl:l.length<=1000000000) (hB:B<=w.heap.size)
  (h:∀v' w',Own B w' v' (l ++ [c])->Below B w w'->wpList Tryz.prog ops Q rest (a.put o.dst v') w'):wpList Tryz.prog ops Q (o :: rest) a w:=by
 obtain ⟨i,q1,q2,q3,q4⟩:=rW;subst hn;refine wpList_append_own _ hgd s x 130 ho B 5 i _ 1 1 Tryz.underlying130 q1 q2 q3 q4 rfl (by decide) v l.length (Lib.strCells (mk l)) hs hown ⟨b,0,none⟩ 1 k [.int .u8 c.toNat] hx rfl (fun j u hj=>?_) (fun u hu=>?_) (by unfold maxLen;omega) (by omega) hB fun v' w' ho' hg _=>?_
 ·match j,hj with
  | 0,hj =>
   rw [show (⟨b,0,none⟩:Addr).add 0=⟨b,0,none⟩ by unfold Addr.add;split<;>simp_all,hc];exact hj
  | j+1,hj=>simp at hj
 ·simp at hu;rw [hu];rfl
 ·refine h v' w' ?_ (qo hown hg hB);unfold Own;rw [←Gh,List.length_append];exact ho'
theorem gU {ops:Array Oper} {rest:List Oper} {o:Oper} {a:Act} {w:World} {Q:Exit->Act->World->Prop} (hgd:o.guard=none) (s x:Operand) (ho:o.op=.call { callee:=.builtin .append,args:=#[s,x],argTypes:=#[130,9] })
  (B:Nat) (v:Value) (l t:List UInt8) (hs:a.eval s=v) (hown:Own B w v l) (hx:a.eval x=.string (mk t)) (hl:l.length<=1000000000) (ht:t.length<=1000000000) (hB:B<=w.heap.size)
  (h:∀v' w',Own B w' v' (l ++ t)->Below B w w'->wpList Tryz.prog ops Q rest (a.put o.dst v') w'):wpList Tryz.prog ops Q (o :: rest) a w:=by
 obtain ⟨i,q1,q2,q3,q4⟩:=rW;refine Lib.wpList_append_own_string _ hgd s x 130 9 ho B 5 i Tryz.underlying130 Tryz.underlying9 q1 q2 q3 q4 v l.length (Lib.strCells (mk l)) hs hown (mk t) hx (by rw [xM];unfold maxLen;omega) (by rw [xM];omega) hB fun v' w' ho' hg _=>?_;refine h v' w' ?_ (qo hown hg hB);unfold Own;rw [←Gh,List.length_append,←xM t];exact ho'
theorem l7 {B:Nat} {w:World} {v:Value} {l:List UInt8} (h:Own B w v l) (hl:0 < l.length):(convert 130 9 v).run Tryz.prog w=.ok (.string (mk l)) w:=by
 obtain ⟨h0,h1|⟨g,cap,cur,rfl,hr⟩⟩:=h
 ·exact absurd h1.2 (by omega)
 ·have hc:=World.ownsRow.cells (g:=g) (w:=w) (base:=B) (e:=5) (size:=1) (xs:=Lib.strCells (mk l)) (v:=.slice (some ⟨g,0,none⟩) l.length cap) (n:=l.length) ⟨h0,Or.inr ⟨g,cap,cur,rfl,hr⟩⟩ rfl;refine run_convert_bytes_back (P:=Tryz.prog) w 130 9 5 ⟨g,0,none⟩ cap l Tryz.underlying130 Tryz.underlying5 Tryz.underlying9 (fun j hj=>?_);refine hc j _ ?_;simp [Lib.strCells,mk,List.getElem?_eq_getElem hj]
end Tw
namespace Sh
open Go.RowKit
theorem tV {w w':World} {q:Nat} {o:Obj} (h:w.heap[q]?=some o) (hb:Below w.heap.size w w'):w'.heap[q]?=some o:=by
 rw [hb.block q (Array.getElem?_eq_some_iff.1 h).1];exact h
theorem iU (w:World) (o:Obj):Below w.heap.size w (w.alloc o):=(Below.refl _ w).alloc (Nat.le_refl _) o
theorem jg {a b c:World} (h:Below a.heap.size a b) (k:Below b.heap.size b c):Below a.heap.size a c:=h.trans (k.mono h.size)
theorem fK (w:World) (cs:Array Value) (t:TypeId):(w.alloc (.cells cs t)).heap[w.heap.size]?=some (.cells cs t (0,0)):=heap_alloc_new w _
theorem jI {w:World} {q:Nat} {v:Value} {T:TypeId} (h:w.heap[q]?=some (.cells #[v] T (0,0))):w.cell? ⟨q,0,none⟩=some v/\w.frozen? ⟨q,0,none⟩=false:=
 ⟨cell_of_one h,free_of_one h⟩
def dH (q:Nat) (l:Int) (w w':World):Prop:=
 w'.heap.size=w.heap.size/\w'.heap[q]?=some (.cells #[iI l] 2 (0,0))/\(∀b,b ≠ q->w'.heap[b]?=w.heap[b]?)/\Below q w w'
theorem dH.keep {q:Nat} {l:Int} {w w':World} (h:dH q l w w') {b:Nat} {o:Obj} (hb:w.heap[b]?=some o) (hne:b ≠ q):w'.heap[b]?=some o:=by
 rw [h.2.2.1 b hne];exact hb
theorem pK (n:Int) (w:World) :
  Calls Tryz.prog 133 #[iI n] w fun e w'=>e=.returned (.func (.func 157) #[] #[.pointer (some ⟨w.heap.size,0,none⟩)])/\w'=w.alloc (.cells #[iI n] 2):=by
 have hmf:∀(fn:Fn) (first cap:Array Value) (w:World),(Instr.makeFunc fn first cap).run Tryz.prog w=.ok (.func fn first cap) w:=fun _ _ _ _=>rfl;go_enter Tryz.func133,Tryz.ntmps133
 go_wp2;go_ret;exact ⟨rfl,rfl⟩
theorem bS (n:Int) (w:World) :
  Calls Tryz.prog 133 #[iI n] w fun e w'=>e=.returned (.func (.func 157) #[] #[.pointer (some ⟨w.heap.size,0,none⟩)])/\w'.heap[w.heap.size]?=some (.cells #[iI n] 2 (0,0))/\Below w.heap.size w w':=by
 refine (pK n w).mono ?_;rintro e w' ⟨rfl,rfl⟩;exact ⟨rfl,fK w _ _,iU w _⟩
theorem je {p q:Nat} {l:Int} {a w w':World} (h:Below p a w) (ht:dH q l w w') (hq:p<=q):Below p a w':=h.trans (ht.2.2.2.mono hq)
theorem jc {p:Nat} {a w w':World} (h:Below p a w) (hb:Below w.heap.size w w') (hp:p<=w.heap.size):Below p a w':=h.trans (hb.mono hp)
theorem iA (x l:Int) (q:Nat) (w:World) (h:w.heap[q]?=some (.cells #[iI l] 2 (0,0))) (x0:0<=x) (x1:x<=10000000000000) (l0:0<=l) (l1:l<=10000000000000) :
  Calls Tryz.prog 157 #[iI x,pP q 0] w fun e w'=>e=.returned (iI (least x l))/\dH q (l - least x l) w w':=by
 obtain ⟨c0,f0⟩:=jI h;have HH:=zZ h;have HQ:Hid (∀v,dH q v w (w.setCell ⟨q,0,none⟩ (iI v))):=fun v=>by
  refine ⟨World.size_setCell _ _ _,one_setCell h,fun b hb=>Below.heap_setCell _ _ _ _ hb,(Below.refl q w).setCell (p:=⟨q,0,none⟩) (Nat.le_refl _) _⟩
 clear h;by_cases hc:x<=l
 ·have e1:least x l=x:=by unfold least;split<;>omega
  rw [e1];clear e1;go_enter Tryz.func157,Tryz.ntmps157
  go_wp2;go_ret;first|exact ⟨rfl,HQ.out _⟩|(simp only [show min x l=x by omega];exact ⟨rfl,HQ.out _⟩)
 ·have e1:least x l=l:=by unfold least;split<;>omega
  rw [e1];clear e1;go_enter Tryz.func157,Tryz.ntmps157
  go_wp2;go_ret;first|exact ⟨rfl,HQ.out _⟩|(simp only [show min x l=l by omega,Int.sub_self];exact ⟨rfl,HQ.out _⟩)
def ints (l:List Int):List Value:=l.map (Value.int .i64)
theorem ints_at {w:World} {b:Nat} {l:List Int} (h:w.heap[b]?=some (.cells (ints l).toArray 2 (0,0))) (k:Nat) (hk:k < l.length):w.cell? ⟨b,k,none⟩=some (iI (l.getD k 0)):=by
 rw [cell_of_row w b k _ _ (0,0) h];simp [ints,hk]
theorem eH (l:List Int):∀k,k<=l.length->Ce.eF (fun i=>l.getD i 0) k=(l.take k).all Ce.good:=by
 intro k;induction k with
 | zero=>intro _;simp [Ce.eF]
 | succ k ih =>
  intro hk;have hk':k < l.length:=by omega
  rw [List.take_add_one,List.all_append,←ih (by omega),Ce.eF];simp [hk']
theorem fV (a:Option Addr) (len cap:Nat) (f:Nat->Int) (w:World) (hm:len<=9223372036854775807) (hc:∀i,i < len->∃b off,a=some ⟨b,off,none⟩/\w.cell? ⟨b,off+i,none⟩=some (iI (f i))) :
  Calls Tryz.prog 132 #[.slice a len cap] w fun e w'=>e=.returned (.bool (Ce.eF f len))/\w'=w:=by
 go_enter Tryz.func132,Tryz.ntmps132
 go_wp2;go_loop [7] (fun i=>∃k:Nat,k<=len/\i=iI k/\Hid (Ce.eF f k=true)) (fun i=>len - (intOf i).toNat)
 case atStart=>exact ⟨0,Nat.zero_le _,rfl,rfl⟩
 case round =>
  obtain ⟨k,hk,rfl,hg⟩:=hrel;by_cases hlt:k < len
  ·obtain ⟨b,off,rfl,hcell⟩:=hc k hlt;cases gk:Ce.good (f k)
   ·go_wp2_with (go_at_call 76;refine (Ce.qh _ _).mono ?_;rintro e w' ⟨rfl,rfl⟩)
    go_ret;exact ⟨by rw [Ce.eU f len k hlt gk];rfl,rfl⟩
   ·go_wp2_with (go_at_call 76;refine (Ce.qh _ _).mono ?_;rintro e w' ⟨rfl,rfl⟩)
    go_round
    case rel=>exact ⟨k+1,by omega,by go_num,Ce.eP f k hg.out gk⟩
    case measure=>simp [intOf];omega
  ·have:k=len:=by omega
   subst this;go_wp2;go_ret;exact ⟨by rw [hg.out];rfl,rfl⟩
theorem fU (l:List Int) (b n c:Nat) (w:World) (h:w.heap[b]?=some (.cells (ints l).toArray 2 (0,0))) (hn:n=l.length) (hl:l.length<=100) :
  Calls Tryz.prog 132 #[.slice (some ⟨b,0,none⟩) n c] w fun e w'=>e=.returned (.bool (l.all Ce.good))/\w'=w:=by
 subst hn;refine (fV (some ⟨b,0,none⟩) l.length c (fun i=>l.getD i 0) w (by omega) fun i hi=>⟨b,0,rfl,by rw [Nat.zero_add];exact ints_at h i hi⟩).mono ?_;rintro e w' ⟨rfl,rfl⟩;refine ⟨?_,rfl⟩;rw [eH l l.length (Nat.le_refl _),List.take_length]
theorem LP (a b:Int) (w:World):Calls Tryz.prog 100 #[iI a,iI b] w fun e w'=>e=.returned (iI (least a b))/\w'=w:=by
 by_cases h:b < a
 ·rw [show least a b=b by unfold least;rw [if_pos h]];go_enter Tryz.func100,Tryz.ntmps100
  go_wp2;go_ret;exact ⟨rfl,rfl⟩
 ·rw [show least a b=a by unfold least;rw [if_neg h]];go_enter Tryz.func100,Tryz.ntmps100
  go_wp2;go_ret;exact ⟨rfl,rfl⟩
end Sh
namespace Sh
open Go.RowKit
theorem heap_set {w:World} {b:Nat} {cs:Array Value} {t:TypeId} (h:w.heap[b]?=some (.cells cs t (0,0))) (j:Nat) (u:Value):(w.setCell ⟨b,j,none⟩ u).heap[b]?=some (.cells (cs.setIfInBounds j u) t (0,0)):=by
 simp [World.setCell,Array.getElem?_modify,h]
theorem qL {w:World} {b q j:Nat} {o:Obj} {u:Value} (h:w.heap[b]?=some o) (hne:b ≠ q):(w.setCell ⟨q,j,none⟩ u).heap[b]?=some o:=by
 rw [Below.heap_setCell _ _ _ _ hne];exact h
theorem eight {w:World} {b:Nat} {c0 c1 c2 c3 c4 c5 c6 c7:Value} {T:TypeId} (h:w.heap[b]?=some (.cells #[c0,c1,c2,c3,c4,c5,c6,c7] T (0,0))):w.cell? ⟨b,0,none⟩=some c0/\w.cell? ⟨b,1,none⟩=some c1/\w.cell? ⟨b,2,none⟩=some c2/\w.cell? ⟨b,3,none⟩=some c3/\w.cell? ⟨b,4,none⟩=some c4/\w.cell? ⟨b,5,none⟩=some c5/\w.cell? ⟨b,6,none⟩=some c6/\w.cell? ⟨b,7,none⟩=some c7:=by
 refine ⟨?_,?_,?_,?_,?_,?_,?_,?_⟩<;>(rw [cell_of_row w b _ _ T (0,0) h];rfl)
theorem frz {w:World} {b:Nat} {cs:Array Value} {T:TypeId} (h:w.heap[b]?=some (.cells cs T (0,0))):w.frozen? ⟨b,0,none⟩=false/\w.frozen? ⟨b,1,none⟩=false/\w.frozen? ⟨b,2,none⟩=false/\w.frozen? ⟨b,3,none⟩=false/\w.frozen? ⟨b,4,none⟩=false/\w.frozen? ⟨b,5,none⟩=false/\w.frozen? ⟨b,6,none⟩=false/\w.frozen? ⟨b,7,none⟩=false:=by
 refine ⟨?_,?_,?_,?_,?_,?_,?_,?_⟩<;>simp [World.frozen?,h]
theorem BR {W:World} {b:Nat} {c0 c1 c2 c3 c4 c5 c6 c7 a0 a1 a2 a3 a4 a5 a6 a7:Value} {T:TypeId} (h:W.heap[b]?=some (.cells #[c0,c1,c2,c3,c4,c5,c6,c7] T (0,0))):((((((((W.setCell ⟨b,0,none⟩ (a0)).setCell ⟨b,1,none⟩ (a1)).setCell ⟨b,2,none⟩ (a2)).setCell ⟨b,3,none⟩ (a3)).setCell ⟨b,4,none⟩ (a4)).setCell ⟨b,5,none⟩ (a5)).setCell ⟨b,6,none⟩ (a6)).setCell ⟨b,7,none⟩ (a7)).heap[b]?=some (.cells #[a0,a1,a2,a3,a4,a5,a6,a7] T (0,0)):=by
 have h0:(W.setCell ⟨b,0,none⟩ (a0)).heap[b]?=some (.cells #[a0,c1,c2,c3,c4,c5,c6,c7] T (0,0)):=by rw [heap_set h];rfl
 have h1:((W.setCell ⟨b,0,none⟩ (a0)).setCell ⟨b,1,none⟩ (a1)).heap[b]?=some (.cells #[a0,a1,c2,c3,c4,c5,c6,c7] T (0,0)):=by rw [heap_set h0];rfl
 have h2:(((W.setCell ⟨b,0,none⟩ (a0)).setCell ⟨b,1,none⟩ (a1)).setCell ⟨b,2,none⟩ (a2)).heap[b]?=some (.cells #[a0,a1,a2,c3,c4,c5,c6,c7] T (0,0)):=by rw [heap_set h1];rfl
 have h3:((((W.setCell ⟨b,0,none⟩ (a0)).setCell ⟨b,1,none⟩ (a1)).setCell ⟨b,2,none⟩ (a2)).setCell ⟨b,3,none⟩ (a3)).heap[b]?=some (.cells #[a0,a1,a2,a3,c4,c5,c6,c7] T (0,0)):=by rw [heap_set h2];rfl
 have h4:(((((W.setCell ⟨b,0,none⟩ (a0)).setCell ⟨b,1,none⟩ (a1)).setCell ⟨b,2,none⟩ (a2)).setCell ⟨b,3,none⟩ (a3)).setCell ⟨b,4,none⟩ (a4)).heap[b]?=some (.cells #[a0,a1,a2,a3,a4,c5,c6,c7] T (0,0)):=by rw [heap_set h3];rfl
 have h5:((((((W.setCell ⟨b,0,none⟩ (a0)).setCell ⟨b,1,none⟩ (a1)).setCell ⟨b,2,none⟩ (a2)).setCell ⟨b,3,none⟩ (a3)).setCell ⟨b,4,none⟩ (a4)).setCell ⟨b,5,none⟩ (a5)).heap[b]?=some (.cells #[a0,a1,a2,a3,a4,a5,c6,c7] T (0,0)):=by rw [heap_set h4];rfl
 have h6:(((((((W.setCell ⟨b,0,none⟩ (a0)).setCell ⟨b,1,none⟩ (a1)).setCell ⟨b,2,none⟩ (a2)).setCell ⟨b,3,none⟩ (a3)).setCell ⟨b,4,none⟩ (a4)).setCell ⟨b,5,none⟩ (a5)).setCell ⟨b,6,none⟩ (a6)).heap[b]?=some (.cells #[a0,a1,a2,a3,a4,a5,a6,c7] T (0,0)):=by rw [heap_set h5];rfl
 have h7:((((((((W.setCell ⟨b,0,none⟩ (a0)).setCell ⟨b,1,none⟩ (a1)).setCell ⟨b,2,none⟩ (a2)).setCell ⟨b,3,none⟩ (a3)).setCell ⟨b,4,none⟩ (a4)).setCell ⟨b,5,none⟩ (a5)).setCell ⟨b,6,none⟩ (a6)).setCell ⟨b,7,none⟩ (a7)).heap[b]?=some (.cells #[a0,a1,a2,a3,a4,a5,a6,a7] T (0,0)):=by rw [heap_set h6];rfl
 exact h7
theorem BQ {W:World} {b q:Nat} {a0 a1 a2 a3 a4 a5 a6 a7:Value} {o:Obj} (h:W.heap[b]?=some o) (hne:b ≠ q):((((((((W.setCell ⟨q,0,none⟩ (a0)).setCell ⟨q,1,none⟩ (a1)).setCell ⟨q,2,none⟩ (a2)).setCell ⟨q,3,none⟩ (a3)).setCell ⟨q,4,none⟩ (a4)).setCell ⟨q,5,none⟩ (a5)).setCell ⟨q,6,none⟩ (a6)).setCell ⟨q,7,none⟩ (a7)).heap[b]?=some o:=
 qL (qL (qL (qL (qL (qL (qL (qL h hne) hne) hne) hne) hne) hne) hne) hne
theorem BP {p:Nat} {w W:World} (h:Below p w W) (b:Nat) (hb:p<=b) (a0 a1 a2 a3 a4 a5 a6 a7:Value):Below p w ((((((((W.setCell ⟨b,0,none⟩ (a0)).setCell ⟨b,1,none⟩ (a1)).setCell ⟨b,2,none⟩ (a2)).setCell ⟨b,3,none⟩ (a3)).setCell ⟨b,4,none⟩ (a4)).setCell ⟨b,5,none⟩ (a5)).setCell ⟨b,6,none⟩ (a6)).setCell ⟨b,7,none⟩ (a7)):=
 (((((((h.setCell (p:=⟨b,0,none⟩) hb a0).setCell (p:=⟨b,1,none⟩) hb a1).setCell (p:=⟨b,2,none⟩) hb a2).setCell (p:=⟨b,3,none⟩) hb a3).setCell (p:=⟨b,4,none⟩) hb a4).setCell (p:=⟨b,5,none⟩) hb a5).setCell (p:=⟨b,6,none⟩) hb a6).setCell (p:=⟨b,7,none⟩) hb a7
theorem xu (o:Ot) (w:World) (h1:0<=o.de) (h2:o.de<=10000000000000) (h3:0<=o.cp) (h4:o.cp<=10000000000000) (h5:0<=o.cn) (h6:o.cn<=10000000000000) :
  Calls Tryz.prog 135 #[.agg #[iI o.al,iI o.de,iI o.cp,iI o.cn,iI o.plan,iI o.wr,iI o.pr,iI o.deny]] w fun e w'=>e=.returned (iI (member o))/\Below w.heap.size w w':=by
 have HB:=zZ (iU w (.cells #[iI o.al,iI o.de,iI o.cp,iI o.cn,iI o.plan,iI o.wr,iI o.pr,iI o.deny] 45));have HX:=zZ (fK w #[iI o.al,iI o.de,iI o.cp,iI o.cn,iI o.plan,iI o.wr,iI o.pr,iI o.deny] 45);rw [show member o=o.de+o.cp+o.cn from rfl];go_enter Tryz.func135,Tryz.ntmps135
 go_upto_region 1 with fail
 generalize w.alloc (.cells #[iI o.al,iI o.de,iI o.cp,iI o.cn,iI o.plan,iI o.wr,iI o.pr,iI o.deny] 45)=W at *;generalize hp:w.heap.size=p at *;obtain ⟨b0,b1,b2,b3,b4,b5,b6,b7⟩:=eight HX.out;go_wp2;go_ret;exact ⟨rfl,by first|exact HB.out|(rw [hp];exact HB.out)⟩
theorem Dx (bi pr why:Int) (w:World) (hy:(why == 0)=true) :
  Calls Tryz.prog 82 #[iI bi,iI pr,iI why] w fun e w'=>e=.returned (.tuple #[.agg #[iI 0,iI 0,iI 0,iI 0,iI 0,iI 0,iI 0,iI 0],iI 1])/\Below w.heap.size w w':=by
 have HB:=zZ (iU w (.cells #[iI 0,iI 0,iI 0,iI 0,iI 0,iI 0,iI 0,iI 0] 45));have HX:=zZ (fK w #[iI 0,iI 0,iI 0,iI 0,iI 0,iI 0,iI 0,iI 0] 45);go_enter Tryz.func82,Tryz.ntmps82
 go_upto_region 1 with fail
 generalize w.alloc (.cells #[iI 0,iI 0,iI 0,iI 0,iI 0,iI 0,iI 0,iI 0] 45)=W at *;generalize hp:w.heap.size=p at *;obtain ⟨b0,b1,b2,b3,b4,b5,b6,b7⟩:=eight HX.out;obtain ⟨f0,f1,f2,f3,f4,f5,f6,f7⟩:=frz HX.out;go_wp2;clear b0 b1 b2 b3 b4 b5 b6 b7 f0 f1 f2 f3 f4 f5 f6 f7;generalize Cg:((((((((W.setCell ⟨p,0,none⟩ (iI 0)).setCell ⟨p,1,none⟩ (iI 0)).setCell ⟨p,2,none⟩ (iI 0)).setCell ⟨p,3,none⟩ (iI 0)).setCell ⟨p,4,none⟩ (iI 0)).setCell ⟨p,5,none⟩ (iI 0)).setCell ⟨p,6,none⟩ (iI 0)).setCell ⟨p,7,none⟩ (iI 0))=WF at *;have Cy:Hid (WF.heap[p]?=some (.cells #[iI 0,iI 0,iI 0,iI 0,iI 0,iI 0,iI 0,iI 0] 45 (0,0))):=by rw [←Cg];exact BR HX.out
 have Cq:Hid (Below p w WF):=by rw [←Cg];exact BP HB.out p (Nat.le_refl _) _ _ _ _ _ _ _ _
 clear Cg;obtain ⟨b0,b1,b2,b3,b4,b5,b6,b7⟩:=eight Cy.out;refine bodyPost_ret (v:=.tuple #[.agg #[iI 0,iI 0,iI 0,iI 0,iI 0,iI 0,iI 0,iI 0],iI 1]) (by simp [results,Tryz.results82,go_sem,b0,b1,b2,b3,b4,b5,b6,b7]) rfl ?_;exact ⟨rfl,by first|exact Cq.out|(rw [hp];exact Cq.out)⟩
theorem Dw (bi pr why:Int) (w:World) (E:Int) (hE:(E != 0)=true) (hy:(why == 0)=false) (HS:Hid (∀w:World,Calls Tryz.prog 122 #[iI bi,iI pr] w fun e w'=>e=.returned (.tuple #[iI 0,iI E])/\w'=w)) :
  Calls Tryz.prog 82 #[iI bi,iI pr,iI why] w fun e w'=>e=.returned (.tuple #[.agg #[iI 0,iI 0,iI 0,iI 0,iI 0,iI 0,iI 0,iI 0],iI E])/\Below w.heap.size w w':=by
 have HB:=zZ (iU w (.cells #[iI 0,iI 0,iI 0,iI 0,iI 0,iI 0,iI 0,iI 0] 45));have HX:=zZ (fK w #[iI 0,iI 0,iI 0,iI 0,iI 0,iI 0,iI 0,iI 0] 45);go_enter Tryz.func82,Tryz.ntmps82
 go_upto_region 1 with fail
 generalize w.alloc (.cells #[iI 0,iI 0,iI 0,iI 0,iI 0,iI 0,iI 0,iI 0] 45)=W at *;generalize hp:w.heap.size=p at *;obtain ⟨b0,b1,b2,b3,b4,b5,b6,b7⟩:=eight HX.out;obtain ⟨f0,f1,f2,f3,f4,f5,f6,f7⟩:=frz HX.out;go_wp2_with (go_at_call 122;refine (HS.out _).mono ?_;rintro e w' ⟨rfl,hw⟩;rw [hw];clear hw w')
 clear b0 b1 b2 b3 b4 b5 b6 b7 f0 f1 f2 f3 f4 f5 f6 f7;generalize Cg:((((((((W.setCell ⟨p,0,none⟩ (iI 0)).setCell ⟨p,1,none⟩ (iI 0)).setCell ⟨p,2,none⟩ (iI 0)).setCell ⟨p,3,none⟩ (iI 0)).setCell ⟨p,4,none⟩ (iI 0)).setCell ⟨p,5,none⟩ (iI 0)).setCell ⟨p,6,none⟩ (iI 0)).setCell ⟨p,7,none⟩ (iI 0))=WF at *;have Cy:Hid (WF.heap[p]?=some (.cells #[iI 0,iI 0,iI 0,iI 0,iI 0,iI 0,iI 0,iI 0] 45 (0,0))):=by rw [←Cg];exact BR HX.out
 have Cq:Hid (Below p w WF):=by rw [←Cg];exact BP HB.out p (Nat.le_refl _) _ _ _ _ _ _ _ _
 clear Cg;obtain ⟨b0,b1,b2,b3,b4,b5,b6,b7⟩:=eight Cy.out;refine bodyPost_ret (v:=.tuple #[.agg #[iI 0,iI 0,iI 0,iI 0,iI 0,iI 0,iI 0,iI 0],iI E]) (by simp [results,Tryz.results82,go_sem,b0,b1,b2,b3,b4,b5,b6,b7]) rfl ?_;exact ⟨rfl,by first|exact Cq.out|(rw [hp];exact Cq.out)⟩
theorem Dy (bi pr why:Int) (w:World) (hy:(why == 0)=false) (HS:Hid (∀w:World,Calls Tryz.prog 122 #[iI bi,iI pr] w fun e w'=>e=.returned (.tuple #[iI (bi - pr),iI 0])/\w'=w)) :
  Calls Tryz.prog 82 #[iI bi,iI pr,iI why] w fun e w'=>e=.returned (.tuple #[.agg #[iI 0,iI 0,iI 0,iI 0,iI 0,iI (bi - pr),iI pr,iI why],iI 0])/\Below w.heap.size w w':=by
 have HB:=zZ (iU w (.cells #[iI 0,iI 0,iI 0,iI 0,iI 0,iI 0,iI 0,iI 0] 45));have HX:=zZ (fK w #[iI 0,iI 0,iI 0,iI 0,iI 0,iI 0,iI 0,iI 0] 45);go_enter Tryz.func82,Tryz.ntmps82
 go_upto_region 1 with fail
 generalize w.alloc (.cells #[iI 0,iI 0,iI 0,iI 0,iI 0,iI 0,iI 0,iI 0] 45)=W at *;generalize hp:w.heap.size=p at *;obtain ⟨b0,b1,b2,b3,b4,b5,b6,b7⟩:=eight HX.out;obtain ⟨f0,f1,f2,f3,f4,f5,f6,f7⟩:=frz HX.out;go_wp2_with (go_at_call 122;refine (HS.out _).mono ?_;rintro e w' ⟨rfl,hw⟩;rw [hw];clear hw w')
 clear b0 b1 b2 b3 b4 b5 b6 b7 f0 f1 f2 f3 f4 f5 f6 f7;generalize Cg:((((((((W.setCell ⟨p,0,none⟩ (iI 0)).setCell ⟨p,1,none⟩ (iI 0)).setCell ⟨p,2,none⟩ (iI 0)).setCell ⟨p,3,none⟩ (iI 0)).setCell ⟨p,4,none⟩ (iI 0)).setCell ⟨p,5,none⟩ (iI (bi - pr))).setCell ⟨p,6,none⟩ (iI pr)).setCell ⟨p,7,none⟩ (iI why))=WF at *;have Cy:Hid (WF.heap[p]?=some (.cells #[iI 0,iI 0,iI 0,iI 0,iI 0,iI (bi - pr),iI pr,iI why] 45 (0,0))):=by rw [←Cg];exact BR HX.out
 have Cq:Hid (Below p w WF):=by rw [←Cg];exact BP HB.out p (Nat.le_refl _) _ _ _ _ _ _ _ _
 clear Cg;obtain ⟨b0,b1,b2,b3,b4,b5,b6,b7⟩:=eight Cy.out;refine bodyPost_ret (v:=.tuple #[.agg #[iI 0,iI 0,iI 0,iI 0,iI 0,iI (bi - pr),iI pr,iI why],iI 0]) (by simp [results,Tryz.results82,go_sem,b0,b1,b2,b3,b4,b5,b6,b7]) rfl ?_;exact ⟨rfl,by first|exact Cq.out|(rw [hp];exact Cq.out)⟩
theorem OA (bi pr why:Int) (w:World) (hy:(why == 0)=true) :
  Calls Tryz.prog 30 #[iI bi,iI pr,iI why] w fun e w'=>e=.returned (.tuple #[.agg #[iI 0,iI 0,iI 0,iI 0,iI 0,iI 0,iI 0,iI 0],iI 1])/\Below w.heap.size w w':=by
 have HB:=zZ (iU w (.cells #[iI 0,iI 0,iI 0,iI 0,iI 0,iI 0,iI 0,iI 0] 45));have HX:=zZ (fK w #[iI 0,iI 0,iI 0,iI 0,iI 0,iI 0,iI 0,iI 0] 45);go_enter Tryz.func30,Tryz.ntmps30
 go_upto_region 1 with fail
 generalize w.alloc (.cells #[iI 0,iI 0,iI 0,iI 0,iI 0,iI 0,iI 0,iI 0] 45)=W at *;generalize hp:w.heap.size=p at *;obtain ⟨b0,b1,b2,b3,b4,b5,b6,b7⟩:=eight HX.out;obtain ⟨f0,f1,f2,f3,f4,f5,f6,f7⟩:=frz HX.out;go_wp2_with (go_at_call 52;refine (Ce.NM _ _).mono ?_;rintro e w' ⟨rfl,hw⟩;rw [hw];clear hw w')
 clear b0 b1 b2 b3 b4 b5 b6 b7 f0 f1 f2 f3 f4 f5 f6 f7;generalize Cg:((((((((W.setCell ⟨p,0,none⟩ (iI 0)).setCell ⟨p,1,none⟩ (iI 0)).setCell ⟨p,2,none⟩ (iI 0)).setCell ⟨p,3,none⟩ (iI 0)).setCell ⟨p,4,none⟩ (iI 0)).setCell ⟨p,5,none⟩ (iI 0)).setCell ⟨p,6,none⟩ (iI 0)).setCell ⟨p,7,none⟩ (iI 0))=WF at *;have Cy:Hid (WF.heap[p]?=some (.cells #[iI 0,iI 0,iI 0,iI 0,iI 0,iI 0,iI 0,iI 0] 45 (0,0))):=by rw [←Cg];exact BR HX.out
 have Cq:Hid (Below p w WF):=by rw [←Cg];exact BP HB.out p (Nat.le_refl _) _ _ _ _ _ _ _ _
 clear Cg;obtain ⟨b0,b1,b2,b3,b4,b5,b6,b7⟩:=eight Cy.out;refine bodyPost_ret (v:=.tuple #[.agg #[iI 0,iI 0,iI 0,iI 0,iI 0,iI 0,iI 0,iI 0],iI 1]) (by simp [results,Tryz.results30,go_sem,b0,b1,b2,b3,b4,b5,b6,b7]) rfl ?_;exact ⟨rfl,by first|exact Cq.out|(rw [hp];exact Cq.out)⟩
theorem Ox (bi pr why:Int) (w:World) (hy:(why == 0)=false) (ga:Ce.good bi=false) :
  Calls Tryz.prog 30 #[iI bi,iI pr,iI why] w fun e w'=>e=.returned (.tuple #[.agg #[iI 0,iI 0,iI 0,iI 0,iI 0,iI 0,iI 0,iI 0],iI 1])/\Below w.heap.size w w':=by
 have HB:=zZ (iU w (.cells #[iI 0,iI 0,iI 0,iI 0,iI 0,iI 0,iI 0,iI 0] 45));have HX:=zZ (fK w #[iI 0,iI 0,iI 0,iI 0,iI 0,iI 0,iI 0,iI 0] 45);go_enter Tryz.func30,Tryz.ntmps30
 go_upto_region 1 with fail
 generalize w.alloc (.cells #[iI 0,iI 0,iI 0,iI 0,iI 0,iI 0,iI 0,iI 0] 45)=W at *;generalize hp:w.heap.size=p at *;obtain ⟨b0,b1,b2,b3,b4,b5,b6,b7⟩:=eight HX.out;obtain ⟨f0,f1,f2,f3,f4,f5,f6,f7⟩:=frz HX.out;go_wp2_with (go_at_call 52;refine (Ce.NM _ _).mono ?_;rintro e w' ⟨rfl,hw⟩;rw [hw];clear hw w')
 clear b0 b1 b2 b3 b4 b5 b6 b7 f0 f1 f2 f3 f4 f5 f6 f7;generalize Cg:((((((((W.setCell ⟨p,0,none⟩ (iI 0)).setCell ⟨p,1,none⟩ (iI 0)).setCell ⟨p,2,none⟩ (iI 0)).setCell ⟨p,3,none⟩ (iI 0)).setCell ⟨p,4,none⟩ (iI 0)).setCell ⟨p,5,none⟩ (iI 0)).setCell ⟨p,6,none⟩ (iI 0)).setCell ⟨p,7,none⟩ (iI 0))=WF at *;have Cy:Hid (WF.heap[p]?=some (.cells #[iI 0,iI 0,iI 0,iI 0,iI 0,iI 0,iI 0,iI 0] 45 (0,0))):=by rw [←Cg];exact BR HX.out
 have Cq:Hid (Below p w WF):=by rw [←Cg];exact BP HB.out p (Nat.le_refl _) _ _ _ _ _ _ _ _
 clear Cg;obtain ⟨b0,b1,b2,b3,b4,b5,b6,b7⟩:=eight Cy.out;refine bodyPost_ret (v:=.tuple #[.agg #[iI 0,iI 0,iI 0,iI 0,iI 0,iI 0,iI 0,iI 0],iI 1]) (by simp [results,Tryz.results30,go_sem,b0,b1,b2,b3,b4,b5,b6,b7]) rfl ?_;exact ⟨rfl,by first|exact Cq.out|(rw [hp];exact Cq.out)⟩
theorem Oy (bi pr why:Int) (w:World) (hy:(why == 0)=false) (ga:Ce.good bi=true) (gb:Ce.good pr=false) :
  Calls Tryz.prog 30 #[iI bi,iI pr,iI why] w fun e w'=>e=.returned (.tuple #[.agg #[iI 0,iI 0,iI 0,iI 0,iI 0,iI 0,iI 0,iI 0],iI 1])/\Below w.heap.size w w':=by
 have HB:=zZ (iU w (.cells #[iI 0,iI 0,iI 0,iI 0,iI 0,iI 0,iI 0,iI 0] 45));have HX:=zZ (fK w #[iI 0,iI 0,iI 0,iI 0,iI 0,iI 0,iI 0,iI 0] 45);go_enter Tryz.func30,Tryz.ntmps30
 go_upto_region 1 with fail
 generalize w.alloc (.cells #[iI 0,iI 0,iI 0,iI 0,iI 0,iI 0,iI 0,iI 0] 45)=W at *;generalize hp:w.heap.size=p at *;obtain ⟨b0,b1,b2,b3,b4,b5,b6,b7⟩:=eight HX.out;obtain ⟨f0,f1,f2,f3,f4,f5,f6,f7⟩:=frz HX.out;go_wp2_with (go_at_call 52;refine (Ce.NM _ _).mono ?_;rintro e w' ⟨rfl,hw⟩;rw [hw];clear hw w')
 clear b0 b1 b2 b3 b4 b5 b6 b7 f0 f1 f2 f3 f4 f5 f6 f7;generalize Cg:((((((((W.setCell ⟨p,0,none⟩ (iI 0)).setCell ⟨p,1,none⟩ (iI 0)).setCell ⟨p,2,none⟩ (iI 0)).setCell ⟨p,3,none⟩ (iI 0)).setCell ⟨p,4,none⟩ (iI 0)).setCell ⟨p,5,none⟩ (iI 0)).setCell ⟨p,6,none⟩ (iI 0)).setCell ⟨p,7,none⟩ (iI 0))=WF at *;have Cy:Hid (WF.heap[p]?=some (.cells #[iI 0,iI 0,iI 0,iI 0,iI 0,iI 0,iI 0,iI 0] 45 (0,0))):=by rw [←Cg];exact BR HX.out
 have Cq:Hid (Below p w WF):=by rw [←Cg];exact BP HB.out p (Nat.le_refl _) _ _ _ _ _ _ _ _
 clear Cg;obtain ⟨b0,b1,b2,b3,b4,b5,b6,b7⟩:=eight Cy.out;refine bodyPost_ret (v:=.tuple #[.agg #[iI 0,iI 0,iI 0,iI 0,iI 0,iI 0,iI 0,iI 0],iI 1]) (by simp [results,Tryz.results30,go_sem,b0,b1,b2,b3,b4,b5,b6,b7]) rfl ?_;exact ⟨rfl,by first|exact Cq.out|(rw [hp];exact Cq.out)⟩
theorem Oz (bi pr why:Int) (w:World) (hy:(why == 0)=false) (ga:Ce.good bi=true) (gb:Ce.good pr=true) (hl:bi < pr) :
  Calls Tryz.prog 30 #[iI bi,iI pr,iI why] w fun e w'=>e=.returned (.tuple #[.agg #[iI 0,iI 0,iI 0,iI 0,iI 0,iI 0,iI 0,iI 0],iI 3])/\Below w.heap.size w w':=by
 have HB:=zZ (iU w (.cells #[iI 0,iI 0,iI 0,iI 0,iI 0,iI 0,iI 0,iI 0] 45));have HX:=zZ (fK w #[iI 0,iI 0,iI 0,iI 0,iI 0,iI 0,iI 0,iI 0] 45);go_enter Tryz.func30,Tryz.ntmps30
 go_upto_region 1 with fail
 generalize w.alloc (.cells #[iI 0,iI 0,iI 0,iI 0,iI 0,iI 0,iI 0,iI 0] 45)=W at *;generalize hp:w.heap.size=p at *;obtain ⟨b0,b1,b2,b3,b4,b5,b6,b7⟩:=eight HX.out;obtain ⟨f0,f1,f2,f3,f4,f5,f6,f7⟩:=frz HX.out;go_wp2_with (go_at_call 52;refine (Ce.NM _ _).mono ?_;rintro e w' ⟨rfl,hw⟩;rw [hw];clear hw w')
 clear b0 b1 b2 b3 b4 b5 b6 b7 f0 f1 f2 f3 f4 f5 f6 f7;generalize Cg:((((((((W.setCell ⟨p,0,none⟩ (iI 0)).setCell ⟨p,1,none⟩ (iI 0)).setCell ⟨p,2,none⟩ (iI 0)).setCell ⟨p,3,none⟩ (iI 0)).setCell ⟨p,4,none⟩ (iI 0)).setCell ⟨p,5,none⟩ (iI 0)).setCell ⟨p,6,none⟩ (iI 0)).setCell ⟨p,7,none⟩ (iI 0))=WF at *;have Cy:Hid (WF.heap[p]?=some (.cells #[iI 0,iI 0,iI 0,iI 0,iI 0,iI 0,iI 0,iI 0] 45 (0,0))):=by rw [←Cg];exact BR HX.out
 have Cq:Hid (Below p w WF):=by rw [←Cg];exact BP HB.out p (Nat.le_refl _) _ _ _ _ _ _ _ _
 clear Cg;obtain ⟨b0,b1,b2,b3,b4,b5,b6,b7⟩:=eight Cy.out;refine bodyPost_ret (v:=.tuple #[.agg #[iI 0,iI 0,iI 0,iI 0,iI 0,iI 0,iI 0,iI 0],iI 3]) (by simp [results,Tryz.results30,go_sem,b0,b1,b2,b3,b4,b5,b6,b7]) rfl ?_;exact ⟨rfl,by first|exact Cq.out|(rw [hp];exact Cq.out)⟩
theorem OB (bi pr why:Int) (w:World) (hy:(why == 0)=false) (ga:Ce.good bi=true) (gb:Ce.good pr=true) (hl:¬ bi < pr) (a0:0<=bi) (a1:bi<=10000000000000) (b0':0<=pr) (b1':pr<=10000000000000) :
  Calls Tryz.prog 30 #[iI bi,iI pr,iI why] w fun e w'=>e=.returned (.tuple #[.agg #[iI 0,iI 0,iI 0,iI 0,iI 0,iI (bi - pr),iI pr,iI why],iI 0])/\Below w.heap.size w w':=by
 have HB:=zZ (iU w (.cells #[iI 0,iI 0,iI 0,iI 0,iI 0,iI 0,iI 0,iI 0] 45));have HX:=zZ (fK w #[iI 0,iI 0,iI 0,iI 0,iI 0,iI 0,iI 0,iI 0] 45);go_enter Tryz.func30,Tryz.ntmps30
 go_upto_region 1 with fail
 generalize w.alloc (.cells #[iI 0,iI 0,iI 0,iI 0,iI 0,iI 0,iI 0,iI 0] 45)=W at *;generalize hp:w.heap.size=p at *;obtain ⟨b0,b1,b2,b3,b4,b5,b6,b7⟩:=eight HX.out;obtain ⟨f0,f1,f2,f3,f4,f5,f6,f7⟩:=frz HX.out;go_wp2_with (go_at_call 52;refine (Ce.NM _ _).mono ?_;rintro e w' ⟨rfl,hw⟩;rw [hw];clear hw w')
 clear b0 b1 b2 b3 b4 b5 b6 b7 f0 f1 f2 f3 f4 f5 f6 f7;generalize Cg:((((((((W.setCell ⟨p,0,none⟩ (iI 0)).setCell ⟨p,1,none⟩ (iI 0)).setCell ⟨p,2,none⟩ (iI 0)).setCell ⟨p,3,none⟩ (iI 0)).setCell ⟨p,4,none⟩ (iI 0)).setCell ⟨p,5,none⟩ (iI (bi - pr))).setCell ⟨p,6,none⟩ (iI pr)).setCell ⟨p,7,none⟩ (iI why))=WF at *;have Cy:Hid (WF.heap[p]?=some (.cells #[iI 0,iI 0,iI 0,iI 0,iI 0,iI (bi - pr),iI pr,iI why] 45 (0,0))):=by rw [←Cg];exact BR HX.out
 have Cq:Hid (Below p w WF):=by rw [←Cg];exact BP HB.out p (Nat.le_refl _) _ _ _ _ _ _ _ _
 clear Cg;obtain ⟨b0,b1,b2,b3,b4,b5,b6,b7⟩:=eight Cy.out;refine bodyPost_ret (v:=.tuple #[.agg #[iI 0,iI 0,iI 0,iI 0,iI 0,iI (bi - pr),iI pr,iI why],iI 0]) (by simp [results,Tryz.results30,go_sem,b0,b1,b2,b3,b4,b5,b6,b7]) rfl ?_;exact ⟨rfl,by first|exact Cq.out|(rw [hp];exact Cq.out)⟩
theorem Dz (bi pr why:Int) (w:World) :
  Calls Tryz.prog 82 #[iI bi,iI pr,iI why] w fun e w'=>e=.returned (.tuple #[.agg #[iI (Du bi pr why).al,iI (Du bi pr why).de,iI (Du bi pr why).cp,iI (Du bi pr why).cn,iI (Du bi pr why).plan,iI (Du bi pr why).wr,iI (Du bi pr why).pr,iI (Du bi pr why).deny],iI (Dt bi pr why)])/\Below w.heap.size w w':=by
 have hZ (E:Int) (h:Dt bi pr why=E) (hE:E ≠ 0):Du bi pr why=ot0:=by unfold Du;rw [h,if_neg hE]
 by_cases hy:why=0
 ·have e:Dt bi pr why=1:=by unfold Dt;rw [if_neg (by simp [hy])]
  rw [hZ 1 e (by decide),e];exact Dx bi pr why w (by simpa using hy)
 have hy':(why == 0)=false:=by simpa using hy
 have hS (v E:Int) (h1:Ce.Gm bi pr=v) (h2:Ce.Gl bi pr=E):Hid (∀w:World,Calls Tryz.prog 122 #[iI bi,iI pr] w fun e w'=>e=.returned (.tuple #[iI v,iI E])/\w'=w):=fun w=>by
  rw [←h1,←h2];exact Ce.Gp bi pr w
 by_cases hg:Ce.good bi=true/\Ce.good pr=true
 ·by_cases hl:pr<=bi
  ·have e:Dt bi pr why=0:=by unfold Dt;rw [if_pos ⟨hy,hg⟩,if_pos hl]
   have ev:Du bi pr why=⟨0,0,0,0,0,bi - pr,pr,why⟩:=by unfold Du;rw [if_pos e]
   rw [ev,e];exact Dy bi pr why w hy' (hS _ _ (by unfold Ce.Gm;rw [if_pos ⟨hg.1,hg.2,hl⟩]) (by unfold Ce.Gl;rw [if_pos hg,if_pos hl]))
  ·have e:Dt bi pr why=3:=by unfold Dt;rw [if_pos ⟨hy,hg⟩,if_neg hl]
   rw [hZ 3 e (by decide),e];exact Dw bi pr why w 3 rfl hy' (hS _ _ (by unfold Ce.Gm;rw [if_neg (fun h=>hl h.2.2)]) (by unfold Ce.Gl;rw [if_pos hg,if_neg hl]))
 ·have e:Dt bi pr why=1:=by unfold Dt;rw [if_neg (fun h=>hg h.2)]
  rw [hZ 1 e (by decide),e];exact Dw bi pr why w 1 rfl hy' (hS _ _ (by unfold Ce.Gm;rw [if_neg (fun h=>hg ⟨h.1,h.2.1⟩)]) (by unfold Ce.Gl;rw [if_neg hg]))
theorem OC (bi pr why:Int) (w:World) :
  Calls Tryz.prog 30 #[iI bi,iI pr,iI why] w fun e w'=>e=.returned (.tuple #[.agg #[iI (Du bi pr why).al,iI (Du bi pr why).de,iI (Du bi pr why).cp,iI (Du bi pr why).cn,iI (Du bi pr why).plan,iI (Du bi pr why).wr,iI (Du bi pr why).pr,iI (Du bi pr why).deny],iI (Dt bi pr why)])/\Below w.heap.size w w':=by
 have hZ (E:Int) (h:Dt bi pr why=E) (hE:E ≠ 0):Du bi pr why=ot0:=by unfold Du;rw [h,if_neg hE]
 by_cases hy:why=0
 ·have e:Dt bi pr why=1:=by unfold Dt;rw [if_neg (by simp [hy])]
  rw [hZ 1 e (by decide),e];exact OA bi pr why w (by simpa using hy)
 have hy':(why == 0)=false:=by simpa using hy
 cases ga:Ce.good bi
 ·have e:Dt bi pr why=1:=by unfold Dt;rw [if_neg (by simp [ga])]
  rw [hZ 1 e (by decide),e];exact Ox bi pr why w hy' ga
 cases gb:Ce.good pr
 ·have e:Dt bi pr why=1:=by unfold Dt;rw [if_neg (by simp [gb])]
  rw [hZ 1 e (by decide),e];exact Oy bi pr why w hy' ga gb
 by_cases hl:pr<=bi
 ·have e:Dt bi pr why=0:=by unfold Dt;rw [if_pos ⟨hy,ga,gb⟩,if_pos hl]
  have ev:Du bi pr why=⟨0,0,0,0,0,bi - pr,pr,why⟩:=by unfold Du;rw [if_pos e]
  rw [ev,e];obtain ⟨a0,a1⟩:=(Ce.ql _).1 ga;obtain ⟨b0,b1⟩:=(Ce.ql _).1 gb;exact OB bi pr why w hy' ga gb (by omega) a0 a1 b0 b1
 ·have e:Dt bi pr why=3:=by unfold Dt;rw [if_pos ⟨hy,ga,gb⟩,if_neg hl]
  rw [hZ 3 e (by decide),e];exact Oz bi pr why w hy' ga gb (by omega)
end Sh
end Go.Proofs.YtfbfeoplldjbpaaGreatDoor
