/-
  Texts put together (merge.py): JKeep, LOpen, PLift.
-/
import Derived.Lib.LaidTab
import Derived.ProofKit
import Derived.OpenShut
import Derived.Carry
import Derived.Lay
import Derived.LaidOnce
import Derived.LaidMore
import Derived.Stop.Joined
import Derived.Deep.Strs
import Derived.Lib.SmallJoins
import Derived.Shelf.Vars
import Derived.Test.YtfbfeoplldjbpaaGreatDoorMo43
import Derived.Test.YtfbfeoplldjbpaaGreatDoorRows
import Derived.Test.YtfbfeoplldjbpaaGreatDoorMo40
import Derived.Test.YtfbfeoplldjbpaaGreatDoorMo15
import Derived.Test.YtfbfeoplldjbpaaGreatDoorMo2
set_option linter.unusedSimpArgs false
set_option linter.unusedVariables false
set_option maxHeartbeats 16000000
set_option maxRecDepth 100000
section
namespace Go.Proofs.YtfbfeoplldjbpaaGreatDoor.Ju
open Go.RowKit
open Ac (Row cu Own tV qL iU jg jf fK rcs rc Dj Dk Df TA rX Eo)
open Sh (Ot)
theorem Eu {w:World} {b o:Nat} {l:List Row} (h:∀(j:Nat) x,l[j]?=some x->Ac.bZ w b (o+j * 5) x) (j:Nat) (u:Value) (hj:(rcs l)[j]?=some u):w.cell? ⟨b,o+j,none⟩=some u:=by
 have hjl:j < l.length * 5:=by have:=(List.getElem?_eq_some_iff.1 hj).1;rwa [Dj] at this
 have hq:j / 5 < l.length:=by omega
 have hx:=List.getElem?_eq_getElem hq
 have hc:=h _ _ hx
 unfold Ac.bZ at hc
 obtain ⟨c0,c1,c2,c3,c4⟩:=hc
 have e:=Df l (j / 5) _ hx (j % 5) (Nat.mod_lt _ (by omega))
 rw [show j / 5 * 5+j % 5=j by omega,hj] at e
 have hr:j % 5=0 ∨ j % 5=1 ∨ j % 5=2 ∨ j % 5=3 ∨ j % 5=4:=by omega
 have ho:o+j=o+j / 5 * 5+j % 5:=by omega
 rw [ho]
 rcases hr with h|h|h|h|h<;>rw [h] at e ⊢
 ·exact c0.trans e.symm
 ·exact c1.trans e.symm
 ·exact c2.trans e.symm
 ·exact c3.trans e.symm
 ·exact c4.trans e.symm
theorem app0 {w:World} (ty:Nat) (ad:Option Addr) (c:Nat):(Builtin.append_ #[32,32] ty #[.slice none 0 0,.slice ad 0 c]).run Tryz.prog w=.ok (.slice none 0 0) w:=by
 obtain ⟨i,q1,_,q2,_⟩:=rX
 cases ad<;>simp [Builtin.append_,run_underlying Tryz.underlying32,sizeOf,typeInfo,q1,Builtin.lenOf,Builtin.firstCells,loadCells,loadCellsFrom]
theorem IU {o:Oper} {a:Act} {w:World} {K:Act->World->Prop} {Q:Exit->Act->World->Prop} (s x:Operand) (ho:o.op=.call { callee:=.builtin .append,args:=#[s,x],argTypes:=#[32,32] })
  (hs:a.eval s=.slice none 0 0) (ad:Option Addr) (m c:Nat) (l:List Row) (hx:a.eval x=.slice ad m c) (hl:cu All w (.slice ad m c) l) (hbd:l.length<=100000)
  (h:∀v' w',cu All w' v' l->Below w.heap.size w w'->K (a.put o.dst v') w'):o.wp Tryz.prog a w K Q:=by
 obtain ⟨a',c',he,h1,h2,h3⟩:=hl
 injection he with ha hm hc
 subst ha hm
 by_cases hm0:l.length=0
 ·obtain rfl:=List.length_eq_zero_iff.1 hm0
  have hrun:=app0 (w:=w) o.type ad c
  have hh:=h (.slice none 0 0) w (cu.nil _ _) (Below.refl _ _)
  unfold Oper.wp
  simp [execOp,ho,resolve,invoke,builtin,hs,hx,hrun,Result.andThen]
  exact hh
 ·rcases h3 with h3|⟨b,o',rfl,-,-,hc2⟩
  ·exact absurd (by rw [h3];rfl) hm0
  obtain ⟨i,q1,q2,q3,q4⟩:=rX
  have hown:w.ownsRow w.heap.size TA 5 (.slice none 0 0) 0 (rcs []):=⟨rfl,Or.inl ⟨rfl,rfl⟩⟩
  refine wp_append_lies w s x 32 ho w.heap.size TA i _ 5 48 Tryz.underlying32 q1 q2 q3 q4 rfl (by omega) (.slice none 0 0) 0 (rcs []) hs hown ⟨b,o',none⟩ l.length c (rcs l) hx (by rw [Dj]) (fun j u hj=>?_) (Dk l) (by omega) (by unfold maxLen;omega) (by omega) (Nat.le_refl _) w.heap.size rfl fun g cap w' hown' hg hat _=>?_
  ·rw [show (⟨b,o',none⟩:Addr).add j=⟨b,o' + j,none⟩ by unfold Addr.add;split<;>simp_all]
   exact Eu hc2 j u hj
  ·have hbl:Below w.heap.size w w':=⟨hg.os,hg.tape,hg.output,hg.size,fun k hk=>hg.block k hk (by simp [Value.ownBlock])⟩
   have hO:Own w.heap.size w' (.slice (some ⟨g,0,none⟩) (0+l.length) cap) l:=by unfold Own;simpa [rcs] using hown'
   exact h _ w' (Eo hO fun _ _=>trivial) hbl
theorem Ai {w w':World} {B:Nat} {v:Value} {l:List Ot} (h:bM B w v l) (hk:∀k,B<=k->k < w.heap.size->w'.heap[k]?=w.heap[k]?):bM B w' v l:=by
 refine ⟨h.1,h.2.imp id ?_⟩
 rintro ⟨g,c,cur,rfl,h0,hh,hr⟩
 exact ⟨g,c,cur,rfl,h0,(hk g h0 (Array.getElem?_eq_some_iff.1 hh).1).trans hh,hr⟩
def bU (w:World) (T:TypeId) (g n s f:Nat):Prop:=∃cs,w.heap[g]?=some (.cells cs T (0,0))/\∀j,j < n->∃x:Int,cs[j * s+f]?=some (.int .i64 x)
theorem bU.get {w:World} {T:TypeId} {g n s f:Nat} (h:bU w T g n s f) {k:Nat} (hk:k < n):(∃x:Int,w.cell? ⟨g,k * s+f,none⟩=some (.int .i64 x))/\w.frozen? ⟨g,k * s+f,none⟩=false/\g < w.heap.size:=by
 obtain ⟨cs,h1,h2⟩:=h
 obtain ⟨x,hx⟩:=h2 k hk
 exact ⟨⟨x,by rw [cell_of_row w g _ cs _ (0,0) h1];exact hx⟩,Lib.frozen_of_heap h1 _,(Array.getElem?_eq_some_iff.1 h1).1⟩
theorem bU.set {w:World} {T:TypeId} {g n s f:Nat} (h:bU w T g n s f) (k:Nat) (y:Int):bU (w.setCell ⟨g,k * s+f,none⟩ (.int .i64 y)) T g n s f:=by
 obtain ⟨cs,h1,h2⟩:=h
 refine ⟨_,Ac.heap_set h1 _ _,fun j hj=>?_⟩
 obtain ⟨x,hx⟩:=h2 j hj
 rw [Array.getElem?_setIfInBounds]
 split
 ·split
  ·exact ⟨y,rfl⟩
  ·next hn=>exact absurd (by have:=(Array.getElem?_eq_some_iff.1 hx).1;omega) hn
 ·exact ⟨x,hx⟩
theorem Au {B:Nat} {w:World} {v:Value} {l:List Row} (h:Own B w v l):(v=.slice none 0 0/\l.length=0) ∨ ∃g cap,v=.slice (some ⟨g,0,none⟩) l.length cap/\B<=g/\bU w TA g l.length 5 4/\l.length<=cap/\cap<=9223372036854775807:=by
 rcases h.2 with ⟨e,h0⟩|⟨g,cap,cur,e,hbg,hg,h1,h2,hs,ht⟩
 ·exact Or.inl ⟨e,h0⟩
 ·refine Or.inr ⟨g,cap,e,hbg,⟨cur,hg,fun j hj=>?_⟩,h1,by unfold maxLen at h2;exact h2⟩
  have q:=Df l j _ (List.getElem?_eq_getElem hj) 4 (by omega)
  rw [←ht,List.getElem?_take,if_pos (by omega)] at q
  exact ⟨l[j].oo,by simpa [rc] using q⟩
theorem Ag {B:Nat} {w:World} {v:Value} {l:List Ot} (h:bM B w v l):(v=.slice none 0 0/\l.length=0) ∨ ∃g cap,v=.slice (some ⟨g,0,none⟩) l.length cap/\B<=g/\bU w TO g l.length 8 4/\l.length<=cap/\cap<=9223372036854775807:=by
 rcases h.2 with ⟨e,h0⟩|⟨g,cap,cur,e,hbg,hg,h1,h2,hs,ht⟩
 ·exact Or.inl ⟨e,h0⟩
 ·refine Or.inr ⟨g,cap,e,hbg,⟨cur,hg,fun j hj=>?_⟩,h1,by unfold maxLen at h2;exact h2⟩
  have q:=yH l j _ (List.getElem?_eq_getElem hj) 4 (by omega)
  rw [←ht,List.getElem?_take,if_pos (by omega)] at q
  exact ⟨l[j].plan,by simpa [oc] using q⟩
theorem bU.far {w:World} {T:TypeId} {g n s f q:Nat} (h:bU w T g n s f) (hne:g ≠ q) (i:Nat) (u:Value):bU (w.setCell ⟨q,i,none⟩ u) T g n s f:=by
 obtain ⟨cs,h1,h2⟩:=h
 exact ⟨cs,qL h1 hne,h2⟩
theorem bU.ne {w:World} {g g' n n' s s' f f':Nat} (h:bU w TO g' n' s' f') (k:bU w TA g n s f):g' ≠ g:=by
 rintro rfl
 obtain ⟨cs,h1,-⟩:=h
 obtain ⟨cs',k1,-⟩:=k
 rw [h1] at k1
 injection k1 with k1
 injection k1 with _ k2 _
 exact absurd k2 (by decide)
def Wr (w:World) (T:TypeId) (a:Option Addr) (n s f lo hi:Nat):Prop:=n=0 ∨ ∃g,a=some ⟨g,0,none⟩/\lo<=g/\g < hi/\bU w T g n s f
theorem Az {B:Nat} {w w':World} {v:Value} {l:List Row} (h:Own B w v l) (hb:Below w.heap.size w w'):∃a c,v=.slice a l.length c/\l.length<=c/\c<=9223372036854775807/\Wr w' TA a l.length 5 4 B w.heap.size:=by
 rcases Au (Ac.Ak h hb) with ⟨e,h0⟩|⟨g,cap,e,h1,h2,h3,h4⟩
 ·exact ⟨none,0,by rw [e,h0],by omega,by omega,Or.inl h0⟩
 ·refine ⟨some ⟨g,0,none⟩,cap,e,h3,h4,Or.inr ⟨g,rfl,h1,?_,h2⟩⟩
  subst e
  exact (h.lt g rfl).2
theorem Aj {B:Nat} {w w':World} {v:Value} {l:List Ot} (h:bM B w v l) (hb:Below w.heap.size w w'):∃a c,v=.slice a l.length c/\l.length<=c/\c<=9223372036854775807/\Wr w' TO a l.length 8 4 B w.heap.size:=by
 rcases Ag (Aa h hb) with ⟨e,h0⟩|⟨g,cap,e,h1,h2,h3,h4⟩
 ·exact ⟨none,0,by rw [e,h0],by omega,by omega,Or.inl h0⟩
 ·refine ⟨some ⟨g,0,none⟩,cap,e,h3,h4,Or.inr ⟨g,rfl,h1,?_,h2⟩⟩
  subst e
  exact (h.lt g rfl).2
theorem Wr.far {w:World} {a:Option Addr} {n s f lo hi g n' s' f':Nat} (h:Wr w TO a n s f lo hi) (k:bU w TA g n' s' f') (i:Nat) (u:Value):Wr (w.setCell ⟨g,i,none⟩ u) TO a n s f lo hi:=by
 rcases h with h|⟨q,h1,h2,h3,h4⟩
 ·exact Or.inl h
 ·exact Or.inr ⟨q,h1,h2,h3,h4.far (h4.ne k) i u⟩
def Mid (lo hi:Nat) (w w':World):Prop:=Below lo w w'/\∀b,hi<=b->b < w.heap.size->w'.heap[b]?=w.heap[b]?
theorem Mid.refl (lo hi:Nat) (w:World):Mid lo hi w w:=⟨Below.refl _ _,fun _ _ _=>rfl⟩
theorem Mid.set {lo hi:Nat} {w w':World} (h:Mid lo hi w w') {g:Nat} (h1:lo<=g) (h2:g < hi) (i:Nat) (u:Value):Mid lo hi w (w'.setCell ⟨g,i,none⟩ u):=
 ⟨h.1.setCell (p:=⟨g,i,none⟩) h1 u,fun b hb hs=>by rw [Below.heap_setCell _ _ _ _ (show b ≠ g by omega)];exact h.2 b hb hs⟩
end Go.Proofs.YtfbfeoplldjbpaaGreatDoor.Ju
end
section
namespace Go.Proofs.YtfbfeoplldjbpaaGreatDoor.Cm
open Go.ChangeShapes Go.WideShapes Go.ChangeAt Go.RowKit Go.Deep
abbrev uJ:List (String × DataW Unit):=[("leechbook/date.lengths",Rows.laid_leechbook_date_lengths)]
theorem pR:Tryz.prog.globalNamed "leechbook/date.lengths" = some 2:=by kernel_rfl
theorem GK:(Tryz.prog.globals[2]?).map (·.type)=some 190:=by kernel_rfl
theorem cI:Tryz.prog.cellsOf 3=1:=by kernel_rfl
theorem jW:Tryz.prog.cellsOf 190=12:=by kernel_rfl
theorem of_laid {W:World} (h:laidMetH Tryz.prog uJ W):Da.Tab W:=by
 rw [MakeChecks.laidMetH_plain _ _ _ (by kernel_rfl)] at h
 have t:Lib.TabIs Tryz.prog W "leechbook/date.lengths" .i64 Da.lens:=Lib.tabIs_of_head pR GK Tryz.underlying190 Tryz.underlying3 cI jW (rest:=[]) h
 exact fun i hi=>t.cell pR i hi
theorem lift {H:Type} {enc:TypeId × Value->H} {os:Os} {f:FuncId} {fn:Func} {s:ChangeSpec} (own:ownKnob Tryz.prog.godebug=none) (started:os.Started) (noInit:Tryz.prog.inits.idxOf? f=none) (hfn:Tryz.prog.funcs[f]?=some fn)
  (witness:∃(w:World) (tape:Tape) (i:Input),w.os=os/\(w.forCall tape i).Shaped Tryz.prog/\i.vars=[]/\Input.okWide Tryz.prog (w.forCall tape i) .any w.heap.size f i/\((s.pre enc Tryz.prog fn [] false (w.forCall tape i).memory i.args/\laidMetH Tryz.prog uJ (w.forCall tape i).memory)/\sizedMet enc Tryz.prog fn (OpenSpec.ofChange s) false (w.forCall tape i).memory i.args)/\({}:Assume).holds Tryz.prog (lone (Frame.enter Tryz.prog f i.args .normal) [] (w.forCall tape i)))
  (contract:∀(W:World) (base:Nat) (args:Array Value) (ds gs:List (DataW H)) (before:List MemPlace),(∀(j:Nat) t v,fn.params[j]?=some t->args[j]?=some v->Value.okWide Tryz.prog W .any base t v)->DataW.Whole enc Tryz.prog fn.params.toList s.vars false W args.toList ds gs before->(DataW.weightsEach Tryz.prog (fn.params.toList ++ s.plain.varTypes Tryz.prog) (ds ++ gs)).all (· ≤ reachBytes)=true->Da.Tab W->Calls Tryz.prog f args W fun e W'=>∃v,e=.returned v/\s.post enc Tryz.prog fn false true false false W args v W') :
  ReturnsInHanded {} Tryz.checked os f .any (fun w args=>(s.pre enc Tryz.prog fn [] false w args/\laidMetH Tryz.prog uJ w)/\sizedMet enc Tryz.prog fn (OpenSpec.ofChange s) false w args) (s.post enc Tryz.prog fn false true false false):=by
 refine returnsInHanded_of_calls own started noInit witness ?_
 intro w tape i _ hsh _ hok hpre _
 obtain ⟨_,_,_,fn',hfn',_,_,_,_,hval⟩:=hok
 obtain rfl:fn'=fn:=Option.some.inj (hfn'.symm.trans hfn)
 obtain ⟨⟨⟨ds,gs,before,hw,_⟩,hlaid⟩,hz⟩:=hpre
 have hpw:Da.Tab (w.forCall tape i):=fun j hj=>of_laid hlaid j hj
 refine (contract (w.forCall tape i) w.heap.size i.args ds gs before hval (DataW.Whole.of_heap (w':=w.forCall tape i) (by rfl) hw) (hz.weights hw) hpw).mono fun e W' ⟨v,he,hp⟩=>?_
 subst he
 exact ChangeSpec.post_blind hp
theorem dL (b o k:Nat):(⟨b,o,none⟩:Addr).add k=⟨b,o+k,none⟩:=by unfold Addr.add;split<;>simp_all
variable {H:Type} {enc:TypeId × Value->H} {W:World} {base:Nat} {spare:Nat->Bool} {held:Bool}
def Fits (d:DataW H) (t:TypeId):Prop:=∀z ∈ d.weights Tryz.prog t,z<=reachBytes
theorem Ib {P:Program} {e:TypeId}:∀ {ds:List (DataW H)} {d:DataW H},d ∈ ds->∀ {x:Nat},x ∈ d.weights P e->x ∈ DataW.weightsAll P e ds
 | [],d,h,_,_=>by cases h
 | c :: r,d,h,x,hx=>by
  unfold DataW.weightsAll
  rcases List.mem_cons.1 h with rfl|h
  ·exact List.mem_append_left _ hx
  ·exact List.mem_append_right _ (Ib h hx)
theorem pG {t e:TypeId} (ht:Tryz.prog.underlying t=some (.slice e)) {elems rest:List (DataW H)} (h:Fits (.slice elems rest) t) {d:DataW H} (hd:d ∈ elems):Fits d e:=fun z hz=>h z (by
 unfold DataW.weights
 rw [ht]
 exact List.mem_cons_of_mem _ (List.mem_append_left _ (Ib hd hz)))
theorem pI {t e:TypeId} (ht:Tryz.prog.underlying t=some (.slice e)) {elems rest:List (DataW H)} (h:Fits (.slice elems rest) t) (he:1<=Tryz.prog.bytesOf e):elems.length<=281474976710656:=by
 have h1:=h ((elems.length+rest.length) * Tryz.prog.bytesOf e) (by
  unfold DataW.weights
  rw [ht]
  exact List.mem_cons_self ..)
 have h2:(elems.length+rest.length) * 1<=(elems.length+rest.length) * Tryz.prog.bytesOf e:=Nat.mul_le_mul_left _ he
 unfold reachBytes at h1
 omega
theorem pJ {t:TypeId} {fs:Array Field} (ht:Tryz.prog.underlying t=some (.struct fs)) {parts:List (DataW H)} (h:Fits (.agg parts) t) (k:Nat):∀(ts:List TypeId) (hts:fs.toList.map (·.type)=ts) {u:TypeId} {d:DataW H},ts[k]?=some u->parts[k]?=some d->Fits d u:=by
 intro ts hts u d hu hd z hz
 refine h z ?_
 unfold DataW.weights
 rw [ht]
 simp only
 rw [hts]
 clear hts h ht
 induction ts generalizing k parts with
 | nil=>simp at hu
 | cons t0 r ih =>
  cases parts with
  | nil=>simp at hd
  | cons p0 pr =>
   unfold DataW.weightsEach
   cases k with
   | zero =>
    simp at hu hd
    subst hu hd
    exact List.mem_append_left _ hz
   | succ k=>exact List.mem_append_right _ (ih k (by simpa using hu) (by simpa using hd))
theorem c9:Tryz.prog.cellsOf 9=1:=by kernel_rfl
theorem c64:Tryz.prog.cellsOf 2=1:=by kernel_rfl
theorem cTs:Tryz.prog.cellsOf 46=1:=by kernel_rfl
theorem cLs:Tryz.prog.cellsOf 29=1:=by kernel_rfl
theorem cL:Tryz.prog.cellsOf 48=6:=by kernel_rfl
theorem cC:Tryz.prog.cellsOf 31=7:=by kernel_rfl
theorem oh {n:Nat} {v:Value} {y:DataW H × List MemPlace} (h:DataW.trod enc Tryz.prog W base spare held n 9 [v]=some y):∃a:Tx,v=.string (mk a)/\(Fits y.1 9->a.length<=281474976710656):=by
 obtain ⟨s,h1,h2,_⟩:=DataW.trod_string Tryz.underlying9 h
 refine ⟨s.data.toList,?_,fun hf=>?_⟩
 ·rw [xK]
  simpa using h1
 ·rw [h2] at hf
  have:=hf s.data.toList.length (by unfold DataW.weights;simp)
  unfold reachBytes at this
  omega
theorem nT {n:Nat} {v:Value} {y:DataW H × List MemPlace} (h:DataW.trod enc Tryz.prog W base spare held n 3 [v]=some y):∃a:Int,v=.int .i64 a/\I64 a:=by
 obtain ⟨a,h1,_,h3⟩:=DataW.trod_int Tryz.underlying3 h
 refine ⟨a,by simpa using h1,?_⟩
 simpa [I64,Lit.wf,IntKind.min,IntKind.max,IntKind.signed,IntKind.bits] using h3
theorem nS {n:Nat} {v:Value} {y:DataW H × List MemPlace} (h:DataW.trod enc Tryz.prog W base spare held n 2 [v]=some y):∃a:Int,v=.int .i64 a/\I64 a:=by
 obtain ⟨a,h1,_,h3⟩:=DataW.trod_int Tryz.underlying2 h
 refine ⟨a,by simpa using h1,?_⟩
 simpa [I64,Lit.wf,IntKind.min,IntKind.max,IntKind.signed,IntKind.bits] using h3
theorem zl {fuel:Nat} {v:Value} {y:DataW H × List MemPlace} (h:DataW.trod enc Tryz.prog W base spare held fuel 46 [v]=some y):∃xs:List Tx,dI All W v xs/\(Fits y.1 46->xs.length<=281474976710656/\∀x ∈ xs,x.length<=281474976710656):=by
 rcases open_slice1 Tryz.underlying46 c9 h with ⟨h0,_⟩|⟨a,len,cap,m,n,V,D,Pl,hv,hb,hl,hm,hmm,rfl,hx⟩
 ·obtain rfl:v=.slice none 0 0:=by simpa using h0
  exact ⟨[],dI.nil _ _,fun _=>by simp⟩
 ·obtain rfl:v=.slice (some a) len cap:=by simpa using hv
  have hlm:len<=m:=by rw [hmm];split<;>omega
  obtain ⟨Y,hY⟩:=choose_lt (α:=Tx) (p:=fun i y=>V i=.string (mk y)/\(Fits (D i) 9->y.length<=281474976710656)) (n:=len) (fun i hi=>oh (hx i (by omega)).2)
  have hxl:((List.range len).map Y).length=len:=by simp
  refine ⟨(List.range len).map Y,⟨some a,cap,by rw [hxl],by rw [hxl];exact hl,hm,?_⟩,fun hf=>⟨?_,fun x hx1=>?_⟩⟩
  ·rcases Nat.eq_zero_or_pos len with h0|h0
   ·subst h0;exact Or.inl rfl
   ·obtain ⟨b,o,sp⟩:=a
    have hsp:sp=none:=by simpa [Addr.add] using World.cell?_spot (hx 0 (by omega)).1
    subst hsp
    refine Or.inr ⟨b,o,rfl,trivial,World.block_lt_of_cell? W ⟨b,o+0,none⟩ (by have:=(hx 0 (by omega)).1;rwa [dL] at this),fun j x hj=>?_⟩
    have hjl:j < len:=by have:=(List.getElem?_eq_some_iff.1 hj).1;simpa using this
    rw [List.getElem?_map,List.getElem?_range hjl] at hj
    obtain rfl:=Option.some.inj hj
    exact ⟨V j,by have:=(hx j (by omega)).1;rwa [dL] at this,(hY j hjl).1⟩
  ·have:=pI Tryz.underlying46 hf (by decide +kernel)
   simpa using this
  ·obtain ⟨i,hi,rfl⟩:=List.mem_map.1 hx1
   have hil:=List.mem_range.1 hi
   exact (hY i hil).2 (pG Tryz.underlying46 hf (List.mem_map.2 ⟨i,hi,rfl⟩))
theorem nU {n:Nat} {cs:List Value} {y:DataW H × List MemPlace} (h:DataW.trod enc Tryz.prog W base spare held n 48 cs=some y):∃(x:Ln) (m:Value),cs=[.string (mk x.proc),m,.int .i64 x.date,.int .i64 x.units,.int .i64 x.billed,.int .i64 x.prior]/\dI All W m x.mods/\(Fits y.1 48->bG x):=by
 obtain ⟨xs,n',_,rfl,hlen,hxl,hf⟩:=DataW.trod_struct Tryz.underlying48 h
 rw [cL] at hlen
 match xs,hxl,cs,hlen with
 | [y0,y1,y2,y3,y4,y5],_,[v0,v1,v2,v3,v4,v5],_ =>
  have h0:DataW.trod enc Tryz.prog W base spare held n' 9 ((([v0,v1,v2,v3,v4,v5]:List Value).drop 0).take (Tryz.prog.cellsOf 9))=some y0:=hf 0 _ rfl
  have h1:DataW.trod enc Tryz.prog W base spare held n' 46 ((([v0,v1,v2,v3,v4,v5]:List Value).drop 1).take (Tryz.prog.cellsOf 46))=some y1:=hf 1 _ rfl
  have h2:DataW.trod enc Tryz.prog W base spare held n' 3 ((([v0,v1,v2,v3,v4,v5]:List Value).drop 2).take (Tryz.prog.cellsOf 3))=some y2:=hf 2 _ rfl
  have h3:DataW.trod enc Tryz.prog W base spare held n' 3 ((([v0,v1,v2,v3,v4,v5]:List Value).drop 3).take (Tryz.prog.cellsOf 3))=some y3:=hf 3 _ rfl
  have h4:DataW.trod enc Tryz.prog W base spare held n' 2 ((([v0,v1,v2,v3,v4,v5]:List Value).drop 4).take (Tryz.prog.cellsOf 2))=some y4:=hf 4 _ rfl
  have h5:DataW.trod enc Tryz.prog W base spare held n' 2 ((([v0,v1,v2,v3,v4,v5]:List Value).drop 5).take (Tryz.prog.cellsOf 2))=some y5:=hf 5 _ rfl
  rw [c9] at h0
  rw [cTs] at h1
  rw [cI] at h2 h3
  rw [c64] at h4 h5
  obtain ⟨a0,rfl,k0⟩:=oh (y:=y0) (by simpa using h0)
  obtain ⟨a1,t1,k1⟩:=zl (y:=y1) (by simpa using h1)
  obtain ⟨a2,rfl,i2⟩:=nT (y:=y2) (by simpa using h2)
  obtain ⟨a3,rfl,i3⟩:=nT (y:=y3) (by simpa using h3)
  obtain ⟨a4,rfl,i4⟩:=nS (y:=y4) (by simpa using h4)
  obtain ⟨a5,rfl,i5⟩:=nS (y:=y5) (by simpa using h5)
  refine ⟨⟨a0,a1,a2,a3,a4,a5⟩,v1,rfl,t1,fun hfit=>?_⟩
  have q0:=pJ Tryz.underlying48 hfit 0 _ rfl rfl rfl
  have q1:=pJ Tryz.underlying48 hfit 1 _ rfl rfl rfl
  exact ⟨i2,i3,i4,i5,k0 q0,(k1 q1).1,(k1 q1).2⟩
theorem y8 {fuel:Nat} {v:Value} {y:DataW H × List MemPlace} (h:DataW.trod enc Tryz.prog W base spare held fuel 29 [v]=some y):∃xs:List Ln,bH All W v xs/\(Fits y.1 29->xs.length<=281474976710656/\∀x ∈ xs,bG x):=by
 rcases open_slice Tryz.underlying29 h with ⟨h0,_⟩|⟨a,len,cap,m,n,D,Pl,hv,hb,hl,hm,hmm,rfl,hx⟩
 ·obtain rfl:v=.slice none 0 0:=by simpa using h0
  exact ⟨[],⟨none,0,rfl,by simp,by simp [maxLen],Or.inl rfl⟩,fun _=>by simp⟩
 ·obtain rfl:v=.slice (some a) len cap:=by simpa using hv
  have hlm:len<=m:=by rw [hmm];split<;>omega
  rw [cL] at hx
  obtain ⟨Y,hY⟩:=@choose_lt Ln ⟨ln0⟩ len (fun i y=>∃mv,(∀r,r < 6->W.cell? ((a.add (i * 6)).add r)=[.string (mk y.proc),mv,.int .i64 y.date,.int .i64 y.units,.int .i64 y.billed,.int .i64 y.prior][r]?)/\dI All W mv y.mods/\(Fits (D i) 48->bG y)) (fun i hi=>by
   obtain ⟨cs',g1,g2⟩:=hx i (by omega)
   obtain ⟨x,mv,rfl,q1,q2⟩:=nU g2
   obtain ⟨_,_,hcell⟩:=World.cells?_some g1
   exact ⟨x,mv,fun r hr=>hcell r hr,q1,q2⟩)
  have hxl:((List.range len).map Y).length=len:=by simp
  refine ⟨(List.range len).map Y,⟨some a,cap,by rw [hxl],by rw [hxl];exact hl,hm,?_⟩,fun hf=>⟨?_,fun x hx1=>?_⟩⟩
  ·rcases Nat.eq_zero_or_pos len with h0|h0
   ·subst h0;exact Or.inl rfl
   ·obtain ⟨b,o,sp⟩:=a
    obtain ⟨mv0,hc0,-,-⟩:=hY 0 h0
    have hc00:=hc0 0 (by omega)
    have hsp:sp=none:=by
     have:=World.cell?_spot hc00
     simpa [Addr.add] using this
    subst hsp
    rw [dL,dL] at hc00
    refine Or.inr ⟨b,o,rfl,trivial,World.block_lt_of_cell? W _ hc00,fun j x hj=>?_⟩
    have hjl:j < len:=by have:=(List.getElem?_eq_some_iff.1 hj).1;simpa using this
    rw [List.getElem?_map,List.getElem?_range hjl] at hj
    obtain rfl:=Option.some.inj hj
    obtain ⟨mv,hc,ht,-⟩:=hY j hjl
    refine ⟨mv,?_,ht⟩
    have e:∀r,r < 6->W.cell? ⟨b,o+j * 6+r,none⟩=[.string (mk (Y j).proc),mv,.int .i64 (Y j).date,.int .i64 (Y j).units,.int .i64 (Y j).billed,.int .i64 (Y j).prior][r]?:=fun r hr=>by
     have:=hc r hr
     rwa [dL,dL] at this
    exact ⟨e 0 (by omega),e 1 (by omega),e 2 (by omega),e 3 (by omega),e 4 (by omega),e 5 (by omega)⟩
  ·have:=pI Tryz.underlying29 hf (by decide +kernel)
   simpa using this
  ·obtain ⟨i,hi,rfl⟩:=List.mem_map.1 hx1
   have hil:=List.mem_range.1 hi
   obtain ⟨_,_,_,q⟩:=hY i hil
   exact q (pG Tryz.underlying29 hf (List.mem_map.2 ⟨i,hi,rfl⟩))
theorem nM {n:Nat} {cs:List Value} {y:DataW H × List MemPlace} (h:DataW.trod enc Tryz.prog W base spare held n 31 cs=some y):∃(x:Cl) (m:Value),cs=[.string (mk x.id),.string (mk x.mem),.string (mk x.fam),.int .i64 x.net,.int .i64 x.does,.string (mk x.ref),m]/\bH All W m x.lines/\(Fits y.1 31->aC x):=by
 obtain ⟨xs,n',_,rfl,hlen,hxl,hf⟩:=DataW.trod_struct Tryz.underlying31 h
 rw [cC] at hlen
 match xs,hxl,cs,hlen with
 | [y0,y1,y2,y3,y4,y5,y6],_,[v0,v1,v2,v3,v4,v5,v6],_ =>
  have h0:DataW.trod enc Tryz.prog W base spare held n' 9 ((([v0,v1,v2,v3,v4,v5,v6]:List Value).drop 0).take (Tryz.prog.cellsOf 9))=some y0:=hf 0 _ rfl
  have h1:DataW.trod enc Tryz.prog W base spare held n' 9 ((([v0,v1,v2,v3,v4,v5,v6]:List Value).drop 1).take (Tryz.prog.cellsOf 9))=some y1:=hf 1 _ rfl
  have h2:DataW.trod enc Tryz.prog W base spare held n' 9 ((([v0,v1,v2,v3,v4,v5,v6]:List Value).drop 2).take (Tryz.prog.cellsOf 9))=some y2:=hf 2 _ rfl
  have h3:DataW.trod enc Tryz.prog W base spare held n' 3 ((([v0,v1,v2,v3,v4,v5,v6]:List Value).drop 3).take (Tryz.prog.cellsOf 3))=some y3:=hf 3 _ rfl
  have h4:DataW.trod enc Tryz.prog W base spare held n' 3 ((([v0,v1,v2,v3,v4,v5,v6]:List Value).drop 4).take (Tryz.prog.cellsOf 3))=some y4:=hf 4 _ rfl
  have h5:DataW.trod enc Tryz.prog W base spare held n' 9 ((([v0,v1,v2,v3,v4,v5,v6]:List Value).drop 5).take (Tryz.prog.cellsOf 9))=some y5:=hf 5 _ rfl
  have h6:DataW.trod enc Tryz.prog W base spare held n' 29 ((([v0,v1,v2,v3,v4,v5,v6]:List Value).drop 6).take (Tryz.prog.cellsOf 29))=some y6:=hf 6 _ rfl
  rw [c9] at h0 h1 h2 h5
  rw [cI] at h3 h4
  rw [cLs] at h6
  obtain ⟨a0,rfl,k0⟩:=oh (y:=y0) (by simpa using h0)
  obtain ⟨a1,rfl,k1⟩:=oh (y:=y1) (by simpa using h1)
  obtain ⟨a2,rfl,k2⟩:=oh (y:=y2) (by simpa using h2)
  obtain ⟨a3,rfl,i3⟩:=nT (y:=y3) (by simpa using h3)
  obtain ⟨a4,rfl,i4⟩:=nT (y:=y4) (by simpa using h4)
  obtain ⟨a5,rfl,k5⟩:=oh (y:=y5) (by simpa using h5)
  obtain ⟨a6,t6,k6⟩:=y8 (y:=y6) (by simpa using h6)
  refine ⟨⟨a0,a1,a2,a3,a4,a5,a6⟩,v6,rfl,t6,fun hfit=>?_⟩
  have q0:=pJ Tryz.underlying31 hfit 0 _ rfl rfl rfl
  have q1:=pJ Tryz.underlying31 hfit 1 _ rfl rfl rfl
  have q2:=pJ Tryz.underlying31 hfit 2 _ rfl rfl rfl
  have q5:=pJ Tryz.underlying31 hfit 5 _ rfl rfl rfl
  have q6:=pJ Tryz.underlying31 hfit 6 _ rfl rfl rfl
  exact ⟨i3,i4,k0 q0,k1 q1,k2 q2,k5 q5,(k6 q6).1,(k6 q6).2⟩
theorem dQ {r:Reach} {b0:Nat} {t:TypeId} {fs:Array Field} {v:Value} {d:DataW H} {p:List MemPlace} (hs:Tryz.prog.underlying t=some (.struct fs)) (hv:Value.okWide Tryz.prog W r b0 t v) (h:DataW.Trod enc Tryz.prog W base spare held t v d p):∃(cs:List Value) (fuel:Nat),v=.agg cs.toArray/\DataW.trod enc Tryz.prog W base spare held fuel t cs=some (d,p):=by
 obtain ⟨cs,rfl,_⟩:=okWide_struct hs hv
 obtain ⟨fuel,hf⟩:=h
 exact ⟨cs.toList,fuel,by simp,by simpa [Value.cells] using hf⟩
theorem yU {r:Reach} {b0:Nat} {v:Value} {d:DataW H} {p:List MemPlace} (hv:Value.okWide Tryz.prog W r b0 31 v) (h:DataW.Trod enc Tryz.prog W base spare held 31 v d p) (hw:Fits d 31):∃(x:Cl) (m:Value),v=clv x m/\bH All W m x.lines/\aC x:=by
 obtain ⟨cs,fuel,rfl,hf⟩:=dQ Tryz.underlying31 hv h
 obtain ⟨x,m,rfl,h1,h2⟩:=nM hf
 exact ⟨x,m,rfl,h1,h2 hw⟩
end Go.Proofs.YtfbfeoplldjbpaaGreatDoor.Cm
end
section

end
