/-
  Texts put together (merge.py): LOpen, PLift, POpen.
-/
import Derived.Lay
import Derived.LaidOnce
import Derived.LaidMore
import Derived.Stop.Joined
import Derived.Lib.SmallJoins
import Derived.Shelf.Vars
import Derived.Test.YtfbfeoplldjbpaaGreatDoorRows
import Derived.Test.YtfbfeoplldjbpaaGreatDoorMd35
set_option linter.unusedSimpArgs false
set_option linter.unusedVariables false
set_option maxHeartbeats 16000000
set_option maxRecDepth 100000
namespace Go.Proofs.YtfbfeoplldjbpaaGreatDoor
namespace Cm
open Go.ChangeShapes Go.WideShapes Go.ChangeAt Go.RowKit Go.Deep
abbrev uJ:List (String × DataW Unit):=[("leechbook/date.lengths",Rows.laid_leechbook_date_lengths)]
theorem pR:Tryz.prog.globalNamed "leechbook/date.lengths" = some 2:=by kernel_rfl
theorem GK:(Tryz.prog.globals[2]?).map (·.type)=some 190:=by kernel_rfl
theorem cI:Tryz.prog.cellsOf 3=1:=by kernel_rfl
theorem jW:Tryz.prog.cellsOf 190=12:=by kernel_rfl
theorem fT {W:World} (h:laidMetH Tryz.prog uJ W):Da.Tab W:=by
 rw [MakeChecks.laidMetH_plain _ _ _ (by kernel_rfl)] at h;have t:Lib.TabIs Tryz.prog W "leechbook/date.lengths" .i64 Da.lens:=Lib.tabIs_of_head pR GK Tryz.underlying190 Tryz.underlying3 cI jW (rest:=[]) h;exact fun i hi=>t.cell pR i hi
theorem lift {H:Type} {enc:TypeId × Value->H} {os:Os} {f:FuncId} {fn:Func} {s:ChangeSpec} (own:ownKnob Tryz.prog.godebug=none) (started:os.Started) (noInit:Tryz.prog.inits.idxOf? f=none) (hfn:Tryz.prog.funcs[f]?=some fn)
  (witness:∃(w:World) (tape:Tape) (i:Input),w.os=os/\(w.forCall tape i).Shaped Tryz.prog/\i.vars=[]/\Input.okWide Tryz.prog (w.forCall tape i) .any w.heap.size f i/\((s.pre enc Tryz.prog fn [] false (w.forCall tape i).memory i.args/\laidMetH Tryz.prog uJ (w.forCall tape i).memory)/\sizedMet enc Tryz.prog fn (OpenSpec.ofChange s) false (w.forCall tape i).memory i.args)/\({}:Assume).holds Tryz.prog (lone (Frame.enter Tryz.prog f i.args .normal) [] (w.forCall tape i)))
  (contract:∀(W:World) (base:Nat) (args:Array Value) (ds gs:List (DataW H)) (before:List MemPlace),(∀(j:Nat) t v,fn.params[j]?=some t->args[j]?=some v->Value.okWide Tryz.prog W .any base t v)->DataW.Whole enc Tryz.prog fn.params.toList s.vars false W args.toList ds gs before->(DataW.weightsEach Tryz.prog (fn.params.toList ++ s.plain.varTypes Tryz.prog) (ds ++ gs)).all (· ≤ reachBytes)=true->Da.Tab W->Calls Tryz.prog f args W fun e W'=>∃v,e=.returned v/\s.post enc Tryz.prog fn false true false false W args v W') :
  ReturnsInHanded {} Tryz.checked os f .any (fun w args=>(s.pre enc Tryz.prog fn [] false w args/\laidMetH Tryz.prog uJ w)/\sizedMet enc Tryz.prog fn (OpenSpec.ofChange s) false w args) (s.post enc Tryz.prog fn false true false false):=by
 refine returnsInHanded_of_calls own started noInit witness ?_;intro w tape i _ hsh _ hok hpre _;obtain ⟨_,_,_,fn',hfn',_,_,_,_,hval⟩:=hok;obtain rfl:fn'=fn:=Option.some.inj (hfn'.symm.trans hfn);obtain ⟨⟨⟨ds,gs,before,hw,_⟩,hlaid⟩,hz⟩:=hpre;have hpw:Da.Tab (w.forCall tape i):=fun j hj=>fT hlaid j hj;refine (contract (w.forCall tape i) w.heap.size i.args ds gs before hval (DataW.Whole.of_heap (w':=w.forCall tape i) (by rfl) hw) (hz.weights hw) hpw).mono fun e W' ⟨v,he,hp⟩=>?_;subst he;exact ChangeSpec.post_blind hp
theorem dL (b o k:Nat):(⟨b,o,none⟩:Addr).add k=⟨b,o+k,none⟩:=by unfold Addr.add;split<;>simp_all
variable {H:Type} {enc:TypeId × Value->H} {W:World} {base:Nat} {spare:Nat->Bool} {held:Bool}
def Fits (d:DataW H) (t:TypeId):Prop:=∀z ∈ d.weights Tryz.prog t,z<=reachBytes
theorem Ib {P:Program} {e:TypeId}:∀ {ds:List (DataW H)} {d:DataW H},d ∈ ds->∀ {x:Nat},x ∈ d.weights P e->x ∈ DataW.weightsAll P e ds
 | [],d,h,_,_=>by cases h
 | c :: r,d,h,x,hx=>by
  unfold DataW.weightsAll;rcases List.mem_cons.1 h with rfl|h
  ·exact List.mem_append_left _ hx
  ·exact List.mem_append_right _ (Ib h hx)
theorem pG {t e:TypeId} (ht:Tryz.prog.underlying t=some (.slice e)) {elems rest:List (DataW H)} (h:Fits (.slice elems rest) t) {d:DataW H} (hd:d ∈ elems):Fits d e:=fun z hz=>h z (by
 unfold DataW.weights;rw [ht];exact List.mem_cons_of_mem _ (List.mem_append_left _ (Ib hd hz)))
theorem pI {t e:TypeId} (ht:Tryz.prog.underlying t=some (.slice e)) {elems rest:List (DataW H)} (h:Fits (.slice elems rest) t) (he:1<=Tryz.prog.bytesOf e):elems.length<=281474976710656:=by
 have h1:=h ((elems.length+rest.length) * Tryz.prog.bytesOf e) (by
  unfold DataW.weights;rw [ht];exact List.mem_cons_self ..)
 have h2:(elems.length+rest.length) * 1<=(elems.length+rest.length) * Tryz.prog.bytesOf e:=Nat.mul_le_mul_left _ he;unfold reachBytes at h1;omega
theorem pJ {t:TypeId} {fs:Array Field} (ht:Tryz.prog.underlying t=some (.struct fs)) {parts:List (DataW H)} (h:Fits (.agg parts) t) (k:Nat):∀(ts:List TypeId) (hts:fs.toList.map (·.type)=ts) {u:TypeId} {d:DataW H},ts[k]?=some u->parts[k]?=some d->Fits d u:=by
 intro ts hts u d hu hd z hz;refine h z ?_;unfold DataW.weights;rw [ht];simp only;rw [hts];clear hts h ht;induction ts generalizing k parts with
 | nil=>simp at hu
 | cons t0 r ih =>
  cases parts with
  | nil=>simp at hd
  | cons p0 pr =>
   unfold DataW.weightsEach;cases k with
   | zero =>
    simp at hu hd;subst hu hd;exact List.mem_append_left _ hz
   | succ k=>exact List.mem_append_right _ (ih k (by simpa using hu) (by simpa using hd))
theorem c9:Tryz.prog.cellsOf 9=1:=by kernel_rfl
theorem c64:Tryz.prog.cellsOf 2=1:=by kernel_rfl
theorem cTs:Tryz.prog.cellsOf 46=1:=by kernel_rfl
theorem cLs:Tryz.prog.cellsOf 29=1:=by kernel_rfl
theorem cL:Tryz.prog.cellsOf 48=6:=by kernel_rfl
theorem cC:Tryz.prog.cellsOf 31=7:=by kernel_rfl
theorem oh {n:Nat} {v:Value} {y:DataW H × List MemPlace} (h:DataW.trod enc Tryz.prog W base spare held n 9 [v]=some y):∃a:Tx,v=.string (mk a)/\(Fits y.1 9->a.length<=281474976710656):=by
 obtain ⟨s,h1,h2,_⟩:=DataW.trod_string Tryz.underlying9 h;refine ⟨s.data.toList,?_,fun hf=>?_⟩
 ·rw [xK];simpa using h1
 ·rw [h2] at hf;have:=hf s.data.toList.length (by unfold DataW.weights;simp);unfold reachBytes at this;omega
theorem nT {n:Nat} {v:Value} {y:DataW H × List MemPlace} (h:DataW.trod enc Tryz.prog W base spare held n 3 [v]=some y):∃a:Int,v=iI a/\I64 a:=by
 obtain ⟨a,h1,_,h3⟩:=DataW.trod_int Tryz.underlying3 h;refine ⟨a,by simpa using h1,?_⟩;simpa [I64,Lit.wf,IntKind.min,IntKind.max,IntKind.signed,IntKind.bits] using h3
theorem nS {n:Nat} {v:Value} {y:DataW H × List MemPlace} (h:DataW.trod enc Tryz.prog W base spare held n 2 [v]=some y):∃a:Int,v=iI a/\I64 a:=by
 obtain ⟨a,h1,_,h3⟩:=DataW.trod_int Tryz.underlying2 h;refine ⟨a,by simpa using h1,?_⟩;simpa [I64,Lit.wf,IntKind.min,IntKind.max,IntKind.signed,IntKind.bits] using h3
theorem zl {fuel:Nat} {v:Value} {y:DataW H × List MemPlace} (h:DataW.trod enc Tryz.prog W base spare held fuel 46 [v]=some y):∃xs:List Tx,dI All W v xs/\(Fits y.1 46->xs.length<=281474976710656/\∀x ∈ xs,x.length<=281474976710656):=by
 rcases open_slice1 Tryz.underlying46 c9 h with ⟨h0,_⟩|⟨a,len,cap,m,n,V,D,Pl,hv,hb,hl,hm,hmm,rfl,hx⟩
 ·obtain rfl:v=.slice none 0 0:=by simpa using h0
  exact ⟨[],dI.nil _ _,fun _=>by simp⟩
 ·obtain rfl:v=.slice (some a) len cap:=by simpa using hv
  have hlm:len<=m:=by rw [hmm];split<;>omega
  obtain ⟨Y,hY⟩:=choose_lt (α:=Tx) (p:=fun i y=>V i=.string (mk y)/\(Fits (D i) 9->y.length<=281474976710656)) (n:=len) (fun i hi=>oh (hx i (by omega)).2);have hxl:((List.range len).map Y).length=len:=by simp
  refine ⟨(List.range len).map Y,⟨some a,cap,by rw [hxl],by rw [hxl];exact hl,hm,?_⟩,fun hf=>⟨?_,fun x hx1=>?_⟩⟩
  ·rcases Nat.eq_zero_or_pos len with h0|h0
   ·subst h0;exact Or.inl rfl
   ·obtain ⟨b,o,sp⟩:=a;have hsp:sp=none:=by simpa [Addr.add] using World.cell?_spot (hx 0 (by omega)).1
    subst hsp;refine Or.inr ⟨b,o,rfl,trivial,World.block_lt_of_cell? W ⟨b,o+0,none⟩ (by have:=(hx 0 (by omega)).1;rwa [dL] at this),fun j x hj=>?_⟩;have hjl:j < len:=by have:=(List.getElem?_eq_some_iff.1 hj).1;simpa using this
    rw [List.getElem?_map,List.getElem?_range hjl] at hj;obtain rfl:=Option.some.inj hj;exact ⟨V j,by have:=(hx j (by omega)).1;rwa [dL] at this,(hY j hjl).1⟩
  ·have:=pI Tryz.underlying46 hf (by decide +kernel);simpa using this
  ·obtain ⟨i,hi,rfl⟩:=List.mem_map.1 hx1;have hil:=List.mem_range.1 hi;exact (hY i hil).2 (pG Tryz.underlying46 hf (List.mem_map.2 ⟨i,hi,rfl⟩))
theorem nU {n:Nat} {cs:List Value} {y:DataW H × List MemPlace} (h:DataW.trod enc Tryz.prog W base spare held n 48 cs=some y):∃(x:Ln) (m:Value),cs=[.string (mk x.proc),m,iI x.date,iI x.units,iI x.Av,iI x.prior]/\dI All W m x.mods/\(Fits y.1 48->bG x):=by
 obtain ⟨xs,n',_,rfl,hlen,hxl,hf⟩:=DataW.trod_struct Tryz.underlying48 h;rw [cL] at hlen;match xs,hxl,cs,hlen with
 | [y0,y1,y2,y3,y4,y5],_,[v0,v1,v2,v3,v4,v5],_ =>
  have h0:DataW.trod enc Tryz.prog W base spare held n' 9 ((([v0,v1,v2,v3,v4,v5]:List Value).drop 0).take (Tryz.prog.cellsOf 9))=some y0:=hf 0 _ rfl;have h1:DataW.trod enc Tryz.prog W base spare held n' 46 ((([v0,v1,v2,v3,v4,v5]:List Value).drop 1).take (Tryz.prog.cellsOf 46))=some y1:=hf 1 _ rfl;have h2:DataW.trod enc Tryz.prog W base spare held n' 3 ((([v0,v1,v2,v3,v4,v5]:List Value).drop 2).take (Tryz.prog.cellsOf 3))=some y2:=hf 2 _ rfl;have h3:DataW.trod enc Tryz.prog W base spare held n' 3 ((([v0,v1,v2,v3,v4,v5]:List Value).drop 3).take (Tryz.prog.cellsOf 3))=some y3:=hf 3 _ rfl;have h4:DataW.trod enc Tryz.prog W base spare held n' 2 ((([v0,v1,v2,v3,v4,v5]:List Value).drop 4).take (Tryz.prog.cellsOf 2))=some y4:=hf 4 _ rfl;have h5:DataW.trod enc Tryz.prog W base spare held n' 2 ((([v0,v1,v2,v3,v4,v5]:List Value).drop 5).take (Tryz.prog.cellsOf 2))=some y5:=hf 5 _ rfl;rw [c9] at h0;rw [cTs] at h1;rw [cI] at h2 h3;rw [c64] at h4 h5;obtain ⟨a0,rfl,k0⟩:=oh (y:=y0) (by simpa using h0);obtain ⟨a1,t1,k1⟩:=zl (y:=y1) (by simpa using h1);obtain ⟨a2,rfl,i2⟩:=nT (y:=y2) (by simpa using h2);obtain ⟨a3,rfl,i3⟩:=nT (y:=y3) (by simpa using h3);obtain ⟨a4,rfl,i4⟩:=nS (y:=y4) (by simpa using h4);obtain ⟨a5,rfl,i5⟩:=nS (y:=y5) (by simpa using h5);refine ⟨⟨a0,a1,a2,a3,a4,a5⟩,v1,rfl,t1,fun hfit=>?_⟩;have q0:=pJ Tryz.underlying48 hfit 0 _ rfl rfl rfl;have q1:=pJ Tryz.underlying48 hfit 1 _ rfl rfl rfl;exact ⟨i2,i3,i4,i5,k0 q0,(k1 q1).1,(k1 q1).2⟩
theorem y8 {fuel:Nat} {v:Value} {y:DataW H × List MemPlace} (h:DataW.trod enc Tryz.prog W base spare held fuel 29 [v]=some y):∃xs:List Ln,bH All W v xs/\(Fits y.1 29->xs.length<=281474976710656/\∀x ∈ xs,bG x):=by
 rcases open_slice Tryz.underlying29 h with ⟨h0,_⟩|⟨a,len,cap,m,n,D,Pl,hv,hb,hl,hm,hmm,rfl,hx⟩
 ·obtain rfl:v=.slice none 0 0:=by simpa using h0
  exact ⟨[],⟨none,0,rfl,by simp,by simp [maxLen],Or.inl rfl⟩,fun _=>by simp⟩
 ·obtain rfl:v=.slice (some a) len cap:=by simpa using hv
  have hlm:len<=m:=by rw [hmm];split<;>omega
  rw [cL] at hx;obtain ⟨Y,hY⟩:=@choose_lt Ln ⟨ln0⟩ len (fun i y=>∃mv,(∀r,r < 6->W.cell? ((a.add (i * 6)).add r)=[.string (mk y.proc),mv,iI y.date,iI y.units,iI y.Av,iI y.prior][r]?)/\dI All W mv y.mods/\(Fits (D i) 48->bG y)) (fun i hi=>by
   obtain ⟨cs',g1,g2⟩:=hx i (by omega);obtain ⟨x,mv,rfl,q1,q2⟩:=nU g2;obtain ⟨_,_,hcell⟩:=World.cells?_some g1;exact ⟨x,mv,fun r hr=>hcell r hr,q1,q2⟩)
  have hxl:((List.range len).map Y).length=len:=by simp
  refine ⟨(List.range len).map Y,⟨some a,cap,by rw [hxl],by rw [hxl];exact hl,hm,?_⟩,fun hf=>⟨?_,fun x hx1=>?_⟩⟩
  ·rcases Nat.eq_zero_or_pos len with h0|h0
   ·subst h0;exact Or.inl rfl
   ·obtain ⟨b,o,sp⟩:=a;obtain ⟨mv0,hc0,-,-⟩:=hY 0 h0;have hc00:=hc0 0 (by omega);have hsp:sp=none:=by
     have:=World.cell?_spot hc00;simpa [Addr.add] using this
    subst hsp;rw [dL,dL] at hc00;refine Or.inr ⟨b,o,rfl,trivial,World.block_lt_of_cell? W _ hc00,fun j x hj=>?_⟩;have hjl:j < len:=by have:=(List.getElem?_eq_some_iff.1 hj).1;simpa using this
    rw [List.getElem?_map,List.getElem?_range hjl] at hj;obtain rfl:=Option.some.inj hj;obtain ⟨mv,hc,ht,-⟩:=hY j hjl;refine ⟨mv,?_,ht⟩;have e:∀r,r < 6->W.cell? ⟨b,o+j * 6+r,none⟩=[.string (mk (Y j).proc),mv,iI (Y j).date,iI (Y j).units,iI (Y j).Av,iI (Y j).prior][r]?:=fun r hr=>by
     have:=hc r hr;rwa [dL,dL] at this
    exact ⟨e 0 (by omega),e 1 (by omega),e 2 (by omega),e 3 (by omega),e 4 (by omega),e 5 (by omega)⟩
  ·have:=pI Tryz.underlying29 hf (by decide +kernel);simpa using this
  ·obtain ⟨i,hi,rfl⟩:=List.mem_map.1 hx1;have hil:=List.mem_range.1 hi;obtain ⟨_,_,_,q⟩:=hY i hil;exact q (pG Tryz.underlying29 hf (List.mem_map.2 ⟨i,hi,rfl⟩))
theorem nM {n:Nat} {cs:List Value} {y:DataW H × List MemPlace} (h:DataW.trod enc Tryz.prog W base spare held n 31 cs=some y):∃(x:Cl) (m:Value),cs=[.string (mk x.id),.string (mk x.mem),.string (mk x.Br),iI x.net,iI x.does,.string (mk x.ref),m]/\bH All W m x.lines/\(Fits y.1 31->aC x):=by
 obtain ⟨xs,n',_,rfl,hlen,hxl,hf⟩:=DataW.trod_struct Tryz.underlying31 h;rw [cC] at hlen;match xs,hxl,cs,hlen with
 | [y0,y1,y2,y3,y4,y5,y6],_,[v0,v1,v2,v3,v4,v5,v6],_ =>
  have h0:DataW.trod enc Tryz.prog W base spare held n' 9 ((([v0,v1,v2,v3,v4,v5,v6]:List Value).drop 0).take (Tryz.prog.cellsOf 9))=some y0:=hf 0 _ rfl;have h1:DataW.trod enc Tryz.prog W base spare held n' 9 ((([v0,v1,v2,v3,v4,v5,v6]:List Value).drop 1).take (Tryz.prog.cellsOf 9))=some y1:=hf 1 _ rfl;have h2:DataW.trod enc Tryz.prog W base spare held n' 9 ((([v0,v1,v2,v3,v4,v5,v6]:List Value).drop 2).take (Tryz.prog.cellsOf 9))=some y2:=hf 2 _ rfl;have h3:DataW.trod enc Tryz.prog W base spare held n' 3 ((([v0,v1,v2,v3,v4,v5,v6]:List Value).drop 3).take (Tryz.prog.cellsOf 3))=some y3:=hf 3 _ rfl;have h4:DataW.trod enc Tryz.prog W base spare held n' 3 ((([v0,v1,v2,v3,v4,v5,v6]:List Value).drop 4).take (Tryz.prog.cellsOf 3))=some y4:=hf 4 _ rfl;have h5:DataW.trod enc Tryz.prog W base spare held n' 9 ((([v0,v1,v2,v3,v4,v5,v6]:List Value).drop 5).take (Tryz.prog.cellsOf 9))=some y5:=hf 5 _ rfl;have h6:DataW.trod enc Tryz.prog W base spare held n' 29 ((([v0,v1,v2,v3,v4,v5,v6]:List Value).drop 6).take (Tryz.prog.cellsOf 29))=some y6:=hf 6 _ rfl;rw [c9] at h0 h1 h2 h5;rw [cI] at h3 h4;rw [cLs] at h6;obtain ⟨a0,rfl,k0⟩:=oh (y:=y0) (by simpa using h0);obtain ⟨a1,rfl,k1⟩:=oh (y:=y1) (by simpa using h1);obtain ⟨a2,rfl,k2⟩:=oh (y:=y2) (by simpa using h2);obtain ⟨a3,rfl,i3⟩:=nT (y:=y3) (by simpa using h3);obtain ⟨a4,rfl,i4⟩:=nT (y:=y4) (by simpa using h4);obtain ⟨a5,rfl,k5⟩:=oh (y:=y5) (by simpa using h5);obtain ⟨a6,t6,k6⟩:=y8 (y:=y6) (by simpa using h6);refine ⟨⟨a0,a1,a2,a3,a4,a5,a6⟩,v6,rfl,t6,fun hfit=>?_⟩;have q0:=pJ Tryz.underlying31 hfit 0 _ rfl rfl rfl;have q1:=pJ Tryz.underlying31 hfit 1 _ rfl rfl rfl;have q2:=pJ Tryz.underlying31 hfit 2 _ rfl rfl rfl;have q5:=pJ Tryz.underlying31 hfit 5 _ rfl rfl rfl;have q6:=pJ Tryz.underlying31 hfit 6 _ rfl rfl rfl;exact ⟨i3,i4,k0 q0,k1 q1,k2 q2,k5 q5,(k6 q6).1,(k6 q6).2⟩
theorem dQ {r:Reach} {b0:Nat} {t:TypeId} {fs:Array Field} {v:Value} {d:DataW H} {p:List MemPlace} (hs:Tryz.prog.underlying t=some (.struct fs)) (hv:Value.okWide Tryz.prog W r b0 t v) (h:DataW.Trod enc Tryz.prog W base spare held t v d p):∃(cs:List Value) (fuel:Nat),v=.agg cs.toArray/\DataW.trod enc Tryz.prog W base spare held fuel t cs=some (d,p):=by
 obtain ⟨cs,rfl,_⟩:=okWide_struct hs hv;obtain ⟨fuel,hf⟩:=h;exact ⟨cs.toList,fuel,by simp,by simpa [Value.cells] using hf⟩
theorem yU {r:Reach} {b0:Nat} {v:Value} {d:DataW H} {p:List MemPlace} (hv:Value.okWide Tryz.prog W r b0 31 v) (h:DataW.Trod enc Tryz.prog W base spare held 31 v d p) (hw:Fits d 31):∃(x:Cl) (m:Value),v=clv x m/\bH All W m x.lines/\aC x:=by
 obtain ⟨cs,fuel,rfl,hf⟩:=dQ Tryz.underlying31 hv h;obtain ⟨x,m,rfl,h1,h2⟩:=nM hf;exact ⟨x,m,rfl,h1,h2 hw⟩
end Cm
namespace Pl
open Go.ChangeShapes Go.WideShapes Go.ChangeAt Go.RowKit Go.Deep
theorem dL (b o k:Nat):(⟨b,o,none⟩:Addr).add k=⟨b,o+k,none⟩:=by unfold Addr.add;split<;>simp_all
variable {H:Type} {enc:TypeId × Value->H} {W:World} {base:Nat} {spare:Nat->Bool} {held:Bool}
def Fits (d:DataW H) (t:TypeId):Prop:=∀z ∈ d.weights Tryz.prog t,z<=reachBytes
theorem Ib {P:Program} {e:TypeId}:∀ {ds:List (DataW H)} {d:DataW H},d ∈ ds->∀ {x:Nat},x ∈ d.weights P e->x ∈ DataW.weightsAll P e ds
 | [],d,h,_,_=>by cases h
 | c :: r,d,h,x,hx=>by
  unfold DataW.weightsAll;rcases List.mem_cons.1 h with rfl|h
  ·exact List.mem_append_left _ hx
  ·exact List.mem_append_right _ (Ib h hx)
theorem pG {t e:TypeId} (ht:Tryz.prog.underlying t=some (.slice e)) {elems rest:List (DataW H)} (h:Fits (.slice elems rest) t) {d:DataW H} (hd:d ∈ elems):Fits d e:=fun z hz=>h z (by
 unfold DataW.weights;rw [ht];exact List.mem_cons_of_mem _ (List.mem_append_left _ (Ib hd hz)))
theorem pI {t e:TypeId} (ht:Tryz.prog.underlying t=some (.slice e)) {elems rest:List (DataW H)} (h:Fits (.slice elems rest) t) (he:1<=Tryz.prog.bytesOf e):elems.length<=281474976710656:=by
 have h1:=h ((elems.length+rest.length) * Tryz.prog.bytesOf e) (by
  unfold DataW.weights;rw [ht];exact List.mem_cons_self ..)
 have h2:(elems.length+rest.length) * 1<=(elems.length+rest.length) * Tryz.prog.bytesOf e:=Nat.mul_le_mul_left _ he;unfold reachBytes at h1;omega
theorem pJ {t:TypeId} {fs:Array Field} (ht:Tryz.prog.underlying t=some (.struct fs)) {parts:List (DataW H)} (h:Fits (.agg parts) t) (k:Nat):∀(ts:List TypeId) (hts:fs.toList.map (·.type)=ts) {u:TypeId} {d:DataW H},ts[k]?=some u->parts[k]?=some d->Fits d u:=by
 intro ts hts u d hu hd z hz;refine h z ?_;unfold DataW.weights;rw [ht];simp only;rw [hts];clear hts h ht;induction ts generalizing k parts with
 | nil=>simp at hu
 | cons t0 r ih =>
  cases parts with
  | nil=>simp at hd
  | cons p0 pr =>
   unfold DataW.weightsEach;cases k with
   | zero =>
    simp at hu hd;subst hu hd;exact List.mem_append_left _ hz
   | succ k=>exact List.mem_append_right _ (ih k (by simpa using hu) (by simpa using hd))
theorem oh {n:Nat} {v:Value} {y:DataW H × List MemPlace} (h:DataW.trod enc Tryz.prog W base spare held n 9 [v]=some y):∃a:Tx,v=.string (mk a)/\(Fits y.1 9->a.length<=281474976710656):=by
 obtain ⟨s,h1,h2,_⟩:=DataW.trod_string Tryz.underlying9 h;refine ⟨s.data.toList,?_,fun hf=>?_⟩
 ·rw [xK];simpa using h1
 ·rw [h2] at hf;have:=hf s.data.toList.length (by unfold DataW.weights;simp);unfold reachBytes at this;omega
theorem nT {n:Nat} {v:Value} {y:DataW H × List MemPlace} (h:DataW.trod enc Tryz.prog W base spare held n 3 [v]=some y):∃a:Int,v=iI a/\Cm.I64 a:=by
 obtain ⟨a,h1,_,h3⟩:=DataW.trod_int Tryz.underlying3 h;refine ⟨a,by simpa using h1,?_⟩;simpa [Cm.I64,Lit.wf,IntKind.min,IntKind.max,IntKind.signed,IntKind.bits] using h3
theorem nS {n:Nat} {v:Value} {y:DataW H × List MemPlace} (h:DataW.trod enc Tryz.prog W base spare held n 2 [v]=some y):∃a:Int,v=iI a/\Cm.I64 a:=by
 obtain ⟨a,h1,_,h3⟩:=DataW.trod_int Tryz.underlying2 h;refine ⟨a,by simpa using h1,?_⟩;simpa [Cm.I64,Lit.wf,IntKind.min,IntKind.max,IntKind.signed,IntKind.bits] using h3
theorem yV {fuel:Nat} {v:Value} {y:DataW H × List MemPlace}
  (EC:∀ {n:Nat} {cs:List Value} {z:DataW H × List MemPlace},SizeOf.sizeOf z.1 < SizeOf.sizeOf y.1->DataW.trod enc Tryz.prog W base spare held n 79 cs=some z->Fits z.1 79->∃(x:Cd) (m:Value),cs=[iI x.kind,.string (mk x.lo),.string (mk x.hi),iI x.n,m]/\aX All W m x.kids/\Ok1 x)
  (h:DataW.trod enc Tryz.prog W base spare held fuel 77 [v]=some y) (hf:Fits y.1 77):∃xs:List Cd,aX All W v xs/\xs.length<=281474976710656:=by
 rcases open_slice Tryz.underlying77 h with ⟨h0,_⟩|⟨a,len,cap,m,n,D,Pl,hv,hb,hl,hm,hmm,rfl,hx⟩
 ·obtain rfl:v=.slice none 0 0:=by simpa using h0
  exact ⟨[],aX.nil _ _,by simp⟩
 ·obtain rfl:v=.slice (some a) len cap:=by simpa using hv
  have hlm:len<=m:=by rw [hmm];split<;>omega
  rw [show Tryz.prog.cellsOf 79=5 by kernel_rfl] at hx;obtain ⟨Y,hY⟩:=@choose_lt (Cd × Value) ⟨(cd0,.bool false)⟩ len (fun i y=>(∀r,r < 5->W.cell? ((a.add (i * 5)).add r)=[iI y.1.kind,.string (mk y.1.lo),.string (mk y.1.hi),iI y.1.n,y.2][r]?)/\aX All W y.2 y.1.kids/\Ok1 y.1) (fun i hi=>by
   obtain ⟨cs',g1,g2⟩:=hx i (by omega);have hmem:D i ∈ (List.range len).map D:=List.mem_map.2 ⟨i,List.mem_range.2 hi,rfl⟩;obtain ⟨x,mv,rfl,q1,q2⟩:=EC (z:=(D i,Pl i)) (by
    have h1:=List.sizeOf_lt_of_mem hmem;show SizeOf.sizeOf (D i) < SizeOf.sizeOf (DataW.slice ((List.range len).map D) _);rw [DataW.slice.sizeOf_spec];omega) g2 (pG Tryz.underlying77 hf hmem)
   obtain ⟨_,_,hcell⟩:=World.cells?_some g1;exact ⟨(x,mv),fun r hr=>hcell r hr,q1,q2⟩)
  have hxl:((List.range len).map fun i=>(Y i).1).length=len:=by simp
  have hget:∀(j:Nat) x,((List.range len).map fun i=>(Y i).1)[j]?=some x->j < len/\x=(Y j).1:=fun j x hj=>by
   have hjl:j < len:=by have:=(List.getElem?_eq_some_iff.1 hj).1;simpa using this
   rw [List.getElem?_map,List.getElem?_range hjl] at hj;exact ⟨hjl,(Option.some.inj hj).symm⟩
  refine ⟨(List.range len).map fun i=>(Y i).1,aX.mk (some a) cap (fun j=>(Y j).2) (by rw [hxl]) (by rw [hxl];exact hl) hm (fun x hx1=>?_) ?_ (fun j x hj=>?_),?_⟩
  ·obtain ⟨i,hi,rfl⟩:=List.mem_map.1 hx1;exact (hY i (List.mem_range.1 hi)).2.2
  ·rcases Nat.eq_zero_or_pos len with h0|h0
   ·subst h0;exact Or.inl rfl
   ·obtain ⟨b,o,sp⟩:=a;have hc00:=(hY 0 h0).1 0 (by omega);have hsp:sp=none:=by
     have:=World.cell?_spot hc00;simpa [Addr.add] using this
    subst hsp;rw [dL,dL] at hc00;refine Or.inr ⟨b,o,rfl,trivial,World.block_lt_of_cell? W _ hc00,fun j x hj=>?_⟩;obtain ⟨hjl,rfl⟩:=hget j x hj;have e:∀r,r < 5->W.cell? ⟨b,o+j * 5+r,none⟩=[iI (Y j).1.kind,.string (mk (Y j).1.lo),.string (mk (Y j).1.hi),iI (Y j).1.n,(Y j).2][r]?:=fun r hr=>by
     have:=(hY j hjl).1 r hr;rwa [dL,dL] at this
    exact ⟨e 0 (by omega),e 1 (by omega),e 2 (by omega),e 3 (by omega),e 4 (by omega)⟩
  ·obtain ⟨hjl,rfl⟩:=hget j x hj;exact (hY j hjl).2.1
  ·have:=pI Tryz.underlying77 hf (by decide +kernel);simpa using this
theorem nO:∀(N:Nat) {n:Nat} {cs:List Value} {y:DataW H × List MemPlace},SizeOf.sizeOf y.1<=N->DataW.trod enc Tryz.prog W base spare held n 79 cs=some y->Fits y.1 79->∃(x:Cd) (m:Value),cs=[iI x.kind,.string (mk x.lo),.string (mk x.hi),iI x.n,m]/\aX All W m x.kids/\Ok1 x:=by
 intro N;induction N with
 | zero =>
  intro n cs y hy h hfit;obtain ⟨xs,n',_,rfl,hlen,hxl,hf⟩:=DataW.trod_struct Tryz.underlying79 h;exfalso;have:SizeOf.sizeOf (DataW.agg (xs.map (·.1)))<=0:=hy;rw [DataW.agg.sizeOf_spec] at this;omega
 | succ N ih =>
 intro n cs y hy h hfit;obtain ⟨xs,n',_,rfl,hlen,hxl,hf⟩:=DataW.trod_struct Tryz.underlying79 h;rw [show Tryz.prog.cellsOf 79=5 by kernel_rfl] at hlen;match xs,hxl,cs,hlen with
 | [y0,y1,y2,y3,y4],_,[v0,v1,v2,v3,v4],_ =>
  have h0:DataW.trod enc Tryz.prog W base spare held n' 3 ((([v0,v1,v2,v3,v4]:List Value).drop 0).take (Tryz.prog.cellsOf 3))=some y0:=hf 0 _ rfl;rw [show Tryz.prog.cellsOf 3=1 by kernel_rfl] at h0;have h1:DataW.trod enc Tryz.prog W base spare held n' 9 ((([v0,v1,v2,v3,v4]:List Value).drop 1).take (Tryz.prog.cellsOf 9))=some y1:=hf 1 _ rfl;rw [show Tryz.prog.cellsOf 9=1 by kernel_rfl] at h1;have h2:DataW.trod enc Tryz.prog W base spare held n' 9 ((([v0,v1,v2,v3,v4]:List Value).drop 2).take (Tryz.prog.cellsOf 9))=some y2:=hf 2 _ rfl;rw [show Tryz.prog.cellsOf 9=1 by kernel_rfl] at h2;have h3:DataW.trod enc Tryz.prog W base spare held n' 2 ((([v0,v1,v2,v3,v4]:List Value).drop 3).take (Tryz.prog.cellsOf 2))=some y3:=hf 3 _ rfl;rw [show Tryz.prog.cellsOf 2=1 by kernel_rfl] at h3;have h4:DataW.trod enc Tryz.prog W base spare held n' 77 ((([v0,v1,v2,v3,v4]:List Value).drop 4).take (Tryz.prog.cellsOf 77))=some y4:=hf 4 _ rfl;rw [show Tryz.prog.cellsOf 77=1 by kernel_rfl] at h4;have q1:=pJ Tryz.underlying79 hfit 1 _ rfl rfl rfl;have q2:=pJ Tryz.underlying79 hfit 2 _ rfl rfl rfl;have q4:=pJ Tryz.underlying79 hfit 4 _ rfl rfl rfl;obtain ⟨a0,rfl,i0⟩:=nT (y:=y0) (by simpa using h0);obtain ⟨a1,rfl,k1⟩:=oh (y:=y1) (by simpa using h1);obtain ⟨a2,rfl,k2⟩:=oh (y:=y2) (by simpa using h2);obtain ⟨a3,rfl,i3⟩:=nS (y:=y3) (by simpa using h3);have hs:SizeOf.sizeOf y4.1<=N:=by
   have:SizeOf.sizeOf (DataW.agg [y0.1,y1.1,y2.1,y3.1,y4.1])<=N+1:=hy;rw [DataW.agg.sizeOf_spec] at this;have h4:=List.sizeOf_lt_of_mem (show y4.1 ∈ [y0.1,y1.1,y2.1,y3.1,y4.1] by simp);omega
  obtain ⟨a4,t4,l4⟩:=yV (y:=y4) (fun hz hz2 hz3=>ih (by omega) hz2 hz3) (by simpa using h4) q4;exact ⟨.mk a0 a1 a2 a3 a4,v4,rfl,t4,i0,i3,k1 q1,k2 q2,l4⟩
theorem nN {n:Nat} {cs:List Value} {y:DataW H × List MemPlace} (h:DataW.trod enc Tryz.prog W base spare held n 79 cs=some y) (hf:Fits y.1 79):∃(x:Cd) (m:Value),cs=[iI x.kind,.string (mk x.lo),.string (mk x.hi),iI x.n,m]/\aX All W m x.kids/\Ok1 x:=
 nO (SizeOf.sizeOf y.1) (Nat.le_refl _) h hf
theorem yX {fuel:Nat} {v:Value} {y:DataW H × List MemPlace} (h:DataW.trod enc Tryz.prog W base spare held fuel 77 [v]=some y) (hf:Fits y.1 77):∃xs:List Cd,aX All W v xs/\xs.length<=281474976710656:=
 yV (fun _ hz2 hz3=>nN hz2 hz3) h hf
theorem nY {n:Nat} {cs:List Value} {y:DataW H × List MemPlace} (h:DataW.trod enc Tryz.prog W base spare held n 85 cs=some y):∃(x:St),cs=[iI x.what,iI x.n]/\Cm.I64 x.what/\Cm.I64 x.n:=by
 obtain ⟨xs,n',_,rfl,hlen,hxl,hf⟩:=DataW.trod_struct Tryz.underlying85 h;rw [show Tryz.prog.cellsOf 85=2 by kernel_rfl] at hlen;match xs,hxl,cs,hlen with
 | [y0,y1],_,[v0,v1],_ =>
  have h0:DataW.trod enc Tryz.prog W base spare held n' 3 ((([v0,v1]:List Value).drop 0).take (Tryz.prog.cellsOf 3))=some y0:=hf 0 _ rfl;rw [show Tryz.prog.cellsOf 3=1 by kernel_rfl] at h0;have h1:DataW.trod enc Tryz.prog W base spare held n' 2 ((([v0,v1]:List Value).drop 1).take (Tryz.prog.cellsOf 2))=some y1:=hf 1 _ rfl;rw [show Tryz.prog.cellsOf 2=1 by kernel_rfl] at h1;obtain ⟨a0,rfl,i0⟩:=nT (y:=y0) (by simpa using h0);obtain ⟨a1,rfl,i1⟩:=nS (y:=y1) (by simpa using h1);exact ⟨⟨a0,a1⟩,rfl,i0,i1⟩
theorem zi {fuel:Nat} {v:Value} {y:DataW H × List MemPlace} (h:DataW.trod enc Tryz.prog W base spare held fuel 80 [v]=some y) (hf:Fits y.1 80):∃xs:List St,dD All W v xs:=by
 rcases open_slice Tryz.underlying80 h with ⟨h0,_⟩|⟨a,len,cap,m,n,D,Pl,hv,hb,hl,hm,hmm,rfl,hx⟩
 ·obtain rfl:v=.slice none 0 0:=by simpa using h0
  exact ⟨[],dD.nil _ _⟩
 ·obtain rfl:v=.slice (some a) len cap:=by simpa using hv
  have hlm:len<=m:=by rw [hmm];split<;>omega
  rw [show Tryz.prog.cellsOf 85=2 by kernel_rfl] at hx;obtain ⟨Y,hY⟩:=@choose_lt St ⟨⟨0,0⟩⟩ len (fun i y=>(∀r,r < 2->W.cell? ((a.add (i * 2)).add r)=[iI y.what,iI y.n][r]?)/\Cm.I64 y.what/\Cm.I64 y.n) (fun i hi=>by
   obtain ⟨cs',g1,g2⟩:=hx i (by omega);obtain ⟨x,rfl,q1,q2⟩:=nY g2;obtain ⟨_,_,hcell⟩:=World.cells?_some g1;exact ⟨x,fun r hr=>hcell r hr,q1,q2⟩)
  have hxl:((List.range len).map Y).length=len:=by simp
  have hbig:=pI Tryz.underlying80 hf (by decide +kernel);refine ⟨(List.range len).map Y,some a,cap,by rw [hxl],by rw [hxl];exact hl,hm,by rw [hxl];simpa using hbig,fun x hx1=>?_,?_⟩
  ·obtain ⟨i,hi,rfl⟩:=List.mem_map.1 hx1;exact (hY i (List.mem_range.1 hi)).2
  ·rcases Nat.eq_zero_or_pos len with h0|h0
   ·subst h0;exact Or.inl rfl
   ·obtain ⟨b,o,sp⟩:=a;have hc00:=(hY 0 h0).1 0 (by omega);have hsp:sp=none:=by
     have:=World.cell?_spot hc00;simpa [Addr.add] using this
    subst hsp;rw [dL,dL] at hc00;refine Or.inr ⟨b,o,rfl,trivial,World.block_lt_of_cell? W _ hc00,fun j x hj=>?_⟩;have hjl:j < len:=by have:=(List.getElem?_eq_some_iff.1 hj).1;simpa using this
    rw [List.getElem?_map,List.getElem?_range hjl] at hj;obtain rfl:=Option.some.inj hj;have e:∀r,r < 2->W.cell? ⟨b,o+j * 2+r,none⟩=[iI (Y j).what,iI (Y j).n][r]?:=fun r hr=>by
     have:=(hY j hjl).1 r hr;rwa [dL,dL] at this
    exact ⟨e 0 (by omega),e 1 (by omega)⟩
theorem nX {n:Nat} {cs:List Value} {y:DataW H × List MemPlace} (h:DataW.trod enc Tryz.prog W base spare held n 82 cs=some y) (hfit:Fits y.1 82):∃(x:Ru) (k u s:Value),cs=[iI x.rank,iI x.BS.kind,.string (mk x.BS.lo),.string (mk x.BS.hi),iI x.BS.n,k,u,s]/\bW All W x k u s:=by
 obtain ⟨xs,n',_,rfl,hlen,hxl,hf⟩:=DataW.trod_struct Tryz.underlying82 h;rw [show Tryz.prog.cellsOf 82=8 by kernel_rfl] at hlen;match xs,hxl,cs,hlen with
 | [y0,y1,y2,y3],_,[v0,v1,v2,v3,v4,v5,v6,v7],_ =>
  have h0:DataW.trod enc Tryz.prog W base spare held n' 3 ((([v0,v1,v2,v3,v4,v5,v6,v7]:List Value).drop 0).take (Tryz.prog.cellsOf 3))=some y0:=hf 0 _ rfl;rw [show Tryz.prog.cellsOf 3=1 by kernel_rfl] at h0;have h1:DataW.trod enc Tryz.prog W base spare held n' 79 ((([v0,v1,v2,v3,v4,v5,v6,v7]:List Value).drop 1).take (Tryz.prog.cellsOf 79))=some y1:=hf 1 _ rfl;rw [show Tryz.prog.cellsOf 79=5 by kernel_rfl] at h1;have h2:DataW.trod enc Tryz.prog W base spare held n' 77 ((([v0,v1,v2,v3,v4,v5,v6,v7]:List Value).drop 6).take (Tryz.prog.cellsOf 77))=some y2:=hf 2 _ rfl;rw [show Tryz.prog.cellsOf 77=1 by kernel_rfl] at h2;have h3:DataW.trod enc Tryz.prog W base spare held n' 80 ((([v0,v1,v2,v3,v4,v5,v6,v7]:List Value).drop 7).take (Tryz.prog.cellsOf 80))=some y3:=hf 3 _ rfl;rw [show Tryz.prog.cellsOf 80=1 by kernel_rfl] at h3;have q1:=pJ Tryz.underlying82 hfit 1 _ rfl rfl rfl;have q2:=pJ Tryz.underlying82 hfit 2 _ rfl rfl rfl;have q3:=pJ Tryz.underlying82 hfit 3 _ rfl rfl rfl;obtain ⟨a0,rfl,i0⟩:=nT (y:=y0) (by simpa using h0);obtain ⟨a1,m1,e1,t1,k1⟩:=nN (y:=y1) h1 q1;have e1':[v1,v2,v3,v4,v5]=[iI a1.kind,.string (mk a1.lo),.string (mk a1.hi),iI a1.n,m1]:=e1;simp only [List.cons.injEq,and_true] at e1';obtain ⟨rfl,rfl,rfl,rfl,rfl⟩:=e1';obtain ⟨a2,t2,l2⟩:=yX (y:=y2) (by simpa using h2) q2;obtain ⟨a3,t3⟩:=zi (y:=y3) (by simpa using h3) q3;exact ⟨⟨a0,a1,a2,a3⟩,_,_,_,rfl,i0,k1,l2,t1,t2,t3⟩
theorem zh {fuel:Nat} {v:Value} {y:DataW H × List MemPlace} (h:DataW.trod enc Tryz.prog W base spare held fuel 22 [v]=some y) (hf:Fits y.1 22):∃xs:List Ru,bY All W v xs:=by
 rcases open_slice Tryz.underlying22 h with ⟨h0,_⟩|⟨a,len,cap,m,n,D,Pl,hv,hb,hl,hm,hmm,rfl,hx⟩
 ·obtain rfl:v=.slice none 0 0:=by simpa using h0
  exact ⟨[],bY.nil _ _⟩
 ·obtain rfl:v=.slice (some a) len cap:=by simpa using hv
  have hlm:len<=m:=by rw [hmm];split<;>omega
  rw [show Tryz.prog.cellsOf 82=8 by kernel_rfl] at hx;obtain ⟨Y,hY⟩:=@choose_lt Ru ⟨⟨0,cd0,[],[]⟩⟩ len (fun i y=>∃k u s,(∀r,r < 8->W.cell? ((a.add (i * 8)).add r)=[iI y.rank,iI y.BS.kind,.string (mk y.BS.lo),.string (mk y.BS.hi),iI y.BS.n,k,u,s][r]?)/\bW All W y k u s) (fun i hi=>by
   obtain ⟨cs',g1,g2⟩:=hx i (by omega);obtain ⟨x,k,u,s,rfl,q1⟩:=nX g2 (pG Tryz.underlying22 hf (List.mem_map.2 ⟨i,List.mem_range.2 hi,rfl⟩));obtain ⟨_,_,hcell⟩:=World.cells?_some g1;exact ⟨x,k,u,s,fun r hr=>hcell r hr,q1⟩)
  have hxl:((List.range len).map Y).length=len:=by simp
  have hbig:=pI Tryz.underlying22 hf (by decide +kernel);refine ⟨(List.range len).map Y,some a,cap,by rw [hxl],by rw [hxl];exact hl,hm,by rw [hxl];simpa using hbig,?_⟩;rcases Nat.eq_zero_or_pos len with h0|h0
  ·subst h0;exact Or.inl rfl
  ·obtain ⟨b,o,sp⟩:=a;obtain ⟨_,_,_,hc0,-⟩:=hY 0 h0;have hc00:=hc0 0 (by omega);have hsp:sp=none:=by
    have:=World.cell?_spot hc00;simpa [Addr.add] using this
   subst hsp;rw [dL,dL] at hc00;refine Or.inr ⟨b,o,rfl,trivial,World.block_lt_of_cell? W _ hc00,fun j x hj=>?_⟩;have hjl:j < len:=by have:=(List.getElem?_eq_some_iff.1 hj).1;simpa using this
   rw [List.getElem?_map,List.getElem?_range hjl] at hj;obtain rfl:=Option.some.inj hj;obtain ⟨k,u,s,hc,hin⟩:=hY j hjl;have e:∀r,r < 8->W.cell? ⟨b,o+j * 8+r,none⟩=[iI (Y j).rank,iI (Y j).BS.kind,.string (mk (Y j).BS.lo),.string (mk (Y j).BS.hi),iI (Y j).BS.n,k,u,s][r]?:=fun r hr=>by
    have:=hc r hr;rwa [dL,dL] at this
   exact ⟨k,u,s,⟨e 0 (by omega),e 1 (by omega),e 2 (by omega),e 3 (by omega),e 4 (by omega),e 5 (by omega),e 6 (by omega),e 7 (by omega)⟩,hin⟩
theorem nV {n:Nat} {cs:List Value} {y:DataW H × List MemPlace} (h:DataW.trod enc Tryz.prog W base spare held n 24 cs=some y) (hfit:Fits y.1 24):∃(x:Pn) (m:Value),cs=[iI x.mode,iI x.Ay,iI x.AR,iI x.Bb,iI x.AJ,m]/\bY All W m x.rules/\bQ x:=by
 obtain ⟨xs,n',_,rfl,hlen,hxl,hf⟩:=DataW.trod_struct Tryz.underlying24 h;rw [show Tryz.prog.cellsOf 24=6 by kernel_rfl] at hlen;match xs,hxl,cs,hlen with
 | [y0,y1,y2,y3,y4,y5],_,[v0,v1,v2,v3,v4,v5],_ =>
  have h0:DataW.trod enc Tryz.prog W base spare held n' 3 ((([v0,v1,v2,v3,v4,v5]:List Value).drop 0).take (Tryz.prog.cellsOf 3))=some y0:=hf 0 _ rfl;rw [show Tryz.prog.cellsOf 3=1 by kernel_rfl] at h0;have h1:DataW.trod enc Tryz.prog W base spare held n' 2 ((([v0,v1,v2,v3,v4,v5]:List Value).drop 1).take (Tryz.prog.cellsOf 2))=some y1:=hf 1 _ rfl;rw [show Tryz.prog.cellsOf 2=1 by kernel_rfl] at h1;have h2:DataW.trod enc Tryz.prog W base spare held n' 2 ((([v0,v1,v2,v3,v4,v5]:List Value).drop 2).take (Tryz.prog.cellsOf 2))=some y2:=hf 2 _ rfl;rw [show Tryz.prog.cellsOf 2=1 by kernel_rfl] at h2;have h3:DataW.trod enc Tryz.prog W base spare held n' 2 ((([v0,v1,v2,v3,v4,v5]:List Value).drop 3).take (Tryz.prog.cellsOf 2))=some y3:=hf 3 _ rfl;rw [show Tryz.prog.cellsOf 2=1 by kernel_rfl] at h3;have h4:DataW.trod enc Tryz.prog W base spare held n' 2 ((([v0,v1,v2,v3,v4,v5]:List Value).drop 4).take (Tryz.prog.cellsOf 2))=some y4:=hf 4 _ rfl;rw [show Tryz.prog.cellsOf 2=1 by kernel_rfl] at h4;have h5:DataW.trod enc Tryz.prog W base spare held n' 22 ((([v0,v1,v2,v3,v4,v5]:List Value).drop 5).take (Tryz.prog.cellsOf 22))=some y5:=hf 5 _ rfl;rw [show Tryz.prog.cellsOf 22=1 by kernel_rfl] at h5;have q5:=pJ Tryz.underlying24 hfit 5 _ rfl rfl rfl;obtain ⟨a0,rfl,i0⟩:=nT (y:=y0) (by simpa using h0);obtain ⟨a1,rfl,i1⟩:=nS (y:=y1) (by simpa using h1);obtain ⟨a2,rfl,i2⟩:=nS (y:=y2) (by simpa using h2);obtain ⟨a3,rfl,i3⟩:=nS (y:=y3) (by simpa using h3);obtain ⟨a4,rfl,i4⟩:=nS (y:=y4) (by simpa using h4);obtain ⟨a5,t5⟩:=zh (y:=y5) (by simpa using h5) q5;exact ⟨⟨a0,a1,a2,a3,a4,a5⟩,_,rfl,t5,i0,i1,i2,i3,i4⟩
end Pl
end Go.Proofs.YtfbfeoplldjbpaaGreatDoor
