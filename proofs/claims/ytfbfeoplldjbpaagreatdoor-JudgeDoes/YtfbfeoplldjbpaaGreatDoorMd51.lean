/-
  Texts put together (merge.py): YOpen, JOpen.
-/
import Derived.Test.YtfbfeoplldjbpaaGreatDoorMd50
set_option linter.unusedSimpArgs false
set_option linter.unusedVariables false
set_option maxHeartbeats 16000000
set_option maxRecDepth 100000
namespace Go.Proofs.YtfbfeoplldjbpaaGreatDoor
namespace Ao
open Go.ChangeShapes Go.WideShapes Go.ChangeAt Go.RowKit Go.Deep
open Ac
def I64 (a:Int):Prop:=-9223372036854775808<=a/\a<=9223372036854775807
variable {H:Type} {enc:TypeId × Value->H} {W:World} {base:Nat} {spare:Nat->Bool} {held:Bool}
theorem rJ {a:Int} (h:(Lit.int .i64 a).wf=true):I64 a:=by
 simpa [I64,Lit.wf,IntKind.min,IntKind.max,IntKind.signed,IntKind.bits] using h
theorem dL (b o k:Nat):(⟨b,o,none⟩:Addr).add k=⟨b,o+k,none⟩:=by unfold Addr.add;split<;>simp_all
theorem nT {n:Nat} {v:Value} {y:DataW H × List MemPlace} (h:DataW.trod enc Tryz.prog W base spare held n 3 [v]=some y):∃a:Int,v=iI a/\I64 a:=by
 obtain ⟨a,h1,_,h3⟩:=DataW.trod_int Tryz.underlying3 h;exact ⟨a,by simpa using h1,rJ h3⟩
theorem nS {n:Nat} {v:Value} {y:DataW H × List MemPlace} (h:DataW.trod enc Tryz.prog W base spare held n 2 [v]=some y):∃a:Int,v=iI a/\I64 a:=by
 obtain ⟨a,h1,_,h3⟩:=DataW.trod_int Tryz.underlying2 h;exact ⟨a,by simpa using h1,rJ h3⟩
theorem nK {n:Nat} {v:Value} {y:DataW H × List MemPlace} (h:DataW.trod enc Tryz.prog W base spare held n 4 [v]=some y):∃a:Bool,v=.bool a:=by
 obtain ⟨a,h1,_⟩:=DataW.trod_bool Tryz.underlying4 h;exact ⟨a,by simpa using h1⟩
theorem oh {n:Nat} {v:Value} {y:DataW H × List MemPlace} (h:DataW.trod enc Tryz.prog W base spare held n 9 [v]=some y):∃a:Tx,v=.string (mk a):=by
 obtain ⟨s,h1,h2,_⟩:=DataW.trod_string Tryz.underlying9 h;refine ⟨s.data.toList,?_⟩;rw [xK];simpa using h1
theorem nJ {n:Nat} {cs:List Value} {y:DataW H × List MemPlace} (h:DataW.trod enc Tryz.prog W base spare held n 50 cs=some y):∃x:Row,cs=rc x/\I64 x.year:=by
 obtain ⟨xs,n',_,rfl,hlen,hxl,hf⟩:=DataW.trod_struct Tryz.underlying50 h;rw [show Tryz.prog.cellsOf 50=5 by kernel_rfl] at hlen;match xs,hxl,cs,hlen with
 | [y0,y1,y2,y3,y4],_,[v0,v1,v2,v3,v4],_ =>
  have h0:DataW.trod enc Tryz.prog W base spare held n' 9 ((([v0,v1,v2,v3,v4]:List Value).drop 0).take (Tryz.prog.cellsOf 9))=some y0:=hf 0 _ rfl;rw [show Tryz.prog.cellsOf 9=1 by kernel_rfl] at h0;have h1:DataW.trod enc Tryz.prog W base spare held n' 4 ((([v0,v1,v2,v3,v4]:List Value).drop 1).take (Tryz.prog.cellsOf 4))=some y1:=hf 1 _ rfl;rw [show Tryz.prog.cellsOf 4=1 by kernel_rfl] at h1;have h2:DataW.trod enc Tryz.prog W base spare held n' 3 ((([v0,v1,v2,v3,v4]:List Value).drop 2).take (Tryz.prog.cellsOf 3))=some y2:=hf 2 _ rfl;rw [show Tryz.prog.cellsOf 3=1 by kernel_rfl] at h2;have h3:DataW.trod enc Tryz.prog W base spare held n' 2 ((([v0,v1,v2,v3,v4]:List Value).drop 3).take (Tryz.prog.cellsOf 2))=some y3:=hf 3 _ rfl;rw [show Tryz.prog.cellsOf 2=1 by kernel_rfl] at h3;have h4:DataW.trod enc Tryz.prog W base spare held n' 2 ((([v0,v1,v2,v3,v4]:List Value).drop 4).take (Tryz.prog.cellsOf 2))=some y4:=hf 4 _ rfl;rw [show Tryz.prog.cellsOf 2=1 by kernel_rfl] at h4;obtain ⟨a0,rfl⟩:=oh (y:=y0) (by simpa using h0);obtain ⟨a1,rfl⟩:=nK (y:=y1) (by simpa using h1);obtain ⟨a2,rfl,i2⟩:=nT (y:=y2) (by simpa using h2);obtain ⟨a3,rfl,i3⟩:=nS (y:=y3) (by simpa using h3);obtain ⟨a4,rfl,i4⟩:=nS (y:=y4) (by simpa using h4);exact ⟨⟨a0,a1,a2,a3,a4⟩,rfl,i2⟩
theorem zf {v:Value} {d:DataW H} {p:List MemPlace} (hv:∃a n c,v=.slice a n c) (h:DataW.Trod enc Tryz.prog W base spare held 32 v d p):∃xs:List Row,cu All W v xs/\∀x ∈ xs,I64 x.year:=by
 obtain ⟨a0,n0,c0,rfl⟩:=hv;obtain ⟨fuel,hf⟩:=h;rcases open_slice Tryz.underlying32 hf with ⟨h0,_⟩|⟨a,len,cap,m,n,D,Pl,hv,hb,hl,hm,hmm,_,hx⟩
 ·obtain ⟨rfl,rfl,rfl⟩:a0=none/\n0=0/\c0=0:=by simpa [Value.cells] using h0
  exact ⟨[],cu.nil _ _,by simp⟩
 ·obtain ⟨rfl,rfl,rfl⟩:a0=some a/\n0=len/\c0=cap:=by simpa [Value.cells] using hv
  have hlm:n0<=m:=by rw [hmm];split<;>omega
  rw [show Tryz.prog.cellsOf 50=5 by kernel_rfl] at hx;obtain ⟨Y,hY⟩:=@choose_lt Row ⟨⟨[],false,0,0,0⟩⟩ n0 (fun i y=>(∀r,r < 5->W.cell? ((a.add (i * 5)).add r)=(rc y)[r]?)/\I64 y.year) (fun i hi=>by
   obtain ⟨cs',g1,g2⟩:=hx i (by omega);obtain ⟨x,rfl,q1⟩:=nJ g2;obtain ⟨_,_,hcell⟩:=World.cells?_some g1;exact ⟨x,fun r hr=>hcell r hr,q1⟩)
  have hxl:((List.range n0).map Y).length=n0:=by simp
  refine ⟨(List.range n0).map Y,⟨some a,c0,by rw [hxl],by rw [hxl];exact hl,hm,?_⟩,fun x hx1=>?_⟩
  ·rcases Nat.eq_zero_or_pos n0 with h0|h0
   ·subst h0;exact Or.inl rfl
   ·obtain ⟨b,o,sp⟩:=a;have hc00:=(hY 0 h0).1 0 (by omega);have hsp:sp=none:=by
     have:=World.cell?_spot (v:=.string (mk (Y 0).who)) hc00;simpa [Addr.add] using this
    subst hsp;rw [dL,dL] at hc00;refine Or.inr ⟨b,o,rfl,trivial,World.block_lt_of_cell? W _ hc00,fun j x hj=>?_⟩;have hjl:j < n0:=by have:=(List.getElem?_eq_some_iff.1 hj).1;simpa using this
    rw [List.getElem?_map,List.getElem?_range hjl] at hj;obtain rfl:=Option.some.inj hj;have e:∀r,r < 5->W.cell? ⟨b,o+j * 5+r,none⟩=(rc (Y j))[r]?:=fun r hr=>by
     have:=(hY j hjl).1 r hr;rwa [dL,dL] at this
    exact ⟨e 0 (by omega),e 1 (by omega),e 2 (by omega),e 3 (by omega),e 4 (by omega)⟩
  ·obtain ⟨i,hi,rfl⟩:=List.mem_map.1 hx1;exact (hY i (List.mem_range.1 hi)).2
end Ao
namespace Jo
open Go.ChangeShapes Go.WideShapes Go.ChangeAt Go.RowKit Go.Deep
open Cm (Fits pG pI pJ oh nT nS c9 cI c64 dL I64 Ib dQ)
open Fe (Cr aU aS aT)
open Ex (Ed aP aN aO)
open Ju (Tb dF dG)
theorem cF:Tryz.prog.cellsOf 54=5:=by kernel_rfl
theorem cB:Tryz.prog.cellsOf 4=1:=by kernel_rfl
variable {H:Type} {enc:TypeId × Value->H} {W:World} {base:Nat} {spare:Nat->Bool} {held:Bool}
theorem nR {n:Nat} {cs:List Value} {y:DataW H × List MemPlace} (h:DataW.trod enc Tryz.prog W base spare held n 54 cs=some y):∃(x:Cr),cs=[.string (mk x.proc),.string (mk x.mod),iI x.net,iI x.Ch,iI x.Ck]/\(Fits y.1 54->aT x):=by
 obtain ⟨xs,n',_,rfl,hlen,hxl,hf⟩:=DataW.trod_struct Tryz.underlying54 h;rw [cF] at hlen;match xs,hxl,cs,hlen with
 | [y0,y1,y2,y3,y4],_,[v0,v1,v2,v3,v4],_ =>
  have h0:DataW.trod enc Tryz.prog W base spare held n' 9 ((([v0,v1,v2,v3,v4]:List Value).drop 0).take (Tryz.prog.cellsOf 9))=some y0:=hf 0 _ rfl;have h1:DataW.trod enc Tryz.prog W base spare held n' 9 ((([v0,v1,v2,v3,v4]:List Value).drop 1).take (Tryz.prog.cellsOf 9))=some y1:=hf 1 _ rfl;have h2:DataW.trod enc Tryz.prog W base spare held n' 3 ((([v0,v1,v2,v3,v4]:List Value).drop 2).take (Tryz.prog.cellsOf 3))=some y2:=hf 2 _ rfl;have h3:DataW.trod enc Tryz.prog W base spare held n' 3 ((([v0,v1,v2,v3,v4]:List Value).drop 3).take (Tryz.prog.cellsOf 3))=some y3:=hf 3 _ rfl;have h4:DataW.trod enc Tryz.prog W base spare held n' 2 ((([v0,v1,v2,v3,v4]:List Value).drop 4).take (Tryz.prog.cellsOf 2))=some y4:=hf 4 _ rfl;rw [c9] at h0 h1;rw [cI] at h2 h3;rw [c64] at h4;obtain ⟨a0,rfl,k0⟩:=oh (y:=y0) (by simpa using h0);obtain ⟨a1,rfl,k1⟩:=oh (y:=y1) (by simpa using h1);obtain ⟨a2,rfl,i2⟩:=nT (y:=y2) (by simpa using h2);obtain ⟨a3,rfl,i3⟩:=nT (y:=y3) (by simpa using h3);obtain ⟨a4,rfl,i4⟩:=nS (y:=y4) (by simpa using h4);refine ⟨⟨a0,a1,a2,a3,a4⟩,rfl,fun hfit=>?_⟩;have q0:=pJ Tryz.underlying54 hfit 0 _ rfl rfl rfl;have q1:=pJ Tryz.underlying54 hfit 1 _ rfl rfl rfl;exact ⟨⟨k0 q0,k1 q1⟩,i2,i3,i4⟩
theorem yZ {fuel:Nat} {v:Value} {y:DataW H × List MemPlace} (h:DataW.trod enc Tryz.prog W base spare held fuel 25 [v]=some y):∃xs:List Cr,aU All W v xs/\(Fits y.1 25->xs.length<=281474976710656/\∀x ∈ xs,aT x):=by
 rcases open_slice Tryz.underlying25 h with ⟨h0,_⟩|⟨a,len,cap,m,n,D,Pl,hv,hb,hl,hm,hmm,rfl,hx⟩
 ·obtain rfl:v=.slice none 0 0:=by simpa using h0
  exact ⟨[],⟨none,0,rfl,by simp,by simp [maxLen],Or.inl rfl⟩,fun _=>by simp⟩
 ·obtain rfl:v=.slice (some a) len cap:=by simpa using hv
  have hlm:len<=m:=by rw [hmm];split<;>omega
  rw [cF] at hx;obtain ⟨Y,hY⟩:=@choose_lt Cr ⟨⟨[],[],0,0,0⟩⟩ len (fun i y=>(∀r,r < 5->W.cell? ((a.add (i * 5)).add r)=[.string (mk y.proc),.string (mk y.mod),iI y.net,iI y.Ch,iI y.Ck][r]?)/\(Fits (D i) 54->aT y)) (fun i hi=>by
   obtain ⟨cs',g1,g2⟩:=hx i (by omega);obtain ⟨x,rfl,q2⟩:=nR g2;obtain ⟨_,_,hcell⟩:=World.cells?_some g1;exact ⟨x,fun r hr=>hcell r hr,q2⟩)
  have hxl:((List.range len).map Y).length=len:=by simp
  refine ⟨(List.range len).map Y,⟨some a,cap,by rw [hxl],by rw [hxl];exact hl,hm,?_⟩,fun hf=>⟨?_,fun x hx1=>?_⟩⟩
  ·rcases Nat.eq_zero_or_pos len with h0|h0
   ·subst h0;exact Or.inl rfl
   ·obtain ⟨b,o,sp⟩:=a;obtain ⟨hc0,-⟩:=hY 0 h0;have hc00:=hc0 0 (by omega);have hsp:sp=none:=by
     have:=World.cell?_spot hc00;simpa [Addr.add] using this
    subst hsp;rw [dL,dL] at hc00;refine Or.inr ⟨b,o,rfl,trivial,World.block_lt_of_cell? W _ hc00,fun j x hj=>?_⟩;have hjl:j < len:=by have:=(List.getElem?_eq_some_iff.1 hj).1;simpa using this
    rw [List.getElem?_map,List.getElem?_range hjl] at hj;obtain rfl:=Option.some.inj hj;obtain ⟨hc,-⟩:=hY j hjl;have e:∀r,r < 5->W.cell? ⟨b,o+j * 5+r,none⟩=[.string (mk (Y j).proc),.string (mk (Y j).mod),iI (Y j).net,iI (Y j).Ch,iI (Y j).Ck][r]?:=fun r hr=>by
     have:=hc r hr;rwa [dL,dL] at this
    exact ⟨e 0 (by omega),e 1 (by omega),e 2 (by omega),e 3 (by omega),e 4 (by omega)⟩
  ·have:=pI Tryz.underlying25 hf (by decide +kernel);simpa using this
  ·obtain ⟨i,hi,rfl⟩:=List.mem_map.1 hx1;have hil:=List.mem_range.1 hi;obtain ⟨_,q⟩:=hY i hil;exact q (pG Tryz.underlying25 hf (List.mem_map.2 ⟨i,hi,rfl⟩))
theorem nK {n:Nat} {v:Value} {y:DataW H × List MemPlace} (h:DataW.trod enc Tryz.prog W base spare held n 4 [v]=some y):∃b:Bool,v=.bool b:=by
 obtain ⟨b,h1,_⟩:=DataW.trod_bool Tryz.underlying4 h;exact ⟨b,by simpa using h1⟩
theorem cE:Tryz.prog.cellsOf 56=5:=by kernel_rfl
theorem nP {n:Nat} {cs:List Value} {y:DataW H × List MemPlace} (h:DataW.trod enc Tryz.prog W base spare held n 56 cs=some y):∃(x:Ed),cs=[iI x.kind,.string (mk x.a),.string (mk x.b),.bool x.bypass,iI x.n]/\(Fits y.1 56->aO x):=by
 obtain ⟨xs,n',_,rfl,hlen,hxl,hf⟩:=DataW.trod_struct Tryz.underlying56 h;rw [cE] at hlen;match xs,hxl,cs,hlen with
 | [y0,y1,y2,y3,y4],_,[v0,v1,v2,v3,v4],_ =>
  have h0:DataW.trod enc Tryz.prog W base spare held n' 3 ((([v0,v1,v2,v3,v4]:List Value).drop 0).take (Tryz.prog.cellsOf 3))=some y0:=hf 0 _ rfl;have h1:DataW.trod enc Tryz.prog W base spare held n' 9 ((([v0,v1,v2,v3,v4]:List Value).drop 1).take (Tryz.prog.cellsOf 9))=some y1:=hf 1 _ rfl;have h2:DataW.trod enc Tryz.prog W base spare held n' 9 ((([v0,v1,v2,v3,v4]:List Value).drop 2).take (Tryz.prog.cellsOf 9))=some y2:=hf 2 _ rfl;have h3:DataW.trod enc Tryz.prog W base spare held n' 4 ((([v0,v1,v2,v3,v4]:List Value).drop 3).take (Tryz.prog.cellsOf 4))=some y3:=hf 3 _ rfl;have h4:DataW.trod enc Tryz.prog W base spare held n' 3 ((([v0,v1,v2,v3,v4]:List Value).drop 4).take (Tryz.prog.cellsOf 3))=some y4:=hf 4 _ rfl;rw [cI] at h0 h4;rw [c9] at h1 h2;rw [cB] at h3;obtain ⟨a0,rfl,i0⟩:=nT (y:=y0) (by simpa using h0);obtain ⟨a1,rfl,k1⟩:=oh (y:=y1) (by simpa using h1);obtain ⟨a2,rfl,k2⟩:=oh (y:=y2) (by simpa using h2);obtain ⟨a3,rfl⟩:=nK (y:=y3) (by simpa using h3);obtain ⟨a4,rfl,i4⟩:=nT (y:=y4) (by simpa using h4);refine ⟨⟨a0,a1,a2,a3,a4⟩,rfl,fun hfit=>?_⟩;have q1:=pJ Tryz.underlying56 hfit 1 _ rfl rfl rfl;have q2:=pJ Tryz.underlying56 hfit 2 _ rfl rfl rfl;exact ⟨⟨k1 q1,k2 q2⟩,i0,i4⟩
theorem yY {fuel:Nat} {v:Value} {y:DataW H × List MemPlace} (h:DataW.trod enc Tryz.prog W base spare held fuel 26 [v]=some y):∃xs:List Ed,aP All W v xs/\(Fits y.1 26->xs.length<=281474976710656/\∀x ∈ xs,aO x):=by
 rcases open_slice Tryz.underlying26 h with ⟨h0,_⟩|⟨a,len,cap,m,n,D,Pl,hv,hb,hl,hm,hmm,rfl,hx⟩
 ·obtain rfl:v=.slice none 0 0:=by simpa using h0
  exact ⟨[],⟨none,0,rfl,by simp,by simp [maxLen],Or.inl rfl⟩,fun _=>by simp⟩
 ·obtain rfl:v=.slice (some a) len cap:=by simpa using hv
  have hlm:len<=m:=by rw [hmm];split<;>omega
  rw [cE] at hx;obtain ⟨Y,hY⟩:=@choose_lt Ed ⟨⟨0,[],[],false,0⟩⟩ len (fun i y=>(∀r,r < 5->W.cell? ((a.add (i * 5)).add r)=[iI y.kind,.string (mk y.a),.string (mk y.b),.bool y.bypass,iI y.n][r]?)/\(Fits (D i) 56->aO y)) (fun i hi=>by
   obtain ⟨cs',g1,g2⟩:=hx i (by omega);obtain ⟨x,rfl,q2⟩:=nP g2;obtain ⟨_,_,hcell⟩:=World.cells?_some g1;exact ⟨x,fun r hr=>hcell r hr,q2⟩)
  have hxl:((List.range len).map Y).length=len:=by simp
  refine ⟨(List.range len).map Y,⟨some a,cap,by rw [hxl],by rw [hxl];exact hl,hm,?_⟩,fun hf=>⟨?_,fun x hx1=>?_⟩⟩
  ·rcases Nat.eq_zero_or_pos len with h0|h0
   ·subst h0;exact Or.inl rfl
   ·obtain ⟨b,o,sp⟩:=a;obtain ⟨hc0,-⟩:=hY 0 h0;have hc00:=hc0 0 (by omega);have hsp:sp=none:=by
     have:=World.cell?_spot hc00;simpa [Addr.add] using this
    subst hsp;rw [dL,dL] at hc00;refine Or.inr ⟨b,o,rfl,trivial,World.block_lt_of_cell? W _ hc00,fun j x hj=>?_⟩;have hjl:j < len:=by have:=(List.getElem?_eq_some_iff.1 hj).1;simpa using this
    rw [List.getElem?_map,List.getElem?_range hjl] at hj;obtain rfl:=Option.some.inj hj;obtain ⟨hc,-⟩:=hY j hjl;have e:∀r,r < 5->W.cell? ⟨b,o+j * 5+r,none⟩=[iI (Y j).kind,.string (mk (Y j).a),.string (mk (Y j).b),.bool (Y j).bypass,iI (Y j).n][r]?:=fun r hr=>by
     have:=hc r hr;rwa [dL,dL] at this
    exact ⟨e 0 (by omega),e 1 (by omega),e 2 (by omega),e 3 (by omega),e 4 (by omega)⟩
  ·have:=pI Tryz.underlying26 hf (by decide +kernel);simpa using this
  ·obtain ⟨i,hi,rfl⟩:=List.mem_map.1 hx1;have hil:=List.mem_range.1 hi;obtain ⟨_,q⟩:=hY i hil;exact q (pG Tryz.underlying26 hf (List.mem_map.2 ⟨i,hi,rfl⟩))
theorem nZ {n:Nat} {cs:List Value} {y:DataW H × List MemPlace} (h:DataW.trod enc Tryz.prog W base spare held n 28 cs=some y) (hfit:Fits y.1 28):∃(t:Tb) (m mf me:Value),cs=[iI t.plan.mode,iI t.plan.Ay,iI t.plan.AR,iI t.plan.Bb,iI t.plan.AJ,m,mf,me]/\dF W m mf me t/\dG t:=by
 obtain ⟨xs,n',_,rfl,hlen,hxl,hf⟩:=DataW.trod_struct Tryz.underlying28 h;rw [show Tryz.prog.cellsOf 28=8 by kernel_rfl] at hlen;match xs,hxl,cs,hlen with
 | [y0,y1,y2],_,[v0,v1,v2,v3,v4,v5,v6,v7],_ =>
  have h0:DataW.trod enc Tryz.prog W base spare held n' 24 ((([v0,v1,v2,v3,v4,v5,v6,v7]:List Value).drop 0).take (Tryz.prog.cellsOf 24))=some y0:=hf 0 _ rfl;have h1:DataW.trod enc Tryz.prog W base spare held n' 25 ((([v0,v1,v2,v3,v4,v5,v6,v7]:List Value).drop 6).take (Tryz.prog.cellsOf 25))=some y1:=hf 1 _ rfl;have h2:DataW.trod enc Tryz.prog W base spare held n' 26 ((([v0,v1,v2,v3,v4,v5,v6,v7]:List Value).drop 7).take (Tryz.prog.cellsOf 26))=some y2:=hf 2 _ rfl;rw [show Tryz.prog.cellsOf 24=6 by kernel_rfl] at h0;rw [show Tryz.prog.cellsOf 25=1 by kernel_rfl] at h1;rw [show Tryz.prog.cellsOf 26=1 by kernel_rfl] at h2;have q0:=pJ Tryz.underlying28 hfit 0 _ rfl rfl rfl;have q1:=pJ Tryz.underlying28 hfit 1 _ rfl rfl rfl;have q2:=pJ Tryz.underlying28 hfit 2 _ rfl rfl rfl;obtain ⟨a0,m,hc,r0,-⟩:=Pl.nV (y:=y0) (by simpa using h0) (fun z hz=>q0 z hz);obtain ⟨a1,r1,k1⟩:=yZ (y:=y1) (by simpa using h1);obtain ⟨a2,r2,k2⟩:=yY (y:=y2) (by simpa using h2);simp only [List.cons.injEq,and_true] at hc;obtain ⟨rfl,rfl,rfl,rfl,rfl,rfl⟩:=hc;exact ⟨⟨a0,a1,a2⟩,_,_,_,rfl,⟨r0,r1,r2⟩,⟨⟨(k1 q1).2,(k1 q1).1⟩,(k2 q2).2,(k2 q2).1⟩⟩
theorem zk {r:Reach} {b0:Nat} {v:Value} {d:DataW H} {p:List MemPlace} (hv:Value.okWide Tryz.prog W r b0 28 v) (h:DataW.Trod enc Tryz.prog W base spare held 28 v d p) (hw:Fits d 28):∃(t:Tb) (m mf me:Value),v=.agg #[iI t.plan.mode,iI t.plan.Ay,iI t.plan.AR,iI t.plan.Bb,iI t.plan.AJ,m,mf,me]/\dF W m mf me t/\dG t:=by
 obtain ⟨cs,fuel,rfl,hf⟩:=dQ Tryz.underlying28 hv h;obtain ⟨t,m,mf,me,rfl,h1,h2⟩:=nZ hf hw;exact ⟨t,m,mf,me,rfl,h1,h2⟩
theorem y9 {v:Value} {d:DataW H} {p:List MemPlace} (hs:∃a n c,v=.slice a n c) (h:DataW.Trod enc Tryz.prog W base spare held 29 v d p) (hw:Fits d 29):∃l:List Cm.Ln,Cm.bH All W v l/\l.length<=281474976710656/\∀f ∈ l,Cm.bG f:=by
 obtain ⟨a,n,c,rfl⟩:=hs;obtain ⟨fuel,hf⟩:=h;obtain ⟨xs,h1,h2⟩:=Cm.y8 (v:=.slice a n c) (by simpa [Value.cells] using hf);exact ⟨xs,h1,h2 hw⟩
end Jo
end Go.Proofs.YtfbfeoplldjbpaaGreatDoor
