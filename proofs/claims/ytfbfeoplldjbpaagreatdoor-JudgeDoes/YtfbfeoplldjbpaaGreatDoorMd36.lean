/-
  Texts put together (merge.py): JJud.
-/
import Derived.Test.YtfbfeoplldjbpaaGreatDoorMd32
import Derived.Test.YtfbfeoplldjbpaaGreatDoorMd35
set_option linter.unusedSimpArgs false
set_option linter.unusedVariables false
set_option maxHeartbeats 16000000
set_option maxRecDepth 100000
namespace Go.Proofs.YtfbfeoplldjbpaaGreatDoor
namespace Ju
open Go.RowKit
open Ac (Row pU dJ dM jF jG DW DU left cu Own tV qL iU jg jf fK)
open Sh (Ot bD bC bK bE EP EW Dt Du member Jj)
open Cm (Ln Cl bH lnv clv bG aC)
theorem wX:∀n:Nat,madeCells #[iI 0,iI 0,iI 0,iI 0,iI 0,iI 0,iI 0,iI 0] (n * 8)=⟨ocs (List.replicate n Sh.ot0)⟩:=by
 intro n;apply Array.ext';refine List.ext_getElem? fun i=>?_;have hl:(madeCells #[iI 0,iI 0,iI 0,iI 0,iI 0,iI 0,iI 0,iI 0] (n * 8)).toList.length=n * 8:=by simp [size_madeCells]
 have hr:(ocs (List.replicate n Sh.ot0)).length=n * 8:=by rw [yI];simp
 rcases Nat.lt_or_ge i (n * 8) with h|h
 ·have e1:(ocs (List.replicate n Sh.ot0))[i]?=some (iI 0):=by
   have hq:(List.replicate n Sh.ot0)[i / 8]?=some Sh.ot0:=by rw [List.getElem?_replicate,if_pos (by omega)]
   have h1:=yH _ (i / 8) Sh.ot0 hq (i % 8) (by omega);rw [show i / 8 * 8+i % 8=i by omega] at h1;rw [h1];have h8:i % 8 < 8:=by omega
   generalize i % 8=j at h8;match j,h8 with
   | 0,_=>rfl
   | 1,_=>rfl
   | 2,_=>rfl
   | 3,_=>rfl
   | 4,_=>rfl
   | 5,_=>rfl
   | 6,_=>rfl
   | 7,_=>rfl
  show _=(ocs (List.replicate n Sh.ot0))[i]?;rw [e1];have h8:i % 8 < 8:=by omega
  simp only [madeCells,Array.toList_map,List.getElem?_map,Array.toList_range];rw [List.getElem?_range h];simp only [Option.map_some];congr 1
  show (#[iI 0,iI 0,iI 0,iI 0,iI 0,iI 0,iI 0,iI 0]:Array Value)[i % 8]! = iI 0;generalize i % 8=j at h8;match j,h8 with
  | 0,_=>rfl
  | 1,_=>rfl
  | 2,_=>rfl
  | 3,_=>rfl
  | 4,_=>rfl
  | 5,_=>rfl
  | 6,_=>rfl
  | 7,_=>rfl
 ·rw [List.getElem?_eq_none (by omega)];exact (List.getElem?_eq_none (by show (ocs (List.replicate n Sh.ot0)).length<=i;omega)).symm
theorem Eh (n:Nat) (hn:n<=1000000) (w:World):(Instr.makeSlice 35 (iI (n:Int)) (iI (n:Int))).run Tryz.prog w=.ok (.slice (some ⟨w.heap.size,0,none⟩) n n) (w.alloc (.cells ⟨ocs (List.replicate n Sh.ot0)⟩ TO)):=by
 obtain ⟨i,hi,hz,hs,hb⟩:∃i,Tryz.prog.info? TO=some i/\i.zero=some (.agg #[iI 0,iI 0,iI 0,iI 0,iI 0,iI 0,iI 0,iI 0])/\i.size=8/\i.bytes=64:=by
  have hi:(Tryz.prog.info? TO).map (fun i=>(i.zero,i.size,i.bytes))=some (some (.agg #[iI 0,iI 0,iI 0,iI 0,iI 0,iI 0,iI 0,iI 0]),8,64):=by kernel_rfl
  cases hq:Tryz.prog.info? TO with
  | none=>rw [hq] at hi;cases hi
  | some i =>
   rw [hq] at hi;simp only [Option.map_some,Option.some.injEq,Prod.mk.injEq] at hi;exact ⟨i,rfl,hi⟩
 have hr:=run_make (P:=Tryz.prog) w 35 TO i _ Tryz.underlying35 hi hz .i64 .i64 n n (by omega) (Int.le_refl _) (by rw [hb];omega) (by omega);rw [hs] at hr;simp only [Int.toNat_natCast] at hr;rw [hr,←wX];rfl
theorem jD {q:Nat} {w w':World} {v:Value} {l:List Bool} (h:Tw.ah w v l) {cs:Array Value} {T:TypeId} (hu:w.heap[q]?=some (.cells cs T (0,0))) (hn:∀b:Bool,Value.bool b ∉ cs) (hf:∀k,k < w.heap.size->k ≠ q->w'.heap[k]?=w.heap[k]?) (hs:w.heap.size<=w'.heap.size):Tw.ah w' v l:=by
 obtain ⟨a,c,rfl,h1,h2,h3⟩:=h;refine ⟨a,c,rfl,h1,h2,?_⟩;rcases h3 with h|⟨b,o,rfl,hk,hb,hc⟩
 ·exact Or.inl h
 ·cases l with
  | nil=>exact Or.inl rfl
  | cons x r =>
   have hne:b ≠ q:=by
    rintro rfl;obtain ⟨y,h0,h4⟩:=hc 0 x rfl;rw [cell_of_row w b _ _ T (0,0) hu] at h0;have hm:=Array.mem_of_getElem? h0;rw [h4] at hm;exact hn x hm
   exact Or.inr ⟨b,o,rfl,trivial,Nat.lt_of_lt_of_le hb hs,fun j y hj=>by
    obtain ⟨z,h0,h4⟩:=hc j y hj;exact ⟨z,by rw [World.cell?_of_block (w:=w) (hf b hb hne)];exact h0,h4⟩⟩
theorem Et {q u:Nat} {w w':World} {v:Value} {l:List Row} {L:List Ot} (h:cu (fun b=>b ≠ q) w v l) {T:TypeId} (hu:w.heap[u]?=some (.cells ⟨ocs L⟩ T (0,0))) (hf:∀k,k ≠ u->w'.heap[k]?=w.heap[k]?) (hs:w.heap.size<=w'.heap.size):cu (fun b=>b ≠ q) w' v l:=by
 obtain ⟨a,c,rfl,h1,h2,h3⟩:=h;refine ⟨a,c,rfl,h1,h2,?_⟩;rcases h3 with h|⟨b,o,rfl,hk,hb,hc⟩
 ·exact Or.inl h
 ·cases l with
  | nil=>exact Or.inl rfl
  | cons x r =>
   have hne:b ≠ u:=by
    rintro rfl;have h0:=(hc 0 x rfl).1;rw [cell_of_row w b _ _ T (0,0) hu] at h0;have hm:=Array.mem_of_getElem? h0;have:∀(L:List Ot) (s:ByteArray),Value.string s ∉ ocs L:=fun L s=>by induction L<;>simp_all [ocs]
    exact this L _ (by simpa using hm)
   exact Or.inr ⟨b,o,rfl,hk,Nat.lt_of_lt_of_le hb hs,fun j y hj=>(hc j y hj).of (hf b hne)⟩
theorem jE {u:Nat} {w w':World} {v:Value} {l:List Bool} {L:List Ot} (h:Tw.ah w v l) {T:TypeId} (hu:w.heap[u]?=some (.cells ⟨ocs L⟩ T (0,0))) (hf:∀k,k ≠ u->w'.heap[k]?=w.heap[k]?) (hs:w.heap.size<=w'.heap.size):Tw.ah w' v l:=by
 have hn:∀(L:List Ot) (s:Bool),Value.bool s ∉ ocs L:=fun L s=>by induction L<;>simp_all [ocs]
 exact jD h hu (fun b hm=>hn L b (by simpa using hm)) (fun k _ hk=>hf k hk) hs
theorem zY {w:World} {g:Nat} {L:List Ot} {T:TypeId} (h:w.heap[g]?=some (.cells ⟨ocs L⟩ T (0,0))) {i:Nat} {x:Ot} (hi:L[i]?=some x):bI w g (i * 8) x:=by
 have e:∀j,j < 8->w.cell? ⟨g,i * 8+j,none⟩=(oc x)[j]?:=fun j hj=>by
  rw [cell_of_row w g _ _ T (0,0) h];simpa using yH L i x hi j hj
 exact ⟨e 0 (by omega),e 1 (by omega),e 2 (by omega),e 3 (by omega),e 4 (by omega),e 5 (by omega),e 6 (by omega),e 7 (by omega)⟩
theorem qzC {B g:Nat} {w:World} {L:List Ot} (h:w.heap[g]?=some (.cells ⟨ocs L⟩ TO (0,0))) (hB:B<=g) (hl:L.length<=1000000):bM B w (.slice (some ⟨g,0,none⟩) L.length L.length) L:=
 ⟨yI L,Or.inr ⟨g,L.length,_,rfl,hB,h,Nat.le_refl _,by unfold maxLen;omega,by show (ocs L).length=_;exact yI L,by show (ocs L).take _=_;rw [←yI L,List.take_length]⟩⟩
theorem CG (D:List Ot) (n:Nat) (o:Ot) (h:D.length < n):(D ++ List.replicate (n - D.length) Sh.ot0).set D.length o=(D ++ [o]) ++ List.replicate (n - (D ++ [o]).length) Sh.ot0:=by
 obtain ⟨m,hm⟩:∃m,n - D.length=m+1:=⟨n - D.length - 1,by omega⟩;have h2:n - (D ++ [o]).length=m:=by simp;omega
 rw [hm,h2,List.set_append_right _ _ (by omega),Nat.sub_self,List.replicate_succ];simp
theorem oz {W:World} {k q:Nat} (hne:k ≠ q) (b0 b1 b2 b3 b4 b5 b6 b7 b8 b9 b10 b11 b12 b13 b14 b15 b16:Value):(((((((((((((((((W.setCell ⟨q,0,none⟩ b0).setCell ⟨q,1,none⟩ b1).setCell ⟨q,2,none⟩ b2).setCell ⟨q,3,none⟩ b3).setCell ⟨q,4,none⟩ b4).setCell ⟨q,5,none⟩ b5).setCell ⟨q,6,none⟩ b6).setCell ⟨q,7,none⟩ b7).setCell ⟨q,8,none⟩ b8).setCell ⟨q,9,none⟩ b9).setCell ⟨q,10,none⟩ b10).setCell ⟨q,11,none⟩ b11).setCell ⟨q,12,none⟩ b12).setCell ⟨q,13,none⟩ b13).setCell ⟨q,14,none⟩ b14).setCell ⟨q,15,none⟩ b15).setCell ⟨q,16,none⟩ b16).heap[k]?=W.heap[k]?:=by
 repeat rw [Below.heap_setCell _ _ _ _ hne]
theorem AV {p:Nat} {w W:World} (h:Below p w W) (b:Nat) (hb:p<=b) (o:Nat) (b0 b1 b2 b3 b4 b5 b6 b7:Value):Below p w ((((((((W.setCell ⟨b,o,none⟩ b0).setCell ⟨b,o+1,none⟩ b1).setCell ⟨b,o+2,none⟩ b2).setCell ⟨b,o+3,none⟩ b3).setCell ⟨b,o+4,none⟩ b4).setCell ⟨b,o+5,none⟩ b5).setCell ⟨b,o+6,none⟩ b6).setCell ⟨b,o+7,none⟩ b7):=
 (((((((h.setCell (p:=⟨b,o,none⟩) hb _).setCell (p:=⟨b,o+1,none⟩) hb _).setCell (p:=⟨b,o+2,none⟩) hb _).setCell (p:=⟨b,o+3,none⟩) hb _).setCell (p:=⟨b,o+4,none⟩) hb _).setCell (p:=⟨b,o+5,none⟩) hb _).setCell (p:=⟨b,o+6,none⟩) hb _).setCell (p:=⟨b,o+7,none⟩) hb _
def JdV (B:Nat) (w':World) (e:Ending) (E:Int) (O:List Ot) (R:List Row):Prop:=∃vo vr,e=.returned (.tuple #[vo,vr,iI E])/\bM B w' vo O/\Own B w' vr R
def au (t:Tb) (c:Cl) (Ah:List Ln):Prop:=dG t/\aC c/\(∀x ∈ c.lines,Tw.aZ x)/\(∀x ∈ Ah,Tw.aZ x)/\Ah.length<=10000/\c.lines.length<=10000
theorem tK (t:Tb) (c:Cl) (r:List Row) (Ah:List Ln) (m mf me ml vr va:Value) (w:World) (hA:dF w m mf me t) (hL:bH All w ml c.lines) (hR:cu All w vr r) (hV:bH All w va Ah) (hz:au t c Ah) (hl:r.length<=5000) (hT:Da.Tab w) :
  Calls Tryz.prog 9 #[.agg #[iI t.plan.mode,iI t.plan.Ay,iI t.plan.AR,iI t.plan.Bb,iI t.plan.AJ,m,mf,me],.agg #[sS c.id,sS c.mem,sS c.Br,iI c.net,iI c.does,sS c.ref,ml],vr,va] w fun e w'=>JdV w.heap.size w' e (tC t c r Ah) (tH t c r Ah) (tJ t c r Ah)/\Below w.heap.size w w':=by
 obtain ⟨ma,mc,fa,fc,ea,ec,rfl,rfl,rfl⟩:=hA.form;obtain ⟨la,lc,rfl,hl1,hl2⟩:=Cm.bH.form hL;obtain ⟨ra,rc,rfl,hr1,hr2⟩:=hR.form;obtain ⟨aa,ac,rfl,ha1,ha2⟩:=Cm.bH.form hV;obtain ⟨z1,z2,z3,z4,z5,z6⟩:=hz;have HC1:=zZ fun W (hW:Below w.heap.size w W)=>bL t _ _ _ W (hA.Bu hW) z1 (Cm.gP hT hW);have HC2:=zZ fun W (hW:Below w.heap.size w W)=>Cm.bL c _ W (Ex.wB hL hW) z2 (Cm.gP hT hW);have HC3:=zZ fun W (hW:Below w.heap.size w W)=>Ac.bL r _ W (hR.Bu hW) (by omega);have HMk:=zZ fun W (hW:Below w.heap.size w W)=>Tw.xk _ _ c.lines Ah W (Ex.wB hL hW) (Ex.wB hV hW) z3 z4 z6 z5;have HPre:Hid (Bo t c r=orE (GN t) (orE (Cm.kF c) (Ac.kF r))):=rfl;have HJe:Hid (Bo t c r ≠ 0->tC t c r Ah=Bo t c r/\tH t c r Ah=[]/\tJ t c r Ah=[]):=fun h=>by
  have h1:tC t c r Ah=Bo t c r:=by unfold tC;rw [if_neg h]
  exact ⟨h1,by unfold tH;rw [if_neg (by rw [h1];exact h)],by unfold tJ;rw [if_neg (by rw [h1];exact h)]⟩
 have HJr:Hid (Bo t c r=0->tC t c r Ah=D6 (Bw t c) r (its t c Ah)):=fun h=>by unfold tC;rw [if_pos h]
 have HJo:Hid (tC t c r Ah=0->tH t c r Ah=Ea (Bw t c) r (its t c Ah)/\tJ t c r Ah=D7 (Bw t c) r (its t c Ah)):=fun h=>⟨by unfold tH;rw [if_pos h],by unfold tJ;rw [if_pos h]⟩;have HJn:Hid (tC t c r Ah ≠ 0->tH t c r Ah=[]/\tJ t c r Ah=[]):=fun h=>⟨by unfold tH;rw [if_neg h],by unfold tJ;rw [if_neg h]⟩;have HSv:Hid (Bo t c r=0->∀(R:List Row) (k:Nat) (x:Ln) (v:Value) (q:Nat) (W:World) (kg:Nat),c.lines[k]?=some x->W.heap[q]?=some (.cells #[iI t.plan.mode,iI t.plan.Ay,iI t.plan.AR,iI t.plan.Bb,iI t.plan.AJ,.slice ma t.plan.rules.length mc,.slice fa t.Bp.length fc,.slice ea t.edits.length ec,sS c.id,sS c.mem,sS c.Br,iI c.net,iI c.does,sS c.ref,.slice la c.lines.length lc,.slice (some ⟨kg,0,none⟩) c.lines.length c.lines.length,v] 66 (0,0))->Below w.heap.size w W->Tw.ah W (.slice (some ⟨kg,0,none⟩) c.lines.length c.lines.length) (Tw.wZ Ah c.lines)->cu (fun b=>b ≠ q) W v R->Ac.Ok R->R.length<=8000 →
   Calls Tryz.prog 24 #[pP q 0,iI (k:Nat)] W fun e w'=>SvV q (zL (Bw t c) R (Cu t c k x (xw Ah c k))) (zU (Bw t c) R (Cu t c k x (xw Ah c k))) (zO (Bw t c) R (Cu t c k x (xw Ah c k))) (fun v=>#[iI t.plan.mode,iI t.plan.Ay,iI t.plan.AR,iI t.plan.Bb,iI t.plan.AJ,.slice ma t.plan.rules.length mc,.slice fa t.Bp.length fc,.slice ea t.edits.length ec,sS c.id,sS c.mem,sS c.Br,iI c.net,iI c.does,sS c.ref,.slice la c.lines.length lc,.slice (some ⟨kg,0,none⟩) c.lines.length c.lines.length,v]) W e w'):=fun h R k x v q W kg hx hq hb hbl hr hO hlr=>by
  obtain ⟨p1,p2,p3,p4,p5⟩:=Bq h;have hk:=(List.getElem?_eq_some_iff.1 hx).1;have hml:(Tw.wZ Ah c.lines).length=c.lines.length:=Tw.xq c.lines Ah;have hlx:=(kH p4).2.2 x (List.mem_of_getElem? hx);exact EJ t c R k x (xw Ah c k) (Tw.wZ Ah c.lines) q _ _ _ _ _ _ W hq (hA.Bu hb) (Ex.wB hL hb) hbl hml hx (by unfold xw;rw [List.getD_eq_getElem?_getD,List.getElem?_eq_getElem (by omega)];rfl) hr hO hlr p1 (Hu p2) z1 (by omega) (vV hlx.1).1 (z2.2.2.2.2.2.2.2 x (List.mem_of_getElem? hx)) (Cm.gP hT hb)
 have HOk:Hid (Bo t c r=0->Ac.Ok r/\c.lines.length<=999):=fun h=>⟨(Ac.kG r).1 (Bq h).2.2.2.2,(kH (Bq h).2.2.2.1).1⟩;have HR0:Hid (cu All w (.slice ra r.length rc) r):=hR;clear hA hL hV hR hT z1 z2 z3 z4 z5 z6;generalize Bo t c r=PE at *;generalize GN t=E1 at *;generalize Cm.kF c=E2 at *;generalize Ac.kF r=E3 at *;have hbx:Below w.heap.size w ((w.alloc (.cells #[iI t.plan.mode,iI t.plan.Ay,iI t.plan.AR,iI t.plan.Bb,iI t.plan.AJ,.slice ma t.plan.rules.length mc,.slice fa t.Bp.length fc,.slice ea t.edits.length ec] 28)).alloc (.cells #[sS c.id,sS c.mem,sS c.Br,iI c.net,iI c.does,sS c.ref,.slice la c.lines.length lc] 31)):=jg (iU _ _) (iU _ _);have hz1:=tV (fK w #[iI t.plan.mode,iI t.plan.Ay,iI t.plan.AR,iI t.plan.Bb,iI t.plan.AJ,.slice ma t.plan.rules.length mc,.slice fa t.Bp.length fc,.slice ea t.edits.length ec] 28) (iU _ (.cells #[sS c.id,sS c.mem,sS c.Br,iI c.net,iI c.does,sS c.ref,.slice la c.lines.length lc] 31));have hz2:=fK (w.alloc (.cells #[iI t.plan.mode,iI t.plan.Ay,iI t.plan.AR,iI t.plan.Bb,iI t.plan.AJ,.slice ma t.plan.rules.length mc,.slice fa t.Bp.length fc,.slice ea t.edits.length ec] 28)) #[sS c.id,sS c.mem,sS c.Br,iI c.net,iI c.does,sS c.ref,.slice la c.lines.length lc] 31;rw [show (w.alloc (.cells #[iI t.plan.mode,iI t.plan.Ay,iI t.plan.AR,iI t.plan.Bb,iI t.plan.AJ,.slice ma t.plan.rules.length mc,.slice fa t.Bp.length fc,.slice ea t.edits.length ec] 28)).heap.size=w.heap.size+1 by simp] at hz2;have HX:=zZ hz1;have HY:=zZ hz2;have HB0:=zZ hbx;clear hbx hz1 hz2;go_enter Tryz.func9,Tryz.ntmps9
 go_upto_region 1 with fail
 generalize ((w.alloc (.cells #[iI t.plan.mode,iI t.plan.Ay,iI t.plan.AR,iI t.plan.Bb,iI t.plan.AJ,.slice ma t.plan.rules.length mc,.slice fa t.Bp.length fc,.slice ea t.edits.length ec] 28)).alloc (.cells #[sS c.id,sS c.mem,sS c.Br,iI c.net,iI c.does,sS c.ref,.slice la c.lines.length lc] 31))=W at *;generalize hp:w.heap.size=p at *;obtain ⟨p1,hp1⟩:∃u,u=p+1:=⟨_,rfl⟩;rw [←hp1] at HY ⊢;clear hp1;have Bt:=zZ fun W' (hW:Below W.heap.size W W')=>And.intro (Pl.iR (tV HX.out hW)) (jT (tV HY.out hW));have HD:=zZ (Below.drew (Below.refl W.heap.size W));go_cut [11] (fun s11 wx=>s11=iI PE/\Hid (Below W.heap.size W wx))
 case first =>
  refine Ri.IX (by kernel_rfl) (by kernel_rfl) (by kernel_rfl) (fun Wx=>Below W.heap.size W Wx) (fun kz vs wz=>(fun kx vx wx=>match kx with|0=>vx=.agg #[iI t.plan.mode,iI t.plan.Ay,iI t.plan.AR,iI t.plan.Bb,iI t.plan.AJ,.slice ma t.plan.rules.length mc,.slice fa t.Bp.length fc,.slice ea t.edits.length ec]|1=>vx=iI E1|2=>vx=.agg #[sS c.id,sS c.mem,sS c.Br,iI c.net,iI c.does,sS c.ref,.slice la c.lines.length lc]|3=>vx=iI E2|4=>vx=.slice ra r.length rc|5=>vx=iI E3|6=>(∃g,vx=.slice (some ⟨g,0,none⟩) 3 3/\wx.heap[g]?=some (.cells #[iI E1,iI E2,iI E3] 36 (0,0)))|7=>vx=iI PE|8=>vx=iI PE|_=>True:Nat->Value->World->Prop) kz (vs kz) wz) (fun kz=>[kz]) (by kernel_rfl) (fun jz vs iz vz wz hiz hz=>Ri.wI (F:=(fun kx vx wx=>match kx with|0=>vx=.agg #[iI t.plan.mode,iI t.plan.Ay,iI t.plan.AR,iI t.plan.Bb,iI t.plan.AJ,.slice ma t.plan.rules.length mc,.slice fa t.Bp.length fc,.slice ea t.edits.length ec]|1=>vx=iI E1|2=>vx=.agg #[sS c.id,sS c.mem,sS c.Br,iI c.net,iI c.does,sS c.ref,.slice la c.lines.length lc]|3=>vx=iI E2|4=>vx=.slice ra r.length rc|5=>vx=iI E3|6=>(∃g,vx=.slice (some ⟨g,0,none⟩) 3 3/\wx.heap[g]?=some (.cells #[iI E1,iI E2,iI E3] 36 (0,0)))|7=>vx=iI PE|8=>vx=iI PE|_=>True:Nat->Value->World->Prop)) jz vs iz vz wz hiz hz) HD.out ⟨⟨rfl,?_⟩,⟨rfl,?_⟩,⟨rfl,?_⟩,⟨rfl,?_⟩,⟨rfl,?_⟩,⟨rfl,?_⟩,⟨rfl,?_⟩,⟨rfl,?_⟩,⟨rfl,?_⟩,trivial⟩ ?_
  ·intro vs Wx A hA hB hpre K hK;have e4:=(hA 4).trans (show _=pP p 0 by kernel_rfl);obtain ⟨⟨x0,x1,x2,x3,x4,x5,x6,x7⟩,y0,y1,y2,y3,y4,y5,y6⟩:=Bt.out Wx hB;clear hA hpre;go_simp;exact hK _ _ hB rfl (fun _ _ h=>h)
  ·intro vs Wx A hA hB hpre K hK;have e16:=tT (hA 16) (by kernel_rfl) (hpre.1 rfl);clear hA hpre;go_simp;go_at_call 13
   refine (HC1.out _ (jf hp HB0.out hB)).mono ?_;rintro e w3 ⟨rfl,hg⟩;refine hK _ _ (jg hB hg) rfl (fun jz hj hz=>?_);match jz,hj,hz with
   | 0,_,hz=>exact hz
   | 1,_,hz=>exact hz
   | 2,_,hz=>exact hz
   | 3,_,hz=>exact hz
   | 4,_,hz=>exact hz
   | 5,_,hz=>exact hz
   | 6,_,hz=>exact (by obtain ⟨g,h1,h2⟩:=hz;exact ⟨g,h1,tV h2 hg⟩)
   | 7,_,hz=>exact hz
   | 8,_,hz=>exact hz
   | n+9,_,hz=>exact hz
  ·intro vs Wx A hA hB hpre K hK;have e5:=(hA 5).trans (show _=pP p1 0 by kernel_rfl);obtain ⟨⟨x0,x1,x2,x3,x4,x5,x6,x7⟩,y0,y1,y2,y3,y4,y5,y6⟩:=Bt.out Wx hB;clear hA hpre;go_simp;exact hK _ _ hB rfl (fun _ _ h=>h)
  ·intro vs Wx A hA hB hpre K hK;have e18:=tT (hA 18) (by kernel_rfl) (hpre.1 rfl);clear hA hpre;go_simp;go_at_call 21
   refine (HC2.out _ (jf hp HB0.out hB)).mono ?_;rintro e w3 ⟨rfl,hg⟩;refine hK _ _ (jg hB hg) rfl (fun jz hj hz=>?_);match jz,hj,hz with
   | 0,_,hz=>exact hz
   | 1,_,hz=>exact hz
   | 2,_,hz=>exact hz
   | 3,_,hz=>exact hz
   | 4,_,hz=>exact hz
   | 5,_,hz=>exact hz
   | 6,_,hz=>exact (by obtain ⟨g,h1,h2⟩:=hz;exact ⟨g,h1,tV h2 hg⟩)
   | 7,_,hz=>exact hz
   | 8,_,hz=>exact hz
   | n+9,_,hz=>exact hz
  ·intro vs Wx A hA hB hpre K hK;have e2:=(hA 2).trans (show _=Value.slice ra r.length rc by kernel_rfl);clear hA hpre;go_simp;exact hK _ _ hB rfl (fun _ _ h=>h)
  ·intro vs Wx A hA hB hpre K hK;have e20:=tT (hA 20) (by kernel_rfl) (hpre.1 rfl);clear hA hpre;go_simp;go_at_call 22
   refine (HC3.out _ (jf hp HB0.out hB)).mono ?_;rintro e w3 ⟨rfl,hg⟩;refine hK _ _ (jg hB hg) rfl (fun jz hj hz=>?_);match jz,hj,hz with
   | 0,_,hz=>exact hz
   | 1,_,hz=>exact hz
   | 2,_,hz=>exact hz
   | 3,_,hz=>exact hz
   | 4,_,hz=>exact hz
   | 5,_,hz=>exact hz
   | 6,_,hz=>exact (by obtain ⟨g,h1,h2⟩:=hz;exact ⟨g,h1,tV h2 hg⟩)
   | 7,_,hz=>exact hz
   | 8,_,hz=>exact hz
   | n+9,_,hz=>exact hz
  ·intro vs Wx A hA hB hpre K hK;have e17:=tT (hA 17) (by kernel_rfl) (hpre.1 rfl);have e19:=tT (hA 19) (by kernel_rfl) (hpre.2.1 rfl);have e21:=tT (hA 21) (by kernel_rfl) (hpre.2.2.1 rfl);clear hA hpre;go_simp;refine hK _ _ (jg hB (iU _ _)) ⟨_,rfl,heap_alloc_new Wx _⟩ (fun jz hj hz=>?_);match jz,hj,hz with
   | 0,_,hz=>exact hz
   | 1,_,hz=>exact hz
   | 2,_,hz=>exact hz
   | 3,_,hz=>exact hz
   | 4,_,hz=>exact hz
   | 5,_,hz=>exact hz
   | 6,hj,_=>exact absurd rfl hj
   | 7,_,hz=>exact hz
   | 8,_,hz=>exact hz
   | n+9,_,hz=>exact hz
  ·intro vs Wx A hA hB hpre K hK;have hx6:(∃g,vs 6=.slice (some ⟨g,0,none⟩) 3 3/\Wx.heap[g]?=some (.cells #[iI E1,iI E2,iI E3] 36 (0,0))):=hpre.1 rfl;obtain ⟨gx6,hv6,hh6⟩:=hx6;have e22:=((hA 22).trans (show _=vs 6 by kernel_rfl)).trans hv6;clear hA hpre;go_simp;go_at_call 20
   refine (zB _ _ _ _ _ _ hh6).mono ?_;rintro e w3 ⟨rfl,hw⟩;rw [hw,←HPre.out];exact hK _ _ hB rfl (fun _ _ h=>h)
  ·intro vs Wx A hA hB hpre K hK;have e23:=tT (hA 23) (by kernel_rfl) (hpre.1 rfl);clear hA hpre;go_simp;exact hK _ _ hB rfl (fun _ _ h=>h)
  ·intro vs Wx hB hF;have h8:vs 8=iI PE:=hF 8 (by decide);have Cn:=zZ hB;clear hF hB;simp only [Ri.puts];go_simp;go_wp2_with fail
   go_meet
   exact ⟨by first|exact h8|(go_simp;done)|(go_simp;exact h8),Cn.out⟩
 case rest =>
  obtain ⟨rfl,HB1'⟩:=hcut;obtain ⟨w1,hw1⟩:∃z,z=wc:=⟨_,rfl⟩;subst hw1;have HB1:=zZ (jf hp HB0.out HB1'.out);have Cz:=zZ (tV HX.out HB1'.out);have HY1:=zZ (tV HY.out HB1'.out);clear Bt HD HC1 HC2 HC3 HB0 HX HY HB1' HPre;by_cases e1:PE=0
  case neg =>
   have q1:(PE != 0)=true:=by simp [e1]
   obtain ⟨j1,j2,j3⟩:=HJe.out e1;have HF:Hid (JdV p w1 (.returned (.tuple #[.slice none 0 0,.slice none 0 0,iI PE])) (tC t c r Ah) (tH t c r Ah) (tJ t c r Ah)):=by
    show JdV _ _ _ _ _ _;rw [j1,j2,j3];exact ⟨_,_,rfl,Ae _ _,Ac.Ap _ _⟩
   clear e1 j1 j2 j3 HJe HJr HJo HJn HSv HOk HMk;go_wp2;go_ret3;exact ⟨by first|exact HF.out|(rw [hp];exact HF.out),by first|exact HB1.out|(rw [hp];exact HB1.out)⟩
  case pos =>
   subst e1;have HSr:=zZ (HSv.out rfl);obtain ⟨hOr,hln⟩:=HOk.out rfl;have HOr:=zZ hOr;have HJq:=zZ (HJr.out rfl);have hrc:(r.length:Int)<=(rc:Int):=by omega
   have hr0:(0:Int)<=(r.length:Int):=by omega
   clear HSv HOk HJe HJr hOr;have HXL:=zZ fun W' (hW:Below w1.heap.size w1 W')=>And.intro (Pl.iR (tV Cz.out hW)) (jT (tV HY1.out hW));have HD1:=zZ (Below.drew (Below.refl w1.heap.size w1));go_upto_region 4 with fail
   go_cut [12] (fun s12 wx=>∃q kg:Nat,s12=pP q 0/\Hid (w1.heap.size<=q)/\Hid (wx.heap[q]?=some (.cells #[iI t.plan.mode,iI t.plan.Ay,iI t.plan.AR,iI t.plan.Bb,iI t.plan.AJ,.slice ma t.plan.rules.length mc,.slice fa t.Bp.length fc,.slice ea t.edits.length ec,sS c.id,sS c.mem,sS c.Br,iI c.net,iI c.does,sS c.ref,.slice la c.lines.length lc,.slice (some ⟨kg,0,none⟩) c.lines.length c.lines.length,.slice ra r.length r.length] 66 (0,0)))/\Hid (Tw.ah wx (.slice (some ⟨kg,0,none⟩) c.lines.length c.lines.length) (Tw.wZ Ah c.lines))/\Hid (Below w1.heap.size w1 wx))
   case first =>
    refine Ri.I7 14 (by kernel_rfl) (by kernel_rfl) (by kernel_rfl) (by decide) (by kernel_rfl) (fun Wx=>Below w1.heap.size w1 Wx) (fun kz vs wz=>(fun kx vx wx=>match kx with|0=>vx=.agg #[iI t.plan.mode,iI t.plan.Ay,iI t.plan.AR,iI t.plan.Bb,iI t.plan.AJ,.slice ma t.plan.rules.length mc,.slice fa t.Bp.length fc,.slice ea t.edits.length ec]|1=>vx=.agg #[sS c.id,sS c.mem,sS c.Br,iI c.net,iI c.does,sS c.ref,.slice la c.lines.length lc]|2=>vx=pP p1 6|3=>vx=.slice la c.lines.length lc|4=>vx=.slice aa Ah.length ac|5=>(∃kg,vx=.slice (some ⟨kg,0,none⟩) c.lines.length c.lines.length/\Tw.ah wx (.slice (some ⟨kg,0,none⟩) c.lines.length c.lines.length) (Tw.wZ Ah c.lines))|6=>vx=.slice ra r.length rc|7=>vx=.slice ra r.length rc|8=>vx=iI (r.length:Nat)|9=>vx=.slice ra r.length rc|10=>vx=iI (r.length:Nat)|11=>vx=.slice ra r.length r.length|12=>(∃kg,vx=.agg #[iI t.plan.mode,iI t.plan.Ay,iI t.plan.AR,iI t.plan.Bb,iI t.plan.AJ,.slice ma t.plan.rules.length mc,.slice fa t.Bp.length fc,.slice ea t.edits.length ec,sS c.id,sS c.mem,sS c.Br,iI c.net,iI c.does,sS c.ref,.slice la c.lines.length lc,.slice (some ⟨kg,0,none⟩) c.lines.length c.lines.length,.slice ra r.length r.length]/\Tw.ah wx (.slice (some ⟨kg,0,none⟩) c.lines.length c.lines.length) (Tw.wZ Ah c.lines))|13=>(∃q,vx=pP q 0/\w1.heap.size<=q/\wx.heap[q]?=some (.cells #[iI 0,iI 0,iI 0,iI 0,iI 0,.slice none 0 0,.slice none 0 0,.slice none 0 0,.string ⟨#[]⟩,.string ⟨#[]⟩,.string ⟨#[]⟩,iI 0,iI 0,.string ⟨#[]⟩,.slice none 0 0,.slice none 0 0,.slice none 0 0] 66 (0,0)))|_=>True:Nat->Value->World->Prop) kz (vs kz) wz) (fun Cw vs=>True) (fun kz=>[kz]) (by kernel_rfl) (fun jz vs iz vz wz hiz hz=>Ri.wI (F:=(fun kx vx wx=>match kx with|0=>vx=.agg #[iI t.plan.mode,iI t.plan.Ay,iI t.plan.AR,iI t.plan.Bb,iI t.plan.AJ,.slice ma t.plan.rules.length mc,.slice fa t.Bp.length fc,.slice ea t.edits.length ec]|1=>vx=.agg #[sS c.id,sS c.mem,sS c.Br,iI c.net,iI c.does,sS c.ref,.slice la c.lines.length lc]|2=>vx=pP p1 6|3=>vx=.slice la c.lines.length lc|4=>vx=.slice aa Ah.length ac|5=>(∃kg,vx=.slice (some ⟨kg,0,none⟩) c.lines.length c.lines.length/\Tw.ah wx (.slice (some ⟨kg,0,none⟩) c.lines.length c.lines.length) (Tw.wZ Ah c.lines))|6=>vx=.slice ra r.length rc|7=>vx=.slice ra r.length rc|8=>vx=iI (r.length:Nat)|9=>vx=.slice ra r.length rc|10=>vx=iI (r.length:Nat)|11=>vx=.slice ra r.length r.length|12=>(∃kg,vx=.agg #[iI t.plan.mode,iI t.plan.Ay,iI t.plan.AR,iI t.plan.Bb,iI t.plan.AJ,.slice ma t.plan.rules.length mc,.slice fa t.Bp.length fc,.slice ea t.edits.length ec,sS c.id,sS c.mem,sS c.Br,iI c.net,iI c.does,sS c.ref,.slice la c.lines.length lc,.slice (some ⟨kg,0,none⟩) c.lines.length c.lines.length,.slice ra r.length r.length]/\Tw.ah wx (.slice (some ⟨kg,0,none⟩) c.lines.length c.lines.length) (Tw.wZ Ah c.lines))|13=>(∃q,vx=pP q 0/\w1.heap.size<=q/\wx.heap[q]?=some (.cells #[iI 0,iI 0,iI 0,iI 0,iI 0,.slice none 0 0,.slice none 0 0,.slice none 0 0,.string ⟨#[]⟩,.string ⟨#[]⟩,.string ⟨#[]⟩,iI 0,iI 0,.string ⟨#[]⟩,.slice none 0 0,.slice none 0 0,.slice none 0 0] 66 (0,0)))|_=>True:Nat->Value->World->Prop)) jz vs iz vz wz hiz hz) HD1.out ?_ ⟨⟨rfl,?_⟩,⟨rfl,?_⟩,⟨rfl,?_⟩,⟨rfl,?_⟩,⟨rfl,?_⟩,⟨rfl,?_⟩,⟨rfl,?_⟩,⟨rfl,?_⟩,⟨rfl,?_⟩,⟨rfl,?_⟩,⟨rfl,?_⟩,⟨rfl,?_⟩,⟨rfl,?_⟩,⟨rfl,?_⟩,trivial⟩ ?_
    ·intro vs hvs;exact trivial
    ·intro vs Wx A Cw hA hB hls hX hno hpre K hK;have e4:=(hA 4).trans (show _=pP p 0 by kernel_rfl);obtain ⟨⟨x0,x1,x2,x3,x4,x5,x6,x7⟩,y0,y1,y2,y3,y4,y5,y6⟩:=HXL.out Wx hB;clear hA hpre;go_simp;exact hK _ _ hB rfl (fun _ _ h=>h) hX
    ·intro vs Wx A Cw hA hB hls hX hno hpre K hK;have e5:=(hA 5).trans (show _=pP p1 0 by kernel_rfl);obtain ⟨⟨x0,x1,x2,x3,x4,x5,x6,x7⟩,y0,y1,y2,y3,y4,y5,y6⟩:=HXL.out Wx hB;clear hA hpre;go_simp;exact hK _ _ hB rfl (fun _ _ h=>h) hX
    ·intro vs Wx A Cw hA hB hls hX hno hpre K hK;have e5:=(hA 5).trans (show _=pP p1 0 by kernel_rfl);clear hA hpre;go_simp;exact hK _ _ hB rfl (fun _ _ h=>h) hX
    ·intro vs Wx A Cw hA hB hls hX hno hpre K hK;have e29:=tT (hA 29) (by kernel_rfl) (hpre.1 rfl);obtain ⟨⟨x0,x1,x2,x3,x4,x5,x6,x7⟩,y0,y1,y2,y3,y4,y5,y6⟩:=HXL.out Wx hB;clear hA hpre;go_simp;exact hK _ _ hB rfl (fun _ _ h=>h) hX
    ·intro vs Wx A Cw hA hB hls hX hno hpre K hK;have e3:=(hA 3).trans (show _=Value.slice aa Ah.length ac by kernel_rfl);clear hA hpre;go_simp;exact hK _ _ hB rfl (fun _ _ h=>h) hX
    ·intro vs Wx A Cw hA hB hls hX hno hpre K hK;have e30:=tT (hA 30) (by kernel_rfl) (hpre.1 rfl);have e31:=tT (hA 31) (by kernel_rfl) (hpre.2.1 rfl);clear hA hpre;go_simp;go_at_call 23
     refine (HMk.out Wx (jf hp HB1.out hB)).mono ?_;rintro e w3 ⟨kg,rfl,hbl,hg⟩;refine hK _ _ (jg hB hg) ⟨_,rfl,hbl⟩ (fun jz hj hz=>?_) hX;match jz,hj,hz with
     | 0,_,hz=>exact hz
     | 1,_,hz=>exact hz
     | 2,_,hz=>exact hz
     | 3,_,hz=>exact hz
     | 4,_,hz=>exact hz
     | 5,hj,_=>exact absurd rfl hj
     | 6,_,hz=>exact hz
     | 7,_,hz=>exact hz
     | 8,_,hz=>exact hz
     | 9,_,hz=>exact hz
     | 10,_,hz=>exact hz
     | 11,_,hz=>exact hz
     | 12,_,hz=>exact (hz.elim fun kg h=>⟨kg,h.1,h.2.far hg⟩)
     | 13,_,hz=>exact (hz.elim fun g h=>⟨g,h.1,h.2.1,tV h.2.2 hg⟩)
     | n+14,_,hz=>exact hz
    iterate 2
     ·intro vs Wx A Cw hA hB hls hX hno hpre K hK;have e2:=(hA 2).trans (show _=Value.slice ra r.length rc by kernel_rfl);clear hA hpre;go_simp;exact hK _ _ hB rfl (fun _ _ h=>h) hX
    ·intro vs Wx A Cw hA hB hls hX hno hpre K hK;have e34:=tT (hA 34) (by kernel_rfl) (hpre.1 rfl);clear hA hpre;go_simp;exact hK _ _ hB rfl (fun _ _ h=>h) hX
    ·intro vs Wx A Cw hA hB hls hX hno hpre K hK;have e2:=(hA 2).trans (show _=Value.slice ra r.length rc by kernel_rfl);clear hA hpre;go_simp;exact hK _ _ hB rfl (fun _ _ h=>h) hX
    ·intro vs Wx A Cw hA hB hls hX hno hpre K hK;have e36:=tT (hA 36) (by kernel_rfl) (hpre.1 rfl);clear hA hpre;go_simp;exact hK _ _ hB rfl (fun _ _ h=>h) hX
    ·intro vs Wx A Cw hA hB hls hX hno hpre K hK;have e33:=tT (hA 33) (by kernel_rfl) (hpre.1 rfl);have e35:=tT (hA 35) (by kernel_rfl) (hpre.2.1 rfl);have e37:=tT (hA 37) (by kernel_rfl) (hpre.2.2.1 rfl);clear hA hpre;go_simp;exact hK _ _ hB rfl (fun _ _ h=>h) hX
    ·intro vs Wx A Cw hA hB hls hX hno hpre K hK;have e27:=tT (hA 27) (by kernel_rfl) (hpre.1 rfl);have e28:=tT (hA 28) (by kernel_rfl) (hpre.2.1 rfl);have hx5:(∃kg,vs 5=.slice (some ⟨kg,0,none⟩) c.lines.length c.lines.length/\Tw.ah Wx (.slice (some ⟨kg,0,none⟩) c.lines.length c.lines.length) (Tw.wZ Ah c.lines)):=hpre.2.2.1 rfl;obtain ⟨gx5,hv5,hh5⟩:=hx5;have e32:=((hA 32).trans (show _=vs 5 by kernel_rfl)).trans hv5;have e38:=tT (hA 38) (by kernel_rfl) (hpre.2.2.2.1 rfl);clear hA hpre;go_simp;exact hK _ _ hB ⟨gx5,rfl,hh5⟩ (fun _ _ h=>h) hX
    ·intro vs Wx A Cw hA hB hls hX hno hpre K hK;clear hA hpre;go_simp;refine hK _ _ (jg hB (iU Wx _)) ⟨_,rfl,hB.size,heap_alloc_new Wx _⟩ (fun jz hj hz=>?_) hX;match jz,hj,hz with
     | 0,_,hz=>exact hz
     | 1,_,hz=>exact hz
     | 2,_,hz=>exact hz
     | 3,_,hz=>exact hz
     | 4,_,hz=>exact hz
     | 5,_,hz=>exact (hz.elim fun kg h=>⟨kg,h.1,h.2.far (iU Wx _)⟩)
     | 6,_,hz=>exact hz
     | 7,_,hz=>exact hz
     | 8,_,hz=>exact hz
     | 9,_,hz=>exact hz
     | 10,_,hz=>exact hz
     | 11,_,hz=>exact hz
     | 12,_,hz=>exact (hz.elim fun kg h=>⟨kg,h.1,h.2.far (iU Wx _)⟩)
     | 13,hj,_=>exact absurd rfl hj
     | n+14,_,hz=>exact hz
    ·intro vs Wx Cw hall hX hB hF;refine fun A14 hA K14 hK14=>?_;have e12:=(hA 12).trans (show _=vs 13 by kernel_rfl);have e39:=(hA 39).trans (show _=vs 12 by kernel_rfl);clear hA;obtain ⟨kg,h39,hbl⟩:=hF 12 (by decide);obtain ⟨q,epq,hqa,hza⟩:=hF 13 (by decide);rw [h39] at e39;rw [epq] at e12;obtain ⟨m0,m1,m2,m3,m4,m5,m6,m7,m8,m9,m10,m11,m12,m13,m14,m15,m16⟩:=b17 hza;obtain ⟨n0,n1,n2,n3,n4,n5,n6,n7,n8,n9,n10,n11,n12,n13,n14,n15,n16⟩:=f17 hza;have HNA:=zZ (AB hza (iI t.plan.mode) (iI t.plan.Ay) (iI t.plan.AR) (iI t.plan.Bb) (iI t.plan.AJ) (.slice ma t.plan.rules.length mc) (.slice fa t.Bp.length fc) (.slice ea t.edits.length ec) (sS c.id) (sS c.mem) (sS c.Br) (iI c.net) (iI c.does) (sS c.ref) (.slice la c.lines.length lc) (.slice (some ⟨kg,0,none⟩) c.lines.length c.lines.length) (.slice ra r.length r.length));have HBP:=zZ (AA hB q hqa (iI t.plan.mode) (iI t.plan.Ay) (iI t.plan.AR) (iI t.plan.Bb) (iI t.plan.AJ) (.slice ma t.plan.rules.length mc) (.slice fa t.Bp.length fc) (.slice ea t.edits.length ec) (sS c.id) (sS c.mem) (sS c.Br) (iI c.net) (iI c.does) (sS c.ref) (.slice la c.lines.length lc) (.slice (some ⟨kg,0,none⟩) c.lines.length c.lines.length) (.slice ra r.length r.length));have HBl:Hid (Tw.ah (((((((((((((((((Wx.setCell ⟨q,0,none⟩ (iI t.plan.mode)).setCell ⟨q,1,none⟩ (iI t.plan.Ay)).setCell ⟨q,2,none⟩ (iI t.plan.AR)).setCell ⟨q,3,none⟩ (iI t.plan.Bb)).setCell ⟨q,4,none⟩ (iI t.plan.AJ)).setCell ⟨q,5,none⟩ (.slice ma t.plan.rules.length mc)).setCell ⟨q,6,none⟩ (.slice fa t.Bp.length fc)).setCell ⟨q,7,none⟩ (.slice ea t.edits.length ec)).setCell ⟨q,8,none⟩ (sS c.id)).setCell ⟨q,9,none⟩ (sS c.mem)).setCell ⟨q,10,none⟩ (sS c.Br)).setCell ⟨q,11,none⟩ (iI c.net)).setCell ⟨q,12,none⟩ (iI c.does)).setCell ⟨q,13,none⟩ (sS c.ref)).setCell ⟨q,14,none⟩ (.slice la c.lines.length lc)).setCell ⟨q,15,none⟩ (.slice (some ⟨kg,0,none⟩) c.lines.length c.lines.length)).setCell ⟨q,16,none⟩ (.slice ra r.length r.length)) (.slice (some ⟨kg,0,none⟩) c.lines.length c.lines.length) (Tw.wZ Ah c.lines)):=jD hbl hza (fun b=>by simp) (fun k hk hne=>oz hne (iI t.plan.mode) (iI t.plan.Ay) (iI t.plan.AR) (iI t.plan.Bb) (iI t.plan.AJ) (.slice ma t.plan.rules.length mc) (.slice fa t.Bp.length fc) (.slice ea t.edits.length ec) (sS c.id) (sS c.mem) (sS c.Br) (iI c.net) (iI c.does) (sS c.ref) (.slice la c.lines.length lc) (.slice (some ⟨kg,0,none⟩) c.lines.length c.lines.length) (.slice ra r.length r.length)) (AA (Below.refl 0 Wx) q (Nat.zero_le _) (iI t.plan.mode) (iI t.plan.Ay) (iI t.plan.AR) (iI t.plan.Bb) (iI t.plan.AJ) (.slice ma t.plan.rules.length mc) (.slice fa t.Bp.length fc) (.slice ea t.edits.length ec) (sS c.id) (sS c.mem) (sS c.Br) (iI c.net) (iI c.does) (sS c.ref) (.slice la c.lines.length lc) (.slice (some ⟨kg,0,none⟩) c.lines.length c.lines.length) (.slice ra r.length r.length)).size;have HEA:=zZ epq;have HQA:=zZ hqa;clear hqa hza hbl h39;go_simp;refine hK14 undef _ ?_;clear m0 m1 m2 m3 m4 m5 m6 m7 m8 m9 m10 m11 m12 m13 m14 m15 m16 n0 n1 n2 n3 n4 n5 n6 n7 n8 n9 n10 n11 n12 n13 n14 n15 n16 e12 e39;clear hB hX hall hF;simp only [Ri.Tail,Ri.puts];go_simp;go_wp2_with fail
     go_meet
     exact ⟨q,kg,by first|exact HEA.out|(go_simp;exact HEA.out)|(simpa [Ri.upd] using HEA.out),HQA.out,HNA.out,HBl.out,HBP.out⟩
   case rest =>
    obtain ⟨q,kg,rfl,HQl,HQ2,HBl2,HB2'⟩:=hcut;obtain ⟨w2,hw2⟩:∃z,z=wc:=⟨_,rfl⟩;subst hw2;have HB2:=zZ (jf hp HB1.out HB2'.out);have HY2:=zZ (tV HY1.out HB2'.out);have HQp:Hid (p<=q):=by show p<=q;have h1:=HB1.out.size;have h2:=HQl.out;omega
    have HRr:Hid (cu (fun b=>b ≠ q) w2 (.slice ra r.length r.length) r):=by
     obtain ⟨a,cc,he,h1,h2,h3⟩:=HR0.out;injection he with ha hb hc;subst ha hc;refine ⟨ra,r.length,rfl,Nat.le_refl _,by omega,h3.imp id ?_⟩;rintro ⟨b,oo,ha,_,hb,hcc⟩;exact ⟨b,oo,ha,by have:=HQp.out;omega,Nat.lt_of_lt_of_le hb HB2.out.size,fun j y hj=>(hcc j y hj).of (HB2.out.block b (by omega))⟩
    have HMK:=Eh c.lines.length (by omega);clear HXL HD1 HMk HB2' Cz HY1 HB1 HR0;obtain ⟨y0,y1,y2,y3,y4,y5,y6⟩:=jT HY2.out;go_upto_region 6 with fail
    clear y0 y1 y2 y3 y4 y5 y6;have HO3:Hid ((w2.alloc (.cells ⟨ocs (List.replicate c.lines.length Sh.ot0)⟩ TO)).heap[w2.heap.size]?=some (.cells ⟨ocs (List.replicate c.lines.length Sh.ot0)⟩ TO (0,0))):=fK w2 _ _;have hb3:=iU w2 (.cells ⟨ocs (List.replicate c.lines.length Sh.ot0)⟩ TO);have HB3:=zZ (jf hp HB2.out hb3);have HQ3:=zZ (tV HQ2.out hb3);have HBl3:=zZ (HBl2.out.far hb3);have HR3:=zZ (En HRr.out hb3);have HOg:Hid (q < w2.heap.size):=(Array.getElem?_eq_some_iff.1 HQ2.out).1;clear hb3 HB2 HQ2 HBl2 HRr HY2 HMK;generalize w2.alloc (.cells ⟨ocs (List.replicate c.lines.length Sh.ot0)⟩ TO)=w3 at *;generalize w2.heap.size=og at *;go_wp2;go_loopg [46] c.lines.length (fun gg i wr=>∃(j:Nat) (R:List Row) (D:List Ot) (v:Value),j<=c.lines.length/\gg=c.lines.length - j/\i=iI (j:Nat)/\D.length=j/\Hid (R.length<=r.length+2 * j)/\Hid (Ac.Ok R)/\Hid (D6 (Bw t c) R ((its t c Ah).drop j)=D6 (Bw t c) r (its t c Ah))/\Hid (D ++ Ea (Bw t c) R ((its t c Ah).drop j)=Ea (Bw t c) r (its t c Ah))/\Hid (D7 (Bw t c) R ((its t c Ah).drop j)=D7 (Bw t c) r (its t c Ah))/\Hid (wr.heap[q]?=some (.cells #[iI t.plan.mode,iI t.plan.Ay,iI t.plan.AR,iI t.plan.Bb,iI t.plan.AJ,.slice ma t.plan.rules.length mc,.slice fa t.Bp.length fc,.slice ea t.edits.length ec,sS c.id,sS c.mem,sS c.Br,iI c.net,iI c.does,sS c.ref,.slice la c.lines.length lc,.slice (some ⟨kg,0,none⟩) c.lines.length c.lines.length,v] 66 (0,0)))/\Hid (cu (fun b=>b ≠ q) wr v R)/\Hid (wr.heap[og]?=some (.cells ⟨ocs (D ++ List.replicate (c.lines.length - D.length) Sh.ot0)⟩ TO (0,0)))/\Hid (Tw.ah wr (.slice (some ⟨kg,0,none⟩) c.lines.length c.lines.length) (Tw.wZ Ah c.lines))/\Hid (Below p w wr))
    case atStart=>exact ⟨0,r,[],_,Nat.zero_le _,rfl,rfl,rfl,(by show r.length<=_;omega),HOr.out,(by show _=_;rw [List.drop_zero]),(by show _=_;rw [List.drop_zero];rfl),(by show _=_;rw [List.drop_zero]),HQ3.out,HR3.out,(by show _=_;rw [List.nil_append];exact HO3.out),HBl3.out,HB3.out⟩
    case round =>
     obtain ⟨j,R,D,v,hj,hg,rfl,hD,HRl,HOk,HE,HV,HRR,HQ,HRw,HO,HBl,HB⟩:=hrel;obtain ⟨va',vc',rfl,-,-⟩:=HRw.out.form;by_cases hlt:j < c.lines.length
     ·obtain ⟨x,hx⟩:∃x,c.lines[j]?=some x:=⟨_,List.getElem?_eq_getElem hlt⟩;have hlr:R.length<=8000:=by have:=HRl.out;omega
      have HCa:=zZ (HSr.out R j x _ q wr kg hx HQ.out HB.out HBl.out HRw.out HOk.out hlr);have hdr:=sQ t c Ah j x hx;have HbE:Hid (zL (Bw t c) R (Cu t c j x (xw Ah c j)) ≠ 0->D6 (Bw t c) r (its t c Ah)=zL (Bw t c) R (Cu t c j x (xw Ah c j))):=fun h=>Ec hdr HE.out h;have HsE:Hid (zL (Bw t c) R (Cu t c j x (xw Ah c j))=0->D6 (Bw t c) (zO (Bw t c) R (Cu t c j x (xw Ah c j))) ((its t c Ah).drop (j+1))=D6 (Bw t c) r (its t c Ah)):=fun h=>Ei hdr HE.out h;have HsV:Hid ((D ++ [zU (Bw t c) R (Cu t c j x (xw Ah c j))]) ++ Ea (Bw t c) (zO (Bw t c) R (Cu t c j x (xw Ah c j))) ((its t c Ah).drop (j+1))=Ea (Bw t c) r (its t c Ah)):=Eb hdr HV.out;have HsR:Hid (D7 (Bw t c) (zO (Bw t c) R (Cu t c j x (xw Ah c j))) ((its t c Ah).drop (j+1))=D7 (Bw t c) r (its t c Ah)):=D9 hdr HRR.out;have HsO:Hid (zL (Bw t c) R (Cu t c j x (xw Ah c j))=0->Ac.Ok (zO (Bw t c) R (Cu t c j x (xw Ah c j)))):=fun h=>step_ok HOk.out h;have HsL:Hid ((zO (Bw t c) R (Cu t c j x (xw Ah c j))).length<=r.length+2 * (j+1)):=by
       have h1:=zQ (Bw t c) R (Cu t c j x (xw Ah c j));have h2:=HRl.out;show _<=_;omega
      have HDj:Hid ((D ++ List.replicate (c.lines.length - D.length) Sh.ot0)[j]?=some Sh.ot0):=by
       show _=_;rw [List.getElem?_append_right (by omega),hD,Nat.sub_self,List.getElem?_replicate,if_pos (by omega)]
      clear HE HV HRR hdr hlr HRl HOk hx;generalize zL (Bw t c) R (Cu t c j x (xw Ah c j))=OE at *;generalize zU (Bw t c) R (Cu t c j x (xw Ah c j))=OV1 at *;generalize zO (Bw t c) R (Cu t c j x (xw Ah c j))=OR at *;have hoq:og ≠ q:=by have:=HOg.out;omega
      have HGo:Hid (∀w5,wr.grownBy w5 (some q)->w5.heap[og]?=some (.cells ⟨ocs (D ++ List.replicate (c.lines.length - D.length) Sh.ot0)⟩ TO (0,0))):=fun w5 hgr=>(hgr.block og (Array.getElem?_eq_some_iff.1 HO.out).1 (fun e=>hoq (Option.some.inj e))).trans HO.out;have HGb:Hid (∀w5,wr.grownBy w5 (some q)->Below p w w5):=fun w5 hgr=>⟨hgr.os.trans HB.out.os,hgr.tape.trans HB.out.tape,hgr.output.trans HB.out.output,Nat.le_trans HB.out.size hgr.size,fun k hk=>(hgr.block k (by have:=HB.out.size;omega) (fun e=>by have:=HQp.out;have:=Option.some.inj e;omega)).trans (HB.out.block k hk)⟩;have HGl:Hid (∀w5,wr.grownBy w5 (some q)->Tw.ah w5 (.slice (some ⟨kg,0,none⟩) c.lines.length c.lines.length) (Tw.wZ Ah c.lines)):=fun w5 hgr=>jD HBl.out HQ.out (fun b=>by simp ) (fun k hk hne=>hgr.block k hk (fun e=>hne (Option.some.inj e))) hgr.size;have HOq:=zZ hoq;have hltI:(j:Int) < (c.lines.length:Int):=by omega
      clear hoq HSr HBl HQ HO HRw;go_wp2_with fail
      try (go_at_call 24)
      refine HCa.out.mono ?_;rintro e w5 ⟨⟨o,rfl,ho⟩,hgr,hrw⟩;have HO5:=zZ (HGo.out w5 hgr);have CF:=zZ (HGb.out w5 hgr);have HBl5:=zZ (HGl.out w5 hgr);have HRv:=zZ hrw;have Hov:=zZ ho;have hcs:=zY HO5.out HDj.out;unfold bI at hcs;obtain ⟨c0,c1,c2,c3,c4,c5,c6,c7⟩:=hcs;have f0:=Lib.frozen_of_heap HO5.out (j * 8);have f1:=Lib.frozen_of_heap HO5.out (j * 8+1);have f2:=Lib.frozen_of_heap HO5.out (j * 8+2);have f3:=Lib.frozen_of_heap HO5.out (j * 8+3);have f4:=Lib.frozen_of_heap HO5.out (j * 8+4);have f5:=Lib.frozen_of_heap HO5.out (j * 8+5);have f6:=Lib.frozen_of_heap HO5.out (j * 8+6);have f7:=Lib.frozen_of_heap HO5.out (j * 8+7);have hogl:og < w5.heap.size:=(Array.getElem?_eq_some_iff.1 HO5.out).1;clear hgr hrw ho HGo HGb HGl HCa HB;by_cases e2:OE=0
      case neg =>
       have q2:(OE != 0)=true:=by simp [e2]
       go_wp2;generalize Cg:((((((((w5.setCell ⟨og,j * 8,none⟩ (iI o.al)).setCell ⟨og,j * 8+1,none⟩ (iI o.de)).setCell ⟨og,j * 8+2,none⟩ (iI o.cp)).setCell ⟨og,j * 8+3,none⟩ (iI o.cn)).setCell ⟨og,j * 8+4,none⟩ (iI o.plan)).setCell ⟨og,j * 8+5,none⟩ (iI o.wr)).setCell ⟨og,j * 8+6,none⟩ (iI o.pr)).setCell ⟨og,j * 8+7,none⟩ (iI o.deny))=w6 at *;have HB6:Hid (Below p w w6):=by rw [←Cg];exact AV CF.out og (by have:=HOg.out;have:=HQp.out;omega) (j * 8) _ _ _ _ _ _ _ _
       clear Cg;have hje:tC t c r Ah=OE:=by rw [HJq.out,HbE.out e2]
       have HF:Hid (JdV p w6 (.returned (.tuple #[.slice none 0 0,.slice none 0 0,iI OE])) (tC t c r Ah) (tH t c r Ah) (tJ t c r Ah)):=by
        obtain ⟨j2,j3⟩:=HJn.out (by rw [hje];exact e2);show JdV _ _ _ _ _ _;rw [j2,j3,hje];exact ⟨_,_,rfl,Ae _ _,Ac.Ap _ _⟩
       clear c0 c1 c2 c3 c4 c5 c6 c7 f0 f1 f2 f3 f4 f5 f6 f7;go_ret3;exact ⟨by first|exact HF.out|(rw [hp];exact HF.out),by first|exact HB6.out|(rw [hp];exact HB6.out)⟩
      case pos =>
       subst e2;obtain ⟨v',hq5,hr5⟩:=HRv.out rfl;obtain rfl:=Hov.out rfl;have HQ5:=zZ hq5;have HR5:=zZ hr5;clear hq5 hr5 HRv Hov;go_wp2;clear c0 c1 c2 c3 c4 c5 c6 c7 f0 f1 f2 f3 f4 f5 f6 f7 hogl;have HB6:Hid (Below p w ((((((((w5.setCell ⟨og,j * 8,none⟩ (iI o.al)).setCell ⟨og,j * 8+1,none⟩ (iI o.de)).setCell ⟨og,j * 8+2,none⟩ (iI o.cp)).setCell ⟨og,j * 8+3,none⟩ (iI o.cn)).setCell ⟨og,j * 8+4,none⟩ (iI o.plan)).setCell ⟨og,j * 8+5,none⟩ (iI o.wr)).setCell ⟨og,j * 8+6,none⟩ (iI o.pr)).setCell ⟨og,j * 8+7,none⟩ (iI o.deny))):=AV CF.out og (by have:=HOg.out;have:=HQp.out;omega) (j * 8) _ _ _ _ _ _ _ _;have HFr6:Hid (∀k,k ≠ og->(((((((((w5.setCell ⟨og,j * 8,none⟩ (iI o.al)).setCell ⟨og,j * 8+1,none⟩ (iI o.de)).setCell ⟨og,j * 8+2,none⟩ (iI o.cp)).setCell ⟨og,j * 8+3,none⟩ (iI o.cn)).setCell ⟨og,j * 8+4,none⟩ (iI o.plan)).setCell ⟨og,j * 8+5,none⟩ (iI o.wr)).setCell ⟨og,j * 8+6,none⟩ (iI o.pr)).setCell ⟨og,j * 8+7,none⟩ (iI o.deny))).heap[k]?=w5.heap[k]?):=fun k hk=>oC hk _ _ _ _ _ _ _ _;have HS6:Hid (w5.heap.size<=(((((((((w5.setCell ⟨og,j * 8,none⟩ (iI o.al)).setCell ⟨og,j * 8+1,none⟩ (iI o.de)).setCell ⟨og,j * 8+2,none⟩ (iI o.cp)).setCell ⟨og,j * 8+3,none⟩ (iI o.cn)).setCell ⟨og,j * 8+4,none⟩ (iI o.plan)).setCell ⟨og,j * 8+5,none⟩ (iI o.wr)).setCell ⟨og,j * 8+6,none⟩ (iI o.pr)).setCell ⟨og,j * 8+7,none⟩ (iI o.deny))).heap.size):=(AV (Below.refl 0 w5) og (Nat.zero_le _) (j * 8) _ _ _ _ _ _ _ _).size;have HO6:Hid ((((((((((w5.setCell ⟨og,j * 8,none⟩ (iI o.al)).setCell ⟨og,j * 8+1,none⟩ (iI o.de)).setCell ⟨og,j * 8+2,none⟩ (iI o.cp)).setCell ⟨og,j * 8+3,none⟩ (iI o.cn)).setCell ⟨og,j * 8+4,none⟩ (iI o.plan)).setCell ⟨og,j * 8+5,none⟩ (iI o.wr)).setCell ⟨og,j * 8+6,none⟩ (iI o.pr)).setCell ⟨og,j * 8+7,none⟩ (iI o.deny))).heap[og]?=some (.cells ⟨ocs ((D ++ [o]) ++ List.replicate (c.lines.length - (D ++ [o]).length) Sh.ot0)⟩ TO (0,0))):=by
        have h1:=BU (o:=j * 8) HO5.out (iI o.al) (iI o.de) (iI o.cp) (iI o.cn) (iI o.plan) (iI o.wr) (iI o.pr) (iI o.deny);have h2:=EO o (D ++ List.replicate (c.lines.length - D.length) Sh.ot0) j (by simp;omega);have h3:=CG D c.lines.length o (by omega);rw [hD] at h3;rw [hD] at h1 h2;show _=_;rw [h1];show some (Obj.cells ⟨EN (ocs (D ++ List.replicate (c.lines.length - j) Sh.ot0)) (j * 8) _ _ _ _ _ _ _ _⟩ TO (0,0))=_;rw [h2,h3]
       generalize ((((((((w5.setCell ⟨og,j * 8,none⟩ (iI o.al)).setCell ⟨og,j * 8+1,none⟩ (iI o.de)).setCell ⟨og,j * 8+2,none⟩ (iI o.cp)).setCell ⟨og,j * 8+3,none⟩ (iI o.cn)).setCell ⟨og,j * 8+4,none⟩ (iI o.plan)).setCell ⟨og,j * 8+5,none⟩ (iI o.wr)).setCell ⟨og,j * 8+6,none⟩ (iI o.pr)).setCell ⟨og,j * 8+7,none⟩ (iI o.deny))=w6 at *;go_roundg (c.lines.length - (j+1))
       case rel=>exact ⟨j+1,OR,D ++ [o],v',by omega,rfl,by go_num,by rw [List.length_append,hD];rfl,HsL.out,HsO.out (by first|rfl|trivial),HsE.out (by first|rfl|trivial),HsV.out,HsR.out,(by show _=_;rw [HFr6.out q (Ne.symm HOq.out)];exact HQ5.out),Et HR5.out HO5.out HFr6.out HS6.out,HO6.out,jE HBl5.out HO5.out HFr6.out HS6.out,HB6.out⟩
       case measure=>omega
     ·have hjn:j=c.lines.length:=by omega
      have hdr:(its t c Ah).drop j=[]:=List.drop_eq_nil_of_le (by rw [qzB];omega);have hE0:tC t c r Ah=0:=by rw [HJq.out,←HE.out,hdr];rfl
      obtain ⟨jo,jr⟩:=HJo.out hE0;have HVo:Hid (tH t c r Ah=D):=by show _=_;rw [jo,←HV.out,hdr];exact List.append_nil D
      have HVr:Hid (tJ t c r Ah=R):=by show _=_;rw [jr,←HRR.out,hdr];rfl
      have HE0:=zZ hE0;have HOD:Hid (wr.heap[og]?=some (.cells ⟨ocs D⟩ TO (0,0))):=by
       have h:=HO.out;rw [hD,hjn,Nat.sub_self,List.replicate_zero,List.append_nil] at h;exact h
      have HDn:Hid (D.length=c.lines.length):=by show _=_;omega
      have HCl:=zZ (Ac.bN R _ wr HRw.out.all (by have:=HRl.out;omega));have hlt':¬ (j:Int) < (c.lines.length:Int):=by omega
      have HLn:Hid (c.lines.length<=999):=hln;obtain ⟨h0,h1,h2,h3,h4,h5,h6,h7,h8,h9,h10,h11,h12,h13,h14,h15,h16⟩:=b17 HQ.out;clear hjn hdr hE0 jo jr HE HV HRR HO HRw HRl HOk HBl HSr HJq HJo HJn hD;go_wp2_with fail
      try (go_at_call 25)
      refine HCl.out.mono ?_;rintro e w5 ⟨v5,rfl,ho5,hb5⟩;have CF:=zZ (jf hp HB.out hb5);have HF:Hid (JdV p w5 (.returned (.tuple #[.slice (some ⟨og,0,none⟩) c.lines.length c.lines.length,v5,iI 0])) (tC t c r Ah) (tH t c r Ah) (tJ t c r Ah)):=by
       show JdV _ _ _ _ _ _;rw [HVo.out,HVr.out,HE0.out];refine ⟨_,_,rfl,?_,Ac.gF (by have:=HB.out.size;omega) ho5⟩;have h:=qzC (B:=p) (tV HOD.out hb5) (by have:=HOg.out;have:=HQp.out;omega) (by have:=HDn.out;have:=HLn.out;omega);rw [HDn.out] at h;exact h
      clear ho5 hb5 h0 h1 h2 h3 h4 h5 h6 h7 h8 h9 h10 h11 h12 h13 h14 h15 h16;go_wp2;go_ret3;exact ⟨by first|exact HF.out|(rw [hp];exact HF.out),by first|exact CF.out|(rw [hp];exact CF.out)⟩
end Ju
end Go.Proofs.YtfbfeoplldjbpaaGreatDoor
