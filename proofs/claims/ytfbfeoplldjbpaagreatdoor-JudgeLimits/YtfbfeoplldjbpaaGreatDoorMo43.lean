/-
  Texts put together (merge.py): LWeightP, JLight, JLaws, JSame, YSame.
-/
import Derived.Test.YtfbfeoplldjbpaaGreatDoorMo4
import Derived.Test.YtfbfeoplldjbpaaGreatDoorMo19
import Derived.Test.YtfbfeoplldjbpaaGreatDoorMo15
import Derived.Test.YtfbfeoplldjbpaaGreatDoorMo35
import Derived.Test.YtfbfeoplldjbpaaGreatDoorMo8
set_option linter.unusedSimpArgs false
set_option linter.unusedVariables false
set_option maxHeartbeats 16000000
set_option maxRecDepth 100000
section
namespace Go.Proofs.YtfbfeoplldjbpaaGreatDoor.Cm
open Go.RowKit
def bF (x:Ln):Prop:=x.proc.length<=40000/\x.mods.length<=20000/\∀t ∈ x.mods,t.length<=20000
def aB (c:Cl):Prop:=c.lines.length<=3000/\∀x ∈ c.lines,bF x
theorem Hg (l:List Tx) (k:Nat) (t:Tx) (hx:l[k]?=some t) (h:∀t ∈ l.take k,t.length<=20000) (ht:t.length<=20000):∀t ∈ l.take (k+1),t.length<=20000:=by
 intro s hs
 rw [List.take_add_one,hx] at hs
 rcases List.mem_append.1 hs with h1|h1
 ·exact h s h1
 ·simp at h1;rw [h1];exact ht
theorem vX (l:List Ln) (k:Nat) (t:Ln) (hx:l[k]?=some t) (h:∀t ∈ l.take k,bF t) (ht:bF t):∀t ∈ l.take (k+1),bF t:=by
 intro s hs
 rw [List.take_add_one,hx] at hs
 rcases List.mem_append.1 hs with h1|h1
 ·exact h s h1
 ·simp at h1;rw [h1];exact ht
theorem kU (l:List Cl) (k:Nat) (t:Cl) (hx:l[k]?=some t) (h:∀t ∈ l.take k,aB t) (ht:aB t):∀t ∈ l.take (k+1),aB t:=by
 intro s hs
 rw [List.take_add_one,hx] at hs
 rcases List.mem_append.1 hs with h1|h1
 ·exact h s h1
 ·simp at h1;rw [h1];exact ht
theorem Ic (M:Int) (hM0:0<=M) (hM:M<=3000) (v:Value) (l:List Cl) (w:World) (h:aG All w v l) (hz:∀c ∈ l,aC c) :
  Calls Tryz.prog 18 #[v,.int .i64 M] w fun e w'=>(∃n:Int,e=.returned (.int .i64 n)/\(n<=M->∀c ∈ l,aB c))/\Below w.heap.size w w':=by
 have HV:=Lib.hid h
 have HZ:=Lib.hid hz
 obtain ⟨a,cap,rfl,h1,h2⟩:=aG.form h
 clear h hz
 go_enter Tryz.func18,Tryz.ntmps18
 go_wp2
 go_loopg [5,6] (l.length) (fun gg n i wr=>∃(k:Nat) (m:Int) (q:Nat),k<=l.length/\gg=l.length - k/\i=.int .i64 k/\n=.int .i64 m/\0<=m/\m<=4611686018427387904/\wr=w.drewN q/\Hid (m<=M->∀c ∈ l.take k,aB c))
 case atStart=>exact ⟨0,0,0,Nat.zero_le _,rfl,rfl,rfl,by omega,by omega,rfl,fun _ c hc=>by simp at hc⟩
 case round =>
  obtain ⟨k,m,q,hk,hg,rfl,rfl,hm0,hm1,rfl,HA⟩:=hrel
  by_cases hm3:m<=M
  case neg =>
   clear HA
   by_cases hlt:k < l.length
   ·have d1:decide (m<=M)=false:=decide_eq_false hm3
    go_wp2
    go_ret
    exact ⟨⟨m,rfl,fun h=>absurd h (by omega)⟩,iY ⟨_,rfl⟩⟩
   ·have hlt':¬ (k:Int) < (l.length:Int):=by omega
    go_wp2
    go_ret
    exact ⟨⟨m,rfl,fun h=>absurd h (by omega)⟩,iY ⟨_,rfl⟩⟩
  by_cases hlt:k < l.length
  case neg =>
   have hall:l.take k=l:=List.take_of_length_le (by omega)
   rw [hall] at HA
   clear hall
   have hlt':¬ (k:Int) < (l.length:Int):=by omega
   go_wp2
   go_ret
   exact ⟨⟨m,rfl,HA.out⟩,iY ⟨_,rfl⟩⟩
  obtain ⟨b,o,mv,rfl,hx,hc,hr⟩:=aG.get HV.out k hlt
  obtain ⟨z1,z2,z3,z4,z5,z6,z7,z8⟩:=HZ.out _ (List.mem_of_getElem? hx)
  have HZL:=Lib.hid z8
  have HRL:=Lib.hid hr
  obtain ⟨ar,cr,rfl,g1,g2⟩:=bH.form hr
  have HS:=Lib.hid (kU l k _ hx (HA.out hm3))
  have HCL:Hid (aB l[k]=(l[k].lines.length<=3000/\∀x ∈ l[k].lines,bF x)):=rfl
  obtain ⟨c0,c1,c2,c3,c4,c5,c6⟩:=hc
  have s0:=xM l[k].id
  have s1:=xM l[k].mem
  have s2:=xM l[k].fam
  have s5:=xM l[k].ref
  rw [←s0] at z3
  rw [←s1] at z4
  rw [←s2] at z5
  rw [←s5] at z6
  clear hx hr z1 z2 z8 s0 s1 s2 s5 HA
  have d1:decide (m<=M)=true:=decide_eq_true hm3
  go_wp2_with fail
  go_quiet (fail)
  go_wp2
  go_loopg [5,7] (l[k].lines.length) (fun gg n i wr=>∃(j:Nat) (m2:Int) (q2:Nat),j<=l[k].lines.length/\gg=l[k].lines.length - j/\i=.int .i64 j/\n=.int .i64 m2/\0<=m2/\m2<=4611686018427387904/\wr=w.drewN q2/\Hid (m2<=M->l[k].lines.length<=3000/\∀x ∈ l[k].lines.take j,bF x))
  case atStart=>exact ⟨0,_,q+nq,Nat.zero_le _,rfl,rfl,rfl,by omega,by omega,by first|rfl|rw [World.drewN_drewN],fun _=>⟨by omega,fun c hc=>by simp at hc⟩⟩
  case round =>
   obtain ⟨j,m2,q2,hj,hgj,rfl,rfl,hm20,hm21,rfl,HA2⟩:=hrel
   by_cases hm23:m2<=M
   case neg =>
    clear HA2
    by_cases hltj:j < l[k].lines.length
    ·have d2:decide (m2<=M)=false:=decide_eq_false hm23
     go_wp2
     go_roundg (l.length - (k+1))
     case rel=>exact ⟨k+1,m2,q2,by omega,rfl,by go_num,rfl,hm20,hm21,rfl,fun h=>absurd h (by omega)⟩
     case measure=>omega
    ·have hltj':¬ (j:Int) < (l[k].lines.length:Int):=by omega
     go_wp2
     go_roundg (l.length - (k+1))
     case rel=>exact ⟨k+1,m2,q2,by omega,rfl,by go_num,rfl,hm20,hm21,rfl,fun h=>absurd h (by omega)⟩
     case measure=>omega
   by_cases hltj:j < l[k].lines.length
   case neg =>
    have hall:l[k].lines.take j=l[k].lines:=List.take_of_length_le (by omega)
    have HF:Hid (∀c ∈ l.take (k+1),aB c):=HS.out (by rw [HCL.out];rw [hall] at HA2;exact HA2.out hm23)
    clear hall
    have hltj':¬ (j:Int) < (l[k].lines.length:Int):=by omega
    go_wp2
    go_roundg (l.length - (k+1))
    case rel=>exact ⟨k+1,m2,q2,by omega,rfl,by go_num,rfl,hm20,hm21,rfl,fun _=>HF.out⟩
    case measure=>omega
   obtain ⟨br,or,mm,rfl,hxj,hcj,hrj⟩:=bH.get HRL.out j hltj
   obtain ⟨y1,y2,y3,y4,y5,y6,y7⟩:=HZL.out _ (List.mem_of_getElem? hxj)
   have HZT:=Lib.hid y7
   have HTX:=Lib.hid hrj
   obtain ⟨at_,ct,rfl,p1,p2⟩:=dI.form hrj
   obtain ⟨hll,hlq⟩:=HA2.out hm23
   have HS2:=Lib.hid (vX l[k].lines j _ hxj hlq)
   have HLL:Hid (bF l[k].lines[j]=(l[k].lines[j].proc.length<=40000/\l[k].lines[j].mods.length<=20000/\∀t ∈ l[k].lines[j].mods,t.length<=20000)):=rfl
   obtain ⟨e0,e1,e2,e3,e4,e5⟩:=hcj
   have t0:=xM l[k].lines[j].proc
   rw [←t0] at y5
   have HT0:=Lib.hid t0
   clear hxj hrj y1 y2 y3 y4 y7 t0 HA2 hlq
   have d2:decide (m2<=M)=true:=decide_eq_true hm23
   go_wp2_with fail
   go_quiet (fail)
   go_wp2
   go_loopg [5,8] (l[k].lines[j].mods.length) (fun gg n i wr=>∃(i3:Nat) (m3:Int) (q3:Nat),i3<=l[k].lines[j].mods.length/\gg=l[k].lines[j].mods.length - i3/\i=.int .i64 i3/\n=.int .i64 m3/\0<=m3/\m3<=4611686018427387904/\wr=w.drewN q3/\Hid (m3<=M->l[k].lines[j].proc.length<=40000/\l[k].lines[j].mods.length<=20000/\∀t ∈ l[k].lines[j].mods.take i3,t.length<=20000))
   case atStart=>exact ⟨0,_,q2+nq,Nat.zero_le _,rfl,rfl,rfl,by omega,by omega,by first|rfl|rw [World.drewN_drewN],fun _=>⟨by have:=HT0.out;omega,by omega,fun c hc=>by simp at hc⟩⟩
   case round =>
    obtain ⟨i3,m3,q3,hi,hgi,rfl,rfl,hm30,hm31,rfl,HA3⟩:=hrel
    by_cases hm33:m3<=M
    case neg =>
     clear HA3
     by_cases hlti:i3 < l[k].lines[j].mods.length
     ·have d3:decide (m3<=M)=false:=decide_eq_false hm33
      go_wp2
      go_roundg (l[k].lines.length - (j+1))
      case rel=>exact ⟨j+1,m3,q3,by omega,rfl,by go_num,rfl,hm30,hm31,rfl,fun h=>absurd h (by omega)⟩
      case measure=>omega
     ·have hlti':¬ (i3:Int) < (l[k].lines[j].mods.length:Int):=by omega
      go_wp2
      go_roundg (l[k].lines.length - (j+1))
      case rel=>exact ⟨j+1,m3,q3,by omega,rfl,by go_num,rfl,hm30,hm31,rfl,fun h=>absurd h (by omega)⟩
      case measure=>omega
    by_cases hlti:i3 < l[k].lines[j].mods.length
    case neg =>
     have hall:l[k].lines[j].mods.take i3=l[k].lines[j].mods:=List.take_of_length_le (by omega)
     have HF:Hid (∀x ∈ l[k].lines.take (j+1),bF x):=HS2.out (by rw [HLL.out];rw [hall] at HA3;exact HA3.out hm33)
     clear hall
     have hlti':¬ (i3:Int) < (l[k].lines[j].mods.length:Int):=by omega
     go_wp2
     go_roundg (l[k].lines.length - (j+1))
     case rel=>exact ⟨j+1,m3,q3,by omega,rfl,by go_num,rfl,hm30,hm31,rfl,fun _=>⟨hll,HF.out⟩⟩
     case measure=>omega
    obtain ⟨bt,ot,rfl,hxt,hct⟩:=He HTX.out i3 hlti
    have ht:=HZT.out _ (List.mem_of_getElem? hxt)
    have t1:=xM l[k].lines[j].mods[i3]
    rw [←t1] at ht
    obtain ⟨u0,u1,u2⟩:=HA3.out hm33
    have HS3:=Lib.hid (Hg l[k].lines[j].mods i3 _ hxt u2)
    have HT1:=Lib.hid t1
    clear hxt t1 HA3 u2
    have d3:decide (m3<=M)=true:=decide_eq_true hm33
    go_wp2
    go_roundg (l[k].lines[j].mods.length - (i3+1))
    case rel=>exact ⟨i3+1,_,q3,by omega,rfl,by go_num,rfl,by omega,by omega,rfl,fun _=>⟨u0,u1,HS3.out (by have:=HT1.out;omega)⟩⟩
    case measure=>omega
end Go.Proofs.YtfbfeoplldjbpaaGreatDoor.Cm
end
section
namespace Go.Proofs.YtfbfeoplldjbpaaGreatDoor.Ju
open Go.RowKit
open Ac (Row pU dJ dM jF jG DW DU left cu Own tV qL iU jg jf fK)
open Sh (Ot bD bC bK bE EP EW Dt Du member Jj)
open Cm (Ln Cl bH lnv clv bG aC)
def LtP (c:Cl) (r:List Row) (Ah:List Ln):Prop:=r.length<=100/\((∀x ∈ c.lines,Tw.aZ x)/\c.lines.length<=3000)/\(∀x ∈ Ah,Tw.aZ x)/\Ah.length<=3000
def LtV (c:Cl) (r:List Row) (Ah:List Ln) (e:Ending):Prop:=∃n:Int,e=.returned (.int .i64 n)/\(n<=0->LtP c r Ah)
theorem wW (c:Cl) (r:List Row) (Ah:List Ln):LtV c r Ah (.returned (.int .i64 1)):=⟨1,rfl,fun h=>absurd h (by decide)⟩
theorem kV {w:World} {g:Nat} {v u:Value} {c:Cl} {l:List Ln} (h:w.heap[g]?=some (.cells #[.string (mk c.id),.string (mk c.mem),.string (mk c.fam),.int .i64 c.net,.int .i64 c.does,.string (mk c.ref),v,.string ByteArray.empty,.string ByteArray.empty,.string ByteArray.empty,.int .i64 0,.int .i64 0,.string ByteArray.empty,u] 31 (0,0))) (hc:bH All w v c.lines) (hl:bH All w u l):Cm.aG All w (.slice (some ⟨g,0,none⟩) 2 2) [c,⟨[],[],[],0,0,[],l⟩]:=by
 refine ⟨_,2,rfl,by simp,by simp [maxLen],Or.inr ⟨g,0,rfl,trivial,(Array.getElem?_eq_some_iff.1 h).1,fun j x hj=>?_⟩⟩
 match j,hj with
 | 0,hj =>
  obtain rfl:=Option.some.inj hj
  refine ⟨v,⟨?_,?_,?_,?_,?_,?_,?_⟩,hc⟩<;>(rw [cell_of_row w g _ _ _ (0,0) h];rfl)
 | 1,hj =>
  obtain rfl:=Option.some.inj hj
  refine ⟨u,⟨?_,?_,?_,?_,?_,?_,?_⟩,hl⟩<;>(rw [cell_of_row w g _ _ _ (0,0) h];rfl)
 | n+2,hj=>simp at hj
theorem xM (t:Tx):(mk t).size=t.length:=by simp [mk,ByteArray.size]
theorem iW (p:Nat) (w:World) (q:Nat):Below p w (w.drewN q):=⟨rfl,rfl,rfl,Nat.le_refl _,fun _ _=>rfl⟩
theorem tY {w:World} {g:Nat} {o:Obj} (h:w.heap[g]?=some o) (q:Nat):(w.drewN q).heap[g]?=some o:=h
theorem iV {w:World} (q:Nat):Below w.heap.size w (w.drewN q):=iW _ _ _
theorem vH (t:Tb) (c:Cl) (r:List Row) (Ah:List Ln) (m mf me ml vr va:Value) (w:World) (hA:dF w m mf me t) (hL:bH All w ml c.lines) (hR:cu All w vr r) (hV:bH All w va Ah) (hz:dG t) (hc:aC c) (hx:∀x ∈ Ah,bG x) (hxl:Ah.length<=281474976710656) :
  Calls Tryz.prog 7 #[.agg #[.int .i64 t.plan.mode,.int .i64 t.plan.indDed,.int .i64 t.plan.famDed,.int .i64 t.plan.indOop,.int .i64 t.plan.famOop,m,mf,me],.agg #[.string (mk c.id),.string (mk c.mem),.string (mk c.fam),.int .i64 c.net,.int .i64 c.does,.string (mk c.ref),ml],vr,va] w fun e w'=>LtV c r Ah e/\Below w.heap.size w w':=by
 obtain ⟨k1,k2,k3⟩:=hA.nums
 obtain ⟨ma,mc,fa,fc,ea,ec,rfl,rfl,rfl⟩:=hA.form
 obtain ⟨la,lc,rfl,hl1,hl2⟩:=Cm.bH.form hL
 obtain ⟨ra,rc,rfl,hr1,hr2⟩:=hR.form
 obtain ⟨aa,ac,rfl,ha1,ha2⟩:=Cm.bH.form hV
 have HWp:=Lib.hid fun W (hW:Below w.heap.size w W)=>Pl.Ic t.plan _ W (hA.grw hW).1
 have HFe:=Lib.hid fun W (hW:Below w.heap.size w W)=>(hA.grw hW).2.1
 have HEd:=Lib.hid fun W (hW:Below w.heap.size w W)=>(hA.grw hW).2.2
 have HRw:=Lib.hid fun W (hW:Below w.heap.size w W)=>hR.grw hW
 have HZf:=Lib.hid hz.1.1
 have HZe:=Lib.hid hz.2.1
 have HWc:Hid (∀(W:World) (g:Nat),Below w.heap.size w W->W.heap[g]?=some (.cells #[.string (mk c.id),.string (mk c.mem),.string (mk c.fam),.int .i64 c.net,.int .i64 c.does,.string (mk c.ref),.slice la c.lines.length lc,.string ⟨#[]⟩,.string ⟨#[]⟩,.string ⟨#[]⟩,.int .i64 0,.int .i64 0,.string ⟨#[]⟩,.slice aa Ah.length ac] 31 (0,0))->Calls Tryz.prog 18 #[.slice (some ⟨g,0,none⟩) 2 2,.int .i64 80] W fun e w'=>(∃n:Int,e=.returned (.int .i64 n)/\(n<=80->((∀x ∈ c.lines,Tw.aZ x)/\c.lines.length<=3000)/\(∀x ∈ Ah,Tw.aZ x)/\Ah.length<=3000))/\Below W.heap.size W w'):=fun W g hb hg=>by
  refine (Cm.Ic 80 (by omega) (by omega) _ _ W (kV hg (hL.move (Below.moves hb)) (hV.move (Below.moves hb))) (fun x hx1=>?_)).mono ?_
  ·rcases List.mem_cons.1 hx1 with rfl|hx1
   ·exact hc
   ·obtain rfl:x=_:=by simpa using hx1
    exact ⟨⟨by simp,by simp⟩,⟨by simp,by simp⟩,by simp,by simp,by simp,by simp,hxl,hx⟩
  ·rintro e w' ⟨⟨n,rfl,h1⟩,h2⟩
   refine ⟨⟨n,rfl,fun hn=>?_⟩,h2⟩
   obtain ⟨q1,q2⟩:=h1 hn _ (List.mem_cons_self ..)
   obtain ⟨q3,q4⟩:=h1 hn _ (List.mem_cons_of_mem _ (List.mem_cons_self ..))
   have hok:=hc.2.2.2.2.2.2.2
   exact ⟨⟨fun x hx2=>⟨(hok x hx2).1.1,(hok x hx2).1.2,q2 x hx2⟩,q1⟩,fun x hx2=>⟨(hx x hx2).1.1,(hx x hx2).1.2,q4 x hx2⟩,q3⟩
 clear hA hL hR hV hz hc hx
 have hbx:Below w.heap.size w ((w.alloc (.cells #[.int .i64 t.plan.mode,.int .i64 t.plan.indDed,.int .i64 t.plan.famDed,.int .i64 t.plan.indOop,.int .i64 t.plan.famOop,.slice ma t.plan.rules.length mc,.slice fa t.fees.length fc,.slice ea t.edits.length ec] 28)).alloc (.cells #[.string (mk c.id),.string (mk c.mem),.string (mk c.fam),.int .i64 c.net,.int .i64 c.does,.string (mk c.ref),.slice la c.lines.length lc] 31)):=jg (iU _ _) (iU _ _)
 have hz1:=tV (fK w #[.int .i64 t.plan.mode,.int .i64 t.plan.indDed,.int .i64 t.plan.famDed,.int .i64 t.plan.indOop,.int .i64 t.plan.famOop,.slice ma t.plan.rules.length mc,.slice fa t.fees.length fc,.slice ea t.edits.length ec] 28) (iU _ (.cells #[.string (mk c.id),.string (mk c.mem),.string (mk c.fam),.int .i64 c.net,.int .i64 c.does,.string (mk c.ref),.slice la c.lines.length lc] 31))
 have hz2:=fK (w.alloc (.cells #[.int .i64 t.plan.mode,.int .i64 t.plan.indDed,.int .i64 t.plan.famDed,.int .i64 t.plan.indOop,.int .i64 t.plan.famOop,.slice ma t.plan.rules.length mc,.slice fa t.fees.length fc,.slice ea t.edits.length ec] 28)) #[.string (mk c.id),.string (mk c.mem),.string (mk c.fam),.int .i64 c.net,.int .i64 c.does,.string (mk c.ref),.slice la c.lines.length lc] 31
 rw [show (w.alloc (.cells #[.int .i64 t.plan.mode,.int .i64 t.plan.indDed,.int .i64 t.plan.famDed,.int .i64 t.plan.indOop,.int .i64 t.plan.famOop,.slice ma t.plan.rules.length mc,.slice fa t.fees.length fc,.slice ea t.edits.length ec] 28)).heap.size=w.heap.size+1 by simp] at hz2
 have HX:=Lib.hid hz1
 have HY:=Lib.hid hz2
 have HB0:=Lib.hid hbx
 clear hbx hz1 hz2
 go_enter Tryz.func7,Tryz.ntmps7
 go_upto_region 1 with fail
 generalize ((w.alloc (.cells #[.int .i64 t.plan.mode,.int .i64 t.plan.indDed,.int .i64 t.plan.famDed,.int .i64 t.plan.indOop,.int .i64 t.plan.famOop,.slice ma t.plan.rules.length mc,.slice fa t.fees.length fc,.slice ea t.edits.length ec] 28)).alloc (.cells #[.string (mk c.id),.string (mk c.mem),.string (mk c.fam),.int .i64 c.net,.int .i64 c.does,.string (mk c.ref),.slice la c.lines.length lc] 31))=W at *
 generalize hp:w.heap.size=p at *
 obtain ⟨p1,hp1⟩:∃u,u=p+1:=⟨_,rfl⟩
 rw [←hp1] at HY ⊢
 clear hp1
 obtain ⟨x0,x1,x2,x3,x4,x5,x6,x7⟩:=Pl.iR HX.out
 go_wp2_with fail
 try (go_at_call 17)
 refine (HWp.out W HB0.out).mono ?_
 rintro e w1 ⟨⟨n0,rfl,-⟩,hb1⟩
 have HB1:=Lib.hid (jf hp HB0.out hb1)
 have HX1:=Lib.hid (tV HX.out hb1)
 have HY1:=Lib.hid (tV HY.out hb1)
 clear hb1 HX HY HB0 HWp x0 x1 x2 x3 x4 x5 x6 x7
 obtain ⟨x0,x1,x2,x3,x4,x5,x6,x7⟩:=Pl.iR HX1.out
 by_cases g1:(300:Int) < n0
 ·go_wp2
  go_ret
  exact ⟨wW _ _ _,by first|exact HB1.out|(rw [hp];exact HB1.out)⟩
 by_cases g2:(100:Int) < (t.fees.length:Int)
 ·go_wp2
  go_ret
  exact ⟨wW _ _ _,by first|exact HB1.out|(rw [hp];exact HB1.out)⟩
 by_cases g3:(60:Int) < (t.edits.length:Int)
 ·go_wp2
  go_ret
  exact ⟨wW _ _ _,by first|exact HB1.out|(rw [hp];exact HB1.out)⟩
 by_cases g4:(100:Int) < (r.length:Int)
 ·go_wp2
  go_ret
  exact ⟨wW _ _ _,by first|exact HB1.out|(rw [hp];exact HB1.out)⟩
 go_wp2
 clear x0 x1 x2 x3 x4 x5 x6 x7
 go_loopg [9] (t.fees.length) (fun g i wr=>∃n:Nat,n<=t.fees.length/\g=t.fees.length - n/\i=.int .i64 (n:Nat)/\Hid (Below p w wr)/\Hid (wr.heap[p]?=some (.cells #[.int .i64 t.plan.mode,.int .i64 t.plan.indDed,.int .i64 t.plan.famDed,.int .i64 t.plan.indOop,.int .i64 t.plan.famOop,.slice ma t.plan.rules.length mc,.slice fa t.fees.length fc,.slice ea t.edits.length ec] 28 (0,0)))/\Hid (wr.heap[p1]?=some (.cells #[.string (mk c.id),.string (mk c.mem),.string (mk c.fam),.int .i64 c.net,.int .i64 c.does,.string (mk c.ref),.slice la c.lines.length lc] 31 (0,0))))
 case atStart=>exact ⟨0,Nat.zero_le _,rfl,rfl,HB1.out,HX1.out,HY1.out⟩
 case round =>
  obtain ⟨n,hn,hgk,rfl,HB,HX,HY⟩:=hrel
  obtain ⟨x0,x1,x2,x3,x4,x5,x6,x7⟩:=Pl.iR HX.out
  have hpl:p < wr.heap.size:=(Array.getElem?_eq_some_iff.1 HX.out).1
  by_cases hlt:n < t.fees.length
  ·have hltz:(n:Int) < (t.fees.length:Int):=by omega
   obtain ⟨b,oo,ha,hbs,-,hcc⟩:=Fe.aU.get (HFe.out wr HB.out) n hlt
   subst ha
   have HO:=HZf.out t.fees[n] (List.getElem_mem hlt)
   generalize t.fees[n]=x at *
   unfold Fe.aS at hcc
   obtain ⟨c0,c1,c2,c3,c4⟩:=hcc
   obtain ⟨⟨o1,o2⟩,-⟩:=HO
   have s1:=xM x.proc
   have s2:=xM x.mod
   have s3:x.proc.length+x.mod.length<=9223372036854775807:=by omega
   have sw:IntKind.i64.wrap ((x.proc.length:Int)+(x.mod.length:Int))=(x.proc.length:Int)+(x.mod.length:Int):=by rw [IntKind.wrap_i64];omega
   have HDq:=Lib.hid fun q=>(iV (w:=wr) q)
   by_cases h1:(60:Int) < (x.proc.length:Int)+(x.mod.length:Int)
   ·go_wp2_with fail
    go_quiet (fail)
    go_wp2
    go_ret
    exact ⟨wW _ _ _,by first|exact (HB.out.trans (iW _ _ _))|(rw [hp];exact (HB.out.trans (iW _ _ _)))⟩
   ·go_wp2_with fail
    go_quiet (fail)
    go_wp2
    go_roundg (t.fees.length - (n+1))
    case measure=>omega
    case rel=>exact ⟨n+1,by omega,rfl,by first|rfl|go_num|(congr 1;omega),(HB.out.trans (iW _ _ _)),(tY HX.out _),(tY HY.out _)⟩
  ·have hltz:¬ (n:Int) < (t.fees.length:Int):=by omega
   obtain ⟨w2,hw2⟩:∃z,z=wr:=⟨_,rfl⟩
   subst hw2
   have HB2:=Lib.hid HB.out
   have HX2:=Lib.hid HX.out
   have HY2:=Lib.hid HY.out
   clear HB HX HY hgk hn hlt hpl
   go_wp2
   clear x0 x1 x2 x3 x4 x5 x6 x7 hltz
   go_loopg [10] (t.edits.length) (fun g i wr=>∃n:Nat,n<=t.edits.length/\g=t.edits.length - n/\i=.int .i64 (n:Nat)/\Hid (Below p w wr)/\Hid (wr.heap[p]?=some (.cells #[.int .i64 t.plan.mode,.int .i64 t.plan.indDed,.int .i64 t.plan.famDed,.int .i64 t.plan.indOop,.int .i64 t.plan.famOop,.slice ma t.plan.rules.length mc,.slice fa t.fees.length fc,.slice ea t.edits.length ec] 28 (0,0)))/\Hid (wr.heap[p1]?=some (.cells #[.string (mk c.id),.string (mk c.mem),.string (mk c.fam),.int .i64 c.net,.int .i64 c.does,.string (mk c.ref),.slice la c.lines.length lc] 31 (0,0))))
   case atStart=>exact ⟨0,Nat.zero_le _,rfl,rfl,HB2.out,HX2.out,HY2.out⟩
   case round =>
    obtain ⟨n,hn,hgk,rfl,HB,HX,HY⟩:=hrel
    obtain ⟨x0,x1,x2,x3,x4,x5,x6,x7⟩:=Pl.iR HX.out
    have hpl:p < wr.heap.size:=(Array.getElem?_eq_some_iff.1 HX.out).1
    by_cases hlt:n < t.edits.length
    ·have hltz:(n:Int) < (t.edits.length:Int):=by omega
     obtain ⟨b,oo,ha,hbs,-,hcc⟩:=Ex.aP.get (HEd.out wr HB.out) n hlt
     subst ha
     have HO:=HZe.out t.edits[n] (List.getElem_mem hlt)
     generalize t.edits[n]=x at *
     unfold Ex.aN at hcc
     obtain ⟨c0,c1,c2,c3,c4⟩:=hcc
     obtain ⟨⟨o1,o2⟩,-⟩:=HO
     have s1:=xM x.a
     have s2:=xM x.b
     have s3:x.a.length+x.b.length<=9223372036854775807:=by omega
     have sw:IntKind.i64.wrap ((x.a.length:Int)+(x.b.length:Int))=(x.a.length:Int)+(x.b.length:Int):=by rw [IntKind.wrap_i64];omega
     have HDq:=Lib.hid fun q=>(iV (w:=wr) q)
     by_cases h1:(60:Int) < (x.a.length:Int)+(x.b.length:Int)
     ·go_wp2_with fail
      go_quiet (fail)
      go_wp2
      go_ret
      exact ⟨wW _ _ _,by first|exact (HB.out.trans (iW _ _ _))|(rw [hp];exact (HB.out.trans (iW _ _ _)))⟩
     ·go_wp2_with fail
      go_quiet (fail)
      go_wp2
      go_roundg (t.edits.length - (n+1))
      case measure=>omega
      case rel=>exact ⟨n+1,by omega,rfl,by first|rfl|go_num|(congr 1;omega),(HB.out.trans (iW _ _ _)),(tY HX.out _),(tY HY.out _)⟩
    ·have hltz:¬ (n:Int) < (t.edits.length:Int):=by omega
     obtain ⟨w3,hw3⟩:∃z,z=wr:=⟨_,rfl⟩
     subst hw3
     have HB3:=Lib.hid HB.out
     have HX3:=Lib.hid HX.out
     have HY3:=Lib.hid HY.out
     clear HB HX HY hgk hn hlt hpl
     go_wp2
     clear x0 x1 x2 x3 x4 x5 x6 x7 hltz
     go_loopg [11] (r.length) (fun g i wr=>∃n:Nat,n<=r.length/\g=r.length - n/\i=.int .i64 (n:Nat)/\Hid (Below p w wr)/\Hid (wr.heap[p]?=some (.cells #[.int .i64 t.plan.mode,.int .i64 t.plan.indDed,.int .i64 t.plan.famDed,.int .i64 t.plan.indOop,.int .i64 t.plan.famOop,.slice ma t.plan.rules.length mc,.slice fa t.fees.length fc,.slice ea t.edits.length ec] 28 (0,0)))/\Hid (wr.heap[p1]?=some (.cells #[.string (mk c.id),.string (mk c.mem),.string (mk c.fam),.int .i64 c.net,.int .i64 c.does,.string (mk c.ref),.slice la c.lines.length lc] 31 (0,0))))
     case atStart=>exact ⟨0,Nat.zero_le _,rfl,rfl,HB3.out,HX3.out,HY3.out⟩
     case round =>
      obtain ⟨n,hn,hgk,rfl,HB,HX,HY⟩:=hrel
      obtain ⟨x0,x1,x2,x3,x4,x5,x6,x7⟩:=Pl.iR HX.out
      have hpl:p < wr.heap.size:=(Array.getElem?_eq_some_iff.1 HX.out).1
      by_cases hlt:n < r.length
      ·have hltz:(n:Int) < (r.length:Int):=by omega
       obtain ⟨b,oo,ha,hbs,-,hcc⟩:=Ac.cu.get (HRw.out wr HB.out) n hlt
       subst ha
       skip
       generalize r[n]=x at *
       unfold Ac.bZ at hcc
       obtain ⟨c0,c1,c2,c3,c4⟩:=hcc
       have s1:=xM x.who
       by_cases h1:(60:Int) < (x.who.length:Int)
       ·go_wp2
        go_ret
        exact ⟨wW _ _ _,by first|exact HB.out|(rw [hp];exact HB.out)⟩
       ·go_wp2
        go_roundg (r.length - (n+1))
        case measure=>omega
        case rel=>exact ⟨n+1,by omega,rfl,by first|rfl|go_num|(congr 1;omega),HB.out,HX.out,HY.out⟩
      ·have hltz:¬ (n:Int) < (r.length:Int):=by omega
       obtain ⟨w4,hw4⟩:∃z,z=wr:=⟨_,rfl⟩
       subst hw4
       have HB4:=Lib.hid HB.out
       have HX4:=Lib.hid HX.out
       have HY4:=Lib.hid HY.out
       clear HB HX HY hgk hn hlt hpl
       clear x0 x1 x2 x3 x4 x5 x6 x7
       have HN:=Lib.hid (fK w4 #[.string (mk c.id),.string (mk c.mem),.string (mk c.fam),.int .i64 c.net,.int .i64 c.does,.string (mk c.ref),.slice la c.lines.length lc,.string ⟨#[]⟩,.string ⟨#[]⟩,.string ⟨#[]⟩,.int .i64 0,.int .i64 0,.string ⟨#[]⟩,.slice aa Ah.length ac] 31)
       have hb4:=iU w4 (.cells #[.string (mk c.id),.string (mk c.mem),.string (mk c.fam),.int .i64 c.net,.int .i64 c.does,.string (mk c.ref),.slice la c.lines.length lc,.string ⟨#[]⟩,.string ⟨#[]⟩,.string ⟨#[]⟩,.int .i64 0,.int .i64 0,.string ⟨#[]⟩,.slice aa Ah.length ac] 31)
       have HB5:=Lib.hid (jf hp HB4.out hb4)
       obtain ⟨y0,y1,y2,y3,y4,y5,y6⟩:=jT HY4.out
       have hyl:p1 < w4.heap.size:=(Array.getElem?_eq_some_iff.1 HY4.out).1
       clear hb4
       go_wp2_with fail
       try (go_at_call 18)
       refine (HWc.out _ _ HB5.out HN.out).mono ?_
       rintro e w6 ⟨⟨n6,rfl,hn6⟩,hb6⟩
       have HB6:=Lib.hid (jf hp HB5.out hb6)
       have HN6:=Lib.hid hn6
       clear hb6 hn6 HN y0 y1 y2 y3 y4 y5 y6
       by_cases g6:(80:Int) < n6
       ·go_wp2
        go_ret
        exact ⟨wW _ _ _,by first|exact HB6.out|(rw [hp];exact HB6.out)⟩
       ·go_wp2
        go_ret
        exact ⟨⟨0,rfl,fun _=>⟨by omega,HN6.out (by omega)⟩⟩,by first|exact HB6.out|(rw [hp];exact HB6.out)⟩
end Go.Proofs.YtfbfeoplldjbpaaGreatDoor.Ju
end
section
namespace Go.Proofs.YtfbfeoplldjbpaaGreatDoor.Ju
open Ac (Row pU dJ dM jF jG DW DU left)
open Sh (Ot bD bC bK bE EP EW Dt Du member Jj)
open Cm (Ln Cl)
theorem Js {t:Tb} {c:Cl} {r:List Row} {A:List Ln} (h:tC t c r A=0):tH t c r A=Ea (cxV t c) r (its t c A)/\tJ t c r A=D7 (cxV t c) r (its t c A):=⟨by unfold tH;rw [if_pos h],by unfold tJ;rw [if_pos h]⟩
theorem Jr {t:Tb} {c:Cl} {r:List Row} {A:List Ln} (h:tC t c r A=0):(tH t c r A).length=c.lines.length:=by rw [(Js h).1,Ef,sS]
theorem Jt (t:Tb) (c:Cl) (r:List Row) (A:List Ln) (h:tC t c r A=0):(tH t c r A).length=c.lines.length/\∀(k:Nat) (x:Ln) (o:Ot),c.lines[k]?=some x->(tH t c r A)[k]?=some o->Sh.Jj x.billed o=true/\o.pr=x.prior/\(o.deny ≠ 0->o.plan=0/\o.de+o.cp+o.cn=0/\o.al=0)/\x.billed<=10000000000000/\(0<=o.de/\o.de<=10000000000000)/\(0<=o.cp/\o.cp<=10000000000000)/\(0<=o.cn/\o.cn<=10000000000000):=by
 refine ⟨Jr h,fun k x o hx ho=>?_⟩
 obtain ⟨hp,hr⟩:=Jw h
 rw [(Js h).1] at ho
 have hi:(its t c A)[k]?=some (itV t c k x (xw A c k)):=by rw [sO,hx];rfl
 obtain ⟨b1,b2,b3,-⟩:=JQ (cxV t c) _ _ hr k _ _ hi ho
 have hl:=vV ((kH (Bq hp).2.2.2.1).2.2 x (List.mem_of_getElem? hx)).1
 have hb:Sh.Jj x.billed o=true:=b1
 have hb':=hb
 simp only [Jj,Bool.and_eq_true,decide_eq_true_eq] at hb'
 refine ⟨hb,b2,b3,hl.2.2.2.1.2,?_,?_,?_⟩<;>omega
theorem Ko (d:Int) (h:-9223372036854775808<=d) (h2:d<=9223372036854775807):-9223372036854775808<=d.tdiv 10000/\d.tdiv 10000<=9223372036854775807:=by
 rcases Int.lt_or_le d 0 with h0|h0
 ·have e:d=-(-d):=by omega
  rw [e,Int.neg_tdiv]
  have h1:=Int.tdiv_eq_ediv_of_nonneg (a:=-d) (b:=10000) (by omega)
  rw [h1]
  omega
 ·rw [Int.tdiv_eq_ediv_of_nonneg h0]
  omega
end Go.Proofs.YtfbfeoplldjbpaaGreatDoor.Ju
end
section
namespace Go.Proofs.YtfbfeoplldjbpaaGreatDoor.Ju
open Go.RowKit
open Sh (Ot)
theorem zJ (l:List Ot) (v u:Value) (w:World) (h:bJ All w v l) (g:bJ All w u l) (hl:l.length<=100000) :
  Calls Tryz.prog 11 #[v,u] w fun e w'=>e=.returned (.bool true)/\Below w.heap.size w w':=by
 obtain ⟨fa,fk,rfl,hm1,hm2⟩:=h.form
 obtain ⟨ga,gk,rfl,hm3,hm4⟩:=g.form
 have HF:=Lib.hid h
 have HG:=Lib.hid g
 clear h g
 go_enter Tryz.func11,Tryz.ntmps11
 go_wp2
 go_loopg [5] (l.length) (fun gg s5 wr=>∃k:Nat,s5=.int .i64 k/\k<=l.length/\l.length - k<=gg/\Hid (Below w.heap.size w wr))
 case atStart=>exact ⟨0,rfl,Nat.zero_le _,by omega,Below.refl _ _⟩
 case round =>
  obtain ⟨k,rfl,hk,hgk,HBn⟩:=hrel
  by_cases hlt:k < l.length
  ·have hltz:(k:Int) < (l.length:Int):=by omega
   obtain ⟨b,oo,rfl,-,-,hc⟩:=bJ.get (HF.out.grw HBn.out) k hlt
   obtain ⟨b2,o2,rfl,-,-,hc2⟩:=bJ.get (HG.out.grw HBn.out) k hlt
   generalize l[k]=x at *
   obtain ⟨x0,x1,x2,x3,x4,x5,x6,x7⟩:=hc
   obtain ⟨y0,y1,y2,y3,y4,y5,y6,y7⟩:=hc2
   have hi1:k < l.length:=hlt
   have HD:=Lib.hid (Below.drew HBn.out)
   go_wp2_with fail
   go_quiet (fail)
   have HBW:Hid (Below w.heap.size w (wr.drewN nq)):=HBn.out.trans ⟨rfl,rfl,rfl,Nat.le_refl _,fun _ _=>rfl⟩
   go_wp2
   go_roundg (l.length - (k+1))
   case measure=>omega
   case rel=>exact ⟨k+1,by first|rfl|go_num|(congr 1;omega),by omega,by omega,HBW.out⟩
  ·have hltz:¬ (k:Int) < (l.length:Int):=by omega
   go_wp2
   go_ret
   exact ⟨rfl,HBn.out⟩
end Go.Proofs.YtfbfeoplldjbpaaGreatDoor.Ju
end
section
namespace Go.Proofs.YtfbfeoplldjbpaaGreatDoor.Ac
open Go.RowKit
theorem same_eq (l:List Row) (v u:Value) (w:World) (h:cu All w v l) (g:cu All w u l) (hl:l.length<=100000) :
  Calls Tryz.prog 12 #[v,u] w fun e w'=>e=.returned (.bool true)/\Below w.heap.size w w':=by
 obtain ⟨fa,fk,rfl,hm1,hm2⟩:=h.form
 obtain ⟨ga,gk,rfl,hm3,hm4⟩:=g.form
 have HF:=Lib.hid h
 have HG:=Lib.hid g
 clear h g
 go_enter Tryz.func12,Tryz.ntmps12
 go_wp2
 go_loopg [5] (l.length) (fun gg s5 wr=>∃k:Nat,s5=.int .i64 k/\k<=l.length/\l.length - k<=gg/\Hid (Below w.heap.size w wr))
 case atStart=>exact ⟨0,rfl,Nat.zero_le _,by omega,Below.refl _ _⟩
 case round =>
  obtain ⟨k,rfl,hk,hgk,HBn⟩:=hrel
  by_cases hlt:k < l.length
  ·have hltz:(k:Int) < (l.length:Int):=by omega
   obtain ⟨b,oo,rfl,-,-,hc⟩:=cu.get (HF.out.grw HBn.out) k hlt
   obtain ⟨b2,o2,rfl,-,-,hc2⟩:=cu.get (HG.out.grw HBn.out) k hlt
   generalize l[k]=x at *
   obtain ⟨x0,x1,x2,x3,x4⟩:=hc
   obtain ⟨y0,y1,y2,y3,y4⟩:=hc2
   have hi1:k < l.length:=hlt
   have HD:=Lib.hid (Below.drew HBn.out)
   go_wp2_with fail
   go_quiet (fail)
   have HBW:Hid (Below w.heap.size w (wr.drewN nq)):=HBn.out.trans ⟨rfl,rfl,rfl,Nat.le_refl _,fun _ _=>rfl⟩
   go_wp2
   go_roundg (l.length - (k+1))
   case measure=>omega
   case rel=>exact ⟨k+1,by first|rfl|go_num|(congr 1;omega),by omega,by omega,HBW.out⟩
  ·have hltz:¬ (k:Int) < (l.length:Int):=by omega
   go_wp2
   go_ret
   exact ⟨rfl,HBn.out⟩
end Go.Proofs.YtfbfeoplldjbpaaGreatDoor.Ac
end
