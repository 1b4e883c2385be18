/-
  Texts put together (merge.py): JWithin.
-/
import Derived.Test.YtfbfeoplldjbpaaGreatDoorMo43
set_option linter.unusedSimpArgs false
set_option linter.unusedVariables false
set_option maxHeartbeats 16000000
set_option maxRecDepth 100000
section
namespace Go.Proofs.YtfbfeoplldjbpaaGreatDoor.Ju
open Go.RowKit
open Ac (Row pU dJ dM jF jG DW DU left cu Own tV qL iU jg jf fK)
open Sh (Ot bD bC bK bE EP EW Dt Du member Jj)
open Cm (Ln Cl bH lnv clv bG aC)
def lmD (p:Pl.Pn) (f:Bool):Int:=if f=false/\p.mode=0 then p.indDed else p.famDed
def lmO (p:Pl.Pn) (f:Bool):Int:=if f=false/\p.mode=0 then p.indOop else p.famOop
def JF (p:Pl.Pn) (a:Row):Bool:=!(decide (lmD p a.fam < a.de) || decide (lmO p a.fam < a.oo))
def Kq (p:Pl.Pn) (l:List Row):Bool:=l.all (JF p)
theorem Kr {p:Pl.Pn} {l:List Row}:Kq p l=true ↔ ∀a ∈ l,a.de<=lmD p a.fam/\a.oo<=lmO p a.fam:=by
 unfold Kq JF
 rw [List.all_eq_true]
 constructor
 ·intro h a ha
  have:=h a ha
  simp at this
  exact this
 ·intro h a ha
  have:=h a ha
  simp
  exact this
theorem J9 (l:List Ot) (k:Nat) (o:Ot) (h:l[k]?=some o):J6 (l.take (k+1))=J6 (l.take k)+o.de/\J7 (l.take (k+1))=J7 (l.take k)+member o:=by
 induction l generalizing k with
 | nil=>simp at h
 | cons a l ih =>
  cases k with
  | zero=>simp at h;subst h;simp [J6,J7]
  | succ k =>
   have:=ih k (by simpa using h)
   simp only [List.take_succ_cons,J6,J7]
   omega
theorem J8 (l:List Ot) (hb:∀(k:Nat) (o:Ot),l[k]?=some o->(0<=o.de/\o.de<=10000000000000)/\(0<=o.cp/\o.cp<=10000000000000)/\(0<=o.cn/\o.cn<=10000000000000)) (k:Nat) (hk:k<=l.length):(0<=J6 (l.take k)/\J6 (l.take k)<=k * 10000000000000)/\(0<=J7 (l.take k)/\J7 (l.take k)<=k * 30000000000000):=by
 induction k with
 | zero=>simp [J6,J7]
 | succ k ih =>
  have h1:=ih (by omega)
  have hg:l[k]?=some (l[k]'(by omega)):=List.getElem?_eq_getElem (by omega)
  have h2:=J9 l k _ hg
  have h3:=hb k _ hg
  have h4:member (l[k]'(by omega))=(l[k]'(by omega)).de+(l[k]'(by omega)).cp+(l[k]'(by omega)).cn:=rfl
  omega
def yrC (c:Cl):Int:=if c.lines.length=0 then 0 else Da.yr (c.lines.getD 0 Cm.ln0).date
theorem Jv (t:Tb) (c:Cl) (r:List Row) (A:List Ln) (h:tC t c r A=0) (hw:Kq t.plan r=true) :
  ((t.plan.mode=0 ∨ ((pU r c.mem false (yrC c)).de<=(pU r c.fam true (yrC c)).de/\(pU r c.mem false (yrC c)).oo<=(pU r c.fam true (yrC c)).oo))->Kq t.plan (tJ t c r A)=true) ∧
  (pU (tJ t c r A) c.mem false (yrC c)).de - (pU r c.mem false (yrC c)).de=(if c.net=0 then J6 (tH t c r A) else 0)/\(pU (tJ t c r A) c.mem false (yrC c)).oo - (pU r c.mem false (yrC c)).oo=(if c.net=0 then J7 (tH t c r A) else 0) ∧
  (pU (tJ t c r A) c.fam true (yrC c)).de - (pU r c.fam true (yrC c)).de=(if c.net=0 then J6 (tH t c r A) else 0)/\(pU (tJ t c r A) c.fam true (yrC c)).oo - (pU r c.fam true (yrC c)).oo=(if c.net=0 then J7 (tH t c r A) else 0):=by
 obtain ⟨hp,hr⟩:=Jw h
 obtain ⟨p1,p2,p3,p4,p5⟩:=Bq hp
 have hO:Ac.Ok r:=(Ac.kG r).1 p5
 have hL:=(JD c p1).1
 have hy:∀i ∈ its t c A,i.yr=yrC c:=fun i hi=>by
  have hne:c.lines.length ≠ 0:=by
   intro e
   have:(its t c A).length=0:=by rw [sS,e]
   rw [List.length_eq_zero_iff.1 this] at hi
   simp at hi
  unfold yrC
  rw [if_neg hne]
  exact Jq p4 i hi
 rw [(Js h).1,(Js h).2]
 have hwi:Within (cxV t c) r:=(within_iff (cxV t c) hL hO).2 (Kr.1 hw)
 refine ⟨fun hm=>?_,?_⟩
 ·have hk:=JY (cxV t c) hL (yrC c) (its t c A) r hO hr hy hwi hm
  exact Kr.2 ((within_iff (cxV t c) hL (JW (cxV t c) _ r hO hr)).1 hk)
 ·by_cases hn:c.net=0
  ·have hk:=JV (cxV t c) (yrC c) hn (its t c A) r hO hr hy
   obtain ⟨k1,k2,k3,k4⟩:=hk
   rw [if_pos hn,if_pos hn]
   have e1:(cxV t c).mem=c.mem:=rfl
   have e2:(cxV t c).fam=c.fam:=rfl
   rw [e1] at k1 k2
   rw [e2] at k3 k4
   omega
  ·rw [if_neg hn,if_neg hn,JX (cxV t c) hn]
   omega
theorem Kt (t:Tb) (m:Value) (l:List Row) (v:Value) (w:World) (fm:∃a k,m=.slice a t.plan.rules.length k) (h:cu All w v l) (hl:l.length<=100000) :
  Calls Tryz.prog 15 #[.agg #[.int .i64 t.plan.mode,.int .i64 t.plan.indDed,.int .i64 t.plan.famDed,.int .i64 t.plan.indOop,.int .i64 t.plan.famOop,m],v] w fun e w'=>e=.returned (.bool (Kq t.plan l))/\Below w.heap.size w w':=by
 obtain ⟨ma,mc,rfl⟩:=fm
 obtain ⟨fa,fk,rfl,hm1,hm2⟩:=h.form
 have HRo:=Lib.hid fun W (hW:Below w.heap.size w W)=>h.grw hW
 have HB0:=Lib.hid (iU w (.cells #[.int .i64 t.plan.mode,.int .i64 t.plan.indDed,.int .i64 t.plan.famDed,.int .i64 t.plan.indOop,.int .i64 t.plan.famOop,.slice ma t.plan.rules.length mc] 24))
 have HX0:=Lib.hid (fK w #[.int .i64 t.plan.mode,.int .i64 t.plan.indDed,.int .i64 t.plan.famDed,.int .i64 t.plan.indOop,.int .i64 t.plan.famOop,.slice ma t.plan.rules.length mc] 24)
 obtain ⟨WB,HWB⟩:∃b,Hid (Kq t.plan l=b):=⟨_,rfl⟩
 rw [HWB.out]
 have HWd:Hid (WB=(l.drop 0).all (JF t.plan)):=HWB.out.symm
 clear h
 go_enter Tryz.func15,Tryz.ntmps15
 go_upto_region 1 with fail
 generalize w.alloc (.cells #[.int .i64 t.plan.mode,.int .i64 t.plan.indDed,.int .i64 t.plan.famDed,.int .i64 t.plan.indOop,.int .i64 t.plan.famOop,.slice ma t.plan.rules.length mc] 24)=W at *
 generalize hp:w.heap.size=p at *
 go_wp2
 go_loopg [5] (l.length) (fun g i wr=>∃k:Nat,k<=l.length/\g=l.length - k/\i=.int .i64 (k:Nat)/\Hid (Below p w wr)/\Hid (wr.heap[p]?=some (.cells #[.int .i64 t.plan.mode,.int .i64 t.plan.indDed,.int .i64 t.plan.famDed,.int .i64 t.plan.indOop,.int .i64 t.plan.famOop,.slice ma t.plan.rules.length mc] 24 (0,0)))/\Hid (WB=(l.drop k).all (JF t.plan)))
 case atStart=>exact ⟨0,Nat.zero_le _,rfl,rfl,HB0.out,HX0.out,HWd.out⟩
 case round =>
  clear HWd HB0 HX0
  obtain ⟨k,hk,hgk,rfl,HB,HX,HE⟩:=hrel
  by_cases hlt:k < l.length
  ·have hltz:(k:Int) < (l.length:Int):=by omega
   obtain ⟨b,oo,rfl,hbl,-,hcc⟩:=cu.get (HRo.out wr HB.out) k hlt
   have HE2:Hid (WB=(JF t.plan l[k] && (l.drop (k+1)).all (JF t.plan))):=HE.out.trans (by rw [List.drop_eq_getElem_cons hlt];rfl)
   generalize l[k]=x at *
   unfold Ac.bZ at hcc
   obtain ⟨c0,c1,c2,c3,c4⟩:=hcc
   obtain ⟨x0,x1,x2,x3,x4,x5⟩:=Pl.jU HX.out
   obtain ⟨wh,fam,yr,de,oo'⟩:=x
   simp only at c0 c1 c2 c3 c4
   clear HE
   have fin:∀(D O:Int),lmD t.plan fam=D->lmO t.plan fam=O->Hid (WB=(!(decide (D < de) || decide (O < oo')) && (l.drop (k+1)).all (JF t.plan))):=fun D O h1 h2=>by
    show _=_
    rw [HE2.out,←h1,←h2]
    rfl
   cases fam with
   | true =>
    have HF:=fin t.plan.famDed t.plan.famOop (by unfold lmD;rw [if_neg (by simp)]) (by unfold lmO;rw [if_neg (by simp)])
    clear fin HE2
    by_cases g1:t.plan.famDed < de
    ·have hwb:WB=false:=by rw [HF.out,decide_eq_true g1];rfl
     subst hwb
     go_wp2_with fail
     go_quiet (fail)
     go_wp2
     go_ret
     exact ⟨rfl,by first|exact HB.out.trans (iW _ _ _)|(rw [hp];exact HB.out.trans (iW _ _ _))⟩
    ·by_cases g2:t.plan.famOop < oo'
     ·have hwb:WB=false:=by rw [HF.out,decide_eq_false g1,decide_eq_true g2];rfl
      subst hwb
      go_wp2_with fail
      go_quiet (fail)
      go_wp2
      go_ret
      exact ⟨rfl,by first|exact HB.out.trans (iW _ _ _)|(rw [hp];exact HB.out.trans (iW _ _ _))⟩
     ·have HG:Hid (WB=(l.drop (k+1)).all (JF t.plan)):=by show _=_;rw [HF.out,decide_eq_false g1,decide_eq_false g2];rfl
      clear HF
      go_wp2_with fail
      go_quiet (fail)
      go_wp2
      go_roundg (l.length - (k+1))
      case measure=>omega
      case rel=>exact ⟨k+1,by omega,rfl,by first|rfl|go_num|(congr 1;omega),HB.out.trans (iW _ _ _),tY HX.out _,HG.out⟩
   | false =>
    by_cases g0:t.plan.mode=0
    ·have q0:(t.plan.mode == 0)=true:=by simp [g0]
     have HF:=fin t.plan.indDed t.plan.indOop (by unfold lmD;rw [if_pos ⟨rfl,g0⟩]) (by unfold lmO;rw [if_pos ⟨rfl,g0⟩])
     clear fin HE2 g0
     by_cases g1:t.plan.indDed < de
     ·have hwb:WB=false:=by rw [HF.out,decide_eq_true g1];rfl
      subst hwb
      go_wp2_with fail
      go_quiet (fail)
      go_wp2_with fail
      go_quiet (fail)
      go_wp2
      go_ret
      exact ⟨rfl,by first|exact HB.out.trans (iW _ _ _)|(rw [hp];exact HB.out.trans (iW _ _ _))⟩
     ·by_cases g2:t.plan.indOop < oo'
      ·have hwb:WB=false:=by rw [HF.out,decide_eq_false g1,decide_eq_true g2];rfl
       subst hwb
       go_wp2_with fail
       go_quiet (fail)
       go_wp2_with fail
       go_quiet (fail)
       go_wp2
       go_ret
       exact ⟨rfl,by first|exact HB.out.trans (iW _ _ _)|(rw [hp];exact HB.out.trans (iW _ _ _))⟩
      ·have HG:Hid (WB=(l.drop (k+1)).all (JF t.plan)):=by show _=_;rw [HF.out,decide_eq_false g1,decide_eq_false g2];rfl
       clear HF
       go_wp2_with fail
       go_quiet (fail)
       go_wp2_with fail
       go_quiet (fail)
       go_wp2
       go_roundg (l.length - (k+1))
       case measure=>omega
       case rel=>exact ⟨k+1,by omega,rfl,by first|rfl|go_num|(congr 1;omega),HB.out.trans (iW _ _ _),tY HX.out _,HG.out⟩
    ·have q0:(t.plan.mode == 0)=false:=by simp [g0]
     have HF:=fin t.plan.famDed t.plan.famOop (by unfold lmD;rw [if_neg (fun e=>g0 e.2)]) (by unfold lmO;rw [if_neg (fun e=>g0 e.2)])
     clear fin HE2 g0
     by_cases g1:t.plan.famDed < de
     ·have hwb:WB=false:=by rw [HF.out,decide_eq_true g1];rfl
      subst hwb
      go_wp2_with fail
      go_quiet (fail)
      go_wp2
      go_ret
      exact ⟨rfl,by first|exact HB.out.trans (iW _ _ _)|(rw [hp];exact HB.out.trans (iW _ _ _))⟩
     ·by_cases g2:t.plan.famOop < oo'
      ·have hwb:WB=false:=by rw [HF.out,decide_eq_false g1,decide_eq_true g2];rfl
       subst hwb
       go_wp2_with fail
       go_quiet (fail)
       go_wp2
       go_ret
       exact ⟨rfl,by first|exact HB.out.trans (iW _ _ _)|(rw [hp];exact HB.out.trans (iW _ _ _))⟩
      ·have HG:Hid (WB=(l.drop (k+1)).all (JF t.plan)):=by show _=_;rw [HF.out,decide_eq_false g1,decide_eq_false g2];rfl
       clear HF
       go_wp2_with fail
       go_quiet (fail)
       go_wp2
       go_roundg (l.length - (k+1))
       case measure=>omega
       case rel=>exact ⟨k+1,by omega,rfl,by first|rfl|go_num|(congr 1;omega),HB.out.trans (iW _ _ _),tY HX.out _,HG.out⟩
  ·have hltz:¬ (k:Int) < (l.length:Int):=by omega
   have hwb:WB=true:=by rw [HE.out,List.drop_eq_nil_of_le (by omega)];rfl
   subst hwb
   go_wp2
   go_ret
   exact ⟨rfl,by first|exact HB.out|(rw [hp];exact HB.out)⟩
end Go.Proofs.YtfbfeoplldjbpaaGreatDoor.Ju
end
