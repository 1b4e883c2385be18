/-
  Texts put together (merge.py): JChk, LLine, LLines, LHead.
-/
import Derived.Test.YtfbfeoplldjbpaaGreatDoorMo19
import Derived.Test.YtfbfeoplldjbpaaGreatDoorMo15
import Derived.Test.YtfbfeoplldjbpaaGreatDoorMo38
import Derived.Test.YtfbfeoplldjbpaaGreatDoorMo6
import Derived.Test.YtfbfeoplldjbpaaGreatDoorMo5
import Derived.Test.YtfbfeoplldjbpaaGreatDoorMo17
import Derived.Test.YtfbfeoplldjbpaaGreatDoorMo11
set_option linter.unusedSimpArgs false
set_option linter.unusedVariables false
set_option maxHeartbeats 16000000
set_option maxRecDepth 100000
section
namespace Go.Proofs.YtfbfeoplldjbpaaGreatDoor.Ju
open Go.RowKit
open Ac (Row pU dJ dM jF jG DW DU left cu Own tV qL iU jg jf fK)
open Sh (Ot bD bC bK bE EP EW Dt Du member Jj)
open Cm (Ln Cl bH lnv clv bG aC)
theorem zB (a b c:Int) (g:Nat) (w:World) (T:TypeId) (h:w.heap[g]?=some (.cells #[.int .i64 a,.int .i64 b,.int .i64 c] T (0,0))) :
  Calls Tryz.prog 20 #[.slice (some ⟨g,0,none⟩) 3 3] w fun e w'=>e=.returned (.int .i64 (orE a (orE b c)))/\w'=w:=by
 obtain ⟨c0,c1,c2⟩:=Ac.cells3 h
 clear h
 by_cases ha:a=0
 ·subst ha
  by_cases hb:b=0
  ·subst hb
   have e:orE 0 (orE 0 c)=c:=rfl
   rw [e]
   by_cases hc:c=0
   ·subst hc
    go_enter Tryz.func20,Tryz.ntmps20
    go_wp2
    go_rounds 4
    go_ret
    exact ⟨rfl,rfl⟩
   ·have hc':(c != 0)=true:=by simp [hc]
    go_enter Tryz.func20,Tryz.ntmps20
    go_wp2
    go_rounds 3
    go_ret
    exact ⟨rfl,rfl⟩
  ·have e:orE 0 (orE b c)=b:=by rw [zu,zq _ hb]
   rw [e]
   have hb':(b != 0)=true:=by simp [hb]
   go_enter Tryz.func20,Tryz.ntmps20
   go_wp2
   go_rounds 2
   go_ret
   exact ⟨rfl,rfl⟩
 ·have e:orE a (orE b c)=a:=zq _ ha
  rw [e]
  have ha':(a != 0)=true:=by simp [ha]
  go_enter Tryz.func20,Tryz.ntmps20
  go_wp2
  go_rounds 1
  go_ret
  exact ⟨rfl,rfl⟩
theorem check_any (t:Tb) (m mf me:Value) (w:World) (h:dF w m mf me t) (hz:dG t) (hT:Da.Tab w) :
  Calls Tryz.prog 13 #[.agg #[.int .i64 t.plan.mode,.int .i64 t.plan.indDed,.int .i64 t.plan.famDed,.int .i64 t.plan.indOop,.int .i64 t.plan.famOop,m,mf,me]] w fun e w'=>e=.returned (.int .i64 (GN t))/\Below w.heap.size w w':=by
 obtain ⟨ma,mc,fa,fc,ea,ec,rfl,rfl,rfl⟩:=h.form
 have HG0:=Lib.hid (iU w (.cells #[.int .i64 t.plan.mode,.int .i64 t.plan.indDed,.int .i64 t.plan.famDed,.int .i64 t.plan.indOop,.int .i64 t.plan.famOop,.slice ma t.plan.rules.length mc,.slice fa t.fees.length fc,.slice ea t.edits.length ec] 28))
 have HA0:=Lib.hid (fK w #[.int .i64 t.plan.mode,.int .i64 t.plan.indDed,.int .i64 t.plan.famDed,.int .i64 t.plan.indOop,.int .i64 t.plan.famOop,.slice ma t.plan.rules.length mc,.slice fa t.fees.length fc,.slice ea t.edits.length ec] 28)
 have HP:=Lib.hid fun W (hW:Below w.heap.size w W)=>Pl.check_any t.plan _ W (h.grw hW).1
 have HF:=Lib.hid fun W (hW:Below w.heap.size w W)=>Fe.check_any t.fees _ W (h.grw hW).2.1 hz.1.1 hz.1.2 (Cm.tab_below hT hW)
 have HE:=Lib.hid fun W (hW:Below w.heap.size w W)=>Ex.check_any t.edits _ W (h.grw hW).2.2 hz.2.1 hz.2.2
 rw [show GN t=orE (Pl.kF t.plan) (orE (Fe.kF t.fees) (Ex.kF t.edits)) from rfl]
 generalize Pl.kF t.plan=E1 at *
 generalize Fe.kF t.fees=E2 at *
 generalize Ex.kF t.edits=E3 at *
 clear h hz hT
 go_enter Tryz.func13,Tryz.ntmps13
 go_upto_region 1 with fail
 generalize w.alloc (.cells #[.int .i64 t.plan.mode,.int .i64 t.plan.indDed,.int .i64 t.plan.famDed,.int .i64 t.plan.indOop,.int .i64 t.plan.famOop,.slice ma t.plan.rules.length mc,.slice fa t.fees.length fc,.slice ea t.edits.length ec] 28)=W at *
 generalize hp:w.heap.size=p at *
 have HD:=Lib.hid (Below.drew (Below.refl W.heap.size W))
 have HXA:=Lib.hid fun W' (hW:Below W.heap.size W W')=>Pl.iR (tV HA0.out hW)
 refine Ri.IX (by kernel_rfl) (by kernel_rfl) (by kernel_rfl) (fun Wx=>Below W.heap.size W Wx) (fun kz vs wz=>(fun kx vx wx=>match kx with|0=>vx=.pointer (some ⟨p,0,none⟩)|1=>vx=.agg #[.int .i64 t.plan.mode,.int .i64 t.plan.indDed,.int .i64 t.plan.famDed,.int .i64 t.plan.indOop,.int .i64 t.plan.famOop,.slice ma t.plan.rules.length mc]|2=>vx=.int .i64 E1|3=>vx=.pointer (some ⟨p,6,none⟩)|4=>vx=.slice fa t.fees.length fc|5=>vx=.int .i64 E2|6=>vx=.pointer (some ⟨p,7,none⟩)|7=>vx=.slice ea t.edits.length ec|8=>vx=.int .i64 E3|9=>(∃g,vx=.slice (some ⟨g,0,none⟩) 3 3/\wx.heap[g]?=some (.cells #[.int .i64 E1,.int .i64 E2,.int .i64 E3] 36 (0,0)))|10=>vx=.int .i64 (orE E1 (orE E2 E3))|11=>vx=.int .i64 (orE E1 (orE E2 E3))|_=>True:Nat->Value->World->Prop) kz (vs kz) wz) (fun kz=>[kz]) (by kernel_rfl) (fun jz vs iz vz wz hiz hz=>Ri.wI (F:=(fun kx vx wx=>match kx with|0=>vx=.pointer (some ⟨p,0,none⟩)|1=>vx=.agg #[.int .i64 t.plan.mode,.int .i64 t.plan.indDed,.int .i64 t.plan.famDed,.int .i64 t.plan.indOop,.int .i64 t.plan.famOop,.slice ma t.plan.rules.length mc]|2=>vx=.int .i64 E1|3=>vx=.pointer (some ⟨p,6,none⟩)|4=>vx=.slice fa t.fees.length fc|5=>vx=.int .i64 E2|6=>vx=.pointer (some ⟨p,7,none⟩)|7=>vx=.slice ea t.edits.length ec|8=>vx=.int .i64 E3|9=>(∃g,vx=.slice (some ⟨g,0,none⟩) 3 3/\wx.heap[g]?=some (.cells #[.int .i64 E1,.int .i64 E2,.int .i64 E3] 36 (0,0)))|10=>vx=.int .i64 (orE E1 (orE E2 E3))|11=>vx=.int .i64 (orE E1 (orE E2 E3))|_=>True:Nat->Value->World->Prop)) jz vs iz vz wz hiz hz) HD.out ⟨⟨rfl,?_⟩,⟨rfl,?_⟩,⟨rfl,?_⟩,⟨rfl,?_⟩,⟨rfl,?_⟩,⟨rfl,?_⟩,⟨rfl,?_⟩,⟨rfl,?_⟩,⟨rfl,?_⟩,⟨rfl,?_⟩,⟨rfl,?_⟩,⟨rfl,?_⟩,trivial⟩ ?_
 ·intro vs Wx A hA hB hpre K hK
  have e1:=(hA 1).trans (show _=Value.pointer (some ⟨p,0,none⟩) by kernel_rfl)
  clear hA hpre
  go_simp
  exact hK _ _ hB rfl (fun _ _ h=>h)
 ·intro vs Wx A hA hB hpre K hK
  have e3:=((hA 3).trans (show _=vs 0 by kernel_rfl)).trans (hpre.1 rfl)
  obtain ⟨x0,x1,x2,x3,x4,x5,x6,x7⟩:=HXA.out Wx hB
  clear hA hpre
  go_simp
  exact hK _ _ hB rfl (fun _ _ h=>h)
 ·intro vs Wx A hA hB hpre K hK
  have e4:=((hA 4).trans (show _=vs 1 by kernel_rfl)).trans (hpre.1 rfl)
  clear hA hpre
  go_simp
  go_at_call 32
  refine (HP.out _ (jf hp HG0.out hB)).mono ?_
  rintro e w3 ⟨rfl,hg⟩
  refine hK _ _ (jg hB hg) rfl (fun jz hj hz=>?_)
  match jz,hj,hz with
  | 0,_,hz=>exact hz
  | 1,_,hz=>exact hz
  | 2,_,hz=>exact hz
  | 3,_,hz=>exact hz
  | 4,_,hz=>exact hz
  | 5,_,hz=>exact hz
  | 6,_,hz=>exact hz
  | 7,_,hz=>exact hz
  | 8,_,hz=>exact hz
  | 9,_,hz=>exact (by obtain ⟨g,h1,h2⟩:=hz;exact ⟨g,h1,tV h2 hg⟩)
  | 10,_,hz=>exact hz
  | 11,_,hz=>exact hz
  | n+12,_,hz=>exact hz
 ·intro vs Wx A hA hB hpre K hK
  have e1:=(hA 1).trans (show _=Value.pointer (some ⟨p,0,none⟩) by kernel_rfl)
  clear hA hpre
  go_simp
  exact hK _ _ hB rfl (fun _ _ h=>h)
 ·intro vs Wx A hA hB hpre K hK
  have e6:=((hA 6).trans (show _=vs 3 by kernel_rfl)).trans (hpre.1 rfl)
  obtain ⟨x0,x1,x2,x3,x4,x5,x6,x7⟩:=HXA.out Wx hB
  clear hA hpre
  go_simp
  exact hK _ _ hB rfl (fun _ _ h=>h)
 ·intro vs Wx A hA hB hpre K hK
  have e7:=((hA 7).trans (show _=vs 4 by kernel_rfl)).trans (hpre.1 rfl)
  clear hA hpre
  go_simp
  go_at_call 33
  refine (HF.out _ (jf hp HG0.out hB)).mono ?_
  rintro e w3 ⟨rfl,hg⟩
  refine hK _ _ (jg hB hg) rfl (fun jz hj hz=>?_)
  match jz,hj,hz with
  | 0,_,hz=>exact hz
  | 1,_,hz=>exact hz
  | 2,_,hz=>exact hz
  | 3,_,hz=>exact hz
  | 4,_,hz=>exact hz
  | 5,_,hz=>exact hz
  | 6,_,hz=>exact hz
  | 7,_,hz=>exact hz
  | 8,_,hz=>exact hz
  | 9,_,hz=>exact (by obtain ⟨g,h1,h2⟩:=hz;exact ⟨g,h1,tV h2 hg⟩)
  | 10,_,hz=>exact hz
  | 11,_,hz=>exact hz
  | n+12,_,hz=>exact hz
 ·intro vs Wx A hA hB hpre K hK
  have e1:=(hA 1).trans (show _=Value.pointer (some ⟨p,0,none⟩) by kernel_rfl)
  clear hA hpre
  go_simp
  exact hK _ _ hB rfl (fun _ _ h=>h)
 ·intro vs Wx A hA hB hpre K hK
  have e9:=((hA 9).trans (show _=vs 6 by kernel_rfl)).trans (hpre.1 rfl)
  obtain ⟨x0,x1,x2,x3,x4,x5,x6,x7⟩:=HXA.out Wx hB
  clear hA hpre
  go_simp
  exact hK _ _ hB rfl (fun _ _ h=>h)
 ·intro vs Wx A hA hB hpre K hK
  have e10:=((hA 10).trans (show _=vs 7 by kernel_rfl)).trans (hpre.1 rfl)
  clear hA hpre
  go_simp
  go_at_call 34
  refine (HE.out _ (jf hp HG0.out hB)).mono ?_
  rintro e w3 ⟨rfl,hg⟩
  refine hK _ _ (jg hB hg) rfl (fun jz hj hz=>?_)
  match jz,hj,hz with
  | 0,_,hz=>exact hz
  | 1,_,hz=>exact hz
  | 2,_,hz=>exact hz
  | 3,_,hz=>exact hz
  | 4,_,hz=>exact hz
  | 5,_,hz=>exact hz
  | 6,_,hz=>exact hz
  | 7,_,hz=>exact hz
  | 8,_,hz=>exact hz
  | 9,_,hz=>exact (by obtain ⟨g,h1,h2⟩:=hz;exact ⟨g,h1,tV h2 hg⟩)
  | 10,_,hz=>exact hz
  | 11,_,hz=>exact hz
  | n+12,_,hz=>exact hz
 ·intro vs Wx A hA hB hpre K hK
  have e5:=((hA 5).trans (show _=vs 2 by kernel_rfl)).trans (hpre.1 rfl)
  have e8:=((hA 8).trans (show _=vs 5 by kernel_rfl)).trans (hpre.2.1 rfl)
  have e11:=((hA 11).trans (show _=vs 8 by kernel_rfl)).trans (hpre.2.2.1 rfl)
  clear hA hpre
  go_simp
  refine hK _ _ (jg hB (iU _ _)) ⟨_,rfl,heap_alloc_new Wx _⟩ (fun jz hj hz=>?_)
  match jz,hj,hz with
  | 0,_,hz=>exact hz
  | 1,_,hz=>exact hz
  | 2,_,hz=>exact hz
  | 3,_,hz=>exact hz
  | 4,_,hz=>exact hz
  | 5,_,hz=>exact hz
  | 6,_,hz=>exact hz
  | 7,_,hz=>exact hz
  | 8,_,hz=>exact hz
  | 9,hj,_=>exact absurd rfl hj
  | 10,_,hz=>exact hz
  | 11,_,hz=>exact hz
  | n+12,_,hz=>exact hz
 ·intro vs Wx A hA hB hpre K hK
  have hx9:(∃g,vs 9=.slice (some ⟨g,0,none⟩) 3 3/\Wx.heap[g]?=some (.cells #[.int .i64 E1,.int .i64 E2,.int .i64 E3] 36 (0,0))):=hpre.1 rfl
  obtain ⟨gx9,hv9,hh9⟩:=hx9
  have e12:=((hA 12).trans (show _=vs 9 by kernel_rfl)).trans hv9
  clear hA hpre
  go_simp
  go_at_call 20
  refine (zB _ _ _ _ _ _ hh9).mono ?_
  rintro e w3 ⟨rfl,rfl⟩
  exact hK _ _ hB rfl (fun _ _ h=>h)
 ·intro vs Wx A hA hB hpre K hK
  have e13:=((hA 13).trans (show _=vs 10 by kernel_rfl)).trans (hpre.1 rfl)
  clear hA hpre
  go_simp
  exact hK _ _ hB rfl (fun _ _ h=>h)
 ·intro vs Wx hB hF
  have hL:vs 11=.int .i64 (orE E1 (orE E2 E3)):=hF 11 (by decide)
  have HBW:=Lib.hid (jf hp HG0.out hB)
  clear hF hB
  simp only [Ri.puts]
  go_simp
  go_wp2_with fail
  go_ret
  exact ⟨by first|rfl|(rw [hL])|simp [hL],by first|exact HBW.out|(rw [hp];exact HBW.out)⟩
end Go.Proofs.YtfbfeoplldjbpaaGreatDoor.Ju
end
section
namespace Go.Proofs.YtfbfeoplldjbpaaGreatDoor.Cm
open Go.RowKit
theorem vP {x:Ln} (h:lU x=false):vS x=9:=by simp [vS,h]
theorem vN {x:Ln} (h:lU x=true) (h1:Da.good x.date=false):vS x=7:=by simp [vS,h,h1]
theorem vM {x:Ln} (h:lU x=true) (h1:Da.good x.date=true) (h2:Hq x.units=false):vS x=3:=by simp [vS,h,h1,h2]
theorem vO {x:Ln} (h:lU x=true) (h1:Da.good x.date=true) (h2:Hq x.units=true) (h3:yh x=false):vS x=8:=by simp [vS,h,h1,h2,h3]
theorem vJ {x:Ln} (h:lU x=true) (h1:Da.good x.date=true) (h2:Hq x.units=true) (h3:yh x=true):vS x=0:=by simp [vS,h,h1,h2,h3]
theorem vU (x:Ln) (m:Value) (w:World) (hm:dI All w m x.mods) (hx:bG x) (hT:Da.Tab w) :
  Calls Tryz.prog 73 #[lnv x m] w fun e w'=>e=.returned (.int .i64 (vS x))/\Below w.heap.size w w':=by
 obtain ⟨i1,i2,i3,i4,z1,z2,z3⟩:=hx
 have HC:=Lib.hid fun w=>lN x.proc 5 5 w (by omega)
 have HM:=Lib.hid fun o=>xZ m x.mods (w.alloc o) (dI.move hm (Below.moves (iU w o))) z3
 have HD:=Lib.hid fun o=>Da.qh x.date (w.alloc o) (tab_below hT (iU w o)) i1.1 i1.2
 have HB:=Lib.hid fun o=>iU w o
 have H9:=Lib.hid (@vP x)
 have H7:=Lib.hid (@vN x)
 have H3:=Lib.hid (@vM x)
 have H8:=Lib.hid (@vO x)
 have H0:=Lib.hid (@vJ x)
 obtain ⟨a,c,rfl,-,-⟩:=dI.form hm
 unfold lU at H9 H7 H3 H8 H0
 unfold Hq at H3 H8 H0
 unfold yh at H8 H0
 clear hm hT i1 i2 i3 i4 z1 z2 z3
 generalize vS x=R at *
 cases h1:lM x.proc 5 5
 ·rw [h1] at HC
  rw [H9.out (by rw [h1];rfl)]
  clear h1 H9 H7 H3 H8 H0
  go_enter Tryz.func73,Tryz.ntmps73
  go_wp2_with (go_at_call 116;refine (HC.out _).mono ?_;rintro e w' ⟨rfl,rfl⟩)
  go_ret
  exact ⟨rfl,HB.out _⟩
 cases h2:xQ x.mods
 ·rw [h1] at HC
  rw [h2] at HM
  rw [H9.out (by rw [h1,h2];rfl)]
  clear h1 h2 H9 H7 H3 H8 H0
  go_enter Tryz.func73,Tryz.ntmps73
  go_wp2_with (first|(go_at_call 116;refine (HC.out _).mono ?_;rintro e w' ⟨rfl,rfl⟩)|(go_at_call 117;refine (HM.out _).mono ?_;rintro e w' ⟨rfl,rfl⟩))
  go_ret
  exact ⟨rfl,HB.out _⟩
 rw [h1] at HC
 rw [h2] at HM
 have hcd:(lM x.proc 5 5 && xQ x.mods)=true:=by rw [h1,h2];rfl
 clear h1 h2
 cases h3:Da.good x.date
 ·rw [h3] at HD
  rw [H7.out hcd h3]
  clear hcd h3 H9 H7 H3 H8 H0
  go_enter Tryz.func73,Tryz.ntmps73
  go_wp2_with (first|(go_at_call 116;refine (HC.out _).mono ?_;rintro e w' ⟨rfl,rfl⟩)|(go_at_call 117;refine (HM.out _).mono ?_;rintro e w' ⟨rfl,rfl⟩)|(go_at_call 107;refine (HD.out _).mono ?_;rintro e w' ⟨rfl,rfl⟩))
  go_ret
  exact ⟨rfl,HB.out _⟩
 rw [h3] at HD
 by_cases h4:x.units < 1
 ·have d4:decide (x.units < 1)=true:=decide_eq_true h4
  rw [H3.out hcd h3 (by rw [decide_eq_false (by omega)];rfl)]
  clear hcd h3 H9 H7 H3 H8 H0
  go_enter Tryz.func73,Tryz.ntmps73
  go_wp2_with (first|(go_at_call 116;refine (HC.out _).mono ?_;rintro e w' ⟨rfl,rfl⟩)|(go_at_call 117;refine (HM.out _).mono ?_;rintro e w' ⟨rfl,rfl⟩)|(go_at_call 107;refine (HD.out _).mono ?_;rintro e w' ⟨rfl,rfl⟩))
  go_ret
  exact ⟨rfl,HB.out _⟩
 have d4:decide (x.units < 1)=false:=decide_eq_false h4
 by_cases h5:9999 < x.units
 ·have d5:decide (9999 < x.units)=true:=decide_eq_true h5
  rw [H3.out hcd h3 (by rw [decide_eq_false (p:=x.units<=9999) (by omega),Bool.and_false])]
  clear hcd h3 H9 H7 H3 H8 H0
  go_enter Tryz.func73,Tryz.ntmps73
  go_wp2_with (first|(go_at_call 116;refine (HC.out _).mono ?_;rintro e w' ⟨rfl,rfl⟩)|(go_at_call 117;refine (HM.out _).mono ?_;rintro e w' ⟨rfl,rfl⟩)|(go_at_call 107;refine (HD.out _).mono ?_;rintro e w' ⟨rfl,rfl⟩))
  go_ret
  exact ⟨rfl,HB.out _⟩
 have d5:decide (9999 < x.units)=false:=decide_eq_false h5
 have hu:(decide (1<=x.units) && decide (x.units<=9999))=true:=by rw [decide_eq_true (by omega),decide_eq_true (by omega)];rfl
 have HGB:=Lib.hid fun w=>Ce.qh x.billed w
 have HGP:=Lib.hid fun w=>Ce.qh x.prior w
 cases h6:Ce.good x.billed
 ·rw [h6] at HGB
  rw [H8.out hcd h3 hu (by rw [h6];rfl)]
  clear hcd h3 hu h6 H9 H7 H3 H8 H0 HGP
  go_enter Tryz.func73,Tryz.ntmps73
  go_wp2_with (first|(go_at_call 116;refine (HC.out _).mono ?_;rintro e w' ⟨rfl,rfl⟩)|(go_at_call 117;refine (HM.out _).mono ?_;rintro e w' ⟨rfl,rfl⟩)|(go_at_call 107;refine (HD.out _).mono ?_;rintro e w' ⟨rfl,rfl⟩)|(go_at_call 76;refine (HGB.out _).mono ?_;rintro e w' ⟨rfl,rfl⟩))
  go_ret
  exact ⟨rfl,HB.out _⟩
 cases h7:Ce.good x.prior
 ·rw [h6] at HGB
  rw [h7] at HGP
  rw [H8.out hcd h3 hu (by rw [h6,h7];rfl)]
  clear hcd h3 hu H9 H7 H3 H8 H0 HGB HGP
  go_enter Tryz.func73,Tryz.ntmps73
  go_wp2_with (first|(go_at_call 116;refine (HC.out _).mono ?_;rintro e w' ⟨rfl,rfl⟩)|(go_at_call 117;refine (HM.out _).mono ?_;rintro e w' ⟨rfl,rfl⟩)|(go_at_call 107;refine (HD.out _).mono ?_;rintro e w' ⟨rfl,rfl⟩)|(go_at_call 76;refine (Ce.qh _ _).mono ?_;rintro e w' ⟨rfl,rfl⟩))
  go_ret
  exact ⟨rfl,HB.out _⟩
 by_cases h8:x.billed < x.prior
 ·have d8:decide (x.billed < x.prior)=true:=decide_eq_true h8
  rw [H8.out hcd h3 hu (by rw [decide_eq_false (by omega),Bool.and_false])]
  clear hcd h3 hu H9 H7 H3 H8 H0 HGB HGP
  go_enter Tryz.func73,Tryz.ntmps73
  go_wp2_with (first|(go_at_call 116;refine (HC.out _).mono ?_;rintro e w' ⟨rfl,rfl⟩)|(go_at_call 117;refine (HM.out _).mono ?_;rintro e w' ⟨rfl,rfl⟩)|(go_at_call 107;refine (HD.out _).mono ?_;rintro e w' ⟨rfl,rfl⟩)|(go_at_call 76;refine (Ce.qh _ _).mono ?_;rintro e w' ⟨rfl,rfl⟩))
  go_ret
  exact ⟨rfl,HB.out _⟩
 have d8:decide (x.billed < x.prior)=false:=decide_eq_false h8
 rw [H0.out hcd h3 hu (by rw [h6,h7,decide_eq_true (by omega)];rfl)]
 clear hcd h3 hu H9 H7 H3 H8 H0 HGB HGP
 go_enter Tryz.func73,Tryz.ntmps73
 go_wp2_with (first|(go_at_call 116;refine (HC.out _).mono ?_;rintro e w' ⟨rfl,rfl⟩)|(go_at_call 117;refine (HM.out _).mono ?_;rintro e w' ⟨rfl,rfl⟩)|(go_at_call 107;refine (HD.out _).mono ?_;rintro e w' ⟨rfl,rfl⟩)|(go_at_call 76;refine (Ce.qh _ _).mono ?_;rintro e w' ⟨rfl,rfl⟩))
 go_ret
 exact ⟨rfl,HB.out _⟩
end Go.Proofs.YtfbfeoplldjbpaaGreatDoor.Cm
end
section
namespace Go.Proofs.YtfbfeoplldjbpaaGreatDoor.Cm
open Go.RowKit
theorem Ja {n:Int} (h:Da.good n=true):Da.I9 n=Da.yr n:=by simp [Da.I9,h]
theorem lines_any (v:Value) (ls:List Ln) (w:World) (h:bH All w v ls) (hz:∀x ∈ ls,bG x) (hT:Da.Tab w) :
  Calls Tryz.prog 40 #[v] w fun e w'=>e=.returned (.int .i64 (vW ls))/\Below w.heap.size w w':=by
 have HV:=Lib.hid h
 have HZ:=Lib.hid hz
 have HT:=Lib.hid hT
 obtain ⟨a,c,rfl,h1,h2⟩:=bH.form h
 clear h hz hT
 unfold vW
 obtain ⟨y,hy⟩:∃y,y=Da.yr (ls.getD 0 ln0).date:=⟨_,rfl⟩
 rw [←hy]
 have HY:=Lib.hid hy
 clear hy
 go_enter Tryz.func40,Tryz.ntmps40
 go_wp2
 go_step3
 go_wp2
 go_step3
 go_wp2
 go_loopg [7] (ls.length) (fun g i wr=>∃k:Nat,k<=ls.length/\g=ls.length - k/\i=.int .i64 k/\Hid (Below w.heap.size w wr)/\Hid (oU y (ls.drop k)=oU y ls)/\Hid (∀x,ls[0]?=some x->0 < k->vS x=0))
 case atStart=>exact ⟨0,Nat.zero_le _,rfl,rfl,Below.refl _ _,by rfl,fun _ _ h=>absurd h (by omega)⟩
 case round =>
  obtain ⟨k,hk,hg,rfl,HB,HF,H0⟩:=hrel
  by_cases hlt:k < ls.length
  ·have hL:=bH.move HV.out (Below.moves HB.out)
   have hpos:0 < ls.length:=by omega
   obtain ⟨b,o,m,rfl,hx,hc,hr⟩:=bH.get hL k hlt
   obtain ⟨b',o',m0,e0,hx0,hc0,-⟩:=bH.get hL 0 hpos
   injection e0 with e0
   injection e0 with e1 e2
   subst e1 e2
   have hzk:=HZ.out _ (List.mem_of_getElem? hx)
   have hz0:=HZ.out _ (List.mem_of_getElem? hx0)
   have HC:=Lib.hid (vU ls[k] m wr hr hzk (tab_below HT.out HB.out))
   have HX:Hid (∀w1,Below wr.heap.size wr w1->w1.cell? ⟨b,o+k * 6+2,none⟩=some (.int .i64 ls[k].date)/\w1.cell? ⟨b,o+2,none⟩=some (.int .i64 ls[0].date)/\Da.Tab w1):=fun w1 hb=>by
    have hbl:=World.block_lt_of_cell? wr _ hc.1
    refine ⟨(hc.of (hb.block _ hbl)).2.2.1,?_,tab_below (tab_below HT.out HB.out) hb⟩
    have:=(hc0.of (hb.block _ hbl)).2.2.1
    simpa using this
   obtain ⟨c0,c1,c2,c3,c4,c5⟩:=hc
   obtain ⟨am,cm,rfl,-,-⟩:=dI.form hr
   have hik:=hzk.1
   have hi0:=hz0.1
   obtain ⟨l1,l2⟩:=hik
   obtain ⟨l3,l4⟩:=hi0
   have HBAD:=Lib.hid (oV y ls k _ hx HF.out)
   have HYR:=Lib.hid (o8 y ls k _ hx HF.out)
   have HST:=Lib.hid (o7 y ls k _ hx HF.out)
   by_cases he:vS ls[k]=0
   ·have hgk:=vT he
    have hg0:Da.good ls[0].date=true:=by
     by_cases hk0:k=0
     ·subst hk0;exact hgk
     ·exact vT (H0.out _ hx0 (by omega))
    have hy0:y=Da.yr ls[0].date:=by rw [HY.out,List.getD_eq_getElem?_getD,hx0];rfl
    have H0':Hid (∀x,ls[0]?=some x->0 < k+1->vS x=0):=fun x hx1 _=>by
     by_cases hk0:k=0
     ·subst hk0
      rw [hx] at hx1
      rw [←Option.some.inj hx1];exact he
     ·exact H0.out x hx1 (by omega)
    rw [he] at HC
    have hyk:=Ja hgk
    have hy0':=Ja hg0
    rw [←hy0] at hy0'
    clear hy0 hx hx0 hr hL hzk hz0 hc0 HBAD
    by_cases hyy:Da.yr ls[k].date=y
    ·have HQ:=Lib.hid (HST.out he hyy)
     have hbe:(Da.I9 ls[k].date == Da.I9 ls[0].date)=true:=by rw [hyk,hy0',hyy];simp
     clear hyy hyk hy0' hgk hg0 he
     go_wp2_with (first|(go_at_call 73;refine (HC.out).mono ?_;rintro e w1 ⟨rfl,hb⟩;obtain ⟨n1,n2,n3⟩:=HX.out _ hb;have HB2:=Lib.hid (jg HB.out hb);have HT1:=Lib.hid n3;clear n3 hb))
     go_quiet (first|(go_at_call 74;refine Calls.quiet_of_same (Da.Jb _ _ HT1.out (by assumption) (by assumption))))
     go_wp2
     go_roundg (ls.length - (k+1))
     case rel=>exact ⟨k+1,by omega,rfl,by go_num,jg HB2.out (iY ⟨_,rfl⟩),HQ.out,H0'.out⟩
     case measure=>omega
    ·have HQ:=Lib.hid (HYR.out he hyy)
     have hbe:(Da.I9 ls[k].date == Da.I9 ls[0].date)=false:=by rw [hyk,hy0'];simpa using hyy
     clear hyy hyk hy0' hgk hg0 he
     go_wp2_with (first|(go_at_call 73;refine (HC.out).mono ?_;rintro e w1 ⟨rfl,hb⟩;obtain ⟨n1,n2,n3⟩:=HX.out _ hb;have HB2:=Lib.hid (jg HB.out hb);have HT1:=Lib.hid n3;clear n3 hb))
     go_quiet (first|(go_at_call 74;refine Calls.quiet_of_same (Da.Jb _ _ HT1.out (by assumption) (by assumption))))
     go_wp2
     try rw [Exit.noGoto_ret]
     go_ret
     exact ⟨by rw [HQ.out];rfl,jg HB2.out (iY ⟨_,rfl⟩)⟩
   ·have HQ:=Lib.hid (HBAD.out he)
    have hbe:(vS ls[k] != 0)=true:=by simpa using he
    clear hx hx0 hr hL hzk hz0 hc0 HBAD he HX
    go_wp2_with (first|(go_at_call 73;refine (HC.out).mono ?_;rintro e w1 ⟨rfl,hb⟩;have HB2:=Lib.hid (jg HB.out hb);clear hb))
    try rw [Exit.noGoto_ret]
    go_ret
    exact ⟨by rw [HQ.out];rfl,HB2.out⟩
  ·have HQ:=Lib.hid (oZ y ls k (by omega) HF.out)
   go_wp2
   try rw [Exit.noGoto_ret]
   go_ret
   exact ⟨by rw [HQ.out];rfl,HB.out⟩
end Go.Proofs.YtfbfeoplldjbpaaGreatDoor.Cm
end
section
namespace Go.Proofs.YtfbfeoplldjbpaaGreatDoor.Cm
open Go.RowKit
theorem xG (s:Tx):(mk s).toList.isEmpty=decide (s=[]):=by
 rw [Lib.toList_data,xI]
 rw [Bool.eq_iff_iff]
 simp
theorem Dv (c:Cl) (m:Value) (w:World) (hm:∃a n k,m=.slice a n k) (hz:c.ref.length<=281474976710656) :
  Calls Tryz.prog 72 #[clv c m] w fun e w'=>e=.returned (.bool (Dq c))/\Below w.heap.size w w':=by
 obtain ⟨a,n,k,rfl⟩:=hm
 have HB:=Lib.hid fun o=>iU w o
 by_cases h1:c.does=1
 ·have hr:Dq c=decide (c.ref=[]):=by unfold Dq;rw [if_pos h1]
  have he:=xG c.ref
  rw [hr]
  clear hr
  have hb:(c.does == 1)=true:=by simpa using h1
  generalize decide (c.ref=[])=R at *
  clear h1
  go_enter Tryz.func72,Tryz.ntmps72
  go_wp2
  go_ret
  exact ⟨by simp [he],HB.out _⟩
 ·have hr:Dq c=lM c.ref 1 12:=by unfold Dq;rw [if_neg h1]
  have HN:=Lib.hid fun w=>name_any c.ref w (by omega)
  have hb:(c.does == 1)=false:=by simpa using h1
  rw [hr]
  clear hr
  generalize lM c.ref 1 12=R at *
  go_enter Tryz.func72,Tryz.ntmps72
  go_wp2_with (go_at_call 71;refine (HN.out _).mono ?_;rintro e w' ⟨rfl,rfl⟩)
  go_ret
  exact ⟨rfl,HB.out _⟩
theorem qH {x:Cl} (h:yA x=false):qJ x=9:=by simp [qJ,h]
theorem qF {x:Cl} (h:yA x=true) (h1:yF x.net=false):qJ x=3:=by simp [qJ,h,h1]
theorem qI {x:Cl} (h:yA x=true) (h1:yF x.net=true) (h2:Dq x=false):qJ x=9:=by simp [qJ,h,h1,h2]
theorem qG {x:Cl} (h:yA x=true) (h1:yF x.net=true) (h2:Dq x=true) (h3:nD x.does=false):qJ x=3:=by simp [qJ,h,h1,h2,h3]
theorem qE {x:Cl} (h:yA x=true) (h1:yF x.net=true) (h2:Dq x=true) (h3:nD x.does=true):qJ x=0:=by simp [qJ,h,h1,h2,h3]
def aF (c:Cl):Prop:=c.id.length<=281474976710656/\c.mem.length<=281474976710656/\c.fam.length<=281474976710656/\c.ref.length<=281474976710656
theorem aC.short {c:Cl} (h:aC c):aF c:=⟨h.2.2.1,h.2.2.2.1,h.2.2.2.2.1,h.2.2.2.2.2.1⟩
theorem qK (c:Cl) (m:Value) (w:World) (hm:∃a n k,m=.slice a n k) (hz:aF c) :
  Calls Tryz.prog 39 #[clv c m] w fun e w'=>e=.returned (.int .i64 (qJ c))/\Below w.heap.size w w':=by
 obtain ⟨z1,z2,z3,z4⟩:=hz
 have HN:=Lib.hid fun (s:Tx) (hs:s.length<=281474976710656) w=>name_any s w (by omega)
 have HR:=Lib.hid fun w=>Dv c m w hm z4
 have HB:=Lib.hid fun o=>iU w o
 have H9:=Lib.hid (@qH c)
 have H3:=Lib.hid (@qF c)
 have H9':=Lib.hid (@qI c)
 have H3':=Lib.hid (@qG c)
 have H0:=Lib.hid (@qE c)
 unfold yA at H9 H3 H9' H3' H0
 have HBX:Hid (∀w',Below (w.alloc (.cells #[.string (mk c.id),.string (mk c.mem),.string (mk c.fam),.int .i64 c.net,.int .i64 c.does,.string (mk c.ref),m] 31)).heap.size (w.alloc (.cells #[.string (mk c.id),.string (mk c.mem),.string (mk c.fam),.int .i64 c.net,.int .i64 c.does,.string (mk c.ref),m] 31)) w'->ay w' w.heap.size c m):=fun w' hb=>(ay.new w c m _).grw hb
 obtain ⟨a,n,k,rfl⟩:=hm
 cases h1:lM c.id 1 12
 ·rw [H9.out (by rw [h1];rfl)]
  clear H9 H3 H9' H3' H0
  go_enter Tryz.func39,Tryz.ntmps39
  go_wp2_with (first|(go_at_call 71;refine (HN.out _ (by assumption) _).mono ?_;rintro e w' ⟨rfl,rfl⟩))
  go_ret
  exact ⟨rfl,HB.out _⟩
 cases h2:lM c.mem 1 12
 ·rw [H9.out (by rw [h1,h2];rfl)]
  clear H9 H3 H9' H3' H0
  go_enter Tryz.func39,Tryz.ntmps39
  go_wp2_with (first|(go_at_call 71;refine (HN.out _ (by assumption) _).mono ?_;rintro e w' ⟨rfl,rfl⟩))
  go_ret
  exact ⟨rfl,HB.out _⟩
 cases h3:lM c.fam 1 12
 ·rw [H9.out (by rw [h1,h2,h3];rfl)]
  clear H9 H3 H9' H3' H0
  go_enter Tryz.func39,Tryz.ntmps39
  go_wp2_with (first|(go_at_call 71;refine (HN.out _ (by assumption) _).mono ?_;rintro e w' ⟨rfl,rfl⟩))
  go_ret
  exact ⟨rfl,HB.out _⟩
 have hn:(lM c.id 1 12 && (lM c.mem 1 12 && lM c.fam 1 12))=true:=by rw [h1,h2,h3];rfl
 have b0:(c.net != 0) = !decide (c.net=0):=by rw [Bool.eq_iff_iff];simp
 have b1:(c.net != 1) = !decide (c.net=1):=by rw [Bool.eq_iff_iff];simp
 cases h4:yF c.net
 ·rw [H3.out hn h4]
  clear H9 H3 H9' H3' H0 hn
  unfold yF at h4
  rw [Bool.or_eq_false_iff] at h4
  rw [h4.1] at b0
  rw [h4.2] at b1
  clear h4
  go_enter Tryz.func39,Tryz.ntmps39
  go_wp2_with (first|(go_at_call 71;refine (HN.out _ (by assumption) _).mono ?_;rintro e w' ⟨rfl,rfl⟩))
  go_ret
  exact ⟨rfl,HB.out _⟩
 have h5:(c.net != 0)=false ∨ ((c.net != 0)=true/\(c.net != 1)=false):=by
  rw [b0,b1]
  unfold yF at h4
  rw [Bool.or_eq_true] at h4
  rcases h4 with h4|h4
  ·left;rw [h4];rfl
  ·right
   rw [h4]
   rw [decide_eq_true_eq] at h4
   rw [decide_eq_false (by omega)]
   exact ⟨rfl,rfl⟩
 clear b0 b1
 have d1:(c.does != 1) = !decide (c.does=1):=by rw [Bool.eq_iff_iff];simp
 have d7:(c.does != 7) = !decide (c.does=7):=by rw [Bool.eq_iff_iff];simp
 have d8:(c.does != 8) = !decide (c.does=8):=by rw [Bool.eq_iff_iff];simp
 cases h6:Dq c
 ·rw [H9'.out hn h4 h6]
  rw [h6] at HR
  clear H9 H3 H9' H3' H0 hn h4 d1 d7 d8
  rcases h5 with h5|⟨h5,h5'⟩ <;>
  ·go_enter Tryz.func39,Tryz.ntmps39
   go_wp2_with (first|(go_at_call 71;refine (HN.out _ (by assumption) _).mono ?_;rintro e w' ⟨rfl,rfl⟩)|(go_at_call 72;refine (HR.out _).mono ?_;rintro e w1 ⟨rfl,hb⟩;have HB1:=Lib.hid hb;clear hb))
   go_ret
   exact ⟨rfl,jg (HB.out _) HB1.out⟩
 rw [h6] at HR
 cases h7:nD c.does
 ·rw [H3'.out hn h4 h6 h7]
  clear H9 H3 H9' H3' H0 hn h4
  unfold nD at h7
  simp only [Bool.or_eq_false_iff] at h7
  rw [h7.1] at d1
  rw [h7.2.1] at d7
  rw [h7.2.2] at d8
  clear h7
  rcases h5 with h5|⟨h5,h5'⟩ <;>
  ·go_enter Tryz.func39,Tryz.ntmps39
   go_wp2_with (first|(go_at_call 71;refine (HN.out _ (by assumption) _).mono ?_;rintro e w' ⟨rfl,rfl⟩)|(go_at_call 72;refine (HR.out _).mono ?_;rintro e w1 ⟨rfl,hb⟩;obtain ⟨n0,n1,n2,n3,n4,n5,n6⟩:=HBX.out _ hb;have HB1:=Lib.hid hb;clear hb))
   go_ret
   exact ⟨rfl,jg (HB.out _) HB1.out⟩
 rw [H0.out hn h4 h6 h7]
 clear H9 H3 H9' H3' H0 hn h4
 have h8:(c.does != 1)=false ∨ ((c.does != 1)=true/\(c.does != 7)=false) ∨ ((c.does != 1)=true/\(c.does != 7)=true/\(c.does != 8)=false):=by
  rw [d1,d7,d8]
  unfold nD at h7
  simp only [Bool.or_eq_true,decide_eq_true_eq] at h7
  rcases h7 with h7|h7|h7<;>simp [h7]
 clear d1 d7 d8 h7
 rcases h5 with h5|⟨h5,h5'⟩<;>rcases h8 with h8|⟨h8,h8'⟩|⟨h8,h8',h8''⟩ <;>
 ·go_enter Tryz.func39,Tryz.ntmps39
  go_wp2_with (first|(go_at_call 71;refine (HN.out _ (by assumption) _).mono ?_;rintro e w' ⟨rfl,rfl⟩)|(go_at_call 72;refine (HR.out _).mono ?_;rintro e w1 ⟨rfl,hb⟩;obtain ⟨n0,n1,n2,n3,n4,n5,n6⟩:=HBX.out _ hb;have HB1:=Lib.hid hb;clear hb))
  go_ret
  exact ⟨rfl,jg (HB.out _) HB1.out⟩
end Go.Proofs.YtfbfeoplldjbpaaGreatDoor.Cm
end
