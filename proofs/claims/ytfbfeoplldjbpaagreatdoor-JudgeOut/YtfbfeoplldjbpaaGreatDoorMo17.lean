/-
  Texts put together (merge.py): ZCmp, DRef, DRefB.
-/
import Derived.Handy
import Derived.Sort.Grow
import Derived.Deep.DeepCutAuto
import Derived.RowKit3
import Derived.Below
import Derived.Test.YtfbfeoplldjbpaaGreatDoorMo16
import Derived.Test.YtfbfeoplldjbpaaGreatDoorMo5
import Derived.Test.YtfbfeoplldjbpaaGreatDoorMo4
set_option linter.unusedSimpArgs false
set_option linter.unusedVariables false
set_option maxHeartbeats 16000000
set_option maxRecDepth 100000
section
namespace Go.Proofs.YtfbfeoplldjbpaaGreatDoor.Fe
open Go.RowKit
open Wo (tV jI jQ qL iU jg)
theorem xJ (x:Tx):(mk x).toList=x:=by rw [Lib.toList_data,xI]
theorem xH (x y:Tx):((mk x).toList == (mk y).toList)=decide (x=y):=by
 rw [xJ,xJ,Bool.eq_iff_iff]
 simp
theorem lC (a b:Int) (w:World):Calls Tryz.prog 146 #[.int .i64 a,.int .i64 b] w fun e w'=>e=.returned (.int .i64 (lg a b))/\w'=w:=by
 by_cases h1:a < b
 ·have e:lg a b=-1:=by unfold lg;rw [if_pos h1]
  rw [e]
  go_enter Tryz.func146,Tryz.ntmps146
  go_wp2
  go_ret
  exact ⟨rfl,rfl⟩
 ·by_cases h2:b < a
  ·have e:lg a b=1:=by unfold lg;rw [if_neg h1,if_pos h2]
   rw [e]
   go_enter Tryz.func146,Tryz.ntmps146
   go_wp2
   go_ret
   exact ⟨rfl,rfl⟩
  ·have e:lg a b=0:=by unfold lg;rw [if_neg h1,if_neg h2]
   rw [e]
   go_enter Tryz.func146,Tryz.ntmps146
   go_wp2
   go_ret
   exact ⟨rfl,rfl⟩
theorem lD (a b:Tx) (w:World):Calls Tryz.prog 145 #[.string (mk a),.string (mk b)] w fun e w'=>e=.returned (.int .i64 (kW a b))/\w'=w:=by
 have HE:=xH a b
 cases h1:Op.bytesLess (mk a).toList (mk b).toList
 ·have l1:uY a b=false:=by rw [xJ,xJ] at h1;exact h1
  by_cases he:a=b
  ·have e:kW a b=0:=by rw [he,kZ]
   have h3:((mk a).toList == (mk b).toList)=true:=by rw [HE];exact decide_eq_true he
   rw [e]
   clear HE he e l1
   go_enter Tryz.func145,Tryz.ntmps145
   go_wp2
   go_ret
   exact ⟨rfl,rfl⟩
  ·have e:kW a b=1:=by rw [kX he,l1];rfl
   have h3:((mk a).toList == (mk b).toList)=false:=by rw [HE];exact decide_eq_false he
   rw [e]
   clear HE he e l1
   go_enter Tryz.func145,Tryz.ntmps145
   go_wp2
   go_ret
   exact ⟨rfl,rfl⟩
 ·have e:kW a b=-1:=by unfold kW uY;rw [xJ,xJ] at h1;rw [h1];rfl
  rw [e]
  clear HE e
  go_enter Tryz.func145,Tryz.ntmps145
  go_wp2
  go_ret
  exact ⟨rfl,rfl⟩
theorem cells4 {w:World} {g:Nat} {a b c d:Value} {T:TypeId} (h:w.heap[g]?=some (.cells #[a,b,c,d] T (0,0))):w.cell? ⟨g,0,none⟩=some a/\w.cell? ⟨g,1,none⟩=some b/\w.cell? ⟨g,2,none⟩=some c/\w.cell? ⟨g,3,none⟩=some d:=by
 refine ⟨?_,?_,?_,?_⟩<;>(rw [cell_of_row w g _ _ T (0,0) h];rfl)
theorem cells5 {w:World} {g:Nat} {a b c d e:Value} {T:TypeId} (h:w.heap[g]?=some (.cells #[a,b,c,d,e] T (0,0))):w.cell? ⟨g,0,none⟩=some a/\w.cell? ⟨g,1,none⟩=some b/\w.cell? ⟨g,2,none⟩=some c/\w.cell? ⟨g,3,none⟩=some d/\w.cell? ⟨g,4,none⟩=some e:=by
 refine ⟨?_,?_,?_,?_,?_⟩<;>(rw [cell_of_row w g _ _ T (0,0) h];rfl)
theorem zB (a b c d:Int) (g:Nat) (w:World) (T:TypeId) (h:w.heap[g]?=some (.cells #[.int .i64 a,.int .i64 b,.int .i64 c,.int .i64 d] T (0,0))) :
  Calls Tryz.prog 77 #[.slice (some ⟨g,0,none⟩) 4 4] w fun e w'=>e=.returned (.int .i64 (orI a (orI b (orI c d))))/\w'=w:=by
 obtain ⟨c0,c1,c2,c3⟩:=cells4 h
 clear h
 by_cases ha:a=0
 ·subst ha
  by_cases hb:b=0
  ·subst hb
   by_cases hc:c=0
   ·subst hc
    have e:orI 0 (orI 0 (orI 0 d))=d:=rfl
    rw [e]
    by_cases hd:d=0
    ·subst hd
     go_enter Tryz.func77,Tryz.ntmps77
     go_wp2
     go_rounds 5
     go_ret
     exact ⟨rfl,rfl⟩
    ·have hd':(d != 0)=true:=by simp [hd]
     go_enter Tryz.func77,Tryz.ntmps77
     go_wp2
     go_rounds 4
     go_ret
     exact ⟨rfl,rfl⟩
   ·have e:orI 0 (orI 0 (orI c d))=c:=by rw [zA,zA,zy _ hc]
    rw [e]
    have hc':(c != 0)=true:=by simp [hc]
    go_enter Tryz.func77,Tryz.ntmps77
    go_wp2
    go_rounds 3
    go_ret
    exact ⟨rfl,rfl⟩
  ·have e:orI 0 (orI b (orI c d))=b:=by rw [zA,zy _ hb]
   rw [e]
   have hb':(b != 0)=true:=by simp [hb]
   go_enter Tryz.func77,Tryz.ntmps77
   go_wp2
   go_rounds 2
   go_ret
   exact ⟨rfl,rfl⟩
 ·have e:orI a (orI b (orI c d))=a:=zy _ ha
  rw [e]
  have ha':(a != 0)=true:=by simp [ha]
  go_enter Tryz.func77,Tryz.ntmps77
  go_wp2
  go_rounds 1
  go_ret
  exact ⟨rfl,rfl⟩
theorem Bh (f:Fee) (w:World):Calls Tryz.prog 108 #[fev f] w fun e w'=>e=.returned (plv f)/\Grew w w':=by
 go_enter Tryz.func108,Tryz.ntmps108
 go_wp2
 refine bodyPost_ret (v:=plv f) (by simp [results,Tryz.results108,go_sem]) rfl ?_
 refine ⟨rfl,?_,Nat.le_refl _⟩
 exact jg (iU _ _) (iU _ _)
theorem zI (a b:Fee) (w:World):Calls Tryz.prog 109 #[plv a,plv b] w fun e w'=>e=.returned (.int .i64 (zC a b))/\Grew w w':=by
 have HG0:Hid (Grew w ((w.alloc (.cells #[.string (mk a.proc),.string (mk a.mod),.int .i64 a.net,.int .i64 a.frm] 152)).alloc (.cells #[.string (mk b.proc),.string (mk b.mod),.int .i64 b.net,.int .i64 b.frm] 152))):=((Grew.refl w).alloc _).alloc _
 have HA0:=Lib.hid (tV (heap_alloc_new w (.cells #[.string (mk a.proc),.string (mk a.mod),.int .i64 a.net,.int .i64 a.frm] 152)) (iU _ (.cells #[.string (mk b.proc),.string (mk b.mod),.int .i64 b.net,.int .i64 b.frm] 152)))
 have hB0:=heap_alloc_new (w.alloc (.cells #[.string (mk a.proc),.string (mk a.mod),.int .i64 a.net,.int .i64 a.frm] 152)) (.cells #[.string (mk b.proc),.string (mk b.mod),.int .i64 b.net,.int .i64 b.frm] 152)
 rw [show (w.alloc (.cells #[.string (mk a.proc),.string (mk a.mod),.int .i64 a.net,.int .i64 a.frm] 152)).heap.size=w.heap.size+1 by simp] at hB0
 have HB0:=Lib.hid hB0
 clear hB0
 go_enter Tryz.func109,Tryz.ntmps109
 go_upto_region 1 with fail
 generalize ((w.alloc (.cells #[.string (mk a.proc),.string (mk a.mod),.int .i64 a.net,.int .i64 a.frm] 152)).alloc (.cells #[.string (mk b.proc),.string (mk b.mod),.int .i64 b.net,.int .i64 b.frm] 152))=W at *
 generalize w.heap.size=p at *
 obtain ⟨q,hq⟩:∃q,q=p+1:=⟨_,rfl⟩
 rw [←hq] at HB0 ⊢
 clear hq
 have HD:Hid (Grew W W.drew):=(Grew.refl W).drew
 have HXA:=Lib.hid fun W' (hW:Grew W W')=>cells4 (tV HA0.out hW.1)
 have HXB:=Lib.hid fun W' (hW:Grew W W')=>cells4 (tV HB0.out hW.1)
 refine Ri.IX (by kernel_rfl) (by kernel_rfl) (by kernel_rfl) (fun Wx=>Grew W Wx) (fun kz vs wz=>(fun kx vx wx=>match kx with|0=>vx=.pointer (some ⟨p,0,none⟩)|1=>vx=.pointer (some ⟨p,0,none⟩)|2=>vx=.string (mk a.proc)|3=>vx=.pointer (some ⟨q,0,none⟩)|4=>vx=.pointer (some ⟨q,0,none⟩)|5=>vx=.string (mk b.proc)|6=>vx=.int .i64 (kW a.proc b.proc)|7=>vx=.pointer (some ⟨p,0,none⟩)|8=>vx=.pointer (some ⟨p,1,none⟩)|9=>vx=.string (mk a.mod)|10=>vx=.pointer (some ⟨q,0,none⟩)|11=>vx=.pointer (some ⟨q,1,none⟩)|12=>vx=.string (mk b.mod)|13=>vx=.int .i64 (kW a.mod b.mod)|14=>vx=.pointer (some ⟨p,0,none⟩)|15=>vx=.pointer (some ⟨p,2,none⟩)|16=>vx=.int .i64 a.net|17=>vx=.pointer (some ⟨q,0,none⟩)|18=>vx=.pointer (some ⟨q,2,none⟩)|19=>vx=.int .i64 b.net|20=>vx=.int .i64 (lg a.net b.net)|21=>vx=.pointer (some ⟨p,3,none⟩)|22=>vx=.int .i64 a.frm|23=>vx=.pointer (some ⟨q,3,none⟩)|24=>vx=.int .i64 b.frm|25=>vx=.int .i64 (lg a.frm b.frm)|26=>(∃g,vx=.slice (some ⟨g,0,none⟩) 4 4/\wx.heap[g]?=some (.cells #[.int .i64 (kW a.proc b.proc),.int .i64 (kW a.mod b.mod),.int .i64 (lg a.net b.net),.int .i64 (lg a.frm b.frm)] 3 (0,0)))|27=>vx=.int .i64 (zC a b)|28=>vx=.int .i64 (zC a b)|_=>True:Nat->Value->World->Prop) kz (vs kz) wz) (fun kz=>[kz]) (by kernel_rfl) (fun jz vs iz vz wz hiz hz=>Ri.wI (F:=(fun kx vx wx=>match kx with|0=>vx=.pointer (some ⟨p,0,none⟩)|1=>vx=.pointer (some ⟨p,0,none⟩)|2=>vx=.string (mk a.proc)|3=>vx=.pointer (some ⟨q,0,none⟩)|4=>vx=.pointer (some ⟨q,0,none⟩)|5=>vx=.string (mk b.proc)|6=>vx=.int .i64 (kW a.proc b.proc)|7=>vx=.pointer (some ⟨p,0,none⟩)|8=>vx=.pointer (some ⟨p,1,none⟩)|9=>vx=.string (mk a.mod)|10=>vx=.pointer (some ⟨q,0,none⟩)|11=>vx=.pointer (some ⟨q,1,none⟩)|12=>vx=.string (mk b.mod)|13=>vx=.int .i64 (kW a.mod b.mod)|14=>vx=.pointer (some ⟨p,0,none⟩)|15=>vx=.pointer (some ⟨p,2,none⟩)|16=>vx=.int .i64 a.net|17=>vx=.pointer (some ⟨q,0,none⟩)|18=>vx=.pointer (some ⟨q,2,none⟩)|19=>vx=.int .i64 b.net|20=>vx=.int .i64 (lg a.net b.net)|21=>vx=.pointer (some ⟨p,3,none⟩)|22=>vx=.int .i64 a.frm|23=>vx=.pointer (some ⟨q,3,none⟩)|24=>vx=.int .i64 b.frm|25=>vx=.int .i64 (lg a.frm b.frm)|26=>(∃g,vx=.slice (some ⟨g,0,none⟩) 4 4/\wx.heap[g]?=some (.cells #[.int .i64 (kW a.proc b.proc),.int .i64 (kW a.mod b.mod),.int .i64 (lg a.net b.net),.int .i64 (lg a.frm b.frm)] 3 (0,0)))|27=>vx=.int .i64 (zC a b)|28=>vx=.int .i64 (zC a b)|_=>True:Nat->Value->World->Prop)) jz vs iz vz wz hiz hz) HD.out ⟨⟨rfl,?_⟩,⟨rfl,?_⟩,⟨rfl,?_⟩,⟨rfl,?_⟩,⟨rfl,?_⟩,⟨rfl,?_⟩,⟨rfl,?_⟩,⟨rfl,?_⟩,⟨rfl,?_⟩,⟨rfl,?_⟩,⟨rfl,?_⟩,⟨rfl,?_⟩,⟨rfl,?_⟩,⟨rfl,?_⟩,⟨rfl,?_⟩,⟨rfl,?_⟩,⟨rfl,?_⟩,⟨rfl,?_⟩,⟨rfl,?_⟩,⟨rfl,?_⟩,⟨rfl,?_⟩,⟨rfl,?_⟩,⟨rfl,?_⟩,⟨rfl,?_⟩,⟨rfl,?_⟩,⟨rfl,?_⟩,⟨rfl,?_⟩,⟨rfl,?_⟩,⟨rfl,?_⟩,trivial⟩ ?_
 ·intro vs Wx A hA hB hpre K hK
  have e2:=(hA 2).trans (show _=Value.pointer (some ⟨p,0,none⟩) by kernel_rfl)
  clear hA hpre
  go_simp
  exact hK _ _ hB rfl (fun _ _ h=>h)
 ·intro vs Wx A hA hB hpre K hK
  have e5:=((hA 5).trans (show _=vs 0 by kernel_rfl)).trans (hpre.1 rfl)
  clear hA hpre
  go_simp
  exact hK _ _ hB rfl (fun _ _ h=>h)
 ·intro vs Wx A hA hB hpre K hK
  have e6:=((hA 6).trans (show _=vs 1 by kernel_rfl)).trans (hpre.1 rfl)
  obtain ⟨x0,x1,x2,x3⟩:=HXA.out Wx hB
  obtain ⟨y0,y1,y2,y3⟩:=HXB.out Wx hB
  clear hA hpre
  go_simp
  exact hK _ _ hB rfl (fun _ _ h=>h)
 ·intro vs Wx A hA hB hpre K hK
  have e3:=(hA 3).trans (show _=Value.pointer (some ⟨q,0,none⟩) by kernel_rfl)
  clear hA hpre
  go_simp
  exact hK _ _ hB rfl (fun _ _ h=>h)
 ·intro vs Wx A hA hB hpre K hK
  have e8:=((hA 8).trans (show _=vs 3 by kernel_rfl)).trans (hpre.1 rfl)
  clear hA hpre
  go_simp
  exact hK _ _ hB rfl (fun _ _ h=>h)
 ·intro vs Wx A hA hB hpre K hK
  have e9:=((hA 9).trans (show _=vs 4 by kernel_rfl)).trans (hpre.1 rfl)
  obtain ⟨x0,x1,x2,x3⟩:=HXA.out Wx hB
  obtain ⟨y0,y1,y2,y3⟩:=HXB.out Wx hB
  clear hA hpre
  go_simp
  exact hK _ _ hB rfl (fun _ _ h=>h)
 ·intro vs Wx A hA hB hpre K hK
  have e7:=((hA 7).trans (show _=vs 2 by kernel_rfl)).trans (hpre.1 rfl)
  have e10:=((hA 10).trans (show _=vs 5 by kernel_rfl)).trans (hpre.2.1 rfl)
  clear hA hpre
  go_simp
  go_at_call 145
  refine (lD _ _ _).mono ?_
  rintro e w3 ⟨rfl,rfl⟩
  exact hK _ _ hB rfl (fun _ _ h=>h)
 ·intro vs Wx A hA hB hpre K hK
  have e2:=(hA 2).trans (show _=Value.pointer (some ⟨p,0,none⟩) by kernel_rfl)
  clear hA hpre
  go_simp
  exact hK _ _ hB rfl (fun _ _ h=>h)
 ·intro vs Wx A hA hB hpre K hK
  have e12:=((hA 12).trans (show _=vs 7 by kernel_rfl)).trans (hpre.1 rfl)
  clear hA hpre
  go_simp
  exact hK _ _ hB rfl (fun _ _ h=>h)
 ·intro vs Wx A hA hB hpre K hK
  have e13:=((hA 13).trans (show _=vs 8 by kernel_rfl)).trans (hpre.1 rfl)
  obtain ⟨x0,x1,x2,x3⟩:=HXA.out Wx hB
  obtain ⟨y0,y1,y2,y3⟩:=HXB.out Wx hB
  clear hA hpre
  go_simp
  exact hK _ _ hB rfl (fun _ _ h=>h)
 ·intro vs Wx A hA hB hpre K hK
  have e3:=(hA 3).trans (show _=Value.pointer (some ⟨q,0,none⟩) by kernel_rfl)
  clear hA hpre
  go_simp
  exact hK _ _ hB rfl (fun _ _ h=>h)
 ·intro vs Wx A hA hB hpre K hK
  have e15:=((hA 15).trans (show _=vs 10 by kernel_rfl)).trans (hpre.1 rfl)
  clear hA hpre
  go_simp
  exact hK _ _ hB rfl (fun _ _ h=>h)
 ·intro vs Wx A hA hB hpre K hK
  have e16:=((hA 16).trans (show _=vs 11 by kernel_rfl)).trans (hpre.1 rfl)
  obtain ⟨x0,x1,x2,x3⟩:=HXA.out Wx hB
  obtain ⟨y0,y1,y2,y3⟩:=HXB.out Wx hB
  clear hA hpre
  go_simp
  exact hK _ _ hB rfl (fun _ _ h=>h)
 ·intro vs Wx A hA hB hpre K hK
  have e14:=((hA 14).trans (show _=vs 9 by kernel_rfl)).trans (hpre.1 rfl)
  have e17:=((hA 17).trans (show _=vs 12 by kernel_rfl)).trans (hpre.2.1 rfl)
  clear hA hpre
  go_simp
  go_at_call 145
  refine (lD _ _ _).mono ?_
  rintro e w3 ⟨rfl,rfl⟩
  exact hK _ _ hB rfl (fun _ _ h=>h)
 ·intro vs Wx A hA hB hpre K hK
  have e2:=(hA 2).trans (show _=Value.pointer (some ⟨p,0,none⟩) by kernel_rfl)
  clear hA hpre
  go_simp
  exact hK _ _ hB rfl (fun _ _ h=>h)
 ·intro vs Wx A hA hB hpre K hK
  have e19:=((hA 19).trans (show _=vs 14 by kernel_rfl)).trans (hpre.1 rfl)
  clear hA hpre
  go_simp
  exact hK _ _ hB rfl (fun _ _ h=>h)
 ·intro vs Wx A hA hB hpre K hK
  have e20:=((hA 20).trans (show _=vs 15 by kernel_rfl)).trans (hpre.1 rfl)
  obtain ⟨x0,x1,x2,x3⟩:=HXA.out Wx hB
  obtain ⟨y0,y1,y2,y3⟩:=HXB.out Wx hB
  clear hA hpre
  go_simp
  exact hK _ _ hB rfl (fun _ _ h=>h)
 ·intro vs Wx A hA hB hpre K hK
  have e3:=(hA 3).trans (show _=Value.pointer (some ⟨q,0,none⟩) by kernel_rfl)
  clear hA hpre
  go_simp
  exact hK _ _ hB rfl (fun _ _ h=>h)
 ·intro vs Wx A hA hB hpre K hK
  have e22:=((hA 22).trans (show _=vs 17 by kernel_rfl)).trans (hpre.1 rfl)
  clear hA hpre
  go_simp
  exact hK _ _ hB rfl (fun _ _ h=>h)
 ·intro vs Wx A hA hB hpre K hK
  have e23:=((hA 23).trans (show _=vs 18 by kernel_rfl)).trans (hpre.1 rfl)
  obtain ⟨x0,x1,x2,x3⟩:=HXA.out Wx hB
  obtain ⟨y0,y1,y2,y3⟩:=HXB.out Wx hB
  clear hA hpre
  go_simp
  exact hK _ _ hB rfl (fun _ _ h=>h)
 ·intro vs Wx A hA hB hpre K hK
  have e21:=((hA 21).trans (show _=vs 16 by kernel_rfl)).trans (hpre.1 rfl)
  have e24:=((hA 24).trans (show _=vs 19 by kernel_rfl)).trans (hpre.2.1 rfl)
  clear hA hpre
  go_simp
  go_at_call 146
  refine (lC _ _ _).mono ?_
  rintro e w3 ⟨rfl,rfl⟩
  exact hK _ _ hB rfl (fun _ _ h=>h)
 ·intro vs Wx A hA hB hpre K hK
  have e2:=(hA 2).trans (show _=Value.pointer (some ⟨p,0,none⟩) by kernel_rfl)
  clear hA hpre
  go_simp
  exact hK _ _ hB rfl (fun _ _ h=>h)
 ·intro vs Wx A hA hB hpre K hK
  have e26:=((hA 26).trans (show _=vs 21 by kernel_rfl)).trans (hpre.1 rfl)
  obtain ⟨x0,x1,x2,x3⟩:=HXA.out Wx hB
  obtain ⟨y0,y1,y2,y3⟩:=HXB.out Wx hB
  clear hA hpre
  go_simp
  exact hK _ _ hB rfl (fun _ _ h=>h)
 ·intro vs Wx A hA hB hpre K hK
  have e3:=(hA 3).trans (show _=Value.pointer (some ⟨q,0,none⟩) by kernel_rfl)
  clear hA hpre
  go_simp
  exact hK _ _ hB rfl (fun _ _ h=>h)
 ·intro vs Wx A hA hB hpre K hK
  have e28:=((hA 28).trans (show _=vs 23 by kernel_rfl)).trans (hpre.1 rfl)
  obtain ⟨x0,x1,x2,x3⟩:=HXA.out Wx hB
  obtain ⟨y0,y1,y2,y3⟩:=HXB.out Wx hB
  clear hA hpre
  go_simp
  exact hK _ _ hB rfl (fun _ _ h=>h)
 ·intro vs Wx A hA hB hpre K hK
  have e27:=((hA 27).trans (show _=vs 22 by kernel_rfl)).trans (hpre.1 rfl)
  have e29:=((hA 29).trans (show _=vs 24 by kernel_rfl)).trans (hpre.2.1 rfl)
  clear hA hpre
  go_simp
  go_at_call 146
  refine (lC _ _ _).mono ?_
  rintro e w3 ⟨rfl,rfl⟩
  exact hK _ _ hB rfl (fun _ _ h=>h)
 ·intro vs Wx A hA hB hpre K hK
  have e11:=((hA 11).trans (show _=vs 6 by kernel_rfl)).trans (hpre.1 rfl)
  have e18:=((hA 18).trans (show _=vs 13 by kernel_rfl)).trans (hpre.2.1 rfl)
  have e25:=((hA 25).trans (show _=vs 20 by kernel_rfl)).trans (hpre.2.2.1 rfl)
  have e30:=((hA 30).trans (show _=vs 25 by kernel_rfl)).trans (hpre.2.2.2.1 rfl)
  clear hA hpre
  go_simp
  refine hK _ _ (hB.alloc _) ⟨_,rfl,heap_alloc_new Wx _⟩ (fun jz hj hz=>?_)
  match jz,hj,hz with
  | 0,_,hz=>exact hz
  | 1,_,hz=>exact hz
  | 2,_,hz=>exact hz
  | 3,_,hz=>exact hz
  | 4,_,hz=>exact hz
  | 5,_,hz=>exact hz
  | 6,_,hz=>exact hz
  | 7,_,hz=>exact hz
  | 8,_,hz=>exact hz
  | 9,_,hz=>exact hz
  | 10,_,hz=>exact hz
  | 11,_,hz=>exact hz
  | 12,_,hz=>exact hz
  | 13,_,hz=>exact hz
  | 14,_,hz=>exact hz
  | 15,_,hz=>exact hz
  | 16,_,hz=>exact hz
  | 17,_,hz=>exact hz
  | 18,_,hz=>exact hz
  | 19,_,hz=>exact hz
  | 20,_,hz=>exact hz
  | 21,_,hz=>exact hz
  | 22,_,hz=>exact hz
  | 23,_,hz=>exact hz
  | 24,_,hz=>exact hz
  | 25,_,hz=>exact hz
  | 26,hj,_=>exact absurd rfl hj
  | 27,_,hz=>exact hz
  | 28,_,hz=>exact hz
  | n+29,_,hz=>exact hz
 ·intro vs Wx A hA hB hpre K hK
  have hx26:(∃g,vs 26=.slice (some ⟨g,0,none⟩) 4 4/\Wx.heap[g]?=some (.cells #[.int .i64 (kW a.proc b.proc),.int .i64 (kW a.mod b.mod),.int .i64 (lg a.net b.net),.int .i64 (lg a.frm b.frm)] 3 (0,0))):=hpre.1 rfl
  obtain ⟨gx26,hv26,hh26⟩:=hx26
  have e31:=((hA 31).trans (show _=vs 26 by kernel_rfl)).trans hv26
  clear hA hpre
  go_simp
  go_at_call 77
  refine (zB _ _ _ _ _ _ _ hh26).mono ?_
  rintro e w3 ⟨rfl,rfl⟩
  exact hK _ _ hB rfl (fun _ _ h=>h)
 ·intro vs Wx A hA hB hpre K hK
  have e32:=((hA 32).trans (show _=vs 27 by kernel_rfl)).trans (hpre.1 rfl)
  clear hA hpre
  go_simp
  exact hK _ _ hB rfl (fun _ _ h=>h)
 ·intro vs Wx hB hF
  have hL:vs 28=.int .i64 (zC a b):=hF 28 (by decide)
  have HBW:=Lib.hid (HG0.out.trans hB)
  clear hF hB
  simp only [Ri.puts]
  go_simp
  go_wp2_with fail
  go_ret
  exact ⟨by first|rfl|(rw [hL])|simp [hL],HBW.out⟩
theorem uK (a b:Fee) (w:World):Calls Tryz.prog 154 #[fev a,plv b] w fun e w'=>e=.returned (.int .i64 (zC a b))/\Grew w w':=by
 have HG0:Hid (Grew w ((w.alloc (.cells #[.string (mk a.proc),.string (mk a.mod),.int .i64 a.net,.int .i64 a.frm,.int .i64 a.cents] 54)).alloc (.cells #[.string (mk b.proc),.string (mk b.mod),.int .i64 b.net,.int .i64 b.frm] 152))):=((Grew.refl w).alloc _).alloc _
 have HA0:=Lib.hid (tV (heap_alloc_new w (.cells #[.string (mk a.proc),.string (mk a.mod),.int .i64 a.net,.int .i64 a.frm,.int .i64 a.cents] 54)) (iU _ (.cells #[.string (mk b.proc),.string (mk b.mod),.int .i64 b.net,.int .i64 b.frm] 152)))
 have hB0:=heap_alloc_new (w.alloc (.cells #[.string (mk a.proc),.string (mk a.mod),.int .i64 a.net,.int .i64 a.frm,.int .i64 a.cents] 54)) (.cells #[.string (mk b.proc),.string (mk b.mod),.int .i64 b.net,.int .i64 b.frm] 152)
 rw [show (w.alloc (.cells #[.string (mk a.proc),.string (mk a.mod),.int .i64 a.net,.int .i64 a.frm,.int .i64 a.cents] 54)).heap.size=w.heap.size+1 by simp] at hB0
 have HB0:=Lib.hid hB0
 clear hB0
 go_enter Tryz.func154,Tryz.ntmps154
 go_upto_region 1 with fail
 generalize ((w.alloc (.cells #[.string (mk a.proc),.string (mk a.mod),.int .i64 a.net,.int .i64 a.frm,.int .i64 a.cents] 54)).alloc (.cells #[.string (mk b.proc),.string (mk b.mod),.int .i64 b.net,.int .i64 b.frm] 152))=W at *
 generalize w.heap.size=p at *
 obtain ⟨q,hq⟩:∃q,q=p+1:=⟨_,rfl⟩
 rw [←hq] at HB0 ⊢
 clear hq
 have HD:Hid (Grew W W.drew):=(Grew.refl W).drew
 have HXA:=Lib.hid fun W' (hW:Grew W W')=>cells5 (tV HA0.out hW.1)
 have HXB:=Lib.hid fun W' (hW:Grew W W')=>cells4 (tV HB0.out hW.1)
 refine Ri.IX (by kernel_rfl) (by kernel_rfl) (by kernel_rfl) (fun Wx=>Grew W Wx) (fun kz vs wz=>(fun kx vx wx=>match kx with|0=>vx=fev a|1=>vx=plv a|2=>vx=plv b|3=>vx=.int .i64 (zC a b)|4=>vx=.int .i64 (zC a b)|_=>True:Nat->Value->World->Prop) kz (vs kz) wz) (fun kz=>[kz]) (by kernel_rfl) (fun jz vs iz vz wz hiz hz=>Ri.wI (F:=(fun kx vx wx=>match kx with|0=>vx=fev a|1=>vx=plv a|2=>vx=plv b|3=>vx=.int .i64 (zC a b)|4=>vx=.int .i64 (zC a b)|_=>True:Nat->Value->World->Prop)) jz vs iz vz wz hiz hz) HD.out ⟨⟨rfl,?_⟩,⟨rfl,?_⟩,⟨rfl,?_⟩,⟨rfl,?_⟩,⟨rfl,?_⟩,trivial⟩ ?_
 ·intro vs Wx A hA hB hpre K hK
  have e2:=(hA 2).trans (show _=Value.pointer (some ⟨p,0,none⟩) by kernel_rfl)
  obtain ⟨x0,x1,x2,x3,x4⟩:=HXA.out Wx hB
  obtain ⟨y0,y1,y2,y3⟩:=HXB.out Wx hB
  clear hA hpre
  go_simp
  exact hK _ _ hB rfl (fun _ _ h=>h)
 ·intro vs Wx A hA hB hpre K hK
  have e5:=((hA 5).trans (show _=vs 0 by kernel_rfl)).trans (hpre.1 rfl)
  clear hA hpre
  go_simp
  go_at_call 108
  refine (Bh _ _).mono ?_
  rintro e w3 ⟨rfl,hg⟩
  exact hK _ _ (hB.trans hg) rfl (fun _ _ h=>h)
 ·intro vs Wx A hA hB hpre K hK
  have e3:=(hA 3).trans (show _=Value.pointer (some ⟨q,0,none⟩) by kernel_rfl)
  obtain ⟨x0,x1,x2,x3,x4⟩:=HXA.out Wx hB
  obtain ⟨y0,y1,y2,y3⟩:=HXB.out Wx hB
  clear hA hpre
  go_simp
  exact hK _ _ hB rfl (fun _ _ h=>h)
 ·intro vs Wx A hA hB hpre K hK
  have e6:=((hA 6).trans (show _=vs 1 by kernel_rfl)).trans (hpre.1 rfl)
  have e7:=((hA 7).trans (show _=vs 2 by kernel_rfl)).trans (hpre.2.1 rfl)
  clear hA hpre
  go_simp
  go_at_call 109
  refine (zI a b _).mono ?_
  rintro e w3 ⟨rfl,hg⟩
  exact hK _ _ (hB.trans hg) rfl (fun _ _ h=>h)
 ·intro vs Wx A hA hB hpre K hK
  have e8:=((hA 8).trans (show _=vs 3 by kernel_rfl)).trans (hpre.1 rfl)
  clear hA hpre
  go_simp
  exact hK _ _ hB rfl (fun _ _ h=>h)
 ·intro vs Wx hB hF
  have hL:vs 4=.int .i64 (zC a b):=hF 4 (by decide)
  have HBW:=Lib.hid (HG0.out.trans hB)
  clear hF hB
  simp only [Ri.puts]
  go_simp
  go_wp2_with fail
  go_ret
  exact ⟨by first|rfl|(rw [hL])|simp [hL],HBW.out⟩
end Go.Proofs.YtfbfeoplldjbpaaGreatDoor.Fe
end
section
namespace Go.Proofs.YtfbfeoplldjbpaaGreatDoor.Da
open Go.RowKit
end Go.Proofs.YtfbfeoplldjbpaaGreatDoor.Da
end
section
namespace Go.Proofs.YtfbfeoplldjbpaaGreatDoor.Da
open Go.RowKit
end Go.Proofs.YtfbfeoplldjbpaaGreatDoor.Da
end
