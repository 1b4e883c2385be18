/-
  Texts put together (merge.py): ZCmp, DRef, DRefB.
-/
import Derived.Test.YtfbfeoplldjbpaaGreatDoorMd15
set_option linter.unusedSimpArgs false
set_option linter.unusedVariables false
set_option maxHeartbeats 16000000
set_option maxRecDepth 100000
namespace Go.Proofs.YtfbfeoplldjbpaaGreatDoor
namespace Fe
open Go.RowKit
open Wo (tV jI jQ qL iU jg)
theorem xJ (x:Tx):(mk x).toList=x:=by rw [Lib.toList_data,xI]
theorem xH (x y:Tx):((mk x).toList == (mk y).toList)=decide (x=y):=by
 rw [xJ,xJ,Bool.eq_iff_iff];simp
theorem lC (a b:Int) (w:World):Calls Tryz.prog 146 #[iI a,iI b] w fun e w'=>e=.returned (iI (lg a b))/\w'=w:=by
 by_cases h1:a < b
 ·have e:lg a b=-1:=by unfold lg;rw [if_pos h1]
  rw [e];go_enter Tryz.func146,Tryz.ntmps146
  go_wp2;go_ret;exact ⟨rfl,rfl⟩
 ·by_cases h2:b < a
  ·have e:lg a b=1:=by unfold lg;rw [if_neg h1,if_pos h2]
   rw [e];go_enter Tryz.func146,Tryz.ntmps146
   go_wp2;go_ret;exact ⟨rfl,rfl⟩
  ·have e:lg a b=0:=by unfold lg;rw [if_neg h1,if_neg h2]
   rw [e];go_enter Tryz.func146,Tryz.ntmps146
   go_wp2;go_ret;exact ⟨rfl,rfl⟩
theorem lD (a b:Tx) (w:World):Calls Tryz.prog 145 #[.string (mk a),.string (mk b)] w fun e w'=>e=.returned (iI (kW a b))/\w'=w:=by
 have HE:=xH a b;cases h1:Op.bytesLess (mk a).toList (mk b).toList
 ·have l1:uY a b=false:=by rw [xJ,xJ] at h1;exact h1
  by_cases he:a=b
  ·have e:kW a b=0:=by rw [he,kZ]
   have h3:((mk a).toList == (mk b).toList)=true:=by rw [HE];exact decide_eq_true he
   rw [e];clear HE he e l1;go_enter Tryz.func145,Tryz.ntmps145
   go_wp2;go_ret;exact ⟨rfl,rfl⟩
  ·have e:kW a b=1:=by rw [kX he,l1];rfl
   have h3:((mk a).toList == (mk b).toList)=false:=by rw [HE];exact decide_eq_false he
   rw [e];clear HE he e l1;go_enter Tryz.func145,Tryz.ntmps145
   go_wp2;go_ret;exact ⟨rfl,rfl⟩
 ·have e:kW a b=-1:=by unfold kW uY;rw [xJ,xJ] at h1;rw [h1];rfl
  rw [e];clear HE e;go_enter Tryz.func145,Tryz.ntmps145
  go_wp2;go_ret;exact ⟨rfl,rfl⟩
theorem bB {w:World} {g:Nat} {a b c d:Value} {T:TypeId} (h:w.heap[g]?=some (.cells #[a,b,c,d] T (0,0))):w.cell? ⟨g,0,none⟩=some a/\w.cell? ⟨g,1,none⟩=some b/\w.cell? ⟨g,2,none⟩=some c/\w.cell? ⟨g,3,none⟩=some d:=by
 refine ⟨?_,?_,?_,?_⟩<;>(rw [cell_of_row w g _ _ T (0,0) h];rfl)
theorem cells5 {w:World} {g:Nat} {a b c d e:Value} {T:TypeId} (h:w.heap[g]?=some (.cells #[a,b,c,d,e] T (0,0))):w.cell? ⟨g,0,none⟩=some a/\w.cell? ⟨g,1,none⟩=some b/\w.cell? ⟨g,2,none⟩=some c/\w.cell? ⟨g,3,none⟩=some d/\w.cell? ⟨g,4,none⟩=some e:=by
 refine ⟨?_,?_,?_,?_,?_⟩<;>(rw [cell_of_row w g _ _ T (0,0) h];rfl)
theorem zB (a b c d:Int) (g:Nat) (w:World) (T:TypeId) (h:w.heap[g]?=some (.cells #[iI a,iI b,iI c,iI d] T (0,0))) :
  Calls Tryz.prog 77 #[.slice (some ⟨g,0,none⟩) 4 4] w fun e w'=>e=.returned (iI (orI a (orI b (orI c d))))/\w'=w:=by
 obtain ⟨c0,c1,c2,c3⟩:=bB h;clear h;by_cases ha:a=0
 ·subst ha;by_cases hb:b=0
  ·subst hb;by_cases hc:c=0
   ·subst hc;have e:orI 0 (orI 0 (orI 0 d))=d:=rfl;rw [e];by_cases hd:d=0
    ·subst hd;go_enter Tryz.func77,Tryz.ntmps77
     go_wp2;go_rounds 5
     go_ret;exact ⟨rfl,rfl⟩
    ·have hd':(d != 0)=true:=by simp [hd]
     go_enter Tryz.func77,Tryz.ntmps77
     go_wp2;go_rounds 4
     go_ret;exact ⟨rfl,rfl⟩
   ·have e:orI 0 (orI 0 (orI c d))=c:=by rw [zA,zA,zy _ hc]
    rw [e];have hc':(c != 0)=true:=by simp [hc]
    go_enter Tryz.func77,Tryz.ntmps77
    go_wp2;go_rounds 3
    go_ret;exact ⟨rfl,rfl⟩
  ·have e:orI 0 (orI b (orI c d))=b:=by rw [zA,zy _ hb]
   rw [e];have hb':(b != 0)=true:=by simp [hb]
   go_enter Tryz.func77,Tryz.ntmps77
   go_wp2;go_rounds 2
   go_ret;exact ⟨rfl,rfl⟩
 ·have e:orI a (orI b (orI c d))=a:=zy _ ha;rw [e];have ha':(a != 0)=true:=by simp [ha]
  go_enter Tryz.func77,Tryz.ntmps77
  go_wp2;go_rounds 1
  go_ret;exact ⟨rfl,rfl⟩
theorem Bh (f:Cr) (w:World):Calls Tryz.prog 108 #[fev f] w fun e w'=>e=.returned (plv f)/\av w w':=by
 go_enter Tryz.func108,Tryz.ntmps108
 go_wp2;refine bodyPost_ret (v:=plv f) (by simp [results,Tryz.results108,go_sem]) rfl ?_;refine ⟨rfl,?_,Nat.le_refl _⟩;exact jg (iU _ _) (iU _ _)
theorem zI (a b:Cr) (w:World):Calls Tryz.prog 109 #[plv a,plv b] w fun e w'=>e=.returned (iI (zC a b))/\av w w':=by
 have HG0:Hid (av w ((w.alloc (.cells #[.string (mk a.proc),.string (mk a.mod),iI a.net,iI a.Ch] 152)).alloc (.cells #[.string (mk b.proc),.string (mk b.mod),iI b.net,iI b.Ch] 152))):=((av.refl w).alloc _).alloc _;have HA0:=zZ (tV (heap_alloc_new w (.cells #[.string (mk a.proc),.string (mk a.mod),iI a.net,iI a.Ch] 152)) (iU _ (.cells #[.string (mk b.proc),.string (mk b.mod),iI b.net,iI b.Ch] 152)));have hB0:=heap_alloc_new (w.alloc (.cells #[.string (mk a.proc),.string (mk a.mod),iI a.net,iI a.Ch] 152)) (.cells #[.string (mk b.proc),.string (mk b.mod),iI b.net,iI b.Ch] 152);rw [show (w.alloc (.cells #[.string (mk a.proc),.string (mk a.mod),iI a.net,iI a.Ch] 152)).heap.size=w.heap.size+1 by simp] at hB0;have HB0:=zZ hB0;clear hB0;go_enter Tryz.func109,Tryz.ntmps109
 go_upto_region 1 with fail
 generalize ((w.alloc (.cells #[.string (mk a.proc),.string (mk a.mod),iI a.net,iI a.Ch] 152)).alloc (.cells #[.string (mk b.proc),.string (mk b.mod),iI b.net,iI b.Ch] 152))=W at *;generalize w.heap.size=p at *;obtain ⟨q,hq⟩:∃q,q=p+1:=⟨_,rfl⟩;rw [←hq] at HB0 ⊢;clear hq;have HD:Hid (av W W.drew):=(av.refl W).drew;have HXA:=zZ fun W' (hW:av W W')=>bB (tV HA0.out hW.1);have HXB:=zZ fun W' (hW:av W W')=>bB (tV HB0.out hW.1);refine Ri.IX (by kernel_rfl) (by kernel_rfl) (by kernel_rfl) (fun Wx=>av W Wx) (fun kz vs wz=>(fun kx vx wx=>match kx with|0=>vx=pP p 0|1=>vx=pP p 0|2=>vx=.string (mk a.proc)|3=>vx=pP q 0|4=>vx=pP q 0|5=>vx=.string (mk b.proc)|6=>vx=iI (kW a.proc b.proc)|7=>vx=pP p 0|8=>vx=pP p 1|9=>vx=.string (mk a.mod)|10=>vx=pP q 0|11=>vx=pP q 1|12=>vx=.string (mk b.mod)|13=>vx=iI (kW a.mod b.mod)|14=>vx=pP p 0|15=>vx=pP p 2|16=>vx=iI a.net|17=>vx=pP q 0|18=>vx=pP q 2|19=>vx=iI b.net|20=>vx=iI (lg a.net b.net)|21=>vx=pP p 3|22=>vx=iI a.Ch|23=>vx=pP q 3|24=>vx=iI b.Ch|25=>vx=iI (lg a.Ch b.Ch)|26=>(∃g,vx=.slice (some ⟨g,0,none⟩) 4 4/\wx.heap[g]?=some (.cells #[iI (kW a.proc b.proc),iI (kW a.mod b.mod),iI (lg a.net b.net),iI (lg a.Ch b.Ch)] 3 (0,0)))|27=>vx=iI (zC a b)|28=>vx=iI (zC a b)|_=>True:Nat->Value->World->Prop) kz (vs kz) wz) (fun kz=>[kz]) (by kernel_rfl) (fun jz vs iz vz wz hiz hz=>Ri.wI (F:=(fun kx vx wx=>match kx with|0=>vx=pP p 0|1=>vx=pP p 0|2=>vx=.string (mk a.proc)|3=>vx=pP q 0|4=>vx=pP q 0|5=>vx=.string (mk b.proc)|6=>vx=iI (kW a.proc b.proc)|7=>vx=pP p 0|8=>vx=pP p 1|9=>vx=.string (mk a.mod)|10=>vx=pP q 0|11=>vx=pP q 1|12=>vx=.string (mk b.mod)|13=>vx=iI (kW a.mod b.mod)|14=>vx=pP p 0|15=>vx=pP p 2|16=>vx=iI a.net|17=>vx=pP q 0|18=>vx=pP q 2|19=>vx=iI b.net|20=>vx=iI (lg a.net b.net)|21=>vx=pP p 3|22=>vx=iI a.Ch|23=>vx=pP q 3|24=>vx=iI b.Ch|25=>vx=iI (lg a.Ch b.Ch)|26=>(∃g,vx=.slice (some ⟨g,0,none⟩) 4 4/\wx.heap[g]?=some (.cells #[iI (kW a.proc b.proc),iI (kW a.mod b.mod),iI (lg a.net b.net),iI (lg a.Ch b.Ch)] 3 (0,0)))|27=>vx=iI (zC a b)|28=>vx=iI (zC a b)|_=>True:Nat->Value->World->Prop)) jz vs iz vz wz hiz hz) HD.out ⟨⟨rfl,?_⟩,⟨rfl,?_⟩,⟨rfl,?_⟩,⟨rfl,?_⟩,⟨rfl,?_⟩,⟨rfl,?_⟩,⟨rfl,?_⟩,⟨rfl,?_⟩,⟨rfl,?_⟩,⟨rfl,?_⟩,⟨rfl,?_⟩,⟨rfl,?_⟩,⟨rfl,?_⟩,⟨rfl,?_⟩,⟨rfl,?_⟩,⟨rfl,?_⟩,⟨rfl,?_⟩,⟨rfl,?_⟩,⟨rfl,?_⟩,⟨rfl,?_⟩,⟨rfl,?_⟩,⟨rfl,?_⟩,⟨rfl,?_⟩,⟨rfl,?_⟩,⟨rfl,?_⟩,⟨rfl,?_⟩,⟨rfl,?_⟩,⟨rfl,?_⟩,⟨rfl,?_⟩,trivial⟩ ?_
 ·intro vs Wx A hA hB hpre K hK;have e2:=(hA 2).trans (show _=pP p 0 by kernel_rfl);clear hA hpre;go_simp;exact hK _ _ hB rfl (fun _ _ h=>h)
 ·intro vs Wx A hA hB hpre K hK;have e5:=tT (hA 5) (by kernel_rfl) (hpre.1 rfl);clear hA hpre;go_simp;exact hK _ _ hB rfl (fun _ _ h=>h)
 ·intro vs Wx A hA hB hpre K hK;have e6:=tT (hA 6) (by kernel_rfl) (hpre.1 rfl);obtain ⟨x0,x1,x2,x3⟩:=HXA.out Wx hB;obtain ⟨y0,y1,y2,y3⟩:=HXB.out Wx hB;clear hA hpre;go_simp;exact hK _ _ hB rfl (fun _ _ h=>h)
 ·intro vs Wx A hA hB hpre K hK;have e3:=(hA 3).trans (show _=pP q 0 by kernel_rfl);clear hA hpre;go_simp;exact hK _ _ hB rfl (fun _ _ h=>h)
 ·intro vs Wx A hA hB hpre K hK;have e8:=tT (hA 8) (by kernel_rfl) (hpre.1 rfl);clear hA hpre;go_simp;exact hK _ _ hB rfl (fun _ _ h=>h)
 ·intro vs Wx A hA hB hpre K hK;have e9:=tT (hA 9) (by kernel_rfl) (hpre.1 rfl);obtain ⟨x0,x1,x2,x3⟩:=HXA.out Wx hB;obtain ⟨y0,y1,y2,y3⟩:=HXB.out Wx hB;clear hA hpre;go_simp;exact hK _ _ hB rfl (fun _ _ h=>h)
 ·intro vs Wx A hA hB hpre K hK;have e7:=tT (hA 7) (by kernel_rfl) (hpre.1 rfl);have e10:=tT (hA 10) (by kernel_rfl) (hpre.2.1 rfl);clear hA hpre;go_simp;go_at_call 145
  refine (lD _ _ _).mono ?_;rintro e w3 ⟨rfl,rfl⟩;exact hK _ _ hB rfl (fun _ _ h=>h)
 ·intro vs Wx A hA hB hpre K hK;have e2:=(hA 2).trans (show _=pP p 0 by kernel_rfl);clear hA hpre;go_simp;exact hK _ _ hB rfl (fun _ _ h=>h)
 ·intro vs Wx A hA hB hpre K hK;have e12:=tT (hA 12) (by kernel_rfl) (hpre.1 rfl);clear hA hpre;go_simp;exact hK _ _ hB rfl (fun _ _ h=>h)
 ·intro vs Wx A hA hB hpre K hK;have e13:=tT (hA 13) (by kernel_rfl) (hpre.1 rfl);obtain ⟨x0,x1,x2,x3⟩:=HXA.out Wx hB;obtain ⟨y0,y1,y2,y3⟩:=HXB.out Wx hB;clear hA hpre;go_simp;exact hK _ _ hB rfl (fun _ _ h=>h)
 ·intro vs Wx A hA hB hpre K hK;have e3:=(hA 3).trans (show _=pP q 0 by kernel_rfl);clear hA hpre;go_simp;exact hK _ _ hB rfl (fun _ _ h=>h)
 ·intro vs Wx A hA hB hpre K hK;have e15:=tT (hA 15) (by kernel_rfl) (hpre.1 rfl);clear hA hpre;go_simp;exact hK _ _ hB rfl (fun _ _ h=>h)
 ·intro vs Wx A hA hB hpre K hK;have e16:=tT (hA 16) (by kernel_rfl) (hpre.1 rfl);obtain ⟨x0,x1,x2,x3⟩:=HXA.out Wx hB;obtain ⟨y0,y1,y2,y3⟩:=HXB.out Wx hB;clear hA hpre;go_simp;exact hK _ _ hB rfl (fun _ _ h=>h)
 ·intro vs Wx A hA hB hpre K hK;have e14:=tT (hA 14) (by kernel_rfl) (hpre.1 rfl);have e17:=tT (hA 17) (by kernel_rfl) (hpre.2.1 rfl);clear hA hpre;go_simp;go_at_call 145
  refine (lD _ _ _).mono ?_;rintro e w3 ⟨rfl,rfl⟩;exact hK _ _ hB rfl (fun _ _ h=>h)
 ·intro vs Wx A hA hB hpre K hK;have e2:=(hA 2).trans (show _=pP p 0 by kernel_rfl);clear hA hpre;go_simp;exact hK _ _ hB rfl (fun _ _ h=>h)
 ·intro vs Wx A hA hB hpre K hK;have e19:=tT (hA 19) (by kernel_rfl) (hpre.1 rfl);clear hA hpre;go_simp;exact hK _ _ hB rfl (fun _ _ h=>h)
 ·intro vs Wx A hA hB hpre K hK;have e20:=tT (hA 20) (by kernel_rfl) (hpre.1 rfl);obtain ⟨x0,x1,x2,x3⟩:=HXA.out Wx hB;obtain ⟨y0,y1,y2,y3⟩:=HXB.out Wx hB;clear hA hpre;go_simp;exact hK _ _ hB rfl (fun _ _ h=>h)
 ·intro vs Wx A hA hB hpre K hK;have e3:=(hA 3).trans (show _=pP q 0 by kernel_rfl);clear hA hpre;go_simp;exact hK _ _ hB rfl (fun _ _ h=>h)
 ·intro vs Wx A hA hB hpre K hK;have e22:=tT (hA 22) (by kernel_rfl) (hpre.1 rfl);clear hA hpre;go_simp;exact hK _ _ hB rfl (fun _ _ h=>h)
 ·intro vs Wx A hA hB hpre K hK;have e23:=tT (hA 23) (by kernel_rfl) (hpre.1 rfl);obtain ⟨x0,x1,x2,x3⟩:=HXA.out Wx hB;obtain ⟨y0,y1,y2,y3⟩:=HXB.out Wx hB;clear hA hpre;go_simp;exact hK _ _ hB rfl (fun _ _ h=>h)
 ·intro vs Wx A hA hB hpre K hK;have e21:=tT (hA 21) (by kernel_rfl) (hpre.1 rfl);have e24:=tT (hA 24) (by kernel_rfl) (hpre.2.1 rfl);clear hA hpre;go_simp;go_at_call 146
  refine (lC _ _ _).mono ?_;rintro e w3 ⟨rfl,rfl⟩;exact hK _ _ hB rfl (fun _ _ h=>h)
 ·intro vs Wx A hA hB hpre K hK;have e2:=(hA 2).trans (show _=pP p 0 by kernel_rfl);clear hA hpre;go_simp;exact hK _ _ hB rfl (fun _ _ h=>h)
 ·intro vs Wx A hA hB hpre K hK;have e26:=tT (hA 26) (by kernel_rfl) (hpre.1 rfl);obtain ⟨x0,x1,x2,x3⟩:=HXA.out Wx hB;obtain ⟨y0,y1,y2,y3⟩:=HXB.out Wx hB;clear hA hpre;go_simp;exact hK _ _ hB rfl (fun _ _ h=>h)
 ·intro vs Wx A hA hB hpre K hK;have e3:=(hA 3).trans (show _=pP q 0 by kernel_rfl);clear hA hpre;go_simp;exact hK _ _ hB rfl (fun _ _ h=>h)
 ·intro vs Wx A hA hB hpre K hK;have e28:=tT (hA 28) (by kernel_rfl) (hpre.1 rfl);obtain ⟨x0,x1,x2,x3⟩:=HXA.out Wx hB;obtain ⟨y0,y1,y2,y3⟩:=HXB.out Wx hB;clear hA hpre;go_simp;exact hK _ _ hB rfl (fun _ _ h=>h)
 ·intro vs Wx A hA hB hpre K hK;have e27:=tT (hA 27) (by kernel_rfl) (hpre.1 rfl);have e29:=tT (hA 29) (by kernel_rfl) (hpre.2.1 rfl);clear hA hpre;go_simp;go_at_call 146
  refine (lC _ _ _).mono ?_;rintro e w3 ⟨rfl,rfl⟩;exact hK _ _ hB rfl (fun _ _ h=>h)
 ·intro vs Wx A hA hB hpre K hK;have e11:=tT (hA 11) (by kernel_rfl) (hpre.1 rfl);have e18:=tT (hA 18) (by kernel_rfl) (hpre.2.1 rfl);have e25:=tT (hA 25) (by kernel_rfl) (hpre.2.2.1 rfl);have e30:=tT (hA 30) (by kernel_rfl) (hpre.2.2.2.1 rfl);clear hA hpre;go_simp;refine hK _ _ (hB.alloc _) ⟨_,rfl,heap_alloc_new Wx _⟩ (fun jz hj hz=>?_);match jz,hj,hz with
  | 0,_,hz=>exact hz
  | 1,_,hz=>exact hz
  | 2,_,hz=>exact hz
  | 3,_,hz=>exact hz
  | 4,_,hz=>exact hz
  | 5,_,hz=>exact hz
  | 6,_,hz=>exact hz
  | 7,_,hz=>exact hz
  | 8,_,hz=>exact hz
  | 9,_,hz=>exact hz
  | 10,_,hz=>exact hz
  | 11,_,hz=>exact hz
  | 12,_,hz=>exact hz
  | 13,_,hz=>exact hz
  | 14,_,hz=>exact hz
  | 15,_,hz=>exact hz
  | 16,_,hz=>exact hz
  | 17,_,hz=>exact hz
  | 18,_,hz=>exact hz
  | 19,_,hz=>exact hz
  | 20,_,hz=>exact hz
  | 21,_,hz=>exact hz
  | 22,_,hz=>exact hz
  | 23,_,hz=>exact hz
  | 24,_,hz=>exact hz
  | 25,_,hz=>exact hz
  | 26,hj,_=>exact absurd rfl hj
  | 27,_,hz=>exact hz
  | 28,_,hz=>exact hz
  | n+29,_,hz=>exact hz
 ·intro vs Wx A hA hB hpre K hK;have hx26:(∃g,vs 26=.slice (some ⟨g,0,none⟩) 4 4/\Wx.heap[g]?=some (.cells #[iI (kW a.proc b.proc),iI (kW a.mod b.mod),iI (lg a.net b.net),iI (lg a.Ch b.Ch)] 3 (0,0))):=hpre.1 rfl;obtain ⟨gx26,hv26,hh26⟩:=hx26;have e31:=((hA 31).trans (show _=vs 26 by kernel_rfl)).trans hv26;clear hA hpre;go_simp;go_at_call 77
  refine (zB _ _ _ _ _ _ _ hh26).mono ?_;rintro e w3 ⟨rfl,rfl⟩;exact hK _ _ hB rfl (fun _ _ h=>h)
 ·intro vs Wx A hA hB hpre K hK;have e32:=tT (hA 32) (by kernel_rfl) (hpre.1 rfl);clear hA hpre;go_simp;exact hK _ _ hB rfl (fun _ _ h=>h)
 ·intro vs Wx hB hF;have hL:vs 28=iI (zC a b):=hF 28 (by decide);have Cn:=zZ (HG0.out.trans hB);clear hF hB;simp only [Ri.puts];go_simp;go_wp2_with fail
  go_ret;exact ⟨by first|rfl|(rw [hL])|simp [hL],Cn.out⟩
theorem uK (a b:Cr) (w:World):Calls Tryz.prog 154 #[fev a,plv b] w fun e w'=>e=.returned (iI (zC a b))/\av w w':=by
 have HG0:Hid (av w ((w.alloc (.cells #[.string (mk a.proc),.string (mk a.mod),iI a.net,iI a.Ch,iI a.Ck] 54)).alloc (.cells #[.string (mk b.proc),.string (mk b.mod),iI b.net,iI b.Ch] 152))):=((av.refl w).alloc _).alloc _;have HA0:=zZ (tV (heap_alloc_new w (.cells #[.string (mk a.proc),.string (mk a.mod),iI a.net,iI a.Ch,iI a.Ck] 54)) (iU _ (.cells #[.string (mk b.proc),.string (mk b.mod),iI b.net,iI b.Ch] 152)));have hB0:=heap_alloc_new (w.alloc (.cells #[.string (mk a.proc),.string (mk a.mod),iI a.net,iI a.Ch,iI a.Ck] 54)) (.cells #[.string (mk b.proc),.string (mk b.mod),iI b.net,iI b.Ch] 152);rw [show (w.alloc (.cells #[.string (mk a.proc),.string (mk a.mod),iI a.net,iI a.Ch,iI a.Ck] 54)).heap.size=w.heap.size+1 by simp] at hB0;have HB0:=zZ hB0;clear hB0;go_enter Tryz.func154,Tryz.ntmps154
 go_upto_region 1 with fail
 generalize ((w.alloc (.cells #[.string (mk a.proc),.string (mk a.mod),iI a.net,iI a.Ch,iI a.Ck] 54)).alloc (.cells #[.string (mk b.proc),.string (mk b.mod),iI b.net,iI b.Ch] 152))=W at *;generalize w.heap.size=p at *;obtain ⟨q,hq⟩:∃q,q=p+1:=⟨_,rfl⟩;rw [←hq] at HB0 ⊢;clear hq;have HD:Hid (av W W.drew):=(av.refl W).drew;have HXA:=zZ fun W' (hW:av W W')=>cells5 (tV HA0.out hW.1);have HXB:=zZ fun W' (hW:av W W')=>bB (tV HB0.out hW.1);refine Ri.IX (by kernel_rfl) (by kernel_rfl) (by kernel_rfl) (fun Wx=>av W Wx) (fun kz vs wz=>(fun kx vx wx=>match kx with|0=>vx=fev a|1=>vx=plv a|2=>vx=plv b|3=>vx=iI (zC a b)|4=>vx=iI (zC a b)|_=>True:Nat->Value->World->Prop) kz (vs kz) wz) (fun kz=>[kz]) (by kernel_rfl) (fun jz vs iz vz wz hiz hz=>Ri.wI (F:=(fun kx vx wx=>match kx with|0=>vx=fev a|1=>vx=plv a|2=>vx=plv b|3=>vx=iI (zC a b)|4=>vx=iI (zC a b)|_=>True:Nat->Value->World->Prop)) jz vs iz vz wz hiz hz) HD.out ⟨⟨rfl,?_⟩,⟨rfl,?_⟩,⟨rfl,?_⟩,⟨rfl,?_⟩,⟨rfl,?_⟩,trivial⟩ ?_
 ·intro vs Wx A hA hB hpre K hK;have e2:=(hA 2).trans (show _=pP p 0 by kernel_rfl);obtain ⟨x0,x1,x2,x3,x4⟩:=HXA.out Wx hB;obtain ⟨y0,y1,y2,y3⟩:=HXB.out Wx hB;clear hA hpre;go_simp;exact hK _ _ hB rfl (fun _ _ h=>h)
 ·intro vs Wx A hA hB hpre K hK;have e5:=tT (hA 5) (by kernel_rfl) (hpre.1 rfl);clear hA hpre;go_simp;go_at_call 108
  refine (Bh _ _).mono ?_;rintro e w3 ⟨rfl,hg⟩;exact hK _ _ (hB.trans hg) rfl (fun _ _ h=>h)
 ·intro vs Wx A hA hB hpre K hK;have e3:=(hA 3).trans (show _=pP q 0 by kernel_rfl);obtain ⟨x0,x1,x2,x3,x4⟩:=HXA.out Wx hB;obtain ⟨y0,y1,y2,y3⟩:=HXB.out Wx hB;clear hA hpre;go_simp;exact hK _ _ hB rfl (fun _ _ h=>h)
 ·intro vs Wx A hA hB hpre K hK;have e6:=tT (hA 6) (by kernel_rfl) (hpre.1 rfl);have e7:=tT (hA 7) (by kernel_rfl) (hpre.2.1 rfl);clear hA hpre;go_simp;go_at_call 109
  refine (zI a b _).mono ?_;rintro e w3 ⟨rfl,hg⟩;exact hK _ _ (hB.trans hg) rfl (fun _ _ h=>h)
 ·intro vs Wx A hA hB hpre K hK;have e8:=tT (hA 8) (by kernel_rfl) (hpre.1 rfl);clear hA hpre;go_simp;exact hK _ _ hB rfl (fun _ _ h=>h)
 ·intro vs Wx hB hF;have hL:vs 4=iI (zC a b):=hF 4 (by decide);have Cn:=zZ (HG0.out.trans hB);clear hF hB;simp only [Ri.puts];go_simp;go_wp2_with fail
  go_ret;exact ⟨by first|rfl|(rw [hL])|simp [hL],Cn.out⟩
end Fe
namespace Da
open Go.RowKit
theorem Oh (y:Int) (w:World) (h:0<=y) :
  Calls Tryz.prog 165 #[iI y] w fun e w'=>e=.returned (.bool (uP y))/\w'=w:=by
 cases h3:(y % 400 == 0)
 ·cases h2:(y % 100 == 0)
  ·have e:uP y=(y % 4 == 0):=by simp [uP,h3,bne,h2]
   go_enter Tryz.func165,Tryz.ntmps165
   go_wp2;go_ret;exact ⟨by rw [e];rfl,rfl⟩
  ·have e:uP y=false:=by simp [uP,h3,bne,h2]
   go_enter Tryz.func165,Tryz.ntmps165
   go_wp2;go_ret;exact ⟨by rw [e];rfl,rfl⟩
 ·have e:uP y=true:=by simp [uP,h3]
  go_enter Tryz.func165,Tryz.ntmps165
  go_wp2;go_ret;exact ⟨by rw [e];rfl,rfl⟩
theorem LZ (y m:Int) (w:World) (h:0<=y) (h1:1<=m) (h2:m<=12) :
  Calls Tryz.prog 148 #[iI y,iI m] w fun e w'=>e=.returned (iI (uU y m))/\Grown w w':=by
 rcases yj m h1 h2 with rfl|rfl|rfl|rfl|rfl|rfl|rfl|rfl|rfl|rfl|rfl|rfl
 case inr.inl =>
  cases b:uP y
  ·go_enter Tryz.func148,Tryz.ntmps148
   go_wp2_with (go_at_call 165;refine (Oh _ _ h).mono ?_;rintro e w' ⟨rfl,rfl⟩)
   go_ret;exact ⟨by simp [uU,b,uV,lens],(Grown.refl _).alloc _ _⟩
  ·go_enter Tryz.func148,Tryz.ntmps148
   go_wp2_with (go_at_call 165;refine (Oh _ _ h).mono ?_;rintro e w' ⟨rfl,rfl⟩)
   go_ret;exact ⟨by simp [uU,b],(Grown.refl _).alloc _ _⟩
 all_goals
  go_enter Tryz.func148,Tryz.ntmps148
  go_wp2;go_ret;exact ⟨rfl,(Grown.refl _).alloc _ _⟩
theorem Lr (n:Int) (h1:10101<=n) (h2:n<=99991231):good n=true ↔ (1<=n / 100 % 100/\n / 100 % 100<=12/\1<=n % 100/\n % 100<=uU (n / 10000) (n / 100 % 100)):=by
 rw [ql,Je n (by omega),xO n (by omega),mG n (by omega)];constructor
 ·exact fun h=>h.2.2
 ·exact fun h=>⟨by omega,by omega,h⟩
theorem Ls (n:Int) (h1:10101<=n) (h2:n<=99991231) (h:¬ (1<=n / 100 % 100/\n / 100 % 100<=12/\1<=n % 100/\n % 100<=uU (n / 10000) (n / 100 % 100))):good n=false:=by
 rw [←Lr n h1 h2] at h;simpa using h
theorem NM (n:Int) (w:World) :
  Calls Tryz.prog 115 #[iI n] w fun e w'=>e=.returned (.bool (good n))/\Grown w w':=by
 by_cases c1:n < 10101
 ·have g:good n=false:=by
   cases g:good n
   ·rfl
   ·have:=Lp n g;omega
  rw [g];go_enter Tryz.func115,Tryz.ntmps115
  go_wp2;go_ret;exact ⟨rfl,Grown.refl _⟩
 by_cases c2:n > 99991231
 ·have g:good n=false:=by
   cases g:good n
   ·rfl
   ·have:=Lp n g;omega
  rw [g];go_enter Tryz.func115,Tryz.ntmps115
  go_wp2;go_ret;exact ⟨rfl,Grown.refl _⟩
 have G:=Ls n (by omega) (by omega);by_cases c3:n / 100 % 100 < 1
 ·have g:good n=false:=G (by omega);rw [g];clear G;go_enter Tryz.func115,Tryz.ntmps115
  go_wp2;go_ret;exact ⟨rfl,Grown.refl _⟩
 by_cases c4:n / 100 % 100 > 12
 ·have g:good n=false:=G (by omega);rw [g];clear G;go_enter Tryz.func115,Tryz.ntmps115
  go_wp2;go_ret;exact ⟨rfl,Grown.refl _⟩
 by_cases c5:n % 100 ≥ 1
 ·by_cases c6:n % 100<=uU (n / 10000) (n / 100 % 100)
  ·have g:good n=true:=(Lr n (by omega) (by omega)).2 (by omega);have d6:decide (n % 100<=uU (n / 10000) (n / 100 % 100))=true:=by simpa using c6
   rw [g];clear G;go_enter Tryz.func115,Tryz.ntmps115
   go_wp2_with (go_at_call 148;refine (LZ _ _ _ (by omega) (by omega) (by omega)).mono ?_;rintro e w' ⟨rfl,hg⟩)
   go_ret;exact ⟨rfl,hg⟩
  ·have g:good n=false:=G (by omega);have d6:decide (n % 100<=uU (n / 10000) (n / 100 % 100))=false:=by simpa using c6
   rw [g];clear G;go_enter Tryz.func115,Tryz.ntmps115
   go_wp2_with (go_at_call 148;refine (LZ _ _ _ (by omega) (by omega) (by omega)).mono ?_;rintro e w' ⟨rfl,hg⟩)
   go_ret;exact ⟨rfl,hg⟩
 ·have g:good n=false:=G (by omega);rw [g];clear G;go_enter Tryz.func115,Tryz.ntmps115
  go_wp2;go_ret;exact ⟨rfl,Grown.refl _⟩
end Da
namespace Da
open Go.RowKit
theorem L6 (y m:Int) (w:World) (h:0<=y) (h1:1<=m) (h2:m<=12) :
  Calls Tryz.prog 148 #[iI y,iI m] w fun e w'=>e=.returned (iI (uU y m))/\Below w.heap.size w w':=by
 rcases yj m h1 h2 with rfl|rfl|rfl|rfl|rfl|rfl|rfl|rfl|rfl|rfl|rfl|rfl
 case inr.inl =>
  cases b:uP y
  ·go_enter Tryz.func148,Tryz.ntmps148
   go_wp2_with (go_at_call 165;refine (Oh _ _ h).mono ?_;rintro e w' ⟨rfl,rfl⟩)
   go_ret;exact ⟨by simp [uU,b,uV,lens],(Below.refl _ _).alloc (Nat.le_refl _) _⟩
  ·go_enter Tryz.func148,Tryz.ntmps148
   go_wp2_with (go_at_call 165;refine (Oh _ _ h).mono ?_;rintro e w' ⟨rfl,rfl⟩)
   go_ret;exact ⟨by simp [uU,b],(Below.refl _ _).alloc (Nat.le_refl _) _⟩
 all_goals
  go_enter Tryz.func148,Tryz.ntmps148
  go_wp2;go_ret;exact ⟨rfl,(Below.refl _ _).alloc (Nat.le_refl _) _⟩
theorem NP (n:Int) (w:World) :
  Calls Tryz.prog 115 #[iI n] w fun e w'=>e=.returned (.bool (good n))/\Below w.heap.size w w':=by
 by_cases c1:n < 10101
 ·have g:good n=false:=by
   cases g:good n
   ·rfl
   ·have:=Lp n g;omega
  rw [g];go_enter Tryz.func115,Tryz.ntmps115
  go_wp2;go_ret;exact ⟨rfl,Below.refl _ _⟩
 by_cases c2:n > 99991231
 ·have g:good n=false:=by
   cases g:good n
   ·rfl
   ·have:=Lp n g;omega
  rw [g];go_enter Tryz.func115,Tryz.ntmps115
  go_wp2;go_ret;exact ⟨rfl,Below.refl _ _⟩
 have G:=Ls n (by omega) (by omega);by_cases c3:n / 100 % 100 < 1
 ·have g:good n=false:=G (by omega);rw [g];clear G;go_enter Tryz.func115,Tryz.ntmps115
  go_wp2;go_ret;exact ⟨rfl,Below.refl _ _⟩
 by_cases c4:n / 100 % 100 > 12
 ·have g:good n=false:=G (by omega);rw [g];clear G;go_enter Tryz.func115,Tryz.ntmps115
  go_wp2;go_ret;exact ⟨rfl,Below.refl _ _⟩
 by_cases c5:n % 100 ≥ 1
 ·by_cases c6:n % 100<=uU (n / 10000) (n / 100 % 100)
  ·have g:good n=true:=(Lr n (by omega) (by omega)).2 (by omega);have d6:decide (n % 100<=uU (n / 10000) (n / 100 % 100))=true:=by simpa using c6
   rw [g];clear G;go_enter Tryz.func115,Tryz.ntmps115
   go_wp2_with (go_at_call 148;refine (L6 _ _ _ (by omega) (by omega) (by omega)).mono ?_;rintro e w' ⟨rfl,hg⟩)
   go_ret;exact ⟨rfl,hg⟩
  ·have g:good n=false:=G (by omega);have d6:decide (n % 100<=uU (n / 10000) (n / 100 % 100))=false:=by simpa using c6
   rw [g];clear G;go_enter Tryz.func115,Tryz.ntmps115
   go_wp2_with (go_at_call 148;refine (L6 _ _ _ (by omega) (by omega) (by omega)).mono ?_;rintro e w' ⟨rfl,hg⟩)
   go_ret;exact ⟨rfl,hg⟩
 ·have g:good n=false:=G (by omega);rw [g];clear G;go_enter Tryz.func115,Tryz.ntmps115
  go_wp2;go_ret;exact ⟨rfl,Below.refl _ _⟩
end Da
end Go.Proofs.YtfbfeoplldjbpaaGreatDoor
