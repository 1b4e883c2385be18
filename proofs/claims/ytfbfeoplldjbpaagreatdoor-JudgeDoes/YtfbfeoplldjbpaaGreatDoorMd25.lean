/-
  Texts put together (merge.py): UBen, UPre, UKid.
-/
import Derived.Test.YtfbfeoplldjbpaaGreatDoorMd24
set_option linter.unusedSimpArgs false
set_option linter.unusedVariables false
set_option maxHeartbeats 16000000
set_option maxRecDepth 100000
namespace Go.Proofs.YtfbfeoplldjbpaaGreatDoor
namespace Ul
open Go.RowKit
open Pl (Cd St Ru Pn aX dD bY bW Ok1 cdv stv ruv pnv iU jg jv jU iR jf)
open Wo (jI jQ tV qL)
open Cm (Ln)
abbrev jl (v1 v2 v3 v4:Int):Value:=.agg #[.bool (v1 == 1),.bool (v2 == 1),iI v3,iI v4]
abbrev jh (v1 v2 v3 v4:Int):Array Value:=#[.bool (v1 == 1),.bool (v2 == 1),iI v3,iI v4]
theorem jw {w:World} {q:Nat} {a0 a1 a2 a3:Value} {T:TypeId} (h:w.heap[q]?=some (.cells #[a0,a1,a2,a3] T (0,0))):(w.cell? ⟨q,0,none⟩=some a0/\w.cell? ⟨q,1,none⟩=some a1/\w.cell? ⟨q,2,none⟩=some a2/\w.cell? ⟨q,3,none⟩=some a3)/\w.frozen? ⟨q,0,none⟩=false/\w.frozen? ⟨q,1,none⟩=false/\w.frozen? ⟨q,2,none⟩=false/\w.frozen? ⟨q,3,none⟩=false:=by
 refine ⟨⟨?_,?_,?_,?_⟩,Lib.frozen_of_heap h 0,Lib.frozen_of_heap h 1,Lib.frozen_of_heap h 2,Lib.frozen_of_heap h 3⟩<;>rw [cell_of_row w q _ _ T (0,0) h]<;>rfl
abbrev BJ (W:World) (b:Nat) (a0 a1 a2 a3:Value):World:=(((W.setCell ⟨b,0,none⟩ a0).setCell ⟨b,1,none⟩ a1).setCell ⟨b,2,none⟩ a2).setCell ⟨b,3,none⟩ a3
theorem BM {W:World} {b:Nat} {c0 c1 c2 c3:Value} {T:TypeId} (h:W.heap[b]?=some (.cells #[c0,c1,c2,c3] T (0,0))) (a0 a1 a2 a3:Value):(BJ W b a0 a1 a2 a3).heap[b]?=some (.cells #[a0,a1,a2,a3] T (0,0)):=by
 have h0:(W.setCell ⟨b,0,none⟩ a0).heap[b]?=some (.cells #[a0,c1,c2,c3] T (0,0)):=heap_setCell_same W b 0 _ _ _ h;have h1:((W.setCell ⟨b,0,none⟩ a0).setCell ⟨b,1,none⟩ a1).heap[b]?=some (.cells #[a0,a1,c2,c3] T (0,0)):=heap_setCell_same _ b 1 _ _ _ h0;have h2:(((W.setCell ⟨b,0,none⟩ a0).setCell ⟨b,1,none⟩ a1).setCell ⟨b,2,none⟩ a2).heap[b]?=some (.cells #[a0,a1,a2,c3] T (0,0)):=heap_setCell_same _ b 2 _ _ _ h1;exact heap_setCell_same _ b 3 _ _ _ h2
theorem BK {B:Nat} {w W:World} (h:Below B w W) (b:Nat) (hb:B<=b) (a0 a1 a2 a3:Value):Below B w (BJ W b a0 a1 a2 a3):=
 (((h.setCell (p:=⟨b,0,none⟩) hb _).setCell (p:=⟨b,1,none⟩) hb _).setCell (p:=⟨b,2,none⟩) hb _).setCell (p:=⟨b,3,none⟩) hb _
theorem jk (q:Nat) (a1 a2 a3 a4 v1 v2 v3 v4:Int) (w:World) (h:ak w q a1 a2 a3 a4 v1 v2 v3 v4) :
  Calls Tryz.prog 85 #[pP q 0] w fun e w'=>e=.returned (jl v1 v2 v3 v4)/\Below w.heap.size w w':=by
 have HB:=zZ (iU w (.cells #[.bool false,.bool false,iI 0,iI 0] 99));have HZ:=zZ (heap_alloc_new w (.cells #[.bool false,.bool false,iI 0,iI 0] 99));have Bt:=zZ fun W' (hW:Below w.heap.size w W')=>(h.far hW).cells;clear h;go_enter Tryz.func85,Tryz.ntmps85
 go_upto_region 1 with fail
 generalize w.alloc (.cells #[.bool false,.bool false,iI 0,iI 0] 99)=W at *;generalize hp:w.heap.size=p at *;have HD:Hid ((fun Wx=>Below p w Wx/\∃c0 c1 c2 c3,Wx.heap[p]?=some (.cells #[c0,c1,c2,c3] 99 (0,0))) W.drew):=⟨Below.drew HB.out,_,_,_,_,HZ.out⟩;refine Ri.IY (by kernel_rfl) (by kernel_rfl) (by kernel_rfl) (fun Wx=>Below p w Wx/\∃c0 c1 c2 c3,Wx.heap[p]?=some (.cells #[c0,c1,c2,c3] 99 (0,0))) (fun kz vs wz=>(fun kx vx wx=>match kx with|0=>vx=pP q 0|1=>vx=pP q 0|2=>vx=pP q 5|3=>vx=pP q 6|4=>vx=iI v1|5=>vx=.bool (v1 == 1)|6=>vx=pP q 0|7=>vx=pP q 0|8=>vx=pP q 5|9=>vx=pP q 7|10=>vx=iI v2|11=>vx=.bool (v2 == 1)|12=>vx=pP q 0|13=>vx=pP q 0|14=>vx=pP q 5|15=>vx=pP q 8|16=>vx=iI v3|17=>vx=pP q 0|18=>vx=pP q 0|19=>vx=pP q 5|20=>vx=pP q 9|21=>vx=iI v4|22=>vx=jl v1 v2 v3 v4|23=>wx.heap[p]?=some (.cells (jh v1 v2 v3 v4) 99 (0,0))|_=>True:Nat->Value->World->Prop) kz (vs kz) wz) (fun kz=>[kz]) (by kernel_rfl) (fun jz vs iz vz wz hiz hz=>Ri.wI (F:=(fun kx vx wx=>match kx with|0=>vx=pP q 0|1=>vx=pP q 0|2=>vx=pP q 5|3=>vx=pP q 6|4=>vx=iI v1|5=>vx=.bool (v1 == 1)|6=>vx=pP q 0|7=>vx=pP q 0|8=>vx=pP q 5|9=>vx=pP q 7|10=>vx=iI v2|11=>vx=.bool (v2 == 1)|12=>vx=pP q 0|13=>vx=pP q 0|14=>vx=pP q 5|15=>vx=pP q 8|16=>vx=iI v3|17=>vx=pP q 0|18=>vx=pP q 0|19=>vx=pP q 5|20=>vx=pP q 9|21=>vx=iI v4|22=>vx=jl v1 v2 v3 v4|23=>wx.heap[p]?=some (.cells (jh v1 v2 v3 v4) 99 (0,0))|_=>True:Nat->Value->World->Prop)) jz vs iz vz wz hiz hz) HD.out ⟨⟨rfl,?_⟩,⟨rfl,?_⟩,⟨rfl,?_⟩,⟨rfl,?_⟩,⟨rfl,?_⟩,⟨rfl,?_⟩,⟨rfl,?_⟩,⟨rfl,?_⟩,⟨rfl,?_⟩,⟨rfl,?_⟩,⟨rfl,?_⟩,⟨rfl,?_⟩,⟨rfl,?_⟩,⟨rfl,?_⟩,⟨rfl,?_⟩,⟨rfl,?_⟩,⟨rfl,?_⟩,⟨rfl,?_⟩,⟨rfl,?_⟩,⟨rfl,?_⟩,⟨rfl,?_⟩,⟨rfl,?_⟩,⟨rfl,?_⟩,⟨rfl,?_⟩,trivial⟩ ?_
 ·intro vs Wx A hA hB hpre K hK;have e0:=(hA 0).trans (show _=pP q 0 by kernel_rfl);clear hA hpre;go_simp;exact hK _ _ hB rfl (fun _ _ h=>h)
 ·intro vs Wx A hA hB hpre K hK;have e3:=tT (hA 3) (by kernel_rfl) (hpre.1 rfl);clear hA hpre;go_simp;exact hK _ _ hB rfl (fun _ _ h=>h)
 ·intro vs Wx A hA hB hpre K hK;have e4:=tT (hA 4) (by kernel_rfl) (hpre.1 rfl);clear hA hpre;go_simp;exact hK _ _ hB rfl (fun _ _ h=>h)
 ·intro vs Wx A hA hB hpre K hK;have e5:=tT (hA 5) (by kernel_rfl) (hpre.1 rfl);clear hA hpre;go_simp;exact hK _ _ hB rfl (fun _ _ h=>h)
 ·intro vs Wx A hA hB hpre K hK;have e6:=tT (hA 6) (by kernel_rfl) (hpre.1 rfl);obtain ⟨c1,c2,c3,c4,d1,d2,d3,d4⟩:=Bt.out Wx hB.1;clear hA hpre;go_simp;exact hK _ _ hB rfl (fun _ _ h=>h)
 ·intro vs Wx A hA hB hpre K hK;have e7:=tT (hA 7) (by kernel_rfl) (hpre.1 rfl);clear hA hpre;go_simp;exact hK _ _ hB rfl (fun _ _ h=>h)
 ·intro vs Wx A hA hB hpre K hK;have e0:=(hA 0).trans (show _=pP q 0 by kernel_rfl);clear hA hpre;go_simp;exact hK _ _ hB rfl (fun _ _ h=>h)
 ·intro vs Wx A hA hB hpre K hK;have e9:=tT (hA 9) (by kernel_rfl) (hpre.1 rfl);clear hA hpre;go_simp;exact hK _ _ hB rfl (fun _ _ h=>h)
 ·intro vs Wx A hA hB hpre K hK;have e10:=tT (hA 10) (by kernel_rfl) (hpre.1 rfl);clear hA hpre;go_simp;exact hK _ _ hB rfl (fun _ _ h=>h)
 ·intro vs Wx A hA hB hpre K hK;have e11:=tT (hA 11) (by kernel_rfl) (hpre.1 rfl);clear hA hpre;go_simp;exact hK _ _ hB rfl (fun _ _ h=>h)
 ·intro vs Wx A hA hB hpre K hK;have e12:=tT (hA 12) (by kernel_rfl) (hpre.1 rfl);obtain ⟨c1,c2,c3,c4,d1,d2,d3,d4⟩:=Bt.out Wx hB.1;clear hA hpre;go_simp;exact hK _ _ hB rfl (fun _ _ h=>h)
 ·intro vs Wx A hA hB hpre K hK;have e13:=tT (hA 13) (by kernel_rfl) (hpre.1 rfl);clear hA hpre;go_simp;exact hK _ _ hB rfl (fun _ _ h=>h)
 ·intro vs Wx A hA hB hpre K hK;have e0:=(hA 0).trans (show _=pP q 0 by kernel_rfl);clear hA hpre;go_simp;exact hK _ _ hB rfl (fun _ _ h=>h)
 ·intro vs Wx A hA hB hpre K hK;have e15:=tT (hA 15) (by kernel_rfl) (hpre.1 rfl);clear hA hpre;go_simp;exact hK _ _ hB rfl (fun _ _ h=>h)
 ·intro vs Wx A hA hB hpre K hK;have e16:=tT (hA 16) (by kernel_rfl) (hpre.1 rfl);clear hA hpre;go_simp;exact hK _ _ hB rfl (fun _ _ h=>h)
 ·intro vs Wx A hA hB hpre K hK;have e17:=tT (hA 17) (by kernel_rfl) (hpre.1 rfl);clear hA hpre;go_simp;exact hK _ _ hB rfl (fun _ _ h=>h)
 ·intro vs Wx A hA hB hpre K hK;have e18:=tT (hA 18) (by kernel_rfl) (hpre.1 rfl);obtain ⟨c1,c2,c3,c4,d1,d2,d3,d4⟩:=Bt.out Wx hB.1;clear hA hpre;go_simp;exact hK _ _ hB rfl (fun _ _ h=>h)
 ·intro vs Wx A hA hB hpre K hK;have e0:=(hA 0).trans (show _=pP q 0 by kernel_rfl);clear hA hpre;go_simp;exact hK _ _ hB rfl (fun _ _ h=>h)
 ·intro vs Wx A hA hB hpre K hK;have e20:=tT (hA 20) (by kernel_rfl) (hpre.1 rfl);clear hA hpre;go_simp;exact hK _ _ hB rfl (fun _ _ h=>h)
 ·intro vs Wx A hA hB hpre K hK;have e21:=tT (hA 21) (by kernel_rfl) (hpre.1 rfl);clear hA hpre;go_simp;exact hK _ _ hB rfl (fun _ _ h=>h)
 ·intro vs Wx A hA hB hpre K hK;have e22:=tT (hA 22) (by kernel_rfl) (hpre.1 rfl);clear hA hpre;go_simp;exact hK _ _ hB rfl (fun _ _ h=>h)
 ·intro vs Wx A hA hB hpre K hK;have e23:=tT (hA 23) (by kernel_rfl) (hpre.1 rfl);obtain ⟨c1,c2,c3,c4,d1,d2,d3,d4⟩:=Bt.out Wx hB.1;clear hA hpre;go_simp;exact hK _ _ hB rfl (fun _ _ h=>h)
 ·intro vs Wx A hA hB hpre K hK;have e8:=tT (hA 8) (by kernel_rfl) (hpre.1 rfl);have e14:=tT (hA 14) (by kernel_rfl) (hpre.2.1 rfl);have e19:=tT (hA 19) (by kernel_rfl) (hpre.2.2.1 rfl);have e24:=tT (hA 24) (by kernel_rfl) (hpre.2.2.2.1 rfl);clear hA hpre;go_simp;exact hK _ _ hB rfl (fun _ _ h=>h)
 ·intro vs Wx A hA hB hpre K hK;have e2:=(hA 2).trans (show _=pP p 0 by kernel_rfl);have e25:=tT (hA 25) (by kernel_rfl) (hpre.1 rfl);obtain ⟨hB1,c0,c1,c2,c3,hB2⟩:=hB;obtain ⟨⟨m0,m1,m2,m3⟩,f0,f1,f2,f3⟩:=jw hB2;have HB1:=zZ hB1;have HN:=zZ (BM hB2 (.bool (v1 == 1)) (.bool (v2 == 1)) (iI v3) (iI v4));clear hB1 hB2;clear hA hpre;go_simp;refine hK undef _ ⟨BK HB1.out p (Nat.le_refl _) _ _ _ _,_,_,_,_,HN.out⟩ HN.out (fun jz hj hz=>?_);match jz,hj,hz with
  | 0,_,hz=>exact hz
  | 1,_,hz=>exact hz
  | 2,_,hz=>exact hz
  | 3,_,hz=>exact hz
  | 4,_,hz=>exact hz
  | 5,_,hz=>exact hz
  | 6,_,hz=>exact hz
  | 7,_,hz=>exact hz
  | 8,_,hz=>exact hz
  | 9,_,hz=>exact hz
  | 10,_,hz=>exact hz
  | 11,_,hz=>exact hz
  | 12,_,hz=>exact hz
  | 13,_,hz=>exact hz
  | 14,_,hz=>exact hz
  | 15,_,hz=>exact hz
  | 16,_,hz=>exact hz
  | 17,_,hz=>exact hz
  | 18,_,hz=>exact hz
  | 19,_,hz=>exact hz
  | 20,_,hz=>exact hz
  | 21,_,hz=>exact hz
  | 22,_,hz=>exact hz
  | 23,hj,_=>exact absurd rfl hj
  | n+24,_,hz=>exact hz
 ·intro vs Wx hB hF;have h23:Wx.heap[p]?=some (.cells (jh v1 v2 v3 v4) 99 (0,0)):=hF 23 (by decide);obtain ⟨⟨r0,r1,r2,r3⟩,-⟩:=jw h23;have Cn:=zZ hB.1;clear hF hB h23;simp only [Ri.puts];go_simp;go_wp2_with fail
  refine bodyPost_ret (v:=jl v1 v2 v3 v4) (by simp [results,Tryz.results85,go_sem,r0,r1,r2,r3]) rfl ⟨rfl,?_⟩;first|exact Cn.out|(rw [hp];exact Cn.out)
end Ul
namespace Ul
open Go.RowKit
open Pl (Cd St Ru Pn aX dD bY bW Ok1 cdv stv ruv pnv iU jg jv jU iR jf)
open Wo (jI jQ tV qL)
open Cm (Ln)
theorem jL (w:World) (p:Pn) (m:Value) (x:Ln) (ml:Value) :
  Below w.heap.size w (((w.alloc (.cells #[iI p.mode,iI p.Ay,iI p.AR,iI p.Bb,iI p.AJ,m] 24)).alloc (.cells #[sS x.proc,ml,iI x.date,iI x.units,iI x.Av,iI x.prior] 48)).alloc (.cells #[.bool false,.bool false,iI 0,iI 0] 99))/\(((w.alloc (.cells #[iI p.mode,iI p.Ay,iI p.AR,iI p.Bb,iI p.AJ,m] 24)).alloc (.cells #[sS x.proc,ml,iI x.date,iI x.units,iI x.Av,iI x.prior] 48)).alloc (.cells #[.bool false,.bool false,iI 0,iI 0] 99)).heap[w.heap.size]?=some (.cells #[iI p.mode,iI p.Ay,iI p.AR,iI p.Bb,iI p.AJ,m] 24 (0,0))/\(((w.alloc (.cells #[iI p.mode,iI p.Ay,iI p.AR,iI p.Bb,iI p.AJ,m] 24)).alloc (.cells #[sS x.proc,ml,iI x.date,iI x.units,iI x.Av,iI x.prior] 48)).alloc (.cells #[.bool false,.bool false,iI 0,iI 0] 99)).heap[w.heap.size+1]?=some (.cells #[sS x.proc,ml,iI x.date,iI x.units,iI x.Av,iI x.prior] 48 (0,0))/\(((w.alloc (.cells #[iI p.mode,iI p.Ay,iI p.AR,iI p.Bb,iI p.AJ,m] 24)).alloc (.cells #[sS x.proc,ml,iI x.date,iI x.units,iI x.Av,iI x.prior] 48)).alloc (.cells #[.bool false,.bool false,iI 0,iI 0] 99)).heap[w.heap.size+2]?=some (.cells #[.bool false,.bool false,iI 0,iI 0] 99 (0,0))/\(((w.alloc (.cells #[iI p.mode,iI p.Ay,iI p.AR,iI p.Bb,iI p.AJ,m] 24)).alloc (.cells #[sS x.proc,ml,iI x.date,iI x.units,iI x.Av,iI x.prior] 48)).alloc (.cells #[.bool false,.bool false,iI 0,iI 0] 99)).heap.size=w.heap.size+3:=by
 obtain ⟨h1,h2,h3⟩:=jK w p m x ml;have hb:=iU ((w.alloc (.cells #[iI p.mode,iI p.Ay,iI p.AR,iI p.Bb,iI p.AJ,m] 24)).alloc (.cells #[sS x.proc,ml,iI x.date,iI x.units,iI x.Av,iI x.prior] 48)) (.cells #[.bool false,.bool false,iI 0,iI 0] 99);refine ⟨jg h1 hb,tV h2 hb,tV h3 hb,?_,by simp⟩;have h:=heap_alloc_new ((w.alloc (.cells #[iI p.mode,iI p.Ay,iI p.AR,iI p.Bb,iI p.AJ,m] 24)).alloc (.cells #[sS x.proc,ml,iI x.date,iI x.units,iI x.Av,iI x.prior] 48)) (.cells #[.bool false,.bool false,iI 0,iI 0] 99);rwa [show ((w.alloc (.cells #[iI p.mode,iI p.Ay,iI p.AR,iI p.Bb,iI p.AJ,m] 24)).alloc (.cells #[sS x.proc,ml,iI x.date,iI x.units,iI x.Av,iI x.prior] 48)).heap.size=w.heap.size+2 by simp] at h
theorem tX {w w':World} {q b:Nat} {o:Obj} (h:w.heap[b]?=some o) (hb:Below q w w') (hl:b < q):w'.heap[b]?=some o:=by rw [hb.block b hl];exact h
theorem wG {w W:World} {m:Value} {rs:List Ru} {q:Nat} (h:bY All w m rs) (hb:Below w.heap.size w W) (hq:w.heap.size<=q):bY (fun b=>b < q) W m rs:=h.move ⟨hb.size,fun b hl _=>⟨Nat.lt_of_lt_of_le hl hq,hb.block b hl⟩⟩
theorem wH {w W:World} {m:Value} {rs:List Tx} {q:Nat} (h:dI All w m rs) (hb:Below w.heap.size w W) (hq:w.heap.size<=q):dI (fun b=>b < q) W m rs:=dI.move h ⟨hb.size,fun b hl _=>⟨Nat.lt_of_lt_of_le hl hq,hb.block b hl⟩⟩
theorem KA {w W:World} {m:Value} {rs:List Ru} {q:Nat} (h:bY (fun b=>b < q) w m rs) (hb:Below q w W):bY All W m rs:=h.move ⟨hb.size,fun b _ hk=>⟨trivial,hb.block b hk⟩⟩
theorem fJ {w W:World} {m:Value} {rs:List Tx} {q:Nat} (h:dI (fun b=>b < q) w m rs) (hb:Below q w W):dI All W m rs:=dI.move h ⟨hb.size,fun b _ hk=>⟨trivial,hb.block b hk⟩⟩
theorem fE {w W:World} {r:Ru} {k u s:Value} {q:Nat} (h:bW (fun b=>b < q) w r k u s) (hb:Below q w W):bW All W r k u s:=h.move ⟨hb.size,fun b _ hk=>⟨trivial,hb.block b hk⟩⟩
theorem jq (x:Ln) (net k:Int) (l:List Ru) (j:Nat) (r:Ru) (h:l[j]?=some r):jm x net k (l.take (j+1))=F7 x net k (jm x net k (l.take j)) r:=by
 unfold jm;rw [List.take_add_one,h,List.foldl_append];rfl
abbrev ji (x:Ln) (net:Int) (l:List Ru):Value:=jl (Hy x net 1 l) (Hy x net 2 l) (Hy x net 3 l) (Hy x net 4 l)
theorem Hz {x:Ln} {net k A V:Int} {l:List Ru} (h:(A,V)=jm x net k l):Hy x net k l=V:=by unfold Hy;rw [←h]
end Ul
namespace Ul
open Go.RowKit
open Pl (Cd St Ru Pn aX dD bY bW Ok1 cdv stv ruv pnv iU jg jv jU iR jf)
open Wo (jI jQ tV qL)
open Cm (Ln)
def aV (x:Ln) (net:Int) (ml:Value) (c:Cd) (m:Value) (w:World):Prop:=
 Calls Tryz.prog 123 #[cdv c m,lnv x ml,iI net] w fun e w'=>e=.returned (.bool (eD x net c))/\Below w.heap.size w w'
theorem uH (x:Ln) (net:Int) (ml:Value) (c:Cd) (i:Nat) (hi:i<=1)
  (IH:∀k ∈ c.kids,∀(m:Value) (w:World),aX All w m k.kids->dI All w ml x.mods->aV x net ml k m w)
  (m:Value) (w:World) (hK:aX All w m c.kids) (hx:dI All w ml x.mods) :
  Calls Tryz.prog 151 #[cdv c m,iI i,lnv x ml,iI net] w fun e w'=>e=.returned (.bool (uz x net c.kids i))/\Below w.heap.size w w':=by
 obtain ⟨T,HT⟩:∃T,Hid (uz x net c.kids i=T):=⟨_,rfl⟩;rw [HT.out];obtain ⟨hb,hz1,hz2⟩:=jJ w c m x ml;have HB:=zZ hb;have HX:=zZ hz1;have HL:=zZ hz2;have HK:=zZ (hK.Bu hb);have HM:=zZ (Hf hx hb);obtain ⟨a,k,rfl,hk1,hk2⟩:=hK.form;obtain ⟨la,lk,rfl,hl1,hl2⟩:=G9 hx;clear hK hx hb hz1 hz2;go_enter Tryz.func151,Tryz.ntmps151
 go_upto_region 1 with fail
 generalize (w.alloc (.cells #[iI c.kind,sS c.lo,sS c.hi,iI c.n,.slice a c.kids.length k] 79)).alloc (.cells #[sS x.proc,.slice la x.mods.length lk,iI x.date,iI x.units,iI x.Av,iI x.prior] 48)=W at *;generalize hp:w.heap.size=p at *;obtain ⟨q,hq⟩:∃q,q=p+1:=⟨_,rfl⟩;rw [←hq] at HL ⊢;clear hq;obtain ⟨x0,x1,x2,x3,x4⟩:=jv HX.out;obtain ⟨y0,y1,y2,y3,y4,y5⟩:=jU HL.out;have HD:=zZ (Below.drew (Below.refl W.heap.size W));have Bt:=zZ fun W' (hW:Below W.heap.size W W')=>And.intro (jv (tV HX.out hW)) (jU (tV HL.out hW));by_cases hlt:i < c.kids.length
 case neg =>
  have Bn:Hid (T=false):=by show _=_;rw [←HT.out];exact uF x net c.kids i (by omega)
  have hlt':¬ (i:Int) < (c.kids.length:Int):=by omega
  have hge:(c.kids.length:Int)<=(i:Int):=by omega
  have HBR:=zZ (Below.refl W.heap.size W);clear IH HK HM hlt HT;go_cut [8] (fun s wx=>s=.bool false/\Hid (Below W.heap.size W wx))
  case first =>
   clear x0 x1 x2 x3 x4 y0 y1 y2 y3 y4 y5;refine Ri.I4 (by kernel_rfl) (by kernel_rfl) (by kernel_rfl) (fun Wx=>Below W.heap.size W Wx) (fun kz vs wz=>(fun kx vx wx=>match kx with|0=>vx=iI (i:Nat)|1=>vx=pP p 4|2=>vx=.slice a c.kids.length k|3=>vx=iI (c.kids.length:Nat)|4=>vx=.bool false|5=>vx=.bool false|6=>True|7=>True|8=>True|9=>True|10=>True|11=>True|12=>True|13=>True|14=>vx=.bool false|15=>vx=.bool false|_=>True:Nat->Value->World->Prop) kz (vs kz) wz) (fun kz=>[kz]) (by kernel_rfl) (fun jz vs iz vz wz hiz hz=>Ri.wI (F:=(fun kx vx wx=>match kx with|0=>vx=iI (i:Nat)|1=>vx=pP p 4|2=>vx=.slice a c.kids.length k|3=>vx=iI (c.kids.length:Nat)|4=>vx=.bool false|5=>vx=.bool false|6=>True|7=>True|8=>True|9=>True|10=>True|11=>True|12=>True|13=>True|14=>vx=.bool false|15=>vx=.bool false|_=>True:Nat->Value->World->Prop)) jz vs iz vz wz hiz hz) HD.out ⟨Or.inl ⟨rfl,?_⟩,Or.inl ⟨rfl,?_⟩,Or.inl ⟨rfl,?_⟩,Or.inl ⟨rfl,?_⟩,Or.inl ⟨rfl,?_⟩,Or.inl ⟨rfl,?_⟩,Or.inr ⟨5,true,14,rfl,rfl,?_⟩,Or.inr ⟨5,true,14,rfl,rfl,?_⟩,Or.inr ⟨5,true,14,rfl,rfl,?_⟩,Or.inr ⟨5,true,14,rfl,rfl,?_⟩,Or.inr ⟨5,true,14,rfl,rfl,?_⟩,Or.inr ⟨5,true,14,rfl,rfl,?_⟩,Or.inr ⟨5,true,14,rfl,rfl,?_⟩,Or.inr ⟨5,true,14,rfl,rfl,?_⟩,Or.inl ⟨rfl,?_⟩,Or.inl ⟨rfl,?_⟩,trivial⟩ ?_
   ·intro vs Wx A hA hB hpre K hK;have e1:=(hA 1).trans (show _=iI (i:Nat) by kernel_rfl);clear hA hpre;go_simp;exact hK _ _ hB rfl (fun _ _ h=>h)
   ·intro vs Wx A hA hB hpre K hK;have e4:=(hA 4).trans (show _=pP p 0 by kernel_rfl);clear hA hpre;go_simp;exact hK _ _ hB rfl (fun _ _ h=>h)
   ·intro vs Wx A hA hB hpre K hK;have e10:=tT (hA 10) (by kernel_rfl) (hpre.1 rfl);obtain ⟨⟨x0,x1,x2,x3,x4⟩,⟨y0,y1,y2,y3,y4,y5⟩⟩:=Bt.out Wx hB;clear hA hpre;go_simp;exact hK _ _ hB rfl (fun _ _ h=>h)
   ·intro vs Wx A hA hB hpre K hK;have e11:=tT (hA 11) (by kernel_rfl) (hpre.1 rfl);clear hA hpre;go_simp;exact hK _ _ hB rfl (fun _ _ h=>h)
   ·intro vs Wx A hA hB hpre K hK;have e9:=tT (hA 9) (by kernel_rfl) (hpre.1 rfl);have e12:=tT (hA 12) (by kernel_rfl) (hpre.2.1 rfl);clear hA hpre;go_simp;exact hK _ _ hB rfl (fun _ _ h=>h)
   ·intro vs Wx A hA hB hpre K hK;have e13:=tT (hA 13) (by kernel_rfl) (hpre.1 rfl);clear hA hpre;go_simp;exact hK _ _ hB rfl (fun _ _ h=>h)
   ·intro vs Wx A hA hB hpre;have eg:=tT (hA 14) (by kernel_rfl) (hpre.1 rfl);exact ⟨false,eg,fun h=>(by cases h),fun _=>trivial⟩
   ·intro vs Wx A hA hB hpre;have eg:=tT (hA 14) (by kernel_rfl) (hpre.2.1 rfl);exact ⟨false,eg,fun h=>(by cases h),fun _=>trivial⟩
   ·intro vs Wx A hA hB hpre;have eg:=tT (hA 14) (by kernel_rfl) (hpre.1 rfl);exact ⟨false,eg,fun h=>(by cases h),fun _=>trivial⟩
   ·intro vs Wx A hA hB hpre;have eg:=tT (hA 14) (by kernel_rfl) (hpre.2.2.1 rfl);exact ⟨false,eg,fun h=>(by cases h),fun _=>trivial⟩
   ·intro vs Wx A hA hB hpre;have eg:=tT (hA 14) (by kernel_rfl) (hpre.2.1 rfl);exact ⟨false,eg,fun h=>(by cases h),fun _=>trivial⟩
   iterate 2
    ·intro vs Wx A hA hB hpre;have eg:=tT (hA 14) (by kernel_rfl) (hpre.1 rfl);exact ⟨false,eg,fun h=>(by cases h),fun _=>trivial⟩
   ·intro vs Wx A hA hB hpre;have eg:=tT (hA 14) (by kernel_rfl) (hpre.2.2.2.1 rfl);exact ⟨false,eg,fun h=>(by cases h),fun _=>trivial⟩
   ·intro vs Wx A hA hB hpre K hK;have e14:=tT (hA 14) (by kernel_rfl) (hpre.1 rfl);clear hA hpre;go_simp;exact hK _ _ hB rfl (fun _ _ h=>h)
   ·intro vs Wx A hA hB hpre K hK;have e23:=tT (hA 23) (by kernel_rfl) (hpre.1 rfl);clear hA hpre;go_simp;exact hK _ _ hB rfl (fun _ _ h=>h)
   ·intro vs Wx hB hF;have h8:vs 15=.bool false:=hF 15 (by decide);have Cn:=zZ hB;clear hF hB;simp only [Ri.puts];go_simp;go_wp2_with fail
    go_meet
    exact ⟨by first|rfl|exact h8,Cn.out⟩
  case rest =>
   obtain ⟨rfl,HBx⟩:=hcut;go_wp2_with fail
   go_ret;exact ⟨by first|rfl|(rw [Bn.out];rfl),by first|exact jf hp HB.out HBx.out|(rw [hp];exact jf hp HB.out HBx.out)⟩
 obtain ⟨b,o,mv,rfl,hbs,hxx,hcc,hkk,hok⟩:=aX.get HK.out i hlt;have Bn:Hid (T=eD x net c.kids[i]):=by show _=_;rw [←HT.out];exact uG x net c.kids i _ hxx
 have HC:=zZ fun W' (hW:Below W.heap.size W W')=>IH c.kids[i] (List.getElem_mem hlt) mv W' (hkk.Bu hW) (Hf HM.out hW);have HXL:=zZ fun W' (hW:Below W.heap.size W W')=>And.intro (Bt.out W' hW) (hcc.of (hW.block b hbs));obtain ⟨ka,kc,rfl,-,-⟩:=hkk.form;have hlt':(i:Int) < (c.kids.length:Int):=by omega
 have hge:¬ (c.kids.length:Int)<=(i:Int):=by omega
 clear hkk hok hxx IH HK HM hcc Bt HT;generalize c.kids[i]=kd at *;unfold aV Pl.aj at *;go_cut [8] (fun s wx=>s=.bool (eD x net kd)/\Hid (Below W.heap.size W wx))
 case first =>
  clear x0 x1 x2 x3 x4 y0 y1 y2 y3 y4 y5;refine Ri.I4 (by kernel_rfl) (by kernel_rfl) (by kernel_rfl) (fun Wx=>Below W.heap.size W Wx) (fun kz vs wz=>(fun kx vx wx=>match kx with|0=>vx=iI (i:Nat)|1=>vx=pP p 4|2=>vx=.slice (some ⟨b,o,none⟩) c.kids.length k|3=>vx=iI (c.kids.length:Nat)|4=>vx=.bool true|5=>vx=.bool true|6=>vx=pP p 4|7=>vx=.slice (some ⟨b,o,none⟩) c.kids.length k|8=>vx=iI (i:Nat)|9=>vx=pP b (o+i * 5)|10=>vx=cdv kd (.slice ka kd.kids.length kc)|11=>vx=lnv x (.slice la x.mods.length lk)|12=>vx=iI net|13=>vx=.bool (eD x net kd)|14=>vx=.bool (eD x net kd)|15=>vx=.bool (eD x net kd)|_=>True:Nat->Value->World->Prop) kz (vs kz) wz) (fun kz=>[kz]) (by kernel_rfl) (fun jz vs iz vz wz hiz hz=>Ri.wI (F:=(fun kx vx wx=>match kx with|0=>vx=iI (i:Nat)|1=>vx=pP p 4|2=>vx=.slice (some ⟨b,o,none⟩) c.kids.length k|3=>vx=iI (c.kids.length:Nat)|4=>vx=.bool true|5=>vx=.bool true|6=>vx=pP p 4|7=>vx=.slice (some ⟨b,o,none⟩) c.kids.length k|8=>vx=iI (i:Nat)|9=>vx=pP b (o+i * 5)|10=>vx=cdv kd (.slice ka kd.kids.length kc)|11=>vx=lnv x (.slice la x.mods.length lk)|12=>vx=iI net|13=>vx=.bool (eD x net kd)|14=>vx=.bool (eD x net kd)|15=>vx=.bool (eD x net kd)|_=>True:Nat->Value->World->Prop)) jz vs iz vz wz hiz hz) HD.out ⟨Or.inl ⟨rfl,?_⟩,Or.inl ⟨rfl,?_⟩,Or.inl ⟨rfl,?_⟩,Or.inl ⟨rfl,?_⟩,Or.inl ⟨rfl,?_⟩,Or.inl ⟨rfl,?_⟩,Or.inr ⟨5,true,14,rfl,rfl,?_⟩,Or.inr ⟨5,true,14,rfl,rfl,?_⟩,Or.inr ⟨5,true,14,rfl,rfl,?_⟩,Or.inr ⟨5,true,14,rfl,rfl,?_⟩,Or.inr ⟨5,true,14,rfl,rfl,?_⟩,Or.inr ⟨5,true,14,rfl,rfl,?_⟩,Or.inr ⟨5,true,14,rfl,rfl,?_⟩,Or.inr ⟨5,true,14,rfl,rfl,?_⟩,Or.inl ⟨rfl,?_⟩,Or.inl ⟨rfl,?_⟩,trivial⟩ ?_
  ·intro vs Wx A hA hB hpre K hK;have e1:=(hA 1).trans (show _=iI (i:Nat) by kernel_rfl);clear hA hpre;go_simp;exact hK _ _ hB rfl (fun _ _ h=>h)
  ·intro vs Wx A hA hB hpre K hK;have e4:=(hA 4).trans (show _=pP p 0 by kernel_rfl);clear hA hpre;go_simp;exact hK _ _ hB rfl (fun _ _ h=>h)
  ·intro vs Wx A hA hB hpre K hK;have e10:=tT (hA 10) (by kernel_rfl) (hpre.1 rfl);obtain ⟨⟨⟨x0,x1,x2,x3,x4⟩,⟨y0,y1,y2,y3,y4,y5⟩⟩,⟨z0,z1,z2,z3,z4⟩⟩:=HXL.out Wx hB;clear hA hpre;go_simp;exact hK _ _ hB rfl (fun _ _ h=>h)
  ·intro vs Wx A hA hB hpre K hK;have e11:=tT (hA 11) (by kernel_rfl) (hpre.1 rfl);clear hA hpre;go_simp;exact hK _ _ hB rfl (fun _ _ h=>h)
  ·intro vs Wx A hA hB hpre K hK;have e9:=tT (hA 9) (by kernel_rfl) (hpre.1 rfl);have e12:=tT (hA 12) (by kernel_rfl) (hpre.2.1 rfl);clear hA hpre;go_simp;exact hK _ _ hB rfl (fun _ _ h=>h)
  ·intro vs Wx A hA hB hpre K hK;have e13:=tT (hA 13) (by kernel_rfl) (hpre.1 rfl);clear hA hpre;go_simp;exact hK _ _ hB rfl (fun _ _ h=>h)
  ·intro vs Wx A hA hB hpre;have eg:=tT (hA 14) (by kernel_rfl) (hpre.1 rfl);refine ⟨true,eg,fun _ K hK=>?_,fun h=>absurd rfl h⟩;have e4:=(hA 4).trans (show _=pP p 0 by kernel_rfl);clear hA hpre;go_simp;exact hK _ _ hB rfl (fun _ _ h=>h)
  ·intro vs Wx A hA hB hpre;have eg:=tT (hA 14) (by kernel_rfl) (hpre.2.1 rfl);refine ⟨true,eg,fun _ K hK=>?_,fun h=>absurd rfl h⟩;have e15:=tT (hA 15) (by kernel_rfl) (hpre.1 rfl);obtain ⟨⟨⟨x0,x1,x2,x3,x4⟩,⟨y0,y1,y2,y3,y4,y5⟩⟩,⟨z0,z1,z2,z3,z4⟩⟩:=HXL.out Wx hB;clear hA hpre;go_simp;exact hK _ _ hB rfl (fun _ _ h=>h)
  ·intro vs Wx A hA hB hpre;have eg:=tT (hA 14) (by kernel_rfl) (hpre.1 rfl);refine ⟨true,eg,fun _ K hK=>?_,fun h=>absurd rfl h⟩;have e1:=(hA 1).trans (show _=iI (i:Nat) by kernel_rfl);clear hA hpre;go_simp;exact hK _ _ hB rfl (fun _ _ h=>h)
  ·intro vs Wx A hA hB hpre;have eg:=tT (hA 14) (by kernel_rfl) (hpre.2.2.1 rfl);refine ⟨true,eg,fun _ K hK=>?_,fun h=>absurd rfl h⟩;have e16:=tT (hA 16) (by kernel_rfl) (hpre.1 rfl);have e17:=tT (hA 17) (by kernel_rfl) (hpre.2.1 rfl);clear hA hpre;go_simp;exact hK _ _ hB rfl (fun _ _ h=>h)
  ·intro vs Wx A hA hB hpre;have eg:=tT (hA 14) (by kernel_rfl) (hpre.2.1 rfl);refine ⟨true,eg,fun _ K hK=>?_,fun h=>absurd rfl h⟩;have e18:=tT (hA 18) (by kernel_rfl) (hpre.1 rfl);obtain ⟨⟨⟨x0,x1,x2,x3,x4⟩,⟨y0,y1,y2,y3,y4,y5⟩⟩,⟨z0,z1,z2,z3,z4⟩⟩:=HXL.out Wx hB;clear hA hpre;go_simp;exact hK _ _ hB rfl (fun _ _ h=>h)
  ·intro vs Wx A hA hB hpre;have eg:=tT (hA 14) (by kernel_rfl) (hpre.1 rfl);refine ⟨true,eg,fun _ K hK=>?_,fun h=>absurd rfl h⟩;have e6:=(hA 6).trans (show _=pP q 0 by kernel_rfl);obtain ⟨⟨⟨x0,x1,x2,x3,x4⟩,⟨y0,y1,y2,y3,y4,y5⟩⟩,⟨z0,z1,z2,z3,z4⟩⟩:=HXL.out Wx hB;clear hA hpre;go_simp;exact hK _ _ hB rfl (fun _ _ h=>h)
  ·intro vs Wx A hA hB hpre;have eg:=tT (hA 14) (by kernel_rfl) (hpre.1 rfl);refine ⟨true,eg,fun _ K hK=>?_,fun h=>absurd rfl h⟩;have e3:=(hA 3).trans (show _=iI net by kernel_rfl);clear hA hpre;go_simp;exact hK _ _ hB rfl (fun _ _ h=>h)
  ·intro vs Wx A hA hB hpre;have eg:=tT (hA 14) (by kernel_rfl) (hpre.2.2.2.1 rfl);refine ⟨true,eg,fun _ K hK=>?_,fun h=>absurd rfl h⟩;have e19:=tT (hA 19) (by kernel_rfl) (hpre.1 rfl);have e20:=tT (hA 20) (by kernel_rfl) (hpre.2.1 rfl);have e21:=tT (hA 21) (by kernel_rfl) (hpre.2.2.1 rfl);clear hA hpre;go_simp;go_at_call 123
   refine (HC.out _ hB).mono ?_;rintro e w1 ⟨rfl,hb1⟩;exact hK _ _ (jg hB hb1) rfl (fun _ _ h=>h)
  ·intro vs Wx A hA hB hpre K hK;have e14:=tT (hA 14) (by kernel_rfl) (hpre.1 rfl);have e22:=tT (hA 22) (by kernel_rfl) (hpre.2.1 rfl);clear hA hpre;go_simp;exact hK _ _ hB rfl (fun _ _ h=>h)
  ·intro vs Wx A hA hB hpre K hK;have e23:=tT (hA 23) (by kernel_rfl) (hpre.1 rfl);clear hA hpre;go_simp;exact hK _ _ hB rfl (fun _ _ h=>h)
  ·intro vs Wx hB hF;have h8:vs 15=.bool (eD x net kd):=hF 15 (by decide);have Cn:=zZ hB;clear hF hB;simp only [Ri.puts];go_simp;go_wp2_with fail
   go_meet
   exact ⟨by first|rfl|exact h8,Cn.out⟩
 case rest =>
  obtain ⟨rfl,HBx⟩:=hcut;go_wp2_with fail
  go_ret;exact ⟨by first|rfl|(rw [Bn.out];rfl),by first|exact jf hp HB.out HBx.out|(rw [hp];exact jf hp HB.out HBx.out)⟩
end Ul
end Go.Proofs.YtfbfeoplldjbpaaGreatDoor
