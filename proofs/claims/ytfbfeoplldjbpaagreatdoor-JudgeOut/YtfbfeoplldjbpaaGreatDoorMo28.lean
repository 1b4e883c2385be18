/-
  Texts put together (merge.py): UBen, UPre.
-/
import Derived.Test.YtfbfeoplldjbpaaGreatDoorMo27
import Derived.Test.YtfbfeoplldjbpaaGreatDoorMo26
set_option linter.unusedSimpArgs false
set_option linter.unusedVariables false
set_option maxHeartbeats 16000000
set_option maxRecDepth 100000
section
namespace Go.Proofs.YtfbfeoplldjbpaaGreatDoor.Ul
open Go.RowKit
open Pl (Cd St Ru Pn aX dD bY bW Ok1 cdv stv ruv pnv iU jg jv jU iR jf)
open Wo (jI jQ tV qL)
open Cm (Ln)
abbrev jl (v1 v2 v3 v4:Int):Value:=.agg #[.bool (v1 == 1),.bool (v2 == 1),.int .i64 v3,.int .i64 v4]
abbrev jh (v1 v2 v3 v4:Int):Array Value:=#[.bool (v1 == 1),.bool (v2 == 1),.int .i64 v3,.int .i64 v4]
theorem jw {w:World} {q:Nat} {a0 a1 a2 a3:Value} {T:TypeId} (h:w.heap[q]?=some (.cells #[a0,a1,a2,a3] T (0,0))):(w.cell? ⟨q,0,none⟩=some a0/\w.cell? ⟨q,1,none⟩=some a1/\w.cell? ⟨q,2,none⟩=some a2/\w.cell? ⟨q,3,none⟩=some a3)/\w.frozen? ⟨q,0,none⟩=false/\w.frozen? ⟨q,1,none⟩=false/\w.frozen? ⟨q,2,none⟩=false/\w.frozen? ⟨q,3,none⟩=false:=by
 refine ⟨⟨?_,?_,?_,?_⟩,Lib.frozen_of_heap h 0,Lib.frozen_of_heap h 1,Lib.frozen_of_heap h 2,Lib.frozen_of_heap h 3⟩<;>rw [cell_of_row w q _ _ T (0,0) h]<;>rfl
abbrev BJ (W:World) (b:Nat) (a0 a1 a2 a3:Value):World:=(((W.setCell ⟨b,0,none⟩ a0).setCell ⟨b,1,none⟩ a1).setCell ⟨b,2,none⟩ a2).setCell ⟨b,3,none⟩ a3
theorem BM {W:World} {b:Nat} {c0 c1 c2 c3:Value} {T:TypeId} (h:W.heap[b]?=some (.cells #[c0,c1,c2,c3] T (0,0))) (a0 a1 a2 a3:Value):(BJ W b a0 a1 a2 a3).heap[b]?=some (.cells #[a0,a1,a2,a3] T (0,0)):=by
 have h0:(W.setCell ⟨b,0,none⟩ a0).heap[b]?=some (.cells #[a0,c1,c2,c3] T (0,0)):=heap_setCell_same W b 0 _ _ _ h
 have h1:((W.setCell ⟨b,0,none⟩ a0).setCell ⟨b,1,none⟩ a1).heap[b]?=some (.cells #[a0,a1,c2,c3] T (0,0)):=heap_setCell_same _ b 1 _ _ _ h0
 have h2:(((W.setCell ⟨b,0,none⟩ a0).setCell ⟨b,1,none⟩ a1).setCell ⟨b,2,none⟩ a2).heap[b]?=some (.cells #[a0,a1,a2,c3] T (0,0)):=heap_setCell_same _ b 2 _ _ _ h1
 exact heap_setCell_same _ b 3 _ _ _ h2
theorem BK {B:Nat} {w W:World} (h:Below B w W) (b:Nat) (hb:B<=b) (a0 a1 a2 a3:Value):Below B w (BJ W b a0 a1 a2 a3):=
 (((h.setCell (p:=⟨b,0,none⟩) hb _).setCell (p:=⟨b,1,none⟩) hb _).setCell (p:=⟨b,2,none⟩) hb _).setCell (p:=⟨b,3,none⟩) hb _
theorem jk (q:Nat) (a1 a2 a3 a4 v1 v2 v3 v4:Int) (w:World) (h:ak w q a1 a2 a3 a4 v1 v2 v3 v4) :
  Calls Tryz.prog 85 #[.pointer (some ⟨q,0,none⟩)] w fun e w'=>e=.returned (jl v1 v2 v3 v4)/\Below w.heap.size w w':=by
 have HB:=Lib.hid (iU w (.cells #[.bool false,.bool false,.int .i64 0,.int .i64 0] 99))
 have HZ:=Lib.hid (heap_alloc_new w (.cells #[.bool false,.bool false,.int .i64 0,.int .i64 0] 99))
 have HXK:=Lib.hid fun W' (hW:Below w.heap.size w W')=>(h.far hW).cells
 clear h
 go_enter Tryz.func85,Tryz.ntmps85
 go_upto_region 1 with fail
 generalize w.alloc (.cells #[.bool false,.bool false,.int .i64 0,.int .i64 0] 99)=W at *
 generalize hp:w.heap.size=p at *
 have HD:Hid ((fun Wx=>Below p w Wx/\∃c0 c1 c2 c3,Wx.heap[p]?=some (.cells #[c0,c1,c2,c3] 99 (0,0))) W.drew):=⟨Below.drew HB.out,_,_,_,_,HZ.out⟩
 refine Ri.IY (by kernel_rfl) (by kernel_rfl) (by kernel_rfl) (fun Wx=>Below p w Wx/\∃c0 c1 c2 c3,Wx.heap[p]?=some (.cells #[c0,c1,c2,c3] 99 (0,0))) (fun kz vs wz=>(fun kx vx wx=>match kx with|0=>vx=.pointer (some ⟨q,0,none⟩)|1=>vx=.pointer (some ⟨q,0,none⟩)|2=>vx=.pointer (some ⟨q,5,none⟩)|3=>vx=.pointer (some ⟨q,6,none⟩)|4=>vx=.int .i64 v1|5=>vx=.bool (v1 == 1)|6=>vx=.pointer (some ⟨q,0,none⟩)|7=>vx=.pointer (some ⟨q,0,none⟩)|8=>vx=.pointer (some ⟨q,5,none⟩)|9=>vx=.pointer (some ⟨q,7,none⟩)|10=>vx=.int .i64 v2|11=>vx=.bool (v2 == 1)|12=>vx=.pointer (some ⟨q,0,none⟩)|13=>vx=.pointer (some ⟨q,0,none⟩)|14=>vx=.pointer (some ⟨q,5,none⟩)|15=>vx=.pointer (some ⟨q,8,none⟩)|16=>vx=.int .i64 v3|17=>vx=.pointer (some ⟨q,0,none⟩)|18=>vx=.pointer (some ⟨q,0,none⟩)|19=>vx=.pointer (some ⟨q,5,none⟩)|20=>vx=.pointer (some ⟨q,9,none⟩)|21=>vx=.int .i64 v4|22=>vx=jl v1 v2 v3 v4|23=>wx.heap[p]?=some (.cells (jh v1 v2 v3 v4) 99 (0,0))|_=>True:Nat->Value->World->Prop) kz (vs kz) wz) (fun kz=>[kz]) (by kernel_rfl) (fun jz vs iz vz wz hiz hz=>Ri.wI (F:=(fun kx vx wx=>match kx with|0=>vx=.pointer (some ⟨q,0,none⟩)|1=>vx=.pointer (some ⟨q,0,none⟩)|2=>vx=.pointer (some ⟨q,5,none⟩)|3=>vx=.pointer (some ⟨q,6,none⟩)|4=>vx=.int .i64 v1|5=>vx=.bool (v1 == 1)|6=>vx=.pointer (some ⟨q,0,none⟩)|7=>vx=.pointer (some ⟨q,0,none⟩)|8=>vx=.pointer (some ⟨q,5,none⟩)|9=>vx=.pointer (some ⟨q,7,none⟩)|10=>vx=.int .i64 v2|11=>vx=.bool (v2 == 1)|12=>vx=.pointer (some ⟨q,0,none⟩)|13=>vx=.pointer (some ⟨q,0,none⟩)|14=>vx=.pointer (some ⟨q,5,none⟩)|15=>vx=.pointer (some ⟨q,8,none⟩)|16=>vx=.int .i64 v3|17=>vx=.pointer (some ⟨q,0,none⟩)|18=>vx=.pointer (some ⟨q,0,none⟩)|19=>vx=.pointer (some ⟨q,5,none⟩)|20=>vx=.pointer (some ⟨q,9,none⟩)|21=>vx=.int .i64 v4|22=>vx=jl v1 v2 v3 v4|23=>wx.heap[p]?=some (.cells (jh v1 v2 v3 v4) 99 (0,0))|_=>True:Nat->Value->World->Prop)) jz vs iz vz wz hiz hz) HD.out ⟨⟨rfl,?_⟩,⟨rfl,?_⟩,⟨rfl,?_⟩,⟨rfl,?_⟩,⟨rfl,?_⟩,⟨rfl,?_⟩,⟨rfl,?_⟩,⟨rfl,?_⟩,⟨rfl,?_⟩,⟨rfl,?_⟩,⟨rfl,?_⟩,⟨rfl,?_⟩,⟨rfl,?_⟩,⟨rfl,?_⟩,⟨rfl,?_⟩,⟨rfl,?_⟩,⟨rfl,?_⟩,⟨rfl,?_⟩,⟨rfl,?_⟩,⟨rfl,?_⟩,⟨rfl,?_⟩,⟨rfl,?_⟩,⟨rfl,?_⟩,⟨rfl,?_⟩,trivial⟩ ?_
 ·intro vs Wx A hA hB hpre K hK
  have e0:=(hA 0).trans (show _=Value.pointer (some ⟨q,0,none⟩) by kernel_rfl)
  clear hA hpre
  go_simp
  exact hK _ _ hB rfl (fun _ _ h=>h)
 ·intro vs Wx A hA hB hpre K hK
  have e3:=((hA 3).trans (show _=vs 0 by kernel_rfl)).trans (hpre.1 rfl)
  clear hA hpre
  go_simp
  exact hK _ _ hB rfl (fun _ _ h=>h)
 ·intro vs Wx A hA hB hpre K hK
  have e4:=((hA 4).trans (show _=vs 1 by kernel_rfl)).trans (hpre.1 rfl)
  clear hA hpre
  go_simp
  exact hK _ _ hB rfl (fun _ _ h=>h)
 ·intro vs Wx A hA hB hpre K hK
  have e5:=((hA 5).trans (show _=vs 2 by kernel_rfl)).trans (hpre.1 rfl)
  clear hA hpre
  go_simp
  exact hK _ _ hB rfl (fun _ _ h=>h)
 ·intro vs Wx A hA hB hpre K hK
  have e6:=((hA 6).trans (show _=vs 3 by kernel_rfl)).trans (hpre.1 rfl)
  obtain ⟨c1,c2,c3,c4,d1,d2,d3,d4⟩:=HXK.out Wx hB.1
  clear hA hpre
  go_simp
  exact hK _ _ hB rfl (fun _ _ h=>h)
 ·intro vs Wx A hA hB hpre K hK
  have e7:=((hA 7).trans (show _=vs 4 by kernel_rfl)).trans (hpre.1 rfl)
  clear hA hpre
  go_simp
  exact hK _ _ hB rfl (fun _ _ h=>h)
 ·intro vs Wx A hA hB hpre K hK
  have e0:=(hA 0).trans (show _=Value.pointer (some ⟨q,0,none⟩) by kernel_rfl)
  clear hA hpre
  go_simp
  exact hK _ _ hB rfl (fun _ _ h=>h)
 ·intro vs Wx A hA hB hpre K hK
  have e9:=((hA 9).trans (show _=vs 6 by kernel_rfl)).trans (hpre.1 rfl)
  clear hA hpre
  go_simp
  exact hK _ _ hB rfl (fun _ _ h=>h)
 ·intro vs Wx A hA hB hpre K hK
  have e10:=((hA 10).trans (show _=vs 7 by kernel_rfl)).trans (hpre.1 rfl)
  clear hA hpre
  go_simp
  exact hK _ _ hB rfl (fun _ _ h=>h)
 ·intro vs Wx A hA hB hpre K hK
  have e11:=((hA 11).trans (show _=vs 8 by kernel_rfl)).trans (hpre.1 rfl)
  clear hA hpre
  go_simp
  exact hK _ _ hB rfl (fun _ _ h=>h)
 ·intro vs Wx A hA hB hpre K hK
  have e12:=((hA 12).trans (show _=vs 9 by kernel_rfl)).trans (hpre.1 rfl)
  obtain ⟨c1,c2,c3,c4,d1,d2,d3,d4⟩:=HXK.out Wx hB.1
  clear hA hpre
  go_simp
  exact hK _ _ hB rfl (fun _ _ h=>h)
 ·intro vs Wx A hA hB hpre K hK
  have e13:=((hA 13).trans (show _=vs 10 by kernel_rfl)).trans (hpre.1 rfl)
  clear hA hpre
  go_simp
  exact hK _ _ hB rfl (fun _ _ h=>h)
 ·intro vs Wx A hA hB hpre K hK
  have e0:=(hA 0).trans (show _=Value.pointer (some ⟨q,0,none⟩) by kernel_rfl)
  clear hA hpre
  go_simp
  exact hK _ _ hB rfl (fun _ _ h=>h)
 ·intro vs Wx A hA hB hpre K hK
  have e15:=((hA 15).trans (show _=vs 12 by kernel_rfl)).trans (hpre.1 rfl)
  clear hA hpre
  go_simp
  exact hK _ _ hB rfl (fun _ _ h=>h)
 ·intro vs Wx A hA hB hpre K hK
  have e16:=((hA 16).trans (show _=vs 13 by kernel_rfl)).trans (hpre.1 rfl)
  clear hA hpre
  go_simp
  exact hK _ _ hB rfl (fun _ _ h=>h)
 ·intro vs Wx A hA hB hpre K hK
  have e17:=((hA 17).trans (show _=vs 14 by kernel_rfl)).trans (hpre.1 rfl)
  clear hA hpre
  go_simp
  exact hK _ _ hB rfl (fun _ _ h=>h)
 ·intro vs Wx A hA hB hpre K hK
  have e18:=((hA 18).trans (show _=vs 15 by kernel_rfl)).trans (hpre.1 rfl)
  obtain ⟨c1,c2,c3,c4,d1,d2,d3,d4⟩:=HXK.out Wx hB.1
  clear hA hpre
  go_simp
  exact hK _ _ hB rfl (fun _ _ h=>h)
 ·intro vs Wx A hA hB hpre K hK
  have e0:=(hA 0).trans (show _=Value.pointer (some ⟨q,0,none⟩) by kernel_rfl)
  clear hA hpre
  go_simp
  exact hK _ _ hB rfl (fun _ _ h=>h)
 ·intro vs Wx A hA hB hpre K hK
  have e20:=((hA 20).trans (show _=vs 17 by kernel_rfl)).trans (hpre.1 rfl)
  clear hA hpre
  go_simp
  exact hK _ _ hB rfl (fun _ _ h=>h)
 ·intro vs Wx A hA hB hpre K hK
  have e21:=((hA 21).trans (show _=vs 18 by kernel_rfl)).trans (hpre.1 rfl)
  clear hA hpre
  go_simp
  exact hK _ _ hB rfl (fun _ _ h=>h)
 ·intro vs Wx A hA hB hpre K hK
  have e22:=((hA 22).trans (show _=vs 19 by kernel_rfl)).trans (hpre.1 rfl)
  clear hA hpre
  go_simp
  exact hK _ _ hB rfl (fun _ _ h=>h)
 ·intro vs Wx A hA hB hpre K hK
  have e23:=((hA 23).trans (show _=vs 20 by kernel_rfl)).trans (hpre.1 rfl)
  obtain ⟨c1,c2,c3,c4,d1,d2,d3,d4⟩:=HXK.out Wx hB.1
  clear hA hpre
  go_simp
  exact hK _ _ hB rfl (fun _ _ h=>h)
 ·intro vs Wx A hA hB hpre K hK
  have e8:=((hA 8).trans (show _=vs 5 by kernel_rfl)).trans (hpre.1 rfl)
  have e14:=((hA 14).trans (show _=vs 11 by kernel_rfl)).trans (hpre.2.1 rfl)
  have e19:=((hA 19).trans (show _=vs 16 by kernel_rfl)).trans (hpre.2.2.1 rfl)
  have e24:=((hA 24).trans (show _=vs 21 by kernel_rfl)).trans (hpre.2.2.2.1 rfl)
  clear hA hpre
  go_simp
  exact hK _ _ hB rfl (fun _ _ h=>h)
 ·intro vs Wx A hA hB hpre K hK
  have e2:=(hA 2).trans (show _=Value.pointer (some ⟨p,0,none⟩) by kernel_rfl)
  have e25:=((hA 25).trans (show _=vs 22 by kernel_rfl)).trans (hpre.1 rfl)
  obtain ⟨hB1,c0,c1,c2,c3,hB2⟩:=hB
  obtain ⟨⟨m0,m1,m2,m3⟩,f0,f1,f2,f3⟩:=jw hB2
  have HB1:=Lib.hid hB1
  have HN:=Lib.hid (BM hB2 (.bool (v1 == 1)) (.bool (v2 == 1)) (.int .i64 v3) (.int .i64 v4))
  clear hB1 hB2
  clear hA hpre
  go_simp
  refine hK undef _ ⟨BK HB1.out p (Nat.le_refl _) _ _ _ _,_,_,_,_,HN.out⟩ HN.out (fun jz hj hz=>?_)
  match jz,hj,hz with
  | 0,_,hz=>exact hz
  | 1,_,hz=>exact hz
  | 2,_,hz=>exact hz
  | 3,_,hz=>exact hz
  | 4,_,hz=>exact hz
  | 5,_,hz=>exact hz
  | 6,_,hz=>exact hz
  | 7,_,hz=>exact hz
  | 8,_,hz=>exact hz
  | 9,_,hz=>exact hz
  | 10,_,hz=>exact hz
  | 11,_,hz=>exact hz
  | 12,_,hz=>exact hz
  | 13,_,hz=>exact hz
  | 14,_,hz=>exact hz
  | 15,_,hz=>exact hz
  | 16,_,hz=>exact hz
  | 17,_,hz=>exact hz
  | 18,_,hz=>exact hz
  | 19,_,hz=>exact hz
  | 20,_,hz=>exact hz
  | 21,_,hz=>exact hz
  | 22,_,hz=>exact hz
  | 23,hj,_=>exact absurd rfl hj
  | n+24,_,hz=>exact hz
 ·intro vs Wx hB hF
  have h23:Wx.heap[p]?=some (.cells (jh v1 v2 v3 v4) 99 (0,0)):=hF 23 (by decide)
  obtain ⟨⟨r0,r1,r2,r3⟩,-⟩:=jw h23
  have HBW:=Lib.hid hB.1
  clear hF hB h23
  simp only [Ri.puts]
  go_simp
  go_wp2_with fail
  refine bodyPost_ret (v:=jl v1 v2 v3 v4) (by simp [results,Tryz.results85,go_sem,r0,r1,r2,r3]) rfl ⟨rfl,?_⟩
  first|exact HBW.out|(rw [hp];exact HBW.out)
end Go.Proofs.YtfbfeoplldjbpaaGreatDoor.Ul
end
section
namespace Go.Proofs.YtfbfeoplldjbpaaGreatDoor.Ul
open Go.RowKit
open Pl (Cd St Ru Pn aX dD bY bW Ok1 cdv stv ruv pnv iU jg jv jU iR jf)
open Wo (jI jQ tV qL)
open Cm (Ln)
theorem jL (w:World) (p:Pn) (m:Value) (x:Ln) (ml:Value) :
  Below w.heap.size w (((w.alloc (.cells #[.int .i64 p.mode,.int .i64 p.indDed,.int .i64 p.famDed,.int .i64 p.indOop,.int .i64 p.famOop,m] 24)).alloc (.cells #[.string (mk x.proc),ml,.int .i64 x.date,.int .i64 x.units,.int .i64 x.billed,.int .i64 x.prior] 48)).alloc (.cells #[.bool false,.bool false,.int .i64 0,.int .i64 0] 99))/\(((w.alloc (.cells #[.int .i64 p.mode,.int .i64 p.indDed,.int .i64 p.famDed,.int .i64 p.indOop,.int .i64 p.famOop,m] 24)).alloc (.cells #[.string (mk x.proc),ml,.int .i64 x.date,.int .i64 x.units,.int .i64 x.billed,.int .i64 x.prior] 48)).alloc (.cells #[.bool false,.bool false,.int .i64 0,.int .i64 0] 99)).heap[w.heap.size]?=some (.cells #[.int .i64 p.mode,.int .i64 p.indDed,.int .i64 p.famDed,.int .i64 p.indOop,.int .i64 p.famOop,m] 24 (0,0))/\(((w.alloc (.cells #[.int .i64 p.mode,.int .i64 p.indDed,.int .i64 p.famDed,.int .i64 p.indOop,.int .i64 p.famOop,m] 24)).alloc (.cells #[.string (mk x.proc),ml,.int .i64 x.date,.int .i64 x.units,.int .i64 x.billed,.int .i64 x.prior] 48)).alloc (.cells #[.bool false,.bool false,.int .i64 0,.int .i64 0] 99)).heap[w.heap.size+1]?=some (.cells #[.string (mk x.proc),ml,.int .i64 x.date,.int .i64 x.units,.int .i64 x.billed,.int .i64 x.prior] 48 (0,0))/\(((w.alloc (.cells #[.int .i64 p.mode,.int .i64 p.indDed,.int .i64 p.famDed,.int .i64 p.indOop,.int .i64 p.famOop,m] 24)).alloc (.cells #[.string (mk x.proc),ml,.int .i64 x.date,.int .i64 x.units,.int .i64 x.billed,.int .i64 x.prior] 48)).alloc (.cells #[.bool false,.bool false,.int .i64 0,.int .i64 0] 99)).heap[w.heap.size+2]?=some (.cells #[.bool false,.bool false,.int .i64 0,.int .i64 0] 99 (0,0))/\(((w.alloc (.cells #[.int .i64 p.mode,.int .i64 p.indDed,.int .i64 p.famDed,.int .i64 p.indOop,.int .i64 p.famOop,m] 24)).alloc (.cells #[.string (mk x.proc),ml,.int .i64 x.date,.int .i64 x.units,.int .i64 x.billed,.int .i64 x.prior] 48)).alloc (.cells #[.bool false,.bool false,.int .i64 0,.int .i64 0] 99)).heap.size=w.heap.size+3:=by
 obtain ⟨h1,h2,h3⟩:=jK w p m x ml
 have hb:=iU ((w.alloc (.cells #[.int .i64 p.mode,.int .i64 p.indDed,.int .i64 p.famDed,.int .i64 p.indOop,.int .i64 p.famOop,m] 24)).alloc (.cells #[.string (mk x.proc),ml,.int .i64 x.date,.int .i64 x.units,.int .i64 x.billed,.int .i64 x.prior] 48)) (.cells #[.bool false,.bool false,.int .i64 0,.int .i64 0] 99)
 refine ⟨jg h1 hb,tV h2 hb,tV h3 hb,?_,by simp⟩
 have h:=heap_alloc_new ((w.alloc (.cells #[.int .i64 p.mode,.int .i64 p.indDed,.int .i64 p.famDed,.int .i64 p.indOop,.int .i64 p.famOop,m] 24)).alloc (.cells #[.string (mk x.proc),ml,.int .i64 x.date,.int .i64 x.units,.int .i64 x.billed,.int .i64 x.prior] 48)) (.cells #[.bool false,.bool false,.int .i64 0,.int .i64 0] 99)
 rwa [show ((w.alloc (.cells #[.int .i64 p.mode,.int .i64 p.indDed,.int .i64 p.famDed,.int .i64 p.indOop,.int .i64 p.famOop,m] 24)).alloc (.cells #[.string (mk x.proc),ml,.int .i64 x.date,.int .i64 x.units,.int .i64 x.billed,.int .i64 x.prior] 48)).heap.size=w.heap.size+2 by simp] at h
theorem tX {w w':World} {q b:Nat} {o:Obj} (h:w.heap[b]?=some o) (hb:Below q w w') (hl:b < q):w'.heap[b]?=some o:=by rw [hb.block b hl];exact h
theorem wG {w W:World} {m:Value} {rs:List Ru} {q:Nat} (h:bY All w m rs) (hb:Below w.heap.size w W) (hq:w.heap.size<=q):bY (fun b=>b < q) W m rs:=h.move ⟨hb.size,fun b hl _=>⟨Nat.lt_of_lt_of_le hl hq,hb.block b hl⟩⟩
theorem wH {w W:World} {m:Value} {rs:List Tx} {q:Nat} (h:dI All w m rs) (hb:Below w.heap.size w W) (hq:w.heap.size<=q):dI (fun b=>b < q) W m rs:=dI.move h ⟨hb.size,fun b hl _=>⟨Nat.lt_of_lt_of_le hl hq,hb.block b hl⟩⟩
theorem fJ {w W:World} {m:Value} {rs:List Tx} {q:Nat} (h:dI (fun b=>b < q) w m rs) (hb:Below q w W):dI All W m rs:=dI.move h ⟨hb.size,fun b _ hk=>⟨trivial,hb.block b hk⟩⟩
theorem fE {w W:World} {r:Ru} {k u s:Value} {q:Nat} (h:bW (fun b=>b < q) w r k u s) (hb:Below q w W):bW All W r k u s:=h.move ⟨hb.size,fun b _ hk=>⟨trivial,hb.block b hk⟩⟩
theorem jq (x:Ln) (net k:Int) (l:List Ru) (j:Nat) (r:Ru) (h:l[j]?=some r):jm x net k (l.take (j+1))=F7 x net k (jm x net k (l.take j)) r:=by
 unfold jm
 rw [List.take_add_one,h,List.foldl_append]
 rfl
abbrev ji (x:Ln) (net:Int) (l:List Ru):Value:=jl (Hy x net 1 l) (Hy x net 2 l) (Hy x net 3 l) (Hy x net 4 l)
theorem Hz {x:Ln} {net k A V:Int} {l:List Ru} (h:(A,V)=jm x net k l):Hy x net k l=V:=by unfold Hy;rw [←h]
end Go.Proofs.YtfbfeoplldjbpaaGreatDoor.Ul
end
