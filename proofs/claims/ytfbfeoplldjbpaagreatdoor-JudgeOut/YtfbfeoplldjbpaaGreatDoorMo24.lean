/-
  Texts put together (merge.py): JRef.
-/
import Derived.Test.YtfbfeoplldjbpaaGreatDoorMo19
import Derived.Test.YtfbfeoplldjbpaaGreatDoorMo12
import Derived.Test.YtfbfeoplldjbpaaGreatDoorMo11
import Derived.Test.YtfbfeoplldjbpaaGreatDoorMo15
import Derived.Test.YtfbfeoplldjbpaaGreatDoorMo21
import Derived.Test.YtfbfeoplldjbpaaGreatDoorMo23
import Derived.Test.YtfbfeoplldjbpaaGreatDoorMo5
import Derived.Test.YtfbfeoplldjbpaaGreatDoorMo9
set_option linter.unusedSimpArgs false
set_option linter.unusedVariables false
set_option maxHeartbeats 16000000
set_option maxRecDepth 100000
section
namespace Go.Proofs.YtfbfeoplldjbpaaGreatDoor.Ju
open Go.RowKit
open Ac (Row pU dJ dM jF jG DW DU left cu Own tV qL iU jg jf fK)
open Sh (Ot bD bC bK bE EP EW Dt Du member Jj)
open Cm (Ln Cl bH lnv clv bG aC)
def SvV (q:Nat) (E:Int) (V:Ot) (R:List Row) (cs:Value->Array Value) (w:World) (e:Ending) (w':World):Prop:=
 (∃o:Ot,e=.returned (.tuple #[.agg #[.int .i64 o.al,.int .i64 o.de,.int .i64 o.cp,.int .i64 o.cn,.int .i64 o.plan,.int .i64 o.wr,.int .i64 o.pr,.int .i64 o.deny],.int .i64 E])/\(E=0->o=V))/\w.grownBy w' (some q)/\(E=0->∃v',w'.heap[q]?=some (.cells (cs v') 66 (0,0))/\cu (fun b=>b ≠ q) w' v' R)
theorem grown_of {q:Nat} {w w':World} (h:Below w.heap.size w w'):w.grownBy w' (some q):=⟨h.os,h.tape,h.output,h.size,fun k hk _=>h.block k hk⟩
theorem En {q:Nat} {w w':World} {v:Value} {l:List Row} (h:cu (fun b=>b ≠ q) w v l) (hb:Below w.heap.size w w'):cu (fun b=>b ≠ q) w' v l:=h.move ⟨hb.size,fun b hl hk=>⟨hk,hb.block b hl⟩⟩
theorem GH {q:Nat} {E:Int} {V o:Ot} {R r:List Row} {cs:Value->Array Value} {w w':World} {vr:Value} (hq:w.heap[q]?=some (.cells (cs vr) 66 (0,0))) (hr:cu (fun b=>b ≠ q) w vr r) (hb:Below w.heap.size w w') (ho:E=0->o=V) (hR:E=0->R=r) :
  SvV q E V R cs w (.returned (.tuple #[.agg #[.int .i64 o.al,.int .i64 o.de,.int .i64 o.cp,.int .i64 o.cn,.int .i64 o.plan,.int .i64 o.wr,.int .i64 o.pr,.int .i64 o.deny],.int .i64 E])) w':=
 ⟨⟨o,rfl,ho⟩,grown_of hb,fun h=>⟨vr,tV hq hb,by rw [hR h];exact En hr hb⟩⟩
theorem grown_below {q:Nat} {w W W':World} (h:w.grownBy W (some q)) (hb:Below W.heap.size W W'):w.grownBy W' (some q):=⟨hb.os.trans h.os,hb.tape.trans h.tape,hb.output.trans h.output,Nat.le_trans h.size hb.size,fun k hk hne=>(hb.block k (Nat.lt_of_lt_of_le hk h.size)).trans (h.block k hk hne)⟩
theorem oD {W:World} {k q:Nat} (hne:k ≠ q) (b0 b1 b2 b3 b4 b5 b6 b7:Value):((((((((W.setCell ⟨q,0,none⟩ b0).setCell ⟨q,1,none⟩ b1).setCell ⟨q,2,none⟩ b2).setCell ⟨q,3,none⟩ b3).setCell ⟨q,4,none⟩ b4).setCell ⟨q,5,none⟩ b5).setCell ⟨q,6,none⟩ b6).setCell ⟨q,7,none⟩ b7).heap[k]?=W.heap[k]?:=by
 repeat rw [Below.heap_setCell _ _ _ _ hne]
theorem Ep {B q:Nat} {w:World} {v:Value} {l:List Row} (h:Own B w v l) (hq:q < B):cu (fun b=>b ≠ q) w v l:=Ac.Eo h (fun b hb=>by omega)
theorem Dz (x:Ln) (mx:Value) (why:Int) (w:World) (hm:∃a c,mx=.slice a x.mods.length c) :
  Calls Tryz.prog 45 #[.agg #[.string (mk x.proc),mx,.int .i64 x.date,.int .i64 x.units,.int .i64 x.billed,.int .i64 x.prior],.int .i64 why] w fun e w'=>e=.returned (.tuple #[.agg #[.int .i64 (Du x.billed x.prior why).al,.int .i64 (Du x.billed x.prior why).de,.int .i64 (Du x.billed x.prior why).cp,.int .i64 (Du x.billed x.prior why).cn,.int .i64 (Du x.billed x.prior why).plan,.int .i64 (Du x.billed x.prior why).wr,.int .i64 (Du x.billed x.prior why).pr,.int .i64 (Du x.billed x.prior why).deny],.int .i64 (Dt x.billed x.prior why)])/\Below w.heap.size w w':=by
 obtain ⟨xa,xc,rfl⟩:=hm
 have hbx:Below w.heap.size w ((w.alloc (.cells #[.string (mk x.proc),.slice xa x.mods.length xc,.int .i64 x.date,.int .i64 x.units,.int .i64 x.billed,.int .i64 x.prior] 48)).alloc (.cells #[.int .i64 0,.int .i64 0,.int .i64 0,.int .i64 0,.int .i64 0,.int .i64 0,.int .i64 0,.int .i64 0] 45)):=jg (iU _ _) (iU _ _)
 have hz1:=tV (fK w #[.string (mk x.proc),.slice xa x.mods.length xc,.int .i64 x.date,.int .i64 x.units,.int .i64 x.billed,.int .i64 x.prior] 48) (iU _ (.cells #[.int .i64 0,.int .i64 0,.int .i64 0,.int .i64 0,.int .i64 0,.int .i64 0,.int .i64 0,.int .i64 0] 45))
 have hz2:=fK (w.alloc (.cells #[.string (mk x.proc),.slice xa x.mods.length xc,.int .i64 x.date,.int .i64 x.units,.int .i64 x.billed,.int .i64 x.prior] 48)) #[.int .i64 0,.int .i64 0,.int .i64 0,.int .i64 0,.int .i64 0,.int .i64 0,.int .i64 0,.int .i64 0] 45
 rw [show (w.alloc (.cells #[.string (mk x.proc),.slice xa x.mods.length xc,.int .i64 x.date,.int .i64 x.units,.int .i64 x.billed,.int .i64 x.prior] 48)).heap.size=w.heap.size+1 by simp] at hz2
 have HX:=Lib.hid hz1
 have HY:=Lib.hid hz2
 have HB0:=Lib.hid hbx
 have HR:=Lib.hid fun W=>Sh.Dz x.billed x.prior why W
 generalize Du x.billed x.prior why=V at *
 generalize Dt x.billed x.prior why=E at *
 clear hbx hz1 hz2
 go_enter Tryz.func45,Tryz.ntmps45
 go_upto_region 1 with fail
 generalize ((w.alloc (.cells #[.string (mk x.proc),.slice xa x.mods.length xc,.int .i64 x.date,.int .i64 x.units,.int .i64 x.billed,.int .i64 x.prior] 48)).alloc (.cells #[.int .i64 0,.int .i64 0,.int .i64 0,.int .i64 0,.int .i64 0,.int .i64 0,.int .i64 0,.int .i64 0] 45))=W at *
 generalize hp:w.heap.size=p at *
 obtain ⟨u,hu⟩:∃u,u=p+1:=⟨_,rfl⟩
 have HU:Hid (p<=u):=by show p<=u;omega
 rw [←hu] at HY ⊢
 clear hu
 obtain ⟨x0,x1,x2,x3,x4,x5⟩:=Pl.jU HX.out
 go_wp2_with fail
 try (go_at_call 82)
 refine (HR.out W).mono ?_
 rintro e w1 ⟨rfl,hb1⟩
 have HB1:=Lib.hid (jf hp HB0.out hb1)
 have HY1:=Lib.hid (tV HY.out hb1)
 clear x0 x1 x2 x3 x4 x5 hb1 HX HY HB0 HR
 obtain ⟨b0,b1,b2,b3,b4,b5,b6,b7⟩:=Sh.eight HY1.out
 obtain ⟨f0,f1,f2,f3,f4,f5,f6,f7⟩:=Sh.frz HY1.out
 go_wp2
 clear b0 b1 b2 b3 b4 b5 b6 b7 f0 f1 f2 f3 f4 f5 f6 f7
 have HXF:Hid (((((((((w1.setCell ⟨u,0,none⟩ (.int .i64 V.al)).setCell ⟨u,1,none⟩ (.int .i64 V.de)).setCell ⟨u,2,none⟩ (.int .i64 V.cp)).setCell ⟨u,3,none⟩ (.int .i64 V.cn)).setCell ⟨u,4,none⟩ (.int .i64 V.plan)).setCell ⟨u,5,none⟩ (.int .i64 V.wr)).setCell ⟨u,6,none⟩ (.int .i64 V.pr)).setCell ⟨u,7,none⟩ (.int .i64 V.deny)).heap[u]?=some (.cells #[.int .i64 V.al,.int .i64 V.de,.int .i64 V.cp,.int .i64 V.cn,.int .i64 V.plan,.int .i64 V.wr,.int .i64 V.pr,.int .i64 V.deny] 45 (0,0))):=Sh.BR HY1.out
 have HBF:Hid (Below p w ((((((((w1.setCell ⟨u,0,none⟩ (.int .i64 V.al)).setCell ⟨u,1,none⟩ (.int .i64 V.de)).setCell ⟨u,2,none⟩ (.int .i64 V.cp)).setCell ⟨u,3,none⟩ (.int .i64 V.cn)).setCell ⟨u,4,none⟩ (.int .i64 V.plan)).setCell ⟨u,5,none⟩ (.int .i64 V.wr)).setCell ⟨u,6,none⟩ (.int .i64 V.pr)).setCell ⟨u,7,none⟩ (.int .i64 V.deny))):=Sh.BP HB1.out u HU.out _ _ _ _ _ _ _ _
 generalize ((((((((w1.setCell ⟨u,0,none⟩ (.int .i64 V.al)).setCell ⟨u,1,none⟩ (.int .i64 V.de)).setCell ⟨u,2,none⟩ (.int .i64 V.cp)).setCell ⟨u,3,none⟩ (.int .i64 V.cn)).setCell ⟨u,4,none⟩ (.int .i64 V.plan)).setCell ⟨u,5,none⟩ (.int .i64 V.wr)).setCell ⟨u,6,none⟩ (.int .i64 V.pr)).setCell ⟨u,7,none⟩ (.int .i64 V.deny))=WF at *
 obtain ⟨b0,b1,b2,b3,b4,b5,b6,b7⟩:=Sh.eight HXF.out
 refine bodyPost_ret (v:=.tuple #[.agg #[.int .i64 V.al,.int .i64 V.de,.int .i64 V.cp,.int .i64 V.cn,.int .i64 V.plan,.int .i64 V.wr,.int .i64 V.pr,.int .i64 V.deny],.int .i64 E]) (by simp [results,Tryz.results45,go_sem,b0,b1,b2,b3,b4,b5,b6,b7]) rfl ?_
 exact ⟨rfl,by first|exact HBF.out|(rw [hp];exact HBF.out)⟩
end Go.Proofs.YtfbfeoplldjbpaaGreatDoor.Ju
end
