/-
  Texts put together (merge.py): HSet0, HSetA.
-/
import Derived.Deep.Cut
import Derived.Deep.RegionWith
import Derived.Test.YtfbfeoplldjbpaaGreatDoorMo16
import Derived.Test.YtfbfeoplldjbpaaGreatDoorMo20
set_option linter.unusedSimpArgs false
set_option linter.unusedVariables false
set_option maxHeartbeats 16000000
set_option maxRecDepth 100000
section
namespace Go.Proofs.YtfbfeoplldjbpaaGreatDoor.Sh
open Go.RowKit
theorem EY (bi al pr de cp cn:Int) (w:World) (hAll:[bi,al,pr,de,cp,cn].all Ce.good=false) :
  Calls Tryz.prog 91 #[.int .i64 bi,.int .i64 al,.int .i64 pr,.int .i64 de,.int .i64 cp,.int .i64 cn] w fun e w'=>e=.returned (.tuple #[.agg #[.int .i64 0,.int .i64 0,.int .i64 0,.int .i64 0,.int .i64 0,.int .i64 0,.int .i64 0,.int .i64 0],.int .i64 1])/\Below w.heap.size w w':=by
 have HAM:=Lib.hid (fU [bi,al,pr,de,cp,cn] (w.heap.size+1) 6 6 ((w.alloc (.cells #[.int .i64 0,.int .i64 0,.int .i64 0,.int .i64 0,.int .i64 0,.int .i64 0,.int .i64 0,.int .i64 0] 45)).alloc (.cells #[.int .i64 bi,.int .i64 al,.int .i64 pr,.int .i64 de,.int .i64 cp,.int .i64 cn] 2)) (fM w _ _ _ _) rfl (by simp))
 have HX0:=Lib.hid (tV (fK w #[.int .i64 0,.int .i64 0,.int .i64 0,.int .i64 0,.int .i64 0,.int .i64 0,.int .i64 0,.int .i64 0] 45) (iU (w.alloc (.cells #[.int .i64 0,.int .i64 0,.int .i64 0,.int .i64 0,.int .i64 0,.int .i64 0,.int .i64 0,.int .i64 0] 45)) (.cells #[.int .i64 bi,.int .i64 al,.int .i64 pr,.int .i64 de,.int .i64 cp,.int .i64 cn] 2)))
 have HB0:=Lib.hid (jg (iU w (.cells #[.int .i64 0,.int .i64 0,.int .i64 0,.int .i64 0,.int .i64 0,.int .i64 0,.int .i64 0,.int .i64 0] 45)) (iU (w.alloc (.cells #[.int .i64 0,.int .i64 0,.int .i64 0,.int .i64 0,.int .i64 0,.int .i64 0,.int .i64 0,.int .i64 0] 45)) (.cells #[.int .i64 bi,.int .i64 al,.int .i64 pr,.int .i64 de,.int .i64 cp,.int .i64 cn] 2)))
 have HP0:Hid (w.heap.size < ((w.alloc (.cells #[.int .i64 0,.int .i64 0,.int .i64 0,.int .i64 0,.int .i64 0,.int .i64 0,.int .i64 0,.int .i64 0] 45)).alloc (.cells #[.int .i64 bi,.int .i64 al,.int .i64 pr,.int .i64 de,.int .i64 cp,.int .i64 cn] 2)).heap.size):=lt_of_block HX0.out
 rw [hAll] at HAM
 clear hAll
 go_enter Tryz.func91,Tryz.ntmps91
 go_wp2_with fail
 go_at_call 132
 refine HAM.out.mono ?_
 rintro e w' ⟨rfl,rfl⟩
 clear HAM
 generalize ((w.alloc (.cells #[.int .i64 0,.int .i64 0,.int .i64 0,.int .i64 0,.int .i64 0,.int .i64 0,.int .i64 0,.int .i64 0] 45)).alloc (.cells #[.int .i64 bi,.int .i64 al,.int .i64 pr,.int .i64 de,.int .i64 cp,.int .i64 cn] 2))=W0 at *
 generalize hp:w.heap.size=p at *
 obtain ⟨b0,b1,b2,b3,b4,b5,b6,b7⟩:=eight HX0.out
 obtain ⟨f0,f1,f2,f3,f4,f5,f6,f7⟩:=frz HX0.out
 go_wp2
 clear b0 b1 b2 b3 b4 b5 b6 b7 f0 f1 f2 f3 f4 f5 f6 f7
 have HXF:Hid (((((((((W0.setCell ⟨p,0,none⟩ (.int .i64 0)).setCell ⟨p,1,none⟩ (.int .i64 0)).setCell ⟨p,2,none⟩ (.int .i64 0)).setCell ⟨p,3,none⟩ (.int .i64 0)).setCell ⟨p,4,none⟩ (.int .i64 0)).setCell ⟨p,5,none⟩ (.int .i64 0)).setCell ⟨p,6,none⟩ (.int .i64 0)).setCell ⟨p,7,none⟩ (.int .i64 0)).heap[p]?=some (.cells #[.int .i64 0,.int .i64 0,.int .i64 0,.int .i64 0,.int .i64 0,.int .i64 0,.int .i64 0,.int .i64 0] 45 (0,0))):=BR HX0.out
 have HBF:Hid (Below p w ((((((((W0.setCell ⟨p,0,none⟩ (.int .i64 0)).setCell ⟨p,1,none⟩ (.int .i64 0)).setCell ⟨p,2,none⟩ (.int .i64 0)).setCell ⟨p,3,none⟩ (.int .i64 0)).setCell ⟨p,4,none⟩ (.int .i64 0)).setCell ⟨p,5,none⟩ (.int .i64 0)).setCell ⟨p,6,none⟩ (.int .i64 0)).setCell ⟨p,7,none⟩ (.int .i64 0))):=BP HB0.out p (Nat.le_refl _) _ _ _ _ _ _ _ _
 generalize ((((((((W0.setCell ⟨p,0,none⟩ (.int .i64 0)).setCell ⟨p,1,none⟩ (.int .i64 0)).setCell ⟨p,2,none⟩ (.int .i64 0)).setCell ⟨p,3,none⟩ (.int .i64 0)).setCell ⟨p,4,none⟩ (.int .i64 0)).setCell ⟨p,5,none⟩ (.int .i64 0)).setCell ⟨p,6,none⟩ (.int .i64 0)).setCell ⟨p,7,none⟩ (.int .i64 0))=WF at *
 obtain ⟨b0,b1,b2,b3,b4,b5,b6,b7⟩:=eight HXF.out
 try simp only [Exit.inBlock,Exit.then]
 refine bodyPost_ret (v:=.tuple #[.agg #[.int .i64 0,.int .i64 0,.int .i64 0,.int .i64 0,.int .i64 0,.int .i64 0,.int .i64 0,.int .i64 0],.int .i64 1]) (by simp [results,Tryz.results91,go_sem,b0,b1,b2,b3,b4,b5,b6,b7]) rfl ?_
 exact ⟨rfl,by first|exact HBF.out|(rw [hp];exact HBF.out)⟩
theorem E5 (bi al pr de cp cn:Int) (w:World) (bi0:0<=bi) (bi1:bi<=10000000000000) (al0:0<=al) (al1:al<=10000000000000) (pr0:0<=pr) (pr1:pr<=10000000000000) (de0:0<=de) (de1:de<=10000000000000) (cp0:0<=cp) (cp1:cp<=10000000000000) (cn0:0<=cn) (cn1:cn<=10000000000000) (hAll:[bi,al,pr,de,cp,cn].all Ce.good=true) (h1:bi < al) :
  Calls Tryz.prog 91 #[.int .i64 bi,.int .i64 al,.int .i64 pr,.int .i64 de,.int .i64 cp,.int .i64 cn] w fun e w'=>e=.returned (.tuple #[.agg #[.int .i64 0,.int .i64 0,.int .i64 0,.int .i64 0,.int .i64 0,.int .i64 0,.int .i64 0,.int .i64 0],.int .i64 3])/\Below w.heap.size w w':=by
 have HAM:=Lib.hid (fU [bi,al,pr,de,cp,cn] (w.heap.size+1) 6 6 ((w.alloc (.cells #[.int .i64 0,.int .i64 0,.int .i64 0,.int .i64 0,.int .i64 0,.int .i64 0,.int .i64 0,.int .i64 0] 45)).alloc (.cells #[.int .i64 bi,.int .i64 al,.int .i64 pr,.int .i64 de,.int .i64 cp,.int .i64 cn] 2)) (fM w _ _ _ _) rfl (by simp))
 have HX0:=Lib.hid (tV (fK w #[.int .i64 0,.int .i64 0,.int .i64 0,.int .i64 0,.int .i64 0,.int .i64 0,.int .i64 0,.int .i64 0] 45) (iU (w.alloc (.cells #[.int .i64 0,.int .i64 0,.int .i64 0,.int .i64 0,.int .i64 0,.int .i64 0,.int .i64 0,.int .i64 0] 45)) (.cells #[.int .i64 bi,.int .i64 al,.int .i64 pr,.int .i64 de,.int .i64 cp,.int .i64 cn] 2)))
 have HB0:=Lib.hid (jg (iU w (.cells #[.int .i64 0,.int .i64 0,.int .i64 0,.int .i64 0,.int .i64 0,.int .i64 0,.int .i64 0,.int .i64 0] 45)) (iU (w.alloc (.cells #[.int .i64 0,.int .i64 0,.int .i64 0,.int .i64 0,.int .i64 0,.int .i64 0,.int .i64 0,.int .i64 0] 45)) (.cells #[.int .i64 bi,.int .i64 al,.int .i64 pr,.int .i64 de,.int .i64 cp,.int .i64 cn] 2)))
 have HP0:Hid (w.heap.size < ((w.alloc (.cells #[.int .i64 0,.int .i64 0,.int .i64 0,.int .i64 0,.int .i64 0,.int .i64 0,.int .i64 0,.int .i64 0] 45)).alloc (.cells #[.int .i64 bi,.int .i64 al,.int .i64 pr,.int .i64 de,.int .i64 cp,.int .i64 cn] 2)).heap.size):=lt_of_block HX0.out
 rw [hAll] at HAM
 clear hAll
 go_enter Tryz.func91,Tryz.ntmps91
 go_wp2_with fail
 go_at_call 132
 refine HAM.out.mono ?_
 rintro e w' ⟨rfl,rfl⟩
 clear HAM
 generalize ((w.alloc (.cells #[.int .i64 0,.int .i64 0,.int .i64 0,.int .i64 0,.int .i64 0,.int .i64 0,.int .i64 0,.int .i64 0] 45)).alloc (.cells #[.int .i64 bi,.int .i64 al,.int .i64 pr,.int .i64 de,.int .i64 cp,.int .i64 cn] 2))=W0 at *
 generalize hp:w.heap.size=p at *
 obtain ⟨b0,b1,b2,b3,b4,b5,b6,b7⟩:=eight HX0.out
 obtain ⟨f0,f1,f2,f3,f4,f5,f6,f7⟩:=frz HX0.out
 go_wp2
 clear b0 b1 b2 b3 b4 b5 b6 b7 f0 f1 f2 f3 f4 f5 f6 f7
 have HXF:Hid (((((((((W0.setCell ⟨p,0,none⟩ (.int .i64 0)).setCell ⟨p,1,none⟩ (.int .i64 0)).setCell ⟨p,2,none⟩ (.int .i64 0)).setCell ⟨p,3,none⟩ (.int .i64 0)).setCell ⟨p,4,none⟩ (.int .i64 0)).setCell ⟨p,5,none⟩ (.int .i64 0)).setCell ⟨p,6,none⟩ (.int .i64 0)).setCell ⟨p,7,none⟩ (.int .i64 0)).heap[p]?=some (.cells #[.int .i64 0,.int .i64 0,.int .i64 0,.int .i64 0,.int .i64 0,.int .i64 0,.int .i64 0,.int .i64 0] 45 (0,0))):=BR HX0.out
 have HBF:Hid (Below p w ((((((((W0.setCell ⟨p,0,none⟩ (.int .i64 0)).setCell ⟨p,1,none⟩ (.int .i64 0)).setCell ⟨p,2,none⟩ (.int .i64 0)).setCell ⟨p,3,none⟩ (.int .i64 0)).setCell ⟨p,4,none⟩ (.int .i64 0)).setCell ⟨p,5,none⟩ (.int .i64 0)).setCell ⟨p,6,none⟩ (.int .i64 0)).setCell ⟨p,7,none⟩ (.int .i64 0))):=BP HB0.out p (Nat.le_refl _) _ _ _ _ _ _ _ _
 generalize ((((((((W0.setCell ⟨p,0,none⟩ (.int .i64 0)).setCell ⟨p,1,none⟩ (.int .i64 0)).setCell ⟨p,2,none⟩ (.int .i64 0)).setCell ⟨p,3,none⟩ (.int .i64 0)).setCell ⟨p,4,none⟩ (.int .i64 0)).setCell ⟨p,5,none⟩ (.int .i64 0)).setCell ⟨p,6,none⟩ (.int .i64 0)).setCell ⟨p,7,none⟩ (.int .i64 0))=WF at *
 obtain ⟨b0,b1,b2,b3,b4,b5,b6,b7⟩:=eight HXF.out
 try simp only [Exit.inBlock,Exit.then]
 refine bodyPost_ret (v:=.tuple #[.agg #[.int .i64 0,.int .i64 0,.int .i64 0,.int .i64 0,.int .i64 0,.int .i64 0,.int .i64 0,.int .i64 0],.int .i64 3]) (by simp [results,Tryz.results91,go_sem,b0,b1,b2,b3,b4,b5,b6,b7]) rfl ?_
 exact ⟨rfl,by first|exact HBF.out|(rw [hp];exact HBF.out)⟩
theorem E8 (bi al pr de cp cn:Int) (w:World) (bi0:0<=bi) (bi1:bi<=10000000000000) (al0:0<=al) (al1:al<=10000000000000) (pr0:0<=pr) (pr1:pr<=10000000000000) (de0:0<=de) (de1:de<=10000000000000) (cp0:0<=cp) (cp1:cp<=10000000000000) (cn0:0<=cn) (cn1:cn<=10000000000000) (hAll:[bi,al,pr,de,cp,cn].all Ce.good=true) (h1:¬ bi < al) (h2:bi < pr) :
  Calls Tryz.prog 91 #[.int .i64 bi,.int .i64 al,.int .i64 pr,.int .i64 de,.int .i64 cp,.int .i64 cn] w fun e w'=>e=.returned (.tuple #[.agg #[.int .i64 0,.int .i64 0,.int .i64 0,.int .i64 0,.int .i64 0,.int .i64 0,.int .i64 0,.int .i64 0],.int .i64 3])/\Below w.heap.size w w':=by
 have HAM:=Lib.hid (fU [bi,al,pr,de,cp,cn] (w.heap.size+1) 6 6 ((w.alloc (.cells #[.int .i64 0,.int .i64 0,.int .i64 0,.int .i64 0,.int .i64 0,.int .i64 0,.int .i64 0,.int .i64 0] 45)).alloc (.cells #[.int .i64 bi,.int .i64 al,.int .i64 pr,.int .i64 de,.int .i64 cp,.int .i64 cn] 2)) (fM w _ _ _ _) rfl (by simp))
 have HX0:=Lib.hid (tV (fK w #[.int .i64 0,.int .i64 0,.int .i64 0,.int .i64 0,.int .i64 0,.int .i64 0,.int .i64 0,.int .i64 0] 45) (iU (w.alloc (.cells #[.int .i64 0,.int .i64 0,.int .i64 0,.int .i64 0,.int .i64 0,.int .i64 0,.int .i64 0,.int .i64 0] 45)) (.cells #[.int .i64 bi,.int .i64 al,.int .i64 pr,.int .i64 de,.int .i64 cp,.int .i64 cn] 2)))
 have HB0:=Lib.hid (jg (iU w (.cells #[.int .i64 0,.int .i64 0,.int .i64 0,.int .i64 0,.int .i64 0,.int .i64 0,.int .i64 0,.int .i64 0] 45)) (iU (w.alloc (.cells #[.int .i64 0,.int .i64 0,.int .i64 0,.int .i64 0,.int .i64 0,.int .i64 0,.int .i64 0,.int .i64 0] 45)) (.cells #[.int .i64 bi,.int .i64 al,.int .i64 pr,.int .i64 de,.int .i64 cp,.int .i64 cn] 2)))
 have HP0:Hid (w.heap.size < ((w.alloc (.cells #[.int .i64 0,.int .i64 0,.int .i64 0,.int .i64 0,.int .i64 0,.int .i64 0,.int .i64 0,.int .i64 0] 45)).alloc (.cells #[.int .i64 bi,.int .i64 al,.int .i64 pr,.int .i64 de,.int .i64 cp,.int .i64 cn] 2)).heap.size):=lt_of_block HX0.out
 rw [hAll] at HAM
 clear hAll
 go_enter Tryz.func91,Tryz.ntmps91
 go_wp2_with fail
 go_at_call 132
 refine HAM.out.mono ?_
 rintro e w' ⟨rfl,rfl⟩
 clear HAM
 generalize ((w.alloc (.cells #[.int .i64 0,.int .i64 0,.int .i64 0,.int .i64 0,.int .i64 0,.int .i64 0,.int .i64 0,.int .i64 0] 45)).alloc (.cells #[.int .i64 bi,.int .i64 al,.int .i64 pr,.int .i64 de,.int .i64 cp,.int .i64 cn] 2))=W0 at *
 generalize hp:w.heap.size=p at *
 obtain ⟨b0,b1,b2,b3,b4,b5,b6,b7⟩:=eight HX0.out
 obtain ⟨f0,f1,f2,f3,f4,f5,f6,f7⟩:=frz HX0.out
 go_wp2
 clear b0 b1 b2 b3 b4 b5 b6 b7 f0 f1 f2 f3 f4 f5 f6 f7
 have HXF:Hid (((((((((W0.setCell ⟨p,0,none⟩ (.int .i64 0)).setCell ⟨p,1,none⟩ (.int .i64 0)).setCell ⟨p,2,none⟩ (.int .i64 0)).setCell ⟨p,3,none⟩ (.int .i64 0)).setCell ⟨p,4,none⟩ (.int .i64 0)).setCell ⟨p,5,none⟩ (.int .i64 0)).setCell ⟨p,6,none⟩ (.int .i64 0)).setCell ⟨p,7,none⟩ (.int .i64 0)).heap[p]?=some (.cells #[.int .i64 0,.int .i64 0,.int .i64 0,.int .i64 0,.int .i64 0,.int .i64 0,.int .i64 0,.int .i64 0] 45 (0,0))):=BR HX0.out
 have HBF:Hid (Below p w ((((((((W0.setCell ⟨p,0,none⟩ (.int .i64 0)).setCell ⟨p,1,none⟩ (.int .i64 0)).setCell ⟨p,2,none⟩ (.int .i64 0)).setCell ⟨p,3,none⟩ (.int .i64 0)).setCell ⟨p,4,none⟩ (.int .i64 0)).setCell ⟨p,5,none⟩ (.int .i64 0)).setCell ⟨p,6,none⟩ (.int .i64 0)).setCell ⟨p,7,none⟩ (.int .i64 0))):=BP HB0.out p (Nat.le_refl _) _ _ _ _ _ _ _ _
 generalize ((((((((W0.setCell ⟨p,0,none⟩ (.int .i64 0)).setCell ⟨p,1,none⟩ (.int .i64 0)).setCell ⟨p,2,none⟩ (.int .i64 0)).setCell ⟨p,3,none⟩ (.int .i64 0)).setCell ⟨p,4,none⟩ (.int .i64 0)).setCell ⟨p,5,none⟩ (.int .i64 0)).setCell ⟨p,6,none⟩ (.int .i64 0)).setCell ⟨p,7,none⟩ (.int .i64 0))=WF at *
 obtain ⟨b0,b1,b2,b3,b4,b5,b6,b7⟩:=eight HXF.out
 try simp only [Exit.inBlock,Exit.then]
 refine bodyPost_ret (v:=.tuple #[.agg #[.int .i64 0,.int .i64 0,.int .i64 0,.int .i64 0,.int .i64 0,.int .i64 0,.int .i64 0,.int .i64 0],.int .i64 3]) (by simp [results,Tryz.results91,go_sem,b0,b1,b2,b3,b4,b5,b6,b7]) rfl ?_
 exact ⟨rfl,by first|exact HBF.out|(rw [hp];exact HBF.out)⟩
theorem Fa (bi al pr de cp cn:Int) (w:World) (bi0:0<=bi) (bi1:bi<=10000000000000) (al0:0<=al) (al1:al<=10000000000000) (pr0:0<=pr) (pr1:pr<=10000000000000) (de0:0<=de) (de1:de<=10000000000000) (cp0:0<=cp) (cp1:cp<=10000000000000) (cn0:0<=cn) (cn1:cn<=10000000000000) (hAll:[bi,al,pr,de,cp,cn].all Ce.good=true) (h1:¬ bi < al) (h2:¬ bi < pr) (h3:al < de+cp+cn) :
  Calls Tryz.prog 91 #[.int .i64 bi,.int .i64 al,.int .i64 pr,.int .i64 de,.int .i64 cp,.int .i64 cn] w fun e w'=>e=.returned (.tuple #[.agg #[.int .i64 0,.int .i64 0,.int .i64 0,.int .i64 0,.int .i64 0,.int .i64 0,.int .i64 0,.int .i64 0],.int .i64 3])/\Below w.heap.size w w':=by
 have HAM:=Lib.hid (fU [bi,al,pr,de,cp,cn] (w.heap.size+1) 6 6 ((w.alloc (.cells #[.int .i64 0,.int .i64 0,.int .i64 0,.int .i64 0,.int .i64 0,.int .i64 0,.int .i64 0,.int .i64 0] 45)).alloc (.cells #[.int .i64 bi,.int .i64 al,.int .i64 pr,.int .i64 de,.int .i64 cp,.int .i64 cn] 2)) (fM w _ _ _ _) rfl (by simp))
 have HX0:=Lib.hid (tV (fK w #[.int .i64 0,.int .i64 0,.int .i64 0,.int .i64 0,.int .i64 0,.int .i64 0,.int .i64 0,.int .i64 0] 45) (iU (w.alloc (.cells #[.int .i64 0,.int .i64 0,.int .i64 0,.int .i64 0,.int .i64 0,.int .i64 0,.int .i64 0,.int .i64 0] 45)) (.cells #[.int .i64 bi,.int .i64 al,.int .i64 pr,.int .i64 de,.int .i64 cp,.int .i64 cn] 2)))
 have HB0:=Lib.hid (jg (iU w (.cells #[.int .i64 0,.int .i64 0,.int .i64 0,.int .i64 0,.int .i64 0,.int .i64 0,.int .i64 0,.int .i64 0] 45)) (iU (w.alloc (.cells #[.int .i64 0,.int .i64 0,.int .i64 0,.int .i64 0,.int .i64 0,.int .i64 0,.int .i64 0,.int .i64 0] 45)) (.cells #[.int .i64 bi,.int .i64 al,.int .i64 pr,.int .i64 de,.int .i64 cp,.int .i64 cn] 2)))
 have HP0:Hid (w.heap.size < ((w.alloc (.cells #[.int .i64 0,.int .i64 0,.int .i64 0,.int .i64 0,.int .i64 0,.int .i64 0,.int .i64 0,.int .i64 0] 45)).alloc (.cells #[.int .i64 bi,.int .i64 al,.int .i64 pr,.int .i64 de,.int .i64 cp,.int .i64 cn] 2)).heap.size):=lt_of_block HX0.out
 rw [hAll] at HAM
 clear hAll
 go_enter Tryz.func91,Tryz.ntmps91
 go_wp2_with fail
 go_at_call 132
 refine HAM.out.mono ?_
 rintro e w' ⟨rfl,rfl⟩
 clear HAM
 generalize ((w.alloc (.cells #[.int .i64 0,.int .i64 0,.int .i64 0,.int .i64 0,.int .i64 0,.int .i64 0,.int .i64 0,.int .i64 0] 45)).alloc (.cells #[.int .i64 bi,.int .i64 al,.int .i64 pr,.int .i64 de,.int .i64 cp,.int .i64 cn] 2))=W0 at *
 generalize hp:w.heap.size=p at *
 obtain ⟨b0,b1,b2,b3,b4,b5,b6,b7⟩:=eight HX0.out
 obtain ⟨f0,f1,f2,f3,f4,f5,f6,f7⟩:=frz HX0.out
 go_wp2
 clear b0 b1 b2 b3 b4 b5 b6 b7 f0 f1 f2 f3 f4 f5 f6 f7
 have HXF:Hid (((((((((W0.setCell ⟨p,0,none⟩ (.int .i64 0)).setCell ⟨p,1,none⟩ (.int .i64 0)).setCell ⟨p,2,none⟩ (.int .i64 0)).setCell ⟨p,3,none⟩ (.int .i64 0)).setCell ⟨p,4,none⟩ (.int .i64 0)).setCell ⟨p,5,none⟩ (.int .i64 0)).setCell ⟨p,6,none⟩ (.int .i64 0)).setCell ⟨p,7,none⟩ (.int .i64 0)).heap[p]?=some (.cells #[.int .i64 0,.int .i64 0,.int .i64 0,.int .i64 0,.int .i64 0,.int .i64 0,.int .i64 0,.int .i64 0] 45 (0,0))):=BR HX0.out
 have HBF:Hid (Below p w ((((((((W0.setCell ⟨p,0,none⟩ (.int .i64 0)).setCell ⟨p,1,none⟩ (.int .i64 0)).setCell ⟨p,2,none⟩ (.int .i64 0)).setCell ⟨p,3,none⟩ (.int .i64 0)).setCell ⟨p,4,none⟩ (.int .i64 0)).setCell ⟨p,5,none⟩ (.int .i64 0)).setCell ⟨p,6,none⟩ (.int .i64 0)).setCell ⟨p,7,none⟩ (.int .i64 0))):=BP HB0.out p (Nat.le_refl _) _ _ _ _ _ _ _ _
 generalize ((((((((W0.setCell ⟨p,0,none⟩ (.int .i64 0)).setCell ⟨p,1,none⟩ (.int .i64 0)).setCell ⟨p,2,none⟩ (.int .i64 0)).setCell ⟨p,3,none⟩ (.int .i64 0)).setCell ⟨p,4,none⟩ (.int .i64 0)).setCell ⟨p,5,none⟩ (.int .i64 0)).setCell ⟨p,6,none⟩ (.int .i64 0)).setCell ⟨p,7,none⟩ (.int .i64 0))=WF at *
 obtain ⟨b0,b1,b2,b3,b4,b5,b6,b7⟩:=eight HXF.out
 try simp only [Exit.inBlock,Exit.then]
 refine bodyPost_ret (v:=.tuple #[.agg #[.int .i64 0,.int .i64 0,.int .i64 0,.int .i64 0,.int .i64 0,.int .i64 0,.int .i64 0,.int .i64 0],.int .i64 3]) (by simp [results,Tryz.results91,go_sem,b0,b1,b2,b3,b4,b5,b6,b7]) rfl ?_
 exact ⟨rfl,by first|exact HBF.out|(rw [hp];exact HBF.out)⟩
end Go.Proofs.YtfbfeoplldjbpaaGreatDoor.Sh
end
section
namespace Go.Proofs.YtfbfeoplldjbpaaGreatDoor.Sh
open Go.RowKit
theorem EX (bi al pr de cp cn:Int) (w:World) (bi0:0<=bi) (bi1:bi<=10000000000000) (al0:0<=al) (al1:al<=10000000000000) (pr0:0<=pr) (pr1:pr<=10000000000000) (de0:0<=de) (de1:de<=10000000000000) (cp0:0<=cp) (cp1:cp<=10000000000000) (cn0:0<=cn) (cn1:cn<=10000000000000) (hAll:[bi,al,pr,de,cp,cn].all Ce.good=true) (h1:¬ bi < al) (h2:¬ bi < pr) (h3:¬ al < de+cp+cn) (R P D C K M l1 l2 l3 l4:Int) (HR:Hid (max (al - pr) 0=R)) (N1:Hid (Fits (al - (de+cp+cn)) R P l1)) (N2:Hid (Fits de l1 D l2)) (N3:Hid (Fits cp l2 C l3)) (N4:Hid (Fits cn l3 K l4)) (HM:Hid (∀w:World,Calls Tryz.prog 135 #[.agg #[.int .i64 al,.int .i64 D,.int .i64 C,.int .i64 K,.int .i64 P,.int .i64 0,.int .i64 pr,.int .i64 0]] w fun e w'=>e=.returned (.int .i64 M)/\Below w.heap.size w w')) (P0:0<=P) (P1:P<=10000000000000) (M0:0<=M) (M1:M<=10000000000000) :
  Calls Tryz.prog 91 #[.int .i64 bi,.int .i64 al,.int .i64 pr,.int .i64 de,.int .i64 cp,.int .i64 cn] w fun e w'=>e=.returned (.tuple #[.agg #[.int .i64 al,.int .i64 D,.int .i64 C,.int .i64 K,.int .i64 P,.int .i64 (bi - pr - P - M),.int .i64 pr,.int .i64 0],.int .i64 0])/\Below w.heap.size w w':=by
 have HAM:=Lib.hid (fU [bi,al,pr,de,cp,cn] (w.heap.size+1) 6 6 ((w.alloc (.cells #[.int .i64 0,.int .i64 0,.int .i64 0,.int .i64 0,.int .i64 0,.int .i64 0,.int .i64 0,.int .i64 0] 45)).alloc (.cells #[.int .i64 bi,.int .i64 al,.int .i64 pr,.int .i64 de,.int .i64 cp,.int .i64 cn] 2)) (fM w _ _ _ _) rfl (by simp))
 have HX0:=Lib.hid (tV (fK w #[.int .i64 0,.int .i64 0,.int .i64 0,.int .i64 0,.int .i64 0,.int .i64 0,.int .i64 0,.int .i64 0] 45) (iU (w.alloc (.cells #[.int .i64 0,.int .i64 0,.int .i64 0,.int .i64 0,.int .i64 0,.int .i64 0,.int .i64 0,.int .i64 0] 45)) (.cells #[.int .i64 bi,.int .i64 al,.int .i64 pr,.int .i64 de,.int .i64 cp,.int .i64 cn] 2)))
 have HB0:=Lib.hid (jg (iU w (.cells #[.int .i64 0,.int .i64 0,.int .i64 0,.int .i64 0,.int .i64 0,.int .i64 0,.int .i64 0,.int .i64 0] 45)) (iU (w.alloc (.cells #[.int .i64 0,.int .i64 0,.int .i64 0,.int .i64 0,.int .i64 0,.int .i64 0,.int .i64 0,.int .i64 0] 45)) (.cells #[.int .i64 bi,.int .i64 al,.int .i64 pr,.int .i64 de,.int .i64 cp,.int .i64 cn] 2)))
 have HP0:Hid (w.heap.size < ((w.alloc (.cells #[.int .i64 0,.int .i64 0,.int .i64 0,.int .i64 0,.int .i64 0,.int .i64 0,.int .i64 0,.int .i64 0] 45)).alloc (.cells #[.int .i64 bi,.int .i64 al,.int .i64 pr,.int .i64 de,.int .i64 cp,.int .i64 cn] 2)).heap.size):=lt_of_block HX0.out
 rw [hAll] at HAM
 clear hAll
 go_enter Tryz.func91,Tryz.ntmps91
 go_wp2_with fail
 go_at_call 132
 refine HAM.out.mono ?_
 rintro e w' ⟨rfl,rfl⟩
 clear HAM
 generalize ((w.alloc (.cells #[.int .i64 0,.int .i64 0,.int .i64 0,.int .i64 0,.int .i64 0,.int .i64 0,.int .i64 0,.int .i64 0] 45)).alloc (.cells #[.int .i64 bi,.int .i64 al,.int .i64 pr,.int .i64 de,.int .i64 cp,.int .i64 cn] 2))=W0 at *
 generalize hp:w.heap.size=p at *
 obtain ⟨b0,b1,b2,b3,b4,b5,b6,b7⟩:=eight HX0.out
 obtain ⟨f0,f1,f2,f3,f4,f5,f6,f7⟩:=frz HX0.out
 go_upto_region 6 with fail
 clear b0 b1 b2 b3 b4 b5 b6 b7 f0 f1 f2 f3 f4 f5 f6 f7
 have HO1:=Lib.hid (fK W0 #[.int .i64 al,.int .i64 0,.int .i64 0,.int .i64 0,.int .i64 0,.int .i64 0,.int .i64 pr,.int .i64 0] 45)
 have HX1:=Lib.hid (tV HX0.out (iU W0 (.cells #[.int .i64 al,.int .i64 0,.int .i64 0,.int .i64 0,.int .i64 0,.int .i64 0,.int .i64 pr,.int .i64 0] 45)))
 have HB1:=Lib.hid (jc HB0.out (iU W0 (.cells #[.int .i64 al,.int .i64 0,.int .i64 0,.int .i64 0,.int .i64 0,.int .i64 0,.int .i64 pr,.int .i64 0] 45)) (Nat.le_of_lt HP0.out))
 go_upto_region 7 with fail
 generalize hq:W0.heap.size=q at *
 have HPQ:=Lib.hid HP0.out
 generalize (W0.alloc (.cells #[.int .i64 al,.int .i64 0,.int .i64 0,.int .i64 0,.int .i64 0,.int .i64 0,.int .i64 pr,.int .i64 0] 45))=W1 at *
 have HQ1:=Lib.hid (lt_of_block HO1.out)
 go_wp2_with fail
 go_at_call 133
 refine (from_new (max (al - pr) 0) W1).mono ?_
 rintro e w2 ⟨rfl,hl,hb⟩
 rw [HR.out] at hl
 have HX2:=Lib.hid (tV HX1.out hb)
 have HO2:=Lib.hid (tV HO1.out hb)
 have HB2:=Lib.hid (jc HB1.out hb (Nat.le_of_lt (Nat.lt_trans HPQ.out HQ1.out)))
 have HL2:=Lib.hid hl
 have HQL:=Lib.hid (Nat.ne_of_lt HQ1.out)
 have HPL:=Lib.hid (Nat.ne_of_lt (Nat.lt_trans HPQ.out HQ1.out))
 have HPl:=Lib.hid (Nat.le_of_lt (Nat.lt_trans HPQ.out HQ1.out))
 clear hl hb
 generalize W1.heap.size=L at *
 go_wp2_with fail
 go_at_call 157
 refine (GY (al - (de+cp+cn)) R P l1 L w2 HL2.out N1.out).mono ?_
 rintro e w3 ⟨rfl,ht⟩
 have HX3:=Lib.hid (ht.keep HX2.out HPL.out)
 have HO3:=Lib.hid (ht.keep HO2.out HQL.out)
 have HB3:=Lib.hid (je HB2.out ht HPl.out)
 have HL3:=Lib.hid ht.2.1
 clear ht HL2
 obtain ⟨b0,b1,b2,b3,b4,b5,b6,b7⟩:=eight HO3.out
 obtain ⟨f0,f1,f2,f3,f4,f5,f6,f7⟩:=frz HO3.out
 go_wp2_with fail
 clear b0 b1 b2 b3 b4 b5 b6 b7 f0 f1 f2 f3 f4 f5 f6 f7
 have HX4:=Lib.hid (qL (j:=4) (u:=.int .i64 P) HX3.out (Nat.ne_of_lt HPQ.out))
 have HL4:=Lib.hid (qL (j:=4) (u:=.int .i64 P) HL3.out (Ne.symm HQL.out))
 have HB4:=Lib.hid (HB3.out.setCell (p:=⟨q,4,none⟩) (Nat.le_of_lt HPQ.out) (.int .i64 P))
 have HO4:Hid ((w3.setCell ⟨q,4,none⟩ (.int .i64 P)).heap[q]?=some (.cells #[.int .i64 al,.int .i64 0,.int .i64 0,.int .i64 0,.int .i64 P,.int .i64 0,.int .i64 pr,.int .i64 0] 45 (0,0))):=by show _=_;rw [heap_set HO3.out];rfl
 generalize w3.setCell ⟨q,4,none⟩ (.int .i64 P)=w4 at *
 go_wp2_with fail
 go_at_call 157
 refine (GY de l1 D l2 L w4 HL4.out N2.out).mono ?_
 rintro e w5 ⟨rfl,ht⟩
 have HX5:=Lib.hid (ht.keep HX4.out HPL.out)
 have HO5:=Lib.hid (ht.keep HO4.out HQL.out)
 have HB5:=Lib.hid (je HB4.out ht HPl.out)
 have HL5:=Lib.hid ht.2.1
 clear ht HL4
 obtain ⟨b0,b1,b2,b3,b4,b5,b6,b7⟩:=eight HO5.out
 obtain ⟨f0,f1,f2,f3,f4,f5,f6,f7⟩:=frz HO5.out
 go_wp2_with fail
 clear b0 b1 b2 b3 b4 b5 b6 b7 f0 f1 f2 f3 f4 f5 f6 f7
 have HX6:=Lib.hid (qL (j:=1) (u:=.int .i64 D) HX5.out (Nat.ne_of_lt HPQ.out))
 have HL6:=Lib.hid (qL (j:=1) (u:=.int .i64 D) HL5.out (Ne.symm HQL.out))
 have HB6:=Lib.hid (HB5.out.setCell (p:=⟨q,1,none⟩) (Nat.le_of_lt HPQ.out) (.int .i64 D))
 have HO6:Hid ((w5.setCell ⟨q,1,none⟩ (.int .i64 D)).heap[q]?=some (.cells #[.int .i64 al,.int .i64 D,.int .i64 0,.int .i64 0,.int .i64 P,.int .i64 0,.int .i64 pr,.int .i64 0] 45 (0,0))):=by show _=_;rw [heap_set HO5.out];rfl
 generalize w5.setCell ⟨q,1,none⟩ (.int .i64 D)=w6 at *
 go_wp2_with fail
 go_at_call 157
 refine (GY cp l2 C l3 L w6 HL6.out N3.out).mono ?_
 rintro e w7 ⟨rfl,ht⟩
 have HX7:=Lib.hid (ht.keep HX6.out HPL.out)
 have HO7:=Lib.hid (ht.keep HO6.out HQL.out)
 have HB7:=Lib.hid (je HB6.out ht HPl.out)
 have HL7:=Lib.hid ht.2.1
 clear ht HL6
 obtain ⟨b0,b1,b2,b3,b4,b5,b6,b7⟩:=eight HO7.out
 obtain ⟨f0,f1,f2,f3,f4,f5,f6,f7⟩:=frz HO7.out
 go_wp2_with fail
 clear b0 b1 b2 b3 b4 b5 b6 b7 f0 f1 f2 f3 f4 f5 f6 f7
 have HX8:=Lib.hid (qL (j:=2) (u:=.int .i64 C) HX7.out (Nat.ne_of_lt HPQ.out))
 have HL8:=Lib.hid (qL (j:=2) (u:=.int .i64 C) HL7.out (Ne.symm HQL.out))
 have HB8:=Lib.hid (HB7.out.setCell (p:=⟨q,2,none⟩) (Nat.le_of_lt HPQ.out) (.int .i64 C))
 have HO8:Hid ((w7.setCell ⟨q,2,none⟩ (.int .i64 C)).heap[q]?=some (.cells #[.int .i64 al,.int .i64 D,.int .i64 C,.int .i64 0,.int .i64 P,.int .i64 0,.int .i64 pr,.int .i64 0] 45 (0,0))):=by show _=_;rw [heap_set HO7.out];rfl
 generalize w7.setCell ⟨q,2,none⟩ (.int .i64 C)=w8 at *
 go_wp2_with fail
 go_at_call 157
 refine (GY cn l3 K l4 L w8 HL8.out N4.out).mono ?_
 rintro e w9 ⟨rfl,ht⟩
 have HX9:=Lib.hid (ht.keep HX8.out HPL.out)
 have HO9:=Lib.hid (ht.keep HO8.out HQL.out)
 have HB9:=Lib.hid (je HB8.out ht HPl.out)
 have HL9:=Lib.hid ht.2.1
 clear ht HL8
 obtain ⟨b0,b1,b2,b3,b4,b5,b6,b7⟩:=eight HO9.out
 obtain ⟨f0,f1,f2,f3,f4,f5,f6,f7⟩:=frz HO9.out
 go_wp2_with fail
 clear b0 b1 b2 b3 b4 b5 b6 b7 f0 f1 f2 f3 f4 f5 f6 f7
 have HX10:=Lib.hid (qL (j:=3) (u:=.int .i64 K) HX9.out (Nat.ne_of_lt HPQ.out))
 have HL10:=Lib.hid (qL (j:=3) (u:=.int .i64 K) HL9.out (Ne.symm HQL.out))
 have HB10:=Lib.hid (HB9.out.setCell (p:=⟨q,3,none⟩) (Nat.le_of_lt HPQ.out) (.int .i64 K))
 have HO10:Hid ((w9.setCell ⟨q,3,none⟩ (.int .i64 K)).heap[q]?=some (.cells #[.int .i64 al,.int .i64 D,.int .i64 C,.int .i64 K,.int .i64 P,.int .i64 0,.int .i64 pr,.int .i64 0] 45 (0,0))):=by show _=_;rw [heap_set HO9.out];rfl
 generalize w9.setCell ⟨q,3,none⟩ (.int .i64 K)=w10 at *
 obtain ⟨b0,b1,b2,b3,b4,b5,b6,b7⟩:=eight HO10.out
 obtain ⟨f0,f1,f2,f3,f4,f5,f6,f7⟩:=frz HO10.out
 have HPw:Hid (p<=w10.heap.size):=Nat.le_of_lt (lt_of_block HX10.out)
 have u1:IntKind.i64.wrap (bi - pr)=bi - pr:=by rw [IntKind.wrap_i64];omega
 have u2:IntKind.i64.wrap (bi - pr - P)=bi - pr - P:=by rw [IntKind.wrap_i64];omega
 have u3:IntKind.i64.wrap (bi - pr - P - M)=bi - pr - P - M:=by rw [IntKind.wrap_i64];omega
 go_region_with (go_at_call 135;refine (HM.out _).mono ?_;rintro e wm ⟨rfl,hm⟩;have HXm:=Lib.hid (tV (w:=w10.drew) HX10.out hm);have HOm:=Lib.hid (tV (w:=w10.drew) HO10.out hm);have HBm:=Lib.hid (jc HB10.out.drew hm HPw.out);clear b0 b1 b2 b3 b4 b5 b6 b7 f0 f1 f2 f3 f4 f5 f6 f7;clear hm;obtain ⟨b0,b1,b2,b3,b4,b5,b6,b7⟩:=eight HOm.out;obtain ⟨f0,f1,f2,f3,f4,f5,f6,f7⟩:=frz HOm.out)
 all_goals (
  try simp only [u1,u2,u3]
  go_upto_region 13 with fail
  clear b0 b1 b2 b3 b4 b5 b6 b7 f0 f1 f2 f3 f4 f5 f6 f7
  have HXn:=Lib.hid (qL (j:=5) (u:=.int .i64 (bi - pr - P - M)) HXm.out (Nat.ne_of_lt HPQ.out))
  have HBn:=Lib.hid (HBm.out.setCell (p:=⟨q,5,none⟩) (Nat.le_of_lt HPQ.out) (.int .i64 (bi - pr - P - M)))
  have HOn:Hid ((wm.setCell ⟨q,5,none⟩ (.int .i64 (bi - pr - P - M))).heap[q]?=some (.cells #[.int .i64 al,.int .i64 D,.int .i64 C,.int .i64 K,.int .i64 P,.int .i64 (bi - pr - P - M),.int .i64 pr,.int .i64 0] 45 (0,0))):=by show _=_;rw [heap_set HOm.out];rfl
  generalize wm.setCell ⟨q,5,none⟩ (.int .i64 (bi - pr - P - M))=wn at *
  obtain ⟨b0,b1,b2,b3,b4,b5,b6,b7⟩:=eight HOn.out
  obtain ⟨f0,f1,f2,f3,f4,f5,f6,f7⟩:=frz HOn.out
  obtain ⟨d0,d1,d2,d3,d4,d5,d6,d7⟩:=eight HXn.out
  obtain ⟨g0,g1,g2,g3,g4,g5,g6,g7⟩:=frz HXn.out
  go_wp2
  clear d0 d1 d2 d3 d4 d5 d6 d7 g0 g1 g2 g3 g4 g5 g6 g7
  clear b0 b1 b2 b3 b4 b5 b6 b7 f0 f1 f2 f3 f4 f5 f6 f7
  have HXF:Hid (((((((((wn.setCell ⟨p,0,none⟩ (.int .i64 al)).setCell ⟨p,1,none⟩ (.int .i64 D)).setCell ⟨p,2,none⟩ (.int .i64 C)).setCell ⟨p,3,none⟩ (.int .i64 K)).setCell ⟨p,4,none⟩ (.int .i64 P)).setCell ⟨p,5,none⟩ (.int .i64 (bi - pr - P - M))).setCell ⟨p,6,none⟩ (.int .i64 pr)).setCell ⟨p,7,none⟩ (.int .i64 0)).heap[p]?=some (.cells #[.int .i64 al,.int .i64 D,.int .i64 C,.int .i64 K,.int .i64 P,.int .i64 (bi - pr - P - M),.int .i64 pr,.int .i64 0] 45 (0,0))):=BR HXn.out
  have HBF:Hid (Below p w ((((((((wn.setCell ⟨p,0,none⟩ (.int .i64 al)).setCell ⟨p,1,none⟩ (.int .i64 D)).setCell ⟨p,2,none⟩ (.int .i64 C)).setCell ⟨p,3,none⟩ (.int .i64 K)).setCell ⟨p,4,none⟩ (.int .i64 P)).setCell ⟨p,5,none⟩ (.int .i64 (bi - pr - P - M))).setCell ⟨p,6,none⟩ (.int .i64 pr)).setCell ⟨p,7,none⟩ (.int .i64 0))):=BP HBn.out p (Nat.le_refl _) _ _ _ _ _ _ _ _
  generalize ((((((((wn.setCell ⟨p,0,none⟩ (.int .i64 al)).setCell ⟨p,1,none⟩ (.int .i64 D)).setCell ⟨p,2,none⟩ (.int .i64 C)).setCell ⟨p,3,none⟩ (.int .i64 K)).setCell ⟨p,4,none⟩ (.int .i64 P)).setCell ⟨p,5,none⟩ (.int .i64 (bi - pr - P - M))).setCell ⟨p,6,none⟩ (.int .i64 pr)).setCell ⟨p,7,none⟩ (.int .i64 0))=WF at *
  obtain ⟨b0,b1,b2,b3,b4,b5,b6,b7⟩:=eight HXF.out
  try simp only [Exit.inBlock,Exit.then]
  refine bodyPost_ret (v:=.tuple #[.agg #[.int .i64 al,.int .i64 D,.int .i64 C,.int .i64 K,.int .i64 P,.int .i64 (bi - pr - P - M),.int .i64 pr,.int .i64 0],.int .i64 0]) (by simp [results,Tryz.results91,go_sem,b0,b1,b2,b3,b4,b5,b6,b7]) rfl ?_
  exact ⟨rfl,by first|exact HBF.out|(rw [hp];exact HBF.out)⟩
 )
end Go.Proofs.YtfbfeoplldjbpaaGreatDoor.Sh
end
