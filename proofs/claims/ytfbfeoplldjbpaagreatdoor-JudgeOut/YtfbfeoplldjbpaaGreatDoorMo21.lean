/-
  Texts put together (merge.py): HBeartop, HBearto, HBearfop, HBearfo, HBear.
-/
import Derived.Test.YtfbfeoplldjbpaaGreatDoorMo20
set_option linter.unusedSimpArgs false
set_option linter.unusedVariables false
set_option maxHeartbeats 16000000
set_option maxRecDepth 100000
section
namespace Go.Proofs.YtfbfeoplldjbpaaGreatDoor.Sh
open Go.RowKit
theorem iK (al:Int) (co:Bool) (cp cn de oo net:Int) (w:World) (hn:(net == 0)=false) (C l2:Int) (N2:Hid (Fits cp al C l2)) (NR:Hid (Fits al l2 l2 0)) (hAll:[al,cp,de,oo].all Ce.good=true) (HPt:Hid (∀w:World,Calls Tryz.prog 134 #[.int .i64 l2,.int .i64 cn] w fun e w'=>e=.returned (.tuple #[.int .i64 0,.int .i64 1])/\w'.heap=w.heap/\Below w.heap.size w w')) :
  Calls Tryz.prog 90 #[.int .i64 al,.agg #[.bool co,.bool true,.int .i64 cp,.int .i64 cn],.int .i64 de,.int .i64 oo,.int .i64 net] w fun e w'=>e=.returned (.tuple #[.int .i64 0,.int .i64 0,.int .i64 0,.int .i64 1])/\Below w.heap.size w w':=by
 have HAM:=Lib.hid (fU [al,cp,de,oo] (w.heap.size+1) 4 4 ((w.alloc (.cells #[.bool co,.bool true,.int .i64 cp,.int .i64 cn] 99)).alloc (.cells #[.int .i64 al,.int .i64 cp,.int .i64 de,.int .i64 oo] 2)) (fM w _ _ _ _) rfl (by simp))
 have HX0:=Lib.hid (tV (fK w #[.bool co,.bool true,.int .i64 cp,.int .i64 cn] 99) (iU (w.alloc (.cells #[.bool co,.bool true,.int .i64 cp,.int .i64 cn] 99)) (.cells #[.int .i64 al,.int .i64 cp,.int .i64 de,.int .i64 oo] 2)))
 have HB0:=Lib.hid (jg (iU w (.cells #[.bool co,.bool true,.int .i64 cp,.int .i64 cn] 99)) (iU (w.alloc (.cells #[.bool co,.bool true,.int .i64 cp,.int .i64 cn] 99)) (.cells #[.int .i64 al,.int .i64 cp,.int .i64 de,.int .i64 oo] 2)))
 rw [hAll] at HAM
 clear hAll
 go_enter Tryz.func90,Tryz.ntmps90
 go_wp2_with fail
 go_at_call 132
 refine HAM.out.mono ?_
 rintro e w' ⟨rfl,rfl⟩
 have HSZ:Hid (((w.alloc (.cells #[.bool co,.bool true,.int .i64 cp,.int .i64 cn] 99)).alloc (.cells #[.int .i64 al,.int .i64 cp,.int .i64 de,.int .i64 oo] 2)).heap.size=w.heap.size+2):=by show _=_;simp
 clear HAM
 have HP0:Hid (w.heap.size < ((w.alloc (.cells #[.bool co,.bool true,.int .i64 cp,.int .i64 cn] 99)).alloc (.cells #[.int .i64 al,.int .i64 cp,.int .i64 de,.int .i64 oo] 2)).heap.size):=lt_of_block HX0.out
 generalize ((w.alloc (.cells #[.bool co,.bool true,.int .i64 cp,.int .i64 cn] 99)).alloc (.cells #[.int .i64 al,.int .i64 cp,.int .i64 de,.int .i64 oo] 2))=W0 at *
 generalize hp:w.heap.size=p at *
 obtain ⟨b0,b1,b2,b3⟩:=jw HX0.out
 clear b0 b1 b2 b3
 go_wp2_with fail
 go_at_call 133
 refine (from_new al W0).mono ?_
 rintro e w1 ⟨rfl,hl,hb⟩
 have HX1:=Lib.hid (tV HX0.out hb)
 have HB1:=Lib.hid (jc HB0.out hb (Nat.le_of_lt HP0.out))
 have HL1:=Lib.hid hl
 have HP1:Hid (p < w1.heap.size):=Nat.lt_of_lt_of_le HP0.out hb.size
 have HG1:=Lib.hid (Nat.ne_of_lt HP0.out)
 have HF1:=Lib.hid (Nat.le_of_lt HP0.out)
 clear hl hb
 generalize W0.heap.size=L at *
 obtain ⟨b0,b1,b2,b3⟩:=jw HX1.out
 go_wp2_with fail
 go_at_call 157
 refine (GY cp al C l2 L w1 HL1.out N2.out).mono ?_
 rintro e w3 ⟨rfl,ht⟩
 have HX3:=Lib.hid (ht.keep HX1.out HG1.out)
 have HB3:=Lib.hid (je HB1.out ht HF1.out)
 have HL3:=Lib.hid ht.2.1
 have HP3:Hid (p < w3.heap.size):=by show _ < _;rw [ht.1];exact HP1.out
 have HG3:=HG1
 have HF3:=HF1
 clear ht b0 b1 b2 b3 HL1
 obtain ⟨b0,b1,b2,b3⟩:=jw HX3.out
 go_wp2_with fail
 go_region_with (first|(go_at_call 157;refine (GY al l2 l2 0 L w3.drew HL3.out NR.out).mono ?_;rintro e w8 ⟨rfl,ht⟩;have HX8:=Lib.hid (ht.keep HX3.out HG3.out);have HB8:=Lib.hid (je HB3.out.drew ht HF3.out);have HP8:Hid (p < w8.heap.size):=(by show _ < _;rw [ht.1];exact HP3.out);clear ht b0 b1 b2 b3;obtain ⟨b0,b1,b2,b3⟩:=jw HX8.out)|(go_at_call 134;refine (HPt.out _).mono ?_;rintro e w9 ⟨rfl,hh9,hb9⟩;have HX9:=Lib.hid (Ey hh9 HX8.out);have HB9:=Lib.hid (jc HB8.out hb9 (Nat.le_of_lt HP8.out));have HP9:Hid (p < w9.heap.size):=(by show _ < _;rw [hh9];exact HP8.out);clear hh9 hb9 b0 b1 b2 b3))
 all_goals (
  go_wp2
  (try simp only [Exit.inBlock,Exit.then]);refine bodyPost_ret (DT rfl _ _ _) rfl ?_
  exact ⟨rfl,by first|exact HB9.out|(rw [hp];exact HB9.out)⟩
 )
end Go.Proofs.YtfbfeoplldjbpaaGreatDoor.Sh
end
section
namespace Go.Proofs.YtfbfeoplldjbpaaGreatDoor.Sh
open Go.RowKit
theorem iJ (al:Int) (co:Bool) (cp cn de oo net:Int) (w:World) (hn:(net == 0)=false) (C l2:Int) (N2:Hid (Fits cp al C l2)) (NR:Hid (Fits al l2 l2 0)) (hAll:[al,cp,de,oo].all Ce.good=true) (K:Int) (HPt:Hid (∀w:World,Calls Tryz.prog 134 #[.int .i64 l2,.int .i64 cn] w fun e w'=>e=.returned (.tuple #[.int .i64 K,.int .i64 0])/\w'.heap=w.heap/\Below w.heap.size w w')) :
  Calls Tryz.prog 90 #[.int .i64 al,.agg #[.bool co,.bool true,.int .i64 cp,.int .i64 cn],.int .i64 de,.int .i64 oo,.int .i64 net] w fun e w'=>e=.returned (.tuple #[.int .i64 0,.int .i64 C,.int .i64 K,.int .i64 0])/\Below w.heap.size w w':=by
 have HAM:=Lib.hid (fU [al,cp,de,oo] (w.heap.size+1) 4 4 ((w.alloc (.cells #[.bool co,.bool true,.int .i64 cp,.int .i64 cn] 99)).alloc (.cells #[.int .i64 al,.int .i64 cp,.int .i64 de,.int .i64 oo] 2)) (fM w _ _ _ _) rfl (by simp))
 have HX0:=Lib.hid (tV (fK w #[.bool co,.bool true,.int .i64 cp,.int .i64 cn] 99) (iU (w.alloc (.cells #[.bool co,.bool true,.int .i64 cp,.int .i64 cn] 99)) (.cells #[.int .i64 al,.int .i64 cp,.int .i64 de,.int .i64 oo] 2)))
 have HB0:=Lib.hid (jg (iU w (.cells #[.bool co,.bool true,.int .i64 cp,.int .i64 cn] 99)) (iU (w.alloc (.cells #[.bool co,.bool true,.int .i64 cp,.int .i64 cn] 99)) (.cells #[.int .i64 al,.int .i64 cp,.int .i64 de,.int .i64 oo] 2)))
 rw [hAll] at HAM
 clear hAll
 go_enter Tryz.func90,Tryz.ntmps90
 go_wp2_with fail
 go_at_call 132
 refine HAM.out.mono ?_
 rintro e w' ⟨rfl,rfl⟩
 have HSZ:Hid (((w.alloc (.cells #[.bool co,.bool true,.int .i64 cp,.int .i64 cn] 99)).alloc (.cells #[.int .i64 al,.int .i64 cp,.int .i64 de,.int .i64 oo] 2)).heap.size=w.heap.size+2):=by show _=_;simp
 clear HAM
 have HP0:Hid (w.heap.size < ((w.alloc (.cells #[.bool co,.bool true,.int .i64 cp,.int .i64 cn] 99)).alloc (.cells #[.int .i64 al,.int .i64 cp,.int .i64 de,.int .i64 oo] 2)).heap.size):=lt_of_block HX0.out
 generalize ((w.alloc (.cells #[.bool co,.bool true,.int .i64 cp,.int .i64 cn] 99)).alloc (.cells #[.int .i64 al,.int .i64 cp,.int .i64 de,.int .i64 oo] 2))=W0 at *
 generalize hp:w.heap.size=p at *
 obtain ⟨b0,b1,b2,b3⟩:=jw HX0.out
 clear b0 b1 b2 b3
 go_wp2_with fail
 go_at_call 133
 refine (from_new al W0).mono ?_
 rintro e w1 ⟨rfl,hl,hb⟩
 have HX1:=Lib.hid (tV HX0.out hb)
 have HB1:=Lib.hid (jc HB0.out hb (Nat.le_of_lt HP0.out))
 have HL1:=Lib.hid hl
 have HP1:Hid (p < w1.heap.size):=Nat.lt_of_lt_of_le HP0.out hb.size
 have HG1:=Lib.hid (Nat.ne_of_lt HP0.out)
 have HF1:=Lib.hid (Nat.le_of_lt HP0.out)
 clear hl hb
 generalize W0.heap.size=L at *
 obtain ⟨b0,b1,b2,b3⟩:=jw HX1.out
 go_wp2_with fail
 go_at_call 157
 refine (GY cp al C l2 L w1 HL1.out N2.out).mono ?_
 rintro e w3 ⟨rfl,ht⟩
 have HX3:=Lib.hid (ht.keep HX1.out HG1.out)
 have HB3:=Lib.hid (je HB1.out ht HF1.out)
 have HL3:=Lib.hid ht.2.1
 have HP3:Hid (p < w3.heap.size):=by show _ < _;rw [ht.1];exact HP1.out
 have HG3:=HG1
 have HF3:=HF1
 clear ht b0 b1 b2 b3 HL1
 obtain ⟨b0,b1,b2,b3⟩:=jw HX3.out
 go_wp2_with fail
 go_region_with (first|(go_at_call 157;refine (GY al l2 l2 0 L w3.drew HL3.out NR.out).mono ?_;rintro e w8 ⟨rfl,ht⟩;have HX8:=Lib.hid (ht.keep HX3.out HG3.out);have HB8:=Lib.hid (je HB3.out.drew ht HF3.out);have HP8:Hid (p < w8.heap.size):=(by show _ < _;rw [ht.1];exact HP3.out);clear ht b0 b1 b2 b3;obtain ⟨b0,b1,b2,b3⟩:=jw HX8.out)|(go_at_call 134;refine (HPt.out _).mono ?_;rintro e w9 ⟨rfl,hh9,hb9⟩;have HX9:=Lib.hid (Ey hh9 HX8.out);have HB9:=Lib.hid (jc HB8.out hb9 (Nat.le_of_lt HP8.out));have HP9:Hid (p < w9.heap.size):=(by show _ < _;rw [hh9];exact HP8.out);clear hh9 hb9 b0 b1 b2 b3))
 all_goals (
  go_wp2
  (try simp only [Exit.inBlock,Exit.then]);refine bodyPost_ret (DT rfl _ _ _) rfl ?_
  exact ⟨rfl,by first|exact HB9.out|(rw [hp];exact HB9.out)⟩
 )
end Go.Proofs.YtfbfeoplldjbpaaGreatDoor.Sh
end
section
namespace Go.Proofs.YtfbfeoplldjbpaaGreatDoor.Sh
open Go.RowKit
theorem iF (al:Int) (co:Bool) (cp cn de oo net:Int) (w:World) (hn:(net == 0)=false) (C l2:Int) (N2:Hid (Fits cp al C l2)) (NR:Hid (Fits al l2 l2 0)) (hAll:[al,cp,de,oo].all Ce.good=true) (HPt:Hid (∀w:World,Calls Tryz.prog 134 #[.int .i64 l2,.int .i64 cn] w fun e w'=>e=.returned (.tuple #[.int .i64 0,.int .i64 1])/\w'.heap=w.heap/\Below w.heap.size w w')) :
  Calls Tryz.prog 90 #[.int .i64 al,.agg #[.bool co,.bool false,.int .i64 cp,.int .i64 cn],.int .i64 de,.int .i64 oo,.int .i64 net] w fun e w'=>e=.returned (.tuple #[.int .i64 0,.int .i64 0,.int .i64 0,.int .i64 1])/\Below w.heap.size w w':=by
 have HAM:=Lib.hid (fU [al,cp,de,oo] (w.heap.size+1) 4 4 ((w.alloc (.cells #[.bool co,.bool false,.int .i64 cp,.int .i64 cn] 99)).alloc (.cells #[.int .i64 al,.int .i64 cp,.int .i64 de,.int .i64 oo] 2)) (fM w _ _ _ _) rfl (by simp))
 have HX0:=Lib.hid (tV (fK w #[.bool co,.bool false,.int .i64 cp,.int .i64 cn] 99) (iU (w.alloc (.cells #[.bool co,.bool false,.int .i64 cp,.int .i64 cn] 99)) (.cells #[.int .i64 al,.int .i64 cp,.int .i64 de,.int .i64 oo] 2)))
 have HB0:=Lib.hid (jg (iU w (.cells #[.bool co,.bool false,.int .i64 cp,.int .i64 cn] 99)) (iU (w.alloc (.cells #[.bool co,.bool false,.int .i64 cp,.int .i64 cn] 99)) (.cells #[.int .i64 al,.int .i64 cp,.int .i64 de,.int .i64 oo] 2)))
 rw [hAll] at HAM
 clear hAll
 go_enter Tryz.func90,Tryz.ntmps90
 go_wp2_with fail
 go_at_call 132
 refine HAM.out.mono ?_
 rintro e w' ⟨rfl,rfl⟩
 have HSZ:Hid (((w.alloc (.cells #[.bool co,.bool false,.int .i64 cp,.int .i64 cn] 99)).alloc (.cells #[.int .i64 al,.int .i64 cp,.int .i64 de,.int .i64 oo] 2)).heap.size=w.heap.size+2):=by show _=_;simp
 clear HAM
 have HP0:Hid (w.heap.size < ((w.alloc (.cells #[.bool co,.bool false,.int .i64 cp,.int .i64 cn] 99)).alloc (.cells #[.int .i64 al,.int .i64 cp,.int .i64 de,.int .i64 oo] 2)).heap.size):=lt_of_block HX0.out
 generalize ((w.alloc (.cells #[.bool co,.bool false,.int .i64 cp,.int .i64 cn] 99)).alloc (.cells #[.int .i64 al,.int .i64 cp,.int .i64 de,.int .i64 oo] 2))=W0 at *
 generalize hp:w.heap.size=p at *
 obtain ⟨b0,b1,b2,b3⟩:=jw HX0.out
 clear b0 b1 b2 b3
 go_wp2_with fail
 go_at_call 133
 refine (from_new al W0).mono ?_
 rintro e w1 ⟨rfl,hl,hb⟩
 have HX1:=Lib.hid (tV HX0.out hb)
 have HB1:=Lib.hid (jc HB0.out hb (Nat.le_of_lt HP0.out))
 have HL1:=Lib.hid hl
 have HP1:Hid (p < w1.heap.size):=Nat.lt_of_lt_of_le HP0.out hb.size
 have HG1:=Lib.hid (Nat.ne_of_lt HP0.out)
 have HF1:=Lib.hid (Nat.le_of_lt HP0.out)
 clear hl hb
 generalize W0.heap.size=L at *
 obtain ⟨b0,b1,b2,b3⟩:=jw HX1.out
 go_wp2_with fail
 go_at_call 157
 refine (GY cp al C l2 L w1 HL1.out N2.out).mono ?_
 rintro e w3 ⟨rfl,ht⟩
 have HX3:=Lib.hid (ht.keep HX1.out HG1.out)
 have HB3:=Lib.hid (je HB1.out ht HF1.out)
 have HL3:=Lib.hid ht.2.1
 have HP3:Hid (p < w3.heap.size):=by show _ < _;rw [ht.1];exact HP1.out
 have HG3:=HG1
 have HF3:=HF1
 clear ht b0 b1 b2 b3 HL1
 obtain ⟨b0,b1,b2,b3⟩:=jw HX3.out
 go_wp2_with fail
 go_region_with (first|(go_at_call 157;refine (GY al l2 l2 0 L w3.drew HL3.out NR.out).mono ?_;rintro e w8 ⟨rfl,ht⟩;have HX8:=Lib.hid (ht.keep HX3.out HG3.out);have HB8:=Lib.hid (je HB3.out.drew ht HF3.out);have HP8:Hid (p < w8.heap.size):=(by show _ < _;rw [ht.1];exact HP3.out);clear ht b0 b1 b2 b3;obtain ⟨b0,b1,b2,b3⟩:=jw HX8.out)|(go_at_call 134;refine (HPt.out _).mono ?_;rintro e w9 ⟨rfl,hh9,hb9⟩;have HX9:=Lib.hid (Ey hh9 HX8.out);have HB9:=Lib.hid (jc HB8.out hb9 (Nat.le_of_lt HP8.out));have HP9:Hid (p < w9.heap.size):=(by show _ < _;rw [hh9];exact HP8.out);clear hh9 hb9 b0 b1 b2 b3))
 all_goals (
  go_wp2
  (try simp only [Exit.inBlock,Exit.then]);refine bodyPost_ret (DT rfl _ _ _) rfl ?_
  exact ⟨rfl,by first|exact HB9.out|(rw [hp];exact HB9.out)⟩
 )
end Go.Proofs.YtfbfeoplldjbpaaGreatDoor.Sh
end
section
namespace Go.Proofs.YtfbfeoplldjbpaaGreatDoor.Sh
open Go.RowKit
theorem iE (al:Int) (co:Bool) (cp cn de oo net:Int) (w:World) (hn:(net == 0)=false) (C l2:Int) (N2:Hid (Fits cp al C l2)) (NR:Hid (Fits al l2 l2 0)) (hAll:[al,cp,de,oo].all Ce.good=true) (K:Int) (HPt:Hid (∀w:World,Calls Tryz.prog 134 #[.int .i64 l2,.int .i64 cn] w fun e w'=>e=.returned (.tuple #[.int .i64 K,.int .i64 0])/\w'.heap=w.heap/\Below w.heap.size w w')) :
  Calls Tryz.prog 90 #[.int .i64 al,.agg #[.bool co,.bool false,.int .i64 cp,.int .i64 cn],.int .i64 de,.int .i64 oo,.int .i64 net] w fun e w'=>e=.returned (.tuple #[.int .i64 0,.int .i64 C,.int .i64 K,.int .i64 0])/\Below w.heap.size w w':=by
 have HAM:=Lib.hid (fU [al,cp,de,oo] (w.heap.size+1) 4 4 ((w.alloc (.cells #[.bool co,.bool false,.int .i64 cp,.int .i64 cn] 99)).alloc (.cells #[.int .i64 al,.int .i64 cp,.int .i64 de,.int .i64 oo] 2)) (fM w _ _ _ _) rfl (by simp))
 have HX0:=Lib.hid (tV (fK w #[.bool co,.bool false,.int .i64 cp,.int .i64 cn] 99) (iU (w.alloc (.cells #[.bool co,.bool false,.int .i64 cp,.int .i64 cn] 99)) (.cells #[.int .i64 al,.int .i64 cp,.int .i64 de,.int .i64 oo] 2)))
 have HB0:=Lib.hid (jg (iU w (.cells #[.bool co,.bool false,.int .i64 cp,.int .i64 cn] 99)) (iU (w.alloc (.cells #[.bool co,.bool false,.int .i64 cp,.int .i64 cn] 99)) (.cells #[.int .i64 al,.int .i64 cp,.int .i64 de,.int .i64 oo] 2)))
 rw [hAll] at HAM
 clear hAll
 go_enter Tryz.func90,Tryz.ntmps90
 go_wp2_with fail
 go_at_call 132
 refine HAM.out.mono ?_
 rintro e w' ⟨rfl,rfl⟩
 have HSZ:Hid (((w.alloc (.cells #[.bool co,.bool false,.int .i64 cp,.int .i64 cn] 99)).alloc (.cells #[.int .i64 al,.int .i64 cp,.int .i64 de,.int .i64 oo] 2)).heap.size=w.heap.size+2):=by show _=_;simp
 clear HAM
 have HP0:Hid (w.heap.size < ((w.alloc (.cells #[.bool co,.bool false,.int .i64 cp,.int .i64 cn] 99)).alloc (.cells #[.int .i64 al,.int .i64 cp,.int .i64 de,.int .i64 oo] 2)).heap.size):=lt_of_block HX0.out
 generalize ((w.alloc (.cells #[.bool co,.bool false,.int .i64 cp,.int .i64 cn] 99)).alloc (.cells #[.int .i64 al,.int .i64 cp,.int .i64 de,.int .i64 oo] 2))=W0 at *
 generalize hp:w.heap.size=p at *
 obtain ⟨b0,b1,b2,b3⟩:=jw HX0.out
 clear b0 b1 b2 b3
 go_wp2_with fail
 go_at_call 133
 refine (from_new al W0).mono ?_
 rintro e w1 ⟨rfl,hl,hb⟩
 have HX1:=Lib.hid (tV HX0.out hb)
 have HB1:=Lib.hid (jc HB0.out hb (Nat.le_of_lt HP0.out))
 have HL1:=Lib.hid hl
 have HP1:Hid (p < w1.heap.size):=Nat.lt_of_lt_of_le HP0.out hb.size
 have HG1:=Lib.hid (Nat.ne_of_lt HP0.out)
 have HF1:=Lib.hid (Nat.le_of_lt HP0.out)
 clear hl hb
 generalize W0.heap.size=L at *
 obtain ⟨b0,b1,b2,b3⟩:=jw HX1.out
 go_wp2_with fail
 go_at_call 157
 refine (GY cp al C l2 L w1 HL1.out N2.out).mono ?_
 rintro e w3 ⟨rfl,ht⟩
 have HX3:=Lib.hid (ht.keep HX1.out HG1.out)
 have HB3:=Lib.hid (je HB1.out ht HF1.out)
 have HL3:=Lib.hid ht.2.1
 have HP3:Hid (p < w3.heap.size):=by show _ < _;rw [ht.1];exact HP1.out
 have HG3:=HG1
 have HF3:=HF1
 clear ht b0 b1 b2 b3 HL1
 obtain ⟨b0,b1,b2,b3⟩:=jw HX3.out
 go_wp2_with fail
 go_region_with (first|(go_at_call 157;refine (GY al l2 l2 0 L w3.drew HL3.out NR.out).mono ?_;rintro e w8 ⟨rfl,ht⟩;have HX8:=Lib.hid (ht.keep HX3.out HG3.out);have HB8:=Lib.hid (je HB3.out.drew ht HF3.out);have HP8:Hid (p < w8.heap.size):=(by show _ < _;rw [ht.1];exact HP3.out);clear ht b0 b1 b2 b3;obtain ⟨b0,b1,b2,b3⟩:=jw HX8.out)|(go_at_call 134;refine (HPt.out _).mono ?_;rintro e w9 ⟨rfl,hh9,hb9⟩;have HX9:=Lib.hid (Ey hh9 HX8.out);have HB9:=Lib.hid (jc HB8.out hb9 (Nat.le_of_lt HP8.out));have HP9:Hid (p < w9.heap.size):=(by show _ < _;rw [hh9];exact HP8.out);clear hh9 hb9 b0 b1 b2 b3))
 all_goals (
  go_wp2
  (try simp only [Exit.inBlock,Exit.then]);refine bodyPost_ret (DT rfl _ _ _) rfl ?_
  exact ⟨rfl,by first|exact HB9.out|(rw [hp];exact HB9.out)⟩
 )
end Go.Proofs.YtfbfeoplldjbpaaGreatDoor.Sh
end
section
namespace Go.Proofs.YtfbfeoplldjbpaaGreatDoor.Sh
open Go.RowKit
theorem Bg (a p:Int):Hid (∀w:World,Calls Tryz.prog 134 #[.int .i64 a,.int .i64 p] w fun e w'=>e=.returned (.tuple #[.int .i64 (Ce.AZ a p),.int .i64 (Ce.AY a p)])/\w'.heap=w.heap/\Below w.heap.size w w'):=fun w=>by
 refine (Ce.Ba a p w).mono ?_
 rintro e w' ⟨rfl,k,rfl⟩
 exact ⟨rfl,rfl,(Below.refl _ _).trans ⟨rfl,rfl,rfl,Nat.le_refl _,fun _ _=>rfl⟩⟩
theorem Bc (a p:Int) (h:¬ (0<=p/\p<=10000)):Ce.AZ a p=0/\Ce.AY a p=1:=by
 unfold Ce.AZ Ce.AY
 rw [if_neg h,if_neg h]
 exact ⟨rfl,rfl⟩
theorem Bf (a p:Int) (h:0<=p/\p<=10000) (h0:0<=a) (h1:a<=10000000000000):Ce.AY a p=0:=by
 have e1:0<=a * p:=Int.mul_nonneg h0 h.1
 have e2:a * p<=a * 10000:=Int.mul_le_mul_of_nonneg_left h.2 h0
 unfold Ce.AY Ce.EF
 rw [if_pos h,if_pos ⟨(Ce.ql _).2 ⟨h0,h1⟩,h.1,by omega⟩,if_pos ((Ce.ql _).2 (by omega))]
theorem fits (x l:Int) (h0:0<=x) (h1:x<=10000000000000) (h2:0<=l) (h3:l<=10000000000000):Fits x l (least x l) (l - least x l):=⟨h0,h1,h2,h3,rfl,rfl⟩
theorem fits_all (x l:Int) (h1:x<=10000000000000) (h2:0<=l) (h3:l<=x):Fits x l l 0:=⟨by omega,h1,h2,by omega,by unfold least;split<;>omega,by omega⟩
theorem uS (x l:Int) (h0:0<=x) (h2:0<=l):0<=least x l/\least x l<=x/\least x l<=l:=by unfold least;split<;>omega
theorem eY (al cp de oo:Int):[al,cp,de,oo].all Ce.good=(Ce.good al && (Ce.good cp && (Ce.good de && Ce.good oo))):=by simp
theorem iq (al:Int) (co dd:Bool) (cp cn de oo net:Int) (w:World) :
  Calls Tryz.prog 90 #[.int .i64 al,.agg #[.bool co,.bool dd,.int .i64 cp,.int .i64 cn],.int .i64 de,.int .i64 oo,.int .i64 net] w fun e w'=>e=.returned (.tuple #[.int .i64 (bD al dd cp cn de oo net),.int .i64 (bC al dd cp cn de oo net),.int .i64 (bK al dd cp cn de oo net),.int .i64 (bE al cp cn de oo)])/\Below w.heap.size w w':=by
 cases hAll:[al,cp,de,oo].all Ce.good
 ·have hb:ig al cp cn de oo=false:=by unfold ig;rw [←eY,hAll];rfl
  rw [show bD al dd cp cn de oo net=0 by simp [bD,hb],show bC al dd cp cn de oo net=0 by simp [bC,hb],show bK al dd cp cn de oo net=0 by simp [bK,hb],show bE al cp cn de oo=1 by simp [bE,hb]]
  exact iw al co dd cp cn de oo net w hAll
 have hq:=eY al cp de oo
 rw [hAll] at hq
 have hq:=hq.symm
 simp only [Bool.and_eq_true,Ce.ql] at hq
 obtain ⟨⟨a0,a1⟩,⟨c0',c1⟩,⟨e0,e1⟩,o0,o1⟩:=hq
 have hd:=uS de al e0 a0
 have hc1:=uS cp (al - least de al) c0' (by omega)
 have hc2:=uS cp al c0' a0
 by_cases hn:0<=cn/\cn<=10000
 ·have hb:ig al cp cn de oo=true:=(iG al cp cn de oo).2 ⟨⟨a0,a1⟩,⟨c0',c1⟩,⟨e0,e1⟩,⟨o0,o1⟩,hn.1,hn.2⟩
  rw [show bE al cp cn de oo=0 by simp [bE,hb]]
  by_cases hz:net=0
  ·subst hz
   cases dd
   ·have hd0:d0 al false de 0=0:=by simp [d0]
    have hc0:c0 al false cp de 0=least cp al:=by simp [c0,hd0]
    have hk0:k0 al false cp cn de 0=Ce.AZ (al - least cp al) cn:=by simp [k0,hd0,hc0]
    have hk:=Bd (al - least cp al) cn (by omega) hn.1 hn.2
    have hx:=uS 0 oo (by omega) o0
    have hy:=uS (least cp al) (oo - least 0 oo) (by omega) (by omega)
    have x1:bD al false cp cn de oo 0=least 0 oo:=by simp [bD,hb,hd0]
    have x2:bC al false cp cn de oo 0=least (least cp al) (oo - least 0 oo):=by simp only [bC,hb,if_true,x1,hc0]
    have x3:bK al false cp cn de oo 0=least (Ce.AZ (al - least cp al) cn) (oo - least 0 oo - least (least cp al) (oo - least 0 oo)):=by simp only [bK,hb,if_true,x1,x2,hk0]
    rw [x1,x2,x3]
    have HP:=Bg (al - least cp al) cn
    rw [Bf (al - least cp al) cn hn (by omega) (by omega)] at HP
    exact iy al co cp cn de oo w _ _ (Lib.hid (fits cp al c0' c1 a0 a1)) (Lib.hid (fits_all al _ a1 (by omega) (by omega))) hAll _ _ _ _ _ _ _ (Lib.hid (fits 0 oo (by omega) (by omega) o0 o1)) (Lib.hid (fits _ _ (by omega) (by omega) (by omega) (by omega))) (Lib.hid (fits _ _ (by omega) (by omega) (by omega) (by omega))) HP
   ·have hd0:d0 al true de 0=least de al:=by simp [d0]
    have hc0:c0 al true cp de 0=least cp (al - least de al):=by simp [c0,hd0]
    have hk0:k0 al true cp cn de 0=Ce.AZ (al - least de al - least cp (al - least de al)) cn:=by simp [k0,hd0,hc0]
    have hk:=Bd (al - least de al - least cp (al - least de al)) cn (by omega) hn.1 hn.2
    have hx:=uS (least de al) oo (by omega) o0
    have hy:=uS (least cp (al - least de al)) (oo - least (least de al) oo) (by omega) (by omega)
    have x1:bD al true cp cn de oo 0=least (least de al) oo:=by simp [bD,hb,hd0]
    have x2:bC al true cp cn de oo 0=least (least cp (al - least de al)) (oo - least (least de al) oo):=by simp only [bC,hb,if_true,x1,hc0]
    have x3:bK al true cp cn de oo 0=least (Ce.AZ (al - least de al - least cp (al - least de al)) cn) (oo - least (least de al) oo - least (least cp (al - least de al)) (oo - least (least de al) oo)):=by simp only [bK,hb,if_true,x1,x2,hk0]
    rw [x1,x2,x3]
    have HP:=Bg (al - least de al - least cp (al - least de al)) cn
    rw [Bf (al - least de al - least cp (al - least de al)) cn hn (by omega) (by omega)] at HP
    exact iH al co cp cn de oo w _ _ _ _ (Lib.hid (fits de al e0 e1 a0 a1)) (Lib.hid (fits cp _ c0' c1 (by omega) (by omega))) (Lib.hid (fits_all al _ a1 (by omega) (by omega))) hAll _ _ _ _ _ _ _ (Lib.hid (fits _ oo (by omega) (by omega) o0 o1)) (Lib.hid (fits _ _ (by omega) (by omega) (by omega) (by omega))) (Lib.hid (fits _ _ (by omega) (by omega) (by omega) (by omega))) HP
  ·have hz':(net == 0)=false:=by simpa using hz
   have hd0:d0 al dd de net=0:=by simp [d0,hz]
   have hc0:c0 al dd cp de net=least cp al:=by simp [c0,hd0]
   have hk0:k0 al dd cp cn de net=Ce.AZ (al - least cp al) cn:=by simp [k0,hd0,hc0]
   rw [show bD al dd cp cn de oo net=0 by simp [bD,hb,hz,hd0],show bC al dd cp cn de oo net=least cp al by simp [bC,hb,hz,hc0],show bK al dd cp cn de oo net=Ce.AZ (al - least cp al) cn by simp [bK,hb,hz,hk0]]
   have HP:=Bg (al - least cp al) cn
   rw [Bf (al - least cp al) cn hn (by omega) (by omega)] at HP
   cases dd
   ·exact iE al co cp cn de oo net w hz' _ _ (Lib.hid (fits cp al c0' c1 a0 a1)) (Lib.hid (fits_all al _ a1 (by omega) (by omega))) hAll _ HP
   ·exact iJ al co cp cn de oo net w hz' _ _ (Lib.hid (fits cp al c0' c1 a0 a1)) (Lib.hid (fits_all al _ a1 (by omega) (by omega))) hAll _ HP
 ·have hb:ig al cp cn de oo=false:=by
   cases h:ig al cp cn de oo
   ·rfl
   ·have:=(iG al cp cn de oo).1 h
    exact absurd ⟨this.2.2.2.2.1,this.2.2.2.2.2⟩ hn
  rw [show bD al dd cp cn de oo net=0 by simp [bD,hb],show bC al dd cp cn de oo net=0 by simp [bC,hb],show bK al dd cp cn de oo net=0 by simp [bK,hb],show bE al cp cn de oo=1 by simp [bE,hb]]
  have hP (a:Int):Hid (∀w:World,Calls Tryz.prog 134 #[.int .i64 a,.int .i64 cn] w fun e w'=>e=.returned (.tuple #[.int .i64 0,.int .i64 1])/\w'.heap=w.heap/\Below w.heap.size w w'):=by
   have:=Bg a cn
   rw [(Bc a cn hn).1,(Bc a cn hn).2] at this
   exact this
  by_cases hz:net=0
  ·subst hz
   cases dd
   ·exact iC al co cp cn de oo w _ _ (Lib.hid (fits cp al c0' c1 a0 a1)) (Lib.hid (fits_all al _ a1 (by omega) (by omega))) hAll (hP _)
   ·exact iI al co cp cn de oo w _ _ _ _ (Lib.hid (fits de al e0 e1 a0 a1)) (Lib.hid (fits cp _ c0' c1 (by omega) (by omega))) (Lib.hid (fits_all al _ a1 (by omega) (by omega))) hAll (hP _)
  ·have hz':(net == 0)=false:=by simpa using hz
   cases dd
   ·exact iF al co cp cn de oo net w hz' _ _ (Lib.hid (fits cp al c0' c1 a0 a1)) (Lib.hid (fits_all al _ a1 (by omega) (by omega))) hAll (hP _)
   ·exact iK al co cp cn de oo net w hz' _ _ (Lib.hid (fits cp al c0' c1 a0 a1)) (Lib.hid (fits_all al _ a1 (by omega) (by omega))) hAll (hP _)
end Go.Proofs.YtfbfeoplldjbpaaGreatDoor.Sh
end
