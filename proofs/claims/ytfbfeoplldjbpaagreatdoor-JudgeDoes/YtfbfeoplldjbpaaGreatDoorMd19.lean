/-
  Texts put together (merge.py): HBeartip, HBearti, HBearfip, HBearfi, HBeartop, HBearto, HBearfop, HBearfo.
-/
import Derived.Test.YtfbfeoplldjbpaaGreatDoorMd18
set_option linter.unusedSimpArgs false
set_option linter.unusedVariables false
set_option maxHeartbeats 16000000
set_option maxRecDepth 100000
namespace Go.Proofs.YtfbfeoplldjbpaaGreatDoor
namespace Sh
open Go.RowKit
theorem qzA (al:Int) (co:Bool) (cp cn de oo:Int) (w:World) (D l1 C l2:Int) (N1:Hid (Fits de al D l1)) (N2:Hid (Fits cp l1 C l2)) (NR:Hid (Fits al l2 l2 0)) (Ca:[al,cp,de,oo].all Ce.good=true) (HPt:Hid (∀w:World,Calls Tryz.prog 134 #[iI l2,iI cn] w fun e w'=>e=.returned (.tuple #[iI 0,iI 1])/\w'.heap=w.heap/\Below w.heap.size w w')) :
  Calls Tryz.prog 90 #[iI al,.agg #[.bool co,.bool true,iI cp,iI cn],iI de,iI oo,iI 0] w fun e w'=>e=.returned (.tuple #[iI 0,iI 0,iI 0,iI 1])/\Below w.heap.size w w':=by
 have HAM:=zZ (fU [al,cp,de,oo] (w.heap.size+1) 4 4 ((w.alloc (.cells #[.bool co,.bool true,iI cp,iI cn] 99)).alloc (.cells #[iI al,iI cp,iI de,iI oo] 2)) (fM w _ _ _ _) rfl (by simp));have HX0:=zZ (tV (fK w #[.bool co,.bool true,iI cp,iI cn] 99) (iU (w.alloc (.cells #[.bool co,.bool true,iI cp,iI cn] 99)) (.cells #[iI al,iI cp,iI de,iI oo] 2)));have HB0:=zZ (jg (iU w (.cells #[.bool co,.bool true,iI cp,iI cn] 99)) (iU (w.alloc (.cells #[.bool co,.bool true,iI cp,iI cn] 99)) (.cells #[iI al,iI cp,iI de,iI oo] 2)));rw [Ca] at HAM;clear Ca;go_enter Tryz.func90,Tryz.ntmps90
 go_wp2_with fail
 go_at_call 132
 refine HAM.out.mono ?_;rintro e w' ⟨rfl,rfl⟩;have HSZ:Hid (((w.alloc (.cells #[.bool co,.bool true,iI cp,iI cn] 99)).alloc (.cells #[iI al,iI cp,iI de,iI oo] 2)).heap.size=w.heap.size+2):=by show _=_;simp
 clear HAM;have CR:Hid (w.heap.size < ((w.alloc (.cells #[.bool co,.bool true,iI cp,iI cn] 99)).alloc (.cells #[iI al,iI cp,iI de,iI oo] 2)).heap.size):=lt_of_block HX0.out;generalize ((w.alloc (.cells #[.bool co,.bool true,iI cp,iI cn] 99)).alloc (.cells #[iI al,iI cp,iI de,iI oo] 2))=W0 at *;generalize hp:w.heap.size=p at *;obtain ⟨b0,b1,b2,b3⟩:=jw HX0.out;clear b0 b1 b2 b3;go_wp2_with fail
 go_at_call 133
 refine (bS al W0).mono ?_;rintro e w1 ⟨rfl,hl,hb⟩;have Cz:=zZ (tV HX0.out hb);have HB1:=zZ (jc HB0.out hb (Nat.le_of_lt CR.out));have HL1:=zZ hl;have HP1:Hid (p < w1.heap.size):=Nat.lt_of_lt_of_le CR.out hb.size;have HG1:=zZ (Nat.ne_of_lt CR.out);have HF1:=zZ (Nat.le_of_lt CR.out);clear hl hb;generalize W0.heap.size=L at *;obtain ⟨b0,b1,b2,b3⟩:=jw Cz.out;go_wp2_with fail
 go_at_call 157
 refine (GY de al D l1 L w1 HL1.out N1.out).mono ?_;rintro e w2 ⟨rfl,ht⟩;have HX2:=zZ (ht.keep Cz.out HG1.out);have HB2:=zZ (je HB1.out ht HF1.out);have HL2:=zZ ht.2.1;have HP2:Hid (p < w2.heap.size):=by show _ < _;rw [ht.1];exact HP1.out
 have HG2:=HG1;have HF2:=HF1;clear ht b0 b1 b2 b3 HL1;obtain ⟨b0,b1,b2,b3⟩:=jw HX2.out;go_wp2_with fail
 go_at_call 157
 refine (GY cp l1 C l2 L w2 HL2.out N2.out).mono ?_;rintro e w3 ⟨rfl,ht⟩;have CK:=zZ (ht.keep HX2.out HG2.out);have HB3:=zZ (je HB2.out ht HF2.out);have HL3:=zZ ht.2.1;have HP3:Hid (p < w3.heap.size):=by show _ < _;rw [ht.1];exact HP2.out
 have HG3:=HG2;have HF3:=HF2;clear ht b0 b1 b2 b3 HL2;obtain ⟨b0,b1,b2,b3⟩:=jw CK.out;go_wp2_with fail
 go_region_with (first|(go_at_call 157;refine (GY al l2 l2 0 L w3.drew HL3.out NR.out).mono ?_;rintro e w8 ⟨rfl,ht⟩;have HX8:=zZ (ht.keep CK.out HG3.out);have HB8:=zZ (je HB3.out.drew ht HF3.out);have HP8:Hid (p < w8.heap.size):=(by show _ < _;rw [ht.1];exact HP3.out);clear ht b0 b1 b2 b3;obtain ⟨b0,b1,b2,b3⟩:=jw HX8.out)|(go_at_call 134;refine (HPt.out _).mono ?_;rintro e w9 ⟨rfl,hh9,hb9⟩;have HX9:=zZ (Ey hh9 HX8.out);have HB9:=zZ (jc HB8.out hb9 (Nat.le_of_lt HP8.out));have HP9:Hid (p < w9.heap.size):=(by show _ < _;rw [hh9];exact HP8.out);clear hh9 hb9 b0 b1 b2 b3))
 all_goals (
  go_wp2
  (try simp only [Exit.inBlock,Exit.then]);refine bodyPost_ret (DT rfl _ _ _) rfl ?_
  exact ⟨rfl,by first|exact HB9.out|(rw [hp];exact HB9.out)⟩
 )
end Sh
namespace Sh
open Go.RowKit
theorem iH (al:Int) (co:Bool) (cp cn de oo:Int) (w:World) (D l1 C l2:Int) (N1:Hid (Fits de al D l1)) (N2:Hid (Fits cp l1 C l2)) (NR:Hid (Fits al l2 l2 0)) (Ca:[al,cp,de,oo].all Ce.good=true) (K X m1 Y m2 Z m3:Int) (N3:Hid (Fits D oo X m1)) (N4:Hid (Fits C m1 Y m2)) (N5:Hid (Fits K m2 Z m3)) (HPt:Hid (∀w:World,Calls Tryz.prog 134 #[iI l2,iI cn] w fun e w'=>e=.returned (.tuple #[iI K,iI 0])/\w'.heap=w.heap/\Below w.heap.size w w')) :
  Calls Tryz.prog 90 #[iI al,.agg #[.bool co,.bool true,iI cp,iI cn],iI de,iI oo,iI 0] w fun e w'=>e=.returned (.tuple #[iI X,iI Y,iI Z,iI 0])/\Below w.heap.size w w':=by
 have HAM:=zZ (fU [al,cp,de,oo] (w.heap.size+1) 4 4 ((w.alloc (.cells #[.bool co,.bool true,iI cp,iI cn] 99)).alloc (.cells #[iI al,iI cp,iI de,iI oo] 2)) (fM w _ _ _ _) rfl (by simp));have HX0:=zZ (tV (fK w #[.bool co,.bool true,iI cp,iI cn] 99) (iU (w.alloc (.cells #[.bool co,.bool true,iI cp,iI cn] 99)) (.cells #[iI al,iI cp,iI de,iI oo] 2)));have HB0:=zZ (jg (iU w (.cells #[.bool co,.bool true,iI cp,iI cn] 99)) (iU (w.alloc (.cells #[.bool co,.bool true,iI cp,iI cn] 99)) (.cells #[iI al,iI cp,iI de,iI oo] 2)));rw [Ca] at HAM;clear Ca;go_enter Tryz.func90,Tryz.ntmps90
 go_wp2_with fail
 go_at_call 132
 refine HAM.out.mono ?_;rintro e w' ⟨rfl,rfl⟩;have HSZ:Hid (((w.alloc (.cells #[.bool co,.bool true,iI cp,iI cn] 99)).alloc (.cells #[iI al,iI cp,iI de,iI oo] 2)).heap.size=w.heap.size+2):=by show _=_;simp
 clear HAM;have CR:Hid (w.heap.size < ((w.alloc (.cells #[.bool co,.bool true,iI cp,iI cn] 99)).alloc (.cells #[iI al,iI cp,iI de,iI oo] 2)).heap.size):=lt_of_block HX0.out;generalize ((w.alloc (.cells #[.bool co,.bool true,iI cp,iI cn] 99)).alloc (.cells #[iI al,iI cp,iI de,iI oo] 2))=W0 at *;generalize hp:w.heap.size=p at *;obtain ⟨b0,b1,b2,b3⟩:=jw HX0.out;clear b0 b1 b2 b3;go_wp2_with fail
 go_at_call 133
 refine (bS al W0).mono ?_;rintro e w1 ⟨rfl,hl,hb⟩;have Cz:=zZ (tV HX0.out hb);have HB1:=zZ (jc HB0.out hb (Nat.le_of_lt CR.out));have HL1:=zZ hl;have HP1:Hid (p < w1.heap.size):=Nat.lt_of_lt_of_le CR.out hb.size;have HG1:=zZ (Nat.ne_of_lt CR.out);have HF1:=zZ (Nat.le_of_lt CR.out);clear hl hb;generalize W0.heap.size=L at *;obtain ⟨b0,b1,b2,b3⟩:=jw Cz.out;go_wp2_with fail
 go_at_call 157
 refine (GY de al D l1 L w1 HL1.out N1.out).mono ?_;rintro e w2 ⟨rfl,ht⟩;have HX2:=zZ (ht.keep Cz.out HG1.out);have HB2:=zZ (je HB1.out ht HF1.out);have HL2:=zZ ht.2.1;have HP2:Hid (p < w2.heap.size):=by show _ < _;rw [ht.1];exact HP1.out
 have HG2:=HG1;have HF2:=HF1;clear ht b0 b1 b2 b3 HL1;obtain ⟨b0,b1,b2,b3⟩:=jw HX2.out;go_wp2_with fail
 go_at_call 157
 refine (GY cp l1 C l2 L w2 HL2.out N2.out).mono ?_;rintro e w3 ⟨rfl,ht⟩;have CK:=zZ (ht.keep HX2.out HG2.out);have HB3:=zZ (je HB2.out ht HF2.out);have HL3:=zZ ht.2.1;have HP3:Hid (p < w3.heap.size):=by show _ < _;rw [ht.1];exact HP2.out
 have HG3:=HG2;have HF3:=HF2;clear ht b0 b1 b2 b3 HL2;obtain ⟨b0,b1,b2,b3⟩:=jw CK.out;go_wp2_with fail
 go_region_with (first|(go_at_call 157;refine (GY al l2 l2 0 L w3.drew HL3.out NR.out).mono ?_;rintro e w8 ⟨rfl,ht⟩;have HX8:=zZ (ht.keep CK.out HG3.out);have HB8:=zZ (je HB3.out.drew ht HF3.out);have HP8:Hid (p < w8.heap.size):=(by show _ < _;rw [ht.1];exact HP3.out);clear ht b0 b1 b2 b3;obtain ⟨b0,b1,b2,b3⟩:=jw HX8.out)|(go_at_call 134;refine (HPt.out _).mono ?_;rintro e w9 ⟨rfl,hh9,hb9⟩;have HX9:=zZ (Ey hh9 HX8.out);have HB9:=zZ (jc HB8.out hb9 (Nat.le_of_lt HP8.out));have HP9:Hid (p < w9.heap.size):=(by show _ < _;rw [hh9];exact HP8.out);clear hh9 hb9 b0 b1 b2 b3))
 all_goals (
  go_wp2_with fail
  go_at_call 133
  refine (bS oo w9).mono ?_;rintro e w10 ⟨rfl,hl,hb⟩;have HX10:=zZ (tV HX9.out hb);have HB10:=zZ (jc HB9.out hb (Nat.le_of_lt HP9.out));have HL10:=zZ hl;have HP10:Hid (p < w10.heap.size):=Nat.lt_of_lt_of_le HP9.out hb.size;have HG10:=zZ (Nat.ne_of_lt HP9.out);have HF10:=zZ (Nat.le_of_lt HP9.out);clear hl hb;generalize w9.heap.size=M at *;obtain ⟨b0,b1,b2,b3⟩:=jw HX10.out;go_wp2_with fail
  go_at_call 157
  refine (GY D oo X m1 M w10 HL10.out N3.out).mono ?_;rintro e w11 ⟨rfl,ht⟩;have HX11:=zZ (ht.keep HX10.out HG10.out);have HB11:=zZ (je HB10.out ht HF10.out);have HL11:=zZ ht.2.1;have HP11:Hid (p < w11.heap.size):=by show _ < _;rw [ht.1];exact HP10.out
  have HG11:=HG10;have HF11:=HF10;clear ht b0 b1 b2 b3 HL10;obtain ⟨b0,b1,b2,b3⟩:=jw HX11.out;go_wp2_with fail
  go_at_call 157
  refine (GY C m1 Y m2 M w11 HL11.out N4.out).mono ?_;rintro e w12 ⟨rfl,ht⟩;have HX12:=zZ (ht.keep HX11.out HG11.out);have HB12:=zZ (je HB11.out ht HF11.out);have HL12:=zZ ht.2.1;have HP12:Hid (p < w12.heap.size):=by show _ < _;rw [ht.1];exact HP11.out
  have HG12:=HG11;have HF12:=HF11;clear ht b0 b1 b2 b3 HL11;obtain ⟨b0,b1,b2,b3⟩:=jw HX12.out;go_wp2_with fail
  go_at_call 157
  refine (GY K m2 Z m3 M w12 HL12.out N5.out).mono ?_;rintro e w13 ⟨rfl,ht⟩;have HX13:=zZ (ht.keep HX12.out HG12.out);have HB13:=zZ (je HB12.out ht HF12.out);have HL13:=zZ ht.2.1;have HP13:Hid (p < w13.heap.size):=by show _ < _;rw [ht.1];exact HP12.out
  have HG13:=HG12;have HF13:=HF12;clear ht b0 b1 b2 b3 HL12;obtain ⟨b0,b1,b2,b3⟩:=jw HX13.out;go_wp2
  (try simp only [Exit.inBlock,Exit.then]);refine bodyPost_ret (DT rfl _ _ _) rfl ?_
  exact ⟨rfl,by first|exact HB13.out|(rw [hp];exact HB13.out)⟩
 )
end Sh
namespace Sh
open Go.RowKit
theorem iC (al:Int) (co:Bool) (cp cn de oo:Int) (w:World) (C l2:Int) (N2:Hid (Fits cp al C l2)) (NR:Hid (Fits al l2 l2 0)) (Ca:[al,cp,de,oo].all Ce.good=true) (HPt:Hid (∀w:World,Calls Tryz.prog 134 #[iI l2,iI cn] w fun e w'=>e=.returned (.tuple #[iI 0,iI 1])/\w'.heap=w.heap/\Below w.heap.size w w')) :
  Calls Tryz.prog 90 #[iI al,.agg #[.bool co,.bool false,iI cp,iI cn],iI de,iI oo,iI 0] w fun e w'=>e=.returned (.tuple #[iI 0,iI 0,iI 0,iI 1])/\Below w.heap.size w w':=by
 have HAM:=zZ (fU [al,cp,de,oo] (w.heap.size+1) 4 4 ((w.alloc (.cells #[.bool co,.bool false,iI cp,iI cn] 99)).alloc (.cells #[iI al,iI cp,iI de,iI oo] 2)) (fM w _ _ _ _) rfl (by simp));have HX0:=zZ (tV (fK w #[.bool co,.bool false,iI cp,iI cn] 99) (iU (w.alloc (.cells #[.bool co,.bool false,iI cp,iI cn] 99)) (.cells #[iI al,iI cp,iI de,iI oo] 2)));have HB0:=zZ (jg (iU w (.cells #[.bool co,.bool false,iI cp,iI cn] 99)) (iU (w.alloc (.cells #[.bool co,.bool false,iI cp,iI cn] 99)) (.cells #[iI al,iI cp,iI de,iI oo] 2)));rw [Ca] at HAM;clear Ca;go_enter Tryz.func90,Tryz.ntmps90
 go_wp2_with fail
 go_at_call 132
 refine HAM.out.mono ?_;rintro e w' ⟨rfl,rfl⟩;have HSZ:Hid (((w.alloc (.cells #[.bool co,.bool false,iI cp,iI cn] 99)).alloc (.cells #[iI al,iI cp,iI de,iI oo] 2)).heap.size=w.heap.size+2):=by show _=_;simp
 clear HAM;have CR:Hid (w.heap.size < ((w.alloc (.cells #[.bool co,.bool false,iI cp,iI cn] 99)).alloc (.cells #[iI al,iI cp,iI de,iI oo] 2)).heap.size):=lt_of_block HX0.out;generalize ((w.alloc (.cells #[.bool co,.bool false,iI cp,iI cn] 99)).alloc (.cells #[iI al,iI cp,iI de,iI oo] 2))=W0 at *;generalize hp:w.heap.size=p at *;obtain ⟨b0,b1,b2,b3⟩:=jw HX0.out;clear b0 b1 b2 b3;go_wp2_with fail
 go_at_call 133
 refine (bS al W0).mono ?_;rintro e w1 ⟨rfl,hl,hb⟩;have Cz:=zZ (tV HX0.out hb);have HB1:=zZ (jc HB0.out hb (Nat.le_of_lt CR.out));have HL1:=zZ hl;have HP1:Hid (p < w1.heap.size):=Nat.lt_of_lt_of_le CR.out hb.size;have HG1:=zZ (Nat.ne_of_lt CR.out);have HF1:=zZ (Nat.le_of_lt CR.out);clear hl hb;generalize W0.heap.size=L at *;obtain ⟨b0,b1,b2,b3⟩:=jw Cz.out;go_wp2_with fail
 go_at_call 157
 refine (GY cp al C l2 L w1 HL1.out N2.out).mono ?_;rintro e w3 ⟨rfl,ht⟩;have CK:=zZ (ht.keep Cz.out HG1.out);have HB3:=zZ (je HB1.out ht HF1.out);have HL3:=zZ ht.2.1;have HP3:Hid (p < w3.heap.size):=by show _ < _;rw [ht.1];exact HP1.out
 have HG3:=HG1;have HF3:=HF1;clear ht b0 b1 b2 b3 HL1;obtain ⟨b0,b1,b2,b3⟩:=jw CK.out;go_wp2_with fail
 go_region_with (first|(go_at_call 157;refine (GY al l2 l2 0 L w3.drew HL3.out NR.out).mono ?_;rintro e w8 ⟨rfl,ht⟩;have HX8:=zZ (ht.keep CK.out HG3.out);have HB8:=zZ (je HB3.out.drew ht HF3.out);have HP8:Hid (p < w8.heap.size):=(by show _ < _;rw [ht.1];exact HP3.out);clear ht b0 b1 b2 b3;obtain ⟨b0,b1,b2,b3⟩:=jw HX8.out)|(go_at_call 134;refine (HPt.out _).mono ?_;rintro e w9 ⟨rfl,hh9,hb9⟩;have HX9:=zZ (Ey hh9 HX8.out);have HB9:=zZ (jc HB8.out hb9 (Nat.le_of_lt HP8.out));have HP9:Hid (p < w9.heap.size):=(by show _ < _;rw [hh9];exact HP8.out);clear hh9 hb9 b0 b1 b2 b3))
 all_goals (
  go_wp2
  (try simp only [Exit.inBlock,Exit.then]);refine bodyPost_ret (DT rfl _ _ _) rfl ?_
  exact ⟨rfl,by first|exact HB9.out|(rw [hp];exact HB9.out)⟩
 )
end Sh
namespace Sh
open Go.RowKit
theorem iy (al:Int) (co:Bool) (cp cn de oo:Int) (w:World) (C l2:Int) (N2:Hid (Fits cp al C l2)) (NR:Hid (Fits al l2 l2 0)) (Ca:[al,cp,de,oo].all Ce.good=true) (K X m1 Y m2 Z m3:Int) (N3:Hid (Fits 0 oo X m1)) (N4:Hid (Fits C m1 Y m2)) (N5:Hid (Fits K m2 Z m3)) (HPt:Hid (∀w:World,Calls Tryz.prog 134 #[iI l2,iI cn] w fun e w'=>e=.returned (.tuple #[iI K,iI 0])/\w'.heap=w.heap/\Below w.heap.size w w')) :
  Calls Tryz.prog 90 #[iI al,.agg #[.bool co,.bool false,iI cp,iI cn],iI de,iI oo,iI 0] w fun e w'=>e=.returned (.tuple #[iI X,iI Y,iI Z,iI 0])/\Below w.heap.size w w':=by
 have HAM:=zZ (fU [al,cp,de,oo] (w.heap.size+1) 4 4 ((w.alloc (.cells #[.bool co,.bool false,iI cp,iI cn] 99)).alloc (.cells #[iI al,iI cp,iI de,iI oo] 2)) (fM w _ _ _ _) rfl (by simp));have HX0:=zZ (tV (fK w #[.bool co,.bool false,iI cp,iI cn] 99) (iU (w.alloc (.cells #[.bool co,.bool false,iI cp,iI cn] 99)) (.cells #[iI al,iI cp,iI de,iI oo] 2)));have HB0:=zZ (jg (iU w (.cells #[.bool co,.bool false,iI cp,iI cn] 99)) (iU (w.alloc (.cells #[.bool co,.bool false,iI cp,iI cn] 99)) (.cells #[iI al,iI cp,iI de,iI oo] 2)));rw [Ca] at HAM;clear Ca;go_enter Tryz.func90,Tryz.ntmps90
 go_wp2_with fail
 go_at_call 132
 refine HAM.out.mono ?_;rintro e w' ⟨rfl,rfl⟩;have HSZ:Hid (((w.alloc (.cells #[.bool co,.bool false,iI cp,iI cn] 99)).alloc (.cells #[iI al,iI cp,iI de,iI oo] 2)).heap.size=w.heap.size+2):=by show _=_;simp
 clear HAM;have CR:Hid (w.heap.size < ((w.alloc (.cells #[.bool co,.bool false,iI cp,iI cn] 99)).alloc (.cells #[iI al,iI cp,iI de,iI oo] 2)).heap.size):=lt_of_block HX0.out;generalize ((w.alloc (.cells #[.bool co,.bool false,iI cp,iI cn] 99)).alloc (.cells #[iI al,iI cp,iI de,iI oo] 2))=W0 at *;generalize hp:w.heap.size=p at *;obtain ⟨b0,b1,b2,b3⟩:=jw HX0.out;clear b0 b1 b2 b3;go_wp2_with fail
 go_at_call 133
 refine (bS al W0).mono ?_;rintro e w1 ⟨rfl,hl,hb⟩;have Cz:=zZ (tV HX0.out hb);have HB1:=zZ (jc HB0.out hb (Nat.le_of_lt CR.out));have HL1:=zZ hl;have HP1:Hid (p < w1.heap.size):=Nat.lt_of_lt_of_le CR.out hb.size;have HG1:=zZ (Nat.ne_of_lt CR.out);have HF1:=zZ (Nat.le_of_lt CR.out);clear hl hb;generalize W0.heap.size=L at *;obtain ⟨b0,b1,b2,b3⟩:=jw Cz.out;go_wp2_with fail
 go_at_call 157
 refine (GY cp al C l2 L w1 HL1.out N2.out).mono ?_;rintro e w3 ⟨rfl,ht⟩;have CK:=zZ (ht.keep Cz.out HG1.out);have HB3:=zZ (je HB1.out ht HF1.out);have HL3:=zZ ht.2.1;have HP3:Hid (p < w3.heap.size):=by show _ < _;rw [ht.1];exact HP1.out
 have HG3:=HG1;have HF3:=HF1;clear ht b0 b1 b2 b3 HL1;obtain ⟨b0,b1,b2,b3⟩:=jw CK.out;go_wp2_with fail
 go_region_with (first|(go_at_call 157;refine (GY al l2 l2 0 L w3.drew HL3.out NR.out).mono ?_;rintro e w8 ⟨rfl,ht⟩;have HX8:=zZ (ht.keep CK.out HG3.out);have HB8:=zZ (je HB3.out.drew ht HF3.out);have HP8:Hid (p < w8.heap.size):=(by show _ < _;rw [ht.1];exact HP3.out);clear ht b0 b1 b2 b3;obtain ⟨b0,b1,b2,b3⟩:=jw HX8.out)|(go_at_call 134;refine (HPt.out _).mono ?_;rintro e w9 ⟨rfl,hh9,hb9⟩;have HX9:=zZ (Ey hh9 HX8.out);have HB9:=zZ (jc HB8.out hb9 (Nat.le_of_lt HP8.out));have HP9:Hid (p < w9.heap.size):=(by show _ < _;rw [hh9];exact HP8.out);clear hh9 hb9 b0 b1 b2 b3))
 all_goals (
  go_wp2_with fail
  go_at_call 133
  refine (bS oo w9).mono ?_;rintro e w10 ⟨rfl,hl,hb⟩;have HX10:=zZ (tV HX9.out hb);have HB10:=zZ (jc HB9.out hb (Nat.le_of_lt HP9.out));have HL10:=zZ hl;have HP10:Hid (p < w10.heap.size):=Nat.lt_of_lt_of_le HP9.out hb.size;have HG10:=zZ (Nat.ne_of_lt HP9.out);have HF10:=zZ (Nat.le_of_lt HP9.out);clear hl hb;generalize w9.heap.size=M at *;obtain ⟨b0,b1,b2,b3⟩:=jw HX10.out;go_wp2_with fail
  go_at_call 157
  refine (GY 0 oo X m1 M w10 HL10.out N3.out).mono ?_;rintro e w11 ⟨rfl,ht⟩;have HX11:=zZ (ht.keep HX10.out HG10.out);have HB11:=zZ (je HB10.out ht HF10.out);have HL11:=zZ ht.2.1;have HP11:Hid (p < w11.heap.size):=by show _ < _;rw [ht.1];exact HP10.out
  have HG11:=HG10;have HF11:=HF10;clear ht b0 b1 b2 b3 HL10;obtain ⟨b0,b1,b2,b3⟩:=jw HX11.out;go_wp2_with fail
  go_at_call 157
  refine (GY C m1 Y m2 M w11 HL11.out N4.out).mono ?_;rintro e w12 ⟨rfl,ht⟩;have HX12:=zZ (ht.keep HX11.out HG11.out);have HB12:=zZ (je HB11.out ht HF11.out);have HL12:=zZ ht.2.1;have HP12:Hid (p < w12.heap.size):=by show _ < _;rw [ht.1];exact HP11.out
  have HG12:=HG11;have HF12:=HF11;clear ht b0 b1 b2 b3 HL11;obtain ⟨b0,b1,b2,b3⟩:=jw HX12.out;go_wp2_with fail
  go_at_call 157
  refine (GY K m2 Z m3 M w12 HL12.out N5.out).mono ?_;rintro e w13 ⟨rfl,ht⟩;have HX13:=zZ (ht.keep HX12.out HG12.out);have HB13:=zZ (je HB12.out ht HF12.out);have HL13:=zZ ht.2.1;have HP13:Hid (p < w13.heap.size):=by show _ < _;rw [ht.1];exact HP12.out
  have HG13:=HG12;have HF13:=HF12;clear ht b0 b1 b2 b3 HL12;obtain ⟨b0,b1,b2,b3⟩:=jw HX13.out;go_wp2
  (try simp only [Exit.inBlock,Exit.then]);refine bodyPost_ret (DT rfl _ _ _) rfl ?_
  exact ⟨rfl,by first|exact HB13.out|(rw [hp];exact HB13.out)⟩
 )
end Sh
namespace Sh
open Go.RowKit
theorem iK (al:Int) (co:Bool) (cp cn de oo net:Int) (w:World) (hn:(net == 0)=false) (C l2:Int) (N2:Hid (Fits cp al C l2)) (NR:Hid (Fits al l2 l2 0)) (Ca:[al,cp,de,oo].all Ce.good=true) (HPt:Hid (∀w:World,Calls Tryz.prog 134 #[iI l2,iI cn] w fun e w'=>e=.returned (.tuple #[iI 0,iI 1])/\w'.heap=w.heap/\Below w.heap.size w w')) :
  Calls Tryz.prog 90 #[iI al,.agg #[.bool co,.bool true,iI cp,iI cn],iI de,iI oo,iI net] w fun e w'=>e=.returned (.tuple #[iI 0,iI 0,iI 0,iI 1])/\Below w.heap.size w w':=by
 have HAM:=zZ (fU [al,cp,de,oo] (w.heap.size+1) 4 4 ((w.alloc (.cells #[.bool co,.bool true,iI cp,iI cn] 99)).alloc (.cells #[iI al,iI cp,iI de,iI oo] 2)) (fM w _ _ _ _) rfl (by simp));have HX0:=zZ (tV (fK w #[.bool co,.bool true,iI cp,iI cn] 99) (iU (w.alloc (.cells #[.bool co,.bool true,iI cp,iI cn] 99)) (.cells #[iI al,iI cp,iI de,iI oo] 2)));have HB0:=zZ (jg (iU w (.cells #[.bool co,.bool true,iI cp,iI cn] 99)) (iU (w.alloc (.cells #[.bool co,.bool true,iI cp,iI cn] 99)) (.cells #[iI al,iI cp,iI de,iI oo] 2)));rw [Ca] at HAM;clear Ca;go_enter Tryz.func90,Tryz.ntmps90
 go_wp2_with fail
 go_at_call 132
 refine HAM.out.mono ?_;rintro e w' ⟨rfl,rfl⟩;have HSZ:Hid (((w.alloc (.cells #[.bool co,.bool true,iI cp,iI cn] 99)).alloc (.cells #[iI al,iI cp,iI de,iI oo] 2)).heap.size=w.heap.size+2):=by show _=_;simp
 clear HAM;have CR:Hid (w.heap.size < ((w.alloc (.cells #[.bool co,.bool true,iI cp,iI cn] 99)).alloc (.cells #[iI al,iI cp,iI de,iI oo] 2)).heap.size):=lt_of_block HX0.out;generalize ((w.alloc (.cells #[.bool co,.bool true,iI cp,iI cn] 99)).alloc (.cells #[iI al,iI cp,iI de,iI oo] 2))=W0 at *;generalize hp:w.heap.size=p at *;obtain ⟨b0,b1,b2,b3⟩:=jw HX0.out;clear b0 b1 b2 b3;go_wp2_with fail
 go_at_call 133
 refine (bS al W0).mono ?_;rintro e w1 ⟨rfl,hl,hb⟩;have Cz:=zZ (tV HX0.out hb);have HB1:=zZ (jc HB0.out hb (Nat.le_of_lt CR.out));have HL1:=zZ hl;have HP1:Hid (p < w1.heap.size):=Nat.lt_of_lt_of_le CR.out hb.size;have HG1:=zZ (Nat.ne_of_lt CR.out);have HF1:=zZ (Nat.le_of_lt CR.out);clear hl hb;generalize W0.heap.size=L at *;obtain ⟨b0,b1,b2,b3⟩:=jw Cz.out;go_wp2_with fail
 go_at_call 157
 refine (GY cp al C l2 L w1 HL1.out N2.out).mono ?_;rintro e w3 ⟨rfl,ht⟩;have CK:=zZ (ht.keep Cz.out HG1.out);have HB3:=zZ (je HB1.out ht HF1.out);have HL3:=zZ ht.2.1;have HP3:Hid (p < w3.heap.size):=by show _ < _;rw [ht.1];exact HP1.out
 have HG3:=HG1;have HF3:=HF1;clear ht b0 b1 b2 b3 HL1;obtain ⟨b0,b1,b2,b3⟩:=jw CK.out;go_wp2_with fail
 go_region_with (first|(go_at_call 157;refine (GY al l2 l2 0 L w3.drew HL3.out NR.out).mono ?_;rintro e w8 ⟨rfl,ht⟩;have HX8:=zZ (ht.keep CK.out HG3.out);have HB8:=zZ (je HB3.out.drew ht HF3.out);have HP8:Hid (p < w8.heap.size):=(by show _ < _;rw [ht.1];exact HP3.out);clear ht b0 b1 b2 b3;obtain ⟨b0,b1,b2,b3⟩:=jw HX8.out)|(go_at_call 134;refine (HPt.out _).mono ?_;rintro e w9 ⟨rfl,hh9,hb9⟩;have HX9:=zZ (Ey hh9 HX8.out);have HB9:=zZ (jc HB8.out hb9 (Nat.le_of_lt HP8.out));have HP9:Hid (p < w9.heap.size):=(by show _ < _;rw [hh9];exact HP8.out);clear hh9 hb9 b0 b1 b2 b3))
 all_goals (
  go_wp2
  (try simp only [Exit.inBlock,Exit.then]);refine bodyPost_ret (DT rfl _ _ _) rfl ?_
  exact ⟨rfl,by first|exact HB9.out|(rw [hp];exact HB9.out)⟩
 )
end Sh
namespace Sh
open Go.RowKit
theorem iJ (al:Int) (co:Bool) (cp cn de oo net:Int) (w:World) (hn:(net == 0)=false) (C l2:Int) (N2:Hid (Fits cp al C l2)) (NR:Hid (Fits al l2 l2 0)) (Ca:[al,cp,de,oo].all Ce.good=true) (K:Int) (HPt:Hid (∀w:World,Calls Tryz.prog 134 #[iI l2,iI cn] w fun e w'=>e=.returned (.tuple #[iI K,iI 0])/\w'.heap=w.heap/\Below w.heap.size w w')) :
  Calls Tryz.prog 90 #[iI al,.agg #[.bool co,.bool true,iI cp,iI cn],iI de,iI oo,iI net] w fun e w'=>e=.returned (.tuple #[iI 0,iI C,iI K,iI 0])/\Below w.heap.size w w':=by
 have HAM:=zZ (fU [al,cp,de,oo] (w.heap.size+1) 4 4 ((w.alloc (.cells #[.bool co,.bool true,iI cp,iI cn] 99)).alloc (.cells #[iI al,iI cp,iI de,iI oo] 2)) (fM w _ _ _ _) rfl (by simp));have HX0:=zZ (tV (fK w #[.bool co,.bool true,iI cp,iI cn] 99) (iU (w.alloc (.cells #[.bool co,.bool true,iI cp,iI cn] 99)) (.cells #[iI al,iI cp,iI de,iI oo] 2)));have HB0:=zZ (jg (iU w (.cells #[.bool co,.bool true,iI cp,iI cn] 99)) (iU (w.alloc (.cells #[.bool co,.bool true,iI cp,iI cn] 99)) (.cells #[iI al,iI cp,iI de,iI oo] 2)));rw [Ca] at HAM;clear Ca;go_enter Tryz.func90,Tryz.ntmps90
 go_wp2_with fail
 go_at_call 132
 refine HAM.out.mono ?_;rintro e w' ⟨rfl,rfl⟩;have HSZ:Hid (((w.alloc (.cells #[.bool co,.bool true,iI cp,iI cn] 99)).alloc (.cells #[iI al,iI cp,iI de,iI oo] 2)).heap.size=w.heap.size+2):=by show _=_;simp
 clear HAM;have CR:Hid (w.heap.size < ((w.alloc (.cells #[.bool co,.bool true,iI cp,iI cn] 99)).alloc (.cells #[iI al,iI cp,iI de,iI oo] 2)).heap.size):=lt_of_block HX0.out;generalize ((w.alloc (.cells #[.bool co,.bool true,iI cp,iI cn] 99)).alloc (.cells #[iI al,iI cp,iI de,iI oo] 2))=W0 at *;generalize hp:w.heap.size=p at *;obtain ⟨b0,b1,b2,b3⟩:=jw HX0.out;clear b0 b1 b2 b3;go_wp2_with fail
 go_at_call 133
 refine (bS al W0).mono ?_;rintro e w1 ⟨rfl,hl,hb⟩;have Cz:=zZ (tV HX0.out hb);have HB1:=zZ (jc HB0.out hb (Nat.le_of_lt CR.out));have HL1:=zZ hl;have HP1:Hid (p < w1.heap.size):=Nat.lt_of_lt_of_le CR.out hb.size;have HG1:=zZ (Nat.ne_of_lt CR.out);have HF1:=zZ (Nat.le_of_lt CR.out);clear hl hb;generalize W0.heap.size=L at *;obtain ⟨b0,b1,b2,b3⟩:=jw Cz.out;go_wp2_with fail
 go_at_call 157
 refine (GY cp al C l2 L w1 HL1.out N2.out).mono ?_;rintro e w3 ⟨rfl,ht⟩;have CK:=zZ (ht.keep Cz.out HG1.out);have HB3:=zZ (je HB1.out ht HF1.out);have HL3:=zZ ht.2.1;have HP3:Hid (p < w3.heap.size):=by show _ < _;rw [ht.1];exact HP1.out
 have HG3:=HG1;have HF3:=HF1;clear ht b0 b1 b2 b3 HL1;obtain ⟨b0,b1,b2,b3⟩:=jw CK.out;go_wp2_with fail
 go_region_with (first|(go_at_call 157;refine (GY al l2 l2 0 L w3.drew HL3.out NR.out).mono ?_;rintro e w8 ⟨rfl,ht⟩;have HX8:=zZ (ht.keep CK.out HG3.out);have HB8:=zZ (je HB3.out.drew ht HF3.out);have HP8:Hid (p < w8.heap.size):=(by show _ < _;rw [ht.1];exact HP3.out);clear ht b0 b1 b2 b3;obtain ⟨b0,b1,b2,b3⟩:=jw HX8.out)|(go_at_call 134;refine (HPt.out _).mono ?_;rintro e w9 ⟨rfl,hh9,hb9⟩;have HX9:=zZ (Ey hh9 HX8.out);have HB9:=zZ (jc HB8.out hb9 (Nat.le_of_lt HP8.out));have HP9:Hid (p < w9.heap.size):=(by show _ < _;rw [hh9];exact HP8.out);clear hh9 hb9 b0 b1 b2 b3))
 all_goals (
  go_wp2
  (try simp only [Exit.inBlock,Exit.then]);refine bodyPost_ret (DT rfl _ _ _) rfl ?_
  exact ⟨rfl,by first|exact HB9.out|(rw [hp];exact HB9.out)⟩
 )
end Sh
namespace Sh
open Go.RowKit
theorem iF (al:Int) (co:Bool) (cp cn de oo net:Int) (w:World) (hn:(net == 0)=false) (C l2:Int) (N2:Hid (Fits cp al C l2)) (NR:Hid (Fits al l2 l2 0)) (Ca:[al,cp,de,oo].all Ce.good=true) (HPt:Hid (∀w:World,Calls Tryz.prog 134 #[iI l2,iI cn] w fun e w'=>e=.returned (.tuple #[iI 0,iI 1])/\w'.heap=w.heap/\Below w.heap.size w w')) :
  Calls Tryz.prog 90 #[iI al,.agg #[.bool co,.bool false,iI cp,iI cn],iI de,iI oo,iI net] w fun e w'=>e=.returned (.tuple #[iI 0,iI 0,iI 0,iI 1])/\Below w.heap.size w w':=by
 have HAM:=zZ (fU [al,cp,de,oo] (w.heap.size+1) 4 4 ((w.alloc (.cells #[.bool co,.bool false,iI cp,iI cn] 99)).alloc (.cells #[iI al,iI cp,iI de,iI oo] 2)) (fM w _ _ _ _) rfl (by simp));have HX0:=zZ (tV (fK w #[.bool co,.bool false,iI cp,iI cn] 99) (iU (w.alloc (.cells #[.bool co,.bool false,iI cp,iI cn] 99)) (.cells #[iI al,iI cp,iI de,iI oo] 2)));have HB0:=zZ (jg (iU w (.cells #[.bool co,.bool false,iI cp,iI cn] 99)) (iU (w.alloc (.cells #[.bool co,.bool false,iI cp,iI cn] 99)) (.cells #[iI al,iI cp,iI de,iI oo] 2)));rw [Ca] at HAM;clear Ca;go_enter Tryz.func90,Tryz.ntmps90
 go_wp2_with fail
 go_at_call 132
 refine HAM.out.mono ?_;rintro e w' ⟨rfl,rfl⟩;have HSZ:Hid (((w.alloc (.cells #[.bool co,.bool false,iI cp,iI cn] 99)).alloc (.cells #[iI al,iI cp,iI de,iI oo] 2)).heap.size=w.heap.size+2):=by show _=_;simp
 clear HAM;have CR:Hid (w.heap.size < ((w.alloc (.cells #[.bool co,.bool false,iI cp,iI cn] 99)).alloc (.cells #[iI al,iI cp,iI de,iI oo] 2)).heap.size):=lt_of_block HX0.out;generalize ((w.alloc (.cells #[.bool co,.bool false,iI cp,iI cn] 99)).alloc (.cells #[iI al,iI cp,iI de,iI oo] 2))=W0 at *;generalize hp:w.heap.size=p at *;obtain ⟨b0,b1,b2,b3⟩:=jw HX0.out;clear b0 b1 b2 b3;go_wp2_with fail
 go_at_call 133
 refine (bS al W0).mono ?_;rintro e w1 ⟨rfl,hl,hb⟩;have Cz:=zZ (tV HX0.out hb);have HB1:=zZ (jc HB0.out hb (Nat.le_of_lt CR.out));have HL1:=zZ hl;have HP1:Hid (p < w1.heap.size):=Nat.lt_of_lt_of_le CR.out hb.size;have HG1:=zZ (Nat.ne_of_lt CR.out);have HF1:=zZ (Nat.le_of_lt CR.out);clear hl hb;generalize W0.heap.size=L at *;obtain ⟨b0,b1,b2,b3⟩:=jw Cz.out;go_wp2_with fail
 go_at_call 157
 refine (GY cp al C l2 L w1 HL1.out N2.out).mono ?_;rintro e w3 ⟨rfl,ht⟩;have CK:=zZ (ht.keep Cz.out HG1.out);have HB3:=zZ (je HB1.out ht HF1.out);have HL3:=zZ ht.2.1;have HP3:Hid (p < w3.heap.size):=by show _ < _;rw [ht.1];exact HP1.out
 have HG3:=HG1;have HF3:=HF1;clear ht b0 b1 b2 b3 HL1;obtain ⟨b0,b1,b2,b3⟩:=jw CK.out;go_wp2_with fail
 go_region_with (first|(go_at_call 157;refine (GY al l2 l2 0 L w3.drew HL3.out NR.out).mono ?_;rintro e w8 ⟨rfl,ht⟩;have HX8:=zZ (ht.keep CK.out HG3.out);have HB8:=zZ (je HB3.out.drew ht HF3.out);have HP8:Hid (p < w8.heap.size):=(by show _ < _;rw [ht.1];exact HP3.out);clear ht b0 b1 b2 b3;obtain ⟨b0,b1,b2,b3⟩:=jw HX8.out)|(go_at_call 134;refine (HPt.out _).mono ?_;rintro e w9 ⟨rfl,hh9,hb9⟩;have HX9:=zZ (Ey hh9 HX8.out);have HB9:=zZ (jc HB8.out hb9 (Nat.le_of_lt HP8.out));have HP9:Hid (p < w9.heap.size):=(by show _ < _;rw [hh9];exact HP8.out);clear hh9 hb9 b0 b1 b2 b3))
 all_goals (
  go_wp2
  (try simp only [Exit.inBlock,Exit.then]);refine bodyPost_ret (DT rfl _ _ _) rfl ?_
  exact ⟨rfl,by first|exact HB9.out|(rw [hp];exact HB9.out)⟩
 )
end Sh
namespace Sh
open Go.RowKit
theorem iE (al:Int) (co:Bool) (cp cn de oo net:Int) (w:World) (hn:(net == 0)=false) (C l2:Int) (N2:Hid (Fits cp al C l2)) (NR:Hid (Fits al l2 l2 0)) (Ca:[al,cp,de,oo].all Ce.good=true) (K:Int) (HPt:Hid (∀w:World,Calls Tryz.prog 134 #[iI l2,iI cn] w fun e w'=>e=.returned (.tuple #[iI K,iI 0])/\w'.heap=w.heap/\Below w.heap.size w w')) :
  Calls Tryz.prog 90 #[iI al,.agg #[.bool co,.bool false,iI cp,iI cn],iI de,iI oo,iI net] w fun e w'=>e=.returned (.tuple #[iI 0,iI C,iI K,iI 0])/\Below w.heap.size w w':=by
 have HAM:=zZ (fU [al,cp,de,oo] (w.heap.size+1) 4 4 ((w.alloc (.cells #[.bool co,.bool false,iI cp,iI cn] 99)).alloc (.cells #[iI al,iI cp,iI de,iI oo] 2)) (fM w _ _ _ _) rfl (by simp));have HX0:=zZ (tV (fK w #[.bool co,.bool false,iI cp,iI cn] 99) (iU (w.alloc (.cells #[.bool co,.bool false,iI cp,iI cn] 99)) (.cells #[iI al,iI cp,iI de,iI oo] 2)));have HB0:=zZ (jg (iU w (.cells #[.bool co,.bool false,iI cp,iI cn] 99)) (iU (w.alloc (.cells #[.bool co,.bool false,iI cp,iI cn] 99)) (.cells #[iI al,iI cp,iI de,iI oo] 2)));rw [Ca] at HAM;clear Ca;go_enter Tryz.func90,Tryz.ntmps90
 go_wp2_with fail
 go_at_call 132
 refine HAM.out.mono ?_;rintro e w' ⟨rfl,rfl⟩;have HSZ:Hid (((w.alloc (.cells #[.bool co,.bool false,iI cp,iI cn] 99)).alloc (.cells #[iI al,iI cp,iI de,iI oo] 2)).heap.size=w.heap.size+2):=by show _=_;simp
 clear HAM;have CR:Hid (w.heap.size < ((w.alloc (.cells #[.bool co,.bool false,iI cp,iI cn] 99)).alloc (.cells #[iI al,iI cp,iI de,iI oo] 2)).heap.size):=lt_of_block HX0.out;generalize ((w.alloc (.cells #[.bool co,.bool false,iI cp,iI cn] 99)).alloc (.cells #[iI al,iI cp,iI de,iI oo] 2))=W0 at *;generalize hp:w.heap.size=p at *;obtain ⟨b0,b1,b2,b3⟩:=jw HX0.out;clear b0 b1 b2 b3;go_wp2_with fail
 go_at_call 133
 refine (bS al W0).mono ?_;rintro e w1 ⟨rfl,hl,hb⟩;have Cz:=zZ (tV HX0.out hb);have HB1:=zZ (jc HB0.out hb (Nat.le_of_lt CR.out));have HL1:=zZ hl;have HP1:Hid (p < w1.heap.size):=Nat.lt_of_lt_of_le CR.out hb.size;have HG1:=zZ (Nat.ne_of_lt CR.out);have HF1:=zZ (Nat.le_of_lt CR.out);clear hl hb;generalize W0.heap.size=L at *;obtain ⟨b0,b1,b2,b3⟩:=jw Cz.out;go_wp2_with fail
 go_at_call 157
 refine (GY cp al C l2 L w1 HL1.out N2.out).mono ?_;rintro e w3 ⟨rfl,ht⟩;have CK:=zZ (ht.keep Cz.out HG1.out);have HB3:=zZ (je HB1.out ht HF1.out);have HL3:=zZ ht.2.1;have HP3:Hid (p < w3.heap.size):=by show _ < _;rw [ht.1];exact HP1.out
 have HG3:=HG1;have HF3:=HF1;clear ht b0 b1 b2 b3 HL1;obtain ⟨b0,b1,b2,b3⟩:=jw CK.out;go_wp2_with fail
 go_region_with (first|(go_at_call 157;refine (GY al l2 l2 0 L w3.drew HL3.out NR.out).mono ?_;rintro e w8 ⟨rfl,ht⟩;have HX8:=zZ (ht.keep CK.out HG3.out);have HB8:=zZ (je HB3.out.drew ht HF3.out);have HP8:Hid (p < w8.heap.size):=(by show _ < _;rw [ht.1];exact HP3.out);clear ht b0 b1 b2 b3;obtain ⟨b0,b1,b2,b3⟩:=jw HX8.out)|(go_at_call 134;refine (HPt.out _).mono ?_;rintro e w9 ⟨rfl,hh9,hb9⟩;have HX9:=zZ (Ey hh9 HX8.out);have HB9:=zZ (jc HB8.out hb9 (Nat.le_of_lt HP8.out));have HP9:Hid (p < w9.heap.size):=(by show _ < _;rw [hh9];exact HP8.out);clear hh9 hb9 b0 b1 b2 b3))
 all_goals (
  go_wp2
  (try simp only [Exit.inBlock,Exit.then]);refine bodyPost_ret (DT rfl _ _ _) rfl ?_
  exact ⟨rfl,by first|exact HB9.out|(rw [hp];exact HB9.out)⟩
 )
end Sh
end Go.Proofs.YtfbfeoplldjbpaaGreatDoor
