/-
  Texts put together (merge.py): HRBear, HRSet0.
-/
import Derived.Test.YtfbfeoplldjbpaaGreatDoorMd43
set_option linter.unusedSimpArgs false
set_option linter.unusedVariables false
set_option maxHeartbeats 16000000
set_option maxRecDepth 100000
namespace Go.Proofs.YtfbfeoplldjbpaaGreatDoor
namespace Sh
open Go.RowKit
theorem LQ (a b v:Int) (h:least a b=v):Hid (∀w:World,Calls Tryz.prog 100 #[iI a,iI b] w fun e w'=>e=.returned (iI v)/\w'=w):=fun w=>by
 rw [←h];exact LP a b w
theorem Na (al:Int) (co dd:Bool) (cp cn de oo net:Int) (w:World) (ga:Ce.good al=false) :
  Calls Tryz.prog 59 #[iI al,.agg #[.bool co,.bool dd,iI cp,iI cn],iI de,iI oo,iI net] w fun e w'=>e=.returned (.tuple #[iI 0,iI 0,iI 0,iI 1])/\Below w.heap.size w w':=by
 have HX:=zZ (fK w #[.bool co,.bool dd,iI cp,iI cn] 99);have HB:=zZ (iU w (.cells #[.bool co,.bool dd,iI cp,iI cn] 99));go_enter Tryz.func59,Tryz.ntmps59
 go_upto_region 1 with fail
 generalize w.alloc (.cells #[.bool co,.bool dd,iI cp,iI cn] 99)=W at *;generalize hp:w.heap.size=p at *;obtain ⟨b0,b1,b2,b3⟩:=jw HX.out;go_wp2_with (go_at_call 52;refine (Ce.NM _ _).mono ?_;rintro e w' ⟨rfl,rfl⟩)
 (try simp only [Exit.inBlock,Exit.then]);refine bodyPost_ret (DT rfl _ _ _) rfl ?_
 exact ⟨rfl,by first|exact HB.out|(rw [hp];exact HB.out)⟩
theorem Nb (al:Int) (co dd:Bool) (cp cn de oo net:Int) (w:World) (ga:Ce.good al=true) (gb:Ce.good cp=false) :
  Calls Tryz.prog 59 #[iI al,.agg #[.bool co,.bool dd,iI cp,iI cn],iI de,iI oo,iI net] w fun e w'=>e=.returned (.tuple #[iI 0,iI 0,iI 0,iI 1])/\Below w.heap.size w w':=by
 have HX:=zZ (fK w #[.bool co,.bool dd,iI cp,iI cn] 99);have HB:=zZ (iU w (.cells #[.bool co,.bool dd,iI cp,iI cn] 99));go_enter Tryz.func59,Tryz.ntmps59
 go_upto_region 1 with fail
 generalize w.alloc (.cells #[.bool co,.bool dd,iI cp,iI cn] 99)=W at *;generalize hp:w.heap.size=p at *;obtain ⟨b0,b1,b2,b3⟩:=jw HX.out;go_wp2_with (go_at_call 52;refine (Ce.NM _ _).mono ?_;rintro e w' ⟨rfl,rfl⟩)
 (try simp only [Exit.inBlock,Exit.then]);refine bodyPost_ret (DT rfl _ _ _) rfl ?_
 exact ⟨rfl,by first|exact HB.out|(rw [hp];exact HB.out)⟩
theorem Nc (al:Int) (co dd:Bool) (cp cn de oo net:Int) (w:World) (ga:Ce.good al=true) (gb:Ce.good cp=true) (gc:Ce.good de=false) :
  Calls Tryz.prog 59 #[iI al,.agg #[.bool co,.bool dd,iI cp,iI cn],iI de,iI oo,iI net] w fun e w'=>e=.returned (.tuple #[iI 0,iI 0,iI 0,iI 1])/\Below w.heap.size w w':=by
 have HX:=zZ (fK w #[.bool co,.bool dd,iI cp,iI cn] 99);have HB:=zZ (iU w (.cells #[.bool co,.bool dd,iI cp,iI cn] 99));go_enter Tryz.func59,Tryz.ntmps59
 go_upto_region 1 with fail
 generalize w.alloc (.cells #[.bool co,.bool dd,iI cp,iI cn] 99)=W at *;generalize hp:w.heap.size=p at *;obtain ⟨b0,b1,b2,b3⟩:=jw HX.out;go_wp2_with (go_at_call 52;refine (Ce.NM _ _).mono ?_;rintro e w' ⟨rfl,rfl⟩)
 (try simp only [Exit.inBlock,Exit.then]);refine bodyPost_ret (DT rfl _ _ _) rfl ?_
 exact ⟨rfl,by first|exact HB.out|(rw [hp];exact HB.out)⟩
theorem Nh (al:Int) (co dd:Bool) (cp cn de oo net:Int) (w:World) (ga:Ce.good al=true) (gb:Ce.good cp=true) (gc:Ce.good de=true) (gd:Ce.good oo=false) :
  Calls Tryz.prog 59 #[iI al,.agg #[.bool co,.bool dd,iI cp,iI cn],iI de,iI oo,iI net] w fun e w'=>e=.returned (.tuple #[iI 0,iI 0,iI 0,iI 1])/\Below w.heap.size w w':=by
 have HX:=zZ (fK w #[.bool co,.bool dd,iI cp,iI cn] 99);have HB:=zZ (iU w (.cells #[.bool co,.bool dd,iI cp,iI cn] 99));go_enter Tryz.func59,Tryz.ntmps59
 go_upto_region 1 with fail
 generalize w.alloc (.cells #[.bool co,.bool dd,iI cp,iI cn] 99)=W at *;generalize hp:w.heap.size=p at *;obtain ⟨b0,b1,b2,b3⟩:=jw HX.out;go_wp2_with (go_at_call 52;refine (Ce.NM _ _).mono ?_;rintro e w' ⟨rfl,rfl⟩)
 (try simp only [Exit.inBlock,Exit.then]);refine bodyPost_ret (DT rfl _ _ _) rfl ?_
 exact ⟨rfl,by first|exact HB.out|(rw [hp];exact HB.out)⟩
theorem Nj (al:Int) (co dd:Bool) (cp cn de oo net:Int) (w:World) (ga:Ce.good al=true) (gb:Ce.good cp=true) (gc:Ce.good de=true) (gd:Ce.good oo=true) (hn:cn < 0) :
  Calls Tryz.prog 59 #[iI al,.agg #[.bool co,.bool dd,iI cp,iI cn],iI de,iI oo,iI net] w fun e w'=>e=.returned (.tuple #[iI 0,iI 0,iI 0,iI 1])/\Below w.heap.size w w':=by
 have HX:=zZ (fK w #[.bool co,.bool dd,iI cp,iI cn] 99);have HB:=zZ (iU w (.cells #[.bool co,.bool dd,iI cp,iI cn] 99));go_enter Tryz.func59,Tryz.ntmps59
 go_upto_region 1 with fail
 generalize w.alloc (.cells #[.bool co,.bool dd,iI cp,iI cn] 99)=W at *;generalize hp:w.heap.size=p at *;obtain ⟨b0,b1,b2,b3⟩:=jw HX.out;go_wp2_with (go_at_call 52;refine (Ce.NM _ _).mono ?_;rintro e w' ⟨rfl,rfl⟩)
 (try simp only [Exit.inBlock,Exit.then]);refine bodyPost_ret (DT rfl _ _ _) rfl ?_
 exact ⟨rfl,by first|exact HB.out|(rw [hp];exact HB.out)⟩
theorem Nk (al:Int) (co dd:Bool) (cp cn de oo net:Int) (w:World) (ga:Ce.good al=true) (gb:Ce.good cp=true) (gc:Ce.good de=true) (gd:Ce.good oo=true) (hn:0<=cn) (hm:10000 < cn) :
  Calls Tryz.prog 59 #[iI al,.agg #[.bool co,.bool dd,iI cp,iI cn],iI de,iI oo,iI net] w fun e w'=>e=.returned (.tuple #[iI 0,iI 0,iI 0,iI 1])/\Below w.heap.size w w':=by
 have HX:=zZ (fK w #[.bool co,.bool dd,iI cp,iI cn] 99);have HB:=zZ (iU w (.cells #[.bool co,.bool dd,iI cp,iI cn] 99));go_enter Tryz.func59,Tryz.ntmps59
 go_upto_region 1 with fail
 generalize w.alloc (.cells #[.bool co,.bool dd,iI cp,iI cn] 99)=W at *;generalize hp:w.heap.size=p at *;obtain ⟨b0,b1,b2,b3⟩:=jw HX.out;go_wp2_with (go_at_call 52;refine (Ce.NM _ _).mono ?_;rintro e w' ⟨rfl,rfl⟩)
 (try simp only [Exit.inBlock,Exit.then]);refine bodyPost_ret (DT rfl _ _ _) rfl ?_
 exact ⟨rfl,by first|exact HB.out|(rw [hp];exact HB.out)⟩
theorem Nq (al:Int) (co:Bool) (cp cn de oo:Int) (w:World) (ga:Ce.good al=true) (gb:Ce.good cp=true) (gc:Ce.good de=true) (gd:Ce.good oo=true) (n0:0<=cn) (n1:cn<=10000) (D C K X Y Z:Int) (a0:0<=al) (a1:al<=10000000000000) (o0:0<=oo) (o1:oo<=10000000000000) (d0:0<=D) (d1:D<=al) (c0:0<=C) (c1:C<=al - D) (L1:Hid (∀w:World,Calls Tryz.prog 100 #[iI de,iI al] w fun e w'=>e=.returned (iI D)/\w'=w)) (L2:Hid (∀w:World,Calls Tryz.prog 100 #[iI cp,iI (al - D)] w fun e w'=>e=.returned (iI C)/\w'=w)) (HPt:Hid (∀w:World,Calls Tryz.prog 101 #[iI (al - D - C),iI cn] w fun e w'=>e=.returned (.tuple #[iI K,iI 0])/\w'=w)) (x0:0<=X) (x1:X<=oo) (y0:0<=Y) (y1:Y<=oo - X) (L3:Hid (∀w:World,Calls Tryz.prog 100 #[iI D,iI oo] w fun e w'=>e=.returned (iI X)/\w'=w)) (L4:Hid (∀w:World,Calls Tryz.prog 100 #[iI C,iI (oo - X)] w fun e w'=>e=.returned (iI Y)/\w'=w)) (L5:Hid (∀w:World,Calls Tryz.prog 100 #[iI K,iI (oo - X - Y)] w fun e w'=>e=.returned (iI Z)/\w'=w)) :
  Calls Tryz.prog 59 #[iI al,.agg #[.bool co,.bool true,iI cp,iI cn],iI de,iI oo,iI 0] w fun e w'=>e=.returned (.tuple #[iI X,iI Y,iI Z,iI 0])/\Below w.heap.size w w':=by
 have HX:=zZ (fK w #[.bool co,.bool true,iI cp,iI cn] 99);have HB:=zZ (iU w (.cells #[.bool co,.bool true,iI cp,iI cn] 99));go_enter Tryz.func59,Tryz.ntmps59
 go_upto_region 1 with fail
 generalize w.alloc (.cells #[.bool co,.bool true,iI cp,iI cn] 99)=W at *;generalize hp:w.heap.size=p at *;obtain ⟨b0,b1,b2,b3⟩:=jw HX.out;go_wp2_with (go_at_call 52;refine (Ce.NM _ _).mono ?_;rintro e w' ⟨rfl,rfl⟩)
 go_at_call 100
 refine (L1.out _).mono ?_;rintro e w' ⟨rfl,hw⟩;rw [hw];clear hw w';go_wp2_with fail
 go_at_call 100
 refine (L2.out _).mono ?_;rintro e w' ⟨rfl,hw⟩;rw [hw];clear hw w';go_wp2_with fail
 go_at_call 101
 refine (HPt.out _).mono ?_;rintro e w' ⟨rfl,hw⟩;rw [hw];clear hw w';go_wp2_with fail
 go_at_call 100
 refine (L3.out _).mono ?_;rintro e w' ⟨rfl,hw⟩;rw [hw];clear hw w';go_wp2_with fail
 go_at_call 100
 refine (L4.out _).mono ?_;rintro e w' ⟨rfl,hw⟩;rw [hw];clear hw w';go_wp2_with fail
 go_at_call 100
 refine (L5.out _).mono ?_;rintro e w' ⟨rfl,hw⟩;rw [hw];clear hw w';go_wp2
 (try simp only [Exit.inBlock,Exit.then]);refine bodyPost_ret (DT rfl _ _ _) rfl ?_
 exact ⟨rfl,by first|exact HB.out|(rw [hp];exact HB.out)⟩
theorem Nl (al:Int) (co:Bool) (cp cn de oo:Int) (w:World) (ga:Ce.good al=true) (gb:Ce.good cp=true) (gc:Ce.good de=true) (gd:Ce.good oo=true) (n0:0<=cn) (n1:cn<=10000) (C K X Y Z:Int) (a0:0<=al) (a1:al<=10000000000000) (o0:0<=oo) (o1:oo<=10000000000000) (c0:0<=C) (c1:C<=al) (L2:Hid (∀w:World,Calls Tryz.prog 100 #[iI cp,iI al] w fun e w'=>e=.returned (iI C)/\w'=w)) (HPt:Hid (∀w:World,Calls Tryz.prog 101 #[iI (al - C),iI cn] w fun e w'=>e=.returned (.tuple #[iI K,iI 0])/\w'=w)) (x0:0<=X) (x1:X<=oo) (y0:0<=Y) (y1:Y<=oo - X) (L3:Hid (∀w:World,Calls Tryz.prog 100 #[iI 0,iI oo] w fun e w'=>e=.returned (iI X)/\w'=w)) (L4:Hid (∀w:World,Calls Tryz.prog 100 #[iI C,iI (oo - X)] w fun e w'=>e=.returned (iI Y)/\w'=w)) (L5:Hid (∀w:World,Calls Tryz.prog 100 #[iI K,iI (oo - X - Y)] w fun e w'=>e=.returned (iI Z)/\w'=w)) :
  Calls Tryz.prog 59 #[iI al,.agg #[.bool co,.bool false,iI cp,iI cn],iI de,iI oo,iI 0] w fun e w'=>e=.returned (.tuple #[iI X,iI Y,iI Z,iI 0])/\Below w.heap.size w w':=by
 have HX:=zZ (fK w #[.bool co,.bool false,iI cp,iI cn] 99);have HB:=zZ (iU w (.cells #[.bool co,.bool false,iI cp,iI cn] 99));go_enter Tryz.func59,Tryz.ntmps59
 go_upto_region 1 with fail
 generalize w.alloc (.cells #[.bool co,.bool false,iI cp,iI cn] 99)=W at *;generalize hp:w.heap.size=p at *;obtain ⟨b0,b1,b2,b3⟩:=jw HX.out;go_wp2_with (go_at_call 52;refine (Ce.NM _ _).mono ?_;rintro e w' ⟨rfl,rfl⟩)
 go_at_call 100
 refine (L2.out _).mono ?_;rintro e w' ⟨rfl,hw⟩;rw [hw];clear hw w';go_wp2_with fail
 go_at_call 101
 refine (HPt.out _).mono ?_;rintro e w' ⟨rfl,hw⟩;rw [hw];clear hw w';go_wp2_with fail
 go_at_call 100
 refine (L3.out _).mono ?_;rintro e w' ⟨rfl,hw⟩;rw [hw];clear hw w';go_wp2_with fail
 go_at_call 100
 refine (L4.out _).mono ?_;rintro e w' ⟨rfl,hw⟩;rw [hw];clear hw w';go_wp2_with fail
 go_at_call 100
 refine (L5.out _).mono ?_;rintro e w' ⟨rfl,hw⟩;rw [hw];clear hw w';go_wp2
 (try simp only [Exit.inBlock,Exit.then]);refine bodyPost_ret (DT rfl _ _ _) rfl ?_
 exact ⟨rfl,by first|exact HB.out|(rw [hp];exact HB.out)⟩
theorem Nr (al:Int) (co:Bool) (cp cn de oo net:Int) (w:World) (hz:(net == 0)=false) (ga:Ce.good al=true) (gb:Ce.good cp=true) (gc:Ce.good de=true) (gd:Ce.good oo=true) (n0:0<=cn) (n1:cn<=10000) (C K:Int) (a0:0<=al) (a1:al<=10000000000000) (o0:0<=oo) (o1:oo<=10000000000000) (c0:0<=C) (c1:C<=al) (L2:Hid (∀w:World,Calls Tryz.prog 100 #[iI cp,iI al] w fun e w'=>e=.returned (iI C)/\w'=w)) (HPt:Hid (∀w:World,Calls Tryz.prog 101 #[iI (al - C),iI cn] w fun e w'=>e=.returned (.tuple #[iI K,iI 0])/\w'=w)) :
  Calls Tryz.prog 59 #[iI al,.agg #[.bool co,.bool true,iI cp,iI cn],iI de,iI oo,iI net] w fun e w'=>e=.returned (.tuple #[iI 0,iI C,iI K,iI 0])/\Below w.heap.size w w':=by
 have HX:=zZ (fK w #[.bool co,.bool true,iI cp,iI cn] 99);have HB:=zZ (iU w (.cells #[.bool co,.bool true,iI cp,iI cn] 99));go_enter Tryz.func59,Tryz.ntmps59
 go_upto_region 1 with fail
 generalize w.alloc (.cells #[.bool co,.bool true,iI cp,iI cn] 99)=W at *;generalize hp:w.heap.size=p at *;obtain ⟨b0,b1,b2,b3⟩:=jw HX.out;go_wp2_with (go_at_call 52;refine (Ce.NM _ _).mono ?_;rintro e w' ⟨rfl,rfl⟩)
 go_at_call 100
 refine (L2.out _).mono ?_;rintro e w' ⟨rfl,hw⟩;rw [hw];clear hw w';go_wp2_with fail
 go_at_call 101
 refine (HPt.out _).mono ?_;rintro e w' ⟨rfl,hw⟩;rw [hw];clear hw w';go_wp2
 (try simp only [Exit.inBlock,Exit.then]);refine bodyPost_ret (DT rfl _ _ _) rfl ?_
 exact ⟨rfl,by first|exact HB.out|(rw [hp];exact HB.out)⟩
theorem Np (al:Int) (co:Bool) (cp cn de oo net:Int) (w:World) (hz:(net == 0)=false) (ga:Ce.good al=true) (gb:Ce.good cp=true) (gc:Ce.good de=true) (gd:Ce.good oo=true) (n0:0<=cn) (n1:cn<=10000) (C K:Int) (a0:0<=al) (a1:al<=10000000000000) (o0:0<=oo) (o1:oo<=10000000000000) (c0:0<=C) (c1:C<=al) (L2:Hid (∀w:World,Calls Tryz.prog 100 #[iI cp,iI al] w fun e w'=>e=.returned (iI C)/\w'=w)) (HPt:Hid (∀w:World,Calls Tryz.prog 101 #[iI (al - C),iI cn] w fun e w'=>e=.returned (.tuple #[iI K,iI 0])/\w'=w)) :
  Calls Tryz.prog 59 #[iI al,.agg #[.bool co,.bool false,iI cp,iI cn],iI de,iI oo,iI net] w fun e w'=>e=.returned (.tuple #[iI 0,iI C,iI K,iI 0])/\Below w.heap.size w w':=by
 have HX:=zZ (fK w #[.bool co,.bool false,iI cp,iI cn] 99);have HB:=zZ (iU w (.cells #[.bool co,.bool false,iI cp,iI cn] 99));go_enter Tryz.func59,Tryz.ntmps59
 go_upto_region 1 with fail
 generalize w.alloc (.cells #[.bool co,.bool false,iI cp,iI cn] 99)=W at *;generalize hp:w.heap.size=p at *;obtain ⟨b0,b1,b2,b3⟩:=jw HX.out;go_wp2_with (go_at_call 52;refine (Ce.NM _ _).mono ?_;rintro e w' ⟨rfl,rfl⟩)
 go_at_call 100
 refine (L2.out _).mono ?_;rintro e w' ⟨rfl,hw⟩;rw [hw];clear hw w';go_wp2_with fail
 go_at_call 101
 refine (HPt.out _).mono ?_;rintro e w' ⟨rfl,hw⟩;rw [hw];clear hw w';go_wp2
 (try simp only [Exit.inBlock,Exit.then]);refine bodyPost_ret (DT rfl _ _ _) rfl ?_
 exact ⟨rfl,by first|exact HB.out|(rw [hp];exact HB.out)⟩
theorem Ov (a p:Int) (h:0<=p/\p<=10000) (h0:0<=a) (h1:a<=10000000000000):Hid (∀w:World,Calls Tryz.prog 101 #[iI a,iI p] w fun e w'=>e=.returned (.tuple #[iI (Ce.AZ a p),iI 0])/\w'=w):=fun w=>by
 have:=Ce.Ou a p w;rw [Bf a p h h0 h1] at this;exact this
theorem MZ (al:Int) (co dd:Bool) (cp cn de oo net:Int) (w:World) :
  Calls Tryz.prog 59 #[iI al,.agg #[.bool co,.bool dd,iI cp,iI cn],iI de,iI oo,iI net] w fun e w'=>e=.returned (.tuple #[iI (bD al dd cp cn de oo net),iI (bC al dd cp cn de oo net),iI (bK al dd cp cn de oo net),iI (bE al cp cn de oo)])/\Below w.heap.size w w':=by
 have hbad (hb:ig al cp cn de oo=false):bD al dd cp cn de oo net=0/\bC al dd cp cn de oo net=0/\bK al dd cp cn de oo net=0/\bE al cp cn de oo=1:=by simp [bD,bC,bK,bE,hb]
 cases ga:Ce.good al
 ·obtain ⟨q1,q2,q3,q4⟩:=hbad (by simp [ig,ga]);rw [q1,q2,q3,q4];exact Na al co dd cp cn de oo net w ga
 cases gb:Ce.good cp
 ·obtain ⟨q1,q2,q3,q4⟩:=hbad (by simp [ig,gb]);rw [q1,q2,q3,q4];exact Nb al co dd cp cn de oo net w ga gb
 cases gc:Ce.good de
 ·obtain ⟨q1,q2,q3,q4⟩:=hbad (by simp [ig,gc]);rw [q1,q2,q3,q4];exact Nc al co dd cp cn de oo net w ga gb gc
 cases gd:Ce.good oo
 ·obtain ⟨q1,q2,q3,q4⟩:=hbad (by simp [ig,gd]);rw [q1,q2,q3,q4];exact Nh al co dd cp cn de oo net w ga gb gc gd
 by_cases hn:0<=cn/\cn<=10000
 ·obtain ⟨a0,a1⟩:=(Ce.ql _).1 ga;obtain ⟨c0',c1⟩:=(Ce.ql _).1 gb;obtain ⟨e0,e1⟩:=(Ce.ql _).1 gc;obtain ⟨o0,o1⟩:=(Ce.ql _).1 gd;have hb:ig al cp cn de oo=true:=(iG al cp cn de oo).2 ⟨⟨a0,a1⟩,⟨c0',c1⟩,⟨e0,e1⟩,⟨o0,o1⟩,hn.1,hn.2⟩;have hd:=uS de al e0 a0;have hc1:=uS cp (al - least de al) c0' (by omega);have hc2:=uS cp al c0' a0;rw [show bE al cp cn de oo=0 by simp [bE,hb]];by_cases hz:net=0
  ·subst hz;cases dd
   ·have hd0:d0 al false de 0=0:=by simp [d0]
    have hc0:c0 al false cp de 0=least cp al:=by simp [c0,hd0]
    have hk0:k0 al false cp cn de 0=Ce.AZ (al - least cp al) cn:=by simp [k0,hd0,hc0]
    have hx:=uS 0 oo (by omega) o0;have hy:=uS (least cp al) (oo - least 0 oo) (by omega) (by omega);have x1:bD al false cp cn de oo 0=least 0 oo:=by simp [bD,hb,hd0]
    have x2:bC al false cp cn de oo 0=least (least cp al) (oo - least 0 oo):=by simp only [bC,hb,if_true,x1,hc0]
    have x3:bK al false cp cn de oo 0=least (Ce.AZ (al - least cp al) cn) (oo - least 0 oo - least (least cp al) (oo - least 0 oo)):=by simp only [bK,hb,if_true,x1,x2,hk0]
    rw [x1,x2,x3];exact Nl al co cp cn de oo w ga gb gc gd hn.1 hn.2 _ _ _ _ _ a0 a1 o0 o1 hc2.1 hc2.2.2 (LQ _ _ _ rfl) (Ov _ _ hn (by omega) (by omega)) hx.1 hx.2.2 hy.1 hy.2.2 (LQ _ _ _ rfl) (LQ _ _ _ rfl) (LQ _ _ _ rfl)
   ·have hd0:d0 al true de 0=least de al:=by simp [d0]
    have hc0:c0 al true cp de 0=least cp (al - least de al):=by simp [c0,hd0]
    have hk0:k0 al true cp cn de 0=Ce.AZ (al - least de al - least cp (al - least de al)) cn:=by simp [k0,hd0,hc0]
    have hx:=uS (least de al) oo (by omega) o0;have hy:=uS (least cp (al - least de al)) (oo - least (least de al) oo) (by omega) (by omega);have x1:bD al true cp cn de oo 0=least (least de al) oo:=by simp [bD,hb,hd0]
    have x2:bC al true cp cn de oo 0=least (least cp (al - least de al)) (oo - least (least de al) oo):=by simp only [bC,hb,if_true,x1,hc0]
    have x3:bK al true cp cn de oo 0=least (Ce.AZ (al - least de al - least cp (al - least de al)) cn) (oo - least (least de al) oo - least (least cp (al - least de al)) (oo - least (least de al) oo)):=by simp only [bK,hb,if_true,x1,x2,hk0]
    rw [x1,x2,x3];exact Nq al co cp cn de oo w ga gb gc gd hn.1 hn.2 _ _ _ _ _ _ a0 a1 o0 o1 hd.1 hd.2.2 hc1.1 hc1.2.2 (LQ _ _ _ rfl) (LQ _ _ _ rfl) (Ov _ _ hn (by omega) (by omega)) hx.1 hx.2.2 hy.1 hy.2.2 (LQ _ _ _ rfl) (LQ _ _ _ rfl) (LQ _ _ _ rfl)
  ·have hz':(net == 0)=false:=by simpa using hz
   have hd0:d0 al dd de net=0:=by simp [d0,hz]
   have hc0:c0 al dd cp de net=least cp al:=by simp [c0,hd0]
   have hk0:k0 al dd cp cn de net=Ce.AZ (al - least cp al) cn:=by simp [k0,hd0,hc0]
   rw [show bD al dd cp cn de oo net=0 by simp [bD,hb,hz,hd0],show bC al dd cp cn de oo net=least cp al by simp [bC,hb,hz,hc0],show bK al dd cp cn de oo net=Ce.AZ (al - least cp al) cn by simp [bK,hb,hz,hk0]];cases dd
   ·exact Np al co cp cn de oo net w hz' ga gb gc gd hn.1 hn.2 _ _ a0 a1 o0 o1 hc2.1 hc2.2.2 (LQ _ _ _ rfl) (Ov _ _ hn (by omega) (by omega))
   ·exact Nr al co cp cn de oo net w hz' ga gb gc gd hn.1 hn.2 _ _ a0 a1 o0 o1 hc2.1 hc2.2.2 (LQ _ _ _ rfl) (Ov _ _ hn (by omega) (by omega))
 ·have hb:ig al cp cn de oo=false:=by
   cases h:ig al cp cn de oo
   ·rfl
   ·have:=(iG al cp cn de oo).1 h;exact absurd ⟨this.2.2.2.2.1,this.2.2.2.2.2⟩ hn
  obtain ⟨q1,q2,q3,q4⟩:=hbad hb;rw [q1,q2,q3,q4];by_cases h0:cn < 0
  ·exact Nj al co dd cp cn de oo net w ga gb gc gd h0
  ·exact Nk al co dd cp cn de oo net w ga gb gc gd (by omega) (by omega)
end Sh
namespace Sh
open Go.RowKit
theorem OQ (bi al pr de cp cn:Int) (w:World) (Ca:[bi,al,pr,de,cp,cn].all Ce.good=false) :
  Calls Tryz.prog 60 #[iI bi,iI al,iI pr,iI de,iI cp,iI cn] w fun e w'=>e=.returned (.tuple #[.agg #[iI 0,iI 0,iI 0,iI 0,iI 0,iI 0,iI 0,iI 0],iI 1])/\Below w.heap.size w w':=by
 have HRW:=zZ (fM w #[iI 0,iI 0,iI 0,iI 0,iI 0,iI 0,iI 0,iI 0] (ints [bi,al,pr,de,cp,cn]).toArray 45 2);have HX0:=zZ (tV (fK w #[iI 0,iI 0,iI 0,iI 0,iI 0,iI 0,iI 0,iI 0] 45) (iU (w.alloc (.cells #[iI 0,iI 0,iI 0,iI 0,iI 0,iI 0,iI 0,iI 0] 45)) (.cells #[iI bi,iI al,iI pr,iI de,iI cp,iI cn] 2)));have HB0:=zZ (jg (iU w (.cells #[iI 0,iI 0,iI 0,iI 0,iI 0,iI 0,iI 0,iI 0] 45)) (iU (w.alloc (.cells #[iI 0,iI 0,iI 0,iI 0,iI 0,iI 0,iI 0,iI 0] 45)) (.cells #[iI bi,iI al,iI pr,iI de,iI cp,iI cn] 2)));have CR:Hid (w.heap.size < ((w.alloc (.cells #[iI 0,iI 0,iI 0,iI 0,iI 0,iI 0,iI 0,iI 0] 45)).alloc (.cells #[iI bi,iI al,iI pr,iI de,iI cp,iI cn] 2)).heap.size):=lt_of_block HX0.out;have HA:Hid (Ce.eF (fun i=>[bi,al,pr,de,cp,cn].getD i 0) 6=false):=by
  show _=_;rw [eH [bi,al,pr,de,cp,cn] 6 (by simp)];exact Ca
 clear Ca;go_enter Tryz.func60,Tryz.ntmps60
 go_upto_region 2 with fail
 have HRW':Hid (((w.alloc (.cells #[iI 0,iI 0,iI 0,iI 0,iI 0,iI 0,iI 0,iI 0] 45)).alloc (.cells #[iI bi,iI al,iI pr,iI de,iI cp,iI cn] 2)).heap[w.heap.size+1]?=some (.cells (ints [bi,al,pr,de,cp,cn]).toArray 2 (0,0))):=HRW.out;clear HRW;generalize ((w.alloc (.cells #[iI 0,iI 0,iI 0,iI 0,iI 0,iI 0,iI 0,iI 0] 45)).alloc (.cells #[iI bi,iI al,iI pr,iI de,iI cp,iI cn] 2))=W0 at *;generalize hp:w.heap.size=p at *;generalize hf:(fun i=>[bi,al,pr,de,cp,cn].getD i 0)=f at *;have HC:Hid (∀k,k < 6->W0.cell? ⟨p+1,k,none⟩=some (iI (f k))):=fun k hk=>by rw [←hf];exact ints_at HRW'.out k (by simpa using hk)
 clear hf HRW';go_wp2_with fail
 go_loop [15] (fun i=>∃k:Nat,k<=6/\i=iI k/\Hid (Ce.eF f k=true)) (fun i=>6 - (intOf i).toNat)
 case atStart=>exact ⟨0,Nat.zero_le _,rfl,rfl⟩
 case round =>
  obtain ⟨k,hk,rfl,hg⟩:=hrel;by_cases hlt:k < 6
  ·have hcell:=HC.out k hlt;cases gk:Ce.good (f k)
   ·obtain ⟨b0,b1,b2,b3,b4,b5,b6,b7⟩:=eight HX0.out;obtain ⟨f0,f1,f2,f3,f4,f5,f6,f7⟩:=frz HX0.out;go_wp2_with (go_at_call 52;refine (Ce.NM _ _).mono ?_;rintro e w' ⟨rfl,hw⟩;rw [hw];clear hw w')
    clear b0 b1 b2 b3 b4 b5 b6 b7 f0 f1 f2 f3 f4 f5 f6 f7;generalize Cg:((((((((W0.setCell ⟨p,0,none⟩ (iI 0)).setCell ⟨p,1,none⟩ (iI 0)).setCell ⟨p,2,none⟩ (iI 0)).setCell ⟨p,3,none⟩ (iI 0)).setCell ⟨p,4,none⟩ (iI 0)).setCell ⟨p,5,none⟩ (iI 0)).setCell ⟨p,6,none⟩ (iI 0)).setCell ⟨p,7,none⟩ (iI 0))=WF at *;have Cy:Hid (WF.heap[p]?=some (.cells #[iI 0,iI 0,iI 0,iI 0,iI 0,iI 0,iI 0,iI 0] 45 (0,0))):=by rw [←Cg];exact BR HX0.out
    have Cq:Hid (Below p w WF):=by rw [←Cg];exact BP HB0.out p (Nat.le_refl _) _ _ _ _ _ _ _ _
    clear Cg;obtain ⟨b0,b1,b2,b3,b4,b5,b6,b7⟩:=eight Cy.out;try simp only [Exit.inBlock,Exit.then]
    refine bodyPost_ret (v:=.tuple #[.agg #[iI 0,iI 0,iI 0,iI 0,iI 0,iI 0,iI 0,iI 0],iI 1]) (by simp [results,Tryz.results60,go_sem,b0,b1,b2,b3,b4,b5,b6,b7]) rfl ?_;exact ⟨rfl,by first|exact Cq.out|(rw [hp];exact Cq.out)⟩
   ·go_wp2_with (go_at_call 52;refine (Ce.NM _ _).mono ?_;rintro e w' ⟨rfl,hw⟩;rw [hw];clear hw w')
    go_round
    case rel=>exact ⟨k+1,by omega,by go_num,Ce.eP f k hg.out gk⟩
    case measure=>simp [intOf];omega
  ·have hkk:k=6:=by omega
   subst hkk;exact absurd hg.out (by rw [HA.out];decide)
theorem OT (bi al pr de cp cn:Int) (w:World) (bi0:0<=bi) (bi1:bi<=10000000000000) (al0:0<=al) (al1:al<=10000000000000) (pr0:0<=pr) (pr1:pr<=10000000000000) (de0:0<=de) (de1:de<=10000000000000) (cp0:0<=cp) (cp1:cp<=10000000000000) (cn0:0<=cn) (cn1:cn<=10000000000000) (Ca:[bi,al,pr,de,cp,cn].all Ce.good=true) (h1:bi < al) :
  Calls Tryz.prog 60 #[iI bi,iI al,iI pr,iI de,iI cp,iI cn] w fun e w'=>e=.returned (.tuple #[.agg #[iI 0,iI 0,iI 0,iI 0,iI 0,iI 0,iI 0,iI 0],iI 3])/\Below w.heap.size w w':=by
 have HRW:=zZ (fM w #[iI 0,iI 0,iI 0,iI 0,iI 0,iI 0,iI 0,iI 0] (ints [bi,al,pr,de,cp,cn]).toArray 45 2);have HX0:=zZ (tV (fK w #[iI 0,iI 0,iI 0,iI 0,iI 0,iI 0,iI 0,iI 0] 45) (iU (w.alloc (.cells #[iI 0,iI 0,iI 0,iI 0,iI 0,iI 0,iI 0,iI 0] 45)) (.cells #[iI bi,iI al,iI pr,iI de,iI cp,iI cn] 2)));have HB0:=zZ (jg (iU w (.cells #[iI 0,iI 0,iI 0,iI 0,iI 0,iI 0,iI 0,iI 0] 45)) (iU (w.alloc (.cells #[iI 0,iI 0,iI 0,iI 0,iI 0,iI 0,iI 0,iI 0] 45)) (.cells #[iI bi,iI al,iI pr,iI de,iI cp,iI cn] 2)));have CR:Hid (w.heap.size < ((w.alloc (.cells #[iI 0,iI 0,iI 0,iI 0,iI 0,iI 0,iI 0,iI 0] 45)).alloc (.cells #[iI bi,iI al,iI pr,iI de,iI cp,iI cn] 2)).heap.size):=lt_of_block HX0.out;have HA:Hid (Ce.eF (fun i=>[bi,al,pr,de,cp,cn].getD i 0) 6=true):=by
  show _=_;rw [eH [bi,al,pr,de,cp,cn] 6 (by simp)];exact Ca
 clear Ca;go_enter Tryz.func60,Tryz.ntmps60
 go_upto_region 2 with fail
 have HRW':Hid (((w.alloc (.cells #[iI 0,iI 0,iI 0,iI 0,iI 0,iI 0,iI 0,iI 0] 45)).alloc (.cells #[iI bi,iI al,iI pr,iI de,iI cp,iI cn] 2)).heap[w.heap.size+1]?=some (.cells (ints [bi,al,pr,de,cp,cn]).toArray 2 (0,0))):=HRW.out;clear HRW;generalize ((w.alloc (.cells #[iI 0,iI 0,iI 0,iI 0,iI 0,iI 0,iI 0,iI 0] 45)).alloc (.cells #[iI bi,iI al,iI pr,iI de,iI cp,iI cn] 2))=W0 at *;generalize hp:w.heap.size=p at *;generalize hf:(fun i=>[bi,al,pr,de,cp,cn].getD i 0)=f at *;have HC:Hid (∀k,k < 6->W0.cell? ⟨p+1,k,none⟩=some (iI (f k))):=fun k hk=>by rw [←hf];exact ints_at HRW'.out k (by simpa using hk)
 clear hf HRW';go_wp2_with fail
 go_loop [15] (fun i=>∃k:Nat,k<=6/\i=iI k/\Hid (Ce.eF f k=true)) (fun i=>6 - (intOf i).toNat)
 case atStart=>exact ⟨0,Nat.zero_le _,rfl,rfl⟩
 case round =>
  obtain ⟨k,hk,rfl,hg⟩:=hrel;by_cases hlt:k < 6
  ·have hcell:=HC.out k hlt;cases gk:Ce.good (f k)
   ·exact absurd (Ce.eU f 6 k hlt gk) (by rw [HA.out];decide)
   ·go_wp2_with (go_at_call 52;refine (Ce.NM _ _).mono ?_;rintro e w' ⟨rfl,hw⟩;rw [hw];clear hw w')
    go_round
    case rel=>exact ⟨k+1,by omega,by go_num,Ce.eP f k hg.out gk⟩
    case measure=>simp [intOf];omega
  ·have hkk:k=6:=by omega
   subst hkk;clear hlt hk;obtain ⟨b0,b1,b2,b3,b4,b5,b6,b7⟩:=eight HX0.out;obtain ⟨f0,f1,f2,f3,f4,f5,f6,f7⟩:=frz HX0.out;go_wp2;clear b0 b1 b2 b3 b4 b5 b6 b7 f0 f1 f2 f3 f4 f5 f6 f7;generalize Cg:((((((((W0.setCell ⟨p,0,none⟩ (iI 0)).setCell ⟨p,1,none⟩ (iI 0)).setCell ⟨p,2,none⟩ (iI 0)).setCell ⟨p,3,none⟩ (iI 0)).setCell ⟨p,4,none⟩ (iI 0)).setCell ⟨p,5,none⟩ (iI 0)).setCell ⟨p,6,none⟩ (iI 0)).setCell ⟨p,7,none⟩ (iI 0))=WF at *;have Cy:Hid (WF.heap[p]?=some (.cells #[iI 0,iI 0,iI 0,iI 0,iI 0,iI 0,iI 0,iI 0] 45 (0,0))):=by rw [←Cg];exact BR HX0.out
   have Cq:Hid (Below p w WF):=by rw [←Cg];exact BP HB0.out p (Nat.le_refl _) _ _ _ _ _ _ _ _
   clear Cg;obtain ⟨b0,b1,b2,b3,b4,b5,b6,b7⟩:=eight Cy.out;try simp only [Exit.inBlock,Exit.then]
   refine bodyPost_ret (v:=.tuple #[.agg #[iI 0,iI 0,iI 0,iI 0,iI 0,iI 0,iI 0,iI 0],iI 3]) (by simp [results,Tryz.results60,go_sem,b0,b1,b2,b3,b4,b5,b6,b7]) rfl ?_;exact ⟨rfl,by first|exact Cq.out|(rw [hp];exact Cq.out)⟩
theorem OU (bi al pr de cp cn:Int) (w:World) (bi0:0<=bi) (bi1:bi<=10000000000000) (al0:0<=al) (al1:al<=10000000000000) (pr0:0<=pr) (pr1:pr<=10000000000000) (de0:0<=de) (de1:de<=10000000000000) (cp0:0<=cp) (cp1:cp<=10000000000000) (cn0:0<=cn) (cn1:cn<=10000000000000) (Ca:[bi,al,pr,de,cp,cn].all Ce.good=true) (h1:¬ bi < al) (h2:bi < pr) :
  Calls Tryz.prog 60 #[iI bi,iI al,iI pr,iI de,iI cp,iI cn] w fun e w'=>e=.returned (.tuple #[.agg #[iI 0,iI 0,iI 0,iI 0,iI 0,iI 0,iI 0,iI 0],iI 3])/\Below w.heap.size w w':=by
 have HRW:=zZ (fM w #[iI 0,iI 0,iI 0,iI 0,iI 0,iI 0,iI 0,iI 0] (ints [bi,al,pr,de,cp,cn]).toArray 45 2);have HX0:=zZ (tV (fK w #[iI 0,iI 0,iI 0,iI 0,iI 0,iI 0,iI 0,iI 0] 45) (iU (w.alloc (.cells #[iI 0,iI 0,iI 0,iI 0,iI 0,iI 0,iI 0,iI 0] 45)) (.cells #[iI bi,iI al,iI pr,iI de,iI cp,iI cn] 2)));have HB0:=zZ (jg (iU w (.cells #[iI 0,iI 0,iI 0,iI 0,iI 0,iI 0,iI 0,iI 0] 45)) (iU (w.alloc (.cells #[iI 0,iI 0,iI 0,iI 0,iI 0,iI 0,iI 0,iI 0] 45)) (.cells #[iI bi,iI al,iI pr,iI de,iI cp,iI cn] 2)));have CR:Hid (w.heap.size < ((w.alloc (.cells #[iI 0,iI 0,iI 0,iI 0,iI 0,iI 0,iI 0,iI 0] 45)).alloc (.cells #[iI bi,iI al,iI pr,iI de,iI cp,iI cn] 2)).heap.size):=lt_of_block HX0.out;have HA:Hid (Ce.eF (fun i=>[bi,al,pr,de,cp,cn].getD i 0) 6=true):=by
  show _=_;rw [eH [bi,al,pr,de,cp,cn] 6 (by simp)];exact Ca
 clear Ca;go_enter Tryz.func60,Tryz.ntmps60
 go_upto_region 2 with fail
 have HRW':Hid (((w.alloc (.cells #[iI 0,iI 0,iI 0,iI 0,iI 0,iI 0,iI 0,iI 0] 45)).alloc (.cells #[iI bi,iI al,iI pr,iI de,iI cp,iI cn] 2)).heap[w.heap.size+1]?=some (.cells (ints [bi,al,pr,de,cp,cn]).toArray 2 (0,0))):=HRW.out;clear HRW;generalize ((w.alloc (.cells #[iI 0,iI 0,iI 0,iI 0,iI 0,iI 0,iI 0,iI 0] 45)).alloc (.cells #[iI bi,iI al,iI pr,iI de,iI cp,iI cn] 2))=W0 at *;generalize hp:w.heap.size=p at *;generalize hf:(fun i=>[bi,al,pr,de,cp,cn].getD i 0)=f at *;have HC:Hid (∀k,k < 6->W0.cell? ⟨p+1,k,none⟩=some (iI (f k))):=fun k hk=>by rw [←hf];exact ints_at HRW'.out k (by simpa using hk)
 clear hf HRW';go_wp2_with fail
 go_loop [15] (fun i=>∃k:Nat,k<=6/\i=iI k/\Hid (Ce.eF f k=true)) (fun i=>6 - (intOf i).toNat)
 case atStart=>exact ⟨0,Nat.zero_le _,rfl,rfl⟩
 case round =>
  obtain ⟨k,hk,rfl,hg⟩:=hrel;by_cases hlt:k < 6
  ·have hcell:=HC.out k hlt;cases gk:Ce.good (f k)
   ·exact absurd (Ce.eU f 6 k hlt gk) (by rw [HA.out];decide)
   ·go_wp2_with (go_at_call 52;refine (Ce.NM _ _).mono ?_;rintro e w' ⟨rfl,hw⟩;rw [hw];clear hw w')
    go_round
    case rel=>exact ⟨k+1,by omega,by go_num,Ce.eP f k hg.out gk⟩
    case measure=>simp [intOf];omega
  ·have hkk:k=6:=by omega
   subst hkk;clear hlt hk;obtain ⟨b0,b1,b2,b3,b4,b5,b6,b7⟩:=eight HX0.out;obtain ⟨f0,f1,f2,f3,f4,f5,f6,f7⟩:=frz HX0.out;go_wp2;clear b0 b1 b2 b3 b4 b5 b6 b7 f0 f1 f2 f3 f4 f5 f6 f7;generalize Cg:((((((((W0.setCell ⟨p,0,none⟩ (iI 0)).setCell ⟨p,1,none⟩ (iI 0)).setCell ⟨p,2,none⟩ (iI 0)).setCell ⟨p,3,none⟩ (iI 0)).setCell ⟨p,4,none⟩ (iI 0)).setCell ⟨p,5,none⟩ (iI 0)).setCell ⟨p,6,none⟩ (iI 0)).setCell ⟨p,7,none⟩ (iI 0))=WF at *;have Cy:Hid (WF.heap[p]?=some (.cells #[iI 0,iI 0,iI 0,iI 0,iI 0,iI 0,iI 0,iI 0] 45 (0,0))):=by rw [←Cg];exact BR HX0.out
   have Cq:Hid (Below p w WF):=by rw [←Cg];exact BP HB0.out p (Nat.le_refl _) _ _ _ _ _ _ _ _
   clear Cg;obtain ⟨b0,b1,b2,b3,b4,b5,b6,b7⟩:=eight Cy.out;try simp only [Exit.inBlock,Exit.then]
   refine bodyPost_ret (v:=.tuple #[.agg #[iI 0,iI 0,iI 0,iI 0,iI 0,iI 0,iI 0,iI 0],iI 3]) (by simp [results,Tryz.results60,go_sem,b0,b1,b2,b3,b4,b5,b6,b7]) rfl ?_;exact ⟨rfl,by first|exact Cq.out|(rw [hp];exact Cq.out)⟩
theorem OV (bi al pr de cp cn:Int) (w:World) (bi0:0<=bi) (bi1:bi<=10000000000000) (al0:0<=al) (al1:al<=10000000000000) (pr0:0<=pr) (pr1:pr<=10000000000000) (de0:0<=de) (de1:de<=10000000000000) (cp0:0<=cp) (cp1:cp<=10000000000000) (cn0:0<=cn) (cn1:cn<=10000000000000) (Ca:[bi,al,pr,de,cp,cn].all Ce.good=true) (h1:¬ bi < al) (h2:¬ bi < pr) (h3:al < de+cp+cn) :
  Calls Tryz.prog 60 #[iI bi,iI al,iI pr,iI de,iI cp,iI cn] w fun e w'=>e=.returned (.tuple #[.agg #[iI 0,iI 0,iI 0,iI 0,iI 0,iI 0,iI 0,iI 0],iI 3])/\Below w.heap.size w w':=by
 have HRW:=zZ (fM w #[iI 0,iI 0,iI 0,iI 0,iI 0,iI 0,iI 0,iI 0] (ints [bi,al,pr,de,cp,cn]).toArray 45 2);have HX0:=zZ (tV (fK w #[iI 0,iI 0,iI 0,iI 0,iI 0,iI 0,iI 0,iI 0] 45) (iU (w.alloc (.cells #[iI 0,iI 0,iI 0,iI 0,iI 0,iI 0,iI 0,iI 0] 45)) (.cells #[iI bi,iI al,iI pr,iI de,iI cp,iI cn] 2)));have HB0:=zZ (jg (iU w (.cells #[iI 0,iI 0,iI 0,iI 0,iI 0,iI 0,iI 0,iI 0] 45)) (iU (w.alloc (.cells #[iI 0,iI 0,iI 0,iI 0,iI 0,iI 0,iI 0,iI 0] 45)) (.cells #[iI bi,iI al,iI pr,iI de,iI cp,iI cn] 2)));have CR:Hid (w.heap.size < ((w.alloc (.cells #[iI 0,iI 0,iI 0,iI 0,iI 0,iI 0,iI 0,iI 0] 45)).alloc (.cells #[iI bi,iI al,iI pr,iI de,iI cp,iI cn] 2)).heap.size):=lt_of_block HX0.out;have HA:Hid (Ce.eF (fun i=>[bi,al,pr,de,cp,cn].getD i 0) 6=true):=by
  show _=_;rw [eH [bi,al,pr,de,cp,cn] 6 (by simp)];exact Ca
 clear Ca;go_enter Tryz.func60,Tryz.ntmps60
 go_upto_region 2 with fail
 have HRW':Hid (((w.alloc (.cells #[iI 0,iI 0,iI 0,iI 0,iI 0,iI 0,iI 0,iI 0] 45)).alloc (.cells #[iI bi,iI al,iI pr,iI de,iI cp,iI cn] 2)).heap[w.heap.size+1]?=some (.cells (ints [bi,al,pr,de,cp,cn]).toArray 2 (0,0))):=HRW.out;clear HRW;generalize ((w.alloc (.cells #[iI 0,iI 0,iI 0,iI 0,iI 0,iI 0,iI 0,iI 0] 45)).alloc (.cells #[iI bi,iI al,iI pr,iI de,iI cp,iI cn] 2))=W0 at *;generalize hp:w.heap.size=p at *;generalize hf:(fun i=>[bi,al,pr,de,cp,cn].getD i 0)=f at *;have HC:Hid (∀k,k < 6->W0.cell? ⟨p+1,k,none⟩=some (iI (f k))):=fun k hk=>by rw [←hf];exact ints_at HRW'.out k (by simpa using hk)
 clear hf HRW';go_wp2_with fail
 go_loop [15] (fun i=>∃k:Nat,k<=6/\i=iI k/\Hid (Ce.eF f k=true)) (fun i=>6 - (intOf i).toNat)
 case atStart=>exact ⟨0,Nat.zero_le _,rfl,rfl⟩
 case round =>
  obtain ⟨k,hk,rfl,hg⟩:=hrel;by_cases hlt:k < 6
  ·have hcell:=HC.out k hlt;cases gk:Ce.good (f k)
   ·exact absurd (Ce.eU f 6 k hlt gk) (by rw [HA.out];decide)
   ·go_wp2_with (go_at_call 52;refine (Ce.NM _ _).mono ?_;rintro e w' ⟨rfl,hw⟩;rw [hw];clear hw w')
    go_round
    case rel=>exact ⟨k+1,by omega,by go_num,Ce.eP f k hg.out gk⟩
    case measure=>simp [intOf];omega
  ·have hkk:k=6:=by omega
   subst hkk;clear hlt hk;obtain ⟨b0,b1,b2,b3,b4,b5,b6,b7⟩:=eight HX0.out;obtain ⟨f0,f1,f2,f3,f4,f5,f6,f7⟩:=frz HX0.out;go_wp2;clear b0 b1 b2 b3 b4 b5 b6 b7 f0 f1 f2 f3 f4 f5 f6 f7;generalize Cg:((((((((W0.setCell ⟨p,0,none⟩ (iI 0)).setCell ⟨p,1,none⟩ (iI 0)).setCell ⟨p,2,none⟩ (iI 0)).setCell ⟨p,3,none⟩ (iI 0)).setCell ⟨p,4,none⟩ (iI 0)).setCell ⟨p,5,none⟩ (iI 0)).setCell ⟨p,6,none⟩ (iI 0)).setCell ⟨p,7,none⟩ (iI 0))=WF at *;have Cy:Hid (WF.heap[p]?=some (.cells #[iI 0,iI 0,iI 0,iI 0,iI 0,iI 0,iI 0,iI 0] 45 (0,0))):=by rw [←Cg];exact BR HX0.out
   have Cq:Hid (Below p w WF):=by rw [←Cg];exact BP HB0.out p (Nat.le_refl _) _ _ _ _ _ _ _ _
   clear Cg;obtain ⟨b0,b1,b2,b3,b4,b5,b6,b7⟩:=eight Cy.out;try simp only [Exit.inBlock,Exit.then]
   refine bodyPost_ret (v:=.tuple #[.agg #[iI 0,iI 0,iI 0,iI 0,iI 0,iI 0,iI 0,iI 0],iI 3]) (by simp [results,Tryz.results60,go_sem,b0,b1,b2,b3,b4,b5,b6,b7]) rfl ?_;exact ⟨rfl,by first|exact Cq.out|(rw [hp];exact Cq.out)⟩
end Sh
end Go.Proofs.YtfbfeoplldjbpaaGreatDoor
