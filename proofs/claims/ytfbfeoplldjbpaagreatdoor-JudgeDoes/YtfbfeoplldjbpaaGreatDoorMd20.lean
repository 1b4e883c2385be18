/-
  Texts put together (merge.py): HBear, HSet0, HSetA, HSettle, RTail.
-/
import Derived.Test.YtfbfeoplldjbpaaGreatDoorMd19
set_option linter.unusedSimpArgs false
set_option linter.unusedVariables false
set_option maxHeartbeats 16000000
set_option maxRecDepth 100000
namespace Go.Proofs.YtfbfeoplldjbpaaGreatDoor
namespace Sh
open Go.RowKit
theorem Bg (a p:Int):Hid (∀w:World,Calls Tryz.prog 134 #[iI a,iI p] w fun e w'=>e=.returned (.tuple #[iI (Ce.AZ a p),iI (Ce.AY a p)])/\w'.heap=w.heap/\Below w.heap.size w w'):=fun w=>by
 refine (Ce.Ba a p w).mono ?_;rintro e w' ⟨rfl,k,rfl⟩;exact ⟨rfl,rfl,(Below.refl _ _).trans ⟨rfl,rfl,rfl,Nat.le_refl _,fun _ _=>rfl⟩⟩
theorem Bc (a p:Int) (h:¬ (0<=p/\p<=10000)):Ce.AZ a p=0/\Ce.AY a p=1:=by
 unfold Ce.AZ Ce.AY;rw [if_neg h,if_neg h];exact ⟨rfl,rfl⟩
theorem Bf (a p:Int) (h:0<=p/\p<=10000) (h0:0<=a) (h1:a<=10000000000000):Ce.AY a p=0:=by
 have e1:0<=a * p:=Int.mul_nonneg h0 h.1;have e2:a * p<=a * 10000:=Int.mul_le_mul_of_nonneg_left h.2 h0;unfold Ce.AY Ce.EF;rw [if_pos h,if_pos ⟨(Ce.ql _).2 ⟨h0,h1⟩,h.1,by omega⟩,if_pos ((Ce.ql _).2 (by omega))]
theorem fits (x l:Int) (h0:0<=x) (h1:x<=10000000000000) (h2:0<=l) (h3:l<=10000000000000):Fits x l (least x l) (l - least x l):=⟨h0,h1,h2,h3,rfl,rfl⟩
theorem bR (x l:Int) (h1:x<=10000000000000) (h2:0<=l) (h3:l<=x):Fits x l l 0:=⟨by omega,h1,h2,by omega,by unfold least;split<;>omega,by omega⟩
theorem uS (x l:Int) (h0:0<=x) (h2:0<=l):0<=least x l/\least x l<=x/\least x l<=l:=by unfold least;split<;>omega
theorem eY (al cp de oo:Int):[al,cp,de,oo].all Ce.good=(Ce.good al && (Ce.good cp && (Ce.good de && Ce.good oo))):=by simp
theorem iq (al:Int) (co dd:Bool) (cp cn de oo net:Int) (w:World) :
  Calls Tryz.prog 90 #[iI al,.agg #[.bool co,.bool dd,iI cp,iI cn],iI de,iI oo,iI net] w fun e w'=>e=.returned (.tuple #[iI (bD al dd cp cn de oo net),iI (bC al dd cp cn de oo net),iI (bK al dd cp cn de oo net),iI (bE al cp cn de oo)])/\Below w.heap.size w w':=by
 cases Ca:[al,cp,de,oo].all Ce.good
 ·have hb:ig al cp cn de oo=false:=by unfold ig;rw [←eY,Ca];rfl
  rw [show bD al dd cp cn de oo net=0 by simp [bD,hb],show bC al dd cp cn de oo net=0 by simp [bC,hb],show bK al dd cp cn de oo net=0 by simp [bK,hb],show bE al cp cn de oo=1 by simp [bE,hb]];exact iw al co dd cp cn de oo net w Ca
 have hq:=eY al cp de oo;rw [Ca] at hq;have hq:=hq.symm;simp only [Bool.and_eq_true,Ce.ql] at hq;obtain ⟨⟨a0,a1⟩,⟨c0',c1⟩,⟨e0,e1⟩,o0,o1⟩:=hq;have hd:=uS de al e0 a0;have hc1:=uS cp (al - least de al) c0' (by omega);have hc2:=uS cp al c0' a0;by_cases hn:0<=cn/\cn<=10000
 ·have hb:ig al cp cn de oo=true:=(iG al cp cn de oo).2 ⟨⟨a0,a1⟩,⟨c0',c1⟩,⟨e0,e1⟩,⟨o0,o1⟩,hn.1,hn.2⟩;rw [show bE al cp cn de oo=0 by simp [bE,hb]];by_cases hz:net=0
  ·subst hz;cases dd
   ·have hd0:d0 al false de 0=0:=by simp [d0]
    have hc0:c0 al false cp de 0=least cp al:=by simp [c0,hd0]
    have hk0:k0 al false cp cn de 0=Ce.AZ (al - least cp al) cn:=by simp [k0,hd0,hc0]
    have hk:=Bd (al - least cp al) cn (by omega) hn.1 hn.2;have hx:=uS 0 oo (by omega) o0;have hy:=uS (least cp al) (oo - least 0 oo) (by omega) (by omega);have x1:bD al false cp cn de oo 0=least 0 oo:=by simp [bD,hb,hd0]
    have x2:bC al false cp cn de oo 0=least (least cp al) (oo - least 0 oo):=by simp only [bC,hb,if_true,x1,hc0]
    have x3:bK al false cp cn de oo 0=least (Ce.AZ (al - least cp al) cn) (oo - least 0 oo - least (least cp al) (oo - least 0 oo)):=by simp only [bK,hb,if_true,x1,x2,hk0]
    rw [x1,x2,x3];have HP:=Bg (al - least cp al) cn;rw [Bf (al - least cp al) cn hn (by omega) (by omega)] at HP;exact iy al co cp cn de oo w _ _ (zZ (fits cp al c0' c1 a0 a1)) (zZ (bR al _ a1 (by omega) (by omega))) Ca _ _ _ _ _ _ _ (zZ (fits 0 oo (by omega) (by omega) o0 o1)) (zZ (fits _ _ (by omega) (by omega) (by omega) (by omega))) (zZ (fits _ _ (by omega) (by omega) (by omega) (by omega))) HP
   ·have hd0:d0 al true de 0=least de al:=by simp [d0]
    have hc0:c0 al true cp de 0=least cp (al - least de al):=by simp [c0,hd0]
    have hk0:k0 al true cp cn de 0=Ce.AZ (al - least de al - least cp (al - least de al)) cn:=by simp [k0,hd0,hc0]
    have hk:=Bd (al - least de al - least cp (al - least de al)) cn (by omega) hn.1 hn.2;have hx:=uS (least de al) oo (by omega) o0;have hy:=uS (least cp (al - least de al)) (oo - least (least de al) oo) (by omega) (by omega);have x1:bD al true cp cn de oo 0=least (least de al) oo:=by simp [bD,hb,hd0]
    have x2:bC al true cp cn de oo 0=least (least cp (al - least de al)) (oo - least (least de al) oo):=by simp only [bC,hb,if_true,x1,hc0]
    have x3:bK al true cp cn de oo 0=least (Ce.AZ (al - least de al - least cp (al - least de al)) cn) (oo - least (least de al) oo - least (least cp (al - least de al)) (oo - least (least de al) oo)):=by simp only [bK,hb,if_true,x1,x2,hk0]
    rw [x1,x2,x3];have HP:=Bg (al - least de al - least cp (al - least de al)) cn;rw [Bf (al - least de al - least cp (al - least de al)) cn hn (by omega) (by omega)] at HP;exact iH al co cp cn de oo w _ _ _ _ (zZ (fits de al e0 e1 a0 a1)) (zZ (fits cp _ c0' c1 (by omega) (by omega))) (zZ (bR al _ a1 (by omega) (by omega))) Ca _ _ _ _ _ _ _ (zZ (fits _ oo (by omega) (by omega) o0 o1)) (zZ (fits _ _ (by omega) (by omega) (by omega) (by omega))) (zZ (fits _ _ (by omega) (by omega) (by omega) (by omega))) HP
  ·have hz':(net == 0)=false:=by simpa using hz
   have hd0:d0 al dd de net=0:=by simp [d0,hz]
   have hc0:c0 al dd cp de net=least cp al:=by simp [c0,hd0]
   have hk0:k0 al dd cp cn de net=Ce.AZ (al - least cp al) cn:=by simp [k0,hd0,hc0]
   rw [show bD al dd cp cn de oo net=0 by simp [bD,hb,hz,hd0],show bC al dd cp cn de oo net=least cp al by simp [bC,hb,hz,hc0],show bK al dd cp cn de oo net=Ce.AZ (al - least cp al) cn by simp [bK,hb,hz,hk0]];have HP:=Bg (al - least cp al) cn;rw [Bf (al - least cp al) cn hn (by omega) (by omega)] at HP;cases dd
   ·exact iE al co cp cn de oo net w hz' _ _ (zZ (fits cp al c0' c1 a0 a1)) (zZ (bR al _ a1 (by omega) (by omega))) Ca _ HP
   ·exact iJ al co cp cn de oo net w hz' _ _ (zZ (fits cp al c0' c1 a0 a1)) (zZ (bR al _ a1 (by omega) (by omega))) Ca _ HP
 ·have hb:ig al cp cn de oo=false:=by
   cases h:ig al cp cn de oo
   ·rfl
   ·have:=(iG al cp cn de oo).1 h;exact absurd ⟨this.2.2.2.2.1,this.2.2.2.2.2⟩ hn
  rw [show bD al dd cp cn de oo net=0 by simp [bD,hb],show bC al dd cp cn de oo net=0 by simp [bC,hb],show bK al dd cp cn de oo net=0 by simp [bK,hb],show bE al cp cn de oo=1 by simp [bE,hb]];have hP (a:Int):Hid (∀w:World,Calls Tryz.prog 134 #[iI a,iI cn] w fun e w'=>e=.returned (.tuple #[iI 0,iI 1])/\w'.heap=w.heap/\Below w.heap.size w w'):=by
   have:=Bg a cn;rw [(Bc a cn hn).1,(Bc a cn hn).2] at this;exact this
  by_cases hz:net=0
  ·subst hz;cases dd
   ·exact iC al co cp cn de oo w _ _ (zZ (fits cp al c0' c1 a0 a1)) (zZ (bR al _ a1 (by omega) (by omega))) Ca (hP _)
   ·exact qzA al co cp cn de oo w _ _ _ _ (zZ (fits de al e0 e1 a0 a1)) (zZ (fits cp _ c0' c1 (by omega) (by omega))) (zZ (bR al _ a1 (by omega) (by omega))) Ca (hP _)
  ·have hz':(net == 0)=false:=by simpa using hz
   cases dd
   ·exact iF al co cp cn de oo net w hz' _ _ (zZ (fits cp al c0' c1 a0 a1)) (zZ (bR al _ a1 (by omega) (by omega))) Ca (hP _)
   ·exact iK al co cp cn de oo net w hz' _ _ (zZ (fits cp al c0' c1 a0 a1)) (zZ (bR al _ a1 (by omega) (by omega))) Ca (hP _)
end Sh
namespace Sh
open Go.RowKit
theorem EY (bi al pr de cp cn:Int) (w:World) (Ca:[bi,al,pr,de,cp,cn].all Ce.good=false) :
  Calls Tryz.prog 91 #[iI bi,iI al,iI pr,iI de,iI cp,iI cn] w fun e w'=>e=.returned (.tuple #[.agg #[iI 0,iI 0,iI 0,iI 0,iI 0,iI 0,iI 0,iI 0],iI 1])/\Below w.heap.size w w':=by
 have HAM:=zZ (fU [bi,al,pr,de,cp,cn] (w.heap.size+1) 6 6 ((w.alloc (.cells #[iI 0,iI 0,iI 0,iI 0,iI 0,iI 0,iI 0,iI 0] 45)).alloc (.cells #[iI bi,iI al,iI pr,iI de,iI cp,iI cn] 2)) (fM w _ _ _ _) rfl (by simp));have HX0:=zZ (tV (fK w #[iI 0,iI 0,iI 0,iI 0,iI 0,iI 0,iI 0,iI 0] 45) (iU (w.alloc (.cells #[iI 0,iI 0,iI 0,iI 0,iI 0,iI 0,iI 0,iI 0] 45)) (.cells #[iI bi,iI al,iI pr,iI de,iI cp,iI cn] 2)));have HB0:=zZ (jg (iU w (.cells #[iI 0,iI 0,iI 0,iI 0,iI 0,iI 0,iI 0,iI 0] 45)) (iU (w.alloc (.cells #[iI 0,iI 0,iI 0,iI 0,iI 0,iI 0,iI 0,iI 0] 45)) (.cells #[iI bi,iI al,iI pr,iI de,iI cp,iI cn] 2)));have CR:Hid (w.heap.size < ((w.alloc (.cells #[iI 0,iI 0,iI 0,iI 0,iI 0,iI 0,iI 0,iI 0] 45)).alloc (.cells #[iI bi,iI al,iI pr,iI de,iI cp,iI cn] 2)).heap.size):=lt_of_block HX0.out;rw [Ca] at HAM;clear Ca;go_enter Tryz.func91,Tryz.ntmps91
 go_wp2_with fail
 go_at_call 132
 refine HAM.out.mono ?_;rintro e w' ⟨rfl,rfl⟩;clear HAM;generalize ((w.alloc (.cells #[iI 0,iI 0,iI 0,iI 0,iI 0,iI 0,iI 0,iI 0] 45)).alloc (.cells #[iI bi,iI al,iI pr,iI de,iI cp,iI cn] 2))=W0 at *;generalize hp:w.heap.size=p at *;obtain ⟨b0,b1,b2,b3,b4,b5,b6,b7⟩:=eight HX0.out;obtain ⟨f0,f1,f2,f3,f4,f5,f6,f7⟩:=frz HX0.out;go_wp2;clear b0 b1 b2 b3 b4 b5 b6 b7 f0 f1 f2 f3 f4 f5 f6 f7;generalize Cg:((((((((W0.setCell ⟨p,0,none⟩ (iI 0)).setCell ⟨p,1,none⟩ (iI 0)).setCell ⟨p,2,none⟩ (iI 0)).setCell ⟨p,3,none⟩ (iI 0)).setCell ⟨p,4,none⟩ (iI 0)).setCell ⟨p,5,none⟩ (iI 0)).setCell ⟨p,6,none⟩ (iI 0)).setCell ⟨p,7,none⟩ (iI 0))=WF at *;have Cy:Hid (WF.heap[p]?=some (.cells #[iI 0,iI 0,iI 0,iI 0,iI 0,iI 0,iI 0,iI 0] 45 (0,0))):=by rw [←Cg];exact BR HX0.out
 have Cq:Hid (Below p w WF):=by rw [←Cg];exact BP HB0.out p (Nat.le_refl _) _ _ _ _ _ _ _ _
 clear Cg;obtain ⟨b0,b1,b2,b3,b4,b5,b6,b7⟩:=eight Cy.out;try simp only [Exit.inBlock,Exit.then]
 refine bodyPost_ret (v:=.tuple #[.agg #[iI 0,iI 0,iI 0,iI 0,iI 0,iI 0,iI 0,iI 0],iI 1]) (by simp [results,Tryz.results91,go_sem,b0,b1,b2,b3,b4,b5,b6,b7]) rfl ?_;exact ⟨rfl,by first|exact Cq.out|(rw [hp];exact Cq.out)⟩
theorem E5 (bi al pr de cp cn:Int) (w:World) (bi0:0<=bi) (bi1:bi<=10000000000000) (al0:0<=al) (al1:al<=10000000000000) (pr0:0<=pr) (pr1:pr<=10000000000000) (de0:0<=de) (de1:de<=10000000000000) (cp0:0<=cp) (cp1:cp<=10000000000000) (cn0:0<=cn) (cn1:cn<=10000000000000) (Ca:[bi,al,pr,de,cp,cn].all Ce.good=true) (h1:bi < al) :
  Calls Tryz.prog 91 #[iI bi,iI al,iI pr,iI de,iI cp,iI cn] w fun e w'=>e=.returned (.tuple #[.agg #[iI 0,iI 0,iI 0,iI 0,iI 0,iI 0,iI 0,iI 0],iI 3])/\Below w.heap.size w w':=by
 have HAM:=zZ (fU [bi,al,pr,de,cp,cn] (w.heap.size+1) 6 6 ((w.alloc (.cells #[iI 0,iI 0,iI 0,iI 0,iI 0,iI 0,iI 0,iI 0] 45)).alloc (.cells #[iI bi,iI al,iI pr,iI de,iI cp,iI cn] 2)) (fM w _ _ _ _) rfl (by simp));have HX0:=zZ (tV (fK w #[iI 0,iI 0,iI 0,iI 0,iI 0,iI 0,iI 0,iI 0] 45) (iU (w.alloc (.cells #[iI 0,iI 0,iI 0,iI 0,iI 0,iI 0,iI 0,iI 0] 45)) (.cells #[iI bi,iI al,iI pr,iI de,iI cp,iI cn] 2)));have HB0:=zZ (jg (iU w (.cells #[iI 0,iI 0,iI 0,iI 0,iI 0,iI 0,iI 0,iI 0] 45)) (iU (w.alloc (.cells #[iI 0,iI 0,iI 0,iI 0,iI 0,iI 0,iI 0,iI 0] 45)) (.cells #[iI bi,iI al,iI pr,iI de,iI cp,iI cn] 2)));have CR:Hid (w.heap.size < ((w.alloc (.cells #[iI 0,iI 0,iI 0,iI 0,iI 0,iI 0,iI 0,iI 0] 45)).alloc (.cells #[iI bi,iI al,iI pr,iI de,iI cp,iI cn] 2)).heap.size):=lt_of_block HX0.out;rw [Ca] at HAM;clear Ca;go_enter Tryz.func91,Tryz.ntmps91
 go_wp2_with fail
 go_at_call 132
 refine HAM.out.mono ?_;rintro e w' ⟨rfl,rfl⟩;clear HAM;generalize ((w.alloc (.cells #[iI 0,iI 0,iI 0,iI 0,iI 0,iI 0,iI 0,iI 0] 45)).alloc (.cells #[iI bi,iI al,iI pr,iI de,iI cp,iI cn] 2))=W0 at *;generalize hp:w.heap.size=p at *;obtain ⟨b0,b1,b2,b3,b4,b5,b6,b7⟩:=eight HX0.out;obtain ⟨f0,f1,f2,f3,f4,f5,f6,f7⟩:=frz HX0.out;go_wp2;clear b0 b1 b2 b3 b4 b5 b6 b7 f0 f1 f2 f3 f4 f5 f6 f7;generalize Cg:((((((((W0.setCell ⟨p,0,none⟩ (iI 0)).setCell ⟨p,1,none⟩ (iI 0)).setCell ⟨p,2,none⟩ (iI 0)).setCell ⟨p,3,none⟩ (iI 0)).setCell ⟨p,4,none⟩ (iI 0)).setCell ⟨p,5,none⟩ (iI 0)).setCell ⟨p,6,none⟩ (iI 0)).setCell ⟨p,7,none⟩ (iI 0))=WF at *;have Cy:Hid (WF.heap[p]?=some (.cells #[iI 0,iI 0,iI 0,iI 0,iI 0,iI 0,iI 0,iI 0] 45 (0,0))):=by rw [←Cg];exact BR HX0.out
 have Cq:Hid (Below p w WF):=by rw [←Cg];exact BP HB0.out p (Nat.le_refl _) _ _ _ _ _ _ _ _
 clear Cg;obtain ⟨b0,b1,b2,b3,b4,b5,b6,b7⟩:=eight Cy.out;try simp only [Exit.inBlock,Exit.then]
 refine bodyPost_ret (v:=.tuple #[.agg #[iI 0,iI 0,iI 0,iI 0,iI 0,iI 0,iI 0,iI 0],iI 3]) (by simp [results,Tryz.results91,go_sem,b0,b1,b2,b3,b4,b5,b6,b7]) rfl ?_;exact ⟨rfl,by first|exact Cq.out|(rw [hp];exact Cq.out)⟩
theorem E8 (bi al pr de cp cn:Int) (w:World) (bi0:0<=bi) (bi1:bi<=10000000000000) (al0:0<=al) (al1:al<=10000000000000) (pr0:0<=pr) (pr1:pr<=10000000000000) (de0:0<=de) (de1:de<=10000000000000) (cp0:0<=cp) (cp1:cp<=10000000000000) (cn0:0<=cn) (cn1:cn<=10000000000000) (Ca:[bi,al,pr,de,cp,cn].all Ce.good=true) (h1:¬ bi < al) (h2:bi < pr) :
  Calls Tryz.prog 91 #[iI bi,iI al,iI pr,iI de,iI cp,iI cn] w fun e w'=>e=.returned (.tuple #[.agg #[iI 0,iI 0,iI 0,iI 0,iI 0,iI 0,iI 0,iI 0],iI 3])/\Below w.heap.size w w':=by
 have HAM:=zZ (fU [bi,al,pr,de,cp,cn] (w.heap.size+1) 6 6 ((w.alloc (.cells #[iI 0,iI 0,iI 0,iI 0,iI 0,iI 0,iI 0,iI 0] 45)).alloc (.cells #[iI bi,iI al,iI pr,iI de,iI cp,iI cn] 2)) (fM w _ _ _ _) rfl (by simp));have HX0:=zZ (tV (fK w #[iI 0,iI 0,iI 0,iI 0,iI 0,iI 0,iI 0,iI 0] 45) (iU (w.alloc (.cells #[iI 0,iI 0,iI 0,iI 0,iI 0,iI 0,iI 0,iI 0] 45)) (.cells #[iI bi,iI al,iI pr,iI de,iI cp,iI cn] 2)));have HB0:=zZ (jg (iU w (.cells #[iI 0,iI 0,iI 0,iI 0,iI 0,iI 0,iI 0,iI 0] 45)) (iU (w.alloc (.cells #[iI 0,iI 0,iI 0,iI 0,iI 0,iI 0,iI 0,iI 0] 45)) (.cells #[iI bi,iI al,iI pr,iI de,iI cp,iI cn] 2)));have CR:Hid (w.heap.size < ((w.alloc (.cells #[iI 0,iI 0,iI 0,iI 0,iI 0,iI 0,iI 0,iI 0] 45)).alloc (.cells #[iI bi,iI al,iI pr,iI de,iI cp,iI cn] 2)).heap.size):=lt_of_block HX0.out;rw [Ca] at HAM;clear Ca;go_enter Tryz.func91,Tryz.ntmps91
 go_wp2_with fail
 go_at_call 132
 refine HAM.out.mono ?_;rintro e w' ⟨rfl,rfl⟩;clear HAM;generalize ((w.alloc (.cells #[iI 0,iI 0,iI 0,iI 0,iI 0,iI 0,iI 0,iI 0] 45)).alloc (.cells #[iI bi,iI al,iI pr,iI de,iI cp,iI cn] 2))=W0 at *;generalize hp:w.heap.size=p at *;obtain ⟨b0,b1,b2,b3,b4,b5,b6,b7⟩:=eight HX0.out;obtain ⟨f0,f1,f2,f3,f4,f5,f6,f7⟩:=frz HX0.out;go_wp2;clear b0 b1 b2 b3 b4 b5 b6 b7 f0 f1 f2 f3 f4 f5 f6 f7;generalize Cg:((((((((W0.setCell ⟨p,0,none⟩ (iI 0)).setCell ⟨p,1,none⟩ (iI 0)).setCell ⟨p,2,none⟩ (iI 0)).setCell ⟨p,3,none⟩ (iI 0)).setCell ⟨p,4,none⟩ (iI 0)).setCell ⟨p,5,none⟩ (iI 0)).setCell ⟨p,6,none⟩ (iI 0)).setCell ⟨p,7,none⟩ (iI 0))=WF at *;have Cy:Hid (WF.heap[p]?=some (.cells #[iI 0,iI 0,iI 0,iI 0,iI 0,iI 0,iI 0,iI 0] 45 (0,0))):=by rw [←Cg];exact BR HX0.out
 have Cq:Hid (Below p w WF):=by rw [←Cg];exact BP HB0.out p (Nat.le_refl _) _ _ _ _ _ _ _ _
 clear Cg;obtain ⟨b0,b1,b2,b3,b4,b5,b6,b7⟩:=eight Cy.out;try simp only [Exit.inBlock,Exit.then]
 refine bodyPost_ret (v:=.tuple #[.agg #[iI 0,iI 0,iI 0,iI 0,iI 0,iI 0,iI 0,iI 0],iI 3]) (by simp [results,Tryz.results91,go_sem,b0,b1,b2,b3,b4,b5,b6,b7]) rfl ?_;exact ⟨rfl,by first|exact Cq.out|(rw [hp];exact Cq.out)⟩
theorem Fa (bi al pr de cp cn:Int) (w:World) (bi0:0<=bi) (bi1:bi<=10000000000000) (al0:0<=al) (al1:al<=10000000000000) (pr0:0<=pr) (pr1:pr<=10000000000000) (de0:0<=de) (de1:de<=10000000000000) (cp0:0<=cp) (cp1:cp<=10000000000000) (cn0:0<=cn) (cn1:cn<=10000000000000) (Ca:[bi,al,pr,de,cp,cn].all Ce.good=true) (h1:¬ bi < al) (h2:¬ bi < pr) (h3:al < de+cp+cn) :
  Calls Tryz.prog 91 #[iI bi,iI al,iI pr,iI de,iI cp,iI cn] w fun e w'=>e=.returned (.tuple #[.agg #[iI 0,iI 0,iI 0,iI 0,iI 0,iI 0,iI 0,iI 0],iI 3])/\Below w.heap.size w w':=by
 have HAM:=zZ (fU [bi,al,pr,de,cp,cn] (w.heap.size+1) 6 6 ((w.alloc (.cells #[iI 0,iI 0,iI 0,iI 0,iI 0,iI 0,iI 0,iI 0] 45)).alloc (.cells #[iI bi,iI al,iI pr,iI de,iI cp,iI cn] 2)) (fM w _ _ _ _) rfl (by simp));have HX0:=zZ (tV (fK w #[iI 0,iI 0,iI 0,iI 0,iI 0,iI 0,iI 0,iI 0] 45) (iU (w.alloc (.cells #[iI 0,iI 0,iI 0,iI 0,iI 0,iI 0,iI 0,iI 0] 45)) (.cells #[iI bi,iI al,iI pr,iI de,iI cp,iI cn] 2)));have HB0:=zZ (jg (iU w (.cells #[iI 0,iI 0,iI 0,iI 0,iI 0,iI 0,iI 0,iI 0] 45)) (iU (w.alloc (.cells #[iI 0,iI 0,iI 0,iI 0,iI 0,iI 0,iI 0,iI 0] 45)) (.cells #[iI bi,iI al,iI pr,iI de,iI cp,iI cn] 2)));have CR:Hid (w.heap.size < ((w.alloc (.cells #[iI 0,iI 0,iI 0,iI 0,iI 0,iI 0,iI 0,iI 0] 45)).alloc (.cells #[iI bi,iI al,iI pr,iI de,iI cp,iI cn] 2)).heap.size):=lt_of_block HX0.out;rw [Ca] at HAM;clear Ca;go_enter Tryz.func91,Tryz.ntmps91
 go_wp2_with fail
 go_at_call 132
 refine HAM.out.mono ?_;rintro e w' ⟨rfl,rfl⟩;clear HAM;generalize ((w.alloc (.cells #[iI 0,iI 0,iI 0,iI 0,iI 0,iI 0,iI 0,iI 0] 45)).alloc (.cells #[iI bi,iI al,iI pr,iI de,iI cp,iI cn] 2))=W0 at *;generalize hp:w.heap.size=p at *;obtain ⟨b0,b1,b2,b3,b4,b5,b6,b7⟩:=eight HX0.out;obtain ⟨f0,f1,f2,f3,f4,f5,f6,f7⟩:=frz HX0.out;go_wp2;clear b0 b1 b2 b3 b4 b5 b6 b7 f0 f1 f2 f3 f4 f5 f6 f7;generalize Cg:((((((((W0.setCell ⟨p,0,none⟩ (iI 0)).setCell ⟨p,1,none⟩ (iI 0)).setCell ⟨p,2,none⟩ (iI 0)).setCell ⟨p,3,none⟩ (iI 0)).setCell ⟨p,4,none⟩ (iI 0)).setCell ⟨p,5,none⟩ (iI 0)).setCell ⟨p,6,none⟩ (iI 0)).setCell ⟨p,7,none⟩ (iI 0))=WF at *;have Cy:Hid (WF.heap[p]?=some (.cells #[iI 0,iI 0,iI 0,iI 0,iI 0,iI 0,iI 0,iI 0] 45 (0,0))):=by rw [←Cg];exact BR HX0.out
 have Cq:Hid (Below p w WF):=by rw [←Cg];exact BP HB0.out p (Nat.le_refl _) _ _ _ _ _ _ _ _
 clear Cg;obtain ⟨b0,b1,b2,b3,b4,b5,b6,b7⟩:=eight Cy.out;try simp only [Exit.inBlock,Exit.then]
 refine bodyPost_ret (v:=.tuple #[.agg #[iI 0,iI 0,iI 0,iI 0,iI 0,iI 0,iI 0,iI 0],iI 3]) (by simp [results,Tryz.results91,go_sem,b0,b1,b2,b3,b4,b5,b6,b7]) rfl ?_;exact ⟨rfl,by first|exact Cq.out|(rw [hp];exact Cq.out)⟩
end Sh
namespace Sh
open Go.RowKit
theorem EX (bi al pr de cp cn:Int) (w:World) (bi0:0<=bi) (bi1:bi<=10000000000000) (al0:0<=al) (al1:al<=10000000000000) (pr0:0<=pr) (pr1:pr<=10000000000000) (de0:0<=de) (de1:de<=10000000000000) (cp0:0<=cp) (cp1:cp<=10000000000000) (cn0:0<=cn) (cn1:cn<=10000000000000) (Ca:[bi,al,pr,de,cp,cn].all Ce.good=true) (h1:¬ bi < al) (h2:¬ bi < pr) (h3:¬ al < de+cp+cn) (R P D C K M l1 l2 l3 l4:Int) (HR:Hid (max (al - pr) 0=R)) (N1:Hid (Fits (al - (de+cp+cn)) R P l1)) (N2:Hid (Fits de l1 D l2)) (N3:Hid (Fits cp l2 C l3)) (N4:Hid (Fits cn l3 K l4)) (HM:Hid (∀w:World,Calls Tryz.prog 135 #[.agg #[iI al,iI D,iI C,iI K,iI P,iI 0,iI pr,iI 0]] w fun e w'=>e=.returned (iI M)/\Below w.heap.size w w')) (P0:0<=P) (P1:P<=10000000000000) (M0:0<=M) (M1:M<=10000000000000) :
  Calls Tryz.prog 91 #[iI bi,iI al,iI pr,iI de,iI cp,iI cn] w fun e w'=>e=.returned (.tuple #[.agg #[iI al,iI D,iI C,iI K,iI P,iI (bi - pr - P - M),iI pr,iI 0],iI 0])/\Below w.heap.size w w':=by
 have HAM:=zZ (fU [bi,al,pr,de,cp,cn] (w.heap.size+1) 6 6 ((w.alloc (.cells #[iI 0,iI 0,iI 0,iI 0,iI 0,iI 0,iI 0,iI 0] 45)).alloc (.cells #[iI bi,iI al,iI pr,iI de,iI cp,iI cn] 2)) (fM w _ _ _ _) rfl (by simp));have HX0:=zZ (tV (fK w #[iI 0,iI 0,iI 0,iI 0,iI 0,iI 0,iI 0,iI 0] 45) (iU (w.alloc (.cells #[iI 0,iI 0,iI 0,iI 0,iI 0,iI 0,iI 0,iI 0] 45)) (.cells #[iI bi,iI al,iI pr,iI de,iI cp,iI cn] 2)));have HB0:=zZ (jg (iU w (.cells #[iI 0,iI 0,iI 0,iI 0,iI 0,iI 0,iI 0,iI 0] 45)) (iU (w.alloc (.cells #[iI 0,iI 0,iI 0,iI 0,iI 0,iI 0,iI 0,iI 0] 45)) (.cells #[iI bi,iI al,iI pr,iI de,iI cp,iI cn] 2)));have CR:Hid (w.heap.size < ((w.alloc (.cells #[iI 0,iI 0,iI 0,iI 0,iI 0,iI 0,iI 0,iI 0] 45)).alloc (.cells #[iI bi,iI al,iI pr,iI de,iI cp,iI cn] 2)).heap.size):=lt_of_block HX0.out;rw [Ca] at HAM;clear Ca;go_enter Tryz.func91,Tryz.ntmps91
 go_wp2_with fail
 go_at_call 132
 refine HAM.out.mono ?_;rintro e w' ⟨rfl,rfl⟩;clear HAM;generalize ((w.alloc (.cells #[iI 0,iI 0,iI 0,iI 0,iI 0,iI 0,iI 0,iI 0] 45)).alloc (.cells #[iI bi,iI al,iI pr,iI de,iI cp,iI cn] 2))=W0 at *;generalize hp:w.heap.size=p at *;obtain ⟨b0,b1,b2,b3,b4,b5,b6,b7⟩:=eight HX0.out;obtain ⟨f0,f1,f2,f3,f4,f5,f6,f7⟩:=frz HX0.out;go_upto_region 6 with fail
 clear b0 b1 b2 b3 b4 b5 b6 b7 f0 f1 f2 f3 f4 f5 f6 f7;have HO1:=zZ (fK W0 #[iI al,iI 0,iI 0,iI 0,iI 0,iI 0,iI pr,iI 0] 45);have Cz:=zZ (tV HX0.out (iU W0 (.cells #[iI al,iI 0,iI 0,iI 0,iI 0,iI 0,iI pr,iI 0] 45)));have HB1:=zZ (jc HB0.out (iU W0 (.cells #[iI al,iI 0,iI 0,iI 0,iI 0,iI 0,iI pr,iI 0] 45)) (Nat.le_of_lt CR.out));go_upto_region 7 with fail
 generalize hq:W0.heap.size=q at *;have HPQ:=zZ CR.out;generalize (W0.alloc (.cells #[iI al,iI 0,iI 0,iI 0,iI 0,iI 0,iI pr,iI 0] 45))=W1 at *;have HQ1:=zZ (lt_of_block HO1.out);go_wp2_with fail
 go_at_call 133
 refine (bS (max (al - pr) 0) W1).mono ?_;rintro e w2 ⟨rfl,hl,hb⟩;rw [HR.out] at hl;have HX2:=zZ (tV Cz.out hb);have HO2:=zZ (tV HO1.out hb);have HB2:=zZ (jc HB1.out hb (Nat.le_of_lt (Nat.lt_trans HPQ.out HQ1.out)));have HL2:=zZ hl;have HQL:=zZ (Nat.ne_of_lt HQ1.out);have HPL:=zZ (Nat.ne_of_lt (Nat.lt_trans HPQ.out HQ1.out));have HPl:=zZ (Nat.le_of_lt (Nat.lt_trans HPQ.out HQ1.out));clear hl hb;generalize W1.heap.size=L at *;go_wp2_with fail
 go_at_call 157
 refine (GY (al - (de+cp+cn)) R P l1 L w2 HL2.out N1.out).mono ?_;rintro e w3 ⟨rfl,ht⟩;have CK:=zZ (ht.keep HX2.out HPL.out);have HO3:=zZ (ht.keep HO2.out HQL.out);have HB3:=zZ (je HB2.out ht HPl.out);have HL3:=zZ ht.2.1;clear ht HL2;obtain ⟨b0,b1,b2,b3,b4,b5,b6,b7⟩:=eight HO3.out;obtain ⟨f0,f1,f2,f3,f4,f5,f6,f7⟩:=frz HO3.out;go_wp2_with fail
 clear b0 b1 b2 b3 b4 b5 b6 b7 f0 f1 f2 f3 f4 f5 f6 f7;have HX4:=zZ (qL (j:=4) (u:=iI P) CK.out (Nat.ne_of_lt HPQ.out));have HL4:=zZ (qL (j:=4) (u:=iI P) HL3.out (Ne.symm HQL.out));have HB4:=zZ (HB3.out.setCell (p:=⟨q,4,none⟩) (Nat.le_of_lt HPQ.out) (iI P));have HO4:Hid ((w3.setCell ⟨q,4,none⟩ (iI P)).heap[q]?=some (.cells #[iI al,iI 0,iI 0,iI 0,iI P,iI 0,iI pr,iI 0] 45 (0,0))):=by show _=_;rw [heap_set HO3.out];rfl
 generalize w3.setCell ⟨q,4,none⟩ (iI P)=w4 at *;go_wp2_with fail
 go_at_call 157
 refine (GY de l1 D l2 L w4 HL4.out N2.out).mono ?_;rintro e w5 ⟨rfl,ht⟩;have HX5:=zZ (ht.keep HX4.out HPL.out);have HO5:=zZ (ht.keep HO4.out HQL.out);have CF:=zZ (je HB4.out ht HPl.out);have HL5:=zZ ht.2.1;clear ht HL4;obtain ⟨b0,b1,b2,b3,b4,b5,b6,b7⟩:=eight HO5.out;obtain ⟨f0,f1,f2,f3,f4,f5,f6,f7⟩:=frz HO5.out;go_wp2_with fail
 clear b0 b1 b2 b3 b4 b5 b6 b7 f0 f1 f2 f3 f4 f5 f6 f7;have HX6:=zZ (qL (j:=1) (u:=iI D) HX5.out (Nat.ne_of_lt HPQ.out));have HL6:=zZ (qL (j:=1) (u:=iI D) HL5.out (Ne.symm HQL.out));have HB6:=zZ (CF.out.setCell (p:=⟨q,1,none⟩) (Nat.le_of_lt HPQ.out) (iI D));have HO6:Hid ((w5.setCell ⟨q,1,none⟩ (iI D)).heap[q]?=some (.cells #[iI al,iI D,iI 0,iI 0,iI P,iI 0,iI pr,iI 0] 45 (0,0))):=by show _=_;rw [heap_set HO5.out];rfl
 generalize w5.setCell ⟨q,1,none⟩ (iI D)=w6 at *;go_wp2_with fail
 go_at_call 157
 refine (GY cp l2 C l3 L w6 HL6.out N3.out).mono ?_;rintro e w7 ⟨rfl,ht⟩;have HX7:=zZ (ht.keep HX6.out HPL.out);have HO7:=zZ (ht.keep HO6.out HQL.out);have HB7:=zZ (je HB6.out ht HPl.out);have HL7:=zZ ht.2.1;clear ht HL6;obtain ⟨b0,b1,b2,b3,b4,b5,b6,b7⟩:=eight HO7.out;obtain ⟨f0,f1,f2,f3,f4,f5,f6,f7⟩:=frz HO7.out;go_wp2_with fail
 clear b0 b1 b2 b3 b4 b5 b6 b7 f0 f1 f2 f3 f4 f5 f6 f7;have HX8:=zZ (qL (j:=2) (u:=iI C) HX7.out (Nat.ne_of_lt HPQ.out));have HL8:=zZ (qL (j:=2) (u:=iI C) HL7.out (Ne.symm HQL.out));have HB8:=zZ (HB7.out.setCell (p:=⟨q,2,none⟩) (Nat.le_of_lt HPQ.out) (iI C));have HO8:Hid ((w7.setCell ⟨q,2,none⟩ (iI C)).heap[q]?=some (.cells #[iI al,iI D,iI C,iI 0,iI P,iI 0,iI pr,iI 0] 45 (0,0))):=by show _=_;rw [heap_set HO7.out];rfl
 generalize w7.setCell ⟨q,2,none⟩ (iI C)=w8 at *;go_wp2_with fail
 go_at_call 157
 refine (GY cn l3 K l4 L w8 HL8.out N4.out).mono ?_;rintro e w9 ⟨rfl,ht⟩;have HX9:=zZ (ht.keep HX8.out HPL.out);have HO9:=zZ (ht.keep HO8.out HQL.out);have HB9:=zZ (je HB8.out ht HPl.out);have HL9:=zZ ht.2.1;clear ht HL8;obtain ⟨b0,b1,b2,b3,b4,b5,b6,b7⟩:=eight HO9.out;obtain ⟨f0,f1,f2,f3,f4,f5,f6,f7⟩:=frz HO9.out;go_wp2_with fail
 clear b0 b1 b2 b3 b4 b5 b6 b7 f0 f1 f2 f3 f4 f5 f6 f7;have HX10:=zZ (qL (j:=3) (u:=iI K) HX9.out (Nat.ne_of_lt HPQ.out));have HL10:=zZ (qL (j:=3) (u:=iI K) HL9.out (Ne.symm HQL.out));have HB10:=zZ (HB9.out.setCell (p:=⟨q,3,none⟩) (Nat.le_of_lt HPQ.out) (iI K));have HO10:Hid ((w9.setCell ⟨q,3,none⟩ (iI K)).heap[q]?=some (.cells #[iI al,iI D,iI C,iI K,iI P,iI 0,iI pr,iI 0] 45 (0,0))):=by show _=_;rw [heap_set HO9.out];rfl
 generalize w9.setCell ⟨q,3,none⟩ (iI K)=w10 at *;obtain ⟨b0,b1,b2,b3,b4,b5,b6,b7⟩:=eight HO10.out;obtain ⟨f0,f1,f2,f3,f4,f5,f6,f7⟩:=frz HO10.out;have HPw:Hid (p<=w10.heap.size):=Nat.le_of_lt (lt_of_block HX10.out);have u1:IntKind.i64.wrap (bi - pr)=bi - pr:=by rw [IntKind.wrap_i64];omega
 have u2:IntKind.i64.wrap (bi - pr - P)=bi - pr - P:=by rw [IntKind.wrap_i64];omega
 have u3:IntKind.i64.wrap (bi - pr - P - M)=bi - pr - P - M:=by rw [IntKind.wrap_i64];omega
 go_region_with (go_at_call 135;refine (HM.out _).mono ?_;rintro e wm ⟨rfl,hm⟩;have HXm:=zZ (tV (w:=w10.drew) HX10.out hm);have HOm:=zZ (tV (w:=w10.drew) HO10.out hm);have HBm:=zZ (jc HB10.out.drew hm HPw.out);clear b0 b1 b2 b3 b4 b5 b6 b7 f0 f1 f2 f3 f4 f5 f6 f7;clear hm;obtain ⟨b0,b1,b2,b3,b4,b5,b6,b7⟩:=eight HOm.out;obtain ⟨f0,f1,f2,f3,f4,f5,f6,f7⟩:=frz HOm.out)
 all_goals (
  try simp only [u1,u2,u3]
  go_upto_region 13 with fail
  clear b0 b1 b2 b3 b4 b5 b6 b7 f0 f1 f2 f3 f4 f5 f6 f7;have HXn:=zZ (qL (j:=5) (u:=iI (bi - pr - P - M)) HXm.out (Nat.ne_of_lt HPQ.out));have Co:=zZ (HBm.out.setCell (p:=⟨q,5,none⟩) (Nat.le_of_lt HPQ.out) (iI (bi - pr - P - M)));have HOn:Hid ((wm.setCell ⟨q,5,none⟩ (iI (bi - pr - P - M))).heap[q]?=some (.cells #[iI al,iI D,iI C,iI K,iI P,iI (bi - pr - P - M),iI pr,iI 0] 45 (0,0))):=by show _=_;rw [heap_set HOm.out];rfl
  generalize wm.setCell ⟨q,5,none⟩ (iI (bi - pr - P - M))=wn at *;obtain ⟨b0,b1,b2,b3,b4,b5,b6,b7⟩:=eight HOn.out;obtain ⟨f0,f1,f2,f3,f4,f5,f6,f7⟩:=frz HOn.out;obtain ⟨d0,d1,d2,d3,d4,d5,d6,d7⟩:=eight HXn.out;obtain ⟨g0,g1,g2,g3,g4,g5,g6,g7⟩:=frz HXn.out;go_wp2;clear d0 d1 d2 d3 d4 d5 d6 d7 g0 g1 g2 g3 g4 g5 g6 g7;clear b0 b1 b2 b3 b4 b5 b6 b7 f0 f1 f2 f3 f4 f5 f6 f7;generalize Cg:((((((((wn.setCell ⟨p,0,none⟩ (iI al)).setCell ⟨p,1,none⟩ (iI D)).setCell ⟨p,2,none⟩ (iI C)).setCell ⟨p,3,none⟩ (iI K)).setCell ⟨p,4,none⟩ (iI P)).setCell ⟨p,5,none⟩ (iI (bi - pr - P - M))).setCell ⟨p,6,none⟩ (iI pr)).setCell ⟨p,7,none⟩ (iI 0))=WF at *;have Cy:Hid (WF.heap[p]?=some (.cells #[iI al,iI D,iI C,iI K,iI P,iI (bi - pr - P - M),iI pr,iI 0] 45 (0,0))):=by rw [←Cg];exact BR HXn.out
  have Cq:Hid (Below p w WF):=by rw [←Cg];exact BP Co.out p (Nat.le_refl _) _ _ _ _ _ _ _ _
  clear Cg;obtain ⟨b0,b1,b2,b3,b4,b5,b6,b7⟩:=eight Cy.out;try simp only [Exit.inBlock,Exit.then]
  refine bodyPost_ret (v:=.tuple #[.agg #[iI al,iI D,iI C,iI K,iI P,iI (bi - pr - P - M),iI pr,iI 0],iI 0]) (by simp [results,Tryz.results91,go_sem,b0,b1,b2,b3,b4,b5,b6,b7]) rfl ?_;exact ⟨rfl,by first|exact Cq.out|(rw [hp];exact Cq.out)⟩
 )
end Sh
namespace Sh
open Go.RowKit
theorem six (bi al pr de cp cn:Int):[bi,al,pr,de,cp,cn].all Ce.good=FM bi al pr de cp cn:=by simp [FM]
theorem FN {bi al pr de cp cn:Int} (h:[bi,al,pr,de,cp,cn].all Ce.good=true):(0<=bi/\bi<=10000000000000)/\(0<=al/\al<=10000000000000)/\(0<=pr/\pr<=10000000000000)/\(0<=de/\de<=10000000000000)/\(0<=cp/\cp<=10000000000000)/\(0<=cn/\cn<=10000000000000):=by
 simp only [List.all_cons,List.all_nil,Bool.and_true,Bool.and_eq_true,Ce.ql] at h;exact h
theorem Fj {bi al pr de cp cn E:Int} (h:EP bi al pr de cp cn=E) (hE:E ≠ 0):EW bi al pr de cp cn=ot0:=by unfold EW;rw [h,if_neg hE]
theorem ER {bi al pr de cp cn:Int} (h:[bi,al,pr,de,cp,cn].all Ce.good=false):EP bi al pr de cp cn=1:=by unfold EP;rw [←six,h];rfl
theorem EU {bi al pr de cp cn:Int} (h:[bi,al,pr,de,cp,cn].all Ce.good=true) (h2:bi < al ∨ bi < pr ∨ al < de+cp+cn):EP bi al pr de cp cn=3:=by
 unfold EP;rw [←six,if_pos h,if_neg];simp only [pF,Bool.and_eq_true,decide_eq_true_eq];omega
theorem ET {bi al pr de cp cn:Int} (h:[bi,al,pr,de,cp,cn].all Ce.good=true) (h1:¬ bi < al) (h2:¬ bi < pr) (h3:¬ al < de+cp+cn):EP bi al pr de cp cn=0:=by
 unfold EP;rw [←six,if_pos h,if_pos];simp only [pF,Bool.and_eq_true,decide_eq_true_eq];omega
theorem DR (al pr:Int):max (al - pr) 0=rest al pr:=by unfold rest;split<;>omega
theorem FD (bi al pr de cp cn:Int) (w:World) :
  Calls Tryz.prog 91 #[iI bi,iI al,iI pr,iI de,iI cp,iI cn] w fun e w'=>e=.returned (.tuple #[.agg #[iI (EW bi al pr de cp cn).al,iI (EW bi al pr de cp cn).de,iI (EW bi al pr de cp cn).cp,iI (EW bi al pr de cp cn).cn,iI (EW bi al pr de cp cn).plan,iI (EW bi al pr de cp cn).wr,iI (EW bi al pr de cp cn).pr,iI (EW bi al pr de cp cn).deny],iI (EP bi al pr de cp cn)])/\Below w.heap.size w w':=by
 cases Ca:[bi,al,pr,de,cp,cn].all Ce.good
 ·have e:=ER Ca;rw [Fj e (by decide),e];exact EY bi al pr de cp cn w Ca
 obtain ⟨⟨a0,a1⟩,⟨b0,b1⟩,⟨c0',c1⟩,⟨e0,e1⟩,⟨f0,f1⟩,⟨g0,g1⟩⟩:=FN Ca;by_cases h1:bi < al
 ·have e:=EU Ca (Or.inl h1);rw [Fj e (by decide),e];exact E5 bi al pr de cp cn w a0 a1 b0 b1 c0' c1 e0 e1 f0 f1 g0 g1 Ca h1
 by_cases h2:bi < pr
 ·have e:=EU Ca (Or.inr (Or.inl h2));rw [Fj e (by decide),e];exact E8 bi al pr de cp cn w a0 a1 b0 b1 c0' c1 e0 e1 f0 f1 g0 g1 Ca h1 h2
 by_cases h3:al < de+cp+cn
 ·have e:=EU Ca (Or.inr (Or.inr h3));rw [Fj e (by decide),e];exact Fa bi al pr de cp cn w a0 a1 b0 b1 c0' c1 e0 e1 f0 f1 g0 g1 Ca h1 h2 h3
 have e:=ET Ca h1 h2 h3;obtain ⟨r0,r1,r2,q0,q1,q2,q3,q4,q5,q6,q7⟩:=Fg e;have ev:EW bi al pr de cp cn=⟨al,sD al pr de cp cn,sC al pr de cp cn,sK al pr de cp cn,sP al pr de cp cn,bi - pr - sP al pr de cp cn - sD al pr de cp cn - sC al pr de cp cn - sK al pr de cp cn,pr,0⟩:=by unfold EW;rw [if_pos e]
 rw [ev,e];have x0:least (al - de - cp - cn) (rest al pr)=sP al pr de cp cn:=rfl;have x1:least de (rest al pr - sP al pr de cp cn)=sD al pr de cp cn:=rfl;have x2:least cp (rest al pr - sP al pr de cp cn - sD al pr de cp cn)=sC al pr de cp cn:=rfl;have x3:least cn (rest al pr - sP al pr de cp cn - sD al pr de cp cn - sC al pr de cp cn)=sK al pr de cp cn:=rfl;clear ev;have k1':sD al pr de cp cn<=10000000000000:=by omega
 have k2':sC al pr de cp cn<=10000000000000:=by omega
 have k3':sK al pr de cp cn<=10000000000000:=by omega
 have HR:Hid (max (al - pr) 0=rest al pr):=DR al pr;have HM:Hid (∀w:World,Calls Tryz.prog 135 #[.agg #[iI al,iI (sD al pr de cp cn),iI (sC al pr de cp cn),iI (sK al pr de cp cn),iI (sP al pr de cp cn),iI 0,iI pr,iI 0]] w fun e w'=>e=.returned (iI (sD al pr de cp cn+sC al pr de cp cn+sK al pr de cp cn))/\Below w.heap.size w w'):=fun w=>xu ⟨al,sD al pr de cp cn,sC al pr de cp cn,sK al pr de cp cn,sP al pr de cp cn,0,pr,0⟩ w q1 k1' q2 k2' q3 k3';generalize sP al pr de cp cn=P at *;generalize sD al pr de cp cn=D at *;generalize sC al pr de cp cn=C at *;generalize sK al pr de cp cn=K at *;generalize rest al pr=R at *;rw [show bi - pr - P - D - C - K=bi - pr - P - (D+C+K) by omega];rw [show al - de - cp - cn=al - (de+cp+cn) by omega] at x0;exact EX bi al pr de cp cn w a0 a1 b0 b1 c0' c1 e0 e1 f0 f1 g0 g1 Ca h1 h2 h3 R P D C K (D+C+K) (R - P) (R - P - D) (R - P - D - C) (R - P - D - C - K) HR (zZ ⟨by omega,by omega,by omega,by omega,x0,rfl⟩) (zZ ⟨by omega,by omega,by omega,by omega,x1,rfl⟩) (zZ ⟨by omega,by omega,by omega,by omega,x2,rfl⟩) (zZ ⟨by omega,by omega,by omega,by omega,x3,rfl⟩) HM (by omega) (by omega) (by omega) (by omega)
end Sh
namespace Ri
open Go
def reach (l:List Oper):Nat->Nat->Nat->Bool
 | 0,_,_=>false
 | f+1,k,t=>match l[t]? with
  | none=>false
  | some o=>(o.after.any fun e=>Region.binds .any e && e.on == k) || (o.after.any fun e=>Region.binds .any e && reach l f k e.on)
theorem Dp {l:List Oper} {listed:Nat->Prop} (hcl:∀j o,listed j->l[j]?=some o->∀e ∈ o.after,Region.binds .any e=true->listed e.on) (k:Nat) :
  ∀(f t:Nat),(∀o,l[t]?=some o->∀e ∈ o.after,Region.binds .any e=true->listed e.on)->reach l f k t=true->listed k:=by
 intro f;induction f with
 | zero=>intro t _ h;cases h
 | succ f ih =>
  intro t hp h;unfold reach at h;split at h
  ·cases h
  ·next o ho =>
   simp only [Bool.or_eq_true,Array.any_eq_true',Bool.and_eq_true,beq_iff_eq] at h;rcases h with ⟨e,he,hb,rfl⟩|⟨e,he,hb,hr⟩
   ·exact hp o ho e he hb
   ·exact ih e.on (fun o' ho' e' he' hb'=>hcl e.on o' (hp o ho e he hb) ho' e' he' hb') hr
def GU (l:List Oper) (s:Nat):Bool:=(List.range l.length).all fun t=>decide (t < s) || (((List.range t).all fun k=>reach l l.length k t) && ((l[t]?).bind (·.guard)).isNone)
theorem GV {l:List Oper} {s:Nat} (h:GU l s=true) (t:Nat) (o:Oper) (hst:s<=t) (ho:l[t]?=some o):(∀k,k < t->reach l l.length k t=true)/\o.guard=none:=by
 unfold GU at h;have:=List.all_eq_true.1 h t (List.mem_range.2 (List.getElem?_eq_some_iff.1 ho).1);rw [decide_eq_false (by omega),Bool.false_or,Bool.and_eq_true,ho] at this;exact ⟨fun k hk=>List.all_eq_true.1 this.1 k (List.mem_range.2 hk),Option.isNone_iff_eq_none.1 this.2⟩
def Tail (P:Program) (l:List Oper) (Q:Exit->Act->World->Prop) (a0:Act):Nat->List Oper->(Nat->Value)->World->Prop
 | _,[],vs,w=>Q .normal (puts l 0 vs a0) w
 | t,o :: r,vs,w=>∀(A:Act),(∀t:Nat,A.tmps[t]?.getD undef=(puts l 0 vs a0).tmps[t]?.getD undef)->∀K:Act->World->Prop,(∀v w',Tail P l Q a0 (t+1) r (upd vs t v) w'->K (A.put o.dst v) w')->o.wp P A w K Q
end Ri
end Go.Proofs.YtfbfeoplldjbpaaGreatDoor
