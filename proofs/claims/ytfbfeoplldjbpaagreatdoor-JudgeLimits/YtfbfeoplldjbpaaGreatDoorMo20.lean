/-
  Texts put together (merge.py): CScl, HBear0, HBeartip, HBearti, HBearfip, HBearfi.
-/
import Derived.Deep.RegionHeld3
import Derived.Deep.RegionWith
import Derived.Test.YtfbfeoplldjbpaaGreatDoorMo19
import Derived.Test.YtfbfeoplldjbpaaGreatDoorMo16
set_option linter.unusedSimpArgs false
set_option linter.unusedVariables false
set_option maxHeartbeats 16000000
set_option maxRecDepth 100000
section
namespace Go.Proofs.YtfbfeoplldjbpaaGreatDoor.Ce
open Go.RowKit
theorem EH (a n d:Int) (w:World) (h:¬ (good a=true/\0<=n/\1<=d)) :
  Calls Tryz.prog 88 #[.int .i64 a,.int .i64 n,.int .i64 d] w fun e w'=>e=.returned (.tuple #[.int .i64 (EG a n d),.int .i64 (EF a n d)])/\w'=w:=by
 have e1:EG a n d=0:=by unfold EG;rw [if_neg];intro hh;exact h ⟨hh.1,hh.2.1,hh.2.2.1⟩
 have e2:EF a n d=1:=by unfold EF;rw [if_neg h]
 rw [e1,e2]
 cases ga:good a
 ·clear h
  go_enter Tryz.func88,Tryz.ntmps88
  go_wp2_with (go_at_call 76;refine (qh _ _).mono ?_;rintro e w' ⟨rfl,rfl⟩)
  go_ret2
  exact ⟨rfl,rfl⟩
 ·by_cases hn:n < 0
  ·clear h
   go_enter Tryz.func88,Tryz.ntmps88
   go_wp2_with (go_at_call 76;refine (qh _ _).mono ?_;rintro e w' ⟨rfl,rfl⟩)
   go_ret2
   exact ⟨rfl,rfl⟩
  ·have hd:d < 1:=by
    refine Int.not_le.1 fun hh=>h ⟨ga,by omega,by omega⟩
   clear h
   go_enter Tryz.func88,Tryz.ntmps88
   go_wp2_with (go_at_call 76;refine (qh _ _).mono ?_;rintro e w' ⟨rfl,rfl⟩)
   go_ret2
   exact ⟨rfl,rfl⟩
theorem scale_small (a n d p:Int) (w:World) (ga:good a=true) (n0:0<=n) (n1:n<=9223372036854775807) (d0:1<=d) (d1:d<=9223372036854775807) (hp:a * n=p) (hs:p < 18446744073709551616) :
  Calls Tryz.prog 88 #[.int .i64 a,.int .i64 n,.int .i64 d] w fun e w'=>e=.returned (.tuple #[.int .i64 (EG a n d),.int .i64 (EF a n d)])/\∃k,w'=w.drewN k:=by
 obtain ⟨a0,a1⟩:=(ql a).1 ga
 have p0:0<=p:=by rw [←hp];exact Int.mul_nonneg a0 n0
 have q0:0<=p / d:=Int.ediv_nonneg p0 (by omega)
 have q1:p / d<=p:=Int.ediv_le_self d p0
 by_cases hq:10000000000000 < p / d
 ·have gq:good (a * n / d)=false:=(qm _).2 (by rw [hp];omega)
  have e1:EG a n d=0:=by simp [EG,gq]
  have e2:EF a n d=2:=by unfold EF;rw [if_pos ⟨ga,n0,d0⟩,if_neg (by simp [gq])]
  rw [e1,e2]
  clear gq e1 e2
  have H:Hid (a * n=p):=hp
  clear hp
  go_enter Tryz.func88,Tryz.ntmps88
  go_wp2_with (first|(go_at_call 76;refine (qh _ _).mono ?_;rintro e w' ⟨rfl,rfl⟩)|(go_at_call 128;refine (yx _ _ p _ (by omega) (by omega) (by omega) (by omega) H.out hs).mono ?_;rintro e w' ⟨rfl,rfl⟩)|(go_at_call 129;refine (nC _ _ _ (by omega) (by omega) (by omega) (by omega)).mono ?_;rintro e w' ⟨rfl,k,rfl⟩))
  go_ret2
  exact ⟨rfl,_,rfl⟩
 ·have gq:good (a * n / d)=true:=(ql _).2 (by rw [hp];omega)
  have e1:EG a n d=p / d:=by unfold EG;rw [if_pos ⟨ga,n0,d0,gq⟩,hp]
  have e2:EF a n d=0:=by unfold EF;rw [if_pos ⟨ga,n0,d0⟩,if_pos gq]
  rw [e1,e2]
  clear gq e1 e2
  have H:Hid (a * n=p):=hp
  clear hp
  go_enter Tryz.func88,Tryz.ntmps88
  go_wp2_with (first|(go_at_call 76;refine (qh _ _).mono ?_;rintro e w' ⟨rfl,rfl⟩)|(go_at_call 128;refine (yx _ _ p _ (by omega) (by omega) (by omega) (by omega) H.out hs).mono ?_;rintro e w' ⟨rfl,rfl⟩)|(go_at_call 129;refine (nC _ _ _ (by omega) (by omega) (by omega) (by omega)).mono ?_;rintro e w' ⟨rfl,k,rfl⟩))
  go_ret2
  exact ⟨rfl,_,rfl⟩
theorem Ba (a p:Int) (w:World) :
  Calls Tryz.prog 134 #[.int .i64 a,.int .i64 p] w fun e w'=>e=.returned (.tuple #[.int .i64 (AZ a p),.int .i64 (AY a p)])/\∃k,w'=w.drewN k:=by
 by_cases h0:p < 0
 ·have e1:AZ a p=0:=by unfold AZ;rw [if_neg (by omega)]
  have e2:AY a p=1:=by unfold AY;rw [if_neg (by omega)]
  rw [e1,e2]
  go_enter Tryz.func134,Tryz.ntmps134
  go_wp2
  go_ret2
  exact ⟨rfl,0,rfl⟩
 ·by_cases h1:10000 < p
  ·have e1:AZ a p=0:=by unfold AZ;rw [if_neg (by omega)]
   have e2:AY a p=1:=by unfold AY;rw [if_neg (by omega)]
   rw [e1,e2]
   go_enter Tryz.func134,Tryz.ntmps134
   go_wp2
   go_ret2
   exact ⟨rfl,0,rfl⟩
  ·have e1:AZ a p=EG a p 10000:=by unfold AZ;rw [if_pos (by omega)]
   have e2:AY a p=EF a p 10000:=by unfold AY;rw [if_pos (by omega)]
   rw [e1,e2]
   have hc:∀w,Calls Tryz.prog 88 #[.int .i64 a,.int .i64 p,.int .i64 10000] w fun e w'=>e=.returned (.tuple #[.int .i64 (EG a p 10000),.int .i64 (EF a p 10000)])/\∃k,w'=w.drewN k:=by
    intro w
    cases ga:good a
    ·refine (EH a p 10000 w (by simp [ga])).mono ?_
     rintro e w' ⟨rfl,rfl⟩
     exact ⟨rfl,0,rfl⟩
    ·obtain ⟨a0,a1⟩:=(ql a).1 ga
     have hb:a * p<=10000000000000 * 10000:=Int.mul_le_mul a1 (by omega) (by omega) (by omega)
     exact scale_small a p 10000 (a * p) w ga (by omega) (by omega) (by omega) (by omega) rfl (by omega)
   clear e1 e2
   go_enter Tryz.func134,Tryz.ntmps134
   go_wp2_with (go_at_call 88;refine (hc _).mono ?_;rintro e w' ⟨rfl,k,rfl⟩)
   go_ret2
   exact ⟨rfl,_,rfl⟩
theorem EI (a n:Int) (w:World) (n1:n<=9223372036854775807) :
  Calls Tryz.prog 88 #[.int .i64 a,.int .i64 n,.int .i64 1] w fun e w'=>e=.returned (.tuple #[.int .i64 (EG a n 1),.int .i64 (EF a n 1)])/\∃k,w'=w.drewN k:=by
 by_cases h:good a=true/\0<=n/\(1:Int)<=1
 ·obtain ⟨ga,n0,-⟩:=h
  obtain ⟨a0,a1⟩:=(ql a).1 ga
  have p0:0<=a * n:=Int.mul_nonneg a0 n0
  by_cases hs:a * n < 18446744073709551616
  ·exact scale_small a n 1 (a * n) w ga n0 n1 (by omega) (by omega) rfl hs
  ·have gq:good (a * n / 1)=false:=(qm _).2 (by rw [Int.ediv_one];omega)
   have e1:EG a n 1=0:=by unfold EG;rw [if_neg];intro h;rw [gq] at h;exact absurd h.2.2.2 (by decide)
   have e2:EF a n 1=2:=by unfold EF;rw [if_pos ⟨ga,n0,by omega⟩,if_neg (by rw [gq];decide)]
   rw [e1,e2]
   have hm:=fun w=>mul_any a n w a0 (by omega) n0 (by omega)
   obtain ⟨p,hp⟩:∃p,Hid (a * n=p):=⟨_,rfl⟩
   rw [hp.out] at p0 hm hs
   obtain ⟨hi,eh⟩:∃hi,p / 18446744073709551616=hi:=⟨_,rfl⟩
   obtain ⟨lo,el⟩:∃lo,p % 18446744073709551616=lo:=⟨_,rfl⟩
   rw [eh,el] at hm
   have h0:1<=hi:=by omega
   clear gq e1 e2 eh el
   go_enter Tryz.func88,Tryz.ntmps88
   go_wp2_with (first|(go_at_call 76;refine (qh _ _).mono ?_;rintro e w' ⟨rfl,rfl⟩)|(go_at_call 128;refine (hm _).mono ?_;rintro e w' ⟨rfl,rfl⟩))
   go_ret2
   exact ⟨rfl,0,rfl⟩
 ·refine (EH a n 1 w h).mono ?_
  rintro e w' ⟨rfl,rfl⟩
  exact ⟨rfl,0,rfl⟩
end Go.Proofs.YtfbfeoplldjbpaaGreatDoor.Ce
end
section
namespace Go.Proofs.YtfbfeoplldjbpaaGreatDoor.Sh
open Go.RowKit
theorem DT {fn:Func} {t u v x:Tmp} (h:fn.results=#[.tmp t,.tmp u,.tmp v,.tmp x]) (tmps:Array Value) (P:Program) (w:World) :
  (results fn tmps).run P w=.ok (.tuple #[tmps.getD t undef,tmps.getD u undef,tmps.getD v undef,tmps.getD x undef]) w:=by
 simp [results,h]
theorem Ey {w w':World} {b:Nat} {o:Obj} (h:w'.heap=w.heap) (hb:w.heap[b]?=some o):w'.heap[b]?=some o:=by rw [h];exact hb
theorem jw {w:World} {b:Nat} {v0 v1 v2 v3:Value} {T:TypeId} (h:w.heap[b]?=some (.cells #[v0,v1,v2,v3] T (0,0))):w.cell? ⟨b,0,none⟩=some v0/\w.cell? ⟨b,1,none⟩=some v1/\w.cell? ⟨b,2,none⟩=some v2/\w.cell? ⟨b,3,none⟩=some v3:=by
 refine ⟨?_,?_,?_,?_⟩<;>(rw [cell_of_row w b _ _ T (0,0) h];rfl)
theorem fM (w:World) (cs ds:Array Value) (t u:TypeId):((w.alloc (.cells cs t)).alloc (.cells ds u)).heap[w.heap.size+1]?=some (.cells ds u (0,0)):=by
 have:=fK (w.alloc (.cells cs t)) ds u
 rwa [World.size_alloc] at this
def Fits (x l v m:Int):Prop:=0<=x/\x<=10000000000000/\0<=l/\l<=10000000000000/\least x l=v/\l - v=m
theorem GY (x l v m:Int) (q:Nat) (w:World) (h:w.heap[q]?=some (.cells #[.int .i64 l] 2 (0,0))) (hn:Fits x l v m) :
  Calls Tryz.prog 157 #[.int .i64 x,.pointer (some ⟨q,0,none⟩)] w fun e w'=>e=.returned (.int .i64 v)/\dH q m w w':=by
 obtain ⟨x0,x1,l0,l1,hv,hm⟩:=hn
 have:=take_any x l q w h x0 x1 l0 l1
 rw [hv,hm] at this
 exact this
theorem iw (al:Int) (co dd:Bool) (cp cn de oo net:Int) (w:World) (hAll:[al,cp,de,oo].all Ce.good=false) :
  Calls Tryz.prog 90 #[.int .i64 al,.agg #[.bool co,.bool dd,.int .i64 cp,.int .i64 cn],.int .i64 de,.int .i64 oo,.int .i64 net] w fun e w'=>e=.returned (.tuple #[.int .i64 0,.int .i64 0,.int .i64 0,.int .i64 1])/\Below w.heap.size w w':=by
 have HAM:=Lib.hid (fU [al,cp,de,oo] (w.heap.size+1) 4 4 ((w.alloc (.cells #[.bool co,.bool dd,.int .i64 cp,.int .i64 cn] 99)).alloc (.cells #[.int .i64 al,.int .i64 cp,.int .i64 de,.int .i64 oo] 2)) (fM w _ _ _ _) rfl (by simp))
 have HX0:=Lib.hid (tV (fK w #[.bool co,.bool dd,.int .i64 cp,.int .i64 cn] 99) (iU (w.alloc (.cells #[.bool co,.bool dd,.int .i64 cp,.int .i64 cn] 99)) (.cells #[.int .i64 al,.int .i64 cp,.int .i64 de,.int .i64 oo] 2)))
 have HB0:=Lib.hid (jg (iU w (.cells #[.bool co,.bool dd,.int .i64 cp,.int .i64 cn] 99)) (iU (w.alloc (.cells #[.bool co,.bool dd,.int .i64 cp,.int .i64 cn] 99)) (.cells #[.int .i64 al,.int .i64 cp,.int .i64 de,.int .i64 oo] 2)))
 rw [hAll] at HAM
 clear hAll
 go_enter Tryz.func90,Tryz.ntmps90
 go_wp2_with fail
 go_at_call 132
 refine HAM.out.mono ?_
 rintro e w' ⟨rfl,rfl⟩
 go_wp2
 (try simp only [Exit.inBlock,Exit.then]);refine bodyPost_ret (DT rfl _ _ _) rfl ?_
 exact ⟨rfl,HB0.out⟩
end Go.Proofs.YtfbfeoplldjbpaaGreatDoor.Sh
end
section
namespace Go.Proofs.YtfbfeoplldjbpaaGreatDoor.Sh
open Go.RowKit
theorem iI (al:Int) (co:Bool) (cp cn de oo:Int) (w:World) (D l1 C l2:Int) (N1:Hid (Fits de al D l1)) (N2:Hid (Fits cp l1 C l2)) (NR:Hid (Fits al l2 l2 0)) (hAll:[al,cp,de,oo].all Ce.good=true) (HPt:Hid (∀w:World,Calls Tryz.prog 134 #[.int .i64 l2,.int .i64 cn] w fun e w'=>e=.returned (.tuple #[.int .i64 0,.int .i64 1])/\w'.heap=w.heap/\Below w.heap.size w w')) :
  Calls Tryz.prog 90 #[.int .i64 al,.agg #[.bool co,.bool true,.int .i64 cp,.int .i64 cn],.int .i64 de,.int .i64 oo,.int .i64 0] w fun e w'=>e=.returned (.tuple #[.int .i64 0,.int .i64 0,.int .i64 0,.int .i64 1])/\Below w.heap.size w w':=by
 have HAM:=Lib.hid (fU [al,cp,de,oo] (w.heap.size+1) 4 4 ((w.alloc (.cells #[.bool co,.bool true,.int .i64 cp,.int .i64 cn] 99)).alloc (.cells #[.int .i64 al,.int .i64 cp,.int .i64 de,.int .i64 oo] 2)) (fM w _ _ _ _) rfl (by simp))
 have HX0:=Lib.hid (tV (fK w #[.bool co,.bool true,.int .i64 cp,.int .i64 cn] 99) (iU (w.alloc (.cells #[.bool co,.bool true,.int .i64 cp,.int .i64 cn] 99)) (.cells #[.int .i64 al,.int .i64 cp,.int .i64 de,.int .i64 oo] 2)))
 have HB0:=Lib.hid (jg (iU w (.cells #[.bool co,.bool true,.int .i64 cp,.int .i64 cn] 99)) (iU (w.alloc (.cells #[.bool co,.bool true,.int .i64 cp,.int .i64 cn] 99)) (.cells #[.int .i64 al,.int .i64 cp,.int .i64 de,.int .i64 oo] 2)))
 rw [hAll] at HAM
 clear hAll
 go_enter Tryz.func90,Tryz.ntmps90
 go_wp2_with fail
 go_at_call 132
 refine HAM.out.mono ?_
 rintro e w' ⟨rfl,rfl⟩
 have HSZ:Hid (((w.alloc (.cells #[.bool co,.bool true,.int .i64 cp,.int .i64 cn] 99)).alloc (.cells #[.int .i64 al,.int .i64 cp,.int .i64 de,.int .i64 oo] 2)).heap.size=w.heap.size+2):=by show _=_;simp
 clear HAM
 have HP0:Hid (w.heap.size < ((w.alloc (.cells #[.bool co,.bool true,.int .i64 cp,.int .i64 cn] 99)).alloc (.cells #[.int .i64 al,.int .i64 cp,.int .i64 de,.int .i64 oo] 2)).heap.size):=lt_of_block HX0.out
 generalize ((w.alloc (.cells #[.bool co,.bool true,.int .i64 cp,.int .i64 cn] 99)).alloc (.cells #[.int .i64 al,.int .i64 cp,.int .i64 de,.int .i64 oo] 2))=W0 at *
 generalize hp:w.heap.size=p at *
 obtain ⟨b0,b1,b2,b3⟩:=jw HX0.out
 clear b0 b1 b2 b3
 go_wp2_with fail
 go_at_call 133
 refine (from_new al W0).mono ?_
 rintro e w1 ⟨rfl,hl,hb⟩
 have HX1:=Lib.hid (tV HX0.out hb)
 have HB1:=Lib.hid (jc HB0.out hb (Nat.le_of_lt HP0.out))
 have HL1:=Lib.hid hl
 have HP1:Hid (p < w1.heap.size):=Nat.lt_of_lt_of_le HP0.out hb.size
 have HG1:=Lib.hid (Nat.ne_of_lt HP0.out)
 have HF1:=Lib.hid (Nat.le_of_lt HP0.out)
 clear hl hb
 generalize W0.heap.size=L at *
 obtain ⟨b0,b1,b2,b3⟩:=jw HX1.out
 go_wp2_with fail
 go_at_call 157
 refine (GY de al D l1 L w1 HL1.out N1.out).mono ?_
 rintro e w2 ⟨rfl,ht⟩
 have HX2:=Lib.hid (ht.keep HX1.out HG1.out)
 have HB2:=Lib.hid (je HB1.out ht HF1.out)
 have HL2:=Lib.hid ht.2.1
 have HP2:Hid (p < w2.heap.size):=by show _ < _;rw [ht.1];exact HP1.out
 have HG2:=HG1
 have HF2:=HF1
 clear ht b0 b1 b2 b3 HL1
 obtain ⟨b0,b1,b2,b3⟩:=jw HX2.out
 go_wp2_with fail
 go_at_call 157
 refine (GY cp l1 C l2 L w2 HL2.out N2.out).mono ?_
 rintro e w3 ⟨rfl,ht⟩
 have HX3:=Lib.hid (ht.keep HX2.out HG2.out)
 have HB3:=Lib.hid (je HB2.out ht HF2.out)
 have HL3:=Lib.hid ht.2.1
 have HP3:Hid (p < w3.heap.size):=by show _ < _;rw [ht.1];exact HP2.out
 have HG3:=HG2
 have HF3:=HF2
 clear ht b0 b1 b2 b3 HL2
 obtain ⟨b0,b1,b2,b3⟩:=jw HX3.out
 go_wp2_with fail
 go_region_with (first|(go_at_call 157;refine (GY al l2 l2 0 L w3.drew HL3.out NR.out).mono ?_;rintro e w8 ⟨rfl,ht⟩;have HX8:=Lib.hid (ht.keep HX3.out HG3.out);have HB8:=Lib.hid (je HB3.out.drew ht HF3.out);have HP8:Hid (p < w8.heap.size):=(by show _ < _;rw [ht.1];exact HP3.out);clear ht b0 b1 b2 b3;obtain ⟨b0,b1,b2,b3⟩:=jw HX8.out)|(go_at_call 134;refine (HPt.out _).mono ?_;rintro e w9 ⟨rfl,hh9,hb9⟩;have HX9:=Lib.hid (Ey hh9 HX8.out);have HB9:=Lib.hid (jc HB8.out hb9 (Nat.le_of_lt HP8.out));have HP9:Hid (p < w9.heap.size):=(by show _ < _;rw [hh9];exact HP8.out);clear hh9 hb9 b0 b1 b2 b3))
 all_goals (
  go_wp2
  (try simp only [Exit.inBlock,Exit.then]);refine bodyPost_ret (DT rfl _ _ _) rfl ?_
  exact ⟨rfl,by first|exact HB9.out|(rw [hp];exact HB9.out)⟩
 )
end Go.Proofs.YtfbfeoplldjbpaaGreatDoor.Sh
end
section
namespace Go.Proofs.YtfbfeoplldjbpaaGreatDoor.Sh
open Go.RowKit
theorem iH (al:Int) (co:Bool) (cp cn de oo:Int) (w:World) (D l1 C l2:Int) (N1:Hid (Fits de al D l1)) (N2:Hid (Fits cp l1 C l2)) (NR:Hid (Fits al l2 l2 0)) (hAll:[al,cp,de,oo].all Ce.good=true) (K X m1 Y m2 Z m3:Int) (N3:Hid (Fits D oo X m1)) (N4:Hid (Fits C m1 Y m2)) (N5:Hid (Fits K m2 Z m3)) (HPt:Hid (∀w:World,Calls Tryz.prog 134 #[.int .i64 l2,.int .i64 cn] w fun e w'=>e=.returned (.tuple #[.int .i64 K,.int .i64 0])/\w'.heap=w.heap/\Below w.heap.size w w')) :
  Calls Tryz.prog 90 #[.int .i64 al,.agg #[.bool co,.bool true,.int .i64 cp,.int .i64 cn],.int .i64 de,.int .i64 oo,.int .i64 0] w fun e w'=>e=.returned (.tuple #[.int .i64 X,.int .i64 Y,.int .i64 Z,.int .i64 0])/\Below w.heap.size w w':=by
 have HAM:=Lib.hid (fU [al,cp,de,oo] (w.heap.size+1) 4 4 ((w.alloc (.cells #[.bool co,.bool true,.int .i64 cp,.int .i64 cn] 99)).alloc (.cells #[.int .i64 al,.int .i64 cp,.int .i64 de,.int .i64 oo] 2)) (fM w _ _ _ _) rfl (by simp))
 have HX0:=Lib.hid (tV (fK w #[.bool co,.bool true,.int .i64 cp,.int .i64 cn] 99) (iU (w.alloc (.cells #[.bool co,.bool true,.int .i64 cp,.int .i64 cn] 99)) (.cells #[.int .i64 al,.int .i64 cp,.int .i64 de,.int .i64 oo] 2)))
 have HB0:=Lib.hid (jg (iU w (.cells #[.bool co,.bool true,.int .i64 cp,.int .i64 cn] 99)) (iU (w.alloc (.cells #[.bool co,.bool true,.int .i64 cp,.int .i64 cn] 99)) (.cells #[.int .i64 al,.int .i64 cp,.int .i64 de,.int .i64 oo] 2)))
 rw [hAll] at HAM
 clear hAll
 go_enter Tryz.func90,Tryz.ntmps90
 go_wp2_with fail
 go_at_call 132
 refine HAM.out.mono ?_
 rintro e w' ⟨rfl,rfl⟩
 have HSZ:Hid (((w.alloc (.cells #[.bool co,.bool true,.int .i64 cp,.int .i64 cn] 99)).alloc (.cells #[.int .i64 al,.int .i64 cp,.int .i64 de,.int .i64 oo] 2)).heap.size=w.heap.size+2):=by show _=_;simp
 clear HAM
 have HP0:Hid (w.heap.size < ((w.alloc (.cells #[.bool co,.bool true,.int .i64 cp,.int .i64 cn] 99)).alloc (.cells #[.int .i64 al,.int .i64 cp,.int .i64 de,.int .i64 oo] 2)).heap.size):=lt_of_block HX0.out
 generalize ((w.alloc (.cells #[.bool co,.bool true,.int .i64 cp,.int .i64 cn] 99)).alloc (.cells #[.int .i64 al,.int .i64 cp,.int .i64 de,.int .i64 oo] 2))=W0 at *
 generalize hp:w.heap.size=p at *
 obtain ⟨b0,b1,b2,b3⟩:=jw HX0.out
 clear b0 b1 b2 b3
 go_wp2_with fail
 go_at_call 133
 refine (from_new al W0).mono ?_
 rintro e w1 ⟨rfl,hl,hb⟩
 have HX1:=Lib.hid (tV HX0.out hb)
 have HB1:=Lib.hid (jc HB0.out hb (Nat.le_of_lt HP0.out))
 have HL1:=Lib.hid hl
 have HP1:Hid (p < w1.heap.size):=Nat.lt_of_lt_of_le HP0.out hb.size
 have HG1:=Lib.hid (Nat.ne_of_lt HP0.out)
 have HF1:=Lib.hid (Nat.le_of_lt HP0.out)
 clear hl hb
 generalize W0.heap.size=L at *
 obtain ⟨b0,b1,b2,b3⟩:=jw HX1.out
 go_wp2_with fail
 go_at_call 157
 refine (GY de al D l1 L w1 HL1.out N1.out).mono ?_
 rintro e w2 ⟨rfl,ht⟩
 have HX2:=Lib.hid (ht.keep HX1.out HG1.out)
 have HB2:=Lib.hid (je HB1.out ht HF1.out)
 have HL2:=Lib.hid ht.2.1
 have HP2:Hid (p < w2.heap.size):=by show _ < _;rw [ht.1];exact HP1.out
 have HG2:=HG1
 have HF2:=HF1
 clear ht b0 b1 b2 b3 HL1
 obtain ⟨b0,b1,b2,b3⟩:=jw HX2.out
 go_wp2_with fail
 go_at_call 157
 refine (GY cp l1 C l2 L w2 HL2.out N2.out).mono ?_
 rintro e w3 ⟨rfl,ht⟩
 have HX3:=Lib.hid (ht.keep HX2.out HG2.out)
 have HB3:=Lib.hid (je HB2.out ht HF2.out)
 have HL3:=Lib.hid ht.2.1
 have HP3:Hid (p < w3.heap.size):=by show _ < _;rw [ht.1];exact HP2.out
 have HG3:=HG2
 have HF3:=HF2
 clear ht b0 b1 b2 b3 HL2
 obtain ⟨b0,b1,b2,b3⟩:=jw HX3.out
 go_wp2_with fail
 go_region_with (first|(go_at_call 157;refine (GY al l2 l2 0 L w3.drew HL3.out NR.out).mono ?_;rintro e w8 ⟨rfl,ht⟩;have HX8:=Lib.hid (ht.keep HX3.out HG3.out);have HB8:=Lib.hid (je HB3.out.drew ht HF3.out);have HP8:Hid (p < w8.heap.size):=(by show _ < _;rw [ht.1];exact HP3.out);clear ht b0 b1 b2 b3;obtain ⟨b0,b1,b2,b3⟩:=jw HX8.out)|(go_at_call 134;refine (HPt.out _).mono ?_;rintro e w9 ⟨rfl,hh9,hb9⟩;have HX9:=Lib.hid (Ey hh9 HX8.out);have HB9:=Lib.hid (jc HB8.out hb9 (Nat.le_of_lt HP8.out));have HP9:Hid (p < w9.heap.size):=(by show _ < _;rw [hh9];exact HP8.out);clear hh9 hb9 b0 b1 b2 b3))
 all_goals (
  go_wp2_with fail
  go_at_call 133
  refine (from_new oo w9).mono ?_
  rintro e w10 ⟨rfl,hl,hb⟩
  have HX10:=Lib.hid (tV HX9.out hb)
  have HB10:=Lib.hid (jc HB9.out hb (Nat.le_of_lt HP9.out))
  have HL10:=Lib.hid hl
  have HP10:Hid (p < w10.heap.size):=Nat.lt_of_lt_of_le HP9.out hb.size
  have HG10:=Lib.hid (Nat.ne_of_lt HP9.out)
  have HF10:=Lib.hid (Nat.le_of_lt HP9.out)
  clear hl hb
  generalize w9.heap.size=M at *
  obtain ⟨b0,b1,b2,b3⟩:=jw HX10.out
  go_wp2_with fail
  go_at_call 157
  refine (GY D oo X m1 M w10 HL10.out N3.out).mono ?_
  rintro e w11 ⟨rfl,ht⟩
  have HX11:=Lib.hid (ht.keep HX10.out HG10.out)
  have HB11:=Lib.hid (je HB10.out ht HF10.out)
  have HL11:=Lib.hid ht.2.1
  have HP11:Hid (p < w11.heap.size):=by show _ < _;rw [ht.1];exact HP10.out
  have HG11:=HG10
  have HF11:=HF10
  clear ht b0 b1 b2 b3 HL10
  obtain ⟨b0,b1,b2,b3⟩:=jw HX11.out
  go_wp2_with fail
  go_at_call 157
  refine (GY C m1 Y m2 M w11 HL11.out N4.out).mono ?_
  rintro e w12 ⟨rfl,ht⟩
  have HX12:=Lib.hid (ht.keep HX11.out HG11.out)
  have HB12:=Lib.hid (je HB11.out ht HF11.out)
  have HL12:=Lib.hid ht.2.1
  have HP12:Hid (p < w12.heap.size):=by show _ < _;rw [ht.1];exact HP11.out
  have HG12:=HG11
  have HF12:=HF11
  clear ht b0 b1 b2 b3 HL11
  obtain ⟨b0,b1,b2,b3⟩:=jw HX12.out
  go_wp2_with fail
  go_at_call 157
  refine (GY K m2 Z m3 M w12 HL12.out N5.out).mono ?_
  rintro e w13 ⟨rfl,ht⟩
  have HX13:=Lib.hid (ht.keep HX12.out HG12.out)
  have HB13:=Lib.hid (je HB12.out ht HF12.out)
  have HL13:=Lib.hid ht.2.1
  have HP13:Hid (p < w13.heap.size):=by show _ < _;rw [ht.1];exact HP12.out
  have HG13:=HG12
  have HF13:=HF12
  clear ht b0 b1 b2 b3 HL12
  obtain ⟨b0,b1,b2,b3⟩:=jw HX13.out
  go_wp2
  (try simp only [Exit.inBlock,Exit.then]);refine bodyPost_ret (DT rfl _ _ _) rfl ?_
  exact ⟨rfl,by first|exact HB13.out|(rw [hp];exact HB13.out)⟩
 )
end Go.Proofs.YtfbfeoplldjbpaaGreatDoor.Sh
end
section
namespace Go.Proofs.YtfbfeoplldjbpaaGreatDoor.Sh
open Go.RowKit
theorem iC (al:Int) (co:Bool) (cp cn de oo:Int) (w:World) (C l2:Int) (N2:Hid (Fits cp al C l2)) (NR:Hid (Fits al l2 l2 0)) (hAll:[al,cp,de,oo].all Ce.good=true) (HPt:Hid (∀w:World,Calls Tryz.prog 134 #[.int .i64 l2,.int .i64 cn] w fun e w'=>e=.returned (.tuple #[.int .i64 0,.int .i64 1])/\w'.heap=w.heap/\Below w.heap.size w w')) :
  Calls Tryz.prog 90 #[.int .i64 al,.agg #[.bool co,.bool false,.int .i64 cp,.int .i64 cn],.int .i64 de,.int .i64 oo,.int .i64 0] w fun e w'=>e=.returned (.tuple #[.int .i64 0,.int .i64 0,.int .i64 0,.int .i64 1])/\Below w.heap.size w w':=by
 have HAM:=Lib.hid (fU [al,cp,de,oo] (w.heap.size+1) 4 4 ((w.alloc (.cells #[.bool co,.bool false,.int .i64 cp,.int .i64 cn] 99)).alloc (.cells #[.int .i64 al,.int .i64 cp,.int .i64 de,.int .i64 oo] 2)) (fM w _ _ _ _) rfl (by simp))
 have HX0:=Lib.hid (tV (fK w #[.bool co,.bool false,.int .i64 cp,.int .i64 cn] 99) (iU (w.alloc (.cells #[.bool co,.bool false,.int .i64 cp,.int .i64 cn] 99)) (.cells #[.int .i64 al,.int .i64 cp,.int .i64 de,.int .i64 oo] 2)))
 have HB0:=Lib.hid (jg (iU w (.cells #[.bool co,.bool false,.int .i64 cp,.int .i64 cn] 99)) (iU (w.alloc (.cells #[.bool co,.bool false,.int .i64 cp,.int .i64 cn] 99)) (.cells #[.int .i64 al,.int .i64 cp,.int .i64 de,.int .i64 oo] 2)))
 rw [hAll] at HAM
 clear hAll
 go_enter Tryz.func90,Tryz.ntmps90
 go_wp2_with fail
 go_at_call 132
 refine HAM.out.mono ?_
 rintro e w' ⟨rfl,rfl⟩
 have HSZ:Hid (((w.alloc (.cells #[.bool co,.bool false,.int .i64 cp,.int .i64 cn] 99)).alloc (.cells #[.int .i64 al,.int .i64 cp,.int .i64 de,.int .i64 oo] 2)).heap.size=w.heap.size+2):=by show _=_;simp
 clear HAM
 have HP0:Hid (w.heap.size < ((w.alloc (.cells #[.bool co,.bool false,.int .i64 cp,.int .i64 cn] 99)).alloc (.cells #[.int .i64 al,.int .i64 cp,.int .i64 de,.int .i64 oo] 2)).heap.size):=lt_of_block HX0.out
 generalize ((w.alloc (.cells #[.bool co,.bool false,.int .i64 cp,.int .i64 cn] 99)).alloc (.cells #[.int .i64 al,.int .i64 cp,.int .i64 de,.int .i64 oo] 2))=W0 at *
 generalize hp:w.heap.size=p at *
 obtain ⟨b0,b1,b2,b3⟩:=jw HX0.out
 clear b0 b1 b2 b3
 go_wp2_with fail
 go_at_call 133
 refine (from_new al W0).mono ?_
 rintro e w1 ⟨rfl,hl,hb⟩
 have HX1:=Lib.hid (tV HX0.out hb)
 have HB1:=Lib.hid (jc HB0.out hb (Nat.le_of_lt HP0.out))
 have HL1:=Lib.hid hl
 have HP1:Hid (p < w1.heap.size):=Nat.lt_of_lt_of_le HP0.out hb.size
 have HG1:=Lib.hid (Nat.ne_of_lt HP0.out)
 have HF1:=Lib.hid (Nat.le_of_lt HP0.out)
 clear hl hb
 generalize W0.heap.size=L at *
 obtain ⟨b0,b1,b2,b3⟩:=jw HX1.out
 go_wp2_with fail
 go_at_call 157
 refine (GY cp al C l2 L w1 HL1.out N2.out).mono ?_
 rintro e w3 ⟨rfl,ht⟩
 have HX3:=Lib.hid (ht.keep HX1.out HG1.out)
 have HB3:=Lib.hid (je HB1.out ht HF1.out)
 have HL3:=Lib.hid ht.2.1
 have HP3:Hid (p < w3.heap.size):=by show _ < _;rw [ht.1];exact HP1.out
 have HG3:=HG1
 have HF3:=HF1
 clear ht b0 b1 b2 b3 HL1
 obtain ⟨b0,b1,b2,b3⟩:=jw HX3.out
 go_wp2_with fail
 go_region_with (first|(go_at_call 157;refine (GY al l2 l2 0 L w3.drew HL3.out NR.out).mono ?_;rintro e w8 ⟨rfl,ht⟩;have HX8:=Lib.hid (ht.keep HX3.out HG3.out);have HB8:=Lib.hid (je HB3.out.drew ht HF3.out);have HP8:Hid (p < w8.heap.size):=(by show _ < _;rw [ht.1];exact HP3.out);clear ht b0 b1 b2 b3;obtain ⟨b0,b1,b2,b3⟩:=jw HX8.out)|(go_at_call 134;refine (HPt.out _).mono ?_;rintro e w9 ⟨rfl,hh9,hb9⟩;have HX9:=Lib.hid (Ey hh9 HX8.out);have HB9:=Lib.hid (jc HB8.out hb9 (Nat.le_of_lt HP8.out));have HP9:Hid (p < w9.heap.size):=(by show _ < _;rw [hh9];exact HP8.out);clear hh9 hb9 b0 b1 b2 b3))
 all_goals (
  go_wp2
  (try simp only [Exit.inBlock,Exit.then]);refine bodyPost_ret (DT rfl _ _ _) rfl ?_
  exact ⟨rfl,by first|exact HB9.out|(rw [hp];exact HB9.out)⟩
 )
end Go.Proofs.YtfbfeoplldjbpaaGreatDoor.Sh
end
section
namespace Go.Proofs.YtfbfeoplldjbpaaGreatDoor.Sh
open Go.RowKit
theorem iy (al:Int) (co:Bool) (cp cn de oo:Int) (w:World) (C l2:Int) (N2:Hid (Fits cp al C l2)) (NR:Hid (Fits al l2 l2 0)) (hAll:[al,cp,de,oo].all Ce.good=true) (K X m1 Y m2 Z m3:Int) (N3:Hid (Fits 0 oo X m1)) (N4:Hid (Fits C m1 Y m2)) (N5:Hid (Fits K m2 Z m3)) (HPt:Hid (∀w:World,Calls Tryz.prog 134 #[.int .i64 l2,.int .i64 cn] w fun e w'=>e=.returned (.tuple #[.int .i64 K,.int .i64 0])/\w'.heap=w.heap/\Below w.heap.size w w')) :
  Calls Tryz.prog 90 #[.int .i64 al,.agg #[.bool co,.bool false,.int .i64 cp,.int .i64 cn],.int .i64 de,.int .i64 oo,.int .i64 0] w fun e w'=>e=.returned (.tuple #[.int .i64 X,.int .i64 Y,.int .i64 Z,.int .i64 0])/\Below w.heap.size w w':=by
 have HAM:=Lib.hid (fU [al,cp,de,oo] (w.heap.size+1) 4 4 ((w.alloc (.cells #[.bool co,.bool false,.int .i64 cp,.int .i64 cn] 99)).alloc (.cells #[.int .i64 al,.int .i64 cp,.int .i64 de,.int .i64 oo] 2)) (fM w _ _ _ _) rfl (by simp))
 have HX0:=Lib.hid (tV (fK w #[.bool co,.bool false,.int .i64 cp,.int .i64 cn] 99) (iU (w.alloc (.cells #[.bool co,.bool false,.int .i64 cp,.int .i64 cn] 99)) (.cells #[.int .i64 al,.int .i64 cp,.int .i64 de,.int .i64 oo] 2)))
 have HB0:=Lib.hid (jg (iU w (.cells #[.bool co,.bool false,.int .i64 cp,.int .i64 cn] 99)) (iU (w.alloc (.cells #[.bool co,.bool false,.int .i64 cp,.int .i64 cn] 99)) (.cells #[.int .i64 al,.int .i64 cp,.int .i64 de,.int .i64 oo] 2)))
 rw [hAll] at HAM
 clear hAll
 go_enter Tryz.func90,Tryz.ntmps90
 go_wp2_with fail
 go_at_call 132
 refine HAM.out.mono ?_
 rintro e w' ⟨rfl,rfl⟩
 have HSZ:Hid (((w.alloc (.cells #[.bool co,.bool false,.int .i64 cp,.int .i64 cn] 99)).alloc (.cells #[.int .i64 al,.int .i64 cp,.int .i64 de,.int .i64 oo] 2)).heap.size=w.heap.size+2):=by show _=_;simp
 clear HAM
 have HP0:Hid (w.heap.size < ((w.alloc (.cells #[.bool co,.bool false,.int .i64 cp,.int .i64 cn] 99)).alloc (.cells #[.int .i64 al,.int .i64 cp,.int .i64 de,.int .i64 oo] 2)).heap.size):=lt_of_block HX0.out
 generalize ((w.alloc (.cells #[.bool co,.bool false,.int .i64 cp,.int .i64 cn] 99)).alloc (.cells #[.int .i64 al,.int .i64 cp,.int .i64 de,.int .i64 oo] 2))=W0 at *
 generalize hp:w.heap.size=p at *
 obtain ⟨b0,b1,b2,b3⟩:=jw HX0.out
 clear b0 b1 b2 b3
 go_wp2_with fail
 go_at_call 133
 refine (from_new al W0).mono ?_
 rintro e w1 ⟨rfl,hl,hb⟩
 have HX1:=Lib.hid (tV HX0.out hb)
 have HB1:=Lib.hid (jc HB0.out hb (Nat.le_of_lt HP0.out))
 have HL1:=Lib.hid hl
 have HP1:Hid (p < w1.heap.size):=Nat.lt_of_lt_of_le HP0.out hb.size
 have HG1:=Lib.hid (Nat.ne_of_lt HP0.out)
 have HF1:=Lib.hid (Nat.le_of_lt HP0.out)
 clear hl hb
 generalize W0.heap.size=L at *
 obtain ⟨b0,b1,b2,b3⟩:=jw HX1.out
 go_wp2_with fail
 go_at_call 157
 refine (GY cp al C l2 L w1 HL1.out N2.out).mono ?_
 rintro e w3 ⟨rfl,ht⟩
 have HX3:=Lib.hid (ht.keep HX1.out HG1.out)
 have HB3:=Lib.hid (je HB1.out ht HF1.out)
 have HL3:=Lib.hid ht.2.1
 have HP3:Hid (p < w3.heap.size):=by show _ < _;rw [ht.1];exact HP1.out
 have HG3:=HG1
 have HF3:=HF1
 clear ht b0 b1 b2 b3 HL1
 obtain ⟨b0,b1,b2,b3⟩:=jw HX3.out
 go_wp2_with fail
 go_region_with (first|(go_at_call 157;refine (GY al l2 l2 0 L w3.drew HL3.out NR.out).mono ?_;rintro e w8 ⟨rfl,ht⟩;have HX8:=Lib.hid (ht.keep HX3.out HG3.out);have HB8:=Lib.hid (je HB3.out.drew ht HF3.out);have HP8:Hid (p < w8.heap.size):=(by show _ < _;rw [ht.1];exact HP3.out);clear ht b0 b1 b2 b3;obtain ⟨b0,b1,b2,b3⟩:=jw HX8.out)|(go_at_call 134;refine (HPt.out _).mono ?_;rintro e w9 ⟨rfl,hh9,hb9⟩;have HX9:=Lib.hid (Ey hh9 HX8.out);have HB9:=Lib.hid (jc HB8.out hb9 (Nat.le_of_lt HP8.out));have HP9:Hid (p < w9.heap.size):=(by show _ < _;rw [hh9];exact HP8.out);clear hh9 hb9 b0 b1 b2 b3))
 all_goals (
  go_wp2_with fail
  go_at_call 133
  refine (from_new oo w9).mono ?_
  rintro e w10 ⟨rfl,hl,hb⟩
  have HX10:=Lib.hid (tV HX9.out hb)
  have HB10:=Lib.hid (jc HB9.out hb (Nat.le_of_lt HP9.out))
  have HL10:=Lib.hid hl
  have HP10:Hid (p < w10.heap.size):=Nat.lt_of_lt_of_le HP9.out hb.size
  have HG10:=Lib.hid (Nat.ne_of_lt HP9.out)
  have HF10:=Lib.hid (Nat.le_of_lt HP9.out)
  clear hl hb
  generalize w9.heap.size=M at *
  obtain ⟨b0,b1,b2,b3⟩:=jw HX10.out
  go_wp2_with fail
  go_at_call 157
  refine (GY 0 oo X m1 M w10 HL10.out N3.out).mono ?_
  rintro e w11 ⟨rfl,ht⟩
  have HX11:=Lib.hid (ht.keep HX10.out HG10.out)
  have HB11:=Lib.hid (je HB10.out ht HF10.out)
  have HL11:=Lib.hid ht.2.1
  have HP11:Hid (p < w11.heap.size):=by show _ < _;rw [ht.1];exact HP10.out
  have HG11:=HG10
  have HF11:=HF10
  clear ht b0 b1 b2 b3 HL10
  obtain ⟨b0,b1,b2,b3⟩:=jw HX11.out
  go_wp2_with fail
  go_at_call 157
  refine (GY C m1 Y m2 M w11 HL11.out N4.out).mono ?_
  rintro e w12 ⟨rfl,ht⟩
  have HX12:=Lib.hid (ht.keep HX11.out HG11.out)
  have HB12:=Lib.hid (je HB11.out ht HF11.out)
  have HL12:=Lib.hid ht.2.1
  have HP12:Hid (p < w12.heap.size):=by show _ < _;rw [ht.1];exact HP11.out
  have HG12:=HG11
  have HF12:=HF11
  clear ht b0 b1 b2 b3 HL11
  obtain ⟨b0,b1,b2,b3⟩:=jw HX12.out
  go_wp2_with fail
  go_at_call 157
  refine (GY K m2 Z m3 M w12 HL12.out N5.out).mono ?_
  rintro e w13 ⟨rfl,ht⟩
  have HX13:=Lib.hid (ht.keep HX12.out HG12.out)
  have HB13:=Lib.hid (je HB12.out ht HF12.out)
  have HL13:=Lib.hid ht.2.1
  have HP13:Hid (p < w13.heap.size):=by show _ < _;rw [ht.1];exact HP12.out
  have HG13:=HG12
  have HF13:=HF12
  clear ht b0 b1 b2 b3 HL12
  obtain ⟨b0,b1,b2,b3⟩:=jw HX13.out
  go_wp2
  (try simp only [Exit.inBlock,Exit.then]);refine bodyPost_ret (DT rfl _ _ _) rfl ?_
  exact ⟨rfl,by first|exact HB13.out|(rw [hp];exact HB13.out)⟩
 )
end Go.Proofs.YtfbfeoplldjbpaaGreatDoor.Sh
end
