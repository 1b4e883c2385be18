/-
  Texts put together (merge.py): YAdd, YRGet.
-/
import Derived.Test.YtfbfeoplldjbpaaGreatDoorMd8
set_option linter.unusedSimpArgs false
set_option linter.unusedVariables false
set_option maxHeartbeats 16000000
set_option maxRecDepth 100000
namespace Go.Proofs.YtfbfeoplldjbpaaGreatDoor
namespace Ac
open Go.RowKit
theorem pV (l:List Row) (wh:Tx) (f:Bool) (y:Int):∃gd go,pU l wh f y=⟨wh,f,y,gd,go⟩:=by
 have h:=(qN _ _ _ _).1 (dx l wh f y);generalize pU l wh f y=G at *;obtain ⟨a,b,c,d,e⟩:=G;obtain ⟨h1,h2,h3⟩:=h;simp only at h1 h2 h3;subst h1 h2 h3;exact ⟨d,e,rfl⟩
theorem jY {a b:Int} (h:Ce.dJ a b=0):Ce.dM a b=a+b:=by
 have h1:=(jX a b).1 h;unfold Ce.dM;have g1:Ce.good a=true:=(Ce.ql a).2 (by omega);have g2:Ce.good b=true:=(Ce.ql b).2 (by omega);have g3:Ce.good (a+b)=true:=(Ce.ql _).2 (by omega);simp [g1,g2,g3]
theorem dP {l:List Row} (hl:Ok l) {wh:Tx} {f:Bool} {y d o:Int} (h:dJ l wh f y d o=0) {i:Nat} {fb:Bool} (hs:dh l (DW l wh f y d o) i fb):BX l (DW l wh f y d o) i fb=dM l wh f y d o:=by
 have k:=add_zero h;unfold BX dM;rw [if_pos h];cases fb with
 | true =>
  rw [if_pos rfl];obtain ⟨hi,hg⟩:=pW hl.up hs;have hone:=(yT _).1 (hl.1 _ (List.getElem_mem hi));rw [if_neg (by rw [hg];rw [hg] at k;omega)];obtain ⟨_,hp⟩:=Cb hs;exact hp.symm
 | false =>
  rw [if_neg (by decide)];by_cases h0:(pU l wh f y).oo+o=0
  ·rw [if_pos h0,if_pos (show (DW l wh f y d o).oo=0 from h0)]
  ·rw [if_neg h0,if_neg (show ¬ (DW l wh f y d o).oo=0 from h0),Cc hs]
theorem Em {w:World} {v:Value} {l:List Row} (h:cu All w v l):cu (fun b=>b < w.heap.size) w v l:=by
 obtain ⟨a,c,rfl,h1,h2,h3⟩:=h;exact ⟨a,c,rfl,h1,h2,h3.imp id fun ⟨b,o,e,_,hb,hc⟩=>⟨b,o,e,hb,hb,hc⟩⟩
theorem jO {w:World} {b:Nat} {a0 a1 a2 a3 a4:Value} {T:TypeId} (h:w.heap[b]?=some (.cells #[a0,a1,a2,a3,a4] T (0,0))) (u:Value):(w.setCell ⟨b,3,none⟩ u).heap[b]?=some (.cells #[a0,a1,a2,u,a4] T (0,0)):=by rw [heap_set h];rfl
theorem jP {w:World} {b:Nat} {a0 a1 a2 a3 a4:Value} {T:TypeId} (h:w.heap[b]?=some (.cells #[a0,a1,a2,a3,a4] T (0,0))) (u:Value):(w.setCell ⟨b,4,none⟩ u).heap[b]?=some (.cells #[a0,a1,a2,a3,u] T (0,0)):=by rw [heap_set h];rfl
theorem aM (l:List Row) (wh:Tx) (f:Bool) (y d o:Int) (v:Value) (w:World) (h:cu All w v l) (hl:l.length<=10000) (hO:Ok l) :
  Calls Tryz.prog 136 #[v,sS wh,.bool f,iI y,iI d,iI o] w fun e w'=>∃v',e=.returned (.tuple #[v',iI (dJ l wh f y d o)])/\Own w.heap.size w' v' (dM l wh f y d o)/\Below w.heap.size w w':=by
 obtain ⟨gd,go,hG⟩:=pV l wh f y;have HGet:Hid (Calls Tryz.prog 131 #[v,sS wh,.bool f,iI y] w fun e w'=>e=.returned (.agg #[sS wh,.bool f,iI y,iI gd,iI go])/\Below w.heap.size w w'):=by
  have hq:=bX l wh f y v w h (by omega) hO.up;rw [hG] at hq;exact hq
 have HRlo:Hid (∀W,Below w.heap.size w W->cu All W v l):=fun W hW=>((Em h).move (Below.yu hW)).all;have HO:=zZ hO;have HPut:Hid (∀W,cu All W v l->Calls Tryz.prog 158 #[v,.agg #[sS wh,.bool f,iI y,iI (gd+d),iI (go+o)]] W fun e w'=>∃v' i fb,e=.returned v'/\dh l ⟨wh,f,y,gd+d,go+o⟩ i fb/\Own W.heap.size w' v' (BX l ⟨wh,f,y,gd+d,go+o⟩ i fb)/\Below W.heap.size W w'):=fun W hW=>gH l ⟨wh,f,y,gd+d,go+o⟩ v W hW hl hO.up;have HRow:Hid (DW l wh f y d o=⟨wh,f,y,gd+d,go+o⟩):=(by unfold DW;rw [hG]:DW l wh f y d o=⟨wh,f,y,gd+d,go+o⟩);obtain ⟨fa,fk,rfl,hm1,hm2⟩:=h.form;have HA1:=zZ fun W=>Ce.aM gd d W;have HA2:=zZ fun W=>Ce.aM go o W;obtain ⟨E,HE⟩:∃E,Hid (dJ l wh f y d o=E):=⟨_,(rfl:dJ l wh f y d o=_)⟩;have HEd:Hid (E=if Ce.dJ gd d=0 then (if Ce.dJ go o=0 then (if d<=o then 0 else 3) else Ce.dJ go o) else Ce.dJ gd d):=(by rw [←HE.out];unfold dJ;rw [hG]:E=_);have HPL:Hid (E=0->∀i fb,dh l (DW l wh f y d o) i fb->BX l (DW l wh f y d o) i fb=dM l wh f y d o):=fun h0 i fb hs=>dP hO (HE.out.trans h0) hs;have HNil:Hid (E ≠ 0->dM l wh f y d o=[]):=fun h0=>by unfold dM;rw [if_neg (by rw [HE.out];exact h0)]
 rw [HE.out];rw [HRow.out] at HPL;obtain ⟨L2,HL2⟩:∃L2,Hid (dM l wh f y d o=L2):=⟨_,(rfl:dM l wh f y d o=_)⟩;rw [HL2.out] at HPL HNil ⊢;have HV1:Hid (Ce.dJ gd d=0->Ce.dM gd d=gd+d):=jY;have HV2:Hid (Ce.dJ go o=0->Ce.dM go o=go+o):=jY;generalize Ce.dJ gd d=E1 at *;generalize Ce.dJ go o=E2 at *;generalize Ce.dM gd d=V1 at *;generalize Ce.dM go o=V2 at *;clear h hO hG HE HO HRow HL2;go_enter Tryz.func136,Tryz.ntmps136
 go_wp2_with fail
 go_at_call 131
 refine HGet.out.mono ?_;rintro e w1 ⟨rfl,hb1⟩;have hb2:=iU w1 (.cells #[sS wh,.bool f,iI y,iI gd,iI go] TA);have HZ:=zZ (heap_alloc_new w1 (.cells #[sS wh,.bool f,iI y,iI gd,iI go] TA));have HB:=zZ (jg hb1 hb2);have HS:=zZ hb1.size;clear hb1 hb2 HGet;go_upto_region 3 with fail
 generalize w1.alloc (.cells #[sS wh,.bool f,iI y,iI gd,iI go] TA)=W at *;generalize hq:w1.heap.size=q at *;generalize hp:w.heap.size=p at *;have HPQ:=zZ HS.out;obtain ⟨z0,z1,z2,z3,z4⟩:=cells5 HZ.out;obtain ⟨t0,t1,t2,t3,t4⟩:=pO HZ.out;have HZ2:=zZ (jO HZ.out (iI V1));have HB2:Hid (Below p w (W.setCell ⟨q,3,none⟩ (iI V1))):=HB.out.setCell (p:=⟨q,3,none⟩) HPQ.out _;by_cases h1:E1=0
 ·have e1:=HV1.out h1;have b1:(E1 != 0)=false:=by simp [h1]
  have HEd2:Hid (E=if E2=0 then (if d<=o then 0 else 3) else E2):=HEd.out.trans (by rw [if_pos h1]);rw [←e1] at HPut HPL;clear HEd HV1 e1 h1;go_upto_region 6 with (go_at_call 120;refine (HA1.out _).mono ?_;rintro e w' ⟨rfl,hw⟩;rw [hw];clear hw w')
  generalize W.setCell ⟨q,3,none⟩ (iI V1)=W3 at *;clear z0 z1 z2 z3 z4 t0 t1 t2 t3 t4 HZ HB HA1 b1;obtain ⟨z0,z1,z2,z3,z4⟩:=cells5 HZ2.out;obtain ⟨t0,t1,t2,t3,t4⟩:=pO HZ2.out;have HZ3:=zZ (jP HZ2.out (iI V2));have HB3:Hid (Below p w (W3.setCell ⟨q,4,none⟩ (iI V2))):=HB2.out.setCell (p:=⟨q,4,none⟩) HPQ.out _;by_cases h2:E2=0
  ·have e2:=HV2.out h2;have b2:(E2 != 0)=false:=by simp [h2]
   have HEd3:Hid (E=if d<=o then 0 else 3):=HEd2.out.trans (by rw [if_pos h2]);rw [←e2] at HPut HPL;clear HEd2 HV2 e2 h2;go_upto_region 9 with (go_at_call 120;refine (HA2.out _).mono ?_;rintro e w' ⟨rfl,hw⟩;rw [hw];clear hw w')
   generalize W3.setCell ⟨q,4,none⟩ (iI V2)=W4 at *;clear z0 z1 z2 z3 z4 t0 t1 t2 t3 t4 HZ2 HB2 HA2 b2;obtain ⟨z0,z1,z2,z3,z4⟩:=cells5 HZ3.out;by_cases h3:d<=o
   ·have HE0:Hid (E=0):=HEd3.out.trans (by rw [if_pos h3]);have n3:¬ o < d:=by omega
    clear h3;have HP:=zZ (HPut.out W4 (HRlo.out W4 HB3.out));clear HPut;go_wp2_with fail
    go_at_call 158
    refine HP.out.mono ?_;rintro e w5 ⟨v5,i5,fb5,rfl,hs5,ho5,hb5⟩;rw [HPL.out HE0.out i5 fb5 hs5] at ho5;have HO5:=zZ (gF HB3.out.size ho5);have CF:=zZ (jf hp HB3.out hb5);obtain ⟨a5,c5,rfl,-,-⟩:=Am ho5;clear hs5 ho5 hb5 HP HPL z0 z1 z2 z3 z4;go_wp2;go_ret2;exact ⟨_,(by first|(rw [HE0.out];done)|(rw [HE0.out];rfl)),by first|exact HO5.out|(rw [hp];exact HO5.out),by first|exact CF.out|(rw [hp];exact CF.out)⟩
   ·have HE0:Hid (E=3):=HEd3.out.trans (by rw [if_neg h3]);have n3:o < d:=by omega
    have HNl:Hid (L2=[]):=HNil.out (by rw [HE0.out];decide);clear h3;go_wp2;go_ret2;exact ⟨.slice none 0 0,(by first|(rw [HE0.out];done)|(rw [HE0.out];rfl)),by rw [HNl.out];exact Ap _ _,by first|exact HB3.out|(rw [hp];exact HB3.out)⟩
  ·have b2:(E2 != 0)=true:=by simp [h2]
   have HE0:Hid (E=E2):=HEd2.out.trans (by rw [if_neg h2]);have HNl:Hid (L2=[]):=HNil.out (by rw [HE0.out];exact h2);clear h2 HV2 HPL HNil HEd2;go_wp2_with (go_at_call 120;refine (HA2.out _).mono ?_;rintro e w' ⟨rfl,hw⟩;rw [hw];clear hw w')
   go_ret2;exact ⟨.slice none 0 0,(by first|(rw [HE0.out];done)|(rw [HE0.out];rfl)),by rw [HNl.out];exact Ap _ _,by first|exact HB3.out|(rw [hp];exact HB3.out)⟩
 ·have b1:(E1 != 0)=true:=by simp [h1]
  have HE0:Hid (E=E1):=HEd.out.trans (by rw [if_neg h1]);have HNl:Hid (L2=[]):=HNil.out (by rw [HE0.out];exact h1);clear HEd h1 HV1 HV2 HPL HNil;go_wp2_with (go_at_call 120;refine (HA1.out _).mono ?_;rintro e w' ⟨rfl,hw⟩;rw [hw];clear hw w')
  go_ret2;exact ⟨.slice none 0 0,(by first|(rw [HE0.out];done)|(rw [HE0.out];rfl)),by rw [HNl.out];exact Ap _ _,by first|exact HB2.out|(rw [hp];exact HB2.out)⟩
theorem eight {w:World} {b:Nat} {c0 c1 c2 c3 c4 c5 c6 c7:Value} {T:TypeId} (h:w.heap[b]?=some (.cells #[c0,c1,c2,c3,c4,c5,c6,c7] T (0,0))):w.cell? ⟨b,0,none⟩=some c0/\w.cell? ⟨b,1,none⟩=some c1/\w.cell? ⟨b,2,none⟩=some c2/\w.cell? ⟨b,3,none⟩=some c3/\w.cell? ⟨b,4,none⟩=some c4/\w.cell? ⟨b,5,none⟩=some c5/\w.cell? ⟨b,6,none⟩=some c6/\w.cell? ⟨b,7,none⟩=some c7:=by
 refine ⟨?_,?_,?_,?_,?_,?_,?_,?_⟩<;>(rw [cell_of_row w b _ _ T (0,0) h];rfl)
open Sh (Ot member)
def Small (o:Ot):Prop:=(-1152921504606846976<=o.de/\o.de<=1152921504606846976)/\(-1152921504606846976<=o.cp/\o.cp<=1152921504606846976)/\(-1152921504606846976<=o.cn/\o.cn<=1152921504606846976)
theorem xu (o:Ot) (w:World) (hs:Small o) :
  Calls Tryz.prog 135 #[.agg #[iI o.al,iI o.de,iI o.cp,iI o.cn,iI o.plan,iI o.wr,iI o.pr,iI o.deny]] w fun e w'=>e=.returned (iI (member o))/\Below w.heap.size w w':=by
 obtain ⟨⟨h1,h2⟩,⟨h3,h4⟩,⟨h5,h6⟩⟩:=hs;have HB:=zZ (iU w (.cells #[iI o.al,iI o.de,iI o.cp,iI o.cn,iI o.plan,iI o.wr,iI o.pr,iI o.deny] 45));have HX:=zZ (fK w #[iI o.al,iI o.de,iI o.cp,iI o.cn,iI o.plan,iI o.wr,iI o.pr,iI o.deny] 45);rw [show member o=o.de+o.cp+o.cn from rfl];go_enter Tryz.func135,Tryz.ntmps135
 go_upto_region 1 with fail
 generalize w.alloc (.cells #[iI o.al,iI o.de,iI o.cp,iI o.cn,iI o.plan,iI o.wr,iI o.pr,iI o.deny] 45)=W at *;generalize hp:w.heap.size=p at *;obtain ⟨b0,b1,b2,b3,b4,b5,b6,b7⟩:=eight HX.out;go_wp2;go_ret;exact ⟨rfl,by first|exact HB.out|(rw [hp];exact HB.out)⟩
theorem dN (l:List Row) (wh:Tx) (f:Bool) (y d o:Int):(dM l wh f y d o).length<=l.length+1:=by
 unfold dM;split
 ·split
  ·omega
  ·have:∀(a:Row) (l:List Row),(put a l).length<=l.length+1:=by
    intro a l;induction l with
    | nil=>simp [put]
    | cons x r ih=>unfold put;split;simp;omega;split<;>simp
   exact this _ _
 ·simp
theorem bq (l:List Row) (m f:Tx) (y:Int) (o:Ot) (v:Value) (w:World) (h:cu All w v l) (hl:l.length<=9000) (hO:Ok l) (hs:Small o) :
  Calls Tryz.prog 92 #[v,sS m,sS f,iI y,.agg #[iI o.al,iI o.de,iI o.cp,iI o.cn,iI o.plan,iI o.wr,iI o.pr,iI o.deny]] w fun e w'=>∃v',e=.returned (.tuple #[v',iI (jF l m f y o)])/\Own w.heap.size w' v' (jG l m f y o)/\Below w.heap.size w w':=by
 have HB:=zZ (iU w (.cells #[iI o.al,iI o.de,iI o.cp,iI o.cn,iI o.plan,iI o.wr,iI o.pr,iI o.deny] 45));have HX:=zZ (fK w #[iI o.al,iI o.de,iI o.cp,iI o.cn,iI o.plan,iI o.wr,iI o.pr,iI o.deny] 45);have HM:=zZ fun W=>xu o W hs;have HRlo:Hid (∀W,Below w.heap.size w W->cu All W v l):=fun W hW=>((Em h).move (Below.yu hW)).all;have HA1:=zZ fun W (hW:cu All W v l)=>aM l m false y o.de (member o) v W hW (by omega) hO;have HA2:Hid (dJ l m false y o.de (member o)=0->∀W v2,cu All W v2 (dM l m false y o.de (member o))->Calls Tryz.prog 136 #[v2,sS f,.bool true,iI y,iI o.de,iI (member o)] W fun e w'=>∃v',e=.returned (.tuple #[v',iI (dJ (dM l m false y o.de (member o)) f true y o.de (member o))])/\Own W.heap.size w' v' (dM (dM l m false y o.de (member o)) f true y o.de (member o))/\Below W.heap.size W w'):=fun h0 W v2 hW =>
  aM _ f true y o.de (member o) v2 W hW (by have:=dN l m false y o.de (member o);omega) (dO hO h0)
 obtain ⟨fa,fk,rfl,hm1,hm2⟩:=h.form;have HE:Hid (jF l m f y o=if dJ l m false y o.de (member o)=0 then dJ (dM l m false y o.de (member o)) f true y o.de (member o) else dJ l m false y o.de (member o)):=(rfl:jF l m f y o=_);have HV:Hid (jG l m f y o=if dJ l m false y o.de (member o)=0 then dM (dM l m false y o.de (member o)) f true y o.de (member o) else []):=(rfl:jG l m f y o=_);generalize jF l m f y o=E at *;generalize jG l m f y o=V at *;generalize dM (dM l m false y o.de (member o)) f true y o.de (member o)=V2 at *;generalize dJ (dM l m false y o.de (member o)) f true y o.de (member o)=E2 at *;generalize dM l m false y o.de (member o)=V1 at *;generalize dJ l m false y o.de (member o)=E1 at *;generalize member o=M at *;clear h hO hs;go_enter Tryz.func92,Tryz.ntmps92
 go_upto_region 1 with fail
 generalize w.alloc (.cells #[iI o.al,iI o.de,iI o.cp,iI o.cn,iI o.plan,iI o.wr,iI o.pr,iI o.deny] 45)=W at *;generalize hp:w.heap.size=p at *;obtain ⟨b0,b1,b2,b3,b4,b5,b6,b7⟩:=eight HX.out;go_wp2_with fail
 go_at_call 135
 refine (HM.out _).mono ?_;rintro e w1 ⟨rfl,hb1⟩;have HB1:=zZ (jf hp HB.out hb1);have Cz:=zZ (tV HX.out hb1);clear hb1 b0 b1 b2 b3 b4 b5 b6 b7 HX HB HM;obtain ⟨b0,b1,b2,b3,b4,b5,b6,b7⟩:=eight Cz.out;go_wp2_with fail
 go_at_call 136
 refine (HA1.out w1 (HRlo.out w1 HB1.out)).mono ?_;rintro e w2 ⟨v2,rfl,ho2,hb2⟩;have HB2:=zZ (jf hp HB1.out hb2);have HX2:=zZ (tV Cz.out hb2);have HR2:=zZ (Eo (K:=All) ho2 fun _ _=>trivial);obtain ⟨a2,c2,rfl,hm3,hm4⟩:=Am ho2;clear ho2 hb2 b0 b1 b2 b3 b4 b5 b6 b7 Cz HB1 HA1 HRlo;obtain ⟨b0,b1,b2,b3,b4,b5,b6,b7⟩:=eight HX2.out;by_cases h1:E1=0
 ·have n1:(E1 != 0)=false:=by simp [h1]
  have HE0:Hid (E=E2):=HE.out.trans (if_pos h1);have HV0:Hid (V=V2):=HV.out.trans (if_pos h1);have HA:=zZ (HA2.out h1 w2 _ HR2.out);clear h1 HA2 HE HV;go_wp2_with fail
  go_at_call 136
  refine HA.out.mono ?_;rintro e w3 ⟨v3,rfl,ho3,hb3⟩;have HO3:=zZ (gF HB2.out.size ho3);have HB3:=zZ (jf hp HB2.out hb3);obtain ⟨a3,c3,rfl,-,-⟩:=Am ho3;clear ho3 hb3 HA b0 b1 b2 b3 b4 b5 b6 b7;go_wp2;go_ret2;exact ⟨_,(by first|(rw [HE0.out];done)|(rw [HE0.out];rfl)),by rw [HV0.out];first|exact HO3.out|(rw [hp];exact HO3.out),by first|exact HB3.out|(rw [hp];exact HB3.out)⟩
 ·have n1:(E1 != 0)=true:=by simp [h1]
  have HE0:Hid (E=E1):=HE.out.trans (if_neg h1);have HV0:Hid (V=[]):=HV.out.trans (if_neg h1);clear h1 HA2 HE HV;go_wp2;go_ret2;exact ⟨.slice none 0 0,(by first|(rw [HE0.out];done)|(rw [HE0.out];rfl)),by rw [HV0.out];exact Ap _ _,by first|exact HB2.out|(rw [hp];exact HB2.out)⟩
end Ac
namespace Ac
open Go.RowKit
theorem Pm (w:World) (a b:Obj):Below w.heap.size w ((w.alloc a).alloc b):=jg (iU _ _) (iU _ _)
theorem MS (a b:Row) (w:World):Calls Tryz.prog 53 #[rwv a,rwv b] w fun e w'=>e=.returned (.bool (dR a b))/\Below w.heap.size w w':=by
 by_cases h1:a.year=b.year
 ·have n1:(a.year != b.year)=false:=by simp [h1]
  by_cases h2:a.Br=b.Br
  ·have e:dR a b=uY a.who b.who:=by unfold dR;rw [if_pos h1,if_pos h2]
   have e2:uY a.who b.who=Op.bytesLess (mk a.who).toList (mk b.who).toList:=by rw [xJ,xJ];rfl
   rw [e,e2];unfold rwv;rw [h2];clear h1 h2 e e2;generalize b.Br=F;cases F
   iterate 2
    ·go_enter Tryz.func53,Tryz.ntmps53
     go_wp2;go_ret;exact ⟨rfl,Pm _ _ _⟩
  ·have e:dR a b=b.Br:=by unfold dR;rw [if_pos h1,if_neg h2]
   rw [e];clear h1 e;cases hb:b.Br with
   | true =>
    have ha:a.Br=false:=by cases q:a.Br;rfl;rw [q,hb] at h2;exact absurd rfl h2
    unfold rwv;rw [ha,hb];clear h2;go_enter Tryz.func53,Tryz.ntmps53
    go_wp2;go_ret;exact ⟨rfl,Pm _ _ _⟩
   | false =>
    have ha:a.Br=true:=by cases q:a.Br;rw [q,hb] at h2;exact absurd rfl h2;rfl
    unfold rwv;rw [ha,hb];clear h2;go_enter Tryz.func53,Tryz.ntmps53
    go_wp2;go_ret;exact ⟨rfl,Pm _ _ _⟩
 ·have n1:(a.year != b.year)=true:=by simp [h1]
  have e:dR a b=decide (a.year < b.year):=by unfold dR;rw [if_neg h1]
  rw [e];clear h1 e;go_enter Tryz.func53,Tryz.ntmps53
  go_wp2;go_ret;exact ⟨rfl,Pm _ _ _⟩
theorem LU (m h:Int) (w:World) (h1:0<=m) (h2:m<=10000000000000) (h3:0<=h) (h4:h<=10000000000000):Calls Tryz.prog 99 #[iI m,iI h] w fun e w'=>e=.returned (iI (left m h))/\w'=w:=by
 by_cases hc:m<=h
 ·have e:left m h=0:=if_pos hc;rw [e];go_enter Tryz.func99,Tryz.ntmps99
  go_wp2;go_ret;exact ⟨rfl,rfl⟩
 ·have e:left m h=m - h:=if_neg hc;rw [e];go_enter Tryz.func99,Tryz.ntmps99
  go_wp2;go_ret;exact ⟨rfl,rfl⟩
theorem JL (l:List Row) (wh:Tx) (f:Bool) (y:Int) (v:Value) (w:World) (h:cu All w v l) (hl:l.length<=100000) :
  Calls Tryz.prog 16 #[v,.string (mk wh),.bool f,iI y] w fun e w'=>e=.returned (rwv (pU l wh f y))/\Below w.heap.size w w':=by
 have hb1:=iU w (.cells #[.string ⟨#[]⟩,.bool false,iI 0,iI 0,iI 0] TA);have HR:=zZ (heap_alloc_new w (.cells #[.string ⟨#[]⟩,.bool false,iI 0,iI 0,iI 0] TA));have HF:=zZ (h.Bu hb1);have HB:=zZ hb1;obtain ⟨fa,fk,rfl,hm1,hm2⟩:=h.form;obtain ⟨G,HG⟩:∃G,Hid (pU l wh f y=G):=⟨_,(rfl:pU l wh f y=_)⟩;have HG0:Hid (pU (l.drop 0) wh f y=G):=HG.out;rw [HG.out];clear h hb1 HG;go_enter Tryz.func16,Tryz.ntmps16
 go_upto_region 1 with fail
 generalize w.alloc (.cells #[.string ⟨#[]⟩,.bool false,iI 0,iI 0,iI 0] TA)=W at *;generalize hp:w.heap.size=p at *;go_wp2;go_loopg [9] (l.length) (fun g s9 wr=>∃k:Nat,s9=iI k/\k<=l.length/\l.length - k<=g/\wr=W/\Hid (pU (l.drop k) wh f y=G))
 case atStart=>exact ⟨0,rfl,Nat.zero_le _,by omega,rfl,HG0.out⟩
 case round =>
  obtain ⟨k,rfl,hk,hgk,hwr,HI⟩:=hrel;rw [hwr];clear HG0 hwr wr;by_cases hlt:k < l.length
  ·have hltz:(k:Int) < (l.length:Int):=by omega
   obtain ⟨b,oo,rfl,-,-,hc⟩:=cu.get HF.out k hlt;have HI2:Hid (G=if hit wh f y l[k]=true then l[k] else pU (l.drop (k+1)) wh f y):=HI.out.symm.trans (by rw [List.drop_eq_getElem_cons hlt];rfl);obtain ⟨x,HX⟩:∃x,Hid (l[k]=x):=⟨l[k],(rfl:l[k]=l[k])⟩;rw [HX.out] at HI2 hc;obtain ⟨x0,x1,x2,x3,x4⟩:=hc;clear HI HX;have HE:=xH x.who wh;by_cases c1:x.who=wh
   ·have q1:((mk x.who).toList == (mk wh).toList)=true:=by rw [HE];exact decide_eq_true c1
    have HI3:Hid (G=if x.Br=f/\x.year=y then x else pU (l.drop (k+1)) wh f y):=HI2.out.trans (by
     by_cases c:x.Br=f/\x.year=y
     ·rw [if_pos c,if_pos ((qN _ _ _ _).2 ⟨c1,c⟩)]
     ·rw [if_neg c,if_neg (fun e=>c ((qN _ _ _ _).1 e).2)])
    clear HI2 HE c1;by_cases c2:x.Br=f
    ·have q2:(x.Br == f)=true:=by simp [c2]
     by_cases c3:x.year=y
     ·have q3:(x.year == y)=true:=by simp [c3]
      have hG:G=x:=HI3.out.trans (if_pos ⟨c2,c3⟩);clear HI3 c2 c3;subst hG;obtain ⟨r0,r1,r2,r3,r4⟩:=cells5 HR.out;obtain ⟨t0,t1,t2,t3,t4⟩:=pO HR.out;have Cy:Hid ((((((W.setCell ⟨p,0,none⟩ (.string (mk G.who))).setCell ⟨p,1,none⟩ (.bool G.Br)).setCell ⟨p,2,none⟩ (iI G.year)).setCell ⟨p,3,none⟩ (iI G.de)).setCell ⟨p,4,none⟩ (iI G.oo)).heap[p]?=some (.cells #[.string (mk G.who),.bool G.Br,iI G.year,iI G.de,iI G.oo] TA (0,0))):=BO HR.out;have Cq:Hid (Below p w (((((W.setCell ⟨p,0,none⟩ (.string (mk G.who))).setCell ⟨p,1,none⟩ (.bool G.Br)).setCell ⟨p,2,none⟩ (iI G.year)).setCell ⟨p,3,none⟩ (iI G.de)).setCell ⟨p,4,none⟩ (iI G.oo))):=BN HB.out p (Nat.le_refl _) _ _ _ _ _;go_wp2;clear r0 r1 r2 r3 r4 t0 t1 t2 t3 t4 x0 x1 x2 x3 x4;generalize (((((W.setCell ⟨p,0,none⟩ (.string (mk G.who))).setCell ⟨p,1,none⟩ (.bool G.Br)).setCell ⟨p,2,none⟩ (iI G.year)).setCell ⟨p,3,none⟩ (iI G.de)).setCell ⟨p,4,none⟩ (iI G.oo))=WF at *;obtain ⟨r0,r1,r2,r3,r4⟩:=cells5 Cy.out;refine bodyPost_ret (v:=rwv G) (by simp [results,Tryz.results16,go_sem,r0,r1,r2,r3,r4]) rfl ?_;exact ⟨rfl,by first|exact Cq.out|(rw [hp];exact Cq.out)⟩
     ·have q3:(x.year == y)=false:=by simp [c3]
      have HI4:Hid (pU (l.drop (k+1)) wh f y=G):=(HI3.out.trans (if_neg fun c=>c3 c.2)).symm;clear HI3 c2 c3;go_wp2;go_roundg (l.length - (k+1))
      case measure=>omega
      case rel=>exact ⟨k+1,by first|rfl|go_num|(congr 1;omega),by omega,by omega,rfl,HI4.out⟩
    ·have q2:(x.Br == f)=false:=by simp [c2]
     have HI4:Hid (pU (l.drop (k+1)) wh f y=G):=(HI3.out.trans (if_neg fun c=>c2 c.1)).symm;clear HI3 c2;go_wp2;go_roundg (l.length - (k+1))
     case measure=>omega
     case rel=>exact ⟨k+1,by first|rfl|go_num|(congr 1;omega),by omega,by omega,rfl,HI4.out⟩
   ·have q1:((mk x.who).toList == (mk wh).toList)=false:=by rw [HE];exact decide_eq_false c1
    have HI4:Hid (pU (l.drop (k+1)) wh f y=G):=(HI2.out.trans (if_neg fun e=>c1 ((qN _ _ _ _).1 e).1)).symm;clear HI2 HE c1;go_wp2;go_roundg (l.length - (k+1))
    case measure=>omega
    case rel=>exact ⟨k+1,by first|rfl|go_num|(congr 1;omega),by omega,by omega,rfl,HI4.out⟩
  ·have hltz:¬ (k:Int) < (l.length:Int):=by omega
   have hG:G=⟨wh,f,y,0,0⟩:=HI.out.symm.trans (by rw [List.drop_eq_nil_of_le (by omega)];rfl);clear HI;subst hG;obtain ⟨r0,r1,r2,r3,r4⟩:=cells5 HR.out;obtain ⟨t0,t1,t2,t3,t4⟩:=pO HR.out;have Cy:Hid ((((((W.setCell ⟨p,0,none⟩ (.string (mk wh))).setCell ⟨p,1,none⟩ (.bool f)).setCell ⟨p,2,none⟩ (iI y)).setCell ⟨p,3,none⟩ (iI 0)).setCell ⟨p,4,none⟩ (iI 0)).heap[p]?=some (.cells #[.string (mk wh),.bool f,iI y,iI 0,iI 0] TA (0,0))):=BO HR.out;have Cq:Hid (Below p w (((((W.setCell ⟨p,0,none⟩ (.string (mk wh))).setCell ⟨p,1,none⟩ (.bool f)).setCell ⟨p,2,none⟩ (iI y)).setCell ⟨p,3,none⟩ (iI 0)).setCell ⟨p,4,none⟩ (iI 0))):=BN HB.out p (Nat.le_refl _) _ _ _ _ _;go_wp2;clear r0 r1 r2 r3 r4 t0 t1 t2 t3 t4;generalize (((((W.setCell ⟨p,0,none⟩ (.string (mk wh))).setCell ⟨p,1,none⟩ (.bool f)).setCell ⟨p,2,none⟩ (iI y)).setCell ⟨p,3,none⟩ (iI 0)).setCell ⟨p,4,none⟩ (iI 0))=WF at *;obtain ⟨r0,r1,r2,r3,r4⟩:=cells5 Cy.out;refine bodyPost_ret (v:=.agg #[.string (mk wh),.bool f,iI y,iI 0,iI 0]) (by simp [results,Tryz.results16,go_sem,r0,r1,r2,r3,r4]) rfl ?_;exact ⟨rfl,by first|exact Cq.out|(rw [hp];exact Cq.out)⟩
end Ac
end Go.Proofs.YtfbfeoplldjbpaaGreatDoor
