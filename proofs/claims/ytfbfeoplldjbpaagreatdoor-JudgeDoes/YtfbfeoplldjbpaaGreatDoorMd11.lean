/-
  Texts put together (merge.py): YRoom, YRRoom, PMem, PCode.
-/
import Derived.Test.YtfbfeoplldjbpaaGreatDoorMd10
set_option linter.unusedSimpArgs false
set_option linter.unusedVariables false
set_option maxHeartbeats 16000000
set_option maxRecDepth 100000
namespace Go.Proofs.YtfbfeoplldjbpaaGreatDoor
namespace Ac
open Go.RowKit
theorem six {w:World} {q:Nat} {a0 a1 a2 a3 a4 a5:Value} {T:TypeId} (h:w.heap[q]?=some (.cells #[a0,a1,a2,a3,a4,a5] T (0,0))):w.cell? ⟨q,0,none⟩=some a0/\w.cell? ⟨q,1,none⟩=some a1/\w.cell? ⟨q,2,none⟩=some a2/\w.cell? ⟨q,3,none⟩=some a3/\w.cell? ⟨q,4,none⟩=some a4/\w.cell? ⟨q,5,none⟩=some a5:=by
 refine ⟨?_,?_,?_,?_,?_,?_⟩<;>rw [cell_of_row w q _ _ T (0,0) h]<;>rfl
def In (a:Int):Prop:=0<=a/\a<=10000000000000
theorem Gs (m h:Int) (h1:In m) (h2:In h):Ce.Gm m h=left m h:=by
 obtain ⟨a,b⟩:=h1;obtain ⟨c,d⟩:=h2;have g1:Ce.good m=true:=(Ce.ql m).2 ⟨a,b⟩;have g2:Ce.good h=true:=(Ce.ql h).2 ⟨c,d⟩;unfold Ce.Gm left;by_cases hc:m<=h
 ·rw [if_pos hc];by_cases he:h<=m
  ·simp [g1,g2,he];omega
  ·simp [g1,g2,he]
 ·rw [if_neg hc];have he:h<=m:=by omega
  simp [g1,g2,he]
theorem uT (m h:Int) (w:World) (h1:In m) (h2:In h):Calls Tryz.prog 130 #[iI m,iI h] w fun e w'=>e=.returned (iI (left m h))/\w'=w:=by
 rw [←Gs m h h1 h2];go_enter Tryz.func130,Tryz.ntmps130
 go_wp2_with (go_at_call 122;refine (Ce.Gp _ _ _).mono ?_;rintro e w' ⟨rfl,rfl⟩)
 go_ret;exact ⟨rfl,rfl⟩
theorem xA (a b:Int):min a b=Sh.least a b:=by
 unfold Sh.least;split<;>omega
theorem pY {l:List Row} (h:Ok l) (wh:Tx) (f:Bool) (y:Int):In (pU l wh f y).de/\In (pU l wh f y).oo:=by
 have:=qc h wh f y;unfold In;omega
theorem DV (md id fd io fo:Int) (ra:Option Addr) (rn rcp:Nat) (l:List Row) (m f:Tx) (y:Int) (v:Value) (w:World) (h:cu All w v l) (hl:l.length<=10000) (hO:Ok l) (i1:In id) (i2:In fd) (i3:In io) (i4:In fo) :
  Calls Tryz.prog 89 #[.agg #[iI md,iI id,iI fd,iI io,iI fo,.slice ra rn rcp],v,sS m,sS f,iI y] w fun e w'=>e=.returned (.tuple #[iI (DU md id fd (pU l m false y).de (pU l f true y).de),iI (DU md io fo (pU l m false y).oo (pU l f true y).oo)])/\Below w.heap.size w w':=by
 obtain ⟨fgd,fgo,hG⟩:=pV l f true y;obtain ⟨mgd,mgo,hM⟩:=pV l m false y;have a1:=pY hO f true y;have a2:=pY hO m false y;rw [hG] at a1;rw [hM] at a2;simp only at a1 a2;have hb0:=iU w (.cells #[iI md,iI id,iI fd,iI io,iI fo,.slice ra rn rcp] 24);have HX:=zZ (heap_alloc_new w (.cells #[iI md,iI id,iI fd,iI io,iI fo,.slice ra rn rcp] 24));have HB:=zZ hb0;have HGet:Hid (∀W,Below w.heap.size w W->Calls Tryz.prog 131 #[v,sS f,.bool true,iI y] W fun e w'=>e=.returned (.agg #[sS f,.bool true,iI y,iI fgd,iI fgo])/\Below W.heap.size W w'):=fun W hW=>by
  have hq:=bX l f true y v W ((Em h).move (Below.yu hW)).all (by omega) hO.up;rw [hG] at hq;exact hq
 have HGem:Hid (∀W,Below w.heap.size w W->Calls Tryz.prog 131 #[v,sS m,.bool false,iI y] W fun e w'=>e=.returned (.agg #[sS m,.bool false,iI y,iI mgd,iI mgo])/\Below W.heap.size W w'):=fun W hW=>by
  have hq:=bX l m false y v W ((Em h).move (Below.yu hW)).all (by omega) hO.up;rw [hM] at hq;exact hq
 have HL1:=zZ fun W=>uT fd fgd W i2 a1.1;have HL2:=zZ fun W=>uT fo fgo W i4 a1.2;have HL3:=zZ fun W=>uT id mgd W i1 a2.1;have HL4:=zZ fun W=>uT io mgo W i3 a2.2;rw [hG,hM];simp only;obtain ⟨fa,fk,rfl,hm1,hm2⟩:=h.form;have HV1:Hid (DU md id fd mgd fgd=if md=0 then Sh.least (left fd fgd) (left id mgd) else left fd fgd):=(rfl:DU md id fd mgd fgd=_);have HV2:Hid (DU md io fo mgo fgo=if md=0 then Sh.least (left fo fgo) (left io mgo) else left fo fgo):=(rfl:DU md io fo mgo fgo=_);generalize DU md id fd mgd fgd=V1 at *;generalize DU md io fo mgo fgo=V2 at *;generalize left fd fgd=L1 at *;generalize left fo fgo=L2 at *;generalize left id mgd=L3 at *;generalize left io mgo=L4 at *;clear h hO hG hM hb0 a1 a2 i1 i2 i3 i4;go_enter Tryz.func89,Tryz.ntmps89
 go_upto_region 1 with fail
 generalize w.alloc (.cells #[iI md,iI id,iI fd,iI io,iI fo,.slice ra rn rcp] 24)=W at *;generalize hp:w.heap.size=p at *;go_wp2_with fail
 go_at_call 131
 refine (HGet.out W HB.out).mono ?_;rintro e w1 ⟨rfl,hb1⟩;have Cz:=zZ (tV HX.out (jg hb1 (iU w1 (.cells #[sS f,.bool true,iI y,iI fgd,iI fgo] TA))));have HZ1:=zZ (heap_alloc_new w1 (.cells #[sS f,.bool true,iI y,iI fgd,iI fgo] TA));have HB1:=zZ (jf hp HB.out (jg hb1 (iU w1 (.cells #[sS f,.bool true,iI y,iI fgd,iI fgo] TA))));clear hb1 HGet HX HB;go_upto_region 3 with fail
 generalize w1.alloc (.cells #[sS f,.bool true,iI y,iI fgd,iI fgo] TA)=W1 at *;generalize w1.heap.size=q at *;have Bt:=zZ fun W' (hW:Below W1.heap.size W1 W')=>And.intro (six (tV Cz.out hW)) (cells5 (tV HZ1.out hW));have HD:=zZ (Below.drew (Below.refl W1.heap.size W1));refine Ri.IY (by kernel_rfl) (by kernel_rfl) (by kernel_rfl) (fun Wx=>Below W1.heap.size W1 Wx) (fun kz vs wz=>(fun kx vx wx=>match kx with|0=>vx=.func (.func 130) #[] #[]|1=>vx=pP p 2|2=>vx=iI fd|3=>vx=pP q 3|4=>vx=iI fgd|5=>vx=iI L1|6=>vx=.func (.func 130) #[] #[]|7=>vx=pP p 4|8=>vx=iI fo|9=>vx=pP q 4|10=>vx=iI fgo|11=>vx=iI L2|12=>vx=iI L1|13=>vx=iI L2|_=>True:Nat->Value->World->Prop) kz (vs kz) wz) (fun kz=>[kz]) (by kernel_rfl) (fun jz vs iz vz wz hiz hz=>Ri.wI (F:=(fun kx vx wx=>match kx with|0=>vx=.func (.func 130) #[] #[]|1=>vx=pP p 2|2=>vx=iI fd|3=>vx=pP q 3|4=>vx=iI fgd|5=>vx=iI L1|6=>vx=.func (.func 130) #[] #[]|7=>vx=pP p 4|8=>vx=iI fo|9=>vx=pP q 4|10=>vx=iI fgo|11=>vx=iI L2|12=>vx=iI L1|13=>vx=iI L2|_=>True:Nat->Value->World->Prop)) jz vs iz vz wz hiz hz) HD.out ⟨⟨rfl,?_⟩,⟨rfl,?_⟩,⟨rfl,?_⟩,⟨rfl,?_⟩,⟨rfl,?_⟩,⟨rfl,?_⟩,⟨rfl,?_⟩,⟨rfl,?_⟩,⟨rfl,?_⟩,⟨rfl,?_⟩,⟨rfl,?_⟩,⟨rfl,?_⟩,⟨rfl,?_⟩,⟨rfl,?_⟩,trivial⟩ ?_
 ·intro vs Wx A hA hB hpre K hK;have e12:=(hA 12).trans (show _=Value.func (.func 130) #[] #[] by kernel_rfl);clear hA hpre;go_simp;exact hK _ _ hB rfl (fun _ _ h=>h)
 ·intro vs Wx A hA hB hpre K hK;have e5:=(hA 5).trans (show _=pP p 0 by kernel_rfl);clear hA hpre;go_simp;exact hK _ _ hB rfl (fun _ _ h=>h)
 ·intro vs Wx A hA hB hpre K hK;have e22:=tT (hA 22) (by kernel_rfl) (hpre.1 rfl);obtain ⟨⟨x0,x1,x2,x3,x4,x5⟩,⟨y0,y1,y2,y3,y4⟩⟩:=Bt.out Wx hB;clear hA hpre;go_simp;exact hK _ _ hB rfl (fun _ _ h=>h)
 ·intro vs Wx A hA hB hpre K hK;have e13:=(hA 13).trans (show _=pP q 0 by kernel_rfl);clear hA hpre;go_simp;exact hK _ _ hB rfl (fun _ _ h=>h)
 ·intro vs Wx A hA hB hpre K hK;have e24:=tT (hA 24) (by kernel_rfl) (hpre.1 rfl);obtain ⟨⟨x0,x1,x2,x3,x4,x5⟩,⟨y0,y1,y2,y3,y4⟩⟩:=Bt.out Wx hB;clear hA hpre;go_simp;exact hK _ _ hB rfl (fun _ _ h=>h)
 ·intro vs Wx A hA hB hpre K hK;have e21:=tT (hA 21) (by kernel_rfl) (hpre.1 rfl);have e23:=tT (hA 23) (by kernel_rfl) (hpre.2.1 rfl);have e25:=tT (hA 25) (by kernel_rfl) (hpre.2.2.1 rfl);clear hA hpre;go_simp;go_at_call 130
  refine (HL1.out _).mono ?_;rintro e w3 ⟨rfl,hw⟩;rw [hw];exact hK _ _ hB rfl (fun _ _ h=>h)
 ·intro vs Wx A hA hB hpre K hK;have e12:=(hA 12).trans (show _=Value.func (.func 130) #[] #[] by kernel_rfl);clear hA hpre;go_simp;exact hK _ _ hB rfl (fun _ _ h=>h)
 ·intro vs Wx A hA hB hpre K hK;have e5:=(hA 5).trans (show _=pP p 0 by kernel_rfl);clear hA hpre;go_simp;exact hK _ _ hB rfl (fun _ _ h=>h)
 ·intro vs Wx A hA hB hpre K hK;have e28:=tT (hA 28) (by kernel_rfl) (hpre.1 rfl);obtain ⟨⟨x0,x1,x2,x3,x4,x5⟩,⟨y0,y1,y2,y3,y4⟩⟩:=Bt.out Wx hB;clear hA hpre;go_simp;exact hK _ _ hB rfl (fun _ _ h=>h)
 ·intro vs Wx A hA hB hpre K hK;have e13:=(hA 13).trans (show _=pP q 0 by kernel_rfl);clear hA hpre;go_simp;exact hK _ _ hB rfl (fun _ _ h=>h)
 ·intro vs Wx A hA hB hpre K hK;have e30:=tT (hA 30) (by kernel_rfl) (hpre.1 rfl);obtain ⟨⟨x0,x1,x2,x3,x4,x5⟩,⟨y0,y1,y2,y3,y4⟩⟩:=Bt.out Wx hB;clear hA hpre;go_simp;exact hK _ _ hB rfl (fun _ _ h=>h)
 ·intro vs Wx A hA hB hpre K hK;have e27:=tT (hA 27) (by kernel_rfl) (hpre.1 rfl);have e29:=tT (hA 29) (by kernel_rfl) (hpre.2.1 rfl);have e31:=tT (hA 31) (by kernel_rfl) (hpre.2.2.1 rfl);clear hA hpre;go_simp;go_at_call 130
  refine (HL2.out _).mono ?_;rintro e w3 ⟨rfl,hw⟩;rw [hw];exact hK _ _ hB rfl (fun _ _ h=>h)
 ·intro vs Wx A hA hB hpre K hK;have e26:=tT (hA 26) (by kernel_rfl) (hpre.1 rfl);clear hA hpre;go_simp;exact hK _ _ hB rfl (fun _ _ h=>h)
 ·intro vs Wx A hA hB hpre K hK;have e32:=tT (hA 32) (by kernel_rfl) (hpre.1 rfl);clear hA hpre;go_simp;exact hK _ _ hB rfl (fun _ _ h=>h)
 ·intro vs Wx hB hF;have hL1:vs 12=iI L1:=hF 12 (by decide);have hL2:vs 13=iI L2:=hF 13 (by decide);have HB2:=zZ (jf hp HB1.out hB);have HX2:=zZ (tV Cz.out hB);clear hF hB Bt HD Cz HZ1 HB1 HL1 HL2;simp only [Ri.puts];rw [hL1,hL2];clear hL1 hL2;obtain ⟨x0,x1,x2,x3,x4,x5⟩:=six HX2.out;go_simp;by_cases h0:md=0
  ·have n0:(md != 0)=false:=by simp [h0]
   have HV3:Hid (V1=Sh.least L1 L3):=HV1.out.trans (if_pos h0);have HV4:Hid (V2=Sh.least L2 L4):=HV2.out.trans (if_pos h0);clear HV1 HV2 h0;go_wp2_with fail
   go_at_call 131
   refine (HGem.out Wx HB2.out).mono ?_;rintro e w3 ⟨rfl,hb3⟩;have CK:=zZ (tV HX2.out (jg hb3 (iU w3 (.cells #[sS m,.bool false,iI y,iI mgd,iI mgo] TA))));have HZ3:=zZ (heap_alloc_new w3 (.cells #[sS m,.bool false,iI y,iI mgd,iI mgo] TA));have HB3:=zZ (jf hp HB2.out (jg hb3 (iU w3 (.cells #[sS m,.bool false,iI y,iI mgd,iI mgo] TA))));clear hb3 HGem HX2 HB2 x0 x1 x2 x3 x4 x5;go_upto_region 7 with fail
   generalize w3.alloc (.cells #[sS m,.bool false,iI y,iI mgd,iI mgo] TA)=W3 at *;generalize w3.heap.size=r at *;have Bt:=zZ fun W' (hW:Below W3.heap.size W3 W')=>And.intro (six (tV CK.out hW)) (cells5 (tV HZ3.out hW));have HD:=zZ (Below.drew (Below.refl W3.heap.size W3));have hmn1:min L1 L3=Sh.least L1 L3:=xA L1 L3;have hmn2:min L2 L4=Sh.least L2 L4:=xA L2 L4;generalize Sh.least L1 L3=M1 at *;generalize Sh.least L2 L4=M2 at *;refine Ri.IY (by kernel_rfl) (by kernel_rfl) (by kernel_rfl) (fun Wx=>Below W3.heap.size W3 Wx) (fun kz vs wz=>(fun kx vx wx=>match kx with|0=>vx=iI L1|1=>vx=.func (.func 130) #[] #[]|2=>vx=pP p 1|3=>vx=iI id|4=>vx=pP r 3|5=>vx=iI mgd|6=>vx=iI L3|7=>vx=iI M1|8=>vx=iI L2|9=>vx=.func (.func 130) #[] #[]|10=>vx=pP p 3|11=>vx=iI io|12=>vx=pP r 4|13=>vx=iI mgo|14=>vx=iI L4|15=>vx=iI M2|16=>vx=iI M1|17=>vx=iI M2|_=>True:Nat->Value->World->Prop) kz (vs kz) wz) (fun kz=>[kz]) (by kernel_rfl) (fun jz vs iz vz wz hiz hz=>Ri.wI (F:=(fun kx vx wx=>match kx with|0=>vx=iI L1|1=>vx=.func (.func 130) #[] #[]|2=>vx=pP p 1|3=>vx=iI id|4=>vx=pP r 3|5=>vx=iI mgd|6=>vx=iI L3|7=>vx=iI M1|8=>vx=iI L2|9=>vx=.func (.func 130) #[] #[]|10=>vx=pP p 3|11=>vx=iI io|12=>vx=pP r 4|13=>vx=iI mgo|14=>vx=iI L4|15=>vx=iI M2|16=>vx=iI M1|17=>vx=iI M2|_=>True:Nat->Value->World->Prop)) jz vs iz vz wz hiz hz) HD.out ⟨⟨rfl,?_⟩,⟨rfl,?_⟩,⟨rfl,?_⟩,⟨rfl,?_⟩,⟨rfl,?_⟩,⟨rfl,?_⟩,⟨rfl,?_⟩,⟨rfl,?_⟩,⟨rfl,?_⟩,⟨rfl,?_⟩,⟨rfl,?_⟩,⟨rfl,?_⟩,⟨rfl,?_⟩,⟨rfl,?_⟩,⟨rfl,?_⟩,⟨rfl,?_⟩,⟨rfl,?_⟩,⟨rfl,?_⟩,trivial⟩ ?_
   ·intro vs Wx A hA hB hpre K hK;have e14:=(hA 14).trans (show _=iI L1 by kernel_rfl);clear hA hpre;go_simp;exact hK _ _ hB rfl (fun _ _ h=>h)
   ·intro vs Wx A hA hB hpre K hK;have e12:=(hA 12).trans (show _=Value.func (.func 130) #[] #[] by kernel_rfl);clear hA hpre;go_simp;exact hK _ _ hB rfl (fun _ _ h=>h)
   ·intro vs Wx A hA hB hpre K hK;have e5:=(hA 5).trans (show _=pP p 0 by kernel_rfl);clear hA hpre;go_simp;exact hK _ _ hB rfl (fun _ _ h=>h)
   ·intro vs Wx A hA hB hpre K hK;have e44:=tT (hA 44) (by kernel_rfl) (hpre.1 rfl);obtain ⟨⟨x0,x1,x2,x3,x4,x5⟩,⟨y0,y1,y2,y3,y4⟩⟩:=Bt.out Wx hB;clear hA hpre;go_simp;exact hK _ _ hB rfl (fun _ _ h=>h)
   ·intro vs Wx A hA hB hpre K hK;have e16:=(hA 16).trans (show _=pP r 0 by kernel_rfl);clear hA hpre;go_simp;exact hK _ _ hB rfl (fun _ _ h=>h)
   ·intro vs Wx A hA hB hpre K hK;have e46:=tT (hA 46) (by kernel_rfl) (hpre.1 rfl);obtain ⟨⟨x0,x1,x2,x3,x4,x5⟩,⟨y0,y1,y2,y3,y4⟩⟩:=Bt.out Wx hB;clear hA hpre;go_simp;exact hK _ _ hB rfl (fun _ _ h=>h)
   ·intro vs Wx A hA hB hpre K hK;have e43:=tT (hA 43) (by kernel_rfl) (hpre.1 rfl);have e45:=tT (hA 45) (by kernel_rfl) (hpre.2.1 rfl);have e47:=tT (hA 47) (by kernel_rfl) (hpre.2.2.1 rfl);clear hA hpre;go_simp;go_at_call 130
    refine (HL3.out _).mono ?_;rintro e w3 ⟨rfl,hw⟩;rw [hw];exact hK _ _ hB rfl (fun _ _ h=>h)
   ·intro vs Wx A hA hB hpre K hK;have e42:=tT (hA 42) (by kernel_rfl) (hpre.1 rfl);have e48:=tT (hA 48) (by kernel_rfl) (hpre.2.1 rfl);clear hA hpre;go_simp;exact hK _ _ hB rfl (fun _ _ h=>h)
   ·intro vs Wx A hA hB hpre K hK;have e15:=(hA 15).trans (show _=iI L2 by kernel_rfl);clear hA hpre;go_simp;exact hK _ _ hB rfl (fun _ _ h=>h)
   ·intro vs Wx A hA hB hpre K hK;have e12:=(hA 12).trans (show _=Value.func (.func 130) #[] #[] by kernel_rfl);clear hA hpre;go_simp;exact hK _ _ hB rfl (fun _ _ h=>h)
   ·intro vs Wx A hA hB hpre K hK;have e5:=(hA 5).trans (show _=pP p 0 by kernel_rfl);clear hA hpre;go_simp;exact hK _ _ hB rfl (fun _ _ h=>h)
   ·intro vs Wx A hA hB hpre K hK;have e52:=tT (hA 52) (by kernel_rfl) (hpre.1 rfl);obtain ⟨⟨x0,x1,x2,x3,x4,x5⟩,⟨y0,y1,y2,y3,y4⟩⟩:=Bt.out Wx hB;clear hA hpre;go_simp;exact hK _ _ hB rfl (fun _ _ h=>h)
   ·intro vs Wx A hA hB hpre K hK;have e16:=(hA 16).trans (show _=pP r 0 by kernel_rfl);clear hA hpre;go_simp;exact hK _ _ hB rfl (fun _ _ h=>h)
   ·intro vs Wx A hA hB hpre K hK;have e54:=tT (hA 54) (by kernel_rfl) (hpre.1 rfl);obtain ⟨⟨x0,x1,x2,x3,x4,x5⟩,⟨y0,y1,y2,y3,y4⟩⟩:=Bt.out Wx hB;clear hA hpre;go_simp;exact hK _ _ hB rfl (fun _ _ h=>h)
   ·intro vs Wx A hA hB hpre K hK;have e51:=tT (hA 51) (by kernel_rfl) (hpre.1 rfl);have e53:=tT (hA 53) (by kernel_rfl) (hpre.2.1 rfl);have e55:=tT (hA 55) (by kernel_rfl) (hpre.2.2.1 rfl);clear hA hpre;go_simp;go_at_call 130
    refine (HL4.out _).mono ?_;rintro e w3 ⟨rfl,hw⟩;rw [hw];exact hK _ _ hB rfl (fun _ _ h=>h)
   ·intro vs Wx A hA hB hpre K hK;have e50:=tT (hA 50) (by kernel_rfl) (hpre.1 rfl);have e56:=tT (hA 56) (by kernel_rfl) (hpre.2.1 rfl);clear hA hpre;go_simp;exact hK _ _ hB rfl (fun _ _ h=>h)
   ·intro vs Wx A hA hB hpre K hK;have e49:=tT (hA 49) (by kernel_rfl) (hpre.1 rfl);clear hA hpre;go_simp;exact hK _ _ hB rfl (fun _ _ h=>h)
   ·intro vs Wx A hA hB hpre K hK;have e57:=tT (hA 57) (by kernel_rfl) (hpre.1 rfl);clear hA hpre;go_simp;exact hK _ _ hB rfl (fun _ _ h=>h)
   ·intro vs Wy hB hF;have hL1:vs 16=iI M1:=hF 16 (by decide);have hL2:vs 17=iI M2:=hF 17 (by decide);have HB4:=zZ (jf hp HB3.out hB);clear hF hB;simp only [Ri.puts];rw [hL1,hL2];clear hL1 hL2;go_simp;go_wp2_with fail
    go_ret2;exact ⟨by first|(rw [HV3.out,HV4.out];done)|(rw [HV3.out,HV4.out];rfl),by first|exact HB4.out|(rw [hp];exact HB4.out)⟩
  ·have n0:(md != 0)=true:=by simp [h0]
   have HV3:Hid (V1=L1):=HV1.out.trans (if_neg h0);have HV4:Hid (V2=L2):=HV2.out.trans (if_neg h0);clear HV1 HV2 h0;go_wp2;go_ret2;exact ⟨by first|(rw [HV3.out,HV4.out];done)|(rw [HV3.out,HV4.out];rfl),by first|exact HB2.out|(rw [hp];exact HB2.out)⟩
end Ac
namespace Ac
open Go.RowKit
open Sh (Ot member)
theorem Ns (l:List Row) (m f:Tx) (y:Int) (o:Ot) (v:Value) (w:World) (h:cu All w v l) (hl:l.length<=9000) (hs:Small o) :
  Calls Tryz.prog 61 #[v,sS m,sS f,iI y,.agg #[iI o.al,iI o.de,iI o.cp,iI o.cn,iI o.plan,iI o.wr,iI o.pr,iI o.deny]] w fun e w'=>∃v',e=.returned (.tuple #[v',iI (jF l m f y o)])/\Own w.heap.size w' v' (jG l m f y o)/\Below w.heap.size w w':=by
 obtain ⟨⟨h1,h2⟩,⟨h3,h4⟩,⟨h5,h6⟩⟩:=hs;have HB:=zZ (iU w (.cells #[iI o.al,iI o.de,iI o.cp,iI o.cn,iI o.plan,iI o.wr,iI o.pr,iI o.deny] 45));have HX:=zZ (fK w #[iI o.al,iI o.de,iI o.cp,iI o.cn,iI o.plan,iI o.wr,iI o.pr,iI o.deny] 45);have HRlo:Hid (∀W,Below w.heap.size w W->cu All W v l):=fun W hW=>((Em h).move (Below.yu hW)).all;have HA1:Hid (∀W,cu All W v l->Calls Tryz.prog 102 #[v,sS m,.bool false,iI y,iI o.de,iI (o.de+o.cp+o.cn)] W fun e w'=>∃v',e=.returned (.tuple #[v',iI (dJ l m false y o.de (member o))])/\Own W.heap.size w' v' (dM l m false y o.de (member o))/\Below W.heap.size W w'):=fun W hW=>MR l m false y o.de (member o) v W hW (by omega);have HA2:Hid (∀W v2,cu All W v2 (dM l m false y o.de (member o))->Calls Tryz.prog 102 #[v2,sS f,.bool true,iI y,iI o.de,iI (o.de+o.cp+o.cn)] W fun e w'=>∃v',e=.returned (.tuple #[v',iI (dJ (dM l m false y o.de (member o)) f true y o.de (member o))])/\Own W.heap.size w' v' (dM (dM l m false y o.de (member o)) f true y o.de (member o))/\Below W.heap.size W w'):=fun W v2 hW =>
  MR _ f true y o.de (member o) v2 W hW (by have:=dN l m false y o.de (member o);omega)
 obtain ⟨fa,fk,rfl,hm1,hm2⟩:=h.form;have HE:Hid (jF l m f y o=if dJ l m false y o.de (member o)=0 then dJ (dM l m false y o.de (member o)) f true y o.de (member o) else dJ l m false y o.de (member o)):=(rfl:jF l m f y o=_);have HV:Hid (jG l m f y o=if dJ l m false y o.de (member o)=0 then dM (dM l m false y o.de (member o)) f true y o.de (member o) else []):=(rfl:jG l m f y o=_);generalize jF l m f y o=E at *;generalize jG l m f y o=V at *;generalize dM (dM l m false y o.de (member o)) f true y o.de (member o)=V2 at *;generalize dJ (dM l m false y o.de (member o)) f true y o.de (member o)=E2 at *;generalize dM l m false y o.de (member o)=V1 at *;generalize dJ l m false y o.de (member o)=E1 at *;clear h;go_enter Tryz.func61,Tryz.ntmps61
 go_upto_region 1 with fail
 generalize w.alloc (.cells #[iI o.al,iI o.de,iI o.cp,iI o.cn,iI o.plan,iI o.wr,iI o.pr,iI o.deny] 45)=W at *;generalize hp:w.heap.size=p at *;obtain ⟨b0,b1,b2,b3,b4,b5,b6,b7⟩:=eight HX.out;go_wp2_with fail
 go_at_call 102
 refine (HA1.out W (HRlo.out W HB.out)).mono ?_;rintro e w2 ⟨v2,rfl,ho2,hb2⟩;have HB2:=zZ (jf hp HB.out hb2);have HX2:=zZ (tV HX.out hb2);have HR2:=zZ (Eo (K:=All) ho2 fun _ _=>trivial);obtain ⟨a2,c2,rfl,hm3,hm4⟩:=Am ho2;clear ho2 hb2 b0 b1 b2 b3 b4 b5 b6 b7 HX HB HA1 HRlo;obtain ⟨b0,b1,b2,b3,b4,b5,b6,b7⟩:=eight HX2.out;by_cases h1:E1=0
 ·have n1:(E1 != 0)=false:=by simp [h1]
  have HE0:Hid (E=E2):=HE.out.trans (if_pos h1);have HV0:Hid (V=V2):=HV.out.trans (if_pos h1);have HA:=zZ (HA2.out w2 _ HR2.out);clear h1 HA2 HE HV;go_wp2_with fail
  go_at_call 102
  refine HA.out.mono ?_;rintro e w3 ⟨v3,rfl,ho3,hb3⟩;have HO3:=zZ (gF HB2.out.size ho3);have HB3:=zZ (jf hp HB2.out hb3);obtain ⟨a3,c3,rfl,-,-⟩:=Am ho3;clear ho3 hb3 HA b0 b1 b2 b3 b4 b5 b6 b7;go_wp2;go_ret2;exact ⟨_,(by first|(rw [HE0.out];done)|(rw [HE0.out];rfl)),by rw [HV0.out];first|exact HO3.out|(rw [hp];exact HO3.out),by first|exact HB3.out|(rw [hp];exact HB3.out)⟩
 ·have n1:(E1 != 0)=true:=by simp [h1]
  have HE0:Hid (E=E1):=HE.out.trans (if_neg h1);have HV0:Hid (V=[]):=HV.out.trans (if_neg h1);clear h1 HA2 HE HV;go_wp2;go_ret2;exact ⟨.slice none 0 0,(by first|(rw [HE0.out];done)|(rw [HE0.out];rfl)),by rw [HV0.out];exact Ap _ _,by first|exact HB2.out|(rw [hp];exact HB2.out)⟩
theorem OG (md id fd io fo:Int) (ra:Option Addr) (rn rcp:Nat) (l:List Row) (m f:Tx) (y:Int) (v:Value) (w:World) (h:cu All w v l) (hl:l.length<=10000) (hO:Ok l) (i1:In id) (i2:In fd) (i3:In io) (i4:In fo) :
  Calls Tryz.prog 58 #[.agg #[iI md,iI id,iI fd,iI io,iI fo,.slice ra rn rcp],v,sS m,sS f,iI y] w fun e w'=>e=.returned (.tuple #[iI (DU md id fd (pU l m false y).de (pU l f true y).de),iI (DU md io fo (pU l m false y).oo (pU l f true y).oo)])/\Below w.heap.size w w':=by
 obtain ⟨fgd,fgo,hG⟩:=pV l f true y;obtain ⟨mgd,mgo,hM⟩:=pV l m false y;have a1:=pY hO f true y;have a2:=pY hO m false y;rw [hG] at a1;rw [hM] at a2;simp only at a1 a2;have hb0:=iU w (.cells #[iI md,iI id,iI fd,iI io,iI fo,.slice ra rn rcp] 24);have HX:=zZ (heap_alloc_new w (.cells #[iI md,iI id,iI fd,iI io,iI fo,.slice ra rn rcp] 24));have HB:=zZ hb0;have HGet:Hid (∀W,Below w.heap.size w W->Calls Tryz.prog 16 #[v,sS f,.bool true,iI y] W fun e w'=>e=.returned (.agg #[sS f,.bool true,iI y,iI fgd,iI fgo])/\Below W.heap.size W w'):=fun W hW=>by
  have hq:=JL l f true y v W ((Em h).move (Below.yu hW)).all (by omega);rw [hG] at hq;exact hq
 have HGem:Hid (∀W,Below w.heap.size w W->Calls Tryz.prog 16 #[v,sS m,.bool false,iI y] W fun e w'=>e=.returned (.agg #[sS m,.bool false,iI y,iI mgd,iI mgo])/\Below W.heap.size W w'):=fun W hW=>by
  have hq:=JL l m false y v W ((Em h).move (Below.yu hW)).all (by omega);rw [hM] at hq;exact hq
 have HL1:=zZ fun W=>LU fd fgd W i2.1 i2.2 a1.1.1 a1.1.2;have HL2:=zZ fun W=>LU fo fgo W i4.1 i4.2 a1.2.1 a1.2.2;have HL3:=zZ fun W=>LU id mgd W i1.1 i1.2 a2.1.1 a2.1.2;have HL4:=zZ fun W=>LU io mgo W i3.1 i3.2 a2.2.1 a2.2.2;rw [hG,hM];simp only;obtain ⟨fa,fk,rfl,hm1,hm2⟩:=h.form;have HV1:Hid (DU md id fd mgd fgd=if md=0 then (if left id mgd < left fd fgd then left id mgd else left fd fgd) else left fd fgd):=(rfl:DU md id fd mgd fgd=_);have HV2:Hid (DU md io fo mgo fgo=if md=0 then (if left io mgo < left fo fgo then left io mgo else left fo fgo) else left fo fgo):=(rfl:DU md io fo mgo fgo=_);generalize DU md id fd mgd fgd=V1 at *;generalize DU md io fo mgo fgo=V2 at *;generalize left fd fgd=L1 at *;generalize left fo fgo=L2 at *;generalize left id mgd=L3 at *;generalize left io mgo=L4 at *;clear h hO hG hM hb0 a1 a2 i1 i2 i3 i4;go_enter Tryz.func58,Tryz.ntmps58
 go_upto_region 1 with fail
 generalize w.alloc (.cells #[iI md,iI id,iI fd,iI io,iI fo,.slice ra rn rcp] 24)=W at *;generalize hp:w.heap.size=p at *;go_wp2_with fail
 go_at_call 16
 refine (HGet.out W HB.out).mono ?_;rintro e w1 ⟨rfl,hb1⟩;have Cz:=zZ (tV HX.out (jg hb1 (iU w1 (.cells #[sS f,.bool true,iI y,iI fgd,iI fgo] TA))));have HZ1:=zZ (heap_alloc_new w1 (.cells #[sS f,.bool true,iI y,iI fgd,iI fgo] TA));have HB1:=zZ (jf hp HB.out (jg hb1 (iU w1 (.cells #[sS f,.bool true,iI y,iI fgd,iI fgo] TA))));clear hb1 HGet HX HB;go_upto_region 2 with fail
 generalize w1.alloc (.cells #[sS f,.bool true,iI y,iI fgd,iI fgo] TA)=W1 at *;generalize w1.heap.size=q at *;go_wp2_with fail
 go_at_call 16
 refine (HGem.out W1 HB1.out).mono ?_;rintro e w3 ⟨rfl,hb3⟩;have CK:=zZ (tV Cz.out (jg hb3 (iU w3 (.cells #[sS m,.bool false,iI y,iI mgd,iI mgo] TA))));have HQ3:=zZ (tV HZ1.out (jg hb3 (iU w3 (.cells #[sS m,.bool false,iI y,iI mgd,iI mgo] TA))));have HZ3:=zZ (heap_alloc_new w3 (.cells #[sS m,.bool false,iI y,iI mgd,iI mgo] TA));have HB3:=zZ (jf hp HB1.out (jg hb3 (iU w3 (.cells #[sS m,.bool false,iI y,iI mgd,iI mgo] TA))));clear hb3 HGem Cz HB1 HZ1;go_upto_region 3 with fail
 generalize w3.alloc (.cells #[sS m,.bool false,iI y,iI mgd,iI mgo] TA)=W3 at *;generalize w3.heap.size=r at *;obtain ⟨x0,x1,x2,x3,x4,x5⟩:=six CK.out;obtain ⟨y0,y1,y2,y3,y4⟩:=cells5 HQ3.out;obtain ⟨z0,z1,z2,z3,z4⟩:=cells5 HZ3.out;clear CK HQ3 HZ3;go_upto_region 4 with (go_at_call 99;refine (HL1.out _).mono ?_;rintro e w' ⟨rfl,hw⟩;rw [hw];clear hw w')
 go_upto_region 5 with (go_at_call 99;refine (HL2.out _).mono ?_;rintro e w' ⟨rfl,hw⟩;rw [hw];clear hw w')
 by_cases h0:md=0
 ·have n0:(md != 0)=false:=by simp [h0]
  have HV3:Hid (V1=if L3 < L1 then L3 else L1):=HV1.out.trans (if_pos h0);have HV4:Hid (V2=if L4 < L2 then L4 else L2):=HV2.out.trans (if_pos h0);clear HV1 HV2 h0;go_upto_region 8 with (go_at_call 99;refine (HL3.out _).mono ?_;rintro e w' ⟨rfl,hw⟩;rw [hw];clear hw w')
  by_cases c1:L3 < L1
  ·have HV5:Hid (V1=L3):=HV3.out.trans (if_pos c1);go_upto_region 11 with (go_at_call 99;refine (HL4.out _).mono ?_;rintro e w' ⟨rfl,hw⟩;rw [hw];clear hw w')
   by_cases c2:L4 < L2
   ·have HV6:Hid (V2=L4):=HV4.out.trans (if_pos c2);go_wp2;go_ret2;exact ⟨by first|(rw [HV5.out,HV6.out];done)|(rw [HV5.out,HV6.out];rfl),by first|exact HB3.out|(rw [hp];exact HB3.out)⟩
   ·have HV6:Hid (V2=L2):=HV4.out.trans (if_neg c2);go_wp2;go_ret2;exact ⟨by first|(rw [HV5.out,HV6.out];done)|(rw [HV5.out,HV6.out];rfl),by first|exact HB3.out|(rw [hp];exact HB3.out)⟩
  ·have HV5:Hid (V1=L1):=HV3.out.trans (if_neg c1);go_upto_region 11 with (go_at_call 99;refine (HL4.out _).mono ?_;rintro e w' ⟨rfl,hw⟩;rw [hw];clear hw w')
   by_cases c2:L4 < L2
   ·have HV6:Hid (V2=L4):=HV4.out.trans (if_pos c2);go_wp2;go_ret2;exact ⟨by first|(rw [HV5.out,HV6.out];done)|(rw [HV5.out,HV6.out];rfl),by first|exact HB3.out|(rw [hp];exact HB3.out)⟩
   ·have HV6:Hid (V2=L2):=HV4.out.trans (if_neg c2);go_wp2;go_ret2;exact ⟨by first|(rw [HV5.out,HV6.out];done)|(rw [HV5.out,HV6.out];rfl),by first|exact HB3.out|(rw [hp];exact HB3.out)⟩
 ·have n0:(md != 0)=true:=by simp [h0]
  have HV3:Hid (V1=L1):=HV1.out.trans (if_neg h0);have HV4:Hid (V2=L2):=HV2.out.trans (if_neg h0);clear HV1 HV2 h0;go_wp2;go_ret2;exact ⟨by first|(rw [HV3.out,HV4.out];done)|(rw [HV3.out,HV4.out];rfl),by first|exact HB3.out|(rw [hp];exact HB3.out)⟩
end Ac
namespace Pl
open Go.RowKit
abbrev Big:Nat:=281474976710656
def Ok1 (c:Cd):Prop:=Cm.I64 c.kind/\Cm.I64 c.n/\c.lo.length<=Big/\c.hi.length<=Big/\c.kids.length<=Big
abbrev cdv (c:Cd) (m:Value):Value:=.agg #[iI c.kind,sS c.lo,sS c.hi,iI c.n,m]
abbrev stv (s:St):Value:=.agg #[iI s.what,iI s.n]
abbrev ruv (r:Ru) (k u s:Value):Value:=.agg #[iI r.rank,iI r.BS.kind,sS r.BS.lo,sS r.BS.hi,iI r.BS.n,k,u,s]
abbrev pnv (p:Pn) (m:Value):Value:=.agg #[iI p.mode,iI p.Ay,iI p.AR,iI p.Bb,iI p.AJ,m]
def aj (w:World) (b o:Nat) (c:Cd) (m:Value):Prop:=
 w.cell? ⟨b,o,none⟩=some (iI c.kind)/\w.cell? ⟨b,o+1,none⟩=some (sS c.lo)/\w.cell? ⟨b,o+2,none⟩=some (sS c.hi)/\w.cell? ⟨b,o+3,none⟩=some (iI c.n)/\w.cell? ⟨b,o+4,none⟩=some m
def aY (K:Nat->Prop) (w:World) (P:Value->List Cd->Prop) (v:Value) (ks:List Cd):Prop:=
 ∃(a:Option Addr) (c:Nat) (M:Nat->Value),v=.slice a ks.length c/\ks.length<=c/\c<=maxLen/\(∀x ∈ ks,Ok1 x) ∧
  (ks=[] ∨ ∃b o,a=some ⟨b,o,none⟩/\K b/\b < w.heap.size/\∀(j:Nat) x,ks[j]?=some x->aj w b (o+j * 5) x (M j)) ∧
  ∀(j:Nat) x,ks[j]?=some x->P (M j) x.kids
def aX (K:Nat->Prop) (w:World) (v:Value) (ks:List Cd):Prop:=
 ∀P:Value->List Cd->Prop,(∀v ks,aY K w P v ks->P v ks)->P v ks
theorem aX.mk {K:Nat->Prop} {w:World} {v:Value} {ks:List Cd} (a:Option Addr) (c:Nat) (M:Nat->Value) (hv:v=.slice a ks.length c) (hc:ks.length<=c) (hm:c<=maxLen)
  (hok:∀x ∈ ks,Ok1 x) (hcells:ks=[] ∨ ∃b o,a=some ⟨b,o,none⟩/\K b/\b < w.heap.size/\∀(j:Nat) x,ks[j]?=some x->aj w b (o+j * 5) x (M j))
  (hkids:∀(j:Nat) x,ks[j]?=some x->aX K w (M j) x.kids):aX K w v ks:=
 fun P h=>h v ks ⟨a,c,M,hv,hc,hm,hok,hcells,fun j x hj=>hkids j x hj P h⟩
theorem aX.opened {K:Nat->Prop} {w:World} {v:Value} {ks:List Cd} (h:aX K w v ks):aY K w (aX K w) v ks:=by
 refine h (aY K w (aX K w)) ?_;rintro v ks ⟨a,c,M,hv,hc,hm,hok,hcells,hk⟩;refine ⟨a,c,M,hv,hc,hm,hok,hcells,fun j x hj=>?_⟩;obtain ⟨a',c',M',hv',hc',hm',hok',hcells',hk'⟩:=hk j x hj;exact aX.mk a' c' M' hv' hc' hm' hok' hcells' hk'
theorem aj.of {w w':World} {b o:Nat} {x:Cd} {m:Value} (h:aj w b o x m) (he:w'.heap[b]?=w.heap[b]?):aj w' b o x m:=by
 obtain ⟨h0,h1,h2,h3,h4⟩:=h;refine ⟨?_,?_,?_,?_,?_⟩<;>rw [World.cell?_of_block (w:=w) he]<;>assumption
theorem aX.move {K K':Nat->Prop} {w w':World} {v:Value} {ks:List Cd} (h:aX K w v ks) (hm:Moves K K' w w'):aX K' w' v ks:=by
 refine h (aX K' w') ?_;rintro v ks ⟨a,c,M,hv,hc,hx,hok,hcells,ih⟩;refine aX.mk a c M hv hc hx hok (hcells.imp id ?_) ih;rintro ⟨b,o,rfl,hk,hb,hcc⟩;obtain ⟨k',hh⟩:=hm.2 b hb hk;exact ⟨b,o,rfl,k',Nat.lt_of_lt_of_le hb hm.1,fun j x hj=>(hcc j x hj).of hh⟩
theorem aX.nil (K:Nat->Prop) (w:World):aX K w (.slice none 0 0) []:=aX.mk none 0 (fun _=>.slice none 0 0) rfl (by simp) (by simp [maxLen]) (by simp) (Or.inl rfl) (by simp)
theorem aX.form {K:Nat->Prop} {w:World} {v:Value} {ks:List Cd} (h:aX K w v ks):∃a c,v=.slice a ks.length c/\ks.length<=c/\c<=9223372036854775807:=by
 obtain ⟨a,c,M,rfl,h1,h2,_⟩:=h.opened;exact ⟨a,c,rfl,h1,by unfold maxLen at h2;exact h2⟩
theorem aX.get {K:Nat->Prop} {w:World} {a:Option Addr} {n c:Nat} {ks:List Cd} (h:aX K w (.slice a n c) ks) (k:Nat) (hk:k < ks.length) :
  ∃b o m,a=some ⟨b,o,none⟩/\b < w.heap.size/\ks[k]?=some ks[k]/\aj w b (o+k * 5) ks[k] m/\aX K w m ks[k].kids/\Ok1 ks[k]:=by
 obtain ⟨a',c',M,he,h1,h2,hok,h3,h4⟩:=h.opened;have ha:a=a':=by injection he
 subst ha;rcases h3 with h|⟨b,o,ha,_,hb,hc⟩
 ·subst h;simp at hk
 ·have hx:=List.getElem?_eq_getElem hk;exact ⟨b,o,M k,ha,hb,hx,hc k _ hx,h4 k _ hx,hok _ (List.getElem_mem hk)⟩
def dD (K:Nat->Prop) (w:World) (v:Value) (ss:List St):Prop:=
 ∃a c,v=.slice a ss.length c/\ss.length<=c/\c<=maxLen/\ss.length<=Big/\(∀x ∈ ss,Cm.I64 x.what/\Cm.I64 x.n)/\(ss=[] ∨ ∃b o,a=some ⟨b,o,none⟩/\K b/\b < w.heap.size/\∀(j:Nat) x,ss[j]?=some x->w.cell? ⟨b,o+j * 2,none⟩=some (iI x.what)/\w.cell? ⟨b,o+j * 2+1,none⟩=some (iI x.n))
theorem dD.move {K K':Nat->Prop} {w w':World} {v:Value} {ss:List St} (h:dD K w v ss) (hm:Moves K K' w w'):dD K' w' v ss:=by
 obtain ⟨a,c,rfl,h1,h2,h4,h5,h3⟩:=h;refine ⟨a,c,rfl,h1,h2,h4,h5,h3.imp id ?_⟩;rintro ⟨b,o,rfl,hk,hb,hc⟩;obtain ⟨k',hh⟩:=hm.2 b hb hk;refine ⟨b,o,rfl,k',Nat.lt_of_lt_of_le hb hm.1,fun j x hj=>?_⟩;obtain ⟨q1,q2⟩:=hc j x hj;exact ⟨by rw [World.cell?_of_block (w:=w) hh];exact q1,by rw [World.cell?_of_block (w:=w) hh];exact q2⟩
theorem dD.nil (K:Nat->Prop) (w:World):dD K w (.slice none 0 0) []:=⟨none,0,rfl,by simp,by simp [maxLen],by simp,by simp,Or.inl rfl⟩
theorem dD.form {K:Nat->Prop} {w:World} {v:Value} {ss:List St} (h:dD K w v ss):∃a c,v=.slice a ss.length c/\ss.length<=c/\c<=9223372036854775807/\ss.length<=Big:=by
 obtain ⟨a,c,rfl,h1,h2,h3,_⟩:=h;exact ⟨a,c,rfl,h1,by unfold maxLen at h2;exact h2,h3⟩
theorem dD.get {K:Nat->Prop} {w:World} {a:Option Addr} {n c:Nat} {ss:List St} (h:dD K w (.slice a n c) ss) (k:Nat) (hk:k < ss.length) :
  ∃b o,a=some ⟨b,o,none⟩/\b < w.heap.size/\ss[k]?=some ss[k]/\w.cell? ⟨b,o+k * 2,none⟩=some (iI ss[k].what)/\w.cell? ⟨b,o+k * 2+1,none⟩=some (iI ss[k].n)/\Cm.I64 ss[k].what/\Cm.I64 ss[k].n:=by
 obtain ⟨a',c',he,h1,h2,_,hok,h3⟩:=h;have ha:a=a':=by injection he
 subst ha;rcases h3 with h|⟨b,o,ha,_,hb,hc⟩
 ·subst h;simp at hk
 ·have hx:=List.getElem?_eq_getElem hk;obtain ⟨q1,q2⟩:=hc k _ hx;have:=hok _ (List.getElem_mem hk);exact ⟨b,o,ha,hb,hx,q1,q2,this.1,this.2⟩
def bV (w:World) (b o:Nat) (r:Ru) (k u s:Value):Prop:=
 w.cell? ⟨b,o,none⟩=some (iI r.rank)/\w.cell? ⟨b,o+1,none⟩=some (iI r.BS.kind)/\w.cell? ⟨b,o+2,none⟩=some (sS r.BS.lo)/\w.cell? ⟨b,o+3,none⟩=some (sS r.BS.hi)/\w.cell? ⟨b,o+4,none⟩=some (iI r.BS.n)/\w.cell? ⟨b,o+5,none⟩=some k/\w.cell? ⟨b,o+6,none⟩=some u/\w.cell? ⟨b,o+7,none⟩=some s
theorem bV.of {w w':World} {b o:Nat} {x:Ru} {k u s:Value} (h:bV w b o x k u s) (he:w'.heap[b]?=w.heap[b]?):bV w' b o x k u s:=by
 obtain ⟨h0,h1,h2,h3,h4,h5,h6,h7⟩:=h;refine ⟨?_,?_,?_,?_,?_,?_,?_,?_⟩<;>rw [World.cell?_of_block (w:=w) he]<;>assumption
def bW (K:Nat->Prop) (w:World) (r:Ru) (k u s:Value):Prop:=Cm.I64 r.rank/\Ok1 r.BS/\r.Ct.length<=Big/\aX K w k r.BS.kids/\aX K w u r.Ct/\dD K w s r.sets
theorem bW.move {K K':Nat->Prop} {w w':World} {r:Ru} {k u s:Value} (h:bW K w r k u s) (hm:Moves K K' w w'):bW K' w' r k u s:=
 ⟨h.1,h.2.1,h.2.2.1,h.2.2.2.1.move hm,h.2.2.2.2.1.move hm,h.2.2.2.2.2.move hm⟩
def bY (K:Nat->Prop) (w:World) (v:Value) (rs:List Ru):Prop:=
 ∃a c,v=.slice a rs.length c/\rs.length<=c/\c<=maxLen/\rs.length<=Big/\(rs=[] ∨ ∃b o,a=some ⟨b,o,none⟩/\K b/\b < w.heap.size/\∀(j:Nat) x,rs[j]?=some x->∃k u s,bV w b (o+j * 8) x k u s/\bW K w x k u s)
theorem bY.move {K K':Nat->Prop} {w w':World} {v:Value} {rs:List Ru} (h:bY K w v rs) (hm:Moves K K' w w'):bY K' w' v rs:=by
 obtain ⟨a,c,rfl,h1,h2,h4,h3⟩:=h;refine ⟨a,c,rfl,h1,h2,h4,h3.imp id ?_⟩;rintro ⟨b,o,rfl,hk,hb,hc⟩;obtain ⟨k',hh⟩:=hm.2 b hb hk;refine ⟨b,o,rfl,k',Nat.lt_of_lt_of_le hb hm.1,fun j x hj=>?_⟩;obtain ⟨k,u,s,q1,q2⟩:=hc j x hj;exact ⟨k,u,s,q1.of hh,q2.move hm⟩
theorem bY.nil (K:Nat->Prop) (w:World):bY K w (.slice none 0 0) []:=⟨none,0,rfl,by simp,by simp [maxLen],by simp,Or.inl rfl⟩
theorem bY.form {K:Nat->Prop} {w:World} {v:Value} {rs:List Ru} (h:bY K w v rs):∃a c,v=.slice a rs.length c/\rs.length<=c/\c<=9223372036854775807/\rs.length<=Big:=by
 obtain ⟨a,c,rfl,h1,h2,h3,_⟩:=h;exact ⟨a,c,rfl,h1,by unfold maxLen at h2;exact h2,h3⟩
theorem bY.get {K:Nat->Prop} {w:World} {a:Option Addr} {n c:Nat} {rs:List Ru} (h:bY K w (.slice a n c) rs) (k:Nat) (hk:k < rs.length) :
  ∃b o q u s,a=some ⟨b,o,none⟩/\b < w.heap.size/\rs[k]?=some rs[k]/\bV w b (o+k * 8) rs[k] q u s/\bW K w rs[k] q u s:=by
 obtain ⟨a',c',he,h1,h2,_,h3⟩:=h;have ha:a=a':=by injection he
 subst ha;rcases h3 with h|⟨b,o,ha,_,hb,hc⟩
 ·subst h;simp at hk
 ·have hx:=List.getElem?_eq_getElem hk;obtain ⟨q,u,s,q1,q2⟩:=hc k _ hx;exact ⟨b,o,q,u,s,ha,hb,hx,q1,q2⟩
def bQ (p:Pn):Prop:=Cm.I64 p.mode/\Cm.I64 p.Ay/\Cm.I64 p.AR/\Cm.I64 p.Bb/\Cm.I64 p.AJ
theorem iU (w:World) (o:Obj):Below w.heap.size w (w.alloc o):=(Below.refl _ w).alloc (Nat.le_refl _) o
theorem jg {a b c:World} (h:Below a.heap.size a b) (k:Below b.heap.size b c):Below a.heap.size a c:=h.trans (k.mono h.size)
theorem aX.Bu {w w':World} {v:Value} {ks:List Cd} (h:aX All w v ks) (hb:Below w.heap.size w w'):aX All w' v ks:=h.move (Below.moves hb)
theorem dD.Bu {w w':World} {v:Value} {ks:List St} (h:dD All w v ks) (hb:Below w.heap.size w w'):dD All w' v ks:=h.move (Below.moves hb)
theorem bY.Bu {w w':World} {v:Value} {ks:List Ru} (h:bY All w v ks) (hb:Below w.heap.size w w'):bY All w' v ks:=h.move (Below.moves hb)
end Pl
end Go.Proofs.YtfbfeoplldjbpaaGreatDoor
