/-
  Texts put together (merge.py): YRAdd.
-/
import Derived.Test.YtfbfeoplldjbpaaGreatDoorMd9
set_option linter.unusedSimpArgs false
set_option linter.unusedVariables false
set_option maxHeartbeats 16000000
set_option maxRecDepth 100000
namespace Go.Proofs.YtfbfeoplldjbpaaGreatDoor
namespace Ac
open Go.RowKit
def ML (d:Bool) (acc r:List Row) (x:Row):List Row:=if d=true then acc ++ r else acc ++ put x r
theorem MN (acc r:List Row) (x y:Row):ML true acc (y :: r) x=ML true (acc ++ [y]) r x:=by simp [ML]
theorem MP (acc r:List Row) (x y:Row) (h:dR y x=true):ML false acc (y :: r) x=ML false (acc ++ [y]) r x:=by simp [ML,put,h]
theorem MO (acc r:List Row) (x y:Row) (h:dR y x=false) (h2:dR x y=true):ML false acc (y :: r) x=ML true (acc ++ [x] ++ [y]) r x:=by simp [ML,put,h,h2]
theorem MQ (acc r:List Row) (x y:Row) (h:dR y x=false) (h2:dR x y=false):ML false acc (y :: r) x=ML true (acc ++ [x]) r x:=by simp [ML,put,h,h2]
theorem KT {w w':World} {B p:Nat} {o:Obj} (h:w.heap[p]?=some o) (hl:Below B w w') (hp:p < B):w'.heap[p]?=some o:=by rw [hl.block p hp];exact h
theorem MR (l:List Row) (wh:Tx) (f:Bool) (y d o:Int) (v:Value) (w:World) (h:cu All w v l) (hl:l.length<=10000) :
  Calls Tryz.prog 102 #[v,sS wh,.bool f,iI y,iI d,iI o] w fun e w'=>∃v',e=.returned (.tuple #[v',iI (dJ l wh f y d o)])/\Own w.heap.size w' v' (dM l wh f y d o)/\Below w.heap.size w w':=by
 obtain ⟨gd,go,hG⟩:=pV l wh f y;have HGet:Hid (Calls Tryz.prog 16 #[v,sS wh,.bool f,iI y] w fun e w'=>e=.returned (.agg #[sS wh,.bool f,iI y,iI gd,iI go])/\Below w.heap.size w w'):=by
  have hq:=JL l wh f y v w h (by omega);rw [hG] at hq;exact hq
 have HRlo:Hid (∀W,Below w.heap.size w W->cu All W v l):=fun W hW=>((Em h).move (Below.yu hW)).all;obtain ⟨fa,fk,rfl,hm1,hm2⟩:=h.form;have HA1:=zZ fun W=>Ce.MR gd d W;have HA2:=zZ fun W=>Ce.MR go o W;obtain ⟨E,HE⟩:∃E,Hid (dJ l wh f y d o=E):=⟨_,(rfl:dJ l wh f y d o=_)⟩;have HEd:Hid (E=if Ce.dJ gd d=0 then (if Ce.dJ go o=0 then (if d<=o then 0 else 3) else Ce.dJ go o) else Ce.dJ gd d):=(by rw [←HE.out];unfold dJ;rw [hG]:E=_);have HNil:Hid (E ≠ 0->dM l wh f y d o=[]):=fun h0=>by unfold dM;rw [if_neg (by rw [HE.out];exact h0)]
 have HFull:Hid (E=0->dM l wh f y d o=if go+o=0 then l else put ⟨wh,f,y,gd+d,go+o⟩ l):=fun h0=>by unfold dM DW;rw [if_pos (HE.out.trans h0),hG]
 rw [HE.out];obtain ⟨L2,HL2⟩:∃L2,Hid (dM l wh f y d o=L2):=⟨_,(rfl:dM l wh f y d o=_)⟩;rw [HL2.out] at HNil HFull ⊢;have HV1:Hid (Ce.dJ gd d=0->Ce.dM gd d=gd+d):=jY;have HV2:Hid (Ce.dJ go o=0->Ce.dM go o=go+o):=jY;generalize Ce.dJ gd d=E1 at *;generalize Ce.dJ go o=E2 at *;generalize Ce.dM gd d=V1 at *;generalize Ce.dM go o=V2 at *;clear h hG HE HL2;go_enter Tryz.func102,Tryz.ntmps102
 go_wp2_with fail
 go_at_call 16
 refine HGet.out.mono ?_;rintro e w1 ⟨rfl,hb1⟩;have hb2:=iU w1 (.cells #[sS wh,.bool f,iI y,iI gd,iI go] TA);have HZ:=zZ (heap_alloc_new w1 (.cells #[sS wh,.bool f,iI y,iI gd,iI go] TA));have HB:=zZ (jg hb1 hb2);have HS:=zZ hb1.size;have HSq:Hid (w1.heap.size+1<=(w1.alloc (.cells #[sS wh,.bool f,iI y,iI gd,iI go] TA)).heap.size):=by show _<=_;simp
 clear hb1 hb2 HGet;go_upto_region 2 with fail
 generalize w1.alloc (.cells #[sS wh,.bool f,iI y,iI gd,iI go] TA)=W at *;generalize hq:w1.heap.size=q at *;generalize hp:w.heap.size=p at *;have HPQ:=zZ HS.out;obtain ⟨z0,z1,z2,z3,z4⟩:=cells5 HZ.out;obtain ⟨t0,t1,t2,t3,t4⟩:=pO HZ.out;by_cases h1:E1=0
 ·have e1:=HV1.out h1;have b1:(E1 != 0)=false:=by simp [h1]
  have HEd2:Hid (E=if E2=0 then (if d<=o then 0 else 3) else E2):=HEd.out.trans (by rw [if_pos h1]);rw [←e1] at HFull;clear HEd HV1 e1 h1;go_upto_region 5 with (go_at_call 139;refine (HA1.out _).mono ?_;rintro e w' ⟨rfl,hw⟩;rw [hw];clear hw w')
  clear b1 HA1;by_cases h2:E2=0
  ·have e2:=HV2.out h2;have b2:(E2 != 0)=false:=by simp [h2]
   have HEd3:Hid (E=if d<=o then 0 else 3):=HEd2.out.trans (by rw [if_pos h2]);rw [←e2] at HFull;clear HEd2 HV2 e2 h2;go_upto_region 8 with (go_at_call 139;refine (HA2.out _).mono ?_;rintro e w' ⟨rfl,hw⟩;rw [hw];clear hw w')
   clear b2 HA2;by_cases h3:d<=o
   ·have HE0:Hid (E=0):=HEd3.out.trans (by rw [if_pos h3]);have HPL:Hid (L2=if V2=0 then l else put (⟨wh,f,y,V1,V2⟩:Row) l):=HFull.out HE0.out;have n3:¬ o < d:=by omega
    have HZ2:=zZ (jP (jO HZ.out (iI V1)) (iI V2));have HB2:Hid (Below p w ((W.setCell ⟨q,3,none⟩ (iI V1)).setCell ⟨q,4,none⟩ (iI V2))):=(HB.out.setCell (p:=⟨q,3,none⟩) HPQ.out _).setCell (p:=⟨q,4,none⟩) HPQ.out _;have HS2:Hid (q+1<=((W.setCell ⟨q,3,none⟩ (iI V1)).setCell ⟨q,4,none⟩ (iI V2)).heap.size):=by show _<=_;have:=HSq.out;simpa using this
    clear h3 HFull HNil HEd3;go_upto_region 12 with fail
    clear z0 z1 z2 z3 z4 t0 t1 t2 t3 t4 HZ HB HSq;generalize (W.setCell ⟨q,3,none⟩ (iI V1)).setCell ⟨q,4,none⟩ (iI V2)=W2 at *;obtain ⟨d0,hd0⟩:∃d0:Bool,(V2 == 0)=d0:=⟨_,rfl⟩;have HPG:Hid (ML d0 [] (l.drop 0) (⟨wh,f,y,V1,V2⟩:Row)=L2):=by
     show _=_;rw [HPL.out,←hd0];by_cases hv:V2=0
     ·simp [ML,hv]
     ·have hv2:(V2 == 0)=false:=by simp [hv]
      rw [hv2,if_neg hv];simp [ML]
    clear HPL;go_wp2;clear hd0;go_loopg [19,20,21] (l.length) (fun g s19 s20 s21 wr=>∃(n:Nat) (dd:Bool) (acc:List Row) (fv:Value),s19=fv/\s20=.bool dd/\s21=iI (n:Nat)/\n<=l.length/\g=l.length - n/\acc.length<=n+1/\(dd=false->acc.length<=n)/\Hid (Below p w wr)/\Hid (wr.heap[q]?=some (.cells #[sS wh,.bool f,iI y,iI V1,iI V2] TA (0,0)))/\Hid (q+1<=wr.heap.size)/\Hid (Own (q+1) wr fv acc)/\Hid (ML dd acc (l.drop n) (⟨wh,f,y,V1,V2⟩:Row)=L2))
    case atStart=>exact ⟨0,d0,[],_,rfl,rfl,rfl,Nat.zero_le _,rfl,by simp,by simp,HB2.out,HZ2.out,HS2.out,Ap _ _,HPG.out⟩
    case round =>
     clear HB2 HZ2 HS2 HPG;obtain ⟨n,dd,acc,fv,rfl,rfl,rfl,hn,hgk,hal,hal0,HB0,HZ0,HS0,HO0,HE⟩:=hrel;obtain ⟨ga,gc,rfl,-,-⟩:=Am HO0.out;have ha6:acc.length<=1000000:=by omega
     by_cases hlt:n < l.length
     ·have hltz:(n:Int) < (l.length:Int):=by omega
      have HDn:Hid (l.drop n=l[n] :: l.drop (n+1)):=List.drop_eq_getElem_cons hlt;obtain ⟨b,oo,rfl,hbs,-,hcc⟩:=cu.get (HRlo.out wr HB0.out) n hlt;have HY:=zZ fun W' (hW:Below p w W')=>jZ (HRlo.out W' hW) n hlt;generalize l[n]=x at *;have HXY:=zZ fun W' (hW:Below wr.heap.size wr W')=>And.intro (cells5 (tV HZ0.out hW)) (HY.out W' (HB0.out.trans (hW.mono (by have:=HS0.out;have:=HPQ.out;omega))));have HD:=zZ (Below.drew (Below.refl wr.heap.size wr));obtain ⟨wo,hwo⟩:∃z,z=wr:=⟨_,rfl⟩;subst hwo;clear hcc hbs;cases dd with
      | true =>
       rw [HDn.out,MN] at HE;clear HXY HDn hal0;go_upto_region 17 with fail
       refine Ri.IZ (by kernel_rfl) (by kernel_rfl) (by kernel_rfl) (fun Wx=>Below wo.heap.size wo Wx) (fun kz vs wz=>(fun kx vx wx=>match kx with|0=>vx=.bool true|1=>vx=.bool false|2=>vx=.bool false|3=>True|4=>True|5=>True|6=>True|7=>True|8=>True|9=>True|10=>vx=.bool false|_=>True:Nat->Value->World->Prop) kz (vs kz) wz) (fun kz=>[kz]) (by kernel_rfl) (fun jz vs iz vz wz hiz hz=>Ri.wI (F:=(fun kx vx wx=>match kx with|0=>vx=.bool true|1=>vx=.bool false|2=>vx=.bool false|3=>True|4=>True|5=>True|6=>True|7=>True|8=>True|9=>True|10=>vx=.bool false|_=>True:Nat->Value->World->Prop)) jz vs iz vz wz hiz hz) HD.out ⟨Or.inl ⟨rfl,?_⟩,Or.inl ⟨rfl,?_⟩,Or.inl ⟨rfl,?_⟩,Or.inr ⟨2,true,64,rfl,rfl,?_⟩,Or.inr ⟨2,true,64,rfl,rfl,?_⟩,Or.inr ⟨2,true,64,rfl,rfl,?_⟩,Or.inr ⟨2,true,64,rfl,rfl,?_⟩,Or.inr ⟨2,true,64,rfl,rfl,?_⟩,Or.inr ⟨2,true,64,rfl,rfl,?_⟩,Or.inr ⟨2,true,64,rfl,rfl,?_⟩,Or.inl ⟨rfl,?_⟩,trivial⟩ ?_
       ·intro vs Wx A hA hB hpre K hK;have e20:=(hA 20).trans (show _=Value.bool true by kernel_rfl);clear hA hpre;go_simp;exact hK _ _ hB rfl (fun _ _ h=>h)
       ·intro vs Wx A hA hB hpre K hK;have e62:=tT (hA 62) (by kernel_rfl) (hpre.1 rfl);clear hA hpre;go_simp;exact hK _ _ hB rfl (fun _ _ h=>h)
       ·intro vs Wx A hA hB hpre K hK;have e63:=tT (hA 63) (by kernel_rfl) (hpre.1 rfl);clear hA hpre;go_simp;exact hK _ _ hB rfl (fun _ _ h=>h)
       iterate 2
        ·intro vs Wx A hA hB hpre;have eg:=tT (hA 64) (by kernel_rfl) (hpre.1 rfl);exact ⟨false,eg,fun h=>(by cases h),fun _=>trivial⟩
       ·intro vs Wx A hA hB hpre;have eg:=tT (hA 64) (by kernel_rfl) (hpre.2.2.1 rfl);exact ⟨false,eg,fun h=>(by cases h),fun _=>trivial⟩
       ·intro vs Wx A hA hB hpre;have eg:=tT (hA 64) (by kernel_rfl) (hpre.2.1 rfl);exact ⟨false,eg,fun h=>(by cases h),fun _=>trivial⟩
       ·intro vs Wx A hA hB hpre;have eg:=tT (hA 64) (by kernel_rfl) (hpre.1 rfl);exact ⟨false,eg,fun h=>(by cases h),fun _=>trivial⟩
       ·intro vs Wx A hA hB hpre;have eg:=tT (hA 64) (by kernel_rfl) (hpre.2.2.1 rfl);exact ⟨false,eg,fun h=>(by cases h),fun _=>trivial⟩
       ·intro vs Wx A hA hB hpre;have eg:=tT (hA 64) (by kernel_rfl) (hpre.2.1 rfl);exact ⟨false,eg,fun h=>(by cases h),fun _=>trivial⟩
       ·intro vs Wx A hA hB hpre K hK;have e64:=tT (hA 64) (by kernel_rfl) (hpre.1 rfl);clear hA hpre;go_simp;exact hK _ _ hB rfl (fun _ _ h=>h)
       ·intro vs Wx hB hF;have hL:vs 10=.bool false:=hF 10 (by decide);have HB1:=zZ (HB0.out.trans (hB.mono (by have:=HS0.out;have:=HPQ.out;omega)));have HZ1:=zZ (tV HZ0.out hB);have HO1:=zZ (Ak HO0.out hB);have HS1:Hid (q+1<=Wx.heap.size):=Nat.le_trans HS0.out hB.size;clear hF hB HB0 HZ0 HO0 HS0 HD;simp only [Ri.puts];rw [hL];clear hL;go_simp;obtain ⟨c0,c1,c2,c3,c4⟩:=HY.out Wx HB1.out;have hb:=iU Wx (.cells #[sS x.who,.bool x.Br,iI x.year,iI x.de,iI x.oo] TA);have HOa:=zZ (Ak HO1.out hb);have HZa:=zZ (tV HZ1.out hb);have HNa:=zZ (heap_alloc_new Wx (.cells #[sS x.who,.bool x.Br,iI x.year,iI x.de,iI x.oo] TA));have HBa:=zZ (HB1.out.trans (hb.mono (by have:=HS1.out;have:=HPQ.out;omega)));have HSa:Hid (q+1<=(Wx.alloc (.cells #[sS x.who,.bool x.Br,iI x.year,iI x.de,iI x.oo] TA)).heap.size):=Nat.le_trans HS1.out hb.size;clear hb;go_wp2_with (at_builtin;refine wpList_plain (by rfl) (fun K hK=>?_);refine IQ _ _ (by rfl) (q+1) (.slice ga acc.length gc) acc (by rfl) HOa.out Wx.heap.size 1 x (by rfl) HNa.out ha6 HSa.out ?_)
        intro vn w2 hown hgr hat;have hlow:=qo HOa.out hgr HSa.out;have HB2:=zZ (HBa.out.trans (hlow.mono (by have:=HPQ.out;omega)));have HZ2:=zZ (KT HZa.out hlow (Nat.lt_succ_self q));have HS2:Hid (q+1<=w2.heap.size):=Nat.le_trans HSa.out hlow.size;have HO2:=zZ hown;refine hK _ _ ?_;clear hK hown hgr hat hlow HOa HZa HNa HBa HSa c0 c1 c2 c3 c4;go_wp2;go_roundg (l.length - (n+1))
        case measure=>omega
        case rel=>exact ⟨n+1,true,acc ++ [x],_,rfl,rfl,by first|rfl|go_num|(congr 1;omega),by omega,rfl,by first|omega|(simp;omega)|(simp only [List.length_append,List.length_singleton];omega),by first|(intro h;cases h;done)|(intro _;first|omega|(simp;omega)),HB2.out,HZ2.out,HS2.out,HO2.out,HE.out⟩
      | false =>
       have hal1:acc.length<=n:=hal0 rfl;rw [HDn.out] at HE;have HAh:=zZ fun W'=>MS x (⟨wh,f,y,V1,V2⟩:Row) W';obtain ⟨AB,HAB⟩:∃z,Hid (dR x (⟨wh,f,y,V1,V2⟩:Row)=z):=⟨dR x (⟨wh,f,y,V1,V2⟩:Row),(rfl:dR x (⟨wh,f,y,V1,V2⟩:Row)=dR x (⟨wh,f,y,V1,V2⟩:Row))⟩;rw [HAB.out] at HAh;clear hal0 hal;go_upto_region 17 with fail
       refine Ri.IZ (by kernel_rfl) (by kernel_rfl) (by kernel_rfl) (fun Wx=>Below wo.heap.size wo Wx) (fun kz vs wz=>(fun kx vx wx=>match kx with|0=>vx=.bool false|1=>vx=.bool true|2=>vx=.bool true|3=>vx=.slice (some ⟨b,oo,none⟩) l.length fk|4=>vx=iI (n:Nat)|5=>vx=pP b (oo+n * 5)|6=>vx=rwv x|7=>vx=.agg #[sS wh,.bool f,iI y,iI V1,iI V2]|8=>vx=.bool AB|9=>vx=.bool (!AB)|10=>vx=.bool (!AB)|_=>True:Nat->Value->World->Prop) kz (vs kz) wz) (fun kz=>[kz]) (by kernel_rfl) (fun jz vs iz vz wz hiz hz=>Ri.wI (F:=(fun kx vx wx=>match kx with|0=>vx=.bool false|1=>vx=.bool true|2=>vx=.bool true|3=>vx=.slice (some ⟨b,oo,none⟩) l.length fk|4=>vx=iI (n:Nat)|5=>vx=pP b (oo+n * 5)|6=>vx=rwv x|7=>vx=.agg #[sS wh,.bool f,iI y,iI V1,iI V2]|8=>vx=.bool AB|9=>vx=.bool (!AB)|10=>vx=.bool (!AB)|_=>True:Nat->Value->World->Prop)) jz vs iz vz wz hiz hz) HD.out ⟨Or.inl ⟨rfl,?_⟩,Or.inl ⟨rfl,?_⟩,Or.inl ⟨rfl,?_⟩,Or.inr ⟨2,true,64,rfl,rfl,?_⟩,Or.inr ⟨2,true,64,rfl,rfl,?_⟩,Or.inr ⟨2,true,64,rfl,rfl,?_⟩,Or.inr ⟨2,true,64,rfl,rfl,?_⟩,Or.inr ⟨2,true,64,rfl,rfl,?_⟩,Or.inr ⟨2,true,64,rfl,rfl,?_⟩,Or.inr ⟨2,true,64,rfl,rfl,?_⟩,Or.inl ⟨rfl,?_⟩,trivial⟩ ?_
       ·intro vs Wx A hA hB hpre K hK;have e20:=(hA 20).trans (show _=Value.bool false by kernel_rfl);clear hA hpre;go_simp;exact hK _ _ hB rfl (fun _ _ h=>h)
       ·intro vs Wx A hA hB hpre K hK;have e62:=tT (hA 62) (by kernel_rfl) (hpre.1 rfl);clear hA hpre;go_simp;exact hK _ _ hB rfl (fun _ _ h=>h)
       ·intro vs Wx A hA hB hpre K hK;have e63:=tT (hA 63) (by kernel_rfl) (hpre.1 rfl);clear hA hpre;go_simp;exact hK _ _ hB rfl (fun _ _ h=>h)
       ·intro vs Wx A hA hB hpre;have eg:=tT (hA 64) (by kernel_rfl) (hpre.1 rfl);refine ⟨true,eg,fun _ K hK=>?_,fun h=>absurd rfl h⟩;have e0:=(hA 0).trans (show _=Value.slice (some ⟨b,oo,none⟩) l.length fk by kernel_rfl);clear hA hpre;go_simp;exact hK _ _ hB rfl (fun _ _ h=>h)
       ·intro vs Wx A hA hB hpre;have eg:=tT (hA 64) (by kernel_rfl) (hpre.1 rfl);refine ⟨true,eg,fun _ K hK=>?_,fun h=>absurd rfl h⟩;have e21:=(hA 21).trans (show _=iI (n:Nat) by kernel_rfl);clear hA hpre;go_simp;exact hK _ _ hB rfl (fun _ _ h=>h)
       ·intro vs Wx A hA hB hpre;have eg:=tT (hA 64) (by kernel_rfl) (hpre.2.2.1 rfl);refine ⟨true,eg,fun _ K hK=>?_,fun h=>absurd rfl h⟩;have e65:=tT (hA 65) (by kernel_rfl) (hpre.1 rfl);have e66:=tT (hA 66) (by kernel_rfl) (hpre.2.1 rfl);clear hA hpre;go_simp;exact hK _ _ hB rfl (fun _ _ h=>h)
       ·intro vs Wx A hA hB hpre;have eg:=tT (hA 64) (by kernel_rfl) (hpre.2.1 rfl);refine ⟨true,eg,fun _ K hK=>?_,fun h=>absurd rfl h⟩;have e67:=tT (hA 67) (by kernel_rfl) (hpre.1 rfl);obtain ⟨⟨x0,x1,x2,x3,x4⟩,y0,y1,y2,y3,y4⟩:=HXY.out Wx hB;clear hA hpre;go_simp;exact hK _ _ hB rfl (fun _ _ h=>h)
       ·intro vs Wx A hA hB hpre;have eg:=tT (hA 64) (by kernel_rfl) (hpre.1 rfl);refine ⟨true,eg,fun _ K hK=>?_,fun h=>absurd rfl h⟩;have e14:=(hA 14).trans (show _=pP q 0 by kernel_rfl);obtain ⟨⟨x0,x1,x2,x3,x4⟩,y0,y1,y2,y3,y4⟩:=HXY.out Wx hB;clear hA hpre;go_simp;exact hK _ _ hB rfl (fun _ _ h=>h)
       ·intro vs Wx A hA hB hpre;have eg:=tT (hA 64) (by kernel_rfl) (hpre.2.2.1 rfl);refine ⟨true,eg,fun _ K hK=>?_,fun h=>absurd rfl h⟩;have e68:=tT (hA 68) (by kernel_rfl) (hpre.1 rfl);have e69:=tT (hA 69) (by kernel_rfl) (hpre.2.1 rfl);clear hA hpre;go_simp;go_at_call 53
        refine (HAh.out Wx).mono ?_;rintro e w4 ⟨rfl,hg⟩;exact hK _ _ (jg hB hg) rfl (fun _ _ h=>h)
       ·intro vs Wx A hA hB hpre;have eg:=tT (hA 64) (by kernel_rfl) (hpre.2.1 rfl);refine ⟨true,eg,fun _ K hK=>?_,fun h=>absurd rfl h⟩;have e70:=tT (hA 70) (by kernel_rfl) (hpre.1 rfl);clear hA hpre;go_simp;exact hK _ _ hB rfl (fun _ _ h=>h)
       ·intro vs Wx A hA hB hpre K hK;have e64:=tT (hA 64) (by kernel_rfl) (hpre.1 rfl);have e71:=tT (hA 71) (by kernel_rfl) (hpre.2.1 rfl);clear hA hpre;go_simp;exact hK _ _ hB rfl (fun _ _ h=>h)
       ·intro vs Wx hB hF;have hL:vs 10=.bool (!AB):=hF 10 (by decide);have HB1:=zZ (HB0.out.trans (hB.mono (by have:=HS0.out;have:=HPQ.out;omega)));have HZ1:=zZ (tV HZ0.out hB);have HO1:=zZ (Ak HO0.out hB);have HS1:Hid (q+1<=Wx.heap.size):=Nat.le_trans HS0.out hB.size;clear hF hB HB0 HZ0 HO0 HS0 HD;simp only [Ri.puts];rw [hL];clear hL;clear HXY HAh HDn;cases AB with
        | true =>
         rw [MP _ _ _ _ HAB.out] at HE;clear HAB;go_simp;obtain ⟨c0,c1,c2,c3,c4⟩:=HY.out Wx HB1.out;have hb:=iU Wx (.cells #[sS x.who,.bool x.Br,iI x.year,iI x.de,iI x.oo] TA);have HOa:=zZ (Ak HO1.out hb);have HZa:=zZ (tV HZ1.out hb);have HNa:=zZ (heap_alloc_new Wx (.cells #[sS x.who,.bool x.Br,iI x.year,iI x.de,iI x.oo] TA));have HBa:=zZ (HB1.out.trans (hb.mono (by have:=HS1.out;have:=HPQ.out;omega)));have HSa:Hid (q+1<=(Wx.alloc (.cells #[sS x.who,.bool x.Br,iI x.year,iI x.de,iI x.oo] TA)).heap.size):=Nat.le_trans HS1.out hb.size;clear hb;go_wp2_with (at_builtin;refine wpList_plain (by rfl) (fun K hK=>?_);refine IQ _ _ (by rfl) (q+1) (.slice ga acc.length gc) acc (by rfl) HOa.out Wx.heap.size 1 x (by rfl) HNa.out ha6 HSa.out ?_)
         intro vn w2 hown hgr hat;have hlow:=qo HOa.out hgr HSa.out;have HB2:=zZ (HBa.out.trans (hlow.mono (by have:=HPQ.out;omega)));have HZ2:=zZ (KT HZa.out hlow (Nat.lt_succ_self q));have HS2:Hid (q+1<=w2.heap.size):=Nat.le_trans HSa.out hlow.size;have HO2:=zZ hown;refine hK _ _ ?_;clear hK hown hgr hat hlow HOa HZa HNa HBa HSa c0 c1 c2 c3 c4;go_wp2;go_roundg (l.length - (n+1))
         case measure=>omega
         case rel=>exact ⟨n+1,false,acc ++ [x],_,rfl,rfl,by first|rfl|go_num|(congr 1;omega),by omega,rfl,by first|omega|(simp;omega)|(simp only [List.length_append,List.length_singleton];omega),by first|(intro h;cases h;done)|(intro _;first|omega|(simp;omega)),HB2.out,HZ2.out,HS2.out,HO2.out,HE.out⟩
        | false =>
         go_simp;obtain ⟨c0,c1,c2,c3,c4⟩:=cells5 HZ1.out;have hb:=iU Wx (.cells #[sS wh,.bool f,iI y,iI V1,iI V2] TA);have HOa:=zZ (Ak HO1.out hb);have HZa:=zZ (tV HZ1.out hb);have HNa:=zZ (heap_alloc_new Wx (.cells #[sS wh,.bool f,iI y,iI V1,iI V2] TA));have HBa:=zZ (HB1.out.trans (hb.mono (by have:=HS1.out;have:=HPQ.out;omega)));have HSa:Hid (q+1<=(Wx.alloc (.cells #[sS wh,.bool f,iI y,iI V1,iI V2] TA)).heap.size):=Nat.le_trans HS1.out hb.size;clear hb;go_wp2_with (at_builtin;refine wpList_plain (by rfl) (fun K hK=>?_);refine IQ _ _ (by rfl) (q+1) (.slice ga acc.length gc) acc (by rfl) HOa.out Wx.heap.size 1 (⟨wh,f,y,V1,V2⟩:Row) (by rfl) HNa.out ha6 HSa.out ?_)
         intro vn w2 hown hgr hat;have hlow:=qo HOa.out hgr HSa.out;have HB2:=zZ (HBa.out.trans (hlow.mono (by have:=HPQ.out;omega)));have HZ2:=zZ (KT HZa.out hlow (Nat.lt_succ_self q));have HS2:Hid (q+1<=w2.heap.size):=Nat.le_trans HSa.out hlow.size;have HO2:=zZ hown;refine hK _ _ ?_;clear hK hown hgr hat hlow HOa HZa HNa HBa HSa c0 c1 c2 c3 c4;obtain ⟨ac2,HA2⟩:∃z,Hid (acc ++ [(⟨wh,f,y,V1,V2⟩:Row)]=z):=⟨acc ++ [(⟨wh,f,y,V1,V2⟩:Row)],(rfl:acc ++ [(⟨wh,f,y,V1,V2⟩:Row)]=acc ++ [(⟨wh,f,y,V1,V2⟩:Row)])⟩;rw [HA2.out] at HO2;obtain ⟨gb,ge,rfl,-,-⟩:=Am HO2.out;have h2l:ac2.length=acc.length+1:=by rw [←HA2.out];simp
         have hal2:ac2.length<=n+1:=by omega
         have ha6:ac2.length<=1000000:=by omega
         clear h2l;have HXY:=zZ fun W' (hW:Below w2.heap.size w2 W')=>And.intro (cells5 (tV HZ2.out hW)) (HY.out W' (HB2.out.trans (hW.mono (by have:=HS2.out;have:=HPQ.out;omega))));have HD:=zZ (Below.drew (Below.refl w2.heap.size w2));have HAh:=zZ fun W'=>MS (⟨wh,f,y,V1,V2⟩:Row) x W';obtain ⟨AB2,HAB2⟩:∃z,Hid (dR (⟨wh,f,y,V1,V2⟩:Row) x=z):=⟨dR (⟨wh,f,y,V1,V2⟩:Row) x,(rfl:dR (⟨wh,f,y,V1,V2⟩:Row) x=dR (⟨wh,f,y,V1,V2⟩:Row) x)⟩;rw [HAB2.out] at HAh;go_upto_region 20 with fail
         refine Ri.IX (by kernel_rfl) (by kernel_rfl) (by kernel_rfl) (fun Wx=>Below w2.heap.size w2 Wx) (fun kz vs wz=>(fun kx vx wx=>match kx with|0=>vx=.agg #[sS wh,.bool f,iI y,iI V1,iI V2]|1=>vx=.slice (some ⟨b,oo,none⟩) l.length fk|2=>vx=iI (n:Nat)|3=>vx=pP b (oo+n * 5)|4=>vx=rwv x|5=>vx=.bool AB2|6=>vx=.bool (!AB2)|_=>True:Nat->Value->World->Prop) kz (vs kz) wz) (fun kz=>[kz]) (by kernel_rfl) (fun jz vs iz vz wz hiz hz=>Ri.wI (F:=(fun kx vx wx=>match kx with|0=>vx=.agg #[sS wh,.bool f,iI y,iI V1,iI V2]|1=>vx=.slice (some ⟨b,oo,none⟩) l.length fk|2=>vx=iI (n:Nat)|3=>vx=pP b (oo+n * 5)|4=>vx=rwv x|5=>vx=.bool AB2|6=>vx=.bool (!AB2)|_=>True:Nat->Value->World->Prop)) jz vs iz vz wz hiz hz) HD.out ⟨⟨rfl,?_⟩,⟨rfl,?_⟩,⟨rfl,?_⟩,⟨rfl,?_⟩,⟨rfl,?_⟩,⟨rfl,?_⟩,⟨rfl,?_⟩,trivial⟩ ?_
         ·intro vs Wx A hA hB hpre K hK;have e14:=(hA 14).trans (show _=pP q 0 by kernel_rfl);obtain ⟨⟨x0,x1,x2,x3,x4⟩,y0,y1,y2,y3,y4⟩:=HXY.out Wx hB;clear hA hpre;go_simp;exact hK _ _ hB rfl (fun _ _ h=>h)
         ·intro vs Wx A hA hB hpre K hK;have e0:=(hA 0).trans (show _=Value.slice (some ⟨b,oo,none⟩) l.length fk by kernel_rfl);clear hA hpre;go_simp;exact hK _ _ hB rfl (fun _ _ h=>h)
         ·intro vs Wx A hA hB hpre K hK;have e21:=(hA 21).trans (show _=iI (n:Nat) by kernel_rfl);clear hA hpre;go_simp;exact hK _ _ hB rfl (fun _ _ h=>h)
         ·intro vs Wx A hA hB hpre K hK;have e78:=tT (hA 78) (by kernel_rfl) (hpre.1 rfl);have e79:=tT (hA 79) (by kernel_rfl) (hpre.2.1 rfl);clear hA hpre;go_simp;exact hK _ _ hB rfl (fun _ _ h=>h)
         ·intro vs Wx A hA hB hpre K hK;have e80:=tT (hA 80) (by kernel_rfl) (hpre.1 rfl);obtain ⟨⟨x0,x1,x2,x3,x4⟩,y0,y1,y2,y3,y4⟩:=HXY.out Wx hB;clear hA hpre;go_simp;exact hK _ _ hB rfl (fun _ _ h=>h)
         ·intro vs Wx A hA hB hpre K hK;have e77:=tT (hA 77) (by kernel_rfl) (hpre.1 rfl);have e81:=tT (hA 81) (by kernel_rfl) (hpre.2.1 rfl);clear hA hpre;go_simp;go_at_call 53
          refine (HAh.out Wx).mono ?_;rintro e w4 ⟨rfl,hg⟩;exact hK _ _ (jg hB hg) rfl (fun _ _ h=>h)
         ·intro vs Wx A hA hB hpre K hK;have e82:=tT (hA 82) (by kernel_rfl) (hpre.1 rfl);clear hA hpre;go_simp;exact hK _ _ hB rfl (fun _ _ h=>h)
         ·intro vs Wx hB hF;have hL:vs 6=.bool (!AB2):=hF 6 (by decide);have HB1:=zZ (HB2.out.trans (hB.mono (by have:=HS2.out;have:=HPQ.out;omega)));have HZ1:=zZ (tV HZ2.out hB);have HO1:=zZ (Ak HO2.out hB);have HS1:Hid (q+1<=Wx.heap.size):=Nat.le_trans HS2.out hB.size;clear hF hB HB2 HZ2 HO2 HS2 HD;simp only [Ri.puts];rw [hL];clear hL;clear HXY HAh;cases AB2 with
          | true =>
           rw [MO _ _ _ _ HAB.out HAB2.out,HA2.out] at HE;clear HAB HAB2 HA2;go_simp;obtain ⟨c0,c1,c2,c3,c4⟩:=HY.out Wx HB1.out;have hb:=iU Wx (.cells #[sS x.who,.bool x.Br,iI x.year,iI x.de,iI x.oo] TA);have HOa:=zZ (Ak HO1.out hb);have HZa:=zZ (tV HZ1.out hb);have HNa:=zZ (heap_alloc_new Wx (.cells #[sS x.who,.bool x.Br,iI x.year,iI x.de,iI x.oo] TA));have HBa:=zZ (HB1.out.trans (hb.mono (by have:=HS1.out;have:=HPQ.out;omega)));have HSa:Hid (q+1<=(Wx.alloc (.cells #[sS x.who,.bool x.Br,iI x.year,iI x.de,iI x.oo] TA)).heap.size):=Nat.le_trans HS1.out hb.size;clear hb;go_wp2_with (at_builtin;refine wpList_plain (by rfl) (fun K hK=>?_);refine IQ _ _ (by rfl) (q+1) (.slice gb ac2.length ge) ac2 (by rfl) HOa.out Wx.heap.size 1 x (by rfl) HNa.out ha6 HSa.out ?_)
           intro vn w3 hown hgr hat;have hlow:=qo HOa.out hgr HSa.out;have HB3:=zZ (HBa.out.trans (hlow.mono (by have:=HPQ.out;omega)));have HZ3:=zZ (KT HZa.out hlow (Nat.lt_succ_self q));have HS3:Hid (q+1<=w3.heap.size):=Nat.le_trans HSa.out hlow.size;have HO3:=zZ hown;refine hK _ _ ?_;clear hK hown hgr hat hlow HOa HZa HNa HBa HSa c0 c1 c2 c3 c4;go_wp2;go_roundg (l.length - (n+1))
           case measure=>omega
           case rel=>exact ⟨n+1,true,ac2 ++ [x],_,rfl,rfl,by first|rfl|go_num|(congr 1;omega),by omega,rfl,by first|omega|(simp;omega)|(simp only [List.length_append,List.length_singleton];omega),by first|(intro h;cases h;done)|(intro _;first|omega|(simp;omega)),HB3.out,HZ3.out,HS3.out,HO3.out,HE.out⟩
          | false =>
           rw [MQ _ _ _ _ HAB.out HAB2.out,HA2.out] at HE;clear HAB HAB2 HA2;go_simp;go_wp2;go_roundg (l.length - (n+1))
           case measure=>omega
           case rel=>exact ⟨n+1,true,ac2,_,rfl,rfl,by first|rfl|go_num|(congr 1;omega),by omega,rfl,by first|omega|(simp;omega)|(simp only [List.length_append,List.length_singleton];omega),by first|(intro h;cases h;done)|(intro _;first|omega|(simp;omega)),HB1.out,HZ1.out,HS1.out,HO1.out,HE.out⟩
     ·have hltz:¬ (n:Int) < (l.length:Int):=by omega
      have hdr:l.drop n=[]:=List.drop_eq_nil_of_le (by omega);rw [hdr] at HE;clear hdr;cases dd with
      | true =>
       have HE2:Hid (acc=L2):=by show _=_;have:=HE.out;simpa [ML] using this
       clear HE;go_wp2;go_ret2;exact ⟨_,(by first|(rw [HE0.out];done)|(rw [HE0.out];rfl)),by rw [←HE2.out];exact gF (by have:=HPQ.out;first|omega|(rw [hp];omega)) HO0.out,by first|exact HB0.out|(rw [hp];exact HB0.out)⟩
      | false =>
       have HE2:Hid (acc ++ [(⟨wh,f,y,V1,V2⟩:Row)]=L2):=by show _=_;have:=HE.out;simpa [ML,put] using this
       clear HE;obtain ⟨c0,c1,c2,c3,c4⟩:=cells5 HZ0.out;have hb:=iU wr (.cells #[sS wh,.bool f,iI y,iI V1,iI V2] TA);have HOa:=zZ (Ak HO0.out hb);have HZa:=zZ (tV HZ0.out hb);have HNa:=zZ (heap_alloc_new wr (.cells #[sS wh,.bool f,iI y,iI V1,iI V2] TA));have HBa:=zZ (HB0.out.trans (hb.mono (by have:=HS0.out;have:=HPQ.out;omega)));have HSa:Hid (q+1<=(wr.alloc (.cells #[sS wh,.bool f,iI y,iI V1,iI V2] TA)).heap.size):=Nat.le_trans HS0.out hb.size;clear hb;go_wp2_with (at_builtin;refine wpList_plain (by rfl) (fun K hK=>?_);refine IQ _ _ (by rfl) (q+1) (.slice ga acc.length gc) acc (by rfl) HOa.out wr.heap.size 1 (⟨wh,f,y,V1,V2⟩:Row) (by rfl) HNa.out ha6 HSa.out ?_)
       intro vn w2 hown hgr hat;have hlow:=qo HOa.out hgr HSa.out;have HB2:=zZ (HBa.out.trans (hlow.mono (by have:=HPQ.out;omega)));have HZ2:=zZ (KT HZa.out hlow (Nat.lt_succ_self q));have HS2:Hid (q+1<=w2.heap.size):=Nat.le_trans HSa.out hlow.size;have HO2:=zZ hown;refine hK _ _ ?_;clear hK hown hgr hat hlow HOa HZa HNa HBa HSa c0 c1 c2 c3 c4;rw [HE2.out] at HO2;obtain ⟨gb,ge,rfl,-,-⟩:=Am HO2.out;go_wp2;go_ret2;exact ⟨_,(by first|(rw [HE0.out];done)|(rw [HE0.out];rfl)),gF (by have:=HPQ.out;first|omega|(rw [hp];omega)) HO2.out,by first|exact HB2.out|(rw [hp];exact HB2.out)⟩
   ·have HE0:Hid (E=3):=HEd3.out.trans (by rw [if_neg h3]);have n3:o < d:=by omega
    have HNl:Hid (L2=[]):=HNil.out (by rw [HE0.out];decide);clear h3;go_wp2;go_ret2;exact ⟨.slice none 0 0,(by first|(rw [HE0.out];done)|(rw [HE0.out];rfl)),by rw [HNl.out];exact Ap _ _,by first|exact HB.out|(rw [hp];exact HB.out)⟩
  ·have b2:(E2 != 0)=true:=by simp [h2]
   have HE0:Hid (E=E2):=HEd2.out.trans (by rw [if_neg h2]);have HNl:Hid (L2=[]):=HNil.out (by rw [HE0.out];exact h2);clear h2 HV2 HNil HEd2;go_wp2_with (go_at_call 139;refine (HA2.out _).mono ?_;rintro e w' ⟨rfl,hw⟩;rw [hw];clear hw w')
   go_ret2;exact ⟨.slice none 0 0,(by first|(rw [HE0.out];done)|(rw [HE0.out];rfl)),by rw [HNl.out];exact Ap _ _,by first|exact HB.out|(rw [hp];exact HB.out)⟩
 ·have b1:(E1 != 0)=true:=by simp [h1]
  have HE0:Hid (E=E1):=HEd.out.trans (by rw [if_neg h1]);have HNl:Hid (L2=[]):=HNil.out (by rw [HE0.out];exact h1);clear HEd h1 HV1 HV2 HNil;go_wp2_with (go_at_call 139;refine (HA1.out _).mono ?_;rintro e w' ⟨rfl,hw⟩;rw [hw];clear hw w')
  go_ret2;exact ⟨.slice none 0 0,(by first|(rw [HE0.out];done)|(rw [HE0.out];rfl)),by rw [HNl.out];exact Ap _ _,by first|exact HB.out|(rw [hp];exact HB.out)⟩
end Ac
end Go.Proofs.YtfbfeoplldjbpaaGreatDoor
