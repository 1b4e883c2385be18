/-
  Texts put together (merge.py): URHolds, URApp.
-/
import Derived.Test.YtfbfeoplldjbpaaGreatDoorMd38
set_option linter.unusedSimpArgs false
set_option linter.unusedVariables false
set_option maxHeartbeats 16000000
set_option maxRecDepth 100000
namespace Go.Proofs.YtfbfeoplldjbpaaGreatDoor
namespace Ul
open Go.RowKit
open Pl (Cd St Ru Pn aX dD bY bW Ok1 cdv stv ruv pnv iU jg jv jU iR jf)
open Wo (jI jQ tV qL)
open Cm (Ln)
theorem NS (x:Ln) (net:Int) (ml:Value) (lo hi:Tx) (n:Int) (ks:List Cd)
  (m:Value) (w:World) (hK:aX All w m ks) (hx:dI All w ml x.mods):Kw x net ml ⟨0,lo,hi,n,ks⟩ m w:=by
 have Bn:Hid (eD x net ⟨0,lo,hi,n,ks⟩=true):=by
  show _=_;rcases ks with _|⟨a,_|⟨b,r⟩⟩<;>rw [eD]<;>rfl
 unfold Kw;rw [Bn.out];show Calls _ _ #[.agg #[iI 0,.string (mk lo),.string (mk hi),iI n,m],_,_] _ _;obtain ⟨hb,hz1,hz2⟩:=jJ w ⟨0,lo,hi,n,ks⟩ m x ml;have HB:=zZ hb;have HX:=zZ hz1;have HL:=zZ hz2;have HK:=zZ (hK.Bu hb);have HM:=zZ (Hf hx hb);obtain ⟨a,k,rfl,hk1,hk2⟩:=hK.form;obtain ⟨la,lk,rfl,hl1,hl2⟩:=G9 hx;clear hK hx hb hz1 hz2 Bn;go_enter Tryz.func159,Tryz.ntmps159
 go_upto_region 1 with fail
 generalize (w.alloc (.cells #[iI 0,.string (mk lo),.string (mk hi),iI n,.slice a ks.length k] 79)).alloc (.cells #[.string (mk x.proc),.slice la x.mods.length lk,iI x.date,iI x.units,iI x.Av,iI x.prior] 48)=W at *;generalize hp:w.heap.size=p at *;obtain ⟨q,hq⟩:∃q,q=p+1:=⟨_,rfl⟩;rw [←hq] at HL ⊢;clear hq;obtain ⟨x0,x1,x2,x3,x4⟩:=jv HX.out;obtain ⟨y0,y1,y2,y3,y4,y5⟩:=jU HL.out;have HW0:=zZ (Below.refl W.heap.size W);go_wp2_with fail
 go_ret;exact ⟨by first|rfl|simp,by first|exact jf hp HB.out HW0.out|(rw [hp];exact jf hp HB.out HW0.out)⟩
theorem NT (x:Ln) (net:Int) (ml:Value) (lo hi:Tx) (n:Int) (ks:List Cd)
  (m:Value) (w:World) (hK:aX All w m ks) (hx:dI All w ml x.mods):Kw x net ml ⟨1,lo,hi,n,ks⟩ m w:=by
 have Bn:Hid (eD x net ⟨1,lo,hi,n,ks⟩=(!Op.bytesLess (mk x.proc).toList (mk lo).toList && !Op.bytesLess (mk hi).toList (mk x.proc).toList)):=by
  show _=_;rw [Ho,Ho,Ho];rcases ks with _|⟨a,_|⟨b,r⟩⟩<;>rw [eD]<;>rfl
 unfold Kw;rw [Bn.out];show Calls _ _ #[.agg #[iI 1,.string (mk lo),.string (mk hi),iI n,m],_,_] _ _;obtain ⟨hb,hz1,hz2⟩:=jJ w ⟨1,lo,hi,n,ks⟩ m x ml;have HB:=zZ hb;have HX:=zZ hz1;have HL:=zZ hz2;have HK:=zZ (hK.Bu hb);have HM:=zZ (Hf hx hb);obtain ⟨a,k,rfl,hk1,hk2⟩:=hK.form;obtain ⟨la,lk,rfl,hl1,hl2⟩:=G9 hx;clear hK hx hb hz1 hz2 Bn;go_enter Tryz.func159,Tryz.ntmps159
 go_upto_region 1 with fail
 generalize (w.alloc (.cells #[iI 1,.string (mk lo),.string (mk hi),iI n,.slice a ks.length k] 79)).alloc (.cells #[.string (mk x.proc),.slice la x.mods.length lk,iI x.date,iI x.units,iI x.Av,iI x.prior] 48)=W at *;generalize hp:w.heap.size=p at *;obtain ⟨q,hq⟩:∃q,q=p+1:=⟨_,rfl⟩;rw [←hq] at HL ⊢;clear hq;obtain ⟨x0,x1,x2,x3,x4⟩:=jv HX.out;obtain ⟨y0,y1,y2,y3,y4,y5⟩:=jU HL.out;have HW0:=zZ (Below.refl W.heap.size W);cases hq:Op.bytesLess (mk x.proc).toList (mk lo).toList
 all_goals
  go_wp2_with fail
  go_ret;exact ⟨by first|rfl|simp,by first|exact jf hp HB.out HW0.out|(rw [hp];exact jf hp HB.out HW0.out)⟩
theorem NU (x:Ln) (net:Int) (ml:Value) (lo hi:Tx) (n:Int) (ks:List Cd)
  (m:Value) (w:World) (hK:aX All w m ks) (hx:dI All w ml x.mods):Kw x net ml ⟨2,lo,hi,n,ks⟩ m w:=by
 have Bn:Hid (eD x net ⟨2,lo,hi,n,ks⟩=(x.mods.any fun t=>decide (t=lo))):=by
  show _=_;rcases ks with _|⟨a,_|⟨b,r⟩⟩<;>rw [eD]<;>rfl
 unfold Kw;rw [Bn.out];show Calls _ _ #[.agg #[iI 2,.string (mk lo),.string (mk hi),iI n,m],_,_] _ _;obtain ⟨hb,hz1,hz2⟩:=jJ w ⟨2,lo,hi,n,ks⟩ m x ml;have HB:=zZ hb;have HX:=zZ hz1;have HL:=zZ hz2;have HK:=zZ (hK.Bu hb);have HM:=zZ (Hf hx hb);obtain ⟨a,k,rfl,hk1,hk2⟩:=hK.form;obtain ⟨la,lk,rfl,hl1,hl2⟩:=G9 hx;clear hK hx hb hz1 hz2 Bn;go_enter Tryz.func159,Tryz.ntmps159
 go_upto_region 1 with fail
 generalize (w.alloc (.cells #[iI 2,.string (mk lo),.string (mk hi),iI n,.slice a ks.length k] 79)).alloc (.cells #[.string (mk x.proc),.slice la x.mods.length lk,iI x.date,iI x.units,iI x.Av,iI x.prior] 48)=W at *;generalize hp:w.heap.size=p at *;obtain ⟨q,hq⟩:∃q,q=p+1:=⟨_,rfl⟩;rw [←hq] at HL ⊢;clear hq;obtain ⟨x0,x1,x2,x3,x4⟩:=jv HX.out;obtain ⟨y0,y1,y2,y3,y4,y5⟩:=jU HL.out;have HW0:=zZ (Below.refl W.heap.size W);have Bt:=zZ fun W' (hW:Below W.heap.size W W')=>And.intro (jv (tV HX.out hW)) (jU (tV HL.out hW));go_wp2;go_loopg [7] (x.mods.length) (fun g i wr=>∃j:Nat,j<=x.mods.length/\g=x.mods.length - j/\i=iI j/\Hid (Below W.heap.size W wr)/\Hid ((x.mods.take j).any (fun t=>decide (t=lo))=false))
 case atStart=>exact ⟨0,Nat.zero_le _,rfl,rfl,HW0.out,rfl⟩
 case round =>
  clear x0 x1 x2 x3 x4 y0 y1 y2 y3 y4 y5 HW0;obtain ⟨j,hj,hgk,rfl,Cv,HA⟩:=hrel;obtain ⟨⟨x0,x1,x2,x3,x4⟩,⟨y0,y1,y2,y3,y4,y5⟩⟩:=Bt.out _ Cv.out;by_cases hlt:j < x.mods.length
  case neg =>
   have HE:Hid ((x.mods.any fun t=>decide (t=lo))=false):=by
    have:=HA.out;rw [List.take_of_length_le (by omega)] at this;exact this
   clear HA;go_wp2;go_ret;exact ⟨by first|rfl|(rw [HE.out];rfl),by first|exact jf hp HB.out Cv.out|(rw [hp];exact jf hp HB.out Cv.out)⟩
  obtain ⟨b,o,rfl,hxx,hcz⟩:=He (Hf HM.out Cv.out) j hlt;have hbs:=World.block_lt_of_cell? wr _ hcz;have HXL:=zZ fun W' (hW:Below wr.heap.size wr W')=>And.intro (Bt.out W' (jg Cv.out hW)).1 (And.intro (Bt.out W' (jg Cv.out hW)).2 (show W'.cell? ⟨b,o+j,none⟩=some (.string (mk x.mods[j])) by rw [World.cell?_of_block (w:=wr) (hW.block b hbs)];exact hcz));have HD:=zZ (Below.drew (Below.refl wr.heap.size wr));by_cases he:lo=x.mods[j]
  ·have HE:Hid ((x.mods.any fun t=>decide (t=lo))=true):=gu lo x.mods j (by rw [hxx,←he]);rw [←he] at HXL;have HQ:=zZ (Pv lo);clear HA he hxx hcz hbs HM Bt;go_upto_region 10 with fail
   clear x0 x1 x2 x3 x4 y0 y1 y2 y3 y4 y5;go_cut [44] (fun s wx=>s=.bool true/\Hid (Below wr.heap.size wr wx))
   case first =>
    refine Ri.IX (by kernel_rfl) (by kernel_rfl) (by kernel_rfl) (fun Wx=>Below wr.heap.size wr Wx) (fun kz vs wz=>(fun kx vx wx=>match kx with|0=>vx=pP q 1|1=>vx=.slice (some ⟨b,o,none⟩) x.mods.length lk|2=>vx=iI (j:Nat)|3=>vx=pP b (o+j)|4=>vx=.string (mk lo)|5=>vx=pP p 1|6=>vx=.string (mk lo)|7=>vx=.bool true|_=>True:Nat->Value->World->Prop) kz (vs kz) wz) (fun kz=>[kz]) (by kernel_rfl) (fun jz vs iz vz wz hiz hz=>Ri.wI (F:=(fun kx vx wx=>match kx with|0=>vx=pP q 1|1=>vx=.slice (some ⟨b,o,none⟩) x.mods.length lk|2=>vx=iI (j:Nat)|3=>vx=pP b (o+j)|4=>vx=.string (mk lo)|5=>vx=pP p 1|6=>vx=.string (mk lo)|7=>vx=.bool true|_=>True:Nat->Value->World->Prop)) jz vs iz vz wz hiz hz) HD.out ⟨⟨rfl,?_⟩,⟨rfl,?_⟩,⟨rfl,?_⟩,⟨rfl,?_⟩,⟨rfl,?_⟩,⟨rfl,?_⟩,⟨rfl,?_⟩,⟨rfl,?_⟩,trivial⟩ ?_
    ·intro vs Wx A hA hB hpre K hK;have e4:=(hA 4).trans (show _=pP q 0 by kernel_rfl);clear hA hpre;go_simp;exact hK _ _ hB rfl (fun _ _ h=>h)
    ·intro vs Wx A hA hB hpre K hK;have e37:=tT (hA 37) (by kernel_rfl) (hpre.1 rfl);obtain ⟨⟨x0,x1,x2,x3,x4⟩,⟨y0,y1,y2,y3,y4,y5⟩,hcz⟩:=HXL.out Wx hB;clear hA hpre;go_simp;exact hK _ _ hB rfl (fun _ _ h=>h)
    ·intro vs Wx A hA hB hpre K hK;have e7:=(hA 7).trans (show _=iI (j:Nat) by kernel_rfl);clear hA hpre;go_simp;exact hK _ _ hB rfl (fun _ _ h=>h)
    ·intro vs Wx A hA hB hpre K hK;have e38:=tT (hA 38) (by kernel_rfl) (hpre.1 rfl);have e39:=tT (hA 39) (by kernel_rfl) (hpre.2.1 rfl);clear hA hpre;go_simp;exact hK _ _ hB rfl (fun _ _ h=>h)
    ·intro vs Wx A hA hB hpre K hK;have e40:=tT (hA 40) (by kernel_rfl) (hpre.1 rfl);obtain ⟨⟨x0,x1,x2,x3,x4⟩,⟨y0,y1,y2,y3,y4,y5⟩,hcz⟩:=HXL.out Wx hB;clear hA hpre;go_simp;exact hK _ _ hB rfl (fun _ _ h=>h)
    ·intro vs Wx A hA hB hpre K hK;have e3:=(hA 3).trans (show _=pP p 0 by kernel_rfl);clear hA hpre;go_simp;exact hK _ _ hB rfl (fun _ _ h=>h)
    ·intro vs Wx A hA hB hpre K hK;have e42:=tT (hA 42) (by kernel_rfl) (hpre.1 rfl);obtain ⟨⟨x0,x1,x2,x3,x4⟩,⟨y0,y1,y2,y3,y4,y5⟩,hcz⟩:=HXL.out Wx hB;clear hA hpre;go_simp;exact hK _ _ hB rfl (fun _ _ h=>h)
    ·intro vs Wx A hA hB hpre K hK;have e41:=tT (hA 41) (by kernel_rfl) (hpre.1 rfl);have e43:=tT (hA 43) (by kernel_rfl) (hpre.2.1 rfl);have hq:=HQ.out;clear hA hpre;go_simp;exact hK _ _ hB rfl (fun _ _ h=>h)
    ·intro vs Wx hB hF;have h44:vs 7=.bool true:=hF 7 (by decide);have Cn:=zZ hB;clear hF hB;simp only [Ri.puts];go_simp;go_wp2_with fail
     go_meet
     exact ⟨by first|rfl|exact h44,Cn.out⟩
   case rest =>
    obtain ⟨rfl,HBx⟩:=hcut;have Co:=zZ (jg Cv.out HBx.out);go_wp2;go_ret;exact ⟨by first|rfl|(rw [HE.out];rfl),by first|exact jf hp HB.out Co.out|(rw [hp];exact jf hp HB.out Co.out)⟩
  ·have HN:=zZ (gG lo x.mods j _ hxx HA.out he);have HQ:=zZ (Hl (fun e=>he e.symm:¬ x.mods[j]=lo));clear HA he hxx hcz hbs;generalize x.mods[j]=y at *;go_upto_region 10 with fail
   clear x0 x1 x2 x3 x4 y0 y1 y2 y3 y4 y5;go_cut [44] (fun s wx=>s=.bool false/\Hid (Below wr.heap.size wr wx))
   case first =>
    refine Ri.IX (by kernel_rfl) (by kernel_rfl) (by kernel_rfl) (fun Wx=>Below wr.heap.size wr Wx) (fun kz vs wz=>(fun kx vx wx=>match kx with|0=>vx=pP q 1|1=>vx=.slice (some ⟨b,o,none⟩) x.mods.length lk|2=>vx=iI (j:Nat)|3=>vx=pP b (o+j)|4=>vx=.string (mk y)|5=>vx=pP p 1|6=>vx=.string (mk lo)|7=>vx=.bool false|_=>True:Nat->Value->World->Prop) kz (vs kz) wz) (fun kz=>[kz]) (by kernel_rfl) (fun jz vs iz vz wz hiz hz=>Ri.wI (F:=(fun kx vx wx=>match kx with|0=>vx=pP q 1|1=>vx=.slice (some ⟨b,o,none⟩) x.mods.length lk|2=>vx=iI (j:Nat)|3=>vx=pP b (o+j)|4=>vx=.string (mk y)|5=>vx=pP p 1|6=>vx=.string (mk lo)|7=>vx=.bool false|_=>True:Nat->Value->World->Prop)) jz vs iz vz wz hiz hz) HD.out ⟨⟨rfl,?_⟩,⟨rfl,?_⟩,⟨rfl,?_⟩,⟨rfl,?_⟩,⟨rfl,?_⟩,⟨rfl,?_⟩,⟨rfl,?_⟩,⟨rfl,?_⟩,trivial⟩ ?_
    ·intro vs Wx A hA hB hpre K hK;have e4:=(hA 4).trans (show _=pP q 0 by kernel_rfl);clear hA hpre;go_simp;exact hK _ _ hB rfl (fun _ _ h=>h)
    ·intro vs Wx A hA hB hpre K hK;have e37:=tT (hA 37) (by kernel_rfl) (hpre.1 rfl);obtain ⟨⟨x0,x1,x2,x3,x4⟩,⟨y0,y1,y2,y3,y4,y5⟩,hcz⟩:=HXL.out Wx hB;clear hA hpre;go_simp;exact hK _ _ hB rfl (fun _ _ h=>h)
    ·intro vs Wx A hA hB hpre K hK;have e7:=(hA 7).trans (show _=iI (j:Nat) by kernel_rfl);clear hA hpre;go_simp;exact hK _ _ hB rfl (fun _ _ h=>h)
    ·intro vs Wx A hA hB hpre K hK;have e38:=tT (hA 38) (by kernel_rfl) (hpre.1 rfl);have e39:=tT (hA 39) (by kernel_rfl) (hpre.2.1 rfl);clear hA hpre;go_simp;exact hK _ _ hB rfl (fun _ _ h=>h)
    ·intro vs Wx A hA hB hpre K hK;have e40:=tT (hA 40) (by kernel_rfl) (hpre.1 rfl);obtain ⟨⟨x0,x1,x2,x3,x4⟩,⟨y0,y1,y2,y3,y4,y5⟩,hcz⟩:=HXL.out Wx hB;clear hA hpre;go_simp;exact hK _ _ hB rfl (fun _ _ h=>h)
    ·intro vs Wx A hA hB hpre K hK;have e3:=(hA 3).trans (show _=pP p 0 by kernel_rfl);clear hA hpre;go_simp;exact hK _ _ hB rfl (fun _ _ h=>h)
    ·intro vs Wx A hA hB hpre K hK;have e42:=tT (hA 42) (by kernel_rfl) (hpre.1 rfl);obtain ⟨⟨x0,x1,x2,x3,x4⟩,⟨y0,y1,y2,y3,y4,y5⟩,hcz⟩:=HXL.out Wx hB;clear hA hpre;go_simp;exact hK _ _ hB rfl (fun _ _ h=>h)
    ·intro vs Wx A hA hB hpre K hK;have e41:=tT (hA 41) (by kernel_rfl) (hpre.1 rfl);have e43:=tT (hA 43) (by kernel_rfl) (hpre.2.1 rfl);have hq:=HQ.out;clear hA hpre;go_simp;exact hK _ _ hB rfl (fun _ _ h=>h)
    ·intro vs Wx hB hF;have h44:vs 7=.bool false:=hF 7 (by decide);have Cn:=zZ hB;clear hF hB;simp only [Ri.puts];go_simp;go_wp2_with fail
     go_meet
     exact ⟨by first|rfl|exact h44,Cn.out⟩
   case rest =>
    obtain ⟨rfl,HBx⟩:=hcut;have Co:=zZ (jg Cv.out HBx.out);go_wp2;go_roundg (x.mods.length - (j+1))
    case rel=>exact ⟨j+1,by omega,rfl,by go_num,Co.out,HN.out⟩
    case measure=>omega
theorem NV (x:Ln) (net:Int) (ml:Value) (lo hi:Tx) (n:Int) (ks:List Cd)
  (m:Value) (w:World) (hK:aX All w m ks) (hx:dI All w ml x.mods):Kw x net ml ⟨3,lo,hi,n,ks⟩ m w:=by
 have Bn:Hid (eD x net ⟨3,lo,hi,n,ks⟩=(decide (n < x.units))):=by
  show _=_;rcases ks with _|⟨a,_|⟨b,r⟩⟩<;>rw [eD]<;>rfl
 unfold Kw;rw [Bn.out];show Calls _ _ #[.agg #[iI 3,.string (mk lo),.string (mk hi),iI n,m],_,_] _ _;obtain ⟨hb,hz1,hz2⟩:=jJ w ⟨3,lo,hi,n,ks⟩ m x ml;have HB:=zZ hb;have HX:=zZ hz1;have HL:=zZ hz2;have HK:=zZ (hK.Bu hb);have HM:=zZ (Hf hx hb);obtain ⟨a,k,rfl,hk1,hk2⟩:=hK.form;obtain ⟨la,lk,rfl,hl1,hl2⟩:=G9 hx;clear hK hx hb hz1 hz2 Bn;go_enter Tryz.func159,Tryz.ntmps159
 go_upto_region 1 with fail
 generalize (w.alloc (.cells #[iI 3,.string (mk lo),.string (mk hi),iI n,.slice a ks.length k] 79)).alloc (.cells #[.string (mk x.proc),.slice la x.mods.length lk,iI x.date,iI x.units,iI x.Av,iI x.prior] 48)=W at *;generalize hp:w.heap.size=p at *;obtain ⟨q,hq⟩:∃q,q=p+1:=⟨_,rfl⟩;rw [←hq] at HL ⊢;clear hq;obtain ⟨x0,x1,x2,x3,x4⟩:=jv HX.out;obtain ⟨y0,y1,y2,y3,y4,y5⟩:=jU HL.out;have HW0:=zZ (Below.refl W.heap.size W);go_wp2_with fail
 go_ret;exact ⟨by first|rfl|simp,by first|exact jf hp HB.out HW0.out|(rw [hp];exact jf hp HB.out HW0.out)⟩
theorem NW (x:Ln) (net:Int) (ml:Value) (lo hi:Tx) (n:Int) (ks:List Cd)
  (m:Value) (w:World) (hK:aX All w m ks) (hx:dI All w ml x.mods):Kw x net ml ⟨4,lo,hi,n,ks⟩ m w:=by
 have Bn:Hid (eD x net ⟨4,lo,hi,n,ks⟩=(decide (n < x.Av))):=by
  show _=_;rcases ks with _|⟨a,_|⟨b,r⟩⟩<;>rw [eD]<;>rfl
 unfold Kw;rw [Bn.out];show Calls _ _ #[.agg #[iI 4,.string (mk lo),.string (mk hi),iI n,m],_,_] _ _;obtain ⟨hb,hz1,hz2⟩:=jJ w ⟨4,lo,hi,n,ks⟩ m x ml;have HB:=zZ hb;have HX:=zZ hz1;have HL:=zZ hz2;have HK:=zZ (hK.Bu hb);have HM:=zZ (Hf hx hb);obtain ⟨a,k,rfl,hk1,hk2⟩:=hK.form;obtain ⟨la,lk,rfl,hl1,hl2⟩:=G9 hx;clear hK hx hb hz1 hz2 Bn;go_enter Tryz.func159,Tryz.ntmps159
 go_upto_region 1 with fail
 generalize (w.alloc (.cells #[iI 4,.string (mk lo),.string (mk hi),iI n,.slice a ks.length k] 79)).alloc (.cells #[.string (mk x.proc),.slice la x.mods.length lk,iI x.date,iI x.units,iI x.Av,iI x.prior] 48)=W at *;generalize hp:w.heap.size=p at *;obtain ⟨q,hq⟩:∃q,q=p+1:=⟨_,rfl⟩;rw [←hq] at HL ⊢;clear hq;obtain ⟨x0,x1,x2,x3,x4⟩:=jv HX.out;obtain ⟨y0,y1,y2,y3,y4,y5⟩:=jU HL.out;have HW0:=zZ (Below.refl W.heap.size W);go_wp2_with fail
 go_ret;exact ⟨by first|rfl|simp,by first|exact jf hp HB.out HW0.out|(rw [hp];exact jf hp HB.out HW0.out)⟩
theorem NY (x:Ln) (net:Int) (ml:Value) (lo hi:Tx) (n:Int) (ks:List Cd)
  (m:Value) (w:World) (hK:aX All w m ks) (hx:dI All w ml x.mods):Kw x net ml ⟨5,lo,hi,n,ks⟩ m w:=by
 have Bn:Hid (eD x net ⟨5,lo,hi,n,ks⟩=(decide (net=1))):=by
  show _=_;rcases ks with _|⟨a,_|⟨b,r⟩⟩<;>rw [eD]<;>rfl
 unfold Kw;rw [Bn.out];show Calls _ _ #[.agg #[iI 5,.string (mk lo),.string (mk hi),iI n,m],_,_] _ _;obtain ⟨hb,hz1,hz2⟩:=jJ w ⟨5,lo,hi,n,ks⟩ m x ml;have HB:=zZ hb;have HX:=zZ hz1;have HL:=zZ hz2;have HK:=zZ (hK.Bu hb);have HM:=zZ (Hf hx hb);obtain ⟨a,k,rfl,hk1,hk2⟩:=hK.form;obtain ⟨la,lk,rfl,hl1,hl2⟩:=G9 hx;clear hK hx hb hz1 hz2 Bn;go_enter Tryz.func159,Tryz.ntmps159
 go_upto_region 1 with fail
 generalize (w.alloc (.cells #[iI 5,.string (mk lo),.string (mk hi),iI n,.slice a ks.length k] 79)).alloc (.cells #[.string (mk x.proc),.slice la x.mods.length lk,iI x.date,iI x.units,iI x.Av,iI x.prior] 48)=W at *;generalize hp:w.heap.size=p at *;obtain ⟨q,hq⟩:∃q,q=p+1:=⟨_,rfl⟩;rw [←hq] at HL ⊢;clear hq;obtain ⟨x0,x1,x2,x3,x4⟩:=jv HX.out;obtain ⟨y0,y1,y2,y3,y4,y5⟩:=jU HL.out;have HW0:=zZ (Below.refl W.heap.size W);go_wp2_with fail
 go_ret;exact ⟨by first|rfl|simp,by first|exact jf hp HB.out HW0.out|(rw [hp];exact jf hp HB.out HW0.out)⟩
theorem NZ (x:Ln) (net:Int) (ml:Value) (lo hi:Tx) (n:Int) (ks:List Cd)
  (IH:∀k ∈ ks,∀(m:Value) (w:World),aX All w m k.kids->dI All w ml x.mods->Kw x net ml k m w)
  (m:Value) (w:World) (hK:aX All w m ks) (hx:dI All w ml x.mods):Kw x net ml ⟨6,lo,hi,n,ks⟩ m w:=by
 have Bn:Hid (eD x net ⟨6,lo,hi,n,ks⟩=(!uz x net ks 0)):=by
  show _=_;exact rG x net n lo hi ks
 unfold Kw;rw [Bn.out];show Calls _ _ #[.agg #[iI 6,.string (mk lo),.string (mk hi),iI n,m],_,_] _ _;obtain ⟨B0,HB0⟩:∃B,Hid (uz x net ks 0=B):=⟨_,rfl⟩;rw [HB0.out];have HKD:=zZ fun (i:Nat) (hi1:i<=1) W m (h1:aX All W m ks) (h2:dI All W ml x.mods)=>Oe x net ml ⟨6,lo,hi,n,ks⟩ i hi1 IH m W h1 h2;obtain ⟨hb,hz1,hz2⟩:=jJ w ⟨6,lo,hi,n,ks⟩ m x ml;have HB:=zZ hb;have HX:=zZ hz1;have HL:=zZ hz2;have HK:=zZ (hK.Bu hb);have HM:=zZ (Hf hx hb);obtain ⟨a,k,rfl,hk1,hk2⟩:=hK.form;obtain ⟨la,lk,rfl,hl1,hl2⟩:=G9 hx;clear hK hx hb hz1 hz2 Bn IH;go_enter Tryz.func159,Tryz.ntmps159
 go_upto_region 1 with fail
 generalize (w.alloc (.cells #[iI 6,.string (mk lo),.string (mk hi),iI n,.slice a ks.length k] 79)).alloc (.cells #[.string (mk x.proc),.slice la x.mods.length lk,iI x.date,iI x.units,iI x.Av,iI x.prior] 48)=W at *;generalize hp:w.heap.size=p at *;obtain ⟨q,hq⟩:∃q,q=p+1:=⟨_,rfl⟩;rw [←hq] at HL ⊢;clear hq;obtain ⟨x0,x1,x2,x3,x4⟩:=jv HX.out;obtain ⟨y0,y1,y2,y3,y4,y5⟩:=jU HL.out;have HW0:=zZ (Below.refl W.heap.size W);have HK0:=zZ (HKD.out 0 (by omega) W _ HK.out HM.out);have HK1:=zZ fun W' (hW:Below W.heap.size W W')=>HKD.out 1 (by omega) W' _ (HK.out.Bu hW) (Hf HM.out hW);have Bt:=zZ fun W' (hW:Below W.heap.size W W')=>And.intro (jv (tV HX.out hW)) (jU (tV HL.out hW));change Hid (Calls _ _ _ _ fun e w'=>e=.returned (.bool (uz x net ks 0))/\_) at HK0;rw [HB0.out] at HK0;clear HKD HK HM HB0;go_wp2_with (go_at_call 172;refine HK0.out.mono ?_;rintro e w1 ⟨rfl,hb1⟩;have HB1:=zZ hb1;clear hb1 HK0)
 go_ret;exact ⟨by first|rfl|simp,by first|exact jf hp HB.out HB1.out|(rw [hp];exact jf hp HB.out HB1.out)⟩
theorem N7 (x:Ln) (net:Int) (ml:Value) (lo hi:Tx) (n:Int) (ks:List Cd)
  (IH:∀k ∈ ks,∀(m:Value) (w:World),aX All w m k.kids->dI All w ml x.mods->Kw x net ml k m w)
  (m:Value) (w:World) (hK:aX All w m ks) (hx:dI All w ml x.mods):Kw x net ml ⟨7,lo,hi,n,ks⟩ m w:=by
 have Bn:Hid (eD x net ⟨7,lo,hi,n,ks⟩=(uz x net ks 0 && uz x net ks 1)):=by
  show _=_;exact rF x net n lo hi ks
 unfold Kw;rw [Bn.out];show Calls _ _ #[.agg #[iI 7,.string (mk lo),.string (mk hi),iI n,m],_,_] _ _;obtain ⟨B0,HB0⟩:∃B,Hid (uz x net ks 0=B):=⟨_,rfl⟩;rw [HB0.out];obtain ⟨B1,HB1⟩:∃B,Hid (uz x net ks 1=B):=⟨_,rfl⟩;rw [HB1.out];have HKD:=zZ fun (i:Nat) (hi1:i<=1) W m (h1:aX All W m ks) (h2:dI All W ml x.mods)=>Oe x net ml ⟨7,lo,hi,n,ks⟩ i hi1 IH m W h1 h2;obtain ⟨hb,hz1,hz2⟩:=jJ w ⟨7,lo,hi,n,ks⟩ m x ml;have HB:=zZ hb;have HX:=zZ hz1;have HL:=zZ hz2;have HK:=zZ (hK.Bu hb);have HM:=zZ (Hf hx hb);obtain ⟨a,k,rfl,hk1,hk2⟩:=hK.form;obtain ⟨la,lk,rfl,hl1,hl2⟩:=G9 hx;clear hK hx hb hz1 hz2 Bn IH;go_enter Tryz.func159,Tryz.ntmps159
 go_upto_region 1 with fail
 generalize (w.alloc (.cells #[iI 7,.string (mk lo),.string (mk hi),iI n,.slice a ks.length k] 79)).alloc (.cells #[.string (mk x.proc),.slice la x.mods.length lk,iI x.date,iI x.units,iI x.Av,iI x.prior] 48)=W at *;generalize hp:w.heap.size=p at *;obtain ⟨q,hq⟩:∃q,q=p+1:=⟨_,rfl⟩;rw [←hq] at HL ⊢;clear hq;obtain ⟨x0,x1,x2,x3,x4⟩:=jv HX.out;obtain ⟨y0,y1,y2,y3,y4,y5⟩:=jU HL.out;have HW0:=zZ (Below.refl W.heap.size W);have HK0:=zZ (HKD.out 0 (by omega) W _ HK.out HM.out);have HK1:=zZ fun W' (hW:Below W.heap.size W W')=>HKD.out 1 (by omega) W' _ (HK.out.Bu hW) (Hf HM.out hW);have Bt:=zZ fun W' (hW:Below W.heap.size W W')=>And.intro (jv (tV HX.out hW)) (jU (tV HL.out hW));change Hid (Calls _ _ _ _ fun e w'=>e=.returned (.bool (uz x net ks 0))/\_) at HK0;rw [HB0.out] at HK0;change Hid (∀W' (hW:Below W.heap.size W W'),Calls _ _ _ _ fun e w'=>e=.returned (.bool (uz x net ks 1))/\_) at HK1;rw [HB1.out] at HK1;clear HB1;clear HKD HK HM HB0;go_wp2_with fail
 go_at_call 172
 refine HK0.out.mono ?_;rintro e w1 ⟨rfl,hb1⟩;have HB1:=zZ hb1;clear x0 x1 x2 x3 x4 y0 y1 y2 y3 y4 y5;obtain ⟨⟨x0,x1,x2,x3,x4⟩,⟨y0,y1,y2,y3,y4,y5⟩⟩:=Bt.out _ hb1;have HK2:=zZ (HK1.out _ hb1);clear hb1 HK0 HK1 Bt HW0;cases B0
 ·go_wp2_with fail
  go_ret;exact ⟨by first|rfl|simp,by first|exact jf hp HB.out HB1.out|(rw [hp];exact jf hp HB.out HB1.out)⟩
 ·go_wp2_with (go_at_call 172;refine HK2.out.mono ?_;rintro e w2 ⟨rfl,hb2⟩;have HB2:=zZ (jg HB1.out hb2);clear hb2)
  go_ret;exact ⟨by first|rfl|simp,by first|exact jf hp HB.out HB2.out|(rw [hp];exact jf hp HB.out HB2.out)⟩
theorem N8 (x:Ln) (net:Int) (ml:Value) (lo hi:Tx) (n:Int) (ks:List Cd)
  (IH:∀k ∈ ks,∀(m:Value) (w:World),aX All w m k.kids->dI All w ml x.mods->Kw x net ml k m w)
  (m:Value) (w:World) (hK:aX All w m ks) (hx:dI All w ml x.mods):Kw x net ml ⟨8,lo,hi,n,ks⟩ m w:=by
 have Bn:Hid (eD x net ⟨8,lo,hi,n,ks⟩=(uz x net ks 0 || uz x net ks 1)):=by
  show _=_;exact rH x net n lo hi ks
 unfold Kw;rw [Bn.out];show Calls _ _ #[.agg #[iI 8,.string (mk lo),.string (mk hi),iI n,m],_,_] _ _;obtain ⟨B0,HB0⟩:∃B,Hid (uz x net ks 0=B):=⟨_,rfl⟩;rw [HB0.out];obtain ⟨B1,HB1⟩:∃B,Hid (uz x net ks 1=B):=⟨_,rfl⟩;rw [HB1.out];have HKD:=zZ fun (i:Nat) (hi1:i<=1) W m (h1:aX All W m ks) (h2:dI All W ml x.mods)=>Oe x net ml ⟨8,lo,hi,n,ks⟩ i hi1 IH m W h1 h2;obtain ⟨hb,hz1,hz2⟩:=jJ w ⟨8,lo,hi,n,ks⟩ m x ml;have HB:=zZ hb;have HX:=zZ hz1;have HL:=zZ hz2;have HK:=zZ (hK.Bu hb);have HM:=zZ (Hf hx hb);obtain ⟨a,k,rfl,hk1,hk2⟩:=hK.form;obtain ⟨la,lk,rfl,hl1,hl2⟩:=G9 hx;clear hK hx hb hz1 hz2 Bn IH;go_enter Tryz.func159,Tryz.ntmps159
 go_upto_region 1 with fail
 generalize (w.alloc (.cells #[iI 8,.string (mk lo),.string (mk hi),iI n,.slice a ks.length k] 79)).alloc (.cells #[.string (mk x.proc),.slice la x.mods.length lk,iI x.date,iI x.units,iI x.Av,iI x.prior] 48)=W at *;generalize hp:w.heap.size=p at *;obtain ⟨q,hq⟩:∃q,q=p+1:=⟨_,rfl⟩;rw [←hq] at HL ⊢;clear hq;obtain ⟨x0,x1,x2,x3,x4⟩:=jv HX.out;obtain ⟨y0,y1,y2,y3,y4,y5⟩:=jU HL.out;have HW0:=zZ (Below.refl W.heap.size W);have HK0:=zZ (HKD.out 0 (by omega) W _ HK.out HM.out);have HK1:=zZ fun W' (hW:Below W.heap.size W W')=>HKD.out 1 (by omega) W' _ (HK.out.Bu hW) (Hf HM.out hW);have Bt:=zZ fun W' (hW:Below W.heap.size W W')=>And.intro (jv (tV HX.out hW)) (jU (tV HL.out hW));change Hid (Calls _ _ _ _ fun e w'=>e=.returned (.bool (uz x net ks 0))/\_) at HK0;rw [HB0.out] at HK0;change Hid (∀W' (hW:Below W.heap.size W W'),Calls _ _ _ _ fun e w'=>e=.returned (.bool (uz x net ks 1))/\_) at HK1;rw [HB1.out] at HK1;clear HB1;clear HKD HK HM HB0;go_wp2_with fail
 go_at_call 172
 refine HK0.out.mono ?_;rintro e w1 ⟨rfl,hb1⟩;have HB1:=zZ hb1;clear x0 x1 x2 x3 x4 y0 y1 y2 y3 y4 y5;obtain ⟨⟨x0,x1,x2,x3,x4⟩,⟨y0,y1,y2,y3,y4,y5⟩⟩:=Bt.out _ hb1;have HK2:=zZ (HK1.out _ hb1);clear hb1 HK0 HK1 Bt HW0;cases B0
 ·go_wp2_with (go_at_call 172;refine HK2.out.mono ?_;rintro e w2 ⟨rfl,hb2⟩;have HB2:=zZ (jg HB1.out hb2);clear hb2)
  go_ret;exact ⟨by first|rfl|simp,by first|exact jf hp HB.out HB2.out|(rw [hp];exact jf hp HB.out HB2.out)⟩
 ·go_wp2_with fail
  go_ret;exact ⟨by first|rfl|simp,by first|exact jf hp HB.out HB1.out|(rw [hp];exact jf hp HB.out HB1.out)⟩
theorem N9 (x:Ln) (net:Int) (ml:Value) (lo hi:Tx) (n:Int) (ks:List Cd) (K:Int) (hKK:K < 0 ∨ 8 < K)
  (m:Value) (w:World) (hK:aX All w m ks) (hx:dI All w ml x.mods):Kw x net ml ⟨K,lo,hi,n,ks⟩ m w:=by
 have Bn:Hid (eD x net ⟨K,lo,hi,n,ks⟩=false):=by
  show _=_;exact holds_none x net n K lo hi ks hKK
 unfold Kw;rw [Bn.out];show Calls _ _ #[.agg #[iI K,.string (mk lo),.string (mk hi),iI n,m],_,_] _ _;have b0:(K == 0)=false:=by simp;omega
 have b1:(K == 1)=false:=by simp;omega
 have b2:(K == 2)=false:=by simp;omega
 have b3:(K == 3)=false:=by simp;omega
 have b4:(K == 4)=false:=by simp;omega
 have b5:(K == 5)=false:=by simp;omega
 have b6:(K == 6)=false:=by simp;omega
 have b7:(K == 7)=false:=by simp;omega
 have b8:(K == 8)=false:=by simp;omega
 obtain ⟨hb,hz1,hz2⟩:=jJ w ⟨K,lo,hi,n,ks⟩ m x ml;have HB:=zZ hb;have HX:=zZ hz1;have HL:=zZ hz2;have HK:=zZ (hK.Bu hb);have HM:=zZ (Hf hx hb);obtain ⟨a,k,rfl,hk1,hk2⟩:=hK.form;obtain ⟨la,lk,rfl,hl1,hl2⟩:=G9 hx;clear hK hx hb hz1 hz2 Bn hKK;go_enter Tryz.func159,Tryz.ntmps159
 go_upto_region 1 with fail
 generalize (w.alloc (.cells #[iI K,.string (mk lo),.string (mk hi),iI n,.slice a ks.length k] 79)).alloc (.cells #[.string (mk x.proc),.slice la x.mods.length lk,iI x.date,iI x.units,iI x.Av,iI x.prior] 48)=W at *;generalize hp:w.heap.size=p at *;obtain ⟨q,hq⟩:∃q,q=p+1:=⟨_,rfl⟩;rw [←hq] at HL ⊢;clear hq;obtain ⟨x0,x1,x2,x3,x4⟩:=jv HX.out;obtain ⟨y0,y1,y2,y3,y4,y5⟩:=jU HL.out;have HW0:=zZ (Below.refl W.heap.size W);go_wp2_with fail
 go_ret;exact ⟨by first|rfl|simp,by first|exact jf hp HB.out HW0.out|(rw [hp];exact jf hp HB.out HW0.out)⟩
theorem Oa (x:Ln) (net:Int) (ml:Value):∀(N:Nat) (c:Cd),SizeOf.sizeOf c < N->∀(m:Value) (w:World),aX All w m c.kids->dI All w ml x.mods->Kw x net ml c m w:=by
 intro N;induction N with
 | zero=>intro c h;omega
 | succ N ih =>
  intro c hc m w hK hx;obtain ⟨k,lo,hi,n,ks⟩:=c;have IH:∀c ∈ ks,∀(m:Value) (w:World),aX All w m c.kids->dI All w ml x.mods->Kw x net ml c m w:=fun c hm m w h1 h2=>ih c (by
   have h3:=List.sizeOf_lt_of_mem hm;simp at hc;omega) m w h1 h2
  by_cases h0:k=0
  ·subst h0;exact NS x net ml lo hi n ks m w hK hx
  by_cases h1:k=1
  ·subst h1;exact NT x net ml lo hi n ks m w hK hx
  by_cases h2:k=2
  ·subst h2;exact NU x net ml lo hi n ks m w hK hx
  by_cases h3:k=3
  ·subst h3;exact NV x net ml lo hi n ks m w hK hx
  by_cases h4:k=4
  ·subst h4;exact NW x net ml lo hi n ks m w hK hx
  by_cases h5:k=5
  ·subst h5;exact NY x net ml lo hi n ks m w hK hx
  by_cases h6:k=6
  ·subst h6;exact NZ x net ml lo hi n ks IH m w hK hx
  by_cases h7:k=7
  ·subst h7;exact N7 x net ml lo hi n ks IH m w hK hx
  by_cases h8:k=8
  ·subst h8;exact N8 x net ml lo hi n ks IH m w hK hx
  exact N9 x net ml lo hi n ks k (by omega) m w hK hx
end Ul
namespace Ul
open Go.RowKit
open Pl (Cd St Ru Pn aX dD bY bW Ok1 cdv stv ruv pnv iU jg jv jU iR jf)
open Wo (jI jQ tV qL)
open Cm (Ln)
theorem MW (x:Ln) (net:Int) (ml:Value) (r:Ru) (k u s:Value) (w:World) (h:bW All w r k u s) (hx:dI All w ml x.mods) :
  Calls Tryz.prog 138 #[ruv r k u s,lnv x ml,iI net] w fun e w'=>e=.returned (.bool (gK x net r))/\Below w.heap.size w w':=by
 obtain ⟨T,HT⟩:∃T,Hid (gK x net r=T):=⟨_,rfl⟩;rw [HT.out];obtain ⟨hb,hz1,hz2⟩:=jM w r k u s x ml;have HB:=zZ hb;have HX:=zZ hz1;have HL:=zZ hz2;have HM:=zZ (Hf hx hb);obtain ⟨-,-,-,hk,hu,hs⟩:=h;have HC0:=zZ (Oa x net ml _ r.BS (Nat.lt_succ_self _) _ _ (hk.Bu hb) (Hf hx hb));have HU:=zZ (hu.Bu hb);obtain ⟨ka,kc,rfl,-,-⟩:=hk.form;obtain ⟨ua,uc,rfl,hu1,hu2⟩:=hu.form;obtain ⟨sa,sc,rfl,hs1,hs2,-⟩:=hs.form;have HCA:=zZ fun (c:Cd) (m:Value) (W:World) (h1:aX All W m c.kids) (h2:dI All W ml x.mods)=>Oa x net ml _ c (Nat.lt_succ_self _) m W h1 h2;obtain ⟨la,lk,rfl,hl1,hl2⟩:=G9 hx;unfold Kw at HC0 HCA;clear hk hu hs hx hb hz1 hz2;go_enter Tryz.func138,Tryz.ntmps138
 go_upto_region 1 with fail
 generalize (w.alloc (.cells #[iI r.rank,iI r.BS.kind,sS r.BS.lo,sS r.BS.hi,iI r.BS.n,.slice ka r.BS.kids.length kc,.slice ua r.Ct.length uc,.slice sa r.sets.length sc] 82)).alloc (.cells #[sS x.proc,.slice la x.mods.length lk,iI x.date,iI x.units,iI x.Av,iI x.prior] 48)=W at *;generalize hp:w.heap.size=p at *;obtain ⟨q,hq⟩:∃q,q=p+1:=⟨_,rfl⟩;rw [←hq] at HL ⊢;clear hq;obtain ⟨x0,x1,x2,x3,x4,x5,x6,x7⟩:=iR HX.out;obtain ⟨y0,y1,y2,y3,y4,y5⟩:=jU HL.out;go_wp2_with fail
 go_at_call 159
 refine HC0.out.mono ?_;rintro e w1 ⟨rfl,hb1⟩;have HB1:=zZ (jf hp HB.out hb1);have Cz:=zZ (tV HX.out hb1);have HL1:=zZ (tV HL.out hb1);have HM1:=zZ (Hf HM.out hb1);have HU1:=zZ (HU.out.Bu hb1);have HW0:=zZ (Below.refl w1.heap.size w1);have Bt:=zZ fun W' (hW:Below w1.heap.size w1 W')=>And.intro (iR (tV Cz.out hW)) (jU (tV HL1.out hW));clear hb1 HC0 HX HL HM HU x0 x1 x2 x3 x4 x5 x6 x7 y0 y1 y2 y3 y4 y5 HB;obtain ⟨x0,x1,x2,x3,x4,x5,x6,x7⟩:=iR Cz.out;obtain ⟨y0,y1,y2,y3,y4,y5⟩:=jU HL1.out;have HTE:Hid (T=(eD x net r.BS && !r.Ct.any (eD x net))):=by show _=_;rw [←HT.out];rfl
 clear HT;go_wp2;go_loopg [7,8] (r.Ct.length) (fun g ok i wr=>∃(j:Nat) (Q:Bool),j<=r.Ct.length/\g=r.Ct.length - j/\ok=.bool Q/\i=iI j/\Hid (Below w1.heap.size w1 wr)/\Hid (Q=(eD x net r.BS && !(r.Ct.take j).any (eD x net))))
 case atStart=>exact ⟨0,_,Nat.zero_le _,rfl,rfl,rfl,HW0.out,by show _=_;simp⟩
 case round =>
  clear x0 x1 x2 x3 x4 x5 x6 x7 y0 y1 y2 y3 y4 y5 HW0;obtain ⟨j,Q,hj,hgk,rfl,rfl,Cv,HA⟩:=hrel;obtain ⟨⟨x0,x1,x2,x3,x4,x5,x6,x7⟩,⟨y0,y1,y2,y3,y4,y5⟩⟩:=Bt.out _ Cv.out;by_cases hlt:j < r.Ct.length
  case neg =>
   have HR:Hid (Q=T):=by
    show _=_;have h:=HA.out;rw [List.take_of_length_le (by omega)] at h;rw [HTE.out,h]
   clear HA;go_wp2;go_ret;exact ⟨by first|rfl|(rw [←HR.out];rfl),by first|exact jf hp HB1.out Cv.out|(rw [hp];exact jf hp HB1.out Cv.out)⟩
  obtain ⟨b,o,mv,rfl,hbs,hxx,hcc,hkk,hok⟩:=aX.get (HU1.out.Bu Cv.out) j hlt;have HC:=zZ fun W' (hW:Below wr.heap.size wr W')=>HCA.out r.Ct[j] mv W' (hkk.Bu hW) (Hf HM1.out (jg Cv.out hW));have HXL:=zZ fun W' (hW:Below wr.heap.size wr W')=>And.intro (Bt.out W' (jg Cv.out hW)) (hcc.of (hW.block b hbs));obtain ⟨na,nc,rfl,-,-⟩:=hkk.form;have HSn:=zZ (gB (eD x net) r.Ct j _ hxx);have HD:=zZ (Below.drew (Below.refl wr.heap.size wr));clear hkk hok hxx hcc hbs;generalize r.Ct[j]=kd at *;unfold Pl.aj at HXL;go_upto_region 5 with fail
  clear x0 x1 x2 x3 x4 x5 x6 x7 y0 y1 y2 y3 y4 y5;go_cut [28] (fun s wx=>s=.bool (eD x net kd)/\Hid (Below wr.heap.size wr wx))
  case first =>
   refine Ri.IX (by kernel_rfl) (by kernel_rfl) (by kernel_rfl) (fun Wx=>Below wr.heap.size wr Wx) (fun kz vs wz=>(fun kx vx wx=>match kx with|0=>vx=pP p 6|1=>vx=.slice (some ⟨b,o,none⟩) r.Ct.length uc|2=>vx=iI (j:Nat)|3=>vx=pP b (o+j * 5)|4=>vx=cdv kd (.slice na kd.kids.length nc)|5=>vx=lnv x (.slice la x.mods.length lk)|6=>vx=iI net|7=>vx=.bool (eD x net kd)|_=>True:Nat->Value->World->Prop) kz (vs kz) wz) (fun kz=>[kz]) (by kernel_rfl) (fun jz vs iz vz wz hiz hz=>Ri.wI (F:=(fun kx vx wx=>match kx with|0=>vx=pP p 6|1=>vx=.slice (some ⟨b,o,none⟩) r.Ct.length uc|2=>vx=iI (j:Nat)|3=>vx=pP b (o+j * 5)|4=>vx=cdv kd (.slice na kd.kids.length nc)|5=>vx=lnv x (.slice la x.mods.length lk)|6=>vx=iI net|7=>vx=.bool (eD x net kd)|_=>True:Nat->Value->World->Prop)) jz vs iz vz wz hiz hz) HD.out ⟨⟨rfl,?_⟩,⟨rfl,?_⟩,⟨rfl,?_⟩,⟨rfl,?_⟩,⟨rfl,?_⟩,⟨rfl,?_⟩,⟨rfl,?_⟩,⟨rfl,?_⟩,trivial⟩ ?_
   ·intro vs Wx A hA hB hpre K hK;have e3:=(hA 3).trans (show _=pP p 0 by kernel_rfl);clear hA hpre;go_simp;exact hK _ _ hB rfl (fun _ _ h=>h)
   ·intro vs Wx A hA hB hpre K hK;have e21:=tT (hA 21) (by kernel_rfl) (hpre.1 rfl);obtain ⟨⟨⟨x0,x1,x2,x3,x4,x5,x6,x7⟩,⟨y0,y1,y2,y3,y4,y5⟩⟩,z0,z1,z2,z3,z4⟩:=HXL.out Wx hB;clear hA hpre;go_simp;exact hK _ _ hB rfl (fun _ _ h=>h)
   ·intro vs Wx A hA hB hpre K hK;have e8:=(hA 8).trans (show _=iI (j:Nat) by kernel_rfl);clear hA hpre;go_simp;exact hK _ _ hB rfl (fun _ _ h=>h)
   ·intro vs Wx A hA hB hpre K hK;have e22:=tT (hA 22) (by kernel_rfl) (hpre.1 rfl);have e23:=tT (hA 23) (by kernel_rfl) (hpre.2.1 rfl);clear hA hpre;go_simp;exact hK _ _ hB rfl (fun _ _ h=>h)
   ·intro vs Wx A hA hB hpre K hK;have e24:=tT (hA 24) (by kernel_rfl) (hpre.1 rfl);obtain ⟨⟨⟨x0,x1,x2,x3,x4,x5,x6,x7⟩,⟨y0,y1,y2,y3,y4,y5⟩⟩,z0,z1,z2,z3,z4⟩:=HXL.out Wx hB;clear hA hpre;go_simp;exact hK _ _ hB rfl (fun _ _ h=>h)
   ·intro vs Wx A hA hB hpre K hK;have e4:=(hA 4).trans (show _=pP q 0 by kernel_rfl);obtain ⟨⟨⟨x0,x1,x2,x3,x4,x5,x6,x7⟩,⟨y0,y1,y2,y3,y4,y5⟩⟩,z0,z1,z2,z3,z4⟩:=HXL.out Wx hB;clear hA hpre;go_simp;exact hK _ _ hB rfl (fun _ _ h=>h)
   ·intro vs Wx A hA hB hpre K hK;have e2:=(hA 2).trans (show _=iI net by kernel_rfl);clear hA hpre;go_simp;exact hK _ _ hB rfl (fun _ _ h=>h)
   ·intro vs Wx A hA hB hpre K hK;have e25:=tT (hA 25) (by kernel_rfl) (hpre.1 rfl);have e26:=tT (hA 26) (by kernel_rfl) (hpre.2.1 rfl);have e27:=tT (hA 27) (by kernel_rfl) (hpre.2.2.1 rfl);clear hA hpre;go_simp;go_at_call 159
    refine (HC.out _ hB).mono ?_;rintro e w3 ⟨rfl,hb3⟩;exact hK _ _ (jg hB hb3) rfl (fun _ _ h=>h)
   ·intro vs Wx hB hF;have h28:vs 7=.bool (eD x net kd):=hF 7 (by decide);have Cn:=zZ hB;clear hF hB;simp only [Ri.puts];go_simp;go_wp2_with fail
    go_meet
    exact ⟨by first|rfl|exact h28,Cn.out⟩
  case rest =>
   obtain ⟨rfl,HBx⟩:=hcut;have Co:=zZ (jg Cv.out HBx.out);clear HC HXL Bt;cases hq:eD x net kd
   ·go_wp2;go_roundg (r.Ct.length - (j+1))
    case rel=>exact ⟨j+1,Q,by omega,rfl,by first|rfl|go_num,by go_num,Co.out,by show _=_;rw [HSn.out,hq,Bool.or_false];exact HA.out⟩
    case measure=>omega
   ·go_wp2;go_roundg (r.Ct.length - (j+1))
    case rel=>exact ⟨j+1,false,by omega,rfl,by first|rfl|go_num,by go_num,Co.out,by show _=_;rw [HSn.out,hq,Bool.or_true];simp⟩
    case measure=>omega
end Ul
end Go.Proofs.YtfbfeoplldjbpaaGreatDoor
