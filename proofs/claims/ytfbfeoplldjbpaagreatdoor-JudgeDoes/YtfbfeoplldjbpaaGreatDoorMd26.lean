/-
  Texts put together (merge.py): UHolds, UApp, URes.
-/
import Derived.Test.YtfbfeoplldjbpaaGreatDoorMd25
set_option linter.unusedSimpArgs false
set_option linter.unusedVariables false
set_option maxHeartbeats 16000000
set_option maxRecDepth 100000
namespace Go.Proofs.YtfbfeoplldjbpaaGreatDoor
namespace Ul
open Go.RowKit
open Pl (Cd St Ru Pn aX dD bY bW Ok1 cdv stv ruv pnv iU jg jv jU iR jf)
open Wo (jI jQ tV qL)
open Cm (Ln)
theorem qP (x:Ln) (net:Int) (ml:Value) (lo hi:Tx) (n:Int) (ks:List Cd)
  (m:Value) (w:World) (hK:aX All w m ks) (hx:dI All w ml x.mods):aV x net ml ⟨0,lo,hi,n,ks⟩ m w:=by
 have Bn:Hid (eD x net ⟨0,lo,hi,n,ks⟩=true):=by
  show _=_;rcases ks with _|⟨a,_|⟨b,r⟩⟩<;>rw [eD]<;>rfl
 unfold aV;rw [Bn.out];show Calls _ _ #[.agg #[iI 0,.string (mk lo),.string (mk hi),iI n,m],_,_] _ _;obtain ⟨hb,hz1,hz2⟩:=jJ w ⟨0,lo,hi,n,ks⟩ m x ml;have HB:=zZ hb;have HX:=zZ hz1;have HL:=zZ hz2;have HK:=zZ (hK.Bu hb);have HM:=zZ (Hf hx hb);obtain ⟨a,k,rfl,hk1,hk2⟩:=hK.form;obtain ⟨la,lk,rfl,hl1,hl2⟩:=G9 hx;clear hK hx hb hz1 hz2 Bn;go_enter Tryz.func123,Tryz.ntmps123
 go_upto_region 1 with fail
 generalize (w.alloc (.cells #[iI 0,.string (mk lo),.string (mk hi),iI n,.slice a ks.length k] 79)).alloc (.cells #[.string (mk x.proc),.slice la x.mods.length lk,iI x.date,iI x.units,iI x.Av,iI x.prior] 48)=W at *;generalize hp:w.heap.size=p at *;obtain ⟨q,hq⟩:∃q,q=p+1:=⟨_,rfl⟩;rw [←hq] at HL ⊢;clear hq;obtain ⟨x0,x1,x2,x3,x4⟩:=jv HX.out;obtain ⟨y0,y1,y2,y3,y4,y5⟩:=jU HL.out;have HW0:=zZ (Below.refl W.heap.size W);go_wp2_with fail
 go_ret;exact ⟨by first|rfl|simp,by first|exact jf hp HB.out HW0.out|(rw [hp];exact jf hp HB.out HW0.out)⟩
theorem qQ (x:Ln) (net:Int) (ml:Value) (lo hi:Tx) (n:Int) (ks:List Cd)
  (m:Value) (w:World) (hK:aX All w m ks) (hx:dI All w ml x.mods):aV x net ml ⟨1,lo,hi,n,ks⟩ m w:=by
 have Bn:Hid (eD x net ⟨1,lo,hi,n,ks⟩=(!Op.bytesLess (mk x.proc).toList (mk lo).toList && !Op.bytesLess (mk hi).toList (mk x.proc).toList)):=by
  show _=_;rw [Ho,Ho,Ho];rcases ks with _|⟨a,_|⟨b,r⟩⟩<;>rw [eD]<;>rfl
 unfold aV;rw [Bn.out];show Calls _ _ #[.agg #[iI 1,.string (mk lo),.string (mk hi),iI n,m],_,_] _ _;obtain ⟨hb,hz1,hz2⟩:=jJ w ⟨1,lo,hi,n,ks⟩ m x ml;have HB:=zZ hb;have HX:=zZ hz1;have HL:=zZ hz2;have HK:=zZ (hK.Bu hb);have HM:=zZ (Hf hx hb);obtain ⟨a,k,rfl,hk1,hk2⟩:=hK.form;obtain ⟨la,lk,rfl,hl1,hl2⟩:=G9 hx;clear hK hx hb hz1 hz2 Bn;go_enter Tryz.func123,Tryz.ntmps123
 go_upto_region 1 with fail
 generalize (w.alloc (.cells #[iI 1,.string (mk lo),.string (mk hi),iI n,.slice a ks.length k] 79)).alloc (.cells #[.string (mk x.proc),.slice la x.mods.length lk,iI x.date,iI x.units,iI x.Av,iI x.prior] 48)=W at *;generalize hp:w.heap.size=p at *;obtain ⟨q,hq⟩:∃q,q=p+1:=⟨_,rfl⟩;rw [←hq] at HL ⊢;clear hq;obtain ⟨x0,x1,x2,x3,x4⟩:=jv HX.out;obtain ⟨y0,y1,y2,y3,y4,y5⟩:=jU HL.out;have HW0:=zZ (Below.refl W.heap.size W);have l1:=vk (mk lo).toList (mk x.proc).toList;have l2:=vk (mk x.proc).toList (mk hi).toList;cases hq:Op.bytesLess (mk x.proc).toList (mk lo).toList
 all_goals
  rw [hq] at l1;simp only [Bool.not_true,Bool.not_false] at l1;go_wp2_with fail
  go_ret;exact ⟨by first|rfl|(rw [l2];rfl),by first|exact jf hp HB.out HW0.out|(rw [hp];exact jf hp HB.out HW0.out)⟩
theorem qR (x:Ln) (net:Int) (ml:Value) (lo hi:Tx) (n:Int) (ks:List Cd)
  (m:Value) (w:World) (hK:aX All w m ks) (hx:dI All w ml x.mods):aV x net ml ⟨2,lo,hi,n,ks⟩ m w:=by
 have Bn:Hid (eD x net ⟨2,lo,hi,n,ks⟩=(x.mods.any fun t=>decide (t=lo))):=by
  show _=_;rcases ks with _|⟨a,_|⟨b,r⟩⟩<;>rw [eD]<;>rfl
 unfold aV;rw [Bn.out];show Calls _ _ #[.agg #[iI 2,.string (mk lo),.string (mk hi),iI n,m],_,_] _ _;obtain ⟨hb,hz1,hz2⟩:=jJ w ⟨2,lo,hi,n,ks⟩ m x ml;have HB:=zZ hb;have HX:=zZ hz1;have HL:=zZ hz2;have HK:=zZ (hK.Bu hb);have HM:=zZ (Hf hx hb);obtain ⟨a,k,rfl,hk1,hk2⟩:=hK.form;obtain ⟨la,lk,rfl,hl1,hl2⟩:=G9 hx;clear hK hx hb hz1 hz2 Bn;go_enter Tryz.func123,Tryz.ntmps123
 go_upto_region 1 with fail
 generalize (w.alloc (.cells #[iI 2,.string (mk lo),.string (mk hi),iI n,.slice a ks.length k] 79)).alloc (.cells #[.string (mk x.proc),.slice la x.mods.length lk,iI x.date,iI x.units,iI x.Av,iI x.prior] 48)=W at *;generalize hp:w.heap.size=p at *;obtain ⟨q,hq⟩:∃q,q=p+1:=⟨_,rfl⟩;rw [←hq] at HL ⊢;clear hq;obtain ⟨x0,x1,x2,x3,x4⟩:=jv HX.out;obtain ⟨y0,y1,y2,y3,y4,y5⟩:=jU HL.out;have HW0:=zZ (Below.refl W.heap.size W);have HCt:=zZ (lY x.mods lo _ W HM.out);go_wp2_with (go_at_call 150;refine HCt.out.mono ?_;rintro e w1 ⟨rfl,hw⟩;rw [hw];clear hw)
 go_ret;exact ⟨by first|rfl|simp,by first|exact jf hp HB.out HW0.out|(rw [hp];exact jf hp HB.out HW0.out)⟩
theorem qU (x:Ln) (net:Int) (ml:Value) (lo hi:Tx) (n:Int) (ks:List Cd)
  (m:Value) (w:World) (hK:aX All w m ks) (hx:dI All w ml x.mods):aV x net ml ⟨3,lo,hi,n,ks⟩ m w:=by
 have Bn:Hid (eD x net ⟨3,lo,hi,n,ks⟩=(decide (n < x.units))):=by
  show _=_;rcases ks with _|⟨a,_|⟨b,r⟩⟩<;>rw [eD]<;>rfl
 unfold aV;rw [Bn.out];show Calls _ _ #[.agg #[iI 3,.string (mk lo),.string (mk hi),iI n,m],_,_] _ _;obtain ⟨hb,hz1,hz2⟩:=jJ w ⟨3,lo,hi,n,ks⟩ m x ml;have HB:=zZ hb;have HX:=zZ hz1;have HL:=zZ hz2;have HK:=zZ (hK.Bu hb);have HM:=zZ (Hf hx hb);obtain ⟨a,k,rfl,hk1,hk2⟩:=hK.form;obtain ⟨la,lk,rfl,hl1,hl2⟩:=G9 hx;clear hK hx hb hz1 hz2 Bn;go_enter Tryz.func123,Tryz.ntmps123
 go_upto_region 1 with fail
 generalize (w.alloc (.cells #[iI 3,.string (mk lo),.string (mk hi),iI n,.slice a ks.length k] 79)).alloc (.cells #[.string (mk x.proc),.slice la x.mods.length lk,iI x.date,iI x.units,iI x.Av,iI x.prior] 48)=W at *;generalize hp:w.heap.size=p at *;obtain ⟨q,hq⟩:∃q,q=p+1:=⟨_,rfl⟩;rw [←hq] at HL ⊢;clear hq;obtain ⟨x0,x1,x2,x3,x4⟩:=jv HX.out;obtain ⟨y0,y1,y2,y3,y4,y5⟩:=jU HL.out;have HW0:=zZ (Below.refl W.heap.size W);go_wp2_with fail
 go_ret;exact ⟨by first|rfl|simp,by first|exact jf hp HB.out HW0.out|(rw [hp];exact jf hp HB.out HW0.out)⟩
theorem qV (x:Ln) (net:Int) (ml:Value) (lo hi:Tx) (n:Int) (ks:List Cd)
  (m:Value) (w:World) (hK:aX All w m ks) (hx:dI All w ml x.mods):aV x net ml ⟨4,lo,hi,n,ks⟩ m w:=by
 have Bn:Hid (eD x net ⟨4,lo,hi,n,ks⟩=(decide (n < x.Av))):=by
  show _=_;rcases ks with _|⟨a,_|⟨b,r⟩⟩<;>rw [eD]<;>rfl
 unfold aV;rw [Bn.out];show Calls _ _ #[.agg #[iI 4,.string (mk lo),.string (mk hi),iI n,m],_,_] _ _;obtain ⟨hb,hz1,hz2⟩:=jJ w ⟨4,lo,hi,n,ks⟩ m x ml;have HB:=zZ hb;have HX:=zZ hz1;have HL:=zZ hz2;have HK:=zZ (hK.Bu hb);have HM:=zZ (Hf hx hb);obtain ⟨a,k,rfl,hk1,hk2⟩:=hK.form;obtain ⟨la,lk,rfl,hl1,hl2⟩:=G9 hx;clear hK hx hb hz1 hz2 Bn;go_enter Tryz.func123,Tryz.ntmps123
 go_upto_region 1 with fail
 generalize (w.alloc (.cells #[iI 4,.string (mk lo),.string (mk hi),iI n,.slice a ks.length k] 79)).alloc (.cells #[.string (mk x.proc),.slice la x.mods.length lk,iI x.date,iI x.units,iI x.Av,iI x.prior] 48)=W at *;generalize hp:w.heap.size=p at *;obtain ⟨q,hq⟩:∃q,q=p+1:=⟨_,rfl⟩;rw [←hq] at HL ⊢;clear hq;obtain ⟨x0,x1,x2,x3,x4⟩:=jv HX.out;obtain ⟨y0,y1,y2,y3,y4,y5⟩:=jU HL.out;have HW0:=zZ (Below.refl W.heap.size W);go_wp2_with fail
 go_ret;exact ⟨by first|rfl|simp,by first|exact jf hp HB.out HW0.out|(rw [hp];exact jf hp HB.out HW0.out)⟩
theorem qW (x:Ln) (net:Int) (ml:Value) (lo hi:Tx) (n:Int) (ks:List Cd)
  (m:Value) (w:World) (hK:aX All w m ks) (hx:dI All w ml x.mods):aV x net ml ⟨5,lo,hi,n,ks⟩ m w:=by
 have Bn:Hid (eD x net ⟨5,lo,hi,n,ks⟩=(decide (net=1))):=by
  show _=_;rcases ks with _|⟨a,_|⟨b,r⟩⟩<;>rw [eD]<;>rfl
 unfold aV;rw [Bn.out];show Calls _ _ #[.agg #[iI 5,.string (mk lo),.string (mk hi),iI n,m],_,_] _ _;obtain ⟨hb,hz1,hz2⟩:=jJ w ⟨5,lo,hi,n,ks⟩ m x ml;have HB:=zZ hb;have HX:=zZ hz1;have HL:=zZ hz2;have HK:=zZ (hK.Bu hb);have HM:=zZ (Hf hx hb);obtain ⟨a,k,rfl,hk1,hk2⟩:=hK.form;obtain ⟨la,lk,rfl,hl1,hl2⟩:=G9 hx;clear hK hx hb hz1 hz2 Bn;go_enter Tryz.func123,Tryz.ntmps123
 go_upto_region 1 with fail
 generalize (w.alloc (.cells #[iI 5,.string (mk lo),.string (mk hi),iI n,.slice a ks.length k] 79)).alloc (.cells #[.string (mk x.proc),.slice la x.mods.length lk,iI x.date,iI x.units,iI x.Av,iI x.prior] 48)=W at *;generalize hp:w.heap.size=p at *;obtain ⟨q,hq⟩:∃q,q=p+1:=⟨_,rfl⟩;rw [←hq] at HL ⊢;clear hq;obtain ⟨x0,x1,x2,x3,x4⟩:=jv HX.out;obtain ⟨y0,y1,y2,y3,y4,y5⟩:=jU HL.out;have HW0:=zZ (Below.refl W.heap.size W);go_wp2_with fail
 go_ret;exact ⟨by first|rfl|simp,by first|exact jf hp HB.out HW0.out|(rw [hp];exact jf hp HB.out HW0.out)⟩
theorem qX (x:Ln) (net:Int) (ml:Value) (lo hi:Tx) (n:Int) (ks:List Cd)
  (IH:∀k ∈ ks,∀(m:Value) (w:World),aX All w m k.kids->dI All w ml x.mods->aV x net ml k m w)
  (m:Value) (w:World) (hK:aX All w m ks) (hx:dI All w ml x.mods):aV x net ml ⟨6,lo,hi,n,ks⟩ m w:=by
 have Bn:Hid (eD x net ⟨6,lo,hi,n,ks⟩=(!uz x net ks 0)):=by
  show _=_;exact rG x net n lo hi ks
 unfold aV;rw [Bn.out];show Calls _ _ #[.agg #[iI 6,.string (mk lo),.string (mk hi),iI n,m],_,_] _ _;obtain ⟨B0,HB0⟩:∃B,Hid (uz x net ks 0=B):=⟨_,rfl⟩;rw [HB0.out];have HKD:=zZ fun (i:Nat) (hi1:i<=1) W m (h1:aX All W m ks) (h2:dI All W ml x.mods)=>uH x net ml ⟨6,lo,hi,n,ks⟩ i hi1 IH m W h1 h2;obtain ⟨hb,hz1,hz2⟩:=jJ w ⟨6,lo,hi,n,ks⟩ m x ml;have HB:=zZ hb;have HX:=zZ hz1;have HL:=zZ hz2;have HK:=zZ (hK.Bu hb);have HM:=zZ (Hf hx hb);obtain ⟨a,k,rfl,hk1,hk2⟩:=hK.form;obtain ⟨la,lk,rfl,hl1,hl2⟩:=G9 hx;clear hK hx hb hz1 hz2 Bn IH;go_enter Tryz.func123,Tryz.ntmps123
 go_upto_region 1 with fail
 generalize (w.alloc (.cells #[iI 6,.string (mk lo),.string (mk hi),iI n,.slice a ks.length k] 79)).alloc (.cells #[.string (mk x.proc),.slice la x.mods.length lk,iI x.date,iI x.units,iI x.Av,iI x.prior] 48)=W at *;generalize hp:w.heap.size=p at *;obtain ⟨q,hq⟩:∃q,q=p+1:=⟨_,rfl⟩;rw [←hq] at HL ⊢;clear hq;obtain ⟨x0,x1,x2,x3,x4⟩:=jv HX.out;obtain ⟨y0,y1,y2,y3,y4,y5⟩:=jU HL.out;have HW0:=zZ (Below.refl W.heap.size W);have HK0:=zZ (HKD.out 0 (by omega) W _ HK.out HM.out);have HK1:=zZ fun W' (hW:Below W.heap.size W W')=>HKD.out 1 (by omega) W' _ (HK.out.Bu hW) (Hf HM.out hW);have Bt:=zZ fun W' (hW:Below W.heap.size W W')=>And.intro (jv (tV HX.out hW)) (jU (tV HL.out hW));change Hid (Calls _ _ _ _ fun e w'=>e=.returned (.bool (uz x net ks 0))/\_) at HK0;rw [HB0.out] at HK0;clear HKD HK HM HB0;go_wp2_with (go_at_call 151;refine HK0.out.mono ?_;rintro e w1 ⟨rfl,hb1⟩;have HB1:=zZ hb1;clear hb1 HK0)
 go_ret;exact ⟨by first|rfl|simp,by first|exact jf hp HB.out HB1.out|(rw [hp];exact jf hp HB.out HB1.out)⟩
theorem qY (x:Ln) (net:Int) (ml:Value) (lo hi:Tx) (n:Int) (ks:List Cd)
  (IH:∀k ∈ ks,∀(m:Value) (w:World),aX All w m k.kids->dI All w ml x.mods->aV x net ml k m w)
  (m:Value) (w:World) (hK:aX All w m ks) (hx:dI All w ml x.mods):aV x net ml ⟨7,lo,hi,n,ks⟩ m w:=by
 have Bn:Hid (eD x net ⟨7,lo,hi,n,ks⟩=(uz x net ks 0 && uz x net ks 1)):=by
  show _=_;exact rF x net n lo hi ks
 unfold aV;rw [Bn.out];show Calls _ _ #[.agg #[iI 7,.string (mk lo),.string (mk hi),iI n,m],_,_] _ _;obtain ⟨B0,HB0⟩:∃B,Hid (uz x net ks 0=B):=⟨_,rfl⟩;rw [HB0.out];obtain ⟨B1,HB1⟩:∃B,Hid (uz x net ks 1=B):=⟨_,rfl⟩;rw [HB1.out];have HKD:=zZ fun (i:Nat) (hi1:i<=1) W m (h1:aX All W m ks) (h2:dI All W ml x.mods)=>uH x net ml ⟨7,lo,hi,n,ks⟩ i hi1 IH m W h1 h2;obtain ⟨hb,hz1,hz2⟩:=jJ w ⟨7,lo,hi,n,ks⟩ m x ml;have HB:=zZ hb;have HX:=zZ hz1;have HL:=zZ hz2;have HK:=zZ (hK.Bu hb);have HM:=zZ (Hf hx hb);obtain ⟨a,k,rfl,hk1,hk2⟩:=hK.form;obtain ⟨la,lk,rfl,hl1,hl2⟩:=G9 hx;clear hK hx hb hz1 hz2 Bn IH;go_enter Tryz.func123,Tryz.ntmps123
 go_upto_region 1 with fail
 generalize (w.alloc (.cells #[iI 7,.string (mk lo),.string (mk hi),iI n,.slice a ks.length k] 79)).alloc (.cells #[.string (mk x.proc),.slice la x.mods.length lk,iI x.date,iI x.units,iI x.Av,iI x.prior] 48)=W at *;generalize hp:w.heap.size=p at *;obtain ⟨q,hq⟩:∃q,q=p+1:=⟨_,rfl⟩;rw [←hq] at HL ⊢;clear hq;obtain ⟨x0,x1,x2,x3,x4⟩:=jv HX.out;obtain ⟨y0,y1,y2,y3,y4,y5⟩:=jU HL.out;have HW0:=zZ (Below.refl W.heap.size W);have HK0:=zZ (HKD.out 0 (by omega) W _ HK.out HM.out);have HK1:=zZ fun W' (hW:Below W.heap.size W W')=>HKD.out 1 (by omega) W' _ (HK.out.Bu hW) (Hf HM.out hW);have Bt:=zZ fun W' (hW:Below W.heap.size W W')=>And.intro (jv (tV HX.out hW)) (jU (tV HL.out hW));change Hid (Calls _ _ _ _ fun e w'=>e=.returned (.bool (uz x net ks 0))/\_) at HK0;rw [HB0.out] at HK0;change Hid (∀W' (hW:Below W.heap.size W W'),Calls _ _ _ _ fun e w'=>e=.returned (.bool (uz x net ks 1))/\_) at HK1;rw [HB1.out] at HK1;clear HB1;clear HKD HK HM HB0;go_wp2_with fail
 go_at_call 151
 refine HK0.out.mono ?_;rintro e w1 ⟨rfl,hb1⟩;have HB1:=zZ hb1;clear x0 x1 x2 x3 x4 y0 y1 y2 y3 y4 y5;obtain ⟨⟨x0,x1,x2,x3,x4⟩,⟨y0,y1,y2,y3,y4,y5⟩⟩:=Bt.out _ hb1;have HK2:=zZ (HK1.out _ hb1);clear hb1 HK0 HK1 Bt HW0;cases B0
 ·go_wp2_with fail
  go_ret;exact ⟨by first|rfl|simp,by first|exact jf hp HB.out HB1.out|(rw [hp];exact jf hp HB.out HB1.out)⟩
 ·go_wp2_with (go_at_call 151;refine HK2.out.mono ?_;rintro e w2 ⟨rfl,hb2⟩;have HB2:=zZ (jg HB1.out hb2);clear hb2)
  go_ret;exact ⟨by first|rfl|simp,by first|exact jf hp HB.out HB2.out|(rw [hp];exact jf hp HB.out HB2.out)⟩
theorem qZ (x:Ln) (net:Int) (ml:Value) (lo hi:Tx) (n:Int) (ks:List Cd)
  (IH:∀k ∈ ks,∀(m:Value) (w:World),aX All w m k.kids->dI All w ml x.mods->aV x net ml k m w)
  (m:Value) (w:World) (hK:aX All w m ks) (hx:dI All w ml x.mods):aV x net ml ⟨8,lo,hi,n,ks⟩ m w:=by
 have Bn:Hid (eD x net ⟨8,lo,hi,n,ks⟩=(uz x net ks 0 || uz x net ks 1)):=by
  show _=_;exact rH x net n lo hi ks
 unfold aV;rw [Bn.out];show Calls _ _ #[.agg #[iI 8,.string (mk lo),.string (mk hi),iI n,m],_,_] _ _;obtain ⟨B0,HB0⟩:∃B,Hid (uz x net ks 0=B):=⟨_,rfl⟩;rw [HB0.out];obtain ⟨B1,HB1⟩:∃B,Hid (uz x net ks 1=B):=⟨_,rfl⟩;rw [HB1.out];have HKD:=zZ fun (i:Nat) (hi1:i<=1) W m (h1:aX All W m ks) (h2:dI All W ml x.mods)=>uH x net ml ⟨8,lo,hi,n,ks⟩ i hi1 IH m W h1 h2;obtain ⟨hb,hz1,hz2⟩:=jJ w ⟨8,lo,hi,n,ks⟩ m x ml;have HB:=zZ hb;have HX:=zZ hz1;have HL:=zZ hz2;have HK:=zZ (hK.Bu hb);have HM:=zZ (Hf hx hb);obtain ⟨a,k,rfl,hk1,hk2⟩:=hK.form;obtain ⟨la,lk,rfl,hl1,hl2⟩:=G9 hx;clear hK hx hb hz1 hz2 Bn IH;go_enter Tryz.func123,Tryz.ntmps123
 go_upto_region 1 with fail
 generalize (w.alloc (.cells #[iI 8,.string (mk lo),.string (mk hi),iI n,.slice a ks.length k] 79)).alloc (.cells #[.string (mk x.proc),.slice la x.mods.length lk,iI x.date,iI x.units,iI x.Av,iI x.prior] 48)=W at *;generalize hp:w.heap.size=p at *;obtain ⟨q,hq⟩:∃q,q=p+1:=⟨_,rfl⟩;rw [←hq] at HL ⊢;clear hq;obtain ⟨x0,x1,x2,x3,x4⟩:=jv HX.out;obtain ⟨y0,y1,y2,y3,y4,y5⟩:=jU HL.out;have HW0:=zZ (Below.refl W.heap.size W);have HK0:=zZ (HKD.out 0 (by omega) W _ HK.out HM.out);have HK1:=zZ fun W' (hW:Below W.heap.size W W')=>HKD.out 1 (by omega) W' _ (HK.out.Bu hW) (Hf HM.out hW);have Bt:=zZ fun W' (hW:Below W.heap.size W W')=>And.intro (jv (tV HX.out hW)) (jU (tV HL.out hW));change Hid (Calls _ _ _ _ fun e w'=>e=.returned (.bool (uz x net ks 0))/\_) at HK0;rw [HB0.out] at HK0;change Hid (∀W' (hW:Below W.heap.size W W'),Calls _ _ _ _ fun e w'=>e=.returned (.bool (uz x net ks 1))/\_) at HK1;rw [HB1.out] at HK1;clear HB1;clear HKD HK HM HB0;go_wp2_with fail
 go_at_call 151
 refine HK0.out.mono ?_;rintro e w1 ⟨rfl,hb1⟩;have HB1:=zZ hb1;clear x0 x1 x2 x3 x4 y0 y1 y2 y3 y4 y5;obtain ⟨⟨x0,x1,x2,x3,x4⟩,⟨y0,y1,y2,y3,y4,y5⟩⟩:=Bt.out _ hb1;have HK2:=zZ (HK1.out _ hb1);clear hb1 HK0 HK1 Bt HW0;cases B0
 ·go_wp2_with (go_at_call 151;refine HK2.out.mono ?_;rintro e w2 ⟨rfl,hb2⟩;have HB2:=zZ (jg HB1.out hb2);clear hb2)
  go_ret;exact ⟨by first|rfl|simp,by first|exact jf hp HB.out HB2.out|(rw [hp];exact jf hp HB.out HB2.out)⟩
 ·go_wp2_with fail
  go_ret;exact ⟨by first|rfl|simp,by first|exact jf hp HB.out HB1.out|(rw [hp];exact jf hp HB.out HB1.out)⟩
theorem rC (x:Ln) (net:Int) (ml:Value) (lo hi:Tx) (n:Int) (ks:List Cd) (K:Int) (hKK:K < 0 ∨ 8 < K)
  (m:Value) (w:World) (hK:aX All w m ks) (hx:dI All w ml x.mods):aV x net ml ⟨K,lo,hi,n,ks⟩ m w:=by
 have Bn:Hid (eD x net ⟨K,lo,hi,n,ks⟩=false):=by
  show _=_;exact holds_none x net n K lo hi ks hKK
 unfold aV;rw [Bn.out];show Calls _ _ #[.agg #[iI K,.string (mk lo),.string (mk hi),iI n,m],_,_] _ _;have b0:(K == 0)=false:=by simp;omega
 have b1:(K == 1)=false:=by simp;omega
 have b2:(K == 2)=false:=by simp;omega
 have b3:(K == 3)=false:=by simp;omega
 have b4:(K == 4)=false:=by simp;omega
 have b5:(K == 5)=false:=by simp;omega
 have b6:(K == 6)=false:=by simp;omega
 have b7:(K == 7)=false:=by simp;omega
 have b8:(K == 8)=false:=by simp;omega
 obtain ⟨hb,hz1,hz2⟩:=jJ w ⟨K,lo,hi,n,ks⟩ m x ml;have HB:=zZ hb;have HX:=zZ hz1;have HL:=zZ hz2;have HK:=zZ (hK.Bu hb);have HM:=zZ (Hf hx hb);obtain ⟨a,k,rfl,hk1,hk2⟩:=hK.form;obtain ⟨la,lk,rfl,hl1,hl2⟩:=G9 hx;clear hK hx hb hz1 hz2 Bn hKK;go_enter Tryz.func123,Tryz.ntmps123
 go_upto_region 1 with fail
 generalize (w.alloc (.cells #[iI K,.string (mk lo),.string (mk hi),iI n,.slice a ks.length k] 79)).alloc (.cells #[.string (mk x.proc),.slice la x.mods.length lk,iI x.date,iI x.units,iI x.Av,iI x.prior] 48)=W at *;generalize hp:w.heap.size=p at *;obtain ⟨q,hq⟩:∃q,q=p+1:=⟨_,rfl⟩;rw [←hq] at HL ⊢;clear hq;obtain ⟨x0,x1,x2,x3,x4⟩:=jv HX.out;obtain ⟨y0,y1,y2,y3,y4,y5⟩:=jU HL.out;have HW0:=zZ (Below.refl W.heap.size W);go_wp2_with fail
 go_ret;exact ⟨by first|rfl|simp,by first|exact jf hp HB.out HW0.out|(rw [hp];exact jf hp HB.out HW0.out)⟩
theorem rE (x:Ln) (net:Int) (ml:Value):∀(N:Nat) (c:Cd),SizeOf.sizeOf c < N->∀(m:Value) (w:World),aX All w m c.kids->dI All w ml x.mods->aV x net ml c m w:=by
 intro N;induction N with
 | zero=>intro c h;omega
 | succ N ih =>
  intro c hc m w hK hx;obtain ⟨k,lo,hi,n,ks⟩:=c;have IH:∀c ∈ ks,∀(m:Value) (w:World),aX All w m c.kids->dI All w ml x.mods->aV x net ml c m w:=fun c hm m w h1 h2=>ih c (by
   have h3:=List.sizeOf_lt_of_mem hm;simp at hc;omega) m w h1 h2
  by_cases h0:k=0
  ·subst h0;exact qP x net ml lo hi n ks m w hK hx
  by_cases h1:k=1
  ·subst h1;exact qQ x net ml lo hi n ks m w hK hx
  by_cases h2:k=2
  ·subst h2;exact qR x net ml lo hi n ks m w hK hx
  by_cases h3:k=3
  ·subst h3;exact qU x net ml lo hi n ks m w hK hx
  by_cases h4:k=4
  ·subst h4;exact qV x net ml lo hi n ks m w hK hx
  by_cases h5:k=5
  ·subst h5;exact qW x net ml lo hi n ks m w hK hx
  by_cases h6:k=6
  ·subst h6;exact qX x net ml lo hi n ks IH m w hK hx
  by_cases h7:k=7
  ·subst h7;exact qY x net ml lo hi n ks IH m w hK hx
  by_cases h8:k=8
  ·subst h8;exact qZ x net ml lo hi n ks IH m w hK hx
  exact rC x net ml lo hi n ks k (by omega) m w hK hx
end Ul
namespace Ul
open Go.RowKit
open Pl (Cd St Ru Pn aX dD bY bW Ok1 cdv stv ruv pnv iU jg jv jU iR jf)
open Wo (jI jQ tV qL)
open Cm (Ln)
theorem aR (x:Ln) (net:Int) (ml:Value) (r:Ru) (k u s:Value) (w:World) (h:bW All w r k u s) (hx:dI All w ml x.mods) :
  Calls Tryz.prog 83 #[ruv r k u s,lnv x ml,iI net] w fun e w'=>e=.returned (.bool (gK x net r))/\Below w.heap.size w w':=by
 obtain ⟨T,HT⟩:∃T,Hid (gK x net r=T):=⟨_,rfl⟩;rw [HT.out];obtain ⟨hb,hz1,hz2⟩:=jM w r k u s x ml;have HB:=zZ hb;have HX:=zZ hz1;have HL:=zZ hz2;have HM:=zZ (Hf hx hb);obtain ⟨-,-,-,hk,hu,hs⟩:=h;have HC0:=zZ (rE x net ml _ r.BS (Nat.lt_succ_self _) _ _ (hk.Bu hb) (Hf hx hb));have HU:=zZ (hu.Bu hb);obtain ⟨ka,kc,rfl,-,-⟩:=hk.form;obtain ⟨ua,uc,rfl,hu1,hu2⟩:=hu.form;obtain ⟨sa,sc,rfl,hs1,hs2,-⟩:=hs.form;have HCA:=zZ fun (c:Cd) (m:Value) (W:World) (h1:aX All W m c.kids) (h2:dI All W ml x.mods)=>rE x net ml _ c (Nat.lt_succ_self _) m W h1 h2;obtain ⟨la,lk,rfl,hl1,hl2⟩:=G9 hx;unfold aV at HC0 HCA;clear hk hu hs hx hb hz1 hz2;go_enter Tryz.func83,Tryz.ntmps83
 go_upto_region 1 with fail
 generalize (w.alloc (.cells #[iI r.rank,iI r.BS.kind,.string (mk r.BS.lo),.string (mk r.BS.hi),iI r.BS.n,.slice ka r.BS.kids.length kc,.slice ua r.Ct.length uc,.slice sa r.sets.length sc] 82)).alloc (.cells #[.string (mk x.proc),.slice la x.mods.length lk,iI x.date,iI x.units,iI x.Av,iI x.prior] 48)=W at *;generalize hp:w.heap.size=p at *;obtain ⟨q,hq⟩:∃q,q=p+1:=⟨_,rfl⟩;rw [←hq] at HL ⊢;clear hq;obtain ⟨x0,x1,x2,x3,x4,x5,x6,x7⟩:=iR HX.out;obtain ⟨y0,y1,y2,y3,y4,y5⟩:=jU HL.out;go_wp2_with fail
 go_at_call 123
 refine HC0.out.mono ?_;rintro e w1 ⟨rfl,hb1⟩;have HB1:=zZ (jf hp HB.out hb1);have Cz:=zZ (tV HX.out hb1);have HL1:=zZ (tV HL.out hb1);have HM1:=zZ (Hf HM.out hb1);have HU1:=zZ (HU.out.Bu hb1);have HW0:=zZ (Below.refl w1.heap.size w1);have Bt:=zZ fun W' (hW:Below w1.heap.size w1 W')=>And.intro (iR (tV Cz.out hW)) (jU (tV HL1.out hW));clear hb1 HC0 HX HL HM HU x0 x1 x2 x3 x4 x5 x6 x7 y0 y1 y2 y3 y4 y5 HB;obtain ⟨x0,x1,x2,x3,x4,x5,x6,x7⟩:=iR Cz.out;obtain ⟨y0,y1,y2,y3,y4,y5⟩:=jU HL1.out;cases hc:eD x net r.BS
 ·have HR:Hid (T=false):=by show _=_;rw [←HT.out];unfold gK;rw [hc];rfl
  clear HT Bt HCA hc;go_wp2;go_ret;exact ⟨by first|rfl|(rw [HR.out];rfl),by first|exact jf hp HB1.out HW0.out|(rw [hp];exact jf hp HB1.out HW0.out)⟩
 have HTE:Hid (T = !r.Ct.any (eD x net)):=by show _=_;rw [←HT.out];unfold gK;rw [hc];rfl
 clear HT hc;go_wp2;go_loopg [18] (r.Ct.length) (fun g i wr=>∃j:Nat,j<=r.Ct.length/\g=r.Ct.length - j/\i=iI j/\Hid (Below w1.heap.size w1 wr)/\Hid ((r.Ct.take j).any (eD x net)=false))
 case atStart=>exact ⟨0,Nat.zero_le _,rfl,rfl,HW0.out,rfl⟩
 case round =>
  clear x0 x1 x2 x3 x4 x5 x6 x7 y0 y1 y2 y3 y4 y5 HW0;obtain ⟨j,hj,hgk,rfl,Cv,HA⟩:=hrel;obtain ⟨⟨x0,x1,x2,x3,x4,x5,x6,x7⟩,⟨y0,y1,y2,y3,y4,y5⟩⟩:=Bt.out _ Cv.out;by_cases hlt:j < r.Ct.length
  case neg =>
   have HR:Hid (T=true):=by
    show _=_;have h:=HA.out;rw [List.take_of_length_le (by omega)] at h;rw [HTE.out,h];rfl
   clear HA;go_wp2;go_ret;exact ⟨by first|rfl|(rw [HR.out];rfl),by first|exact jf hp HB1.out Cv.out|(rw [hp];exact jf hp HB1.out Cv.out)⟩
  obtain ⟨b,o,mv,rfl,hbs,hxx,hcc,hkk,hok⟩:=aX.get (HU1.out.Bu Cv.out) j hlt;obtain ⟨z0,z1,z2,z3,z4⟩:=hcc;have hbz:=iU wr (.cells #[iI r.Ct[j].kind,.string (mk r.Ct[j].lo),.string (mk r.Ct[j].hi),iI r.Ct[j].n,mv] 79);have HC:=zZ (HCA.out r.Ct[j] mv _ (hkk.Bu hbz) (Hf HM1.out (jg Cv.out hbz)));obtain ⟨na,nc,rfl,-,-⟩:=hkk.form;have HBz:=zZ (jg Cv.out hbz);have HLz:=zZ (Bt.out _ (jg Cv.out hbz)).2;have HZ:=zZ (heap_alloc_new wr (.cells #[iI r.Ct[j].kind,.string (mk r.Ct[j].lo),.string (mk r.Ct[j].hi),iI r.Ct[j].n,.slice na r.Ct[j].kids.length nc] 79));have HHit:=zZ fun e=>gy (eD x net) r.Ct j _ hxx e;have HSn:=zZ fun e=>gI (eD x net) r.Ct j _ hxx HA.out e;clear hkk hok hxx hbz HA;generalize r.Ct[j]=kd at *;go_upto_region 6 with fail
  clear x0 x1 x2 x3 x4 x5 x6 x7 y0 y1 y2 y3 y4 y5 z0 z1 z2 z3 z4;generalize wr.alloc (.cells #[iI kd.kind,.string (mk kd.lo),.string (mk kd.hi),iI kd.n,.slice na kd.kids.length nc] 79)=W3 at *;generalize wr.heap.size=p3 at *;obtain ⟨y0,y1,y2,y3,y4,y5⟩:=HLz.out;obtain ⟨z0,z1,z2,z3,z4⟩:=jv HZ.out;cases hq:eD x net kd
  all_goals
   rw [hq] at HC;go_wp2_with (go_at_call 123;refine HC.out.mono ?_;rintro e w3 ⟨rfl,hb3⟩;have HB3:=zZ (jg HBz.out hb3);clear hb3)
  ·go_roundg (r.Ct.length - (j+1))
   case rel=>exact ⟨j+1,by omega,rfl,by go_num,HB3.out,HSn.out hq⟩
   case measure=>omega
  ·have HR:Hid (T=false):=by show _=_;rw [HTE.out,HHit.out hq];rfl
   go_ret;exact ⟨by first|rfl|(rw [HR.out];rfl),by first|exact jf hp HB1.out HB3.out|(rw [hp];exact jf hp HB1.out HB3.out)⟩
end Ul
namespace Ul
open Go.RowKit
open Pl (Cd St Ru Pn aX dD bY bW Ok1 cdv stv ruv pnv iU jg jv jU iR jf)
open Wo (jI jQ tV qL)
open Cm (Ln)
theorem DC (p:Pn) (m:Value) (x:Ln) (ml:Value) (net:Int) (w:World) (h:bY All w m p.rules) (hx:dI All w ml x.mods) :
  Calls Tryz.prog 46 #[pnv p m,lnv x ml,iI net] w fun e w'=>e=.returned (ji x net p.rules)/\Below w.heap.size w w':=by
 obtain ⟨U,HU⟩:∃U,Hid (ji x net p.rules=U):=⟨_,rfl⟩;rw [HU.out];obtain ⟨hb,hz1,hz2,hz3,hsz⟩:=jL w p m x ml;have HB:=zZ hb;have HX:=zZ hz1;have HL:=zZ hz2;have HR:=zZ hz3;have HSZ:=zZ hsz;have HRu:=zZ (wG h hb hb.size);have HMx:=zZ (wH hx hb hb.size);obtain ⟨ma,mc,rfl,hm1,hm2,hm3⟩:=h.form;have hm3:p.rules.length<=281474976710656:=hm3;obtain ⟨la,lk,rfl,hl1,hl2⟩:=G9 hx;clear h hx hb hz1 hz2 hz3 hsz;go_enter Tryz.func46,Tryz.ntmps46
 go_upto_region 1 with fail
 generalize ((w.alloc (.cells #[iI p.mode,iI p.Ay,iI p.AR,iI p.Bb,iI p.AJ,.slice ma p.rules.length mc] 24)).alloc (.cells #[.string (mk x.proc),.slice la x.mods.length lk,iI x.date,iI x.units,iI x.Av,iI x.prior] 48)).alloc (.cells #[.bool false,.bool false,iI 0,iI 0] 99)=W1 at *;generalize hp:w.heap.size=p0 at *;obtain ⟨q1,hq1⟩:∃q1,q1=p0+1:=⟨_,rfl⟩;obtain ⟨rb,hrb⟩:∃rb,rb=q1+1:=⟨_,rfl⟩;rw [←hq1] at HL ⊢;rw [←hrb];rw [show p0+2=rb by omega] at HR;have CR:Hid (p0 < W1.heap.size/\q1 < W1.heap.size/\rb < W1.heap.size/\p0<=rb):=by have:=HSZ.out;exact ⟨by omega,by omega,by omega,by omega⟩
 clear hq1 hrb HSZ;have hb2:=iU W1 (.cells (chC (-1) (-1) (-1) (-1) 0 0 0 0) 135);have HQ:Hid (ak (W1.alloc (.cells (chC (-1) (-1) (-1) (-1) 0 0 0 0) 135)) W1.heap.size (-1) (-1) (-1) (-1) 0 0 0 0):=heap_alloc_new W1 _;have HX2:=zZ (tV HX.out hb2);have HL2:=zZ (tV HL.out hb2);have HR2:=zZ (tV HR.out hb2);have HRu2:=zZ (HRu.out.move (Below.yu hb2));have HMx2:=zZ (dI.move HMx.out (Below.yu hb2));have HB2:=zZ (jf hp HB.out hb2);have HQL:=zZ (show W1.heap.size < (W1.alloc (.cells (chC (-1) (-1) (-1) (-1) 0 0 0 0) 135)).heap.size by simp);clear hb2 HX HL HR HRu HMx HB;go_upto_region 2 with fail
 generalize W1.alloc (.cells #[iI (-1),iI (-1),iI (-1),iI (-1),iI (-1),iI 0,iI 0,iI 0,iI 0,iI 0] 135)=W2 at *;generalize W1.heap.size=q at *;obtain ⟨x0,x1,x2,x3,x4,x5⟩:=jU HX2.out;have Bt:=zZ fun W' (hW:Below q W2 W')=>And.intro (jU (tX HX2.out hW CR.out.1)) (jU (tX HL2.out hW CR.out.2.1));have HW0:=zZ (Below.refl q W2);go_wp2;go_loopg [15] (p.rules.length) (fun g i wr=>∃(j:Nat) (A1 A2 A3 A4 V1 V2 V3 V4:Int),j<=p.rules.length/\g=p.rules.length - j/\i=iI j/\Hid (Below q W2 wr)/\Hid (ak wr q A1 A2 A3 A4 V1 V2 V3 V4)/\Hid ((A1,V1)=jm x net 1 (p.rules.take j))/\Hid ((A2,V2)=jm x net 2 (p.rules.take j))/\Hid ((A3,V3)=jm x net 3 (p.rules.take j))/\Hid ((A4,V4)=jm x net 4 (p.rules.take j)))
 case atStart=>exact ⟨0,-1,-1,-1,-1,0,0,0,0,Nat.zero_le _,rfl,rfl,HW0.out,HQ.out,rfl,rfl,rfl,rfl⟩
 case round =>
  clear x0 x1 x2 x3 x4 x5 HW0 HQ;obtain ⟨j,A1,A2,A3,A4,V1,V2,V3,V4,hj,hgk,rfl,Cv,HQ,E1,E2,E3,E4⟩:=hrel;obtain ⟨⟨x0,x1,x2,x3,x4,x5⟩,⟨y0,y1,y2,y3,y4,y5⟩⟩:=Bt.out _ Cv.out;by_cases hlt:j < p.rules.length
  case neg =>
   have HE:Hid (U=jl V1 V2 V3 V4):=by
    show _=_;have e1:=E1.out;have e2:=E2.out;have e3:=E3.out;have e4:=E4.out;rw [List.take_of_length_le (by omega)] at e1 e2 e3 e4;rw [←HU.out];show jl _ _ _ _=_;rw [Hz e1,Hz e2,Hz e3,Hz e4]
   have Co:=zZ (jk q A1 A2 A3 A4 V1 V2 V3 V4 wr HQ.out);have HRr:=zZ (tX HR2.out Cv.out CR.out.2.2.1);have Cq:=zZ (HB2.out.trans (Cv.out.mono (show p0<=q from Nat.le_of_lt CR.out.1)));clear E1 E2 E3 E4 HU Bt;go_wp2_with fail
   go_at_call 85
   refine Co.out.mono ?_;rintro e w6 ⟨rfl,hb6⟩;have HR6:=zZ (tV HRr.out hb6);have HB6:=zZ (iZ Cq.out (by have h1:=HQL.out;have h2:=Cv.out.size;have h3:=CR.out.1;omega) hb6);clear hb6 Co HRr HQ Cv x0 x1 x2 x3 x4 x5 y0 y1 y2 y3 y4 y5;obtain ⟨⟨m0,m1,m2,m3⟩,f0,f1,f2,f3⟩:=jw HR6.out;go_wp2_with fail
   have HN:=zZ (BM HR6.out (.bool (V1 == 1)) (.bool (V2 == 1)) (iI V3) (iI V4));have HB7:=zZ (BK HB6.out rb CR.out.2.2.2 (.bool (V1 == 1)) (.bool (V2 == 1)) (iI V3) (iI V4));unfold BJ at HN HB7;generalize (((w6.setCell ⟨rb,0,none⟩ (.bool (V1 == 1))).setCell ⟨rb,1,none⟩ (.bool (V2 == 1))).setCell ⟨rb,2,none⟩ (iI V3)).setCell ⟨rb,3,none⟩ (iI V4)=w7 at *;clear m0 m1 m2 m3 f0 f1 f2 f3;obtain ⟨⟨r0,r1,r2,r3⟩,-⟩:=jw HN.out;refine bodyPost_ret (v:=jl V1 V2 V3 V4) (by simp [results,Tryz.results46,go_sem,r0,r1,r2,r3]) rfl ⟨by rw [HE.out],?_⟩;first|exact HB7.out|(rw [hp];exact HB7.out)
  obtain ⟨b,o,kv,uv,sv,rfl,hbs,hxx,hcc,hin⟩:=bY.get (HRu2.out.move (Below.yu Cv.out)) j hlt;obtain ⟨z0,z1,z2,z3,z4,z5,z6,z7⟩:=hcc;obtain ⟨-,-,-,hk1,hk2,hk3⟩:=id hin;obtain ⟨ka,kc,rfl,-,-⟩:=hk1.form;obtain ⟨ua,uc,rfl,-,-⟩:=hk2.form;obtain ⟨sa,sc,rfl,-,-,-⟩:=hk3.form;have hqw:q < wr.heap.size:=Nat.lt_of_lt_of_le HQL.out Cv.out.size;have hbz:=iU wr (.cells #[iI p.rules[j].rank,iI p.rules[j].BS.kind,.string (mk p.rules[j].BS.lo),.string (mk p.rules[j].BS.hi),iI p.rules[j].BS.n,.slice ka p.rules[j].BS.kids.length kc,.slice ua p.rules[j].Ct.length uc,.slice sa p.rules[j].sets.length sc] 82);have HZ:=zZ (heap_alloc_new wr (.cells #[iI p.rules[j].rank,iI p.rules[j].BS.kind,.string (mk p.rules[j].BS.lo),.string (mk p.rules[j].BS.hi),iI p.rules[j].BS.n,.slice ka p.rules[j].BS.kids.length kc,.slice ua p.rules[j].Ct.length uc,.slice sa p.rules[j].sets.length sc] 82));have HBz:=zZ (iZ Cv.out (Nat.le_of_lt hqw) hbz);have hbq:=hbz.mono (Nat.le_of_lt hqw);have HAp:=zZ (aR x net _ p.rules[j] _ _ _ _ (fE hin hbq) (fJ HMx2.out HBz.out));have HSt:=zZ (hk3.move (Below.yu hbq));have HQz:=zZ (HQ.out.far hbz);have HXz:=zZ (Bt.out _ HBz.out);have HQS:=zZ (show q<=(wr.alloc (.cells #[iI p.rules[j].rank,iI p.rules[j].BS.kind,.string (mk p.rules[j].BS.lo),.string (mk p.rules[j].BS.hi),iI p.rules[j].BS.n,.slice ka p.rules[j].BS.kids.length kc,.slice ua p.rules[j].Ct.length uc,.slice sa p.rules[j].sets.length sc] 82)).heap.size from Nat.le_of_lt (Nat.lt_of_lt_of_le hqw hbz.size));have N1:=zZ (jq x net 1 p.rules j _ hxx);have N2:=zZ (jq x net 2 p.rules j _ hxx);have N3:=zZ (jq x net 3 p.rules j _ hxx);have N4:=zZ (jq x net 4 p.rules j _ hxx);rw [←E1.out] at N1;rw [←E2.out] at N2;rw [←E3.out] at N3;rw [←E4.out] at N4;clear hin hk1 hk2 hk3 hxx hbs hbz hbq hqw HQ Cv E1 E2 E3 E4;generalize p.rules[j]=r at *;go_upto_region 5 with fail
  clear x0 x1 x2 x3 x4 x5 y0 y1 y2 y3 y4 y5 z0 z1 z2 z3 z4 z5 z6 z7;generalize wr.alloc (.cells #[iI r.rank,iI r.BS.kind,.string (mk r.BS.lo),.string (mk r.BS.hi),iI r.BS.n,.slice ka r.BS.kids.length kc,.slice ua r.Ct.length uc,.slice sa r.sets.length sc] 82)=W3 at *;generalize wr.heap.size=s3 at *;obtain ⟨⟨x0,x1,x2,x3,x4,x5⟩,⟨y0,y1,y2,y3,y4,y5⟩⟩:=HXz.out;obtain ⟨z0,z1,z2,z3,z4,z5,z6,z7⟩:=iR HZ.out;go_wp2_with fail
  go_at_call 83
  refine HAp.out.mono ?_;rintro e w4 ⟨rfl,hb4⟩;have hb4q:=hb4.mono HQS.out;have HB4:=zZ (HBz.out.trans hb4q);have HZ4:=zZ (tV HZ.out hb4);have HQ4:=zZ (HQz.out.far hb4);have HSt4:=zZ (HSt.out.move (Below.yu hb4q));have HTk:=zZ (iA r (.slice ka r.BS.kids.length kc) (.slice ua r.Ct.length uc) _ q A1 A2 A3 A4 V1 V2 V3 V4 w4 HSt4.out HQ4.out);clear hb4 hb4q HAp HZ HQz HSt HBz HXz HQS HSt4 x0 x1 x2 x3 x4 x5 y0 y1 y2 y3 y4 y5 z0 z1 z2 z3 z4 z5 z6 z7;obtain ⟨z0,z1,z2,z3,z4,z5,z6,z7⟩:=iR HZ4.out;cases hq:gK x net r
  ·clear HTk;go_wp2;go_roundg (p.rules.length - (j+1))
   case rel=>exact ⟨j+1,A1,A2,A3,A4,V1,V2,V3,V4,by omega,rfl,by go_num,HB4.out,HQ4.out,by show _=_;rw [N1.out,Gf hq],by show _=_;rw [N2.out,Gf hq],by show _=_;rw [N3.out,Gf hq],by show _=_;rw [N4.out,Gf hq]⟩
   case measure=>omega
  ·go_wp2_with (go_at_call 84;refine HTk.out.mono ?_;rintro e w5 ⟨rfl,hb5,hq5⟩;have CF:=zZ (HB4.out.trans hb5);have HQ5:=zZ hq5;clear hb5 hq5)
   go_roundg (p.rules.length - (j+1))
   case rel=>exact ⟨j+1,_,_,_,_,_,_,_,_,by omega,rfl,by go_num,CF.out,HQ5.out,by show _=_;rw [N1.out,Gg,if_pos hq],by show _=_;rw [N2.out,Gg,if_pos hq],by show _=_;rw [N3.out,Gg,if_pos hq],by show _=_;rw [N4.out,Gg,if_pos hq]⟩
   case measure=>omega
end Ul
end Go.Proofs.YtfbfeoplldjbpaaGreatDoor
