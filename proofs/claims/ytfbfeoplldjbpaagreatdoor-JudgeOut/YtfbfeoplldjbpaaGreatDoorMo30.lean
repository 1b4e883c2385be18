/-
  Texts put together (merge.py): UHolds, UApp.
-/
import Derived.Test.YtfbfeoplldjbpaaGreatDoorMo29
import Derived.Test.YtfbfeoplldjbpaaGreatDoorMo5
import Derived.Test.YtfbfeoplldjbpaaGreatDoorMo26
set_option linter.unusedSimpArgs false
set_option linter.unusedVariables false
set_option maxHeartbeats 16000000
set_option maxRecDepth 100000
section
namespace Go.Proofs.YtfbfeoplldjbpaaGreatDoor.Ul
open Go.RowKit
open Pl (Cd St Ru Pn aX dD bY bW Ok1 cdv stv ruv pnv iU jg jv jU iR jf)
open Wo (jI jQ tV qL)
open Cm (Ln)
theorem qP (x:Ln) (net:Int) (ml:Value) (lo hi:Tx) (n:Int) (ks:List Cd)
  (m:Value) (w:World) (hK:aX All w m ks) (hx:dI All w ml x.mods):aV x net ml ⟨0,lo,hi,n,ks⟩ m w:=by
 have HRES:Hid (holdsB x net ⟨0,lo,hi,n,ks⟩=true):=by
  show _=_
  rcases ks with _|⟨a,_|⟨b,r⟩⟩<;>rw [holdsB]<;>rfl
 unfold aV
 rw [HRES.out]
 show Calls _ _ #[.agg #[.int .i64 0,.string (mk lo),.string (mk hi),.int .i64 n,m],_,_] _ _
 obtain ⟨hb,hz1,hz2⟩:=jJ w ⟨0,lo,hi,n,ks⟩ m x ml
 have HB:=Lib.hid hb
 have HX:=Lib.hid hz1
 have HL:=Lib.hid hz2
 have HK:=Lib.hid (hK.grw hb)
 have HM:=Lib.hid (Hf hx hb)
 obtain ⟨a,k,rfl,hk1,hk2⟩:=hK.form
 obtain ⟨la,lk,rfl,hl1,hl2⟩:=G9 hx
 clear hK hx hb hz1 hz2 HRES
 go_enter Tryz.func123,Tryz.ntmps123
 go_upto_region 1 with fail
 generalize (w.alloc (.cells #[.int .i64 0,.string (mk lo),.string (mk hi),.int .i64 n,.slice a ks.length k] 79)).alloc (.cells #[.string (mk x.proc),.slice la x.mods.length lk,.int .i64 x.date,.int .i64 x.units,.int .i64 x.billed,.int .i64 x.prior] 48)=W at *
 generalize hp:w.heap.size=p at *
 obtain ⟨q,hq⟩:∃q,q=p+1:=⟨_,rfl⟩
 rw [←hq] at HL ⊢
 clear hq
 obtain ⟨x0,x1,x2,x3,x4⟩:=jv HX.out
 obtain ⟨y0,y1,y2,y3,y4,y5⟩:=jU HL.out
 have HW0:=Lib.hid (Below.refl W.heap.size W)
 go_wp2_with fail
 go_ret
 exact ⟨by first|rfl|simp,by first|exact jf hp HB.out HW0.out|(rw [hp];exact jf hp HB.out HW0.out)⟩
theorem qQ (x:Ln) (net:Int) (ml:Value) (lo hi:Tx) (n:Int) (ks:List Cd)
  (m:Value) (w:World) (hK:aX All w m ks) (hx:dI All w ml x.mods):aV x net ml ⟨1,lo,hi,n,ks⟩ m w:=by
 have HRES:Hid (holdsB x net ⟨1,lo,hi,n,ks⟩=(!Op.bytesLess (mk x.proc).toList (mk lo).toList && !Op.bytesLess (mk hi).toList (mk x.proc).toList)):=by
  show _=_
  rw [Ho,Ho,Ho]
  rcases ks with _|⟨a,_|⟨b,r⟩⟩<;>rw [holdsB]<;>rfl
 unfold aV
 rw [HRES.out]
 show Calls _ _ #[.agg #[.int .i64 1,.string (mk lo),.string (mk hi),.int .i64 n,m],_,_] _ _
 obtain ⟨hb,hz1,hz2⟩:=jJ w ⟨1,lo,hi,n,ks⟩ m x ml
 have HB:=Lib.hid hb
 have HX:=Lib.hid hz1
 have HL:=Lib.hid hz2
 have HK:=Lib.hid (hK.grw hb)
 have HM:=Lib.hid (Hf hx hb)
 obtain ⟨a,k,rfl,hk1,hk2⟩:=hK.form
 obtain ⟨la,lk,rfl,hl1,hl2⟩:=G9 hx
 clear hK hx hb hz1 hz2 HRES
 go_enter Tryz.func123,Tryz.ntmps123
 go_upto_region 1 with fail
 generalize (w.alloc (.cells #[.int .i64 1,.string (mk lo),.string (mk hi),.int .i64 n,.slice a ks.length k] 79)).alloc (.cells #[.string (mk x.proc),.slice la x.mods.length lk,.int .i64 x.date,.int .i64 x.units,.int .i64 x.billed,.int .i64 x.prior] 48)=W at *
 generalize hp:w.heap.size=p at *
 obtain ⟨q,hq⟩:∃q,q=p+1:=⟨_,rfl⟩
 rw [←hq] at HL ⊢
 clear hq
 obtain ⟨x0,x1,x2,x3,x4⟩:=jv HX.out
 obtain ⟨y0,y1,y2,y3,y4,y5⟩:=jU HL.out
 have HW0:=Lib.hid (Below.refl W.heap.size W)
 have l1:=vk (mk lo).toList (mk x.proc).toList
 have l2:=vk (mk x.proc).toList (mk hi).toList
 cases hq:Op.bytesLess (mk x.proc).toList (mk lo).toList
 all_goals
  rw [hq] at l1
  simp only [Bool.not_true,Bool.not_false] at l1
  go_wp2_with fail
  go_ret
  exact ⟨by first|rfl|(rw [l2];rfl),by first|exact jf hp HB.out HW0.out|(rw [hp];exact jf hp HB.out HW0.out)⟩
theorem qR (x:Ln) (net:Int) (ml:Value) (lo hi:Tx) (n:Int) (ks:List Cd)
  (m:Value) (w:World) (hK:aX All w m ks) (hx:dI All w ml x.mods):aV x net ml ⟨2,lo,hi,n,ks⟩ m w:=by
 have HRES:Hid (holdsB x net ⟨2,lo,hi,n,ks⟩=(x.mods.any fun t=>decide (t=lo))):=by
  show _=_
  rcases ks with _|⟨a,_|⟨b,r⟩⟩<;>rw [holdsB]<;>rfl
 unfold aV
 rw [HRES.out]
 show Calls _ _ #[.agg #[.int .i64 2,.string (mk lo),.string (mk hi),.int .i64 n,m],_,_] _ _
 obtain ⟨hb,hz1,hz2⟩:=jJ w ⟨2,lo,hi,n,ks⟩ m x ml
 have HB:=Lib.hid hb
 have HX:=Lib.hid hz1
 have HL:=Lib.hid hz2
 have HK:=Lib.hid (hK.grw hb)
 have HM:=Lib.hid (Hf hx hb)
 obtain ⟨a,k,rfl,hk1,hk2⟩:=hK.form
 obtain ⟨la,lk,rfl,hl1,hl2⟩:=G9 hx
 clear hK hx hb hz1 hz2 HRES
 go_enter Tryz.func123,Tryz.ntmps123
 go_upto_region 1 with fail
 generalize (w.alloc (.cells #[.int .i64 2,.string (mk lo),.string (mk hi),.int .i64 n,.slice a ks.length k] 79)).alloc (.cells #[.string (mk x.proc),.slice la x.mods.length lk,.int .i64 x.date,.int .i64 x.units,.int .i64 x.billed,.int .i64 x.prior] 48)=W at *
 generalize hp:w.heap.size=p at *
 obtain ⟨q,hq⟩:∃q,q=p+1:=⟨_,rfl⟩
 rw [←hq] at HL ⊢
 clear hq
 obtain ⟨x0,x1,x2,x3,x4⟩:=jv HX.out
 obtain ⟨y0,y1,y2,y3,y4,y5⟩:=jU HL.out
 have HW0:=Lib.hid (Below.refl W.heap.size W)
 have HCt:=Lib.hid (lY x.mods lo _ W HM.out)
 go_wp2_with (go_at_call 150;refine HCt.out.mono ?_;rintro e w1 ⟨rfl,hw⟩;rw [hw];clear hw)
 go_ret
 exact ⟨by first|rfl|simp,by first|exact jf hp HB.out HW0.out|(rw [hp];exact jf hp HB.out HW0.out)⟩
theorem qU (x:Ln) (net:Int) (ml:Value) (lo hi:Tx) (n:Int) (ks:List Cd)
  (m:Value) (w:World) (hK:aX All w m ks) (hx:dI All w ml x.mods):aV x net ml ⟨3,lo,hi,n,ks⟩ m w:=by
 have HRES:Hid (holdsB x net ⟨3,lo,hi,n,ks⟩=(decide (n < x.units))):=by
  show _=_
  rcases ks with _|⟨a,_|⟨b,r⟩⟩<;>rw [holdsB]<;>rfl
 unfold aV
 rw [HRES.out]
 show Calls _ _ #[.agg #[.int .i64 3,.string (mk lo),.string (mk hi),.int .i64 n,m],_,_] _ _
 obtain ⟨hb,hz1,hz2⟩:=jJ w ⟨3,lo,hi,n,ks⟩ m x ml
 have HB:=Lib.hid hb
 have HX:=Lib.hid hz1
 have HL:=Lib.hid hz2
 have HK:=Lib.hid (hK.grw hb)
 have HM:=Lib.hid (Hf hx hb)
 obtain ⟨a,k,rfl,hk1,hk2⟩:=hK.form
 obtain ⟨la,lk,rfl,hl1,hl2⟩:=G9 hx
 clear hK hx hb hz1 hz2 HRES
 go_enter Tryz.func123,Tryz.ntmps123
 go_upto_region 1 with fail
 generalize (w.alloc (.cells #[.int .i64 3,.string (mk lo),.string (mk hi),.int .i64 n,.slice a ks.length k] 79)).alloc (.cells #[.string (mk x.proc),.slice la x.mods.length lk,.int .i64 x.date,.int .i64 x.units,.int .i64 x.billed,.int .i64 x.prior] 48)=W at *
 generalize hp:w.heap.size=p at *
 obtain ⟨q,hq⟩:∃q,q=p+1:=⟨_,rfl⟩
 rw [←hq] at HL ⊢
 clear hq
 obtain ⟨x0,x1,x2,x3,x4⟩:=jv HX.out
 obtain ⟨y0,y1,y2,y3,y4,y5⟩:=jU HL.out
 have HW0:=Lib.hid (Below.refl W.heap.size W)
 go_wp2_with fail
 go_ret
 exact ⟨by first|rfl|simp,by first|exact jf hp HB.out HW0.out|(rw [hp];exact jf hp HB.out HW0.out)⟩
theorem qV (x:Ln) (net:Int) (ml:Value) (lo hi:Tx) (n:Int) (ks:List Cd)
  (m:Value) (w:World) (hK:aX All w m ks) (hx:dI All w ml x.mods):aV x net ml ⟨4,lo,hi,n,ks⟩ m w:=by
 have HRES:Hid (holdsB x net ⟨4,lo,hi,n,ks⟩=(decide (n < x.billed))):=by
  show _=_
  rcases ks with _|⟨a,_|⟨b,r⟩⟩<;>rw [holdsB]<;>rfl
 unfold aV
 rw [HRES.out]
 show Calls _ _ #[.agg #[.int .i64 4,.string (mk lo),.string (mk hi),.int .i64 n,m],_,_] _ _
 obtain ⟨hb,hz1,hz2⟩:=jJ w ⟨4,lo,hi,n,ks⟩ m x ml
 have HB:=Lib.hid hb
 have HX:=Lib.hid hz1
 have HL:=Lib.hid hz2
 have HK:=Lib.hid (hK.grw hb)
 have HM:=Lib.hid (Hf hx hb)
 obtain ⟨a,k,rfl,hk1,hk2⟩:=hK.form
 obtain ⟨la,lk,rfl,hl1,hl2⟩:=G9 hx
 clear hK hx hb hz1 hz2 HRES
 go_enter Tryz.func123,Tryz.ntmps123
 go_upto_region 1 with fail
 generalize (w.alloc (.cells #[.int .i64 4,.string (mk lo),.string (mk hi),.int .i64 n,.slice a ks.length k] 79)).alloc (.cells #[.string (mk x.proc),.slice la x.mods.length lk,.int .i64 x.date,.int .i64 x.units,.int .i64 x.billed,.int .i64 x.prior] 48)=W at *
 generalize hp:w.heap.size=p at *
 obtain ⟨q,hq⟩:∃q,q=p+1:=⟨_,rfl⟩
 rw [←hq] at HL ⊢
 clear hq
 obtain ⟨x0,x1,x2,x3,x4⟩:=jv HX.out
 obtain ⟨y0,y1,y2,y3,y4,y5⟩:=jU HL.out
 have HW0:=Lib.hid (Below.refl W.heap.size W)
 go_wp2_with fail
 go_ret
 exact ⟨by first|rfl|simp,by first|exact jf hp HB.out HW0.out|(rw [hp];exact jf hp HB.out HW0.out)⟩
theorem qW (x:Ln) (net:Int) (ml:Value) (lo hi:Tx) (n:Int) (ks:List Cd)
  (m:Value) (w:World) (hK:aX All w m ks) (hx:dI All w ml x.mods):aV x net ml ⟨5,lo,hi,n,ks⟩ m w:=by
 have HRES:Hid (holdsB x net ⟨5,lo,hi,n,ks⟩=(decide (net=1))):=by
  show _=_
  rcases ks with _|⟨a,_|⟨b,r⟩⟩<;>rw [holdsB]<;>rfl
 unfold aV
 rw [HRES.out]
 show Calls _ _ #[.agg #[.int .i64 5,.string (mk lo),.string (mk hi),.int .i64 n,m],_,_] _ _
 obtain ⟨hb,hz1,hz2⟩:=jJ w ⟨5,lo,hi,n,ks⟩ m x ml
 have HB:=Lib.hid hb
 have HX:=Lib.hid hz1
 have HL:=Lib.hid hz2
 have HK:=Lib.hid (hK.grw hb)
 have HM:=Lib.hid (Hf hx hb)
 obtain ⟨a,k,rfl,hk1,hk2⟩:=hK.form
 obtain ⟨la,lk,rfl,hl1,hl2⟩:=G9 hx
 clear hK hx hb hz1 hz2 HRES
 go_enter Tryz.func123,Tryz.ntmps123
 go_upto_region 1 with fail
 generalize (w.alloc (.cells #[.int .i64 5,.string (mk lo),.string (mk hi),.int .i64 n,.slice a ks.length k] 79)).alloc (.cells #[.string (mk x.proc),.slice la x.mods.length lk,.int .i64 x.date,.int .i64 x.units,.int .i64 x.billed,.int .i64 x.prior] 48)=W at *
 generalize hp:w.heap.size=p at *
 obtain ⟨q,hq⟩:∃q,q=p+1:=⟨_,rfl⟩
 rw [←hq] at HL ⊢
 clear hq
 obtain ⟨x0,x1,x2,x3,x4⟩:=jv HX.out
 obtain ⟨y0,y1,y2,y3,y4,y5⟩:=jU HL.out
 have HW0:=Lib.hid (Below.refl W.heap.size W)
 go_wp2_with fail
 go_ret
 exact ⟨by first|rfl|simp,by first|exact jf hp HB.out HW0.out|(rw [hp];exact jf hp HB.out HW0.out)⟩
theorem qX (x:Ln) (net:Int) (ml:Value) (lo hi:Tx) (n:Int) (ks:List Cd)
  (IH:∀k ∈ ks,∀(m:Value) (w:World),aX All w m k.kids->dI All w ml x.mods->aV x net ml k m w)
  (m:Value) (w:World) (hK:aX All w m ks) (hx:dI All w ml x.mods):aV x net ml ⟨6,lo,hi,n,ks⟩ m w:=by
 have HRES:Hid (holdsB x net ⟨6,lo,hi,n,ks⟩=(!uz x net ks 0)):=by
  show _=_
  exact rG x net n lo hi ks
 unfold aV
 rw [HRES.out]
 show Calls _ _ #[.agg #[.int .i64 6,.string (mk lo),.string (mk hi),.int .i64 n,m],_,_] _ _
 obtain ⟨B0,HB0⟩:∃B,Hid (uz x net ks 0=B):=⟨_,rfl⟩
 rw [HB0.out]
 have HKD:=Lib.hid fun (i:Nat) (hi1:i<=1) W m (h1:aX All W m ks) (h2:dI All W ml x.mods)=>uH x net ml ⟨6,lo,hi,n,ks⟩ i hi1 IH m W h1 h2
 obtain ⟨hb,hz1,hz2⟩:=jJ w ⟨6,lo,hi,n,ks⟩ m x ml
 have HB:=Lib.hid hb
 have HX:=Lib.hid hz1
 have HL:=Lib.hid hz2
 have HK:=Lib.hid (hK.grw hb)
 have HM:=Lib.hid (Hf hx hb)
 obtain ⟨a,k,rfl,hk1,hk2⟩:=hK.form
 obtain ⟨la,lk,rfl,hl1,hl2⟩:=G9 hx
 clear hK hx hb hz1 hz2 HRES IH
 go_enter Tryz.func123,Tryz.ntmps123
 go_upto_region 1 with fail
 generalize (w.alloc (.cells #[.int .i64 6,.string (mk lo),.string (mk hi),.int .i64 n,.slice a ks.length k] 79)).alloc (.cells #[.string (mk x.proc),.slice la x.mods.length lk,.int .i64 x.date,.int .i64 x.units,.int .i64 x.billed,.int .i64 x.prior] 48)=W at *
 generalize hp:w.heap.size=p at *
 obtain ⟨q,hq⟩:∃q,q=p+1:=⟨_,rfl⟩
 rw [←hq] at HL ⊢
 clear hq
 obtain ⟨x0,x1,x2,x3,x4⟩:=jv HX.out
 obtain ⟨y0,y1,y2,y3,y4,y5⟩:=jU HL.out
 have HW0:=Lib.hid (Below.refl W.heap.size W)
 have HK0:=Lib.hid (HKD.out 0 (by omega) W _ HK.out HM.out)
 have HK1:=Lib.hid fun W' (hW:Below W.heap.size W W')=>HKD.out 1 (by omega) W' _ (HK.out.grw hW) (Hf HM.out hW)
 have HXK:=Lib.hid fun W' (hW:Below W.heap.size W W')=>And.intro (jv (tV HX.out hW)) (jU (tV HL.out hW))
 change Hid (Calls _ _ _ _ fun e w'=>e=.returned (.bool (uz x net ks 0))/\_) at HK0
 rw [HB0.out] at HK0
 clear HKD HK HM HB0
 go_wp2_with (go_at_call 151;refine HK0.out.mono ?_;rintro e w1 ⟨rfl,hb1⟩;have HB1:=Lib.hid hb1;clear hb1 HK0)
 go_ret
 exact ⟨by first|rfl|simp,by first|exact jf hp HB.out HB1.out|(rw [hp];exact jf hp HB.out HB1.out)⟩
theorem qY (x:Ln) (net:Int) (ml:Value) (lo hi:Tx) (n:Int) (ks:List Cd)
  (IH:∀k ∈ ks,∀(m:Value) (w:World),aX All w m k.kids->dI All w ml x.mods->aV x net ml k m w)
  (m:Value) (w:World) (hK:aX All w m ks) (hx:dI All w ml x.mods):aV x net ml ⟨7,lo,hi,n,ks⟩ m w:=by
 have HRES:Hid (holdsB x net ⟨7,lo,hi,n,ks⟩=(uz x net ks 0 && uz x net ks 1)):=by
  show _=_
  exact rF x net n lo hi ks
 unfold aV
 rw [HRES.out]
 show Calls _ _ #[.agg #[.int .i64 7,.string (mk lo),.string (mk hi),.int .i64 n,m],_,_] _ _
 obtain ⟨B0,HB0⟩:∃B,Hid (uz x net ks 0=B):=⟨_,rfl⟩
 rw [HB0.out]
 obtain ⟨B1,HB1⟩:∃B,Hid (uz x net ks 1=B):=⟨_,rfl⟩
 rw [HB1.out]
 have HKD:=Lib.hid fun (i:Nat) (hi1:i<=1) W m (h1:aX All W m ks) (h2:dI All W ml x.mods)=>uH x net ml ⟨7,lo,hi,n,ks⟩ i hi1 IH m W h1 h2
 obtain ⟨hb,hz1,hz2⟩:=jJ w ⟨7,lo,hi,n,ks⟩ m x ml
 have HB:=Lib.hid hb
 have HX:=Lib.hid hz1
 have HL:=Lib.hid hz2
 have HK:=Lib.hid (hK.grw hb)
 have HM:=Lib.hid (Hf hx hb)
 obtain ⟨a,k,rfl,hk1,hk2⟩:=hK.form
 obtain ⟨la,lk,rfl,hl1,hl2⟩:=G9 hx
 clear hK hx hb hz1 hz2 HRES IH
 go_enter Tryz.func123,Tryz.ntmps123
 go_upto_region 1 with fail
 generalize (w.alloc (.cells #[.int .i64 7,.string (mk lo),.string (mk hi),.int .i64 n,.slice a ks.length k] 79)).alloc (.cells #[.string (mk x.proc),.slice la x.mods.length lk,.int .i64 x.date,.int .i64 x.units,.int .i64 x.billed,.int .i64 x.prior] 48)=W at *
 generalize hp:w.heap.size=p at *
 obtain ⟨q,hq⟩:∃q,q=p+1:=⟨_,rfl⟩
 rw [←hq] at HL ⊢
 clear hq
 obtain ⟨x0,x1,x2,x3,x4⟩:=jv HX.out
 obtain ⟨y0,y1,y2,y3,y4,y5⟩:=jU HL.out
 have HW0:=Lib.hid (Below.refl W.heap.size W)
 have HK0:=Lib.hid (HKD.out 0 (by omega) W _ HK.out HM.out)
 have HK1:=Lib.hid fun W' (hW:Below W.heap.size W W')=>HKD.out 1 (by omega) W' _ (HK.out.grw hW) (Hf HM.out hW)
 have HXK:=Lib.hid fun W' (hW:Below W.heap.size W W')=>And.intro (jv (tV HX.out hW)) (jU (tV HL.out hW))
 change Hid (Calls _ _ _ _ fun e w'=>e=.returned (.bool (uz x net ks 0))/\_) at HK0
 rw [HB0.out] at HK0
 change Hid (∀W' (hW:Below W.heap.size W W'),Calls _ _ _ _ fun e w'=>e=.returned (.bool (uz x net ks 1))/\_) at HK1
 rw [HB1.out] at HK1
 clear HB1
 clear HKD HK HM HB0
 go_wp2_with fail
 go_at_call 151
 refine HK0.out.mono ?_
 rintro e w1 ⟨rfl,hb1⟩
 have HB1:=Lib.hid hb1
 clear x0 x1 x2 x3 x4 y0 y1 y2 y3 y4 y5
 obtain ⟨⟨x0,x1,x2,x3,x4⟩,⟨y0,y1,y2,y3,y4,y5⟩⟩:=HXK.out _ hb1
 have HK2:=Lib.hid (HK1.out _ hb1)
 clear hb1 HK0 HK1 HXK HW0
 cases B0
 ·go_wp2_with fail
  go_ret
  exact ⟨by first|rfl|simp,by first|exact jf hp HB.out HB1.out|(rw [hp];exact jf hp HB.out HB1.out)⟩
 ·go_wp2_with (go_at_call 151;refine HK2.out.mono ?_;rintro e w2 ⟨rfl,hb2⟩;have HB2:=Lib.hid (jg HB1.out hb2);clear hb2)
  go_ret
  exact ⟨by first|rfl|simp,by first|exact jf hp HB.out HB2.out|(rw [hp];exact jf hp HB.out HB2.out)⟩
theorem qZ (x:Ln) (net:Int) (ml:Value) (lo hi:Tx) (n:Int) (ks:List Cd)
  (IH:∀k ∈ ks,∀(m:Value) (w:World),aX All w m k.kids->dI All w ml x.mods->aV x net ml k m w)
  (m:Value) (w:World) (hK:aX All w m ks) (hx:dI All w ml x.mods):aV x net ml ⟨8,lo,hi,n,ks⟩ m w:=by
 have HRES:Hid (holdsB x net ⟨8,lo,hi,n,ks⟩=(uz x net ks 0 || uz x net ks 1)):=by
  show _=_
  exact rH x net n lo hi ks
 unfold aV
 rw [HRES.out]
 show Calls _ _ #[.agg #[.int .i64 8,.string (mk lo),.string (mk hi),.int .i64 n,m],_,_] _ _
 obtain ⟨B0,HB0⟩:∃B,Hid (uz x net ks 0=B):=⟨_,rfl⟩
 rw [HB0.out]
 obtain ⟨B1,HB1⟩:∃B,Hid (uz x net ks 1=B):=⟨_,rfl⟩
 rw [HB1.out]
 have HKD:=Lib.hid fun (i:Nat) (hi1:i<=1) W m (h1:aX All W m ks) (h2:dI All W ml x.mods)=>uH x net ml ⟨8,lo,hi,n,ks⟩ i hi1 IH m W h1 h2
 obtain ⟨hb,hz1,hz2⟩:=jJ w ⟨8,lo,hi,n,ks⟩ m x ml
 have HB:=Lib.hid hb
 have HX:=Lib.hid hz1
 have HL:=Lib.hid hz2
 have HK:=Lib.hid (hK.grw hb)
 have HM:=Lib.hid (Hf hx hb)
 obtain ⟨a,k,rfl,hk1,hk2⟩:=hK.form
 obtain ⟨la,lk,rfl,hl1,hl2⟩:=G9 hx
 clear hK hx hb hz1 hz2 HRES IH
 go_enter Tryz.func123,Tryz.ntmps123
 go_upto_region 1 with fail
 generalize (w.alloc (.cells #[.int .i64 8,.string (mk lo),.string (mk hi),.int .i64 n,.slice a ks.length k] 79)).alloc (.cells #[.string (mk x.proc),.slice la x.mods.length lk,.int .i64 x.date,.int .i64 x.units,.int .i64 x.billed,.int .i64 x.prior] 48)=W at *
 generalize hp:w.heap.size=p at *
 obtain ⟨q,hq⟩:∃q,q=p+1:=⟨_,rfl⟩
 rw [←hq] at HL ⊢
 clear hq
 obtain ⟨x0,x1,x2,x3,x4⟩:=jv HX.out
 obtain ⟨y0,y1,y2,y3,y4,y5⟩:=jU HL.out
 have HW0:=Lib.hid (Below.refl W.heap.size W)
 have HK0:=Lib.hid (HKD.out 0 (by omega) W _ HK.out HM.out)
 have HK1:=Lib.hid fun W' (hW:Below W.heap.size W W')=>HKD.out 1 (by omega) W' _ (HK.out.grw hW) (Hf HM.out hW)
 have HXK:=Lib.hid fun W' (hW:Below W.heap.size W W')=>And.intro (jv (tV HX.out hW)) (jU (tV HL.out hW))
 change Hid (Calls _ _ _ _ fun e w'=>e=.returned (.bool (uz x net ks 0))/\_) at HK0
 rw [HB0.out] at HK0
 change Hid (∀W' (hW:Below W.heap.size W W'),Calls _ _ _ _ fun e w'=>e=.returned (.bool (uz x net ks 1))/\_) at HK1
 rw [HB1.out] at HK1
 clear HB1
 clear HKD HK HM HB0
 go_wp2_with fail
 go_at_call 151
 refine HK0.out.mono ?_
 rintro e w1 ⟨rfl,hb1⟩
 have HB1:=Lib.hid hb1
 clear x0 x1 x2 x3 x4 y0 y1 y2 y3 y4 y5
 obtain ⟨⟨x0,x1,x2,x3,x4⟩,⟨y0,y1,y2,y3,y4,y5⟩⟩:=HXK.out _ hb1
 have HK2:=Lib.hid (HK1.out _ hb1)
 clear hb1 HK0 HK1 HXK HW0
 cases B0
 ·go_wp2_with (go_at_call 151;refine HK2.out.mono ?_;rintro e w2 ⟨rfl,hb2⟩;have HB2:=Lib.hid (jg HB1.out hb2);clear hb2)
  go_ret
  exact ⟨by first|rfl|simp,by first|exact jf hp HB.out HB2.out|(rw [hp];exact jf hp HB.out HB2.out)⟩
 ·go_wp2_with fail
  go_ret
  exact ⟨by first|rfl|simp,by first|exact jf hp HB.out HB1.out|(rw [hp];exact jf hp HB.out HB1.out)⟩
theorem rC (x:Ln) (net:Int) (ml:Value) (lo hi:Tx) (n:Int) (ks:List Cd) (K:Int) (hKK:K < 0 ∨ 8 < K)
  (m:Value) (w:World) (hK:aX All w m ks) (hx:dI All w ml x.mods):aV x net ml ⟨K,lo,hi,n,ks⟩ m w:=by
 have HRES:Hid (holdsB x net ⟨K,lo,hi,n,ks⟩=false):=by
  show _=_
  exact holds_none x net n K lo hi ks hKK
 unfold aV
 rw [HRES.out]
 show Calls _ _ #[.agg #[.int .i64 K,.string (mk lo),.string (mk hi),.int .i64 n,m],_,_] _ _
 have b0:(K == 0)=false:=by simp;omega
 have b1:(K == 1)=false:=by simp;omega
 have b2:(K == 2)=false:=by simp;omega
 have b3:(K == 3)=false:=by simp;omega
 have b4:(K == 4)=false:=by simp;omega
 have b5:(K == 5)=false:=by simp;omega
 have b6:(K == 6)=false:=by simp;omega
 have b7:(K == 7)=false:=by simp;omega
 have b8:(K == 8)=false:=by simp;omega
 obtain ⟨hb,hz1,hz2⟩:=jJ w ⟨K,lo,hi,n,ks⟩ m x ml
 have HB:=Lib.hid hb
 have HX:=Lib.hid hz1
 have HL:=Lib.hid hz2
 have HK:=Lib.hid (hK.grw hb)
 have HM:=Lib.hid (Hf hx hb)
 obtain ⟨a,k,rfl,hk1,hk2⟩:=hK.form
 obtain ⟨la,lk,rfl,hl1,hl2⟩:=G9 hx
 clear hK hx hb hz1 hz2 HRES hKK
 go_enter Tryz.func123,Tryz.ntmps123
 go_upto_region 1 with fail
 generalize (w.alloc (.cells #[.int .i64 K,.string (mk lo),.string (mk hi),.int .i64 n,.slice a ks.length k] 79)).alloc (.cells #[.string (mk x.proc),.slice la x.mods.length lk,.int .i64 x.date,.int .i64 x.units,.int .i64 x.billed,.int .i64 x.prior] 48)=W at *
 generalize hp:w.heap.size=p at *
 obtain ⟨q,hq⟩:∃q,q=p+1:=⟨_,rfl⟩
 rw [←hq] at HL ⊢
 clear hq
 obtain ⟨x0,x1,x2,x3,x4⟩:=jv HX.out
 obtain ⟨y0,y1,y2,y3,y4,y5⟩:=jU HL.out
 have HW0:=Lib.hid (Below.refl W.heap.size W)
 go_wp2_with fail
 go_ret
 exact ⟨by first|rfl|simp,by first|exact jf hp HB.out HW0.out|(rw [hp];exact jf hp HB.out HW0.out)⟩
theorem rE (x:Ln) (net:Int) (ml:Value):∀(N:Nat) (c:Cd),SizeOf.sizeOf c < N->∀(m:Value) (w:World),aX All w m c.kids->dI All w ml x.mods->aV x net ml c m w:=by
 intro N
 induction N with
 | zero=>intro c h;omega
 | succ N ih =>
  intro c hc m w hK hx
  obtain ⟨k,lo,hi,n,ks⟩:=c
  have IH:∀c ∈ ks,∀(m:Value) (w:World),aX All w m c.kids->dI All w ml x.mods->aV x net ml c m w:=fun c hm m w h1 h2=>ih c (by
   have h3:=List.sizeOf_lt_of_mem hm
   simp at hc
   omega) m w h1 h2
  by_cases h0:k=0
  ·subst h0;exact qP x net ml lo hi n ks m w hK hx
  by_cases h1:k=1
  ·subst h1;exact qQ x net ml lo hi n ks m w hK hx
  by_cases h2:k=2
  ·subst h2;exact qR x net ml lo hi n ks m w hK hx
  by_cases h3:k=3
  ·subst h3;exact qU x net ml lo hi n ks m w hK hx
  by_cases h4:k=4
  ·subst h4;exact qV x net ml lo hi n ks m w hK hx
  by_cases h5:k=5
  ·subst h5;exact qW x net ml lo hi n ks m w hK hx
  by_cases h6:k=6
  ·subst h6;exact qX x net ml lo hi n ks IH m w hK hx
  by_cases h7:k=7
  ·subst h7;exact qY x net ml lo hi n ks IH m w hK hx
  by_cases h8:k=8
  ·subst h8;exact qZ x net ml lo hi n ks IH m w hK hx
  exact rC x net ml lo hi n ks k (by omega) m w hK hx
end Go.Proofs.YtfbfeoplldjbpaaGreatDoor.Ul
end
section
namespace Go.Proofs.YtfbfeoplldjbpaaGreatDoor.Ul
open Go.RowKit
open Pl (Cd St Ru Pn aX dD bY bW Ok1 cdv stv ruv pnv iU jg jv jU iR jf)
open Wo (jI jQ tV qL)
open Cm (Ln)
theorem app_any (x:Ln) (net:Int) (ml:Value) (r:Ru) (k u s:Value) (w:World) (h:bW All w r k u s) (hx:dI All w ml x.mods) :
  Calls Tryz.prog 83 #[ruv r k u s,lnv x ml,.int .i64 net] w fun e w'=>e=.returned (.bool (gK x net r))/\Below w.heap.size w w':=by
 obtain ⟨T,HT⟩:∃T,Hid (gK x net r=T):=⟨_,rfl⟩
 rw [HT.out]
 obtain ⟨hb,hz1,hz2⟩:=jM w r k u s x ml
 have HB:=Lib.hid hb
 have HX:=Lib.hid hz1
 have HL:=Lib.hid hz2
 have HM:=Lib.hid (Hf hx hb)
 obtain ⟨-,-,-,hk,hu,hs⟩:=h
 have HC0:=Lib.hid (rE x net ml _ r.cif (Nat.lt_succ_self _) _ _ (hk.grw hb) (Hf hx hb))
 have HU:=Lib.hid (hu.grw hb)
 obtain ⟨ka,kc,rfl,-,-⟩:=hk.form
 obtain ⟨ua,uc,rfl,hu1,hu2⟩:=hu.form
 obtain ⟨sa,sc,rfl,hs1,hs2,-⟩:=hs.form
 have HCA:=Lib.hid fun (c:Cd) (m:Value) (W:World) (h1:aX All W m c.kids) (h2:dI All W ml x.mods)=>rE x net ml _ c (Nat.lt_succ_self _) m W h1 h2
 obtain ⟨la,lk,rfl,hl1,hl2⟩:=G9 hx
 unfold aV at HC0 HCA
 clear hk hu hs hx hb hz1 hz2
 go_enter Tryz.func83,Tryz.ntmps83
 go_upto_region 1 with fail
 generalize (w.alloc (.cells #[.int .i64 r.rank,.int .i64 r.cif.kind,.string (mk r.cif.lo),.string (mk r.cif.hi),.int .i64 r.cif.n,.slice ka r.cif.kids.length kc,.slice ua r.unl.length uc,.slice sa r.sets.length sc] 82)).alloc (.cells #[.string (mk x.proc),.slice la x.mods.length lk,.int .i64 x.date,.int .i64 x.units,.int .i64 x.billed,.int .i64 x.prior] 48)=W at *
 generalize hp:w.heap.size=p at *
 obtain ⟨q,hq⟩:∃q,q=p+1:=⟨_,rfl⟩
 rw [←hq] at HL ⊢
 clear hq
 obtain ⟨x0,x1,x2,x3,x4,x5,x6,x7⟩:=iR HX.out
 obtain ⟨y0,y1,y2,y3,y4,y5⟩:=jU HL.out
 go_wp2_with fail
 go_at_call 123
 refine HC0.out.mono ?_
 rintro e w1 ⟨rfl,hb1⟩
 have HB1:=Lib.hid (jf hp HB.out hb1)
 have HX1:=Lib.hid (tV HX.out hb1)
 have HL1:=Lib.hid (tV HL.out hb1)
 have HM1:=Lib.hid (Hf HM.out hb1)
 have HU1:=Lib.hid (HU.out.grw hb1)
 have HW0:=Lib.hid (Below.refl w1.heap.size w1)
 have HXK:=Lib.hid fun W' (hW:Below w1.heap.size w1 W')=>And.intro (iR (tV HX1.out hW)) (jU (tV HL1.out hW))
 clear hb1 HC0 HX HL HM HU x0 x1 x2 x3 x4 x5 x6 x7 y0 y1 y2 y3 y4 y5 HB
 obtain ⟨x0,x1,x2,x3,x4,x5,x6,x7⟩:=iR HX1.out
 obtain ⟨y0,y1,y2,y3,y4,y5⟩:=jU HL1.out
 cases hc:holdsB x net r.cif
 ·have HR:Hid (T=false):=by show _=_;rw [←HT.out];unfold gK;rw [hc];rfl
  clear HT HXK HCA hc
  go_wp2
  go_ret
  exact ⟨by first|rfl|(rw [HR.out];rfl),by first|exact jf hp HB1.out HW0.out|(rw [hp];exact jf hp HB1.out HW0.out)⟩
 have HTE:Hid (T = !r.unl.any (holdsB x net)):=by show _=_;rw [←HT.out];unfold gK;rw [hc];rfl
 clear HT hc
 go_wp2
 go_loopg [18] (r.unl.length) (fun g i wr=>∃j:Nat,j<=r.unl.length/\g=r.unl.length - j/\i=.int .i64 j/\Hid (Below w1.heap.size w1 wr)/\Hid ((r.unl.take j).any (holdsB x net)=false))
 case atStart=>exact ⟨0,Nat.zero_le _,rfl,rfl,HW0.out,rfl⟩
 case round =>
  clear x0 x1 x2 x3 x4 x5 x6 x7 y0 y1 y2 y3 y4 y5 HW0
  obtain ⟨j,hj,hgk,rfl,HBr,HA⟩:=hrel
  obtain ⟨⟨x0,x1,x2,x3,x4,x5,x6,x7⟩,⟨y0,y1,y2,y3,y4,y5⟩⟩:=HXK.out _ HBr.out
  by_cases hlt:j < r.unl.length
  case neg =>
   have HR:Hid (T=true):=by
    show _=_
    have h:=HA.out
    rw [List.take_of_length_le (by omega)] at h
    rw [HTE.out,h];rfl
   clear HA
   go_wp2
   go_ret
   exact ⟨by first|rfl|(rw [HR.out];rfl),by first|exact jf hp HB1.out HBr.out|(rw [hp];exact jf hp HB1.out HBr.out)⟩
  obtain ⟨b,o,mv,rfl,hbs,hxx,hcc,hkk,hok⟩:=aX.get (HU1.out.grw HBr.out) j hlt
  obtain ⟨z0,z1,z2,z3,z4⟩:=hcc
  have hbz:=iU wr (.cells #[.int .i64 r.unl[j].kind,.string (mk r.unl[j].lo),.string (mk r.unl[j].hi),.int .i64 r.unl[j].n,mv] 79)
  have HC:=Lib.hid (HCA.out r.unl[j] mv _ (hkk.grw hbz) (Hf HM1.out (jg HBr.out hbz)))
  obtain ⟨na,nc,rfl,-,-⟩:=hkk.form
  have HBz:=Lib.hid (jg HBr.out hbz)
  have HLz:=Lib.hid (HXK.out _ (jg HBr.out hbz)).2
  have HZ:=Lib.hid (heap_alloc_new wr (.cells #[.int .i64 r.unl[j].kind,.string (mk r.unl[j].lo),.string (mk r.unl[j].hi),.int .i64 r.unl[j].n,.slice na r.unl[j].kids.length nc] 79))
  have HHit:=Lib.hid fun e=>gy (holdsB x net) r.unl j _ hxx e
  have HSn:=Lib.hid fun e=>gI (holdsB x net) r.unl j _ hxx HA.out e
  clear hkk hok hxx hbz HA
  generalize r.unl[j]=kd at *
  go_upto_region 6 with fail
  clear x0 x1 x2 x3 x4 x5 x6 x7 y0 y1 y2 y3 y4 y5 z0 z1 z2 z3 z4
  generalize wr.alloc (.cells #[.int .i64 kd.kind,.string (mk kd.lo),.string (mk kd.hi),.int .i64 kd.n,.slice na kd.kids.length nc] 79)=W3 at *
  generalize wr.heap.size=p3 at *
  obtain ⟨y0,y1,y2,y3,y4,y5⟩:=HLz.out
  obtain ⟨z0,z1,z2,z3,z4⟩:=jv HZ.out
  cases hq:holdsB x net kd
  all_goals
   rw [hq] at HC
   go_wp2_with (go_at_call 123;refine HC.out.mono ?_;rintro e w3 ⟨rfl,hb3⟩;have HB3:=Lib.hid (jg HBz.out hb3);clear hb3)
  ·go_roundg (r.unl.length - (j+1))
   case rel=>exact ⟨j+1,by omega,rfl,by go_num,HB3.out,HSn.out hq⟩
   case measure=>omega
  ·have HR:Hid (T=false):=by show _=_;rw [HTE.out,HHit.out hq];rfl
   go_ret
   exact ⟨by first|rfl|(rw [HR.out];rfl),by first|exact jf hp HB1.out HB3.out|(rw [hp];exact jf hp HB1.out HB3.out)⟩
end Go.Proofs.YtfbfeoplldjbpaaGreatDoor.Ul
end
