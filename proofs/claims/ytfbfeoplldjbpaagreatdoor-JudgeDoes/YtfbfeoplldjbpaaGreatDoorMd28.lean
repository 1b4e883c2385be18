/-
  Texts put together (merge.py): XDeny2.
-/
import Derived.Test.YtfbfeoplldjbpaaGreatDoorMd27
set_option linter.unusedSimpArgs false
set_option linter.unusedVariables false
set_option maxHeartbeats 16000000
set_option maxRecDepth 100000
namespace Go.Proofs.YtfbfeoplldjbpaaGreatDoor
namespace Ex
open Go.RowKit
open Wo (Wd jI jQ tV qL iU jg)
open Cm (Ln bH bg lnv)
theorem ou (e:Ed) (l:List Ln) (v:Value) (i:Nat) (x:Ln) (w:World) (h:bH All w v l) (hi:l[i]?=some x):Calls Tryz.prog 126 #[edv e,v,iI (i:Nat)] w fun r w'=>r=.returned (.bool (exB e l i x))/\Below w.heap.size w w':=by
 obtain ⟨k,ea,eb,YB,en⟩:=e;show Calls _ _ #[.agg #[iI k,.string (mk ea),.string (mk eb),.bool YB,iI en],v,iI (i:Nat)] _ fun r w'=>r=.returned (.bool (if x.proc=ea then hasB (l.take i) eb x.date else if x.proc=eb then hasB (l.take i) ea x.date else false))/\Below w.heap.size w w';have HL:=zZ h;obtain ⟨la,lc,rfl,hl1,hl2⟩:=Cm.bH.form h;obtain ⟨b,oo,rfl⟩:=vY h hi;obtain ⟨m,hcc,hm⟩:=vG h hi;have hlt:i < l.length:=(List.getElem?_eq_some_iff.1 hi).1;have hltz:(i:Int) < (l.length:Int):=by omega
 have hicz:(i:Int)<=(lc:Int):=by omega
 have hi0:(0:Int)<=(i:Int):=by omega
 have hi1z:(i:Int)+1<=(l.length:Int):=by omega
 have hi2z:(l.length:Int)<=(lc:Int):=by omega
 have hi3z:(0:Int)<=(i:Int)+1:=by omega
 obtain ⟨ma,mc,rfl,-,-⟩:=Cm.dI.form hm;obtain ⟨k0,k1,k2,k3,k4,k5⟩:=hcc;have hb1:=iU w (.cells #[iI k,.string (mk ea),.string (mk eb),.bool YB,iI en] 56);have hbb:b < w.heap.size:=World.block_lt_of_cell? w _ k0;have hne:b ≠ w.heap.size:=Nat.ne_of_lt hbb;have hb2:=iU (w.alloc (.cells #[iI k,.string (mk ea),.string (mk eb),.bool YB,iI en] 56)) (.cells #[.string (mk x.proc),.slice ma x.mods.length mc,iI x.date,iI x.units,iI x.Av,iI x.prior] 48);have HZ1:=zZ (tV (heap_alloc_new w (.cells #[iI k,.string (mk ea),.string (mk eb),.bool YB,iI en] 56)) hb2);have hz2:=heap_alloc_new (w.alloc (.cells #[iI k,.string (mk ea),.string (mk eb),.bool YB,iI en] 56)) (.cells #[.string (mk x.proc),.slice ma x.mods.length mc,iI x.date,iI x.units,iI x.Av,iI x.prior] 48);rw [show (w.alloc (.cells #[iI k,.string (mk ea),.string (mk eb),.bool YB,iI en] 56)).heap.size=w.heap.size+1 by simp] at hz2;have HZ2:=zZ hz2;have HB:=zZ (jg hb1 hb2);have HL2:=zZ (wB HL.out (jg hb1 hb2));have HM2:=zZ (dI.move hm (Below.moves (jg hb1 hb2)));have g0:=(iU w (.cells #[iI k,.string (mk ea),.string (mk eb),.bool YB,iI en] 56)).cell (p:=⟨b,oo+i * 6,none⟩) hbb;have g1:=(iU w (.cells #[iI k,.string (mk ea),.string (mk eb),.bool YB,iI en] 56)).cell (p:=⟨b,oo+i * 6+1,none⟩) hbb;have g2:=(iU w (.cells #[iI k,.string (mk ea),.string (mk eb),.bool YB,iI en] 56)).cell (p:=⟨b,oo+i * 6+2,none⟩) hbb;have g3:=(iU w (.cells #[iI k,.string (mk ea),.string (mk eb),.bool YB,iI en] 56)).cell (p:=⟨b,oo+i * 6+3,none⟩) hbb;have g4:=(iU w (.cells #[iI k,.string (mk ea),.string (mk eb),.bool YB,iI en] 56)).cell (p:=⟨b,oo+i * 6+4,none⟩) hbb;have g5:=(iU w (.cells #[iI k,.string (mk ea),.string (mk eb),.bool YB,iI en] 56)).cell (p:=⟨b,oo+i * 6+5,none⟩) hbb;rw [k0] at g0;rw [k1] at g1;rw [k2] at g2;rw [k3] at g3;rw [k4] at g4;rw [k5] at g5;clear hb1 hb2 hz2 h hm k0 k1 k2 k3 k4 k5;have HC1:Hid (∀(t:Tx) (W:World),bH All W (.slice (some ⟨b,oo,none⟩) l.length lc) l->Calls Tryz.prog 152 #[.slice (some ⟨b,oo,none⟩) i lc,.string (mk t),iI x.date] W fun r w'=>r=.returned (.bool (hasB (l.take i) t x.date))/\Below W.heap.size W w'):=fun t W hW=>qw _ _ _ _ W (wF hW (by omega));clear HL hi;by_cases h1:x.proc=ea
 ·rw [if_pos h1];have q1:((mk x.proc).toList == (mk ea).toList)=true:=by rw [xH];exact decide_eq_true h1
  have HC:=zZ (HC1.out eb);clear HC1;generalize hasB (l.take i) eb x.date=H1 at *;clear h1;go_enter Tryz.func126,Tryz.ntmps126
  go_upto_region 2 with fail
  generalize (w.alloc (.cells #[iI k,.string (mk ea),.string (mk eb),.bool YB,iI en] 56)).alloc (.cells #[.string (mk x.proc),.slice ma x.mods.length mc,iI x.date,iI x.units,iI x.Av,iI x.prior] 48)=W at *;generalize hp:w.heap.size=p at *;generalize p+1=p1 at *;clear g0 g1 g2 g3 g4 g5 hne hbb;obtain ⟨c0,c1,c2,c3,c4⟩:=cells5 HZ1.out;obtain ⟨d0,d1,d2,d3,d4,d5⟩:=ku HZ2.out;have Bt:=zZ fun W' (hW:Below W.heap.size W W')=>And.intro (cells5 (tV HZ1.out hW)) (ku (tV HZ2.out hW));have HD:=zZ (Below.drew (Below.refl W.heap.size W));go_upto_region 4 with fail
  clear c0 c1 c2 c3 c4 d0 d1 d2 d3 d4 d5;refine Ri.IX (by kernel_rfl) (by kernel_rfl) (by kernel_rfl) (fun Wx=>Below W.heap.size W Wx) (fun kz vs wz=>(fun kx vx wx=>match kx with|0=>vx=.slice (some ⟨b,oo,none⟩) l.length lc|1=>vx=iI (i:Nat)|2=>vx=.slice (some ⟨b,oo,none⟩) i lc|3=>vx=pP p 2|4=>vx=.string (mk eb)|5=>vx=pP p1 2|6=>vx=iI x.date|7=>vx=.bool H1|8=>vx=.bool H1|_=>True:Nat->Value->World->Prop) kz (vs kz) wz) (fun kz=>[kz]) (by kernel_rfl) (fun jz vs iz vz wz hiz hz=>Ri.wI (F:=(fun kx vx wx=>match kx with|0=>vx=.slice (some ⟨b,oo,none⟩) l.length lc|1=>vx=iI (i:Nat)|2=>vx=.slice (some ⟨b,oo,none⟩) i lc|3=>vx=pP p 2|4=>vx=.string (mk eb)|5=>vx=pP p1 2|6=>vx=iI x.date|7=>vx=.bool H1|8=>vx=.bool H1|_=>True:Nat->Value->World->Prop)) jz vs iz vz wz hiz hz) HD.out ⟨⟨rfl,?_⟩,⟨rfl,?_⟩,⟨rfl,?_⟩,⟨rfl,?_⟩,⟨rfl,?_⟩,⟨rfl,?_⟩,⟨rfl,?_⟩,⟨rfl,?_⟩,⟨rfl,?_⟩,trivial⟩ ?_
  ·intro vs Wx A hA hB hpre K hK;have e1:=(hA 1).trans (show _=Value.slice (some ⟨b,oo,none⟩) l.length lc by kernel_rfl);clear hA hpre;go_simp;exact hK _ _ hB rfl (fun _ _ h=>h)
  ·intro vs Wx A hA hB hpre K hK;have e2:=(hA 2).trans (show _=iI (i:Nat) by kernel_rfl);clear hA hpre;go_simp;exact hK _ _ hB rfl (fun _ _ h=>h)
  ·intro vs Wx A hA hB hpre K hK;have e18:=tT (hA 18) (by kernel_rfl) (hpre.1 rfl);have e19:=tT (hA 19) (by kernel_rfl) (hpre.2.1 rfl);clear hA hpre;go_simp;exact hK _ _ hB rfl (fun _ _ h=>h)
  ·intro vs Wx A hA hB hpre K hK;have e3:=(hA 3).trans (show _=pP p 0 by kernel_rfl);clear hA hpre;go_simp;exact hK _ _ hB rfl (fun _ _ h=>h)
  ·intro vs Wx A hA hB hpre K hK;have e21:=tT (hA 21) (by kernel_rfl) (hpre.1 rfl);obtain ⟨⟨x0,x1,x2,x3,x4⟩,⟨y0,y1,y2,y3,y4,y5⟩⟩:=Bt.out Wx hB;clear hA hpre;go_simp;exact hK _ _ hB rfl (fun _ _ h=>h)
  ·intro vs Wx A hA hB hpre K hK;have e7:=(hA 7).trans (show _=pP p1 0 by kernel_rfl);clear hA hpre;go_simp;exact hK _ _ hB rfl (fun _ _ h=>h)
  ·intro vs Wx A hA hB hpre K hK;have e23:=tT (hA 23) (by kernel_rfl) (hpre.1 rfl);obtain ⟨⟨x0,x1,x2,x3,x4⟩,⟨y0,y1,y2,y3,y4,y5⟩⟩:=Bt.out Wx hB;clear hA hpre;go_simp;exact hK _ _ hB rfl (fun _ _ h=>h)
  ·intro vs Wx A hA hB hpre K hK;have e20:=tT (hA 20) (by kernel_rfl) (hpre.1 rfl);have e22:=tT (hA 22) (by kernel_rfl) (hpre.2.1 rfl);have e24:=tT (hA 24) (by kernel_rfl) (hpre.2.2.1 rfl);clear hA hpre;go_simp;go_at_call 152
   refine (HC.out _ (wB HL2.out hB)).mono ?_;rintro e w3 ⟨rfl,hg⟩;exact hK _ _ (jg hB hg) rfl (fun _ _ h=>h)
  ·intro vs Wx A hA hB hpre K hK;have e25:=tT (hA 25) (by kernel_rfl) (hpre.1 rfl);clear hA hpre;go_simp;exact hK _ _ hB rfl (fun _ _ h=>h)
  ·intro vs Wx hB hF;have hL:vs 8=.bool H1:=hF 8 (by decide);have HB3:=zZ (show Below p w Wx by subst hp;exact jg HB.out hB);clear hF hB Bt HD;simp only [Ri.puts];rw [hL];clear hL;go_simp;go_wp2_with fail
   go_ret;exact ⟨rfl,by first|exact HB3.out|(rw [hp];exact HB3.out)⟩
 ·rw [if_neg h1];have q1:((mk x.proc).toList == (mk ea).toList)=false:=by rw [xH];exact decide_eq_false h1
  by_cases h2:x.proc=eb
  ·rw [if_pos h2];have q2:((mk x.proc).toList == (mk eb).toList)=true:=by rw [xH];exact decide_eq_true h2
   have HC:=zZ (HC1.out ea);clear HC1;generalize hasB (l.take i) ea x.date=H1 at *;clear h1 h2;go_enter Tryz.func126,Tryz.ntmps126
   go_upto_region 2 with fail
   generalize (w.alloc (.cells #[iI k,.string (mk ea),.string (mk eb),.bool YB,iI en] 56)).alloc (.cells #[.string (mk x.proc),.slice ma x.mods.length mc,iI x.date,iI x.units,iI x.Av,iI x.prior] 48)=W at *;generalize hp:w.heap.size=p at *;generalize p+1=p1 at *;clear g0 g1 g2 g3 g4 g5 hne hbb;obtain ⟨c0,c1,c2,c3,c4⟩:=cells5 HZ1.out;obtain ⟨d0,d1,d2,d3,d4,d5⟩:=ku HZ2.out;have Bt:=zZ fun W' (hW:Below W.heap.size W W')=>And.intro (cells5 (tV HZ1.out hW)) (ku (tV HZ2.out hW));have HD:=zZ (Below.drew (Below.refl W.heap.size W));go_upto_region 6 with fail
   clear c0 c1 c2 c3 c4 d0 d1 d2 d3 d4 d5;refine Ri.IX (by kernel_rfl) (by kernel_rfl) (by kernel_rfl) (fun Wx=>Below W.heap.size W Wx) (fun kz vs wz=>(fun kx vx wx=>match kx with|0=>vx=.slice (some ⟨b,oo,none⟩) l.length lc|1=>vx=iI (i:Nat)|2=>vx=.slice (some ⟨b,oo,none⟩) i lc|3=>vx=pP p 1|4=>vx=.string (mk ea)|5=>vx=pP p1 2|6=>vx=iI x.date|7=>vx=.bool H1|8=>vx=.bool H1|_=>True:Nat->Value->World->Prop) kz (vs kz) wz) (fun kz=>[kz]) (by kernel_rfl) (fun jz vs iz vz wz hiz hz=>Ri.wI (F:=(fun kx vx wx=>match kx with|0=>vx=.slice (some ⟨b,oo,none⟩) l.length lc|1=>vx=iI (i:Nat)|2=>vx=.slice (some ⟨b,oo,none⟩) i lc|3=>vx=pP p 1|4=>vx=.string (mk ea)|5=>vx=pP p1 2|6=>vx=iI x.date|7=>vx=.bool H1|8=>vx=.bool H1|_=>True:Nat->Value->World->Prop)) jz vs iz vz wz hiz hz) HD.out ⟨⟨rfl,?_⟩,⟨rfl,?_⟩,⟨rfl,?_⟩,⟨rfl,?_⟩,⟨rfl,?_⟩,⟨rfl,?_⟩,⟨rfl,?_⟩,⟨rfl,?_⟩,⟨rfl,?_⟩,trivial⟩ ?_
   ·intro vs Wx A hA hB hpre K hK;have e1:=(hA 1).trans (show _=Value.slice (some ⟨b,oo,none⟩) l.length lc by kernel_rfl);clear hA hpre;go_simp;exact hK _ _ hB rfl (fun _ _ h=>h)
   ·intro vs Wx A hA hB hpre K hK;have e2:=(hA 2).trans (show _=iI (i:Nat) by kernel_rfl);clear hA hpre;go_simp;exact hK _ _ hB rfl (fun _ _ h=>h)
   ·intro vs Wx A hA hB hpre K hK;have e30:=tT (hA 30) (by kernel_rfl) (hpre.1 rfl);have e31:=tT (hA 31) (by kernel_rfl) (hpre.2.1 rfl);clear hA hpre;go_simp;exact hK _ _ hB rfl (fun _ _ h=>h)
   ·intro vs Wx A hA hB hpre K hK;have e3:=(hA 3).trans (show _=pP p 0 by kernel_rfl);clear hA hpre;go_simp;exact hK _ _ hB rfl (fun _ _ h=>h)
   ·intro vs Wx A hA hB hpre K hK;have e33:=tT (hA 33) (by kernel_rfl) (hpre.1 rfl);obtain ⟨⟨x0,x1,x2,x3,x4⟩,⟨y0,y1,y2,y3,y4,y5⟩⟩:=Bt.out Wx hB;clear hA hpre;go_simp;exact hK _ _ hB rfl (fun _ _ h=>h)
   ·intro vs Wx A hA hB hpre K hK;have e7:=(hA 7).trans (show _=pP p1 0 by kernel_rfl);clear hA hpre;go_simp;exact hK _ _ hB rfl (fun _ _ h=>h)
   ·intro vs Wx A hA hB hpre K hK;have e35:=tT (hA 35) (by kernel_rfl) (hpre.1 rfl);obtain ⟨⟨x0,x1,x2,x3,x4⟩,⟨y0,y1,y2,y3,y4,y5⟩⟩:=Bt.out Wx hB;clear hA hpre;go_simp;exact hK _ _ hB rfl (fun _ _ h=>h)
   ·intro vs Wx A hA hB hpre K hK;have e32:=tT (hA 32) (by kernel_rfl) (hpre.1 rfl);have e34:=tT (hA 34) (by kernel_rfl) (hpre.2.1 rfl);have e36:=tT (hA 36) (by kernel_rfl) (hpre.2.2.1 rfl);clear hA hpre;go_simp;go_at_call 152
    refine (HC.out _ (wB HL2.out hB)).mono ?_;rintro e w3 ⟨rfl,hg⟩;exact hK _ _ (jg hB hg) rfl (fun _ _ h=>h)
   ·intro vs Wx A hA hB hpre K hK;have e37:=tT (hA 37) (by kernel_rfl) (hpre.1 rfl);clear hA hpre;go_simp;exact hK _ _ hB rfl (fun _ _ h=>h)
   ·intro vs Wx hB hF;have hL:vs 8=.bool H1:=hF 8 (by decide);have HB3:=zZ (show Below p w Wx by subst hp;exact jg HB.out hB);clear hF hB Bt HD;simp only [Ri.puts];rw [hL];clear hL;go_simp;go_wp2_with fail
    go_ret;exact ⟨rfl,by first|exact HB3.out|(rw [hp];exact HB3.out)⟩
  ·rw [if_neg h2];have q2:((mk x.proc).toList == (mk eb).toList)=false:=by rw [xH];exact decide_eq_false h2
   clear h1 h2 HC1;go_enter Tryz.func126,Tryz.ntmps126
   go_upto_region 2 with fail
   generalize (w.alloc (.cells #[iI k,.string (mk ea),.string (mk eb),.bool YB,iI en] 56)).alloc (.cells #[.string (mk x.proc),.slice ma x.mods.length mc,iI x.date,iI x.units,iI x.Av,iI x.prior] 48)=W at *;generalize hp:w.heap.size=p at *;generalize p+1=p1 at *;clear g0 g1 g2 g3 g4 g5 hne hbb;obtain ⟨c0,c1,c2,c3,c4⟩:=cells5 HZ1.out;obtain ⟨d0,d1,d2,d3,d4,d5⟩:=ku HZ2.out;go_wp2;go_ret;exact ⟨rfl,by first|exact HB.out|(rw [hp];exact HB.out)⟩
theorem mJ (e:Ed) (l:List Ln) (v:Value) (i:Nat) (x:Ln) (w:World) (h:bH All w v l) (hi:l[i]?=some x):Calls Tryz.prog 86 #[edv e,v,iI (i:Nat)] w fun r w'=>r=.returned (iI (Ii e l i x))/\Below w.heap.size w w':=by
 have HT:Hid (∀(W:World) (m:Value),dI All W m x.mods->_):=fun W m hm=>GZ e x m W hm;have HBu:Hid (∀W:World,bH All W v l->_):=fun W hW=>jV e l v i x W hW hi;have HEx:Hid (∀W:World,bH All W v l->_):=fun W hW=>ou e l v i x W hW hi;rw [Il];generalize toB e x=T1 at *;generalize buB e l i x=T2 at *;generalize exB e l i x=T3 at *;obtain ⟨k,ea,eb,YB,en⟩:=e;show Calls _ _ #[.agg #[iI k,.string (mk ea),.string (mk eb),.bool YB,iI en],v,iI (i:Nat)] _ fun r w'=>r=.returned (iI (if k=3 then (if T1=true then 151 else 0) else if k=1 then (if T2=true then 97 else 0) else if k=2 then (if T3=true then 236 else 0) else 0))/\Below w.heap.size w w';change Hid (∀(W:World) (m:Value),dI All W m x.mods->Calls Tryz.prog 124 #[.agg #[iI k,.string (mk ea),.string (mk eb),.bool YB,iI en],lnv x m] W fun r w'=>r=.returned (.bool T1)/\Below W.heap.size W w') at HT;change Hid (∀W:World,bH All W v l->Calls Tryz.prog 125 #[.agg #[iI k,.string (mk ea),.string (mk eb),.bool YB,iI en],v,iI (i:Nat)] W fun r w'=>r=.returned (.bool T2)/\Below W.heap.size W w') at HBu;change Hid (∀W:World,bH All W v l->Calls Tryz.prog 126 #[.agg #[iI k,.string (mk ea),.string (mk eb),.bool YB,iI en],v,iI (i:Nat)] W fun r w'=>r=.returned (.bool T3)/\Below W.heap.size W w') at HEx;have hb1:=iU w (.cells #[iI k,.string (mk ea),.string (mk eb),.bool YB,iI en] 56);have HZ1:=zZ (heap_alloc_new w (.cells #[iI k,.string (mk ea),.string (mk eb),.bool YB,iI en] 56));have HB:=zZ hb1;have HL2:=zZ (wB h hb1);obtain ⟨la,lc,rfl,hl1,hl2⟩:=Cm.bH.form h;obtain ⟨b,oo,rfl⟩:=vY h hi;have HI:=zZ hi;have hlt:i < l.length:=(List.getElem?_eq_some_iff.1 hi).1;have hltz:(i:Int) < (l.length:Int):=by omega
 clear hb1 h hi;obtain ⟨RR,HRR⟩:∃z,Hid ((if k=3 then (if T1=true then 151 else 0) else if k=1 then (if T2=true then 97 else 0) else if k=2 then (if T3=true then 236 else 0) else 0:Int)=z):=⟨_,rfl⟩;rw [HRR.out];go_enter Tryz.func86,Tryz.ntmps86
 go_upto_region 1 with fail
 generalize w.alloc (.cells #[iI k,.string (mk ea),.string (mk eb),.bool YB,iI en] 56)=W at *;generalize hp:w.heap.size=p at *;have Bt:=zZ fun W' (hW:Below W.heap.size W W')=>cells5 (tV HZ1.out hW);have HD:=zZ (Below.drew (Below.refl W.heap.size W));by_cases h3:k=3
 ·have HR3:Hid ((if T1=true then 151 else 0:Int)=RR):=by have:=HRR.out;rwa [if_pos h3] at this
  subst h3;clear HBu HEx HRR;obtain ⟨m,hcc,hm⟩:=vG HL2.out HI.out;obtain ⟨ma,mc,rfl,-,-⟩:=Cm.dI.form hm;have HLC:Hid (∀W',Below W.heap.size W W'->bg W' b (oo+i * 6) x (.slice ma x.mods.length mc)/\dI All W' (.slice ma x.mods.length mc) x.mods):=fun W' hW=>⟨hcc.of (hW.block b (World.block_lt_of_cell? W _ hcc.1)),dI.move hm (Below.moves hW)⟩;clear hcc hm;refine Ri.I4 (by kernel_rfl) (by kernel_rfl) (by kernel_rfl) (fun Wx=>Below W.heap.size W Wx) (fun kz vs wz=>(fun kx vx wx=>match kx with|0=>vx=pP p 0|1=>vx=iI 3|2=>vx=.bool true|3=>vx=.bool true|4=>vx=.agg #[iI 3,.string (mk ea),.string (mk eb),.bool YB,iI en]|5=>vx=.slice (some ⟨b,oo,none⟩) l.length lc|6=>vx=iI (i:Nat)|7=>vx=pP b (oo+i * 6)|8=>vx=.agg #[.string (mk x.proc),.slice ma x.mods.length mc,iI x.date,iI x.units,iI x.Av,iI x.prior]|9=>vx=.bool T1|10=>vx=.bool T1|11=>vx=.bool T1|_=>True:Nat->Value->World->Prop) kz (vs kz) wz) (fun kz=>[kz]) (by kernel_rfl) (fun jz vs iz vz wz hiz hz=>Ri.wI (F:=(fun kx vx wx=>match kx with|0=>vx=pP p 0|1=>vx=iI 3|2=>vx=.bool true|3=>vx=.bool true|4=>vx=.agg #[iI 3,.string (mk ea),.string (mk eb),.bool YB,iI en]|5=>vx=.slice (some ⟨b,oo,none⟩) l.length lc|6=>vx=iI (i:Nat)|7=>vx=pP b (oo+i * 6)|8=>vx=.agg #[.string (mk x.proc),.slice ma x.mods.length mc,iI x.date,iI x.units,iI x.Av,iI x.prior]|9=>vx=.bool T1|10=>vx=.bool T1|11=>vx=.bool T1|_=>True:Nat->Value->World->Prop)) jz vs iz vz wz hiz hz) HD.out ⟨Or.inl ⟨rfl,?_⟩,Or.inl ⟨rfl,?_⟩,Or.inl ⟨rfl,?_⟩,Or.inl ⟨rfl,?_⟩,Or.inr ⟨3,true,11,rfl,rfl,?_⟩,Or.inr ⟨3,true,11,rfl,rfl,?_⟩,Or.inr ⟨3,true,11,rfl,rfl,?_⟩,Or.inr ⟨3,true,11,rfl,rfl,?_⟩,Or.inr ⟨3,true,11,rfl,rfl,?_⟩,Or.inr ⟨3,true,11,rfl,rfl,?_⟩,Or.inl ⟨rfl,?_⟩,Or.inl ⟨rfl,?_⟩,trivial⟩ ?_
  ·intro vs Wx A hA hB hpre K hK;have e3:=(hA 3).trans (show _=pP p 0 by kernel_rfl);clear hA hpre;go_simp;exact hK _ _ hB rfl (fun _ _ h=>h)
  ·intro vs Wx A hA hB hpre K hK;have e8:=tT (hA 8) (by kernel_rfl) (hpre.1 rfl);obtain ⟨x0,x1,x2,x3,x4⟩:=Bt.out Wx hB;obtain ⟨⟨y0,y1,y2,y3,y4,y5⟩,-⟩:=HLC.out Wx hB;clear hA hpre;go_simp;exact hK _ _ hB rfl (fun _ _ h=>h)
  ·intro vs Wx A hA hB hpre K hK;have e9:=tT (hA 9) (by kernel_rfl) (hpre.1 rfl);clear hA hpre;go_simp;exact hK _ _ hB rfl (fun _ _ h=>h)
  ·intro vs Wx A hA hB hpre K hK;have e10:=tT (hA 10) (by kernel_rfl) (hpre.1 rfl);clear hA hpre;go_simp;exact hK _ _ hB rfl (fun _ _ h=>h)
  ·intro vs Wx A hA hB hpre;have eg:=tT (hA 11) (by kernel_rfl) (hpre.1 rfl);refine ⟨true,eg,fun _ K hK=>?_,fun h=>absurd rfl h⟩;have e3:=(hA 3).trans (show _=pP p 0 by kernel_rfl);obtain ⟨x0,x1,x2,x3,x4⟩:=Bt.out Wx hB;obtain ⟨⟨y0,y1,y2,y3,y4,y5⟩,-⟩:=HLC.out Wx hB;clear hA hpre;go_simp;exact hK _ _ hB rfl (fun _ _ h=>h)
  ·intro vs Wx A hA hB hpre;have eg:=tT (hA 11) (by kernel_rfl) (hpre.1 rfl);refine ⟨true,eg,fun _ K hK=>?_,fun h=>absurd rfl h⟩;have e1:=(hA 1).trans (show _=Value.slice (some ⟨b,oo,none⟩) l.length lc by kernel_rfl);clear hA hpre;go_simp;exact hK _ _ hB rfl (fun _ _ h=>h)
  ·intro vs Wx A hA hB hpre;have eg:=tT (hA 11) (by kernel_rfl) (hpre.1 rfl);refine ⟨true,eg,fun _ K hK=>?_,fun h=>absurd rfl h⟩;have e2:=(hA 2).trans (show _=iI (i:Nat) by kernel_rfl);clear hA hpre;go_simp;exact hK _ _ hB rfl (fun _ _ h=>h)
  ·intro vs Wx A hA hB hpre;have eg:=tT (hA 11) (by kernel_rfl) (hpre.2.2.1 rfl);refine ⟨true,eg,fun _ K hK=>?_,fun h=>absurd rfl h⟩;have e13:=tT (hA 13) (by kernel_rfl) (hpre.1 rfl);have e14:=tT (hA 14) (by kernel_rfl) (hpre.2.1 rfl);clear hA hpre;go_simp;exact hK _ _ hB rfl (fun _ _ h=>h)
  ·intro vs Wx A hA hB hpre;have eg:=tT (hA 11) (by kernel_rfl) (hpre.2.1 rfl);refine ⟨true,eg,fun _ K hK=>?_,fun h=>absurd rfl h⟩;have e15:=tT (hA 15) (by kernel_rfl) (hpre.1 rfl);obtain ⟨x0,x1,x2,x3,x4⟩:=Bt.out Wx hB;obtain ⟨⟨y0,y1,y2,y3,y4,y5⟩,-⟩:=HLC.out Wx hB;clear hA hpre;go_simp;exact hK _ _ hB rfl (fun _ _ h=>h)
  ·intro vs Wx A hA hB hpre;have eg:=tT (hA 11) (by kernel_rfl) (hpre.2.2.1 rfl);refine ⟨true,eg,fun _ K hK=>?_,fun h=>absurd rfl h⟩;have e12:=tT (hA 12) (by kernel_rfl) (hpre.1 rfl);have e16:=tT (hA 16) (by kernel_rfl) (hpre.2.1 rfl);clear hA hpre;go_simp;go_at_call 124
   refine (HT.out _ _ (HLC.out Wx hB).2).mono ?_;rintro e w3 ⟨rfl,hg⟩;exact hK _ _ (jg hB hg) rfl (fun _ _ h=>h)
  ·intro vs Wx A hA hB hpre K hK;have e11:=tT (hA 11) (by kernel_rfl) (hpre.1 rfl);have e17:=tT (hA 17) (by kernel_rfl) (hpre.2.1 rfl);clear hA hpre;go_simp;exact hK _ _ hB rfl (fun _ _ h=>h)
  ·intro vs Wx A hA hB hpre K hK;have e18:=tT (hA 18) (by kernel_rfl) (hpre.1 rfl);clear hA hpre;go_simp;exact hK _ _ hB rfl (fun _ _ h=>h)
  ·intro vs Wx hB hF;have hL:vs 11=.bool T1:=hF 11 (by decide);have HB3:=zZ (show Below p w Wx by subst hp;exact jg HB.out hB);obtain ⟨x0,x1,x2,x3,x4⟩:=Bt.out Wx hB;clear hF hB Bt HD HLC HT;simp only [Ri.puts];rw [hL];clear hL;cases T1 with
   | true =>
    obtain rfl:151=RR:=HR3.out;go_simp;go_wp2_with fail
    go_ret;exact ⟨rfl,by first|exact HB3.out|(rw [hp];exact HB3.out)⟩
   | false =>
    obtain rfl:0=RR:=HR3.out;go_simp;go_wp2_with fail
    go_ret;exact ⟨rfl,by first|exact HB3.out|(rw [hp];exact HB3.out)⟩
 have q3:(k == 3)=false:=by rw [beq_eq_false_iff_ne];exact h3
 have HRR:=zZ (show (if k=1 then (if T2=true then 97 else 0) else if k=2 then (if T3=true then 236 else 0) else 0:Int)=RR by have:=HRR.out;rwa [if_neg h3] at this);clear h3 HT;refine Ri.I4 (by kernel_rfl) (by kernel_rfl) (by kernel_rfl) (fun Wx=>Below W.heap.size W Wx) (fun kz vs wz=>(fun kx vx wx=>match kx with|0=>vx=pP p 0|1=>vx=iI k|2=>vx=.bool false|3=>vx=.bool false|4=>True|5=>True|6=>True|7=>True|8=>True|9=>True|10=>vx=.bool false|11=>vx=.bool false|_=>True:Nat->Value->World->Prop) kz (vs kz) wz) (fun kz=>[kz]) (by kernel_rfl) (fun jz vs iz vz wz hiz hz=>Ri.wI (F:=(fun kx vx wx=>match kx with|0=>vx=pP p 0|1=>vx=iI k|2=>vx=.bool false|3=>vx=.bool false|4=>True|5=>True|6=>True|7=>True|8=>True|9=>True|10=>vx=.bool false|11=>vx=.bool false|_=>True:Nat->Value->World->Prop)) jz vs iz vz wz hiz hz) HD.out ⟨Or.inl ⟨rfl,?_⟩,Or.inl ⟨rfl,?_⟩,Or.inl ⟨rfl,?_⟩,Or.inl ⟨rfl,?_⟩,Or.inr ⟨3,true,11,rfl,rfl,?_⟩,Or.inr ⟨3,true,11,rfl,rfl,?_⟩,Or.inr ⟨3,true,11,rfl,rfl,?_⟩,Or.inr ⟨3,true,11,rfl,rfl,?_⟩,Or.inr ⟨3,true,11,rfl,rfl,?_⟩,Or.inr ⟨3,true,11,rfl,rfl,?_⟩,Or.inl ⟨rfl,?_⟩,Or.inl ⟨rfl,?_⟩,trivial⟩ ?_
 ·intro vs Wx A hA hB hpre K hK;have e3:=(hA 3).trans (show _=pP p 0 by kernel_rfl);clear hA hpre;go_simp;exact hK _ _ hB rfl (fun _ _ h=>h)
 ·intro vs Wx A hA hB hpre K hK;have e8:=tT (hA 8) (by kernel_rfl) (hpre.1 rfl);obtain ⟨x0,x1,x2,x3,x4⟩:=Bt.out Wx hB;clear hA hpre;go_simp;exact hK _ _ hB rfl (fun _ _ h=>h)
 ·intro vs Wx A hA hB hpre K hK;have e9:=tT (hA 9) (by kernel_rfl) (hpre.1 rfl);clear hA hpre;go_simp;exact hK _ _ hB rfl (fun _ _ h=>h)
 ·intro vs Wx A hA hB hpre K hK;have e10:=tT (hA 10) (by kernel_rfl) (hpre.1 rfl);clear hA hpre;go_simp;exact hK _ _ hB rfl (fun _ _ h=>h)
 iterate 3
  ·intro vs Wx A hA hB hpre;have eg:=tT (hA 11) (by kernel_rfl) (hpre.1 rfl);exact ⟨false,eg,fun h=>(by cases h),fun _=>trivial⟩
 ·intro vs Wx A hA hB hpre;have eg:=tT (hA 11) (by kernel_rfl) (hpre.2.2.1 rfl);exact ⟨false,eg,fun h=>(by cases h),fun _=>trivial⟩
 ·intro vs Wx A hA hB hpre;have eg:=tT (hA 11) (by kernel_rfl) (hpre.2.1 rfl);exact ⟨false,eg,fun h=>(by cases h),fun _=>trivial⟩
 ·intro vs Wx A hA hB hpre;have eg:=tT (hA 11) (by kernel_rfl) (hpre.2.2.1 rfl);exact ⟨false,eg,fun h=>(by cases h),fun _=>trivial⟩
 ·intro vs Wx A hA hB hpre K hK;have e11:=tT (hA 11) (by kernel_rfl) (hpre.1 rfl);clear hA hpre;go_simp;exact hK _ _ hB rfl (fun _ _ h=>h)
 ·intro vs Wx A hA hB hpre K hK;have e18:=tT (hA 18) (by kernel_rfl) (hpre.1 rfl);clear hA hpre;go_simp;exact hK _ _ hB rfl (fun _ _ h=>h)
 ·intro vs Wx hB hF;have hL:vs 11=.bool false:=hF 11 (by decide);have HB3:=zZ (show Below p w Wx by subst hp;exact jg HB.out hB);have HL3:=zZ (wB HL2.out hB);obtain ⟨x0,x1,x2,x3,x4⟩:=Bt.out Wx hB;have CK:=zZ fun W' (hW:Below Wx.heap.size Wx W')=>Bt.out W' (jg hB hW);clear hF hB Bt HD HL2;simp only [Ri.puts];rw [hL];clear hL;by_cases hk:k=1
  ·have HR1:Hid ((if T2=true then 97 else 0:Int)=RR):=by have:=HRR.out;rwa [if_pos hk] at this
   subst hk;clear HRR;go_simp;go_wp2_with fail
   go_at_call 125
   refine (HBu.out _ HL3.out).mono ?_;rintro e w4 ⟨rfl,hb4⟩;have HB4:=zZ (show Below p w w4 by subst hp;exact jg HB3.out hb4);obtain ⟨y0,y1,y2,y3,y4⟩:=CK.out w4 hb4;clear hb4 x0 x1 x2 x3 x4;cases T2 with
   | true =>
    obtain rfl:97=RR:=HR1.out;go_wp2;go_ret;exact ⟨rfl,by first|exact HB4.out|(rw [hp];exact HB4.out)⟩
   | false =>
    obtain rfl:0=RR:=HR1.out;go_wp2;go_ret;exact ⟨rfl,by first|exact HB4.out|(rw [hp];exact HB4.out)⟩
  have q1:(k == 1)=false:=by rw [beq_eq_false_iff_ne];exact hk
  have hk1:=hk;clear hk;by_cases hk:k=2
  ·have HR1:Hid ((if T3=true then 236 else 0:Int)=RR):=by have:=HRR.out;rwa [if_neg hk1,if_pos hk] at this
   subst hk;clear hk1;clear HRR;go_simp;go_wp2_with fail
   go_at_call 126
   refine (HEx.out _ HL3.out).mono ?_;rintro e w4 ⟨rfl,hb4⟩;have HB4:=zZ (show Below p w w4 by subst hp;exact jg HB3.out hb4);obtain ⟨y0,y1,y2,y3,y4⟩:=CK.out w4 hb4;clear hb4 x0 x1 x2 x3 x4;cases T3 with
   | true =>
    obtain rfl:236=RR:=HR1.out;go_wp2;go_ret;exact ⟨rfl,by first|exact HB4.out|(rw [hp];exact HB4.out)⟩
   | false =>
    obtain rfl:0=RR:=HR1.out;go_wp2;go_ret;exact ⟨rfl,by first|exact HB4.out|(rw [hp];exact HB4.out)⟩
  have q2:(k == 2)=false:=by rw [beq_eq_false_iff_ne];exact hk
  obtain rfl:0=RR:=by have:=HRR.out;rwa [if_neg hk1,if_neg hk] at this
  clear hk hk1 HRR;go_simp;go_wp2;go_ret;exact ⟨rfl,by first|exact HB3.out|(rw [hp];exact HB3.out)⟩
theorem mV {l:List Ln} {i:Nat} {x:Ln} {t:List Ed} {n:Nat} (h:n < t.length):mM l i x (t.drop n)=if Ii t[n] l i x=0 then mM l i x (t.drop (n+1)) else Ii t[n] l i x:=by
 rw [List.drop_eq_getElem_cons h];rfl
theorem mQ {t:List Ed} {l:List Ln} {i:Nat} {x:Ln} (h:l[i]?=some x):mO t l (i:Int)=mM l i x t:=by
 unfold mO;rw [if_pos (by omega),show ((i:Int).toNat)=i by omega,h]
theorem mW {t:List Ed} {l:List Ln} {i:Int} (h:i < 0 ∨ (l.length:Int)<=i):mO t l i=0:=by
 unfold mO;split
 ·rw [List.getElem?_eq_none (by omega)]
 ·rfl
theorem mP (t:List Ed) (u:Value) (l:List Ln) (v:Value) (i:Int) (w:World) (ht:aP All w u t) (h:bH All w v l) (hn:t.length<=281474976710656) (hln:l.length<=281474976710656):Calls Tryz.prog 47 #[u,v,iI i] w fun r w'=>r=.returned (iI (mO t l i))/\Below w.heap.size w w':=by
 have HT:=zZ ht;have HL:=zZ h;obtain ⟨ta,tc,rfl,ht1,ht2⟩:=ht.form;obtain ⟨la,lc,rfl,hl1,hl2⟩:=Cm.bH.form h;clear ht h;by_cases h0:i < 0
 ·rw [mW (Or.inl h0)];go_enter Tryz.func47,Tryz.ntmps47
  go_wp2;go_ret;exact ⟨rfl,Below.refl _ _⟩
 by_cases h1:(l.length:Int)<=i
 ·rw [mW (Or.inr h1)];go_enter Tryz.func47,Tryz.ntmps47
  go_wp2;go_ret;exact ⟨rfl,Below.refl _ _⟩
 obtain ⟨i,rfl⟩:∃n:Nat,i=(n:Int):=⟨i.toNat,by omega⟩;have hi:i < l.length:=by omega
 have HI:=zZ (List.getElem?_eq_getElem hi);generalize l[i]=x at *;rw [mQ HI.out];obtain ⟨RR,HRR⟩:∃z,Hid (mM l i x t=z):=⟨_,rfl⟩;rw [HRR.out];go_enter Tryz.func47,Tryz.ntmps47
 go_wp2;go_loopg [20] (t.length) (fun g j wr=>∃n:Nat,n<=t.length/\g=t.length - n/\j=iI (n:Nat)/\Hid (Below w.heap.size w wr)/\Hid (mM l i x (t.drop n)=RR))
 case atStart=>exact ⟨0,Nat.zero_le _,rfl,rfl,Below.refl _ _,HRR.out⟩
 case round =>
  clear HRR;obtain ⟨n,hn',hgk,rfl,Co,HE⟩:=hrel;by_cases hlt:n < t.length
  ·obtain ⟨b,oo,rfl,hbs,-,hcc⟩:=aP.get (HT.out.Bu Co.out) n hlt;have HFD:=zZ (mV (l:=l) (i:=i) (x:=x) hlt);generalize t[n]=e at *;obtain ⟨c0,c1,c2,c3,c4⟩:=hcc;have hb1:=iU wr (.cells #[iI e.kind,.string (mk e.a),.string (mk e.b),.bool e.bypass,iI e.n] 56);have HRW:=zZ (mJ e l _ i x (wr.alloc (.cells #[iI e.kind,.string (mk e.a),.string (mk e.b),.bool e.bypass,iI e.n] 56)) (wB HL.out (jg Co.out hb1)) HI.out);have HB2:=zZ (jg Co.out hb1);clear hb1;go_upto_region 6 with fail
   generalize hq:wr.heap.size=q at *;have HZ:=zZ (heap_alloc_new wr (.cells #[iI e.kind,.string (mk e.a),.string (mk e.b),.bool e.bypass,iI e.n] 56));rw [hq] at HZ;generalize wr.alloc (.cells #[iI e.kind,.string (mk e.a),.string (mk e.b),.bool e.bypass,iI e.n] 56)=W at *;obtain ⟨d0,d1,d2,d3,d4⟩:=cells5 HZ.out;clear c0 c1 c2 c3 c4;go_wp2_with fail
   go_at_call 86
   refine HRW.out.mono ?_;rintro r5 w5 ⟨rfl,hg⟩;have CF:=zZ (jg HB2.out hg);clear hg HRW HZ HB2 d0 d1 d2 d3 d4;obtain ⟨r,HRV⟩:∃r,Hid (Ii e l i x=r):=⟨_,rfl⟩;rw [HRV.out] at HFD;rw [HRV.out];by_cases hr:r=0
   ·have q1:(r != 0)=false:=by rw [hr];rfl
    have HE2:Hid (mM l i x (t.drop (n+1))=RR):=by show _=_;rw [←HE.out,HFD.out,if_pos hr]
    clear HE HFD hr;go_wp2;go_roundg (t.length - (n+1))
    case measure=>omega
    case rel=>exact ⟨n+1,by omega,rfl,by first|rfl|go_num|(congr 1;omega),CF.out,HE2.out⟩
   ·have q1:(r != 0)=true:=by simpa using hr
    have HE2:Hid (RR=r):=by show _=_;rw [←HE.out,HFD.out,if_neg hr]
    clear HE HFD hr;go_wp2;go_ret;exact ⟨by rw [HE2.out];rfl,CF.out⟩
  ·have hltz:¬ (n:Int) < (t.length:Int):=by omega
   have HE2:Hid (RR=0):=by
    show _=_;have e:t.drop n=[]:=List.drop_eq_nil_of_le (by omega);have:=HE.out;rw [e] at this;exact this.symm
   go_wp2;go_ret;exact ⟨by rw [HE2.out];rfl,Co.out⟩
end Ex
end Go.Proofs.YtfbfeoplldjbpaaGreatDoor
