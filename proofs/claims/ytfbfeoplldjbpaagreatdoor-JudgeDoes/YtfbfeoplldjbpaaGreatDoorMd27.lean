/-
  Texts put together (merge.py): XDeny.
-/
import Derived.Test.YtfbfeoplldjbpaaGreatDoorMd6
set_option linter.unusedSimpArgs false
set_option linter.unusedVariables false
set_option maxHeartbeats 16000000
set_option maxRecDepth 100000
namespace Go.Proofs.YtfbfeoplldjbpaaGreatDoor
namespace Ex
open Go.RowKit
open Wo (Wd jI jQ tV qL iU jg)
open Cm (Ln bH bg lnv)
theorem GZ (e:Ed) (x:Ln) (m:Value) (w:World) (hm:dI All w m x.mods):Calls Tryz.prog 124 #[edv e,lnv x m] w fun r w'=>r=.returned (.bool (toB e x))/\Below w.heap.size w w':=by
 obtain ⟨ma,mc,rfl,-,-⟩:=Cm.dI.form hm;clear hm;obtain ⟨k,ea,eb,YB,en⟩:=e;show Calls _ _ #[.agg #[iI k,.string (mk ea),.string (mk eb),.bool YB,iI en],.agg #[.string (mk x.proc),.slice ma x.mods.length mc,iI x.date,iI x.units,iI x.Av,iI x.prior]] _ fun r w'=>r=.returned (.bool (decide (x.proc=ea) && decide (en < x.units)))/\Below w.heap.size w w';have hb1:=iU w (.cells #[iI k,.string (mk ea),.string (mk eb),.bool YB,iI en] 56);have hb2:=iU (w.alloc (.cells #[iI k,.string (mk ea),.string (mk eb),.bool YB,iI en] 56)) (.cells #[.string (mk x.proc),.slice ma x.mods.length mc,iI x.date,iI x.units,iI x.Av,iI x.prior] 48);have HZ1:=zZ (tV (heap_alloc_new w (.cells #[iI k,.string (mk ea),.string (mk eb),.bool YB,iI en] 56)) hb2);have hz2:=heap_alloc_new (w.alloc (.cells #[iI k,.string (mk ea),.string (mk eb),.bool YB,iI en] 56)) (.cells #[.string (mk x.proc),.slice ma x.mods.length mc,iI x.date,iI x.units,iI x.Av,iI x.prior] 48);rw [show (w.alloc (.cells #[iI k,.string (mk ea),.string (mk eb),.bool YB,iI en] 56)).heap.size=w.heap.size+1 by simp] at hz2;have HZ2:=zZ hz2;have HB:=zZ (jg hb1 hb2);clear hb1 hb2 hz2;obtain ⟨V,HV,q1⟩:∃V,Hid (decide (x.proc=ea)=V)/\((mk x.proc).toList == (mk ea).toList)=V:=⟨_,rfl,xH _ _⟩;rw [HV.out];obtain ⟨V2,q2⟩:∃V,decide (en < x.units)=V:=⟨_,rfl⟩;rw [q2];go_enter Tryz.func124,Tryz.ntmps124
 go_upto_region 1 with fail
 generalize (w.alloc (.cells #[iI k,.string (mk ea),.string (mk eb),.bool YB,iI en] 56)).alloc (.cells #[.string (mk x.proc),.slice ma x.mods.length mc,iI x.date,iI x.units,iI x.Av,iI x.prior] 48)=W at *;generalize hp:w.heap.size=p at *;generalize p+1=p1 at *;obtain ⟨c0,c1,c2,c3,c4⟩:=cells5 HZ1.out;obtain ⟨d0,d1,d2,d3,d4,d5⟩:=ku HZ2.out;cases V with
 | true =>
  go_wp2;go_ret;exact ⟨rfl,by first|exact HB.out|(rw [hp];exact HB.out)⟩
 | false =>
  go_wp2;go_ret;exact ⟨rfl,by first|exact HB.out|(rw [hp];exact HB.out)⟩
theorem vG {w:World} {b o n c:Nat} {l:List Ln} (h:bH All w (.slice (some ⟨b,o,none⟩) n c) l) {k:Nat} {x:Ln} (hk:l[k]?=some x):∃m,bg w b (o+k * 6) x m/\dI All w m x.mods:=by
 obtain ⟨a',c',he,h1,h2,h3⟩:=h;rcases h3 with h|⟨b',o',ha,_,_,hc⟩
 ·subst h;simp at hk
 ·injection he with e1 e2 e3;rw [ha] at e1;simp only [Option.some.injEq,Addr.mk.injEq,and_true] at e1;obtain ⟨rfl,rfl⟩:=e1;exact hc k x hk
theorem vY {w:World} {a:Option Addr} {n c:Nat} {l:List Ln} (h:bH All w (.slice a n c) l) {k:Nat} {x:Ln} (hk:l[k]?=some x):∃b o,a=some ⟨b,o,none⟩:=by
 obtain ⟨b,o,m,e,_⟩:=Cm.bH.get h k (List.getElem?_eq_some_iff.1 hk).1;exact ⟨b,o,e⟩
theorem jV (e:Ed) (l:List Ln) (v:Value) (i:Nat) (x:Ln) (w:World) (h:bH All w v l) (hi:l[i]?=some x):Calls Tryz.prog 125 #[edv e,v,iI (i:Nat)] w fun r w'=>r=.returned (.bool (buB e l i x))/\Below w.heap.size w w':=by
 obtain ⟨k,ea,eb,YB,en⟩:=e;show Calls _ _ #[.agg #[iI k,.string (mk ea),.string (mk eb),.bool YB,iI en],v,iI (i:Nat)] _ fun r w'=>r=.returned (.bool (decide (x.proc=eb) && !(YB && byB x) && (hasB (l.take i) ea x.date || hasB (l.drop (i+1)) ea x.date)))/\Below w.heap.size w w';have HL:=zZ h;obtain ⟨la,lc,rfl,hl1,hl2⟩:=Cm.bH.form h;obtain ⟨b,oo,rfl⟩:=vY h hi;obtain ⟨m,hcc,hm⟩:=vG h hi;have hlt:i < l.length:=(List.getElem?_eq_some_iff.1 hi).1;have hltz:(i:Int) < (l.length:Int):=by omega
 have hicz:(i:Int)<=(lc:Int):=by omega
 have hi0:(0:Int)<=(i:Int):=by omega
 have hi1z:(i:Int)+1<=(l.length:Int):=by omega
 have hi2z:(l.length:Int)<=(lc:Int):=by omega
 have hi3z:(0:Int)<=(i:Int)+1:=by omega
 obtain ⟨ma,mc,rfl,-,-⟩:=Cm.dI.form hm;obtain ⟨k0,k1,k2,k3,k4,k5⟩:=hcc;have hb1:=iU w (.cells #[iI k,.string (mk ea),.string (mk eb),.bool YB,iI en] 56);have hbb:b < w.heap.size:=World.block_lt_of_cell? w _ k0;have hne:b ≠ w.heap.size:=Nat.ne_of_lt hbb;have hb2:=iU (w.alloc (.cells #[iI k,.string (mk ea),.string (mk eb),.bool YB,iI en] 56)) (.cells #[.string (mk x.proc),.slice ma x.mods.length mc,iI x.date,iI x.units,iI x.Av,iI x.prior] 48);have HZ1:=zZ (tV (heap_alloc_new w (.cells #[iI k,.string (mk ea),.string (mk eb),.bool YB,iI en] 56)) hb2);have hz2:=heap_alloc_new (w.alloc (.cells #[iI k,.string (mk ea),.string (mk eb),.bool YB,iI en] 56)) (.cells #[.string (mk x.proc),.slice ma x.mods.length mc,iI x.date,iI x.units,iI x.Av,iI x.prior] 48);rw [show (w.alloc (.cells #[iI k,.string (mk ea),.string (mk eb),.bool YB,iI en] 56)).heap.size=w.heap.size+1 by simp] at hz2;have HZ2:=zZ hz2;have HB:=zZ (jg hb1 hb2);have HL2:=zZ (wB HL.out (jg hb1 hb2));have HM2:=zZ (dI.move hm (Below.moves (jg hb1 hb2)));have g0:=(iU w (.cells #[iI k,.string (mk ea),.string (mk eb),.bool YB,iI en] 56)).cell (p:=⟨b,oo+i * 6,none⟩) hbb;have g1:=(iU w (.cells #[iI k,.string (mk ea),.string (mk eb),.bool YB,iI en] 56)).cell (p:=⟨b,oo+i * 6+1,none⟩) hbb;have g2:=(iU w (.cells #[iI k,.string (mk ea),.string (mk eb),.bool YB,iI en] 56)).cell (p:=⟨b,oo+i * 6+2,none⟩) hbb;have g3:=(iU w (.cells #[iI k,.string (mk ea),.string (mk eb),.bool YB,iI en] 56)).cell (p:=⟨b,oo+i * 6+3,none⟩) hbb;have g4:=(iU w (.cells #[iI k,.string (mk ea),.string (mk eb),.bool YB,iI en] 56)).cell (p:=⟨b,oo+i * 6+4,none⟩) hbb;have g5:=(iU w (.cells #[iI k,.string (mk ea),.string (mk eb),.bool YB,iI en] 56)).cell (p:=⟨b,oo+i * 6+5,none⟩) hbb;rw [k0] at g0;rw [k1] at g1;rw [k2] at g2;rw [k3] at g3;rw [k4] at g4;rw [k5] at g5;clear hb1 hb2 hz2 h hm k0 k1 k2 k3 k4 k5;have HC1:Hid (∀W,bH All W (.slice (some ⟨b,oo,none⟩) l.length lc) l->Calls Tryz.prog 152 #[.slice (some ⟨b,oo,none⟩) i lc,.string (mk ea),iI x.date] W fun r w'=>r=.returned (.bool (hasB (l.take i) ea x.date))/\Below W.heap.size W w'):=fun W hW=>qw _ _ _ _ W (wF hW (by omega));have HC2:Hid (∀W,bH All W (.slice (some ⟨b,oo,none⟩) l.length lc) l->∀v',(v'=.slice (some ⟨b,oo+(i+1) * 6,none⟩) (l.length - (i+1)) (lc - (i+1)) ∨ (lc=i+1/\v'=.slice (some ⟨b,oo,none⟩) 0 0))->Calls Tryz.prog 152 #[v',.string (mk ea),iI x.date] W fun r w'=>r=.returned (.bool (hasB (l.drop (i+1)) ea x.date))/\Below W.heap.size W w'):=fun W hW v' hv=>by
  rcases hv with rfl|⟨hc,rfl⟩
  ·exact qw _ _ _ _ W (wu hW (by omega))
  ·have:l.drop (i+1)=[]:=List.drop_eq_nil_of_le (by omega);rw [this];exact qw _ _ _ _ W (wE _)
 have HCo:Hid (∀W,dI All W (.slice ma x.mods.length mc) x.mods->Calls Tryz.prog 150 #[.slice ma x.mods.length mc,.string ⟨#[53,57]⟩] W fun r w'=>r=.returned (.bool (byB x))/\w'=W):=fun W hW=>lY _ x.mods t59 W hW;obtain ⟨V1,HV1,q1⟩:∃V,Hid (decide (x.proc=eb)=V)/\((mk x.proc).toList == (mk eb).toList)=V:=⟨_,rfl,xH _ _⟩;rw [HV1.out];generalize hasB (l.take i) ea x.date=H1 at *;generalize hasB (l.drop (i+1)) ea x.date=H2 at *;generalize byB x=BY at *;clear HL hi HV1;cases V1 with
 | false =>
  go_enter Tryz.func125,Tryz.ntmps125
  go_upto_region 2 with fail
  generalize (w.alloc (.cells #[iI k,.string (mk ea),.string (mk eb),.bool YB,iI en] 56)).alloc (.cells #[.string (mk x.proc),.slice ma x.mods.length mc,iI x.date,iI x.units,iI x.Av,iI x.prior] 48)=W at *;generalize hp:w.heap.size=p at *;generalize p+1=p1 at *;clear g0 g1 g2 g3 g4 g5 hne hbb;obtain ⟨c0,c1,c2,c3,c4⟩:=cells5 HZ1.out;obtain ⟨d0,d1,d2,d3,d4,d5⟩:=ku HZ2.out;clear HC1 HC2 HCo;go_wp2;go_ret;exact ⟨by first|rfl|(cases YB<;>cases BY<;>rfl),by first|exact HB.out|(rw [hp];exact HB.out)⟩
 | true =>
 have HGo:Hid ((YB && BY)=true ∨ (YB && BY)=false):=by show _ ∨ _;cases YB<;>cases BY<;>simp
 rcases HGo.out with hyb|hyb
 ·obtain ⟨rfl,rfl⟩:YB=true/\BY=true:=by simpa using hyb
  clear hyb HGo;go_enter Tryz.func125,Tryz.ntmps125
  go_upto_region 2 with fail
  generalize (w.alloc (.cells #[iI k,.string (mk ea),.string (mk eb),.bool true,iI en] 56)).alloc (.cells #[.string (mk x.proc),.slice ma x.mods.length mc,iI x.date,iI x.units,iI x.Av,iI x.prior] 48)=W at *;generalize hp:w.heap.size=p at *;generalize p+1=p1 at *;clear g0 g1 g2 g3 g4 g5 hne hbb;obtain ⟨c0,c1,c2,c3,c4⟩:=cells5 HZ1.out;obtain ⟨d0,d1,d2,d3,d4,d5⟩:=ku HZ2.out;clear HC1 HC2;go_wp2_with (go_at_call 150;refine (HCo.out _ HM2.out).mono ?_;rintro r w3 ⟨rfl,hw3⟩;rw [hw3];clear hw3 w3)
  go_ret;exact ⟨rfl,by first|exact HB.out|(rw [hp];exact HB.out)⟩
 have HRes:Hid ((true && !(YB && BY) && (H1 || H2))=(H1 || H2)):=by show _=_;rw [hyb];rfl
 rw [HRes.out];clear HRes HGo;go_enter Tryz.func125,Tryz.ntmps125
 go_upto_region 2 with fail
 generalize (w.alloc (.cells #[iI k,.string (mk ea),.string (mk eb),.bool YB,iI en] 56)).alloc (.cells #[.string (mk x.proc),.slice ma x.mods.length mc,iI x.date,iI x.units,iI x.Av,iI x.prior] 48)=W at *;generalize hp:w.heap.size=p at *;generalize p+1=p1 at *;clear g0 g1 g2 g3 g4 g5 hne hbb;obtain ⟨c0,c1,c2,c3,c4⟩:=cells5 HZ1.out;obtain ⟨d0,d1,d2,d3,d4,d5⟩:=ku HZ2.out;have Bt:=zZ fun W' (hW:Below W.heap.size W W')=>And.intro (cells5 (tV HZ1.out hW)) (ku (tV HZ2.out hW));have HD:=zZ (Below.drew (Below.refl W.heap.size W));have HS1:Hid (IntKind.i64.wrap ((i:Int)+1)=(i:Int)+1):=by show _=_;rw [IntKind.wrap_i64];omega
 go_cut [25] (fun s25 wx=>s25=.bool false/\wx=W)
 case first =>
  clear HC1 HC2 Bt HD HS1;cases YB with
  | false =>
   go_wp2;go_meet
   exact ⟨rfl,rfl⟩
  | true =>
   obtain rfl:BY=false:=by simpa using hyb
   go_wp2_with (go_at_call 150;refine (HCo.out _ HM2.out).mono ?_;rintro r w3 ⟨rfl,hw3⟩;rw [hw3];clear hw3 w3)
   go_meet
   exact ⟨rfl,rfl⟩
 case rest =>
 obtain ⟨rfl,hc1⟩:=hcut;have hc2:=hc1.symm;subst hc2;clear HCo hyb c0 c1 c2 c3 c4 d0 d1 d2 d3 d4 d5;cases H1 with
 | true =>
  go_wp2_with fail
  refine Ri.I4 (by kernel_rfl) (by kernel_rfl) (by kernel_rfl) (fun Wx=>Below W.heap.size W Wx) (fun kz vs wz=>(fun kx vx wx=>match kx with|0=>vx=.slice (some ⟨b,oo,none⟩) l.length lc|1=>vx=iI (i:Nat)|2=>vx=.slice (some ⟨b,oo,none⟩) i lc|3=>vx=pP p 1|4=>vx=.string (mk ea)|5=>vx=pP p1 2|6=>vx=iI x.date|7=>vx=.bool true|8=>vx=.bool true|9=>True|10=>True|11=>True|12=>True|13=>True|14=>True|15=>True|16=>True|17=>True|18=>vx=.bool true|19=>vx=.bool true|_=>True:Nat->Value->World->Prop) kz (vs kz) wz) (fun kz=>[kz]) (by kernel_rfl) (fun jz vs iz vz wz hiz hz=>Ri.wI (F:=(fun kx vx wx=>match kx with|0=>vx=.slice (some ⟨b,oo,none⟩) l.length lc|1=>vx=iI (i:Nat)|2=>vx=.slice (some ⟨b,oo,none⟩) i lc|3=>vx=pP p 1|4=>vx=.string (mk ea)|5=>vx=pP p1 2|6=>vx=iI x.date|7=>vx=.bool true|8=>vx=.bool true|9=>True|10=>True|11=>True|12=>True|13=>True|14=>True|15=>True|16=>True|17=>True|18=>vx=.bool true|19=>vx=.bool true|_=>True:Nat->Value->World->Prop)) jz vs iz vz wz hiz hz) HD.out ⟨Or.inl ⟨rfl,?_⟩,Or.inl ⟨rfl,?_⟩,Or.inl ⟨rfl,?_⟩,Or.inl ⟨rfl,?_⟩,Or.inl ⟨rfl,?_⟩,Or.inl ⟨rfl,?_⟩,Or.inl ⟨rfl,?_⟩,Or.inl ⟨rfl,?_⟩,Or.inl ⟨rfl,?_⟩,Or.inr ⟨8,false,34,rfl,rfl,?_⟩,Or.inr ⟨8,false,34,rfl,rfl,?_⟩,Or.inr ⟨8,false,34,rfl,rfl,?_⟩,Or.inr ⟨8,false,34,rfl,rfl,?_⟩,Or.inr ⟨8,false,34,rfl,rfl,?_⟩,Or.inr ⟨8,false,34,rfl,rfl,?_⟩,Or.inr ⟨8,false,34,rfl,rfl,?_⟩,Or.inr ⟨8,false,34,rfl,rfl,?_⟩,Or.inr ⟨8,false,34,rfl,rfl,?_⟩,Or.inl ⟨rfl,?_⟩,Or.inl ⟨rfl,?_⟩,trivial⟩ ?_
  ·intro vs Wx A hA hB hpre K hK;have e1:=(hA 1).trans (show _=Value.slice (some ⟨b,oo,none⟩) l.length lc by kernel_rfl);clear hA hpre;go_simp;exact hK _ _ hB rfl (fun _ _ h=>h)
  ·intro vs Wx A hA hB hpre K hK;have e2:=(hA 2).trans (show _=iI (i:Nat) by kernel_rfl);clear hA hpre;go_simp;exact hK _ _ hB rfl (fun _ _ h=>h)
  ·intro vs Wx A hA hB hpre K hK;have e26:=tT (hA 26) (by kernel_rfl) (hpre.1 rfl);have e27:=tT (hA 27) (by kernel_rfl) (hpre.2.1 rfl);clear hA hpre;go_simp;exact hK _ _ hB rfl (fun _ _ h=>h)
  ·intro vs Wx A hA hB hpre K hK;have e3:=(hA 3).trans (show _=pP p 0 by kernel_rfl);clear hA hpre;go_simp;exact hK _ _ hB rfl (fun _ _ h=>h)
  ·intro vs Wx A hA hB hpre K hK;have e29:=tT (hA 29) (by kernel_rfl) (hpre.1 rfl);obtain ⟨⟨x0,x1,x2,x3,x4⟩,⟨y0,y1,y2,y3,y4,y5⟩⟩:=Bt.out Wx hB;clear hA hpre;go_simp;exact hK _ _ hB rfl (fun _ _ h=>h)
  ·intro vs Wx A hA hB hpre K hK;have e7:=(hA 7).trans (show _=pP p1 0 by kernel_rfl);clear hA hpre;go_simp;exact hK _ _ hB rfl (fun _ _ h=>h)
  ·intro vs Wx A hA hB hpre K hK;have e31:=tT (hA 31) (by kernel_rfl) (hpre.1 rfl);obtain ⟨⟨x0,x1,x2,x3,x4⟩,⟨y0,y1,y2,y3,y4,y5⟩⟩:=Bt.out Wx hB;clear hA hpre;go_simp;exact hK _ _ hB rfl (fun _ _ h=>h)
  ·intro vs Wx A hA hB hpre K hK;have e28:=tT (hA 28) (by kernel_rfl) (hpre.1 rfl);have e30:=tT (hA 30) (by kernel_rfl) (hpre.2.1 rfl);have e32:=tT (hA 32) (by kernel_rfl) (hpre.2.2.1 rfl);clear hA hpre;go_simp;go_at_call 152
   refine (HC1.out _ (wB HL2.out hB)).mono ?_;rintro e w3 ⟨rfl,hg⟩;exact hK _ _ (jg hB hg) rfl (fun _ _ h=>h)
  ·intro vs Wx A hA hB hpre K hK;have e33:=tT (hA 33) (by kernel_rfl) (hpre.1 rfl);clear hA hpre;go_simp;exact hK _ _ hB rfl (fun _ _ h=>h)
  iterate 2
   ·intro vs Wx A hA hB hpre;have eg:=tT (hA 34) (by kernel_rfl) (hpre.1 rfl);exact ⟨true,eg,fun h=>(by cases h),fun _=>trivial⟩
  ·intro vs Wx A hA hB hpre;have eg:=tT (hA 34) (by kernel_rfl) (hpre.2.1 rfl);exact ⟨true,eg,fun h=>(by cases h),fun _=>trivial⟩
  ·intro vs Wx A hA hB hpre;have eg:=tT (hA 34) (by kernel_rfl) (hpre.2.2.1 rfl);exact ⟨true,eg,fun h=>(by cases h),fun _=>trivial⟩
  ·intro vs Wx A hA hB hpre;have eg:=tT (hA 34) (by kernel_rfl) (hpre.1 rfl);exact ⟨true,eg,fun h=>(by cases h),fun _=>trivial⟩
  ·intro vs Wx A hA hB hpre;have eg:=tT (hA 34) (by kernel_rfl) (hpre.2.1 rfl);exact ⟨true,eg,fun h=>(by cases h),fun _=>trivial⟩
  ·intro vs Wx A hA hB hpre;have eg:=tT (hA 34) (by kernel_rfl) (hpre.1 rfl);exact ⟨true,eg,fun h=>(by cases h),fun _=>trivial⟩
  ·intro vs Wx A hA hB hpre;have eg:=tT (hA 34) (by kernel_rfl) (hpre.2.1 rfl);exact ⟨true,eg,fun h=>(by cases h),fun _=>trivial⟩
  ·intro vs Wx A hA hB hpre;have eg:=tT (hA 34) (by kernel_rfl) (hpre.2.2.2.1 rfl);exact ⟨true,eg,fun h=>(by cases h),fun _=>trivial⟩
  ·intro vs Wx A hA hB hpre K hK;have e34:=tT (hA 34) (by kernel_rfl) (hpre.1 rfl);clear hA hpre;go_simp;exact hK _ _ hB rfl (fun _ _ h=>h)
  ·intro vs Wx A hA hB hpre K hK;have e44:=tT (hA 44) (by kernel_rfl) (hpre.1 rfl);clear hA hpre;go_simp;exact hK _ _ hB rfl (fun _ _ h=>h)
  ·intro vs Wx hB hF;have hL:vs 19=.bool true:=hF 19 (by decide);have HB3:=zZ (show Below p w Wx by subst hp;exact jg HB.out hB);clear hF hB Bt HD;simp only [Ri.puts];rw [hL];clear hL;go_simp;go_wp2_with fail
   go_ret;exact ⟨rfl,by first|exact HB3.out|(rw [hp];exact HB3.out)⟩
 | false =>
  by_cases hlc:lc=i+1
  ·have HLC:=zZ hlc;have z1:(lc:Int)=(i:Int)+1:=by omega
   subst hlc;go_wp2_with fail
   refine Ri.I4 (by kernel_rfl) (by kernel_rfl) (by kernel_rfl) (fun Wx=>Below W.heap.size W Wx) (fun kz vs wz=>(fun kx vx wx=>match kx with|0=>vx=.slice (some ⟨b,oo,none⟩) l.length (i+1)|1=>vx=iI (i:Nat)|2=>vx=.slice (some ⟨b,oo,none⟩) i (i+1)|3=>vx=pP p 1|4=>vx=.string (mk ea)|5=>vx=pP p1 2|6=>vx=iI x.date|7=>vx=.bool false|8=>vx=.bool false|9=>vx=.slice (some ⟨b,oo,none⟩) l.length (i+1)|10=>vx=iI (i:Nat)|11=>vx=iI ((i:Int)+1)|12=>vx=.slice (some ⟨b,oo,none⟩) 0 0|13=>vx=pP p 1|14=>vx=.string (mk ea)|15=>vx=pP p1 2|16=>vx=iI x.date|17=>vx=.bool H2|18=>vx=.bool H2|19=>vx=.bool H2|_=>True:Nat->Value->World->Prop) kz (vs kz) wz) (fun kz=>[kz]) (by kernel_rfl) (fun jz vs iz vz wz hiz hz=>Ri.wI (F:=(fun kx vx wx=>match kx with|0=>vx=.slice (some ⟨b,oo,none⟩) l.length (i+1)|1=>vx=iI (i:Nat)|2=>vx=.slice (some ⟨b,oo,none⟩) i (i+1)|3=>vx=pP p 1|4=>vx=.string (mk ea)|5=>vx=pP p1 2|6=>vx=iI x.date|7=>vx=.bool false|8=>vx=.bool false|9=>vx=.slice (some ⟨b,oo,none⟩) l.length (i+1)|10=>vx=iI (i:Nat)|11=>vx=iI ((i:Int)+1)|12=>vx=.slice (some ⟨b,oo,none⟩) 0 0|13=>vx=pP p 1|14=>vx=.string (mk ea)|15=>vx=pP p1 2|16=>vx=iI x.date|17=>vx=.bool H2|18=>vx=.bool H2|19=>vx=.bool H2|_=>True:Nat->Value->World->Prop)) jz vs iz vz wz hiz hz) HD.out ⟨Or.inl ⟨rfl,?_⟩,Or.inl ⟨rfl,?_⟩,Or.inl ⟨rfl,?_⟩,Or.inl ⟨rfl,?_⟩,Or.inl ⟨rfl,?_⟩,Or.inl ⟨rfl,?_⟩,Or.inl ⟨rfl,?_⟩,Or.inl ⟨rfl,?_⟩,Or.inl ⟨rfl,?_⟩,Or.inr ⟨8,false,34,rfl,rfl,?_⟩,Or.inr ⟨8,false,34,rfl,rfl,?_⟩,Or.inr ⟨8,false,34,rfl,rfl,?_⟩,Or.inr ⟨8,false,34,rfl,rfl,?_⟩,Or.inr ⟨8,false,34,rfl,rfl,?_⟩,Or.inr ⟨8,false,34,rfl,rfl,?_⟩,Or.inr ⟨8,false,34,rfl,rfl,?_⟩,Or.inr ⟨8,false,34,rfl,rfl,?_⟩,Or.inr ⟨8,false,34,rfl,rfl,?_⟩,Or.inl ⟨rfl,?_⟩,Or.inl ⟨rfl,?_⟩,trivial⟩ ?_
   ·intro vs Wx A hA hB hpre K hK;have e1:=(hA 1).trans (show _=Value.slice (some ⟨b,oo,none⟩) l.length (i+1) by kernel_rfl);clear hA hpre;go_simp;exact hK _ _ hB rfl (fun _ _ h=>h)
   ·intro vs Wx A hA hB hpre K hK;have e2:=(hA 2).trans (show _=iI (i:Nat) by kernel_rfl);clear hA hpre;go_simp;exact hK _ _ hB rfl (fun _ _ h=>h)
   ·intro vs Wx A hA hB hpre K hK;have e26:=tT (hA 26) (by kernel_rfl) (hpre.1 rfl);have e27:=tT (hA 27) (by kernel_rfl) (hpre.2.1 rfl);have s2:(i:Int)<=(i:Int)+1:=by omega
    clear hA hpre;go_simp;exact hK _ _ hB rfl (fun _ _ h=>h)
   ·intro vs Wx A hA hB hpre K hK;have e3:=(hA 3).trans (show _=pP p 0 by kernel_rfl);clear hA hpre;go_simp;exact hK _ _ hB rfl (fun _ _ h=>h)
   ·intro vs Wx A hA hB hpre K hK;have e29:=tT (hA 29) (by kernel_rfl) (hpre.1 rfl);obtain ⟨⟨x0,x1,x2,x3,x4⟩,⟨y0,y1,y2,y3,y4,y5⟩⟩:=Bt.out Wx hB;clear hA hpre;go_simp;exact hK _ _ hB rfl (fun _ _ h=>h)
   ·intro vs Wx A hA hB hpre K hK;have e7:=(hA 7).trans (show _=pP p1 0 by kernel_rfl);clear hA hpre;go_simp;exact hK _ _ hB rfl (fun _ _ h=>h)
   ·intro vs Wx A hA hB hpre K hK;have e31:=tT (hA 31) (by kernel_rfl) (hpre.1 rfl);obtain ⟨⟨x0,x1,x2,x3,x4⟩,⟨y0,y1,y2,y3,y4,y5⟩⟩:=Bt.out Wx hB;clear hA hpre;go_simp;exact hK _ _ hB rfl (fun _ _ h=>h)
   ·intro vs Wx A hA hB hpre K hK;have e28:=tT (hA 28) (by kernel_rfl) (hpre.1 rfl);have e30:=tT (hA 30) (by kernel_rfl) (hpre.2.1 rfl);have e32:=tT (hA 32) (by kernel_rfl) (hpre.2.2.1 rfl);clear hA hpre;go_simp;go_at_call 152
    refine (HC1.out _ (wB HL2.out hB)).mono ?_;rintro e w3 ⟨rfl,hg⟩;exact hK _ _ (jg hB hg) rfl (fun _ _ h=>h)
   ·intro vs Wx A hA hB hpre K hK;have e33:=tT (hA 33) (by kernel_rfl) (hpre.1 rfl);clear hA hpre;go_simp;exact hK _ _ hB rfl (fun _ _ h=>h)
   ·intro vs Wx A hA hB hpre;have eg:=tT (hA 34) (by kernel_rfl) (hpre.1 rfl);refine ⟨false,eg,fun _ K hK=>?_,fun h=>absurd rfl h⟩;have e1:=(hA 1).trans (show _=Value.slice (some ⟨b,oo,none⟩) l.length (i+1) by kernel_rfl);clear hA hpre;go_simp;exact hK _ _ hB rfl (fun _ _ h=>h)
   ·intro vs Wx A hA hB hpre;have eg:=tT (hA 34) (by kernel_rfl) (hpre.1 rfl);refine ⟨false,eg,fun _ K hK=>?_,fun h=>absurd rfl h⟩;have e2:=(hA 2).trans (show _=iI (i:Nat) by kernel_rfl);clear hA hpre;go_simp;exact hK _ _ hB rfl (fun _ _ h=>h)
   ·intro vs Wx A hA hB hpre;have eg:=tT (hA 34) (by kernel_rfl) (hpre.2.1 rfl);refine ⟨false,eg,fun _ K hK=>?_,fun h=>absurd rfl h⟩;have e36:=tT (hA 36) (by kernel_rfl) (hpre.1 rfl);have s1:=HS1.out;clear hA hpre;go_simp;exact hK _ _ hB rfl (fun _ _ h=>h)
   ·intro vs Wx A hA hB hpre;have eg:=tT (hA 34) (by kernel_rfl) (hpre.2.2.1 rfl);refine ⟨false,eg,fun _ K hK=>?_,fun h=>absurd rfl h⟩;have e35:=tT (hA 35) (by kernel_rfl) (hpre.1 rfl);have e37:=tT (hA 37) (by kernel_rfl) (hpre.2.1 rfl);clear hA hpre;go_simp;exact hK _ _ hB rfl (fun _ _ h=>h)
   ·intro vs Wx A hA hB hpre;have eg:=tT (hA 34) (by kernel_rfl) (hpre.1 rfl);refine ⟨false,eg,fun _ K hK=>?_,fun h=>absurd rfl h⟩;have e3:=(hA 3).trans (show _=pP p 0 by kernel_rfl);clear hA hpre;go_simp;exact hK _ _ hB rfl (fun _ _ h=>h)
   ·intro vs Wx A hA hB hpre;have eg:=tT (hA 34) (by kernel_rfl) (hpre.2.1 rfl);refine ⟨false,eg,fun _ K hK=>?_,fun h=>absurd rfl h⟩;have e39:=tT (hA 39) (by kernel_rfl) (hpre.1 rfl);obtain ⟨⟨x0,x1,x2,x3,x4⟩,⟨y0,y1,y2,y3,y4,y5⟩⟩:=Bt.out Wx hB;clear hA hpre;go_simp;exact hK _ _ hB rfl (fun _ _ h=>h)
   ·intro vs Wx A hA hB hpre;have eg:=tT (hA 34) (by kernel_rfl) (hpre.1 rfl);refine ⟨false,eg,fun _ K hK=>?_,fun h=>absurd rfl h⟩;have e7:=(hA 7).trans (show _=pP p1 0 by kernel_rfl);clear hA hpre;go_simp;exact hK _ _ hB rfl (fun _ _ h=>h)
   ·intro vs Wx A hA hB hpre;have eg:=tT (hA 34) (by kernel_rfl) (hpre.2.1 rfl);refine ⟨false,eg,fun _ K hK=>?_,fun h=>absurd rfl h⟩;have e41:=tT (hA 41) (by kernel_rfl) (hpre.1 rfl);obtain ⟨⟨x0,x1,x2,x3,x4⟩,⟨y0,y1,y2,y3,y4,y5⟩⟩:=Bt.out Wx hB;clear hA hpre;go_simp;exact hK _ _ hB rfl (fun _ _ h=>h)
   ·intro vs Wx A hA hB hpre;have eg:=tT (hA 34) (by kernel_rfl) (hpre.2.2.2.1 rfl);refine ⟨false,eg,fun _ K hK=>?_,fun h=>absurd rfl h⟩;have e38:=tT (hA 38) (by kernel_rfl) (hpre.1 rfl);have e40:=tT (hA 40) (by kernel_rfl) (hpre.2.1 rfl);have e42:=tT (hA 42) (by kernel_rfl) (hpre.2.2.1 rfl);clear hA hpre;go_simp;go_at_call 152
    refine (HC2.out _ (wB HL2.out hB) _ (Or.inr (by first|exact ⟨rfl,rfl⟩|exact ⟨trivial,rfl⟩))).mono ?_;rintro e w3 ⟨rfl,hg⟩;exact hK _ _ (jg hB hg) rfl (fun _ _ h=>h)
   ·intro vs Wx A hA hB hpre K hK;have e34:=tT (hA 34) (by kernel_rfl) (hpre.1 rfl);have e43:=tT (hA 43) (by kernel_rfl) (hpre.2.1 rfl);clear hA hpre;go_simp;exact hK _ _ hB rfl (fun _ _ h=>h)
   ·intro vs Wx A hA hB hpre K hK;have e44:=tT (hA 44) (by kernel_rfl) (hpre.1 rfl);clear hA hpre;go_simp;exact hK _ _ hB rfl (fun _ _ h=>h)
   ·intro vs Wx hB hF;have hL:vs 19=.bool H2:=hF 19 (by decide);have HB3:=zZ (show Below p w Wx by subst hp;exact jg HB.out hB);clear hF hB Bt HD;simp only [Ri.puts];rw [hL];clear hL;go_simp;go_wp2_with fail
    go_ret;exact ⟨rfl,by first|exact HB3.out|(rw [hp];exact HB3.out)⟩
  ·have hlcz:¬ (lc:Int)=(i:Int)+1:=by omega
   go_wp2_with fail
   refine Ri.I4 (by kernel_rfl) (by kernel_rfl) (by kernel_rfl) (fun Wx=>Below W.heap.size W Wx) (fun kz vs wz=>(fun kx vx wx=>match kx with|0=>vx=.slice (some ⟨b,oo,none⟩) l.length lc|1=>vx=iI (i:Nat)|2=>vx=.slice (some ⟨b,oo,none⟩) i lc|3=>vx=pP p 1|4=>vx=.string (mk ea)|5=>vx=pP p1 2|6=>vx=iI x.date|7=>vx=.bool false|8=>vx=.bool false|9=>vx=.slice (some ⟨b,oo,none⟩) l.length lc|10=>vx=iI (i:Nat)|11=>vx=iI ((i:Int)+1)|12=>vx=.slice (some ⟨b,oo+(i+1) * 6,none⟩) (l.length - (i+1)) (lc - (i+1))|13=>vx=pP p 1|14=>vx=.string (mk ea)|15=>vx=pP p1 2|16=>vx=iI x.date|17=>vx=.bool H2|18=>vx=.bool H2|19=>vx=.bool H2|_=>True:Nat->Value->World->Prop) kz (vs kz) wz) (fun kz=>[kz]) (by kernel_rfl) (fun jz vs iz vz wz hiz hz=>Ri.wI (F:=(fun kx vx wx=>match kx with|0=>vx=.slice (some ⟨b,oo,none⟩) l.length lc|1=>vx=iI (i:Nat)|2=>vx=.slice (some ⟨b,oo,none⟩) i lc|3=>vx=pP p 1|4=>vx=.string (mk ea)|5=>vx=pP p1 2|6=>vx=iI x.date|7=>vx=.bool false|8=>vx=.bool false|9=>vx=.slice (some ⟨b,oo,none⟩) l.length lc|10=>vx=iI (i:Nat)|11=>vx=iI ((i:Int)+1)|12=>vx=.slice (some ⟨b,oo+(i+1) * 6,none⟩) (l.length - (i+1)) (lc - (i+1))|13=>vx=pP p 1|14=>vx=.string (mk ea)|15=>vx=pP p1 2|16=>vx=iI x.date|17=>vx=.bool H2|18=>vx=.bool H2|19=>vx=.bool H2|_=>True:Nat->Value->World->Prop)) jz vs iz vz wz hiz hz) HD.out ⟨Or.inl ⟨rfl,?_⟩,Or.inl ⟨rfl,?_⟩,Or.inl ⟨rfl,?_⟩,Or.inl ⟨rfl,?_⟩,Or.inl ⟨rfl,?_⟩,Or.inl ⟨rfl,?_⟩,Or.inl ⟨rfl,?_⟩,Or.inl ⟨rfl,?_⟩,Or.inl ⟨rfl,?_⟩,Or.inr ⟨8,false,34,rfl,rfl,?_⟩,Or.inr ⟨8,false,34,rfl,rfl,?_⟩,Or.inr ⟨8,false,34,rfl,rfl,?_⟩,Or.inr ⟨8,false,34,rfl,rfl,?_⟩,Or.inr ⟨8,false,34,rfl,rfl,?_⟩,Or.inr ⟨8,false,34,rfl,rfl,?_⟩,Or.inr ⟨8,false,34,rfl,rfl,?_⟩,Or.inr ⟨8,false,34,rfl,rfl,?_⟩,Or.inr ⟨8,false,34,rfl,rfl,?_⟩,Or.inl ⟨rfl,?_⟩,Or.inl ⟨rfl,?_⟩,trivial⟩ ?_
   ·intro vs Wx A hA hB hpre K hK;have e1:=(hA 1).trans (show _=Value.slice (some ⟨b,oo,none⟩) l.length lc by kernel_rfl);clear hA hpre;go_simp;exact hK _ _ hB rfl (fun _ _ h=>h)
   ·intro vs Wx A hA hB hpre K hK;have e2:=(hA 2).trans (show _=iI (i:Nat) by kernel_rfl);clear hA hpre;go_simp;exact hK _ _ hB rfl (fun _ _ h=>h)
   ·intro vs Wx A hA hB hpre K hK;have e26:=tT (hA 26) (by kernel_rfl) (hpre.1 rfl);have e27:=tT (hA 27) (by kernel_rfl) (hpre.2.1 rfl);clear hA hpre;go_simp;exact hK _ _ hB rfl (fun _ _ h=>h)
   ·intro vs Wx A hA hB hpre K hK;have e3:=(hA 3).trans (show _=pP p 0 by kernel_rfl);clear hA hpre;go_simp;exact hK _ _ hB rfl (fun _ _ h=>h)
   ·intro vs Wx A hA hB hpre K hK;have e29:=tT (hA 29) (by kernel_rfl) (hpre.1 rfl);obtain ⟨⟨x0,x1,x2,x3,x4⟩,⟨y0,y1,y2,y3,y4,y5⟩⟩:=Bt.out Wx hB;clear hA hpre;go_simp;exact hK _ _ hB rfl (fun _ _ h=>h)
   ·intro vs Wx A hA hB hpre K hK;have e7:=(hA 7).trans (show _=pP p1 0 by kernel_rfl);clear hA hpre;go_simp;exact hK _ _ hB rfl (fun _ _ h=>h)
   ·intro vs Wx A hA hB hpre K hK;have e31:=tT (hA 31) (by kernel_rfl) (hpre.1 rfl);obtain ⟨⟨x0,x1,x2,x3,x4⟩,⟨y0,y1,y2,y3,y4,y5⟩⟩:=Bt.out Wx hB;clear hA hpre;go_simp;exact hK _ _ hB rfl (fun _ _ h=>h)
   ·intro vs Wx A hA hB hpre K hK;have e28:=tT (hA 28) (by kernel_rfl) (hpre.1 rfl);have e30:=tT (hA 30) (by kernel_rfl) (hpre.2.1 rfl);have e32:=tT (hA 32) (by kernel_rfl) (hpre.2.2.1 rfl);clear hA hpre;go_simp;go_at_call 152
    refine (HC1.out _ (wB HL2.out hB)).mono ?_;rintro e w3 ⟨rfl,hg⟩;exact hK _ _ (jg hB hg) rfl (fun _ _ h=>h)
   ·intro vs Wx A hA hB hpre K hK;have e33:=tT (hA 33) (by kernel_rfl) (hpre.1 rfl);clear hA hpre;go_simp;exact hK _ _ hB rfl (fun _ _ h=>h)
   ·intro vs Wx A hA hB hpre;have eg:=tT (hA 34) (by kernel_rfl) (hpre.1 rfl);refine ⟨false,eg,fun _ K hK=>?_,fun h=>absurd rfl h⟩;have e1:=(hA 1).trans (show _=Value.slice (some ⟨b,oo,none⟩) l.length lc by kernel_rfl);clear hA hpre;go_simp;exact hK _ _ hB rfl (fun _ _ h=>h)
   ·intro vs Wx A hA hB hpre;have eg:=tT (hA 34) (by kernel_rfl) (hpre.1 rfl);refine ⟨false,eg,fun _ K hK=>?_,fun h=>absurd rfl h⟩;have e2:=(hA 2).trans (show _=iI (i:Nat) by kernel_rfl);clear hA hpre;go_simp;exact hK _ _ hB rfl (fun _ _ h=>h)
   ·intro vs Wx A hA hB hpre;have eg:=tT (hA 34) (by kernel_rfl) (hpre.2.1 rfl);refine ⟨false,eg,fun _ K hK=>?_,fun h=>absurd rfl h⟩;have e36:=tT (hA 36) (by kernel_rfl) (hpre.1 rfl);have s1:=HS1.out;clear hA hpre;go_simp;exact hK _ _ hB rfl (fun _ _ h=>h)
   ·intro vs Wx A hA hB hpre;have eg:=tT (hA 34) (by kernel_rfl) (hpre.2.2.1 rfl);refine ⟨false,eg,fun _ K hK=>?_,fun h=>absurd rfl h⟩;have e35:=tT (hA 35) (by kernel_rfl) (hpre.1 rfl);have e37:=tT (hA 37) (by kernel_rfl) (hpre.2.1 rfl);clear hA hpre;go_simp;exact hK _ _ hB rfl (fun _ _ h=>h)
   ·intro vs Wx A hA hB hpre;have eg:=tT (hA 34) (by kernel_rfl) (hpre.1 rfl);refine ⟨false,eg,fun _ K hK=>?_,fun h=>absurd rfl h⟩;have e3:=(hA 3).trans (show _=pP p 0 by kernel_rfl);clear hA hpre;go_simp;exact hK _ _ hB rfl (fun _ _ h=>h)
   ·intro vs Wx A hA hB hpre;have eg:=tT (hA 34) (by kernel_rfl) (hpre.2.1 rfl);refine ⟨false,eg,fun _ K hK=>?_,fun h=>absurd rfl h⟩;have e39:=tT (hA 39) (by kernel_rfl) (hpre.1 rfl);obtain ⟨⟨x0,x1,x2,x3,x4⟩,⟨y0,y1,y2,y3,y4,y5⟩⟩:=Bt.out Wx hB;clear hA hpre;go_simp;exact hK _ _ hB rfl (fun _ _ h=>h)
   ·intro vs Wx A hA hB hpre;have eg:=tT (hA 34) (by kernel_rfl) (hpre.1 rfl);refine ⟨false,eg,fun _ K hK=>?_,fun h=>absurd rfl h⟩;have e7:=(hA 7).trans (show _=pP p1 0 by kernel_rfl);clear hA hpre;go_simp;exact hK _ _ hB rfl (fun _ _ h=>h)
   ·intro vs Wx A hA hB hpre;have eg:=tT (hA 34) (by kernel_rfl) (hpre.2.1 rfl);refine ⟨false,eg,fun _ K hK=>?_,fun h=>absurd rfl h⟩;have e41:=tT (hA 41) (by kernel_rfl) (hpre.1 rfl);obtain ⟨⟨x0,x1,x2,x3,x4⟩,⟨y0,y1,y2,y3,y4,y5⟩⟩:=Bt.out Wx hB;clear hA hpre;go_simp;exact hK _ _ hB rfl (fun _ _ h=>h)
   ·intro vs Wx A hA hB hpre;have eg:=tT (hA 34) (by kernel_rfl) (hpre.2.2.2.1 rfl);refine ⟨false,eg,fun _ K hK=>?_,fun h=>absurd rfl h⟩;have e38:=tT (hA 38) (by kernel_rfl) (hpre.1 rfl);have e40:=tT (hA 40) (by kernel_rfl) (hpre.2.1 rfl);have e42:=tT (hA 42) (by kernel_rfl) (hpre.2.2.1 rfl);clear hA hpre;go_simp;go_at_call 152
    refine (HC2.out _ (wB HL2.out hB) _ (Or.inl rfl)).mono ?_;rintro e w3 ⟨rfl,hg⟩;exact hK _ _ (jg hB hg) rfl (fun _ _ h=>h)
   ·intro vs Wx A hA hB hpre K hK;have e34:=tT (hA 34) (by kernel_rfl) (hpre.1 rfl);have e43:=tT (hA 43) (by kernel_rfl) (hpre.2.1 rfl);clear hA hpre;go_simp;exact hK _ _ hB rfl (fun _ _ h=>h)
   ·intro vs Wx A hA hB hpre K hK;have e44:=tT (hA 44) (by kernel_rfl) (hpre.1 rfl);clear hA hpre;go_simp;exact hK _ _ hB rfl (fun _ _ h=>h)
   ·intro vs Wx hB hF;have hL:vs 19=.bool H2:=hF 19 (by decide);have HB3:=zZ (show Below p w Wx by subst hp;exact jg HB.out hB);clear hF hB Bt HD;simp only [Ri.puts];rw [hL];clear hL;go_simp;go_wp2_with fail
    go_ret;exact ⟨rfl,by first|exact HB3.out|(rw [hp];exact HB3.out)⟩
end Ex
end Go.Proofs.YtfbfeoplldjbpaaGreatDoor
