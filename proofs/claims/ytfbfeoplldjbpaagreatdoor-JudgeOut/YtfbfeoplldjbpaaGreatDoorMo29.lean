/-
  Texts put together (merge.py): UKid.
-/
import Derived.Test.YtfbfeoplldjbpaaGreatDoorMo26
import Derived.Test.YtfbfeoplldjbpaaGreatDoorMo5
set_option linter.unusedSimpArgs false
set_option linter.unusedVariables false
set_option maxHeartbeats 16000000
set_option maxRecDepth 100000
section
namespace Go.Proofs.YtfbfeoplldjbpaaGreatDoor.Ul
open Go.RowKit
open Pl (Cd St Ru Pn aX dD bY bW Ok1 cdv stv ruv pnv iU jg jv jU iR jf)
open Wo (jI jQ tV qL)
open Cm (Ln)
def aV (x:Ln) (net:Int) (ml:Value) (c:Cd) (m:Value) (w:World):Prop:=
 Calls Tryz.prog 123 #[cdv c m,lnv x ml,.int .i64 net] w fun e w'=>e=.returned (.bool (holdsB x net c))/\Below w.heap.size w w'
theorem uH (x:Ln) (net:Int) (ml:Value) (c:Cd) (i:Nat) (hi:i<=1)
  (IH:∀k ∈ c.kids,∀(m:Value) (w:World),aX All w m k.kids->dI All w ml x.mods->aV x net ml k m w)
  (m:Value) (w:World) (hK:aX All w m c.kids) (hx:dI All w ml x.mods) :
  Calls Tryz.prog 151 #[cdv c m,.int .i64 i,lnv x ml,.int .i64 net] w fun e w'=>e=.returned (.bool (uz x net c.kids i))/\Below w.heap.size w w':=by
 obtain ⟨T,HT⟩:∃T,Hid (uz x net c.kids i=T):=⟨_,rfl⟩
 rw [HT.out]
 obtain ⟨hb,hz1,hz2⟩:=jJ w c m x ml
 have HB:=Lib.hid hb
 have HX:=Lib.hid hz1
 have HL:=Lib.hid hz2
 have HK:=Lib.hid (hK.grw hb)
 have HM:=Lib.hid (Hf hx hb)
 obtain ⟨a,k,rfl,hk1,hk2⟩:=hK.form
 obtain ⟨la,lk,rfl,hl1,hl2⟩:=G9 hx
 clear hK hx hb hz1 hz2
 go_enter Tryz.func151,Tryz.ntmps151
 go_upto_region 1 with fail
 generalize (w.alloc (.cells #[.int .i64 c.kind,.string (mk c.lo),.string (mk c.hi),.int .i64 c.n,.slice a c.kids.length k] 79)).alloc (.cells #[.string (mk x.proc),.slice la x.mods.length lk,.int .i64 x.date,.int .i64 x.units,.int .i64 x.billed,.int .i64 x.prior] 48)=W at *
 generalize hp:w.heap.size=p at *
 obtain ⟨q,hq⟩:∃q,q=p+1:=⟨_,rfl⟩
 rw [←hq] at HL ⊢
 clear hq
 obtain ⟨x0,x1,x2,x3,x4⟩:=jv HX.out
 obtain ⟨y0,y1,y2,y3,y4,y5⟩:=jU HL.out
 have HD:=Lib.hid (Below.drew (Below.refl W.heap.size W))
 have HXK:=Lib.hid fun W' (hW:Below W.heap.size W W')=>And.intro (jv (tV HX.out hW)) (jU (tV HL.out hW))
 by_cases hlt:i < c.kids.length
 case neg =>
  have HRES:Hid (T=false):=by show _=_;rw [←HT.out];exact uF x net c.kids i (by omega)
  have hlt':¬ (i:Int) < (c.kids.length:Int):=by omega
  have hge:(c.kids.length:Int)<=(i:Int):=by omega
  have HBR:=Lib.hid (Below.refl W.heap.size W)
  clear IH HK HM hlt HT
  go_cut [8] (fun s wx=>s=.bool false/\Hid (Below W.heap.size W wx))
  case first =>
   clear x0 x1 x2 x3 x4 y0 y1 y2 y3 y4 y5
   refine Ri.I4 (by kernel_rfl) (by kernel_rfl) (by kernel_rfl) (fun Wx=>Below W.heap.size W Wx) (fun kz vs wz=>(fun kx vx wx=>match kx with|0=>vx=.int .i64 (i:Nat)|1=>vx=.pointer (some ⟨p,4,none⟩)|2=>vx=.slice a c.kids.length k|3=>vx=.int .i64 (c.kids.length:Nat)|4=>vx=.bool false|5=>vx=.bool false|6=>True|7=>True|8=>True|9=>True|10=>True|11=>True|12=>True|13=>True|14=>vx=.bool false|15=>vx=.bool false|_=>True:Nat->Value->World->Prop) kz (vs kz) wz) (fun kz=>[kz]) (by kernel_rfl) (fun jz vs iz vz wz hiz hz=>Ri.wI (F:=(fun kx vx wx=>match kx with|0=>vx=.int .i64 (i:Nat)|1=>vx=.pointer (some ⟨p,4,none⟩)|2=>vx=.slice a c.kids.length k|3=>vx=.int .i64 (c.kids.length:Nat)|4=>vx=.bool false|5=>vx=.bool false|6=>True|7=>True|8=>True|9=>True|10=>True|11=>True|12=>True|13=>True|14=>vx=.bool false|15=>vx=.bool false|_=>True:Nat->Value->World->Prop)) jz vs iz vz wz hiz hz) HD.out ⟨Or.inl ⟨rfl,?_⟩,Or.inl ⟨rfl,?_⟩,Or.inl ⟨rfl,?_⟩,Or.inl ⟨rfl,?_⟩,Or.inl ⟨rfl,?_⟩,Or.inl ⟨rfl,?_⟩,Or.inr ⟨5,true,14,rfl,rfl,?_⟩,Or.inr ⟨5,true,14,rfl,rfl,?_⟩,Or.inr ⟨5,true,14,rfl,rfl,?_⟩,Or.inr ⟨5,true,14,rfl,rfl,?_⟩,Or.inr ⟨5,true,14,rfl,rfl,?_⟩,Or.inr ⟨5,true,14,rfl,rfl,?_⟩,Or.inr ⟨5,true,14,rfl,rfl,?_⟩,Or.inr ⟨5,true,14,rfl,rfl,?_⟩,Or.inl ⟨rfl,?_⟩,Or.inl ⟨rfl,?_⟩,trivial⟩ ?_
   ·intro vs Wx A hA hB hpre K hK
    have e1:=(hA 1).trans (show _=Value.int .i64 (i:Nat) by kernel_rfl)
    clear hA hpre
    go_simp
    exact hK _ _ hB rfl (fun _ _ h=>h)
   ·intro vs Wx A hA hB hpre K hK
    have e4:=(hA 4).trans (show _=Value.pointer (some ⟨p,0,none⟩) by kernel_rfl)
    clear hA hpre
    go_simp
    exact hK _ _ hB rfl (fun _ _ h=>h)
   ·intro vs Wx A hA hB hpre K hK
    have e10:=((hA 10).trans (show _=vs 1 by kernel_rfl)).trans (hpre.1 rfl)
    obtain ⟨⟨x0,x1,x2,x3,x4⟩,⟨y0,y1,y2,y3,y4,y5⟩⟩:=HXK.out Wx hB
    clear hA hpre
    go_simp
    exact hK _ _ hB rfl (fun _ _ h=>h)
   ·intro vs Wx A hA hB hpre K hK
    have e11:=((hA 11).trans (show _=vs 2 by kernel_rfl)).trans (hpre.1 rfl)
    clear hA hpre
    go_simp
    exact hK _ _ hB rfl (fun _ _ h=>h)
   ·intro vs Wx A hA hB hpre K hK
    have e9:=((hA 9).trans (show _=vs 0 by kernel_rfl)).trans (hpre.1 rfl)
    have e12:=((hA 12).trans (show _=vs 3 by kernel_rfl)).trans (hpre.2.1 rfl)
    clear hA hpre
    go_simp
    exact hK _ _ hB rfl (fun _ _ h=>h)
   ·intro vs Wx A hA hB hpre K hK
    have e13:=((hA 13).trans (show _=vs 4 by kernel_rfl)).trans (hpre.1 rfl)
    clear hA hpre
    go_simp
    exact hK _ _ hB rfl (fun _ _ h=>h)
   ·intro vs Wx A hA hB hpre
    have eg:=((hA 14).trans (show _=vs 5 by kernel_rfl)).trans (hpre.1 rfl)
    exact ⟨false,eg,fun h=>(by cases h),fun _=>trivial⟩
   ·intro vs Wx A hA hB hpre
    have eg:=((hA 14).trans (show _=vs 5 by kernel_rfl)).trans (hpre.2.1 rfl)
    exact ⟨false,eg,fun h=>(by cases h),fun _=>trivial⟩
   ·intro vs Wx A hA hB hpre
    have eg:=((hA 14).trans (show _=vs 5 by kernel_rfl)).trans (hpre.1 rfl)
    exact ⟨false,eg,fun h=>(by cases h),fun _=>trivial⟩
   ·intro vs Wx A hA hB hpre
    have eg:=((hA 14).trans (show _=vs 5 by kernel_rfl)).trans (hpre.2.2.1 rfl)
    exact ⟨false,eg,fun h=>(by cases h),fun _=>trivial⟩
   ·intro vs Wx A hA hB hpre
    have eg:=((hA 14).trans (show _=vs 5 by kernel_rfl)).trans (hpre.2.1 rfl)
    exact ⟨false,eg,fun h=>(by cases h),fun _=>trivial⟩
   iterate 2
    ·intro vs Wx A hA hB hpre
     have eg:=((hA 14).trans (show _=vs 5 by kernel_rfl)).trans (hpre.1 rfl)
     exact ⟨false,eg,fun h=>(by cases h),fun _=>trivial⟩
   ·intro vs Wx A hA hB hpre
    have eg:=((hA 14).trans (show _=vs 5 by kernel_rfl)).trans (hpre.2.2.2.1 rfl)
    exact ⟨false,eg,fun h=>(by cases h),fun _=>trivial⟩
   ·intro vs Wx A hA hB hpre K hK
    have e14:=((hA 14).trans (show _=vs 5 by kernel_rfl)).trans (hpre.1 rfl)
    clear hA hpre
    go_simp
    exact hK _ _ hB rfl (fun _ _ h=>h)
   ·intro vs Wx A hA hB hpre K hK
    have e23:=((hA 23).trans (show _=vs 14 by kernel_rfl)).trans (hpre.1 rfl)
    clear hA hpre
    go_simp
    exact hK _ _ hB rfl (fun _ _ h=>h)
   ·intro vs Wx hB hF
    have h8:vs 15=.bool false:=hF 15 (by decide)
    have HBW:=Lib.hid hB
    clear hF hB
    simp only [Ri.puts]
    go_simp
    go_wp2_with fail
    go_meet
    exact ⟨by first|rfl|exact h8,HBW.out⟩
  case rest =>
   obtain ⟨rfl,HBx⟩:=hcut
   go_wp2_with fail
   go_ret
   exact ⟨by first|rfl|(rw [HRES.out];rfl),by first|exact jf hp HB.out HBx.out|(rw [hp];exact jf hp HB.out HBx.out)⟩
 obtain ⟨b,o,mv,rfl,hbs,hxx,hcc,hkk,hok⟩:=aX.get HK.out i hlt
 have HRES:Hid (T=holdsB x net c.kids[i]):=by show _=_;rw [←HT.out];exact uG x net c.kids i _ hxx
 have HC:=Lib.hid fun W' (hW:Below W.heap.size W W')=>IH c.kids[i] (List.getElem_mem hlt) mv W' (hkk.grw hW) (Hf HM.out hW)
 have HXL:=Lib.hid fun W' (hW:Below W.heap.size W W')=>And.intro (HXK.out W' hW) (hcc.of (hW.block b hbs))
 obtain ⟨ka,kc,rfl,-,-⟩:=hkk.form
 have hlt':(i:Int) < (c.kids.length:Int):=by omega
 have hge:¬ (c.kids.length:Int)<=(i:Int):=by omega
 clear hkk hok hxx IH HK HM hcc HXK HT
 generalize c.kids[i]=kd at *
 unfold aV Pl.aj at *
 go_cut [8] (fun s wx=>s=.bool (holdsB x net kd)/\Hid (Below W.heap.size W wx))
 case first =>
  clear x0 x1 x2 x3 x4 y0 y1 y2 y3 y4 y5
  refine Ri.I4 (by kernel_rfl) (by kernel_rfl) (by kernel_rfl) (fun Wx=>Below W.heap.size W Wx) (fun kz vs wz=>(fun kx vx wx=>match kx with|0=>vx=.int .i64 (i:Nat)|1=>vx=.pointer (some ⟨p,4,none⟩)|2=>vx=.slice (some ⟨b,o,none⟩) c.kids.length k|3=>vx=.int .i64 (c.kids.length:Nat)|4=>vx=.bool true|5=>vx=.bool true|6=>vx=.pointer (some ⟨p,4,none⟩)|7=>vx=.slice (some ⟨b,o,none⟩) c.kids.length k|8=>vx=.int .i64 (i:Nat)|9=>vx=.pointer (some ⟨b,o+i * 5,none⟩)|10=>vx=cdv kd (.slice ka kd.kids.length kc)|11=>vx=lnv x (.slice la x.mods.length lk)|12=>vx=.int .i64 net|13=>vx=.bool (holdsB x net kd)|14=>vx=.bool (holdsB x net kd)|15=>vx=.bool (holdsB x net kd)|_=>True:Nat->Value->World->Prop) kz (vs kz) wz) (fun kz=>[kz]) (by kernel_rfl) (fun jz vs iz vz wz hiz hz=>Ri.wI (F:=(fun kx vx wx=>match kx with|0=>vx=.int .i64 (i:Nat)|1=>vx=.pointer (some ⟨p,4,none⟩)|2=>vx=.slice (some ⟨b,o,none⟩) c.kids.length k|3=>vx=.int .i64 (c.kids.length:Nat)|4=>vx=.bool true|5=>vx=.bool true|6=>vx=.pointer (some ⟨p,4,none⟩)|7=>vx=.slice (some ⟨b,o,none⟩) c.kids.length k|8=>vx=.int .i64 (i:Nat)|9=>vx=.pointer (some ⟨b,o+i * 5,none⟩)|10=>vx=cdv kd (.slice ka kd.kids.length kc)|11=>vx=lnv x (.slice la x.mods.length lk)|12=>vx=.int .i64 net|13=>vx=.bool (holdsB x net kd)|14=>vx=.bool (holdsB x net kd)|15=>vx=.bool (holdsB x net kd)|_=>True:Nat->Value->World->Prop)) jz vs iz vz wz hiz hz) HD.out ⟨Or.inl ⟨rfl,?_⟩,Or.inl ⟨rfl,?_⟩,Or.inl ⟨rfl,?_⟩,Or.inl ⟨rfl,?_⟩,Or.inl ⟨rfl,?_⟩,Or.inl ⟨rfl,?_⟩,Or.inr ⟨5,true,14,rfl,rfl,?_⟩,Or.inr ⟨5,true,14,rfl,rfl,?_⟩,Or.inr ⟨5,true,14,rfl,rfl,?_⟩,Or.inr ⟨5,true,14,rfl,rfl,?_⟩,Or.inr ⟨5,true,14,rfl,rfl,?_⟩,Or.inr ⟨5,true,14,rfl,rfl,?_⟩,Or.inr ⟨5,true,14,rfl,rfl,?_⟩,Or.inr ⟨5,true,14,rfl,rfl,?_⟩,Or.inl ⟨rfl,?_⟩,Or.inl ⟨rfl,?_⟩,trivial⟩ ?_
  ·intro vs Wx A hA hB hpre K hK
   have e1:=(hA 1).trans (show _=Value.int .i64 (i:Nat) by kernel_rfl)
   clear hA hpre
   go_simp
   exact hK _ _ hB rfl (fun _ _ h=>h)
  ·intro vs Wx A hA hB hpre K hK
   have e4:=(hA 4).trans (show _=Value.pointer (some ⟨p,0,none⟩) by kernel_rfl)
   clear hA hpre
   go_simp
   exact hK _ _ hB rfl (fun _ _ h=>h)
  ·intro vs Wx A hA hB hpre K hK
   have e10:=((hA 10).trans (show _=vs 1 by kernel_rfl)).trans (hpre.1 rfl)
   obtain ⟨⟨⟨x0,x1,x2,x3,x4⟩,⟨y0,y1,y2,y3,y4,y5⟩⟩,⟨z0,z1,z2,z3,z4⟩⟩:=HXL.out Wx hB
   clear hA hpre
   go_simp
   exact hK _ _ hB rfl (fun _ _ h=>h)
  ·intro vs Wx A hA hB hpre K hK
   have e11:=((hA 11).trans (show _=vs 2 by kernel_rfl)).trans (hpre.1 rfl)
   clear hA hpre
   go_simp
   exact hK _ _ hB rfl (fun _ _ h=>h)
  ·intro vs Wx A hA hB hpre K hK
   have e9:=((hA 9).trans (show _=vs 0 by kernel_rfl)).trans (hpre.1 rfl)
   have e12:=((hA 12).trans (show _=vs 3 by kernel_rfl)).trans (hpre.2.1 rfl)
   clear hA hpre
   go_simp
   exact hK _ _ hB rfl (fun _ _ h=>h)
  ·intro vs Wx A hA hB hpre K hK
   have e13:=((hA 13).trans (show _=vs 4 by kernel_rfl)).trans (hpre.1 rfl)
   clear hA hpre
   go_simp
   exact hK _ _ hB rfl (fun _ _ h=>h)
  ·intro vs Wx A hA hB hpre
   have eg:=((hA 14).trans (show _=vs 5 by kernel_rfl)).trans (hpre.1 rfl)
   refine ⟨true,eg,fun _ K hK=>?_,fun h=>absurd rfl h⟩
   have e4:=(hA 4).trans (show _=Value.pointer (some ⟨p,0,none⟩) by kernel_rfl)
   clear hA hpre
   go_simp
   exact hK _ _ hB rfl (fun _ _ h=>h)
  ·intro vs Wx A hA hB hpre
   have eg:=((hA 14).trans (show _=vs 5 by kernel_rfl)).trans (hpre.2.1 rfl)
   refine ⟨true,eg,fun _ K hK=>?_,fun h=>absurd rfl h⟩
   have e15:=((hA 15).trans (show _=vs 6 by kernel_rfl)).trans (hpre.1 rfl)
   obtain ⟨⟨⟨x0,x1,x2,x3,x4⟩,⟨y0,y1,y2,y3,y4,y5⟩⟩,⟨z0,z1,z2,z3,z4⟩⟩:=HXL.out Wx hB
   clear hA hpre
   go_simp
   exact hK _ _ hB rfl (fun _ _ h=>h)
  ·intro vs Wx A hA hB hpre
   have eg:=((hA 14).trans (show _=vs 5 by kernel_rfl)).trans (hpre.1 rfl)
   refine ⟨true,eg,fun _ K hK=>?_,fun h=>absurd rfl h⟩
   have e1:=(hA 1).trans (show _=Value.int .i64 (i:Nat) by kernel_rfl)
   clear hA hpre
   go_simp
   exact hK _ _ hB rfl (fun _ _ h=>h)
  ·intro vs Wx A hA hB hpre
   have eg:=((hA 14).trans (show _=vs 5 by kernel_rfl)).trans (hpre.2.2.1 rfl)
   refine ⟨true,eg,fun _ K hK=>?_,fun h=>absurd rfl h⟩
   have e16:=((hA 16).trans (show _=vs 7 by kernel_rfl)).trans (hpre.1 rfl)
   have e17:=((hA 17).trans (show _=vs 8 by kernel_rfl)).trans (hpre.2.1 rfl)
   clear hA hpre
   go_simp
   exact hK _ _ hB rfl (fun _ _ h=>h)
  ·intro vs Wx A hA hB hpre
   have eg:=((hA 14).trans (show _=vs 5 by kernel_rfl)).trans (hpre.2.1 rfl)
   refine ⟨true,eg,fun _ K hK=>?_,fun h=>absurd rfl h⟩
   have e18:=((hA 18).trans (show _=vs 9 by kernel_rfl)).trans (hpre.1 rfl)
   obtain ⟨⟨⟨x0,x1,x2,x3,x4⟩,⟨y0,y1,y2,y3,y4,y5⟩⟩,⟨z0,z1,z2,z3,z4⟩⟩:=HXL.out Wx hB
   clear hA hpre
   go_simp
   exact hK _ _ hB rfl (fun _ _ h=>h)
  ·intro vs Wx A hA hB hpre
   have eg:=((hA 14).trans (show _=vs 5 by kernel_rfl)).trans (hpre.1 rfl)
   refine ⟨true,eg,fun _ K hK=>?_,fun h=>absurd rfl h⟩
   have e6:=(hA 6).trans (show _=Value.pointer (some ⟨q,0,none⟩) by kernel_rfl)
   obtain ⟨⟨⟨x0,x1,x2,x3,x4⟩,⟨y0,y1,y2,y3,y4,y5⟩⟩,⟨z0,z1,z2,z3,z4⟩⟩:=HXL.out Wx hB
   clear hA hpre
   go_simp
   exact hK _ _ hB rfl (fun _ _ h=>h)
  ·intro vs Wx A hA hB hpre
   have eg:=((hA 14).trans (show _=vs 5 by kernel_rfl)).trans (hpre.1 rfl)
   refine ⟨true,eg,fun _ K hK=>?_,fun h=>absurd rfl h⟩
   have e3:=(hA 3).trans (show _=Value.int .i64 net by kernel_rfl)
   clear hA hpre
   go_simp
   exact hK _ _ hB rfl (fun _ _ h=>h)
  ·intro vs Wx A hA hB hpre
   have eg:=((hA 14).trans (show _=vs 5 by kernel_rfl)).trans (hpre.2.2.2.1 rfl)
   refine ⟨true,eg,fun _ K hK=>?_,fun h=>absurd rfl h⟩
   have e19:=((hA 19).trans (show _=vs 10 by kernel_rfl)).trans (hpre.1 rfl)
   have e20:=((hA 20).trans (show _=vs 11 by kernel_rfl)).trans (hpre.2.1 rfl)
   have e21:=((hA 21).trans (show _=vs 12 by kernel_rfl)).trans (hpre.2.2.1 rfl)
   clear hA hpre
   go_simp
   go_at_call 123
   refine (HC.out _ hB).mono ?_
   rintro e w1 ⟨rfl,hb1⟩
   exact hK _ _ (jg hB hb1) rfl (fun _ _ h=>h)
  ·intro vs Wx A hA hB hpre K hK
   have e14:=((hA 14).trans (show _=vs 5 by kernel_rfl)).trans (hpre.1 rfl)
   have e22:=((hA 22).trans (show _=vs 13 by kernel_rfl)).trans (hpre.2.1 rfl)
   clear hA hpre
   go_simp
   exact hK _ _ hB rfl (fun _ _ h=>h)
  ·intro vs Wx A hA hB hpre K hK
   have e23:=((hA 23).trans (show _=vs 14 by kernel_rfl)).trans (hpre.1 rfl)
   clear hA hpre
   go_simp
   exact hK _ _ hB rfl (fun _ _ h=>h)
  ·intro vs Wx hB hF
   have h8:vs 15=.bool (holdsB x net kd):=hF 15 (by decide)
   have HBW:=Lib.hid hB
   clear hF hB
   simp only [Ri.puts]
   go_simp
   go_wp2_with fail
   go_meet
   exact ⟨by first|rfl|exact h8,HBW.out⟩
 case rest =>
  obtain ⟨rfl,HBx⟩:=hcut
  go_wp2_with fail
  go_ret
  exact ⟨by first|rfl|(rw [HRES.out];rfl),by first|exact jf hp HB.out HBx.out|(rw [hp];exact jf hp HB.out HBx.out)⟩
end Go.Proofs.YtfbfeoplldjbpaaGreatDoor.Ul
end
