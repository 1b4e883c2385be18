/-
  Texts put together (merge.py): ZFind, IKey.
-/
import Derived.Deep.LoopGhost
import Derived.Test.YtfbfeoplldjbpaaGreatDoorMo34
import Derived.Test.YtfbfeoplldjbpaaGreatDoorMo3
import Derived.Test.YtfbfeoplldjbpaaGreatDoorMo20
import Derived.Test.YtfbfeoplldjbpaaGreatDoorMo5
import Derived.Test.YtfbfeoplldjbpaaGreatDoorMo16
set_option linter.unusedSimpArgs false
set_option linter.unusedVariables false
set_option maxHeartbeats 16000000
set_option maxRecDepth 100000
section
namespace Go.Proofs.YtfbfeoplldjbpaaGreatDoor.Fe
open Go.RowKit
open Wo (tV jI jQ qL iU jg)
open Cm (Ln dI.form)
theorem wO (l:List Fee) (k:Key) (v:Value) (w:World) (h:aU All w v l) (hl:l.length<=281474976710656) (hU:Up l) :
  Calls Tryz.prog 127 #[v,.string (mk k.proc),.string (mk k.mod),.int .i64 k.net,.int .i64 k.day] w fun e w'=>e=.returned (.tuple #[.int .i64 (wL k l),.bool (wJ k l)])/\Below w.heap.size w w':=by
 have HU:=Lib.hid hU
 have hb0:=iU w (.cells #[.string (mk k.proc),.string (mk k.mod),.int .i64 k.net,.int .i64 k.day] 152)
 have HZ:=Lib.hid (heap_alloc_new w (.cells #[.string (mk k.proc),.string (mk k.mod),.int .i64 k.net,.int .i64 k.day] 152))
 have HF:=Lib.hid (h.grw hb0)
 have HB0:=Lib.hid hb0
 have HBS:=Lib.hid (jS l (tZ k) v _ (h.grw hb0) hl hU)
 unfold tZ at HBS
 obtain ⟨fa,fk,rfl,hm1,hm2⟩:=h.form
 clear h hU hb0
 go_enter Tryz.func127,Tryz.ntmps127
 go_upto_region 2 with fail
 generalize w.alloc (.cells #[.string (mk k.proc),.string (mk k.mod),.int .i64 k.net,.int .i64 k.day] 152)=W at *
 generalize hp:w.heap.size=p at *
 obtain ⟨z0,z1,z2,z3⟩:=cells4 HZ.out
 go_wp2_with fail
 go_at_call 153
 refine HBS.out.mono ?_
 rintro e w1 ⟨⟨i,fb,rfl,hle,ha1,ha2,hfb⟩,hb1⟩
 have HB1:=Lib.hid (jf hp HB0.out hb1)
 have HZ1:=Lib.hid (tV HZ.out hb1)
 have HF1:=Lib.hid (HF.out.grw hb1)
 have HA1:=Lib.hid ha1
 have HA2:=Lib.hid ha2
 have HFb:=Lib.hid hfb
 clear hb1 ha1 ha2 hfb HBS HZ HF z0 z1 z2 z3
 cases fb with
 | true =>
  obtain ⟨hi,hsm⟩:=HFb.out.1 rfl
  have HR:Hid (wK k l=some l[i]):=wP HU.out k i hi hsm
  obtain ⟨b,oo,rfl,-,-,⟨c0,c1,c2,c3,c4⟩⟩:=aU.get HF1.out i hi
  have HV:Hid (wL k l=l[i].cents/\wJ k l=true):=by show _/\_;unfold wL wJ;rw [HR.out];exact ⟨rfl,rfl⟩
  generalize l[i]=x at *
  clear hsm HR HA1 HA2 HFb
  go_wp2_with fail
  go_ret2
  exact ⟨by rw [HV.out.1,HV.out.2];first|done|rfl,by first|exact HB1.out|(rw [hp];exact HB1.out)⟩
 | false =>
  have HNo:Hid (∀hi:i < l.length,¬ Ew l[i] (tZ k)):=fun hi hs=>by have:=HFb.out.2 ⟨hi,hs⟩;cases this
  have HD:=Lib.hid (Below.drew (Below.refl w1.heap.size w1))
  clear HFb
  by_cases h0:i=0
  ·have HV:Hid (wL k l=0/\wJ k l=false):=by
    show _/\_
    unfold wL wJ
    rw [wS HU.out k i hle HA1.out HA2.out HNo.out (Or.inl h0)]
    exact ⟨rfl,rfl⟩
   have q0:¬ (0:Int) < (i:Int):=by omega
   have q0n:¬ 0 < i:=by omega
   clear h0 HA1 HA2 HNo
   go_upto_region 5 with fail
   refine Ri.I4 (by kernel_rfl) (by kernel_rfl) (by kernel_rfl) (fun Wx=>Below w1.heap.size w1 Wx) (fun kz vs wz=>(fun kx vx wx=>match kx with|0=>vx=.int .i64 (i:Nat)|1=>vx=.bool false|2=>vx=.bool false|3=>True|4=>True|5=>True|6=>True|7=>True|8=>True|9=>True|10=>True|11=>True|12=>True|13=>vx=.bool false|_=>True:Nat->Value->World->Prop) kz (vs kz) wz) (fun kz=>[kz]) (by kernel_rfl) (fun jz vs iz vz wz hiz hz=>Ri.wI (F:=(fun kx vx wx=>match kx with|0=>vx=.int .i64 (i:Nat)|1=>vx=.bool false|2=>vx=.bool false|3=>True|4=>True|5=>True|6=>True|7=>True|8=>True|9=>True|10=>True|11=>True|12=>True|13=>vx=.bool false|_=>True:Nat->Value->World->Prop)) jz vs iz vz wz hiz hz) HD.out ⟨Or.inl ⟨rfl,?_⟩,Or.inl ⟨rfl,?_⟩,Or.inl ⟨rfl,?_⟩,Or.inr ⟨2,true,35,rfl,rfl,?_⟩,Or.inr ⟨2,true,35,rfl,rfl,?_⟩,Or.inr ⟨2,true,35,rfl,rfl,?_⟩,Or.inr ⟨2,true,35,rfl,rfl,?_⟩,Or.inr ⟨2,true,35,rfl,rfl,?_⟩,Or.inr ⟨2,true,35,rfl,rfl,?_⟩,Or.inr ⟨2,true,35,rfl,rfl,?_⟩,Or.inr ⟨2,true,35,rfl,rfl,?_⟩,Or.inr ⟨2,true,35,rfl,rfl,?_⟩,Or.inr ⟨2,true,35,rfl,rfl,?_⟩,Or.inl ⟨rfl,?_⟩,trivial⟩ ?_
   ·intro vs Wx A hA hB hpre K hK
    have e13:=(hA 13).trans (show _=Value.int .i64 (i:Nat) by kernel_rfl)
    clear hA hpre
    go_simp
    exact hK _ _ hB rfl (fun _ _ h=>h)
   ·intro vs Wx A hA hB hpre K hK
    have e33:=((hA 33).trans (show _=vs 0 by kernel_rfl)).trans (hpre.1 rfl)
    clear hA hpre
    go_simp
    exact hK _ _ hB rfl (fun _ _ h=>h)
   ·intro vs Wx A hA hB hpre K hK
    have e34:=((hA 34).trans (show _=vs 1 by kernel_rfl)).trans (hpre.1 rfl)
    clear hA hpre
    go_simp
    exact hK _ _ hB rfl (fun _ _ h=>h)
   iterate 2
    ·intro vs Wx A hA hB hpre
     have eg:=((hA 35).trans (show _=vs 2 by kernel_rfl)).trans (hpre.1 rfl)
     exact ⟨false,eg,fun h=>(by cases h),fun _=>trivial⟩
   ·intro vs Wx A hA hB hpre
    have eg:=((hA 35).trans (show _=vs 2 by kernel_rfl)).trans (hpre.2.1 rfl)
    exact ⟨false,eg,fun h=>(by cases h),fun _=>trivial⟩
   ·intro vs Wx A hA hB hpre
    have eg:=((hA 35).trans (show _=vs 2 by kernel_rfl)).trans (hpre.2.2.1 rfl)
    exact ⟨false,eg,fun h=>(by cases h),fun _=>trivial⟩
   iterate 3
    ·intro vs Wx A hA hB hpre
     have eg:=((hA 35).trans (show _=vs 2 by kernel_rfl)).trans (hpre.2.1 rfl)
     exact ⟨false,eg,fun h=>(by cases h),fun _=>trivial⟩
   ·intro vs Wx A hA hB hpre
    have eg:=((hA 35).trans (show _=vs 2 by kernel_rfl)).trans (hpre.1 rfl)
    exact ⟨false,eg,fun h=>(by cases h),fun _=>trivial⟩
   ·intro vs Wx A hA hB hpre
    have eg:=((hA 35).trans (show _=vs 2 by kernel_rfl)).trans (hpre.2.1 rfl)
    exact ⟨false,eg,fun h=>(by cases h),fun _=>trivial⟩
   ·intro vs Wx A hA hB hpre
    have eg:=((hA 35).trans (show _=vs 2 by kernel_rfl)).trans (hpre.2.2.1 rfl)
    exact ⟨false,eg,fun h=>(by cases h),fun _=>trivial⟩
   ·intro vs Wx A hA hB hpre K hK
    have e35:=((hA 35).trans (show _=vs 2 by kernel_rfl)).trans (hpre.1 rfl)
    clear hA hpre
    go_simp
    exact hK _ _ hB rfl (fun _ _ h=>h)
   ·intro vs Wx hB hF
    have hL:vs 13=.bool false:=hF 13 (by decide)
    have HBW:=Lib.hid (jf hp HB1.out hB)
    clear hF hB
    simp only [Ri.puts]
    rw [hL]
    clear hL
    go_simp
    go_wp2_with fail
    go_ret2
    exact ⟨by rw [HV.out.1,HV.out.2];first|done|rfl,by first|exact HBW.out|(rw [hp];exact HBW.out)⟩
  ·obtain ⟨n,rfl⟩:∃n,i=n+1:=⟨i - 1,by omega⟩
   have hn:n < l.length:=by omega
   have q0:(0:Int) < ((n+1:Nat):Int):=by omega
   obtain ⟨m,hm⟩:∃m,m=n+1:=⟨_,rfl⟩
   rw [←hm] at q0
   have q0n:0 < m:=by omega
   have HS1:Hid ((m:Int) - 1=(n:Int)):=by show _=_;omega
   have HS2:Hid (IntKind.i64.wrap (n:Int)=(n:Int)):=by show _=_;rw [IntKind.wrap_i64];omega
   obtain ⟨b,oo,rfl,-,-,-⟩:=aU.get HF1.out n hn
   have HLs:=Lib.hid (wQ HU.out k n hle HA1.out HA2.out HNo.out)
   have HLn:=Lib.hid (fun h=>wS HU.out k (n+1) hle HA1.out HA2.out HNo.out (Or.inr ⟨hn,h⟩))
   have HXK:=Lib.hid fun W' (hW:Below w1.heap.size w1 W')=>And.intro (jZ (HF1.out.grw hW) n hn) (cells4 (tV HZ1.out hW))
   clear HA1 HA2 HNo
   change Hid (Gj k l[n]=true->wK k l=some l[n]) at HLs
   change Hid (Gj k l[n]=false->wK k l=none) at HLn
   generalize l[n]=x at *
   rw [←hm]
   clear hm h0
   obtain ⟨V1,t1⟩:∃V,((mk x.proc).toList == (mk k.proc).toList)=V:=⟨_,rfl⟩
   obtain ⟨V2,t2⟩:∃V,((mk x.mod).toList == (mk k.mod).toList)=V:=⟨_,rfl⟩
   obtain ⟨V3,t3⟩:∃V,(x.net == k.net)=V:=⟨_,rfl⟩
   obtain ⟨VS,HVS⟩:∃V,Hid (Gj k x=V):=⟨_,rfl⟩
   have HV:Hid (Gj k x=(V1 && (V2 && V3))):=by
    show _=_
    rw [←t1,←t2,←t3,xH,xH]
    unfold Gj
    congr 1
   rw [HVS.out] at HV HLs HLn
   have HC:Hid ((V1=false/\VS=false) ∨ (V1=true/\V2=false/\VS=false) ∨ (V1=true/\V2=true/\V3=false/\VS=false) ∨ (V1=true/\V2=true/\V3=true/\VS=true)):=by
    have:=HV.out
    show _ ∨ _
    cases V1<;>cases V2<;>cases V3<;>simp_all
   have HT:=Lib.hid (And.intro t1 (And.intro t2 t3))
   clear t1 t2 t3 HV HVS
   go_upto_region 5 with fail
   refine Ri.I4 (by kernel_rfl) (by kernel_rfl) (by kernel_rfl) (fun Wx=>Below w1.heap.size w1 Wx) (fun kz vs wz=>(fun kx vx wx=>match kx with|0=>vx=.int .i64 (m:Nat)|1=>vx=.bool true|2=>vx=.bool true|3=>vx=.slice (some ⟨b,oo,none⟩) l.length fk|4=>vx=.int .i64 (m:Nat)|5=>vx=.int .i64 (n:Nat)|6=>vx=.pointer (some ⟨b,oo+n * 5,none⟩)|7=>vx=fev x|8=>vx=plv x|9=>vx=.agg #[.string (mk x.proc),.string (mk x.mod),.int .i64 x.net]|10=>vx=.pointer (some ⟨p,0,none⟩)|11=>vx=.agg #[.string (mk k.proc),.string (mk k.mod),.int .i64 k.net]|12=>vx=.bool VS|13=>vx=.bool VS|_=>True:Nat->Value->World->Prop) kz (vs kz) wz) (fun kz=>[kz]) (by kernel_rfl) (fun jz vs iz vz wz hiz hz=>Ri.wI (F:=(fun kx vx wx=>match kx with|0=>vx=.int .i64 (m:Nat)|1=>vx=.bool true|2=>vx=.bool true|3=>vx=.slice (some ⟨b,oo,none⟩) l.length fk|4=>vx=.int .i64 (m:Nat)|5=>vx=.int .i64 (n:Nat)|6=>vx=.pointer (some ⟨b,oo+n * 5,none⟩)|7=>vx=fev x|8=>vx=plv x|9=>vx=.agg #[.string (mk x.proc),.string (mk x.mod),.int .i64 x.net]|10=>vx=.pointer (some ⟨p,0,none⟩)|11=>vx=.agg #[.string (mk k.proc),.string (mk k.mod),.int .i64 k.net]|12=>vx=.bool VS|13=>vx=.bool VS|_=>True:Nat->Value->World->Prop)) jz vs iz vz wz hiz hz) HD.out ⟨Or.inl ⟨rfl,?_⟩,Or.inl ⟨rfl,?_⟩,Or.inl ⟨rfl,?_⟩,Or.inr ⟨2,true,35,rfl,rfl,?_⟩,Or.inr ⟨2,true,35,rfl,rfl,?_⟩,Or.inr ⟨2,true,35,rfl,rfl,?_⟩,Or.inr ⟨2,true,35,rfl,rfl,?_⟩,Or.inr ⟨2,true,35,rfl,rfl,?_⟩,Or.inr ⟨2,true,35,rfl,rfl,?_⟩,Or.inr ⟨2,true,35,rfl,rfl,?_⟩,Or.inr ⟨2,true,35,rfl,rfl,?_⟩,Or.inr ⟨2,true,35,rfl,rfl,?_⟩,Or.inr ⟨2,true,35,rfl,rfl,?_⟩,Or.inl ⟨rfl,?_⟩,trivial⟩ ?_
   ·intro vs Wx A hA hB hpre K hK
    have e13:=(hA 13).trans (show _=Value.int .i64 (m:Nat) by kernel_rfl)
    clear hA hpre
    go_simp
    exact hK _ _ hB rfl (fun _ _ h=>h)
   ·intro vs Wx A hA hB hpre K hK
    have e33:=((hA 33).trans (show _=vs 0 by kernel_rfl)).trans (hpre.1 rfl)
    clear hA hpre
    go_simp
    exact hK _ _ hB rfl (fun _ _ h=>h)
   ·intro vs Wx A hA hB hpre K hK
    have e34:=((hA 34).trans (show _=vs 1 by kernel_rfl)).trans (hpre.1 rfl)
    clear hA hpre
    go_simp
    exact hK _ _ hB rfl (fun _ _ h=>h)
   ·intro vs Wx A hA hB hpre
    have eg:=((hA 35).trans (show _=vs 2 by kernel_rfl)).trans (hpre.1 rfl)
    refine ⟨true,eg,fun _ K hK=>?_,fun h=>absurd rfl h⟩
    have e0:=(hA 0).trans (show _=Value.slice (some ⟨b,oo,none⟩) l.length fk by kernel_rfl)
    clear hA hpre
    go_simp
    exact hK _ _ hB rfl (fun _ _ h=>h)
   ·intro vs Wx A hA hB hpre
    have eg:=((hA 35).trans (show _=vs 2 by kernel_rfl)).trans (hpre.1 rfl)
    refine ⟨true,eg,fun _ K hK=>?_,fun h=>absurd rfl h⟩
    have e13:=(hA 13).trans (show _=Value.int .i64 (m:Nat) by kernel_rfl)
    clear hA hpre
    go_simp
    exact hK _ _ hB rfl (fun _ _ h=>h)
   ·intro vs Wx A hA hB hpre
    have eg:=((hA 35).trans (show _=vs 2 by kernel_rfl)).trans (hpre.2.1 rfl)
    refine ⟨true,eg,fun _ K hK=>?_,fun h=>absurd rfl h⟩
    have e37:=((hA 37).trans (show _=vs 4 by kernel_rfl)).trans (hpre.1 rfl)
    have s1:=HS1.out
    have s2:=HS2.out
    clear hA hpre
    go_simp
    exact hK _ _ hB rfl (fun _ _ h=>h)
   ·intro vs Wx A hA hB hpre
    have eg:=((hA 35).trans (show _=vs 2 by kernel_rfl)).trans (hpre.2.2.1 rfl)
    refine ⟨true,eg,fun _ K hK=>?_,fun h=>absurd rfl h⟩
    have e36:=((hA 36).trans (show _=vs 3 by kernel_rfl)).trans (hpre.1 rfl)
    have e38:=((hA 38).trans (show _=vs 5 by kernel_rfl)).trans (hpre.2.1 rfl)
    clear hA hpre
    go_simp
    exact hK _ _ hB rfl (fun _ _ h=>h)
   ·intro vs Wx A hA hB hpre
    have eg:=((hA 35).trans (show _=vs 2 by kernel_rfl)).trans (hpre.2.1 rfl)
    refine ⟨true,eg,fun _ K hK=>?_,fun h=>absurd rfl h⟩
    have e39:=((hA 39).trans (show _=vs 6 by kernel_rfl)).trans (hpre.1 rfl)
    obtain ⟨⟨x0,x1,x2,x3,x4⟩,⟨y0,y1,y2,y3⟩⟩:=HXK.out Wx hB
    clear hA hpre
    go_simp
    exact hK _ _ hB rfl (fun _ _ h=>h)
   ·intro vs Wx A hA hB hpre
    have eg:=((hA 35).trans (show _=vs 2 by kernel_rfl)).trans (hpre.2.1 rfl)
    refine ⟨true,eg,fun _ K hK=>?_,fun h=>absurd rfl h⟩
    have e40:=((hA 40).trans (show _=vs 7 by kernel_rfl)).trans (hpre.1 rfl)
    clear hA hpre
    go_simp
    go_at_call 108
    refine (Bh _ _).mono ?_
    rintro e w3 ⟨rfl,hg⟩
    exact hK _ _ (jg hB hg.1) rfl (fun _ _ h=>h)
   ·intro vs Wx A hA hB hpre
    have eg:=((hA 35).trans (show _=vs 2 by kernel_rfl)).trans (hpre.2.1 rfl)
    refine ⟨true,eg,fun _ K hK=>?_,fun h=>absurd rfl h⟩
    have e41:=((hA 41).trans (show _=vs 8 by kernel_rfl)).trans (hpre.1 rfl)
    clear hA hpre
    go_simp
    exact hK _ _ hB rfl (fun _ _ h=>h)
   ·intro vs Wx A hA hB hpre
    have eg:=((hA 35).trans (show _=vs 2 by kernel_rfl)).trans (hpre.1 rfl)
    refine ⟨true,eg,fun _ K hK=>?_,fun h=>absurd rfl h⟩
    have e12:=(hA 12).trans (show _=Value.pointer (some ⟨p,0,none⟩) by kernel_rfl)
    clear hA hpre
    go_simp
    exact hK _ _ hB rfl (fun _ _ h=>h)
   ·intro vs Wx A hA hB hpre
    have eg:=((hA 35).trans (show _=vs 2 by kernel_rfl)).trans (hpre.2.1 rfl)
    refine ⟨true,eg,fun _ K hK=>?_,fun h=>absurd rfl h⟩
    have e43:=((hA 43).trans (show _=vs 10 by kernel_rfl)).trans (hpre.1 rfl)
    obtain ⟨⟨x0,x1,x2,x3,x4⟩,⟨y0,y1,y2,y3⟩⟩:=HXK.out Wx hB
    clear hA hpre
    go_simp
    exact hK _ _ hB rfl (fun _ _ h=>h)
   ·intro vs Wx A hA hB hpre
    have eg:=((hA 35).trans (show _=vs 2 by kernel_rfl)).trans (hpre.2.2.1 rfl)
    refine ⟨true,eg,fun _ K hK=>?_,fun h=>absurd rfl h⟩
    have e42:=((hA 42).trans (show _=vs 9 by kernel_rfl)).trans (hpre.1 rfl)
    have e44:=((hA 44).trans (show _=vs 11 by kernel_rfl)).trans (hpre.2.1 rfl)
    clear hA hpre
    obtain ⟨t1,t2,t3⟩:=HT.out
    rcases HC.out with ⟨v1,vs0⟩|⟨v1,v2,vs0⟩|⟨v1,v2,v3,vs0⟩|⟨v1,v2,v3,vs0⟩
    all_goals
     go_simp
     exact hK _ _ hB (by rw [vs0];first|done|rfl) (fun _ _ h=>h)
   ·intro vs Wx A hA hB hpre K hK
    have e35:=((hA 35).trans (show _=vs 2 by kernel_rfl)).trans (hpre.1 rfl)
    have e45:=((hA 45).trans (show _=vs 12 by kernel_rfl)).trans (hpre.2.1 rfl)
    clear hA hpre
    go_simp
    exact hK _ _ hB rfl (fun _ _ h=>h)
   ·intro vs Wx hB hF
    have hL:vs 13=.bool VS:=hF 13 (by decide)
    have HBW:=Lib.hid (jf hp HB1.out hB)
    obtain ⟨⟨x0,x1,x2,x3,x4⟩,-⟩:=HXK.out Wx hB
    clear hF hB HT HC HXK
    simp only [Ri.puts]
    rw [hL]
    clear hL
    cases VS with
    | true =>
     have HV:Hid (wL k l=x.cents/\wJ k l=true):=by show _/\_;unfold wL wJ;rw [HLs.out rfl];exact ⟨rfl,rfl⟩
     clear HLs HLn
     have s1:=HS1.out
     have s2:=HS2.out
     go_simp
     go_wp2_with fail
     go_ret2
     exact ⟨by rw [HV.out.1,HV.out.2];first|done|rfl,by first|exact HBW.out|(rw [hp];exact HBW.out)⟩
    | false =>
     have HV:Hid (wL k l=0/\wJ k l=false):=by show _/\_;unfold wL wJ;rw [HLn.out rfl];exact ⟨rfl,rfl⟩
     clear HLs HLn
     go_simp
     go_wp2_with fail
     go_ret2
     exact ⟨by rw [HV.out.1,HV.out.2];first|done|rfl,by first|exact HBW.out|(rw [hp];exact HBW.out)⟩
theorem ku {w:World} {g:Nat} {a b c d e f:Value} {T:TypeId} (h:w.heap[g]?=some (.cells #[a,b,c,d,e,f] T (0,0))):w.cell? ⟨g,0,none⟩=some a/\w.cell? ⟨g,1,none⟩=some b/\w.cell? ⟨g,2,none⟩=some c/\w.cell? ⟨g,3,none⟩=some d/\w.cell? ⟨g,4,none⟩=some e/\w.cell? ⟨g,5,none⟩=some f:=by
 refine ⟨?_,?_,?_,?_,?_,?_⟩<;>(rw [cell_of_row w g _ _ T (0,0) h];rfl)
theorem Hf {w w':World} {v:Value} {l:List Tx} (h:dI All w v l) (hb:Below w.heap.size w w'):dI All w' v l:=dI.move h (Below.moves hb)
theorem BD (l:List Fee) (v:Value) (x:Ln) (m:Value) (net:Int) (w:World) (h:aU All w v l) (hl:l.length<=281474976710656) (hU:Up l) (hm:dI All w m x.mods) :
  Calls Tryz.prog 87 #[v,Cm.lnv x m,.int .i64 net] w fun e w'=>e=.returned (.tuple #[.int .i64 (BA l x net),.bool (Bv l x net)])/\Below w.heap.size w w':=by
 obtain ⟨ma,mc,rfl,hm1,hm2⟩:=Cm.dI.form hm
 have hb0:=iU w (.cells #[.string (mk x.proc),.slice ma x.mods.length mc,.int .i64 x.date,.int .i64 x.units,.int .i64 x.billed,.int .i64 x.prior] 48)
 have HZ:=Lib.hid (heap_alloc_new w (.cells #[.string (mk x.proc),.slice ma x.mods.length mc,.int .i64 x.date,.int .i64 x.units,.int .i64 x.billed,.int .i64 x.prior] 48))
 have HM:=Lib.hid (Hf hm hb0)
 have HB0:=Lib.hid hb0
 have HLk:=Lib.hid fun (t:Tx) W' (hW:Below (w.alloc (.cells #[.string (mk x.proc),.slice ma x.mods.length mc,.int .i64 x.date,.int .i64 x.units,.int .i64 x.billed,.int .i64 x.prior] 48)).heap.size (w.alloc (.cells #[.string (mk x.proc),.slice ma x.mods.length mc,.int .i64 x.date,.int .i64 x.units,.int .i64 x.billed,.int .i64 x.prior] 48)) W')=>wO l ⟨x.proc,t,net,x.date⟩ v W' ((h.grw hb0).grw hW) hl hU
 obtain ⟨fa,fk,rfl,-,-⟩:=h.form
 clear h hU hb0 hm
 go_enter Tryz.func87,Tryz.ntmps87
 go_upto_region 1 with fail
 generalize w.alloc (.cells #[.string (mk x.proc),.slice ma x.mods.length mc,.int .i64 x.date,.int .i64 x.units,.int .i64 x.billed,.int .i64 x.prior] 48)=W at *
 generalize hp:w.heap.size=p at *
 obtain ⟨z0,z1,z2,z3,z4,z5⟩:=ku HZ.out
 go_wp2
 clear z0 z1 z2 z3 z4 z5
 go_loopg [15] (x.mods.length) (fun g i wr=>∃n:Nat,n<=x.mods.length/\g=x.mods.length - n/\i=.int .i64 (n:Nat)/\Hid (Below W.heap.size W wr)/\Hid (o9 l x net (x.mods.drop n ++ [[]])=o9 l x net (x.mods ++ [[]])))
 case atStart=>exact ⟨0,Nat.zero_le _,rfl,rfl,Below.refl _ _,rfl⟩
 case round =>
  obtain ⟨n,hn,hgk,rfl,HBn,HE⟩:=hrel
  obtain ⟨z0,z1,z2,z3,z4,z5⟩:=ku (tV HZ.out HBn.out)
  by_cases hlt:n < x.mods.length
  ·obtain ⟨b,oo,rfl,-,hcc⟩:=Cm.He (Hf HM.out HBn.out) n hlt
   have HFD:Hid (o9 l x net (x.mods.drop n ++ [[]])=if wJ ⟨x.proc,x.mods[n],net,x.date⟩ l=true then wK ⟨x.proc,x.mods[n],net,x.date⟩ l else o9 l x net (x.mods.drop (n+1) ++ [[]])):=pq hlt
   have HLn:=Lib.hid (HLk.out x.mods[n] wr HBn.out)
   generalize x.mods[n]=t at *
   go_wp2_with fail
   go_at_call 127
   refine HLn.out.mono ?_
   rintro e w1 ⟨rfl,hb1⟩
   have HB1:=Lib.hid (jg HBn.out hb1)
   clear hb1 HLn z0 z1 z2 z3 z4 z5
   obtain ⟨LB,HLB⟩:∃B,Hid (wJ ⟨x.proc,t,net,x.date⟩ l=B):=⟨_,rfl⟩
   obtain ⟨LV,HLV⟩:∃B,Hid (wL ⟨x.proc,t,net,x.date⟩ l=B):=⟨_,rfl⟩
   rw [HLB.out,HLV.out]
   rw [HLB.out] at HFD
   cases LB with
   | true =>
    have HV:Hid (BA l x net=LV/\Bv l x net=true):=BF HE.out HFD.out HLB.out HLV.out
    clear HE HFD HLB HLV
    go_wp2
    go_ret2
    exact ⟨by rw [HV.out.1,HV.out.2];first|done|rfl,by first|exact jf hp HB0.out HB1.out|(rw [hp];exact jf hp HB0.out HB1.out)⟩
   | false =>
    have HE2:Hid (o9 l x net (x.mods.drop (n+1) ++ [[]])=o9 l x net (x.mods ++ [[]])):=by show _=_;rw [←HE.out,HFD.out];rfl
    clear HE HFD HLB HLV
    go_wp2
    go_roundg (x.mods.length - (n+1))
    case measure=>omega
    case rel=>exact ⟨n+1,by omega,rfl,by first|rfl|go_num|(congr 1;omega),HB1.out,HE2.out⟩
  ·have hltz:¬ (n:Int) < (x.mods.length:Int):=by omega
   have HV:Hid (BA l x net=wL ⟨x.proc,[],net,x.date⟩ l/\Bv l x net=wJ ⟨x.proc,[],net,x.date⟩ l):=BG (by omega) HE.out
   have HLn:=Lib.hid (HLk.out [] wr HBn.out)
   go_wp2_with fail
   go_at_call 127
   refine HLn.out.mono ?_
   rintro e w1 ⟨rfl,hb1⟩
   have HB1:=Lib.hid (jg HBn.out hb1)
   clear hb1 HLn z0 z1 z2 z3 z4 z5
   go_wp2
   go_ret2
   exact ⟨by rw [HV.out.1,HV.out.2];first|done|rfl,by first|exact jf hp HB0.out HB1.out|(rw [hp];exact jf hp HB0.out HB1.out)⟩
theorem fQ (l:List Fee) (v:Value) (x:Ln) (m:Value) (net:Int) (w:World) (h:aU All w v l) (hl:l.length<=281474976710656) (hU:Up l) (hm:dI All w m x.mods) (hu:x.units<=9223372036854775807) (hu0:-9223372036854775808<=x.units) :
  Calls Tryz.prog 48 #[v,Cm.lnv x m,.int .i64 net] w fun e w'=>e=.returned (.tuple #[.int .i64 (fP l x net),.bool (Bv l x net)])/\Below w.heap.size w w':=by
 obtain ⟨ma,mc,rfl,hm1,hm2⟩:=Cm.dI.form hm
 have hb0:=iU w (.cells #[.string (mk x.proc),.slice ma x.mods.length mc,.int .i64 x.date,.int .i64 x.units,.int .i64 x.billed,.int .i64 x.prior] 48)
 have HZ:=Lib.hid (heap_alloc_new w (.cells #[.string (mk x.proc),.slice ma x.mods.length mc,.int .i64 x.date,.int .i64 x.units,.int .i64 x.billed,.int .i64 x.prior] 48))
 have HB0:=Lib.hid hb0
 have HPr:=Lib.hid (BD l v x _ net _ (h.grw hb0) hl hU (Hf hm hb0))
 have HSc:=Lib.hid fun (u:Int) W'=>Ce.EI u x.units W' hu
 obtain ⟨fa,fk,rfl,-,-⟩:=h.form
 clear h hU hb0 hm
 go_enter Tryz.func48,Tryz.ntmps48
 go_upto_region 1 with fail
 generalize w.alloc (.cells #[.string (mk x.proc),.slice ma x.mods.length mc,.int .i64 x.date,.int .i64 x.units,.int .i64 x.billed,.int .i64 x.prior] 48)=W at *
 generalize hp:w.heap.size=p at *
 obtain ⟨z0,z1,z2,z3,z4,z5⟩:=ku HZ.out
 go_wp2_with fail
 go_at_call 87
 refine HPr.out.mono ?_
 rintro e w1 ⟨rfl,hb1⟩
 have HB1:=Lib.hid (jf hp HB0.out hb1)
 have HZ1:=Lib.hid (tV HZ.out hb1)
 clear hb1 HPr HZ z0 z1 z2 z3 z4 z5
 obtain ⟨z0,z1,z2,z3,z4,z5⟩:=ku HZ1.out
 obtain ⟨PB,HPB⟩:∃B,Hid (Bv l x net=B):=⟨_,rfl⟩
 obtain ⟨PV,HPV⟩:∃B,Hid (BA l x net=B):=⟨_,rfl⟩
 rw [HPB.out,HPV.out]
 cases PB with
 | false =>
  have HV:Hid (fP l x net=0):=by show _=_;unfold fP;rw [HPB.out];rfl
  go_wp2
  go_ret2
  exact ⟨by rw [HV.out,HPB.out];first|done|rfl,by first|exact HB1.out|(rw [hp];exact HB1.out)⟩
 | true =>
  have HV:Hid (fP l x net=if Ce.EF PV x.units 1 ≠ 0 ∨ x.billed < Ce.EG PV x.units 1 then x.billed else Ce.EG PV x.units 1):=by show _=_;unfold fP;rw [HPB.out,HPV.out];rfl
  have HS:=Lib.hid (HSc.out PV)
  obtain ⟨SE,HSE⟩:∃B,Hid (Ce.EF PV x.units 1=B):=⟨_,rfl⟩
  obtain ⟨SV,HSV⟩:∃B,Hid (Ce.EG PV x.units 1=B):=⟨_,rfl⟩
  rw [HSE.out,HSV.out] at HV HS
  clear HSc
  by_cases hse:SE=0
  ·have q1:(SE != 0)=false:=by rw [hse];rfl
   by_cases hbl:x.billed < SV
   ·have HV2:Hid (fP l x net=x.billed):=by show _=_;rw [HV.out,if_pos (Or.inr hbl)]
    clear HV hse
    go_wp2_with (go_at_call 88;refine (HS.out _).mono ?_;rintro e w2 ⟨rfl,kq,rfl⟩)
    go_ret2
    exact ⟨by rw [HV2.out,HPB.out];first|done|rfl,by first|exact jf hp HB1.out (Cm.iY ⟨_,rfl⟩)|(rw [hp];exact jf hp HB1.out (Cm.iY ⟨_,rfl⟩))⟩
   ·have HV2:Hid (fP l x net=SV):=by show _=_;rw [HV.out,if_neg (by omega)]
    clear HV hse
    go_wp2_with (go_at_call 88;refine (HS.out _).mono ?_;rintro e w2 ⟨rfl,kq,rfl⟩)
    go_ret2
    exact ⟨by rw [HV2.out,HPB.out];first|done|rfl,by first|exact jf hp HB1.out (Cm.iY ⟨_,rfl⟩)|(rw [hp];exact jf hp HB1.out (Cm.iY ⟨_,rfl⟩))⟩
  ·have q1:(SE != 0)=true:=by simpa using hse
   have HV2:Hid (fP l x net=x.billed):=by show _=_;rw [HV.out,if_pos (Or.inl hse)]
   clear HV hse
   go_wp2_with (go_at_call 88;refine (HS.out _).mono ?_;rintro e w2 ⟨rfl,kq,rfl⟩)
   go_ret2
   exact ⟨by rw [HV2.out,HPB.out];first|done|rfl,by first|exact jf hp HB1.out (Cm.iY ⟨_,rfl⟩)|(rw [hp];exact jf hp HB1.out (Cm.iY ⟨_,rfl⟩))⟩
end Go.Proofs.YtfbfeoplldjbpaaGreatDoor.Fe
end
section
namespace Go.Proofs.YtfbfeoplldjbpaaGreatDoor.Tw
open Go.RowKit
open Cm (Ln lnv bf iU jg)
theorem last_any (n:Int) (w:World) (h0:-9223372036854775808<=n) (h1:n<=9223372036854775807) :
  Calls Tryz.prog 121 #[.int .i64 n] w fun e w'=>e=.returned (.int .u8 (dig n))/\w'=w:=by
 have hm1:=Int.tmod_lt_of_pos n (b:=10) (by omega)
 have hm2:=Int.lt_tmod_of_pos n (b:=10) (by omega)
 unfold dig
 by_cases hz:n.tmod 10 < 0
 ·rw [if_pos hz]
  go_enter Tryz.func121,Tryz.ntmps121
  go_wp2
  go_ret
  exact ⟨rfl,rfl⟩
 ·rw [if_neg hz]
  go_enter Tryz.func121,Tryz.ntmps121
  go_wp2
  go_ret
  exact ⟨rfl,rfl⟩
theorem ny (k:Nat) (n:Int) (a:List UInt8):a ++ ng (k+1) n=(a ++ [UInt8.ofNat (48+dig n).toNat]) ++ ng k (n.tdiv 10):=by simp [ng]
theorem FK (n:Int):((UInt8.ofNat (48+dig n).toNat).toNat:Int)=48+dig n:=by
 have:=mZ n
 rw [UInt8.toNat_ofNat']
 omega
theorem CU (m:Int) (h0:-9223372036854775808<=m) (h1:m<=9223372036854775807):-9223372036854775808<=m.tdiv 10/\m.tdiv 10<=9223372036854775807:=by
 rcases Int.le_total 0 m with h|h
 ·have:=Int.tdiv_eq_ediv_of_nonneg (a:=m) (b:=10) h
  omega
 ·have:=Int.tdiv_eq_ediv_of_nonneg (a:=-m) (b:=10) (by omega)
  rw [Int.neg_tdiv] at this
  omega
theorem gX (n:Int) (w:World) (h0:-9223372036854775808<=n) (h1:n<=9223372036854775807) :
  Calls Tryz.prog 81 #[.int .i64 n] w fun e w'=>∃v,e=.returned v/\Own w.heap.size w' v (ng 8 n)/\Below w.heap.size w w':=by
 go_enter Tryz.func81,Tryz.ntmps81
 go_wp2
 go_loopg [0,3,4] 8 (fun gg d v i wr=>∃(k:Nat) (m:Int) (l:List UInt8),k<=8/\gg=8 - k/\d=.int .i64 m/\i=.int .i64 k ∧ -9223372036854775808<=m/\m<=9223372036854775807/\l.length=k/\Hid (Own w.heap.size wr v l)/\Hid (Below w.heap.size w wr)/\Hid (l ++ ng (8 - k) m=ng 8 n))
 case atStart=>exact ⟨0,n,[],by omega,rfl,rfl,rfl,h0,h1,rfl,Own.nil _ _,Below.refl _ _,rfl⟩
 case round =>
  obtain ⟨k,m,l,hk,hg,rfl,rfl,hm0,hm1,hll,HO,HB,HD⟩:=hrel
  by_cases hlt:k < 8
  ·have HL:=Lib.hid fun W=>last_any m W hm0 hm1
   have hqb:-9223372036854775808<=m.tdiv 10/\m.tdiv 10<=9223372036854775807:=CU m hm0 hm1
   obtain ⟨d0,d1⟩:=mZ m
   have HS:=Lib.hid (FK m)
   have HN:=Lib.hid (ny (8 - (k+1)) m l)
   generalize UInt8.ofNat (48+dig m).toNat=c at *
   generalize dig m=g at *
   have hws:=HB.out.size
   have HOa:=Lib.hid fun o=>Ak HO.out (iU wr o)
   go_wp2_with (first
    | (go_at_call 121;refine (HL.out _).mono ?_;rintro e w1 ⟨rfl,rfl⟩)
    | (at_builtin;refine gQ rfl _ _ rfl w.heap.size _ l rfl (HOa.out _) _ 1 (48+g) c rfl HS.out.symm (by first|simp|rfl) (by omega) (by simp;omega) ?_;intro v' w2 ho2 hb2)
    | go_in)
   go_roundg (8 - (k+1))
   case rel=>exact ⟨k+1,m.tdiv 10,l ++ [c],by omega,rfl,rfl,by go_num,hqb.1,hqb.2,by simp [hll],ho2,HB.out.trans (((iU _ _).mono hws).trans hb2),by
    have:=HD.out
    rw [show 8 - k=8 - (k+1)+1 by omega,HN.out] at this
    exact this⟩
   case measure=>omega
  ·obtain rfl:k=8:=by omega
   have HD':Hid (l=ng 8 n):=by show l=ng 8 n;rw [←HD.out];simp [ng]
   go_wp2
   go_ret
   exact ⟨_,rfl,by rw [←HD'.out];exact HO.out,HB.out⟩
theorem xW:∀(l:List Tx),(∀t ∈ l,t.length<=20000)->(xR l).length<=l.length * 20001
 | [],_=>by simp [xR]
 | m :: ms,h=>by
  have h1:=xW ms (fun t ht=>h t (List.mem_cons_of_mem _ ht))
  have h2:=h m (List.mem_cons_self ..)
  simp only [xR,List.length_cons,List.length_append]
  omega
theorem xU:∀(a b:List Tx),xR (a ++ b)=xR a ++ xR b
 | [],b=>rfl
 | m :: ms,b=>by simp [xR,xU ms b]
theorem xX (l:List Tx) (k:Nat) (t:Tx) (h:l[k]?=some t):xR (l.take (k+1))=xR (l.take k) ++ 58 :: t:=by
 rw [List.take_add_one,h,xU]
 simp [xR]
def uf (x:Ln) (k:Nat):List UInt8:=ng 8 x.date ++ x.proc ++ xR (x.mods.take k)
theorem um (x:Ln) (k:Nat) (t:Tx) (h:x.mods[k]?=some t):uf x (k+1)=uf x k ++ [58] ++ t:=by
 unfold uf
 rw [xX _ _ _ h]
 simp
theorem ug (x:Ln):uf x 0=ng 8 x.date ++ x.proc:=by simp [uf,xR]
theorem uh (x:Ln) (k:Nat) (h:x.mods.length<=k):uf x k=uo x:=by
 unfold uf uo
 rw [List.take_of_length_le h,List.append_assoc]
def aZ (x:Ln):Prop:=-9223372036854775808<=x.date/\x.date<=9223372036854775807/\x.proc.length<=40000/\x.mods.length<=20000/\∀t ∈ x.mods,t.length<=20000
theorem uj (x:Ln) (h:aZ x) (k:Nat):0 < (uf x k).length/\(uf x k).length<=500000000:=by
 obtain ⟨_,_,h1,h2,h3⟩:=h
 have h4:=xW (x.mods.take k) (fun t ht=>h3 t (List.mem_of_mem_take ht))
 have h5:(x.mods.take k).length<=20000:=by rw [List.length_take];omega
 have h6:(x.mods.take k).length * 20001<=20000 * 20001:=Nat.mul_le_mul_right _ h5
 unfold uf
 rw [List.length_append,List.length_append,ni]
 omega
theorem uw (x:Ln) (m:Value) (w:World) (hm:dI All w m x.mods) (hx:aZ x) :
  Calls Tryz.prog 44 #[lnv x m] w fun e w'=>e=.returned (.string (mk (uo x)))/\Below w.heap.size w w':=by
 have HLn:=Lib.hid (uj x hx)
 have HSt:=Lib.hid (um x)
 have HAll:=Lib.hid (uh x)
 obtain ⟨x0,x1,x2,x3,x4⟩:=hx
 have HZ:=Lib.hid x4
 have HBk:=Lib.hid fun W=>gX x.date W x0 x1
 have HM:=Lib.hid fun W (h:Below w.heap.size w W)=>dI.move hm (Below.moves h)
 obtain ⟨a,c,rfl,f1,f2⟩:=Cm.dI.form hm
 have HX:=Lib.hid (Cm.bf.new w x (.slice a x.mods.length c) 48)
 have HW:=Lib.hid (iU w (.cells #[.string (mk x.proc),.slice a x.mods.length c,.int .i64 x.date,.int .i64 x.units,.int .i64 x.billed,.int .i64 x.prior] 48))
 have HWs:Hid (w.heap.size < (w.alloc (.cells #[.string (mk x.proc),.slice a x.mods.length c,.int .i64 x.date,.int .i64 x.units,.int .i64 x.billed,.int .i64 x.prior] 48)).heap.size):=by show _ < _;simp
 have HK0:=Lib.hid (ug x)
 clear hm x0 x1 x4
 go_enter Tryz.func44,Tryz.ntmps44
 go_wp2_with fail
 generalize w.alloc (.cells #[.string (mk x.proc),.slice a x.mods.length c,.int .i64 x.date,.int .i64 x.units,.int .i64 x.billed,.int .i64 x.prior] 48)=W at *
 obtain ⟨c0,c1,c2,c3,c4,c5⟩:=HX.out
 go_wp2_with (first
  | (go_at_call 81;refine (HBk.out _).mono ?_;rintro e w1 ⟨v1,rfl,ho1,hb1⟩;obtain ⟨p0,p1,p2,p3,p4,p5⟩:=Cm.bf.grw HX.out hb1)
  | (at_builtin;refine gU rfl _ _ rfl W.heap.size _ (ng 8 x.date) x.proc rfl ho1 rfl (by rw [ni];omega) (by omega) hb1.size ?_;intro v2 w2 ho2 hb2;obtain ⟨q0,q1,q2,q3,q4,q5⟩:=Cm.bf.grw HX.out (hb1.trans hb2);clear p0 p1 p2 p3 p4 p5)
  | go_in)
 go_loopg [3,16] x.mods.length (fun gg v i wr=>∃k:Nat,k<=x.mods.length/\gg=x.mods.length - k/\i=.int .i64 k/\Hid (Own W.heap.size wr v (uf x k))/\Hid (Below W.heap.size W wr))
 case atStart=>exact ⟨0,Nat.zero_le _,rfl,rfl,by show Own _ _ _ _;rw [HK0.out];exact ho2,hb1.trans hb2⟩
 case round =>
  obtain ⟨k,hk,hg,rfl,HO,HB⟩:=hrel
  clear c0 c1 c2 c3 c4 c5 q0 q1 q2 q3 q4 q5 ho1 hb1 ho2 hb2
  obtain ⟨l0,l1⟩:=HLn.out k
  by_cases hlt:k < x.mods.length
  ·obtain ⟨b,o,rfl,hx,hc⟩:=Cm.He (HM.out wr (jg HW.out HB.out)) k hlt
   have ht:=HZ.out _ (List.mem_of_getElem? hx)
   have HN:=Lib.hid (HSt.out k _ hx)
   generalize x.mods[k]=t at *
   have hws:=HB.out.size
   have HOa:=Lib.hid fun o=>Ak HO.out (iU wr o)
   have HBa:=Lib.hid fun o=>HB.out.trans ((iU wr o).mono hws)
   clear hx
   go_wp2_with (first
    | (at_builtin;refine gQ rfl _ _ rfl W.heap.size _ (uf x k) rfl (HOa.out _) _ 1 58 58 rfl rfl (by first|simp|rfl) (by omega) (by simp;omega) ?_;intro v2 w2 ho2 hb2)
    | (at_builtin;refine gU rfl _ _ rfl W.heap.size _ (uf x k ++ [58]) t rfl ho2 rfl (by simp;omega) (by omega) ((HBa.out _).trans hb2).size ?_;intro v3 w3 ho3 hb3)
    | go_in)
   go_roundg (x.mods.length - (k+1))
   case rel=>exact ⟨k+1,by omega,rfl,by go_num,by show Own _ _ _ _;rw [HN.out];exact ho3,((HBa.out _).trans hb2).trans hb3⟩
   case measure=>omega
  ·have HV:=Lib.hid (HAll.out k (by omega))
   have hcv:=l7 HO.out l0
   rw [HV.out] at hcv
   have hlt':¬ (k:Int) < (x.mods.length:Int):=by omega
   go_wp2
   go_ret
   exact ⟨rfl,jg HW.out HB.out⟩
end Go.Proofs.YtfbfeoplldjbpaaGreatDoor.Tw
end
