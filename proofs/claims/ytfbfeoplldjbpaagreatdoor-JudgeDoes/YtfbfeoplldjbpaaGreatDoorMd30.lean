/-
  Texts put together (merge.py): ZFind, IKey, ISet.
-/
import Derived.Deep.OwnRows
import Derived.Test.YtfbfeoplldjbpaaGreatDoorMd29
import Derived.Test.YtfbfeoplldjbpaaGreatDoorMd18
set_option linter.unusedSimpArgs false
set_option linter.unusedVariables false
set_option maxHeartbeats 16000000
set_option maxRecDepth 100000
namespace Go.Proofs.YtfbfeoplldjbpaaGreatDoor
namespace Fe
open Go.RowKit
open Wo (tV jI jQ qL iU jg)
open Cm (Ln dI.form)
theorem wO (l:List Cr) (k:Key) (v:Value) (w:World) (h:aU All w v l) (hl:l.length<=281474976710656) (hU:Up l) :
  Calls Tryz.prog 127 #[v,.string (mk k.proc),.string (mk k.mod),iI k.net,iI k.day] w fun e w'=>e=.returned (.tuple #[iI (wL k l),.bool (wJ k l)])/\Below w.heap.size w w':=by
 have HU:=zZ hU;have hb0:=iU w (.cells #[.string (mk k.proc),.string (mk k.mod),iI k.net,iI k.day] 152);have HZ:=zZ (heap_alloc_new w (.cells #[.string (mk k.proc),.string (mk k.mod),iI k.net,iI k.day] 152));have HF:=zZ (h.Bu hb0);have HB0:=zZ hb0;have HBS:=zZ (jS l (tZ k) v _ (h.Bu hb0) hl hU);unfold tZ at HBS;obtain ⟨fa,fk,rfl,hm1,hm2⟩:=h.form;clear h hU hb0;go_enter Tryz.func127,Tryz.ntmps127
 go_upto_region 2 with fail
 generalize w.alloc (.cells #[.string (mk k.proc),.string (mk k.mod),iI k.net,iI k.day] 152)=W at *;generalize hp:w.heap.size=p at *;obtain ⟨z0,z1,z2,z3⟩:=bB HZ.out;go_wp2_with fail
 go_at_call 153
 refine HBS.out.mono ?_;rintro e w1 ⟨⟨i,fb,rfl,hle,ha1,ha2,hfb⟩,hb1⟩;have HB1:=zZ (jf hp HB0.out hb1);have HZ1:=zZ (tV HZ.out hb1);have HF1:=zZ (HF.out.Bu hb1);have HA1:=zZ ha1;have HA2:=zZ ha2;have HFb:=zZ hfb;clear hb1 ha1 ha2 hfb HBS HZ HF z0 z1 z2 z3;cases fb with
 | true =>
  obtain ⟨hi,hsm⟩:=HFb.out.1 rfl;have HR:Hid (wK k l=some l[i]):=wP HU.out k i hi hsm;obtain ⟨b,oo,rfl,-,-,⟨c0,c1,c2,c3,c4⟩⟩:=aU.get HF1.out i hi;have HV:Hid (wL k l=l[i].Ck/\wJ k l=true):=by show _/\_;unfold wL wJ;rw [HR.out];exact ⟨rfl,rfl⟩
  generalize l[i]=x at *;clear hsm HR HA1 HA2 HFb;go_wp2_with fail
  go_ret2;exact ⟨by rw [HV.out.1,HV.out.2];first|done|rfl,by first|exact HB1.out|(rw [hp];exact HB1.out)⟩
 | false =>
  have HNo:Hid (∀hi:i < l.length,¬ Ew l[i] (tZ k)):=fun hi hs=>by have:=HFb.out.2 ⟨hi,hs⟩;cases this
  have HD:=zZ (Below.drew (Below.refl w1.heap.size w1));clear HFb;by_cases h0:i=0
  ·have HV:Hid (wL k l=0/\wJ k l=false):=by
    show _/\_;unfold wL wJ;rw [wS HU.out k i hle HA1.out HA2.out HNo.out (Or.inl h0)];exact ⟨rfl,rfl⟩
   have q0:¬ (0:Int) < (i:Int):=by omega
   have q0n:¬ 0 < i:=by omega
   clear h0 HA1 HA2 HNo;go_upto_region 5 with fail
   refine Ri.I4 (by kernel_rfl) (by kernel_rfl) (by kernel_rfl) (fun Wx=>Below w1.heap.size w1 Wx) (fun kz vs wz=>(fun kx vx wx=>match kx with|0=>vx=iI (i:Nat)|1=>vx=.bool false|2=>vx=.bool false|3=>True|4=>True|5=>True|6=>True|7=>True|8=>True|9=>True|10=>True|11=>True|12=>True|13=>vx=.bool false|_=>True:Nat->Value->World->Prop) kz (vs kz) wz) (fun kz=>[kz]) (by kernel_rfl) (fun jz vs iz vz wz hiz hz=>Ri.wI (F:=(fun kx vx wx=>match kx with|0=>vx=iI (i:Nat)|1=>vx=.bool false|2=>vx=.bool false|3=>True|4=>True|5=>True|6=>True|7=>True|8=>True|9=>True|10=>True|11=>True|12=>True|13=>vx=.bool false|_=>True:Nat->Value->World->Prop)) jz vs iz vz wz hiz hz) HD.out ⟨Or.inl ⟨rfl,?_⟩,Or.inl ⟨rfl,?_⟩,Or.inl ⟨rfl,?_⟩,Or.inr ⟨2,true,35,rfl,rfl,?_⟩,Or.inr ⟨2,true,35,rfl,rfl,?_⟩,Or.inr ⟨2,true,35,rfl,rfl,?_⟩,Or.inr ⟨2,true,35,rfl,rfl,?_⟩,Or.inr ⟨2,true,35,rfl,rfl,?_⟩,Or.inr ⟨2,true,35,rfl,rfl,?_⟩,Or.inr ⟨2,true,35,rfl,rfl,?_⟩,Or.inr ⟨2,true,35,rfl,rfl,?_⟩,Or.inr ⟨2,true,35,rfl,rfl,?_⟩,Or.inr ⟨2,true,35,rfl,rfl,?_⟩,Or.inl ⟨rfl,?_⟩,trivial⟩ ?_
   ·intro vs Wx A hA hB hpre K hK;have e13:=(hA 13).trans (show _=iI (i:Nat) by kernel_rfl);clear hA hpre;go_simp;exact hK _ _ hB rfl (fun _ _ h=>h)
   ·intro vs Wx A hA hB hpre K hK;have e33:=tT (hA 33) (by kernel_rfl) (hpre.1 rfl);clear hA hpre;go_simp;exact hK _ _ hB rfl (fun _ _ h=>h)
   ·intro vs Wx A hA hB hpre K hK;have e34:=tT (hA 34) (by kernel_rfl) (hpre.1 rfl);clear hA hpre;go_simp;exact hK _ _ hB rfl (fun _ _ h=>h)
   iterate 2
    ·intro vs Wx A hA hB hpre;have eg:=tT (hA 35) (by kernel_rfl) (hpre.1 rfl);exact ⟨false,eg,fun h=>(by cases h),fun _=>trivial⟩
   ·intro vs Wx A hA hB hpre;have eg:=tT (hA 35) (by kernel_rfl) (hpre.2.1 rfl);exact ⟨false,eg,fun h=>(by cases h),fun _=>trivial⟩
   ·intro vs Wx A hA hB hpre;have eg:=tT (hA 35) (by kernel_rfl) (hpre.2.2.1 rfl);exact ⟨false,eg,fun h=>(by cases h),fun _=>trivial⟩
   iterate 3
    ·intro vs Wx A hA hB hpre;have eg:=tT (hA 35) (by kernel_rfl) (hpre.2.1 rfl);exact ⟨false,eg,fun h=>(by cases h),fun _=>trivial⟩
   ·intro vs Wx A hA hB hpre;have eg:=tT (hA 35) (by kernel_rfl) (hpre.1 rfl);exact ⟨false,eg,fun h=>(by cases h),fun _=>trivial⟩
   ·intro vs Wx A hA hB hpre;have eg:=tT (hA 35) (by kernel_rfl) (hpre.2.1 rfl);exact ⟨false,eg,fun h=>(by cases h),fun _=>trivial⟩
   ·intro vs Wx A hA hB hpre;have eg:=tT (hA 35) (by kernel_rfl) (hpre.2.2.1 rfl);exact ⟨false,eg,fun h=>(by cases h),fun _=>trivial⟩
   ·intro vs Wx A hA hB hpre K hK;have e35:=tT (hA 35) (by kernel_rfl) (hpre.1 rfl);clear hA hpre;go_simp;exact hK _ _ hB rfl (fun _ _ h=>h)
   ·intro vs Wx hB hF;have hL:vs 13=.bool false:=hF 13 (by decide);have Cn:=zZ (jf hp HB1.out hB);clear hF hB;simp only [Ri.puts];rw [hL];clear hL;go_simp;go_wp2_with fail
    go_ret2;exact ⟨by rw [HV.out.1,HV.out.2];first|done|rfl,by first|exact Cn.out|(rw [hp];exact Cn.out)⟩
  ·obtain ⟨n,rfl⟩:∃n,i=n+1:=⟨i - 1,by omega⟩;have hn:n < l.length:=by omega
   have q0:(0:Int) < ((n+1:Nat):Int):=by omega
   obtain ⟨m,hm⟩:∃m,m=n+1:=⟨_,rfl⟩;rw [←hm] at q0;have q0n:0 < m:=by omega
   have HS1:Hid ((m:Int) - 1=(n:Int)):=by show _=_;omega
   have HS2:Hid (IntKind.i64.wrap (n:Int)=(n:Int)):=by show _=_;rw [IntKind.wrap_i64];omega
   obtain ⟨b,oo,rfl,-,-,-⟩:=aU.get HF1.out n hn;have HLs:=zZ (wQ HU.out k n hle HA1.out HA2.out HNo.out);have HLn:=zZ (fun h=>wS HU.out k (n+1) hle HA1.out HA2.out HNo.out (Or.inr ⟨hn,h⟩));have Bt:=zZ fun W' (hW:Below w1.heap.size w1 W')=>And.intro (jZ (HF1.out.Bu hW) n hn) (bB (tV HZ1.out hW));clear HA1 HA2 HNo;change Hid (Gj k l[n]=true->wK k l=some l[n]) at HLs;change Hid (Gj k l[n]=false->wK k l=none) at HLn;generalize l[n]=x at *;rw [←hm];clear hm h0;obtain ⟨V1,t1⟩:∃V,((mk x.proc).toList == (mk k.proc).toList)=V:=⟨_,rfl⟩;obtain ⟨V2,t2⟩:∃V,((mk x.mod).toList == (mk k.mod).toList)=V:=⟨_,rfl⟩;obtain ⟨V3,t3⟩:∃V,(x.net == k.net)=V:=⟨_,rfl⟩;obtain ⟨VS,HVS⟩:∃V,Hid (Gj k x=V):=⟨_,rfl⟩;have HV:Hid (Gj k x=(V1 && (V2 && V3))):=by
    show _=_;rw [←t1,←t2,←t3,xH,xH];unfold Gj;congr 1
   rw [HVS.out] at HV HLs HLn;have HC:Hid ((V1=false/\VS=false) ∨ (V1=true/\V2=false/\VS=false) ∨ (V1=true/\V2=true/\V3=false/\VS=false) ∨ (V1=true/\V2=true/\V3=true/\VS=true)):=by
    have:=HV.out;show _ ∨ _;cases V1<;>cases V2<;>cases V3<;>simp_all
   have HT:=zZ (And.intro t1 (And.intro t2 t3));clear t1 t2 t3 HV HVS;go_upto_region 5 with fail
   refine Ri.I4 (by kernel_rfl) (by kernel_rfl) (by kernel_rfl) (fun Wx=>Below w1.heap.size w1 Wx) (fun kz vs wz=>(fun kx vx wx=>match kx with|0=>vx=iI (m:Nat)|1=>vx=.bool true|2=>vx=.bool true|3=>vx=.slice (some ⟨b,oo,none⟩) l.length fk|4=>vx=iI (m:Nat)|5=>vx=iI (n:Nat)|6=>vx=pP b (oo+n * 5)|7=>vx=fev x|8=>vx=plv x|9=>vx=.agg #[.string (mk x.proc),.string (mk x.mod),iI x.net]|10=>vx=pP p 0|11=>vx=.agg #[.string (mk k.proc),.string (mk k.mod),iI k.net]|12=>vx=.bool VS|13=>vx=.bool VS|_=>True:Nat->Value->World->Prop) kz (vs kz) wz) (fun kz=>[kz]) (by kernel_rfl) (fun jz vs iz vz wz hiz hz=>Ri.wI (F:=(fun kx vx wx=>match kx with|0=>vx=iI (m:Nat)|1=>vx=.bool true|2=>vx=.bool true|3=>vx=.slice (some ⟨b,oo,none⟩) l.length fk|4=>vx=iI (m:Nat)|5=>vx=iI (n:Nat)|6=>vx=pP b (oo+n * 5)|7=>vx=fev x|8=>vx=plv x|9=>vx=.agg #[.string (mk x.proc),.string (mk x.mod),iI x.net]|10=>vx=pP p 0|11=>vx=.agg #[.string (mk k.proc),.string (mk k.mod),iI k.net]|12=>vx=.bool VS|13=>vx=.bool VS|_=>True:Nat->Value->World->Prop)) jz vs iz vz wz hiz hz) HD.out ⟨Or.inl ⟨rfl,?_⟩,Or.inl ⟨rfl,?_⟩,Or.inl ⟨rfl,?_⟩,Or.inr ⟨2,true,35,rfl,rfl,?_⟩,Or.inr ⟨2,true,35,rfl,rfl,?_⟩,Or.inr ⟨2,true,35,rfl,rfl,?_⟩,Or.inr ⟨2,true,35,rfl,rfl,?_⟩,Or.inr ⟨2,true,35,rfl,rfl,?_⟩,Or.inr ⟨2,true,35,rfl,rfl,?_⟩,Or.inr ⟨2,true,35,rfl,rfl,?_⟩,Or.inr ⟨2,true,35,rfl,rfl,?_⟩,Or.inr ⟨2,true,35,rfl,rfl,?_⟩,Or.inr ⟨2,true,35,rfl,rfl,?_⟩,Or.inl ⟨rfl,?_⟩,trivial⟩ ?_
   ·intro vs Wx A hA hB hpre K hK;have e13:=(hA 13).trans (show _=iI (m:Nat) by kernel_rfl);clear hA hpre;go_simp;exact hK _ _ hB rfl (fun _ _ h=>h)
   ·intro vs Wx A hA hB hpre K hK;have e33:=tT (hA 33) (by kernel_rfl) (hpre.1 rfl);clear hA hpre;go_simp;exact hK _ _ hB rfl (fun _ _ h=>h)
   ·intro vs Wx A hA hB hpre K hK;have e34:=tT (hA 34) (by kernel_rfl) (hpre.1 rfl);clear hA hpre;go_simp;exact hK _ _ hB rfl (fun _ _ h=>h)
   ·intro vs Wx A hA hB hpre;have eg:=tT (hA 35) (by kernel_rfl) (hpre.1 rfl);refine ⟨true,eg,fun _ K hK=>?_,fun h=>absurd rfl h⟩;have e0:=(hA 0).trans (show _=Value.slice (some ⟨b,oo,none⟩) l.length fk by kernel_rfl);clear hA hpre;go_simp;exact hK _ _ hB rfl (fun _ _ h=>h)
   ·intro vs Wx A hA hB hpre;have eg:=tT (hA 35) (by kernel_rfl) (hpre.1 rfl);refine ⟨true,eg,fun _ K hK=>?_,fun h=>absurd rfl h⟩;have e13:=(hA 13).trans (show _=iI (m:Nat) by kernel_rfl);clear hA hpre;go_simp;exact hK _ _ hB rfl (fun _ _ h=>h)
   ·intro vs Wx A hA hB hpre;have eg:=tT (hA 35) (by kernel_rfl) (hpre.2.1 rfl);refine ⟨true,eg,fun _ K hK=>?_,fun h=>absurd rfl h⟩;have e37:=tT (hA 37) (by kernel_rfl) (hpre.1 rfl);have s1:=HS1.out;have s2:=HS2.out;clear hA hpre;go_simp;exact hK _ _ hB rfl (fun _ _ h=>h)
   ·intro vs Wx A hA hB hpre;have eg:=tT (hA 35) (by kernel_rfl) (hpre.2.2.1 rfl);refine ⟨true,eg,fun _ K hK=>?_,fun h=>absurd rfl h⟩;have e36:=tT (hA 36) (by kernel_rfl) (hpre.1 rfl);have e38:=tT (hA 38) (by kernel_rfl) (hpre.2.1 rfl);clear hA hpre;go_simp;exact hK _ _ hB rfl (fun _ _ h=>h)
   ·intro vs Wx A hA hB hpre;have eg:=tT (hA 35) (by kernel_rfl) (hpre.2.1 rfl);refine ⟨true,eg,fun _ K hK=>?_,fun h=>absurd rfl h⟩;have e39:=tT (hA 39) (by kernel_rfl) (hpre.1 rfl);obtain ⟨⟨x0,x1,x2,x3,x4⟩,⟨y0,y1,y2,y3⟩⟩:=Bt.out Wx hB;clear hA hpre;go_simp;exact hK _ _ hB rfl (fun _ _ h=>h)
   ·intro vs Wx A hA hB hpre;have eg:=tT (hA 35) (by kernel_rfl) (hpre.2.1 rfl);refine ⟨true,eg,fun _ K hK=>?_,fun h=>absurd rfl h⟩;have e40:=tT (hA 40) (by kernel_rfl) (hpre.1 rfl);clear hA hpre;go_simp;go_at_call 108
    refine (Bh _ _).mono ?_;rintro e w3 ⟨rfl,hg⟩;exact hK _ _ (jg hB hg.1) rfl (fun _ _ h=>h)
   ·intro vs Wx A hA hB hpre;have eg:=tT (hA 35) (by kernel_rfl) (hpre.2.1 rfl);refine ⟨true,eg,fun _ K hK=>?_,fun h=>absurd rfl h⟩;have e41:=tT (hA 41) (by kernel_rfl) (hpre.1 rfl);clear hA hpre;go_simp;exact hK _ _ hB rfl (fun _ _ h=>h)
   ·intro vs Wx A hA hB hpre;have eg:=tT (hA 35) (by kernel_rfl) (hpre.1 rfl);refine ⟨true,eg,fun _ K hK=>?_,fun h=>absurd rfl h⟩;have e12:=(hA 12).trans (show _=pP p 0 by kernel_rfl);clear hA hpre;go_simp;exact hK _ _ hB rfl (fun _ _ h=>h)
   ·intro vs Wx A hA hB hpre;have eg:=tT (hA 35) (by kernel_rfl) (hpre.2.1 rfl);refine ⟨true,eg,fun _ K hK=>?_,fun h=>absurd rfl h⟩;have e43:=tT (hA 43) (by kernel_rfl) (hpre.1 rfl);obtain ⟨⟨x0,x1,x2,x3,x4⟩,⟨y0,y1,y2,y3⟩⟩:=Bt.out Wx hB;clear hA hpre;go_simp;exact hK _ _ hB rfl (fun _ _ h=>h)
   ·intro vs Wx A hA hB hpre;have eg:=tT (hA 35) (by kernel_rfl) (hpre.2.2.1 rfl);refine ⟨true,eg,fun _ K hK=>?_,fun h=>absurd rfl h⟩;have e42:=tT (hA 42) (by kernel_rfl) (hpre.1 rfl);have e44:=tT (hA 44) (by kernel_rfl) (hpre.2.1 rfl);clear hA hpre;obtain ⟨t1,t2,t3⟩:=HT.out;rcases HC.out with ⟨v1,vs0⟩|⟨v1,v2,vs0⟩|⟨v1,v2,v3,vs0⟩|⟨v1,v2,v3,vs0⟩
    all_goals
     go_simp;exact hK _ _ hB (by rw [vs0];first|done|rfl) (fun _ _ h=>h)
   ·intro vs Wx A hA hB hpre K hK;have e35:=tT (hA 35) (by kernel_rfl) (hpre.1 rfl);have e45:=tT (hA 45) (by kernel_rfl) (hpre.2.1 rfl);clear hA hpre;go_simp;exact hK _ _ hB rfl (fun _ _ h=>h)
   ·intro vs Wx hB hF;have hL:vs 13=.bool VS:=hF 13 (by decide);have Cn:=zZ (jf hp HB1.out hB);obtain ⟨⟨x0,x1,x2,x3,x4⟩,-⟩:=Bt.out Wx hB;clear hF hB HT HC Bt;simp only [Ri.puts];rw [hL];clear hL;cases VS with
    | true =>
     have HV:Hid (wL k l=x.Ck/\wJ k l=true):=by show _/\_;unfold wL wJ;rw [HLs.out rfl];exact ⟨rfl,rfl⟩
     clear HLs HLn;have s1:=HS1.out;have s2:=HS2.out;go_simp;go_wp2_with fail
     go_ret2;exact ⟨by rw [HV.out.1,HV.out.2];first|done|rfl,by first|exact Cn.out|(rw [hp];exact Cn.out)⟩
    | false =>
     have HV:Hid (wL k l=0/\wJ k l=false):=by show _/\_;unfold wL wJ;rw [HLn.out rfl];exact ⟨rfl,rfl⟩
     clear HLs HLn;go_simp;go_wp2_with fail
     go_ret2;exact ⟨by rw [HV.out.1,HV.out.2];first|done|rfl,by first|exact Cn.out|(rw [hp];exact Cn.out)⟩
theorem ku {w:World} {g:Nat} {a b c d e f:Value} {T:TypeId} (h:w.heap[g]?=some (.cells #[a,b,c,d,e,f] T (0,0))):w.cell? ⟨g,0,none⟩=some a/\w.cell? ⟨g,1,none⟩=some b/\w.cell? ⟨g,2,none⟩=some c/\w.cell? ⟨g,3,none⟩=some d/\w.cell? ⟨g,4,none⟩=some e/\w.cell? ⟨g,5,none⟩=some f:=by
 refine ⟨?_,?_,?_,?_,?_,?_⟩<;>(rw [cell_of_row w g _ _ T (0,0) h];rfl)
theorem Hf {w w':World} {v:Value} {l:List Tx} (h:dI All w v l) (hb:Below w.heap.size w w'):dI All w' v l:=dI.move h (Below.moves hb)
theorem BD (l:List Cr) (v:Value) (x:Ln) (m:Value) (net:Int) (w:World) (h:aU All w v l) (hl:l.length<=281474976710656) (hU:Up l) (hm:dI All w m x.mods) :
  Calls Tryz.prog 87 #[v,Cm.lnv x m,iI net] w fun e w'=>e=.returned (.tuple #[iI (BA l x net),.bool (Bv l x net)])/\Below w.heap.size w w':=by
 obtain ⟨ma,mc,rfl,hm1,hm2⟩:=Cm.dI.form hm;have hb0:=iU w (.cells #[.string (mk x.proc),.slice ma x.mods.length mc,iI x.date,iI x.units,iI x.Av,iI x.prior] 48);have HZ:=zZ (heap_alloc_new w (.cells #[.string (mk x.proc),.slice ma x.mods.length mc,iI x.date,iI x.units,iI x.Av,iI x.prior] 48));have HM:=zZ (Hf hm hb0);have HB0:=zZ hb0;have HLk:=zZ fun (t:Tx) W' (hW:Below (w.alloc (.cells #[.string (mk x.proc),.slice ma x.mods.length mc,iI x.date,iI x.units,iI x.Av,iI x.prior] 48)).heap.size (w.alloc (.cells #[.string (mk x.proc),.slice ma x.mods.length mc,iI x.date,iI x.units,iI x.Av,iI x.prior] 48)) W')=>wO l ⟨x.proc,t,net,x.date⟩ v W' ((h.Bu hb0).Bu hW) hl hU;obtain ⟨fa,fk,rfl,-,-⟩:=h.form;clear h hU hb0 hm;go_enter Tryz.func87,Tryz.ntmps87
 go_upto_region 1 with fail
 generalize w.alloc (.cells #[.string (mk x.proc),.slice ma x.mods.length mc,iI x.date,iI x.units,iI x.Av,iI x.prior] 48)=W at *;generalize hp:w.heap.size=p at *;obtain ⟨z0,z1,z2,z3,z4,z5⟩:=ku HZ.out;go_wp2;clear z0 z1 z2 z3 z4 z5;go_loopg [15] (x.mods.length) (fun g i wr=>∃n:Nat,n<=x.mods.length/\g=x.mods.length - n/\i=iI (n:Nat)/\Hid (Below W.heap.size W wr)/\Hid (o9 l x net (x.mods.drop n ++ [[]])=o9 l x net (x.mods ++ [[]])))
 case atStart=>exact ⟨0,Nat.zero_le _,rfl,rfl,Below.refl _ _,rfl⟩
 case round =>
  obtain ⟨n,hn,hgk,rfl,Co,HE⟩:=hrel;obtain ⟨z0,z1,z2,z3,z4,z5⟩:=ku (tV HZ.out Co.out);by_cases hlt:n < x.mods.length
  ·obtain ⟨b,oo,rfl,-,hcc⟩:=Cm.He (Hf HM.out Co.out) n hlt;have HFD:Hid (o9 l x net (x.mods.drop n ++ [[]])=if wJ ⟨x.proc,x.mods[n],net,x.date⟩ l=true then wK ⟨x.proc,x.mods[n],net,x.date⟩ l else o9 l x net (x.mods.drop (n+1) ++ [[]])):=pq hlt;have HLn:=zZ (HLk.out x.mods[n] wr Co.out);generalize x.mods[n]=t at *;go_wp2_with fail
   go_at_call 127
   refine HLn.out.mono ?_;rintro e w1 ⟨rfl,hb1⟩;have HB1:=zZ (jg Co.out hb1);clear hb1 HLn z0 z1 z2 z3 z4 z5;obtain ⟨LB,HLB⟩:∃B,Hid (wJ ⟨x.proc,t,net,x.date⟩ l=B):=⟨_,rfl⟩;obtain ⟨LV,HLV⟩:∃B,Hid (wL ⟨x.proc,t,net,x.date⟩ l=B):=⟨_,rfl⟩;rw [HLB.out,HLV.out];rw [HLB.out] at HFD;cases LB with
   | true =>
    have HV:Hid (BA l x net=LV/\Bv l x net=true):=BF HE.out HFD.out HLB.out HLV.out;clear HE HFD HLB HLV;go_wp2;go_ret2;exact ⟨by rw [HV.out.1,HV.out.2];first|done|rfl,by first|exact jf hp HB0.out HB1.out|(rw [hp];exact jf hp HB0.out HB1.out)⟩
   | false =>
    have HE2:Hid (o9 l x net (x.mods.drop (n+1) ++ [[]])=o9 l x net (x.mods ++ [[]])):=by show _=_;rw [←HE.out,HFD.out];rfl
    clear HE HFD HLB HLV;go_wp2;go_roundg (x.mods.length - (n+1))
    case measure=>omega
    case rel=>exact ⟨n+1,by omega,rfl,by first|rfl|go_num|(congr 1;omega),HB1.out,HE2.out⟩
  ·have hltz:¬ (n:Int) < (x.mods.length:Int):=by omega
   have HV:Hid (BA l x net=wL ⟨x.proc,[],net,x.date⟩ l/\Bv l x net=wJ ⟨x.proc,[],net,x.date⟩ l):=BG (by omega) HE.out;have HLn:=zZ (HLk.out [] wr Co.out);go_wp2_with fail
   go_at_call 127
   refine HLn.out.mono ?_;rintro e w1 ⟨rfl,hb1⟩;have HB1:=zZ (jg Co.out hb1);clear hb1 HLn z0 z1 z2 z3 z4 z5;go_wp2;go_ret2;exact ⟨by rw [HV.out.1,HV.out.2];first|done|rfl,by first|exact jf hp HB0.out HB1.out|(rw [hp];exact jf hp HB0.out HB1.out)⟩
theorem fQ (l:List Cr) (v:Value) (x:Ln) (m:Value) (net:Int) (w:World) (h:aU All w v l) (hl:l.length<=281474976710656) (hU:Up l) (hm:dI All w m x.mods) (hu:x.units<=9223372036854775807) (hu0:-9223372036854775808<=x.units) :
  Calls Tryz.prog 48 #[v,Cm.lnv x m,iI net] w fun e w'=>e=.returned (.tuple #[iI (fP l x net),.bool (Bv l x net)])/\Below w.heap.size w w':=by
 obtain ⟨ma,mc,rfl,hm1,hm2⟩:=Cm.dI.form hm;have hb0:=iU w (.cells #[.string (mk x.proc),.slice ma x.mods.length mc,iI x.date,iI x.units,iI x.Av,iI x.prior] 48);have HZ:=zZ (heap_alloc_new w (.cells #[.string (mk x.proc),.slice ma x.mods.length mc,iI x.date,iI x.units,iI x.Av,iI x.prior] 48));have HB0:=zZ hb0;have HPr:=zZ (BD l v x _ net _ (h.Bu hb0) hl hU (Hf hm hb0));have HSc:=zZ fun (u:Int) W'=>Ce.EI u x.units W' hu;obtain ⟨fa,fk,rfl,-,-⟩:=h.form;clear h hU hb0 hm;go_enter Tryz.func48,Tryz.ntmps48
 go_upto_region 1 with fail
 generalize w.alloc (.cells #[.string (mk x.proc),.slice ma x.mods.length mc,iI x.date,iI x.units,iI x.Av,iI x.prior] 48)=W at *;generalize hp:w.heap.size=p at *;obtain ⟨z0,z1,z2,z3,z4,z5⟩:=ku HZ.out;go_wp2_with fail
 go_at_call 87
 refine HPr.out.mono ?_;rintro e w1 ⟨rfl,hb1⟩;have HB1:=zZ (jf hp HB0.out hb1);have HZ1:=zZ (tV HZ.out hb1);clear hb1 HPr HZ z0 z1 z2 z3 z4 z5;obtain ⟨z0,z1,z2,z3,z4,z5⟩:=ku HZ1.out;obtain ⟨PB,HPB⟩:∃B,Hid (Bv l x net=B):=⟨_,rfl⟩;obtain ⟨PV,HPV⟩:∃B,Hid (BA l x net=B):=⟨_,rfl⟩;rw [HPB.out,HPV.out];cases PB with
 | false =>
  have HV:Hid (fP l x net=0):=by show _=_;unfold fP;rw [HPB.out];rfl
  go_wp2;go_ret2;exact ⟨by rw [HV.out,HPB.out];first|done|rfl,by first|exact HB1.out|(rw [hp];exact HB1.out)⟩
 | true =>
  have HV:Hid (fP l x net=if Ce.EF PV x.units 1 ≠ 0 ∨ x.Av < Ce.EG PV x.units 1 then x.Av else Ce.EG PV x.units 1):=by show _=_;unfold fP;rw [HPB.out,HPV.out];rfl
  have HS:=zZ (HSc.out PV);obtain ⟨SE,HSE⟩:∃B,Hid (Ce.EF PV x.units 1=B):=⟨_,rfl⟩;obtain ⟨SV,HSV⟩:∃B,Hid (Ce.EG PV x.units 1=B):=⟨_,rfl⟩;rw [HSE.out,HSV.out] at HV HS;clear HSc;by_cases hse:SE=0
  ·have q1:(SE != 0)=false:=by rw [hse];rfl
   by_cases hbl:x.Av < SV
   ·have HV2:Hid (fP l x net=x.Av):=by show _=_;rw [HV.out,if_pos (Or.inr hbl)]
    clear HV hse;go_wp2_with (go_at_call 88;refine (HS.out _).mono ?_;rintro e w2 ⟨rfl,kq,rfl⟩)
    go_ret2;exact ⟨by rw [HV2.out,HPB.out];first|done|rfl,by first|exact jf hp HB1.out (Cm.iY ⟨_,rfl⟩)|(rw [hp];exact jf hp HB1.out (Cm.iY ⟨_,rfl⟩))⟩
   ·have HV2:Hid (fP l x net=SV):=by show _=_;rw [HV.out,if_neg (by omega)]
    clear HV hse;go_wp2_with (go_at_call 88;refine (HS.out _).mono ?_;rintro e w2 ⟨rfl,kq,rfl⟩)
    go_ret2;exact ⟨by rw [HV2.out,HPB.out];first|done|rfl,by first|exact jf hp HB1.out (Cm.iY ⟨_,rfl⟩)|(rw [hp];exact jf hp HB1.out (Cm.iY ⟨_,rfl⟩))⟩
  ·have q1:(SE != 0)=true:=by simpa using hse
   have HV2:Hid (fP l x net=x.Av):=by show _=_;rw [HV.out,if_pos (Or.inl hse)]
   clear HV hse;go_wp2_with (go_at_call 88;refine (HS.out _).mono ?_;rintro e w2 ⟨rfl,kq,rfl⟩)
   go_ret2;exact ⟨by rw [HV2.out,HPB.out];first|done|rfl,by first|exact jf hp HB1.out (Cm.iY ⟨_,rfl⟩)|(rw [hp];exact jf hp HB1.out (Cm.iY ⟨_,rfl⟩))⟩
end Fe
namespace Tw
open Go.RowKit
open Cm (Ln lnv bf iU jg)
theorem eT (n:Int) (w:World) (h0:-9223372036854775808<=n) (h1:n<=9223372036854775807) :
  Calls Tryz.prog 121 #[iI n] w fun e w'=>e=.returned (.int .u8 (dig n))/\w'=w:=by
 have hm1:=Int.tmod_lt_of_pos n (b:=10) (by omega);have hm2:=Int.lt_tmod_of_pos n (b:=10) (by omega);unfold dig;by_cases hz:n.tmod 10 < 0
 ·rw [if_pos hz];go_enter Tryz.func121,Tryz.ntmps121
  go_wp2;go_ret;exact ⟨rfl,rfl⟩
 ·rw [if_neg hz];go_enter Tryz.func121,Tryz.ntmps121
  go_wp2;go_ret;exact ⟨rfl,rfl⟩
theorem ny (k:Nat) (n:Int) (a:List UInt8):a ++ ng (k+1) n=(a ++ [UInt8.ofNat (48+dig n).toNat]) ++ ng k (n.tdiv 10):=by simp [ng]
theorem FK (n:Int):((UInt8.ofNat (48+dig n).toNat).toNat:Int)=48+dig n:=by
 have:=mZ n;rw [UInt8.toNat_ofNat'];omega
theorem CU (m:Int) (h0:-9223372036854775808<=m) (h1:m<=9223372036854775807):-9223372036854775808<=m.tdiv 10/\m.tdiv 10<=9223372036854775807:=by
 rcases Int.le_total 0 m with h|h
 ·have:=Int.tdiv_eq_ediv_of_nonneg (a:=m) (b:=10) h;omega
 ·have:=Int.tdiv_eq_ediv_of_nonneg (a:=-m) (b:=10) (by omega);rw [Int.neg_tdiv] at this;omega
theorem gX (n:Int) (w:World) (h0:-9223372036854775808<=n) (h1:n<=9223372036854775807) :
  Calls Tryz.prog 81 #[iI n] w fun e w'=>∃v,e=.returned v/\Own w.heap.size w' v (ng 8 n)/\Below w.heap.size w w':=by
 go_enter Tryz.func81,Tryz.ntmps81
 go_wp2;go_loopg [0,3,4] 8 (fun gg d v i wr=>∃(k:Nat) (m:Int) (l:List UInt8),k<=8/\gg=8 - k/\d=iI m/\i=iI k ∧ -9223372036854775808<=m/\m<=9223372036854775807/\l.length=k/\Hid (Own w.heap.size wr v l)/\Hid (Below w.heap.size w wr)/\Hid (l ++ ng (8 - k) m=ng 8 n))
 case atStart=>exact ⟨0,n,[],by omega,rfl,rfl,rfl,h0,h1,rfl,Own.nil _ _,Below.refl _ _,rfl⟩
 case round =>
  obtain ⟨k,m,l,hk,hg,rfl,rfl,hm0,hm1,hll,HO,HB,HD⟩:=hrel;by_cases hlt:k < 8
  ·have HL:=zZ fun W=>eT m W hm0 hm1;have hqb:-9223372036854775808<=m.tdiv 10/\m.tdiv 10<=9223372036854775807:=CU m hm0 hm1;obtain ⟨d0,d1⟩:=mZ m;have HS:=zZ (FK m);have HN:=zZ (ny (8 - (k+1)) m l);generalize UInt8.ofNat (48+dig m).toNat=c at *;generalize dig m=g at *;have hws:=HB.out.size;have HOa:=zZ fun o=>Ak HO.out (iU wr o);go_wp2_with (first
    | (go_at_call 121;refine (HL.out _).mono ?_;rintro e w1 ⟨rfl,rfl⟩)
    | (at_builtin;refine gQ rfl _ _ rfl w.heap.size _ l rfl (HOa.out _) _ 1 (48+g) c rfl HS.out.symm (by first|simp|rfl) (by omega) (by simp;omega) ?_;intro v' w2 ho2 hb2)
    | go_in)
   go_roundg (8 - (k+1))
   case rel=>exact ⟨k+1,m.tdiv 10,l ++ [c],by omega,rfl,rfl,by go_num,hqb.1,hqb.2,by simp [hll],ho2,HB.out.trans (((iU _ _).mono hws).trans hb2),by
    have:=HD.out;rw [show 8 - k=8 - (k+1)+1 by omega,HN.out] at this;exact this⟩
   case measure=>omega
  ·obtain rfl:k=8:=by omega
   have HD':Hid (l=ng 8 n):=by show l=ng 8 n;rw [←HD.out];simp [ng]
   go_wp2;go_ret;exact ⟨_,rfl,by rw [←HD'.out];exact HO.out,HB.out⟩
theorem xW:∀(l:List Tx),(∀t ∈ l,t.length<=20000)->(xR l).length<=l.length * 20001
 | [],_=>by simp [xR]
 | m :: ms,h=>by
  have h1:=xW ms (fun t ht=>h t (List.mem_cons_of_mem _ ht));have h2:=h m (List.mem_cons_self ..);simp only [xR,List.length_cons,List.length_append];omega
theorem xU:∀(a b:List Tx),xR (a ++ b)=xR a ++ xR b
 | [],b=>rfl
 | m :: ms,b=>by simp [xR,xU ms b]
theorem xX (l:List Tx) (k:Nat) (t:Tx) (h:l[k]?=some t):xR (l.take (k+1))=xR (l.take k) ++ 58 :: t:=by
 rw [List.take_add_one,h,xU];simp [xR]
def uf (x:Ln) (k:Nat):List UInt8:=ng 8 x.date ++ x.proc ++ xR (x.mods.take k)
theorem um (x:Ln) (k:Nat) (t:Tx) (h:x.mods[k]?=some t):uf x (k+1)=uf x k ++ [58] ++ t:=by
 unfold uf;rw [xX _ _ _ h];simp
theorem ug (x:Ln):uf x 0=ng 8 x.date ++ x.proc:=by simp [uf,xR]
theorem uh (x:Ln) (k:Nat) (h:x.mods.length<=k):uf x k=uo x:=by
 unfold uf uo;rw [List.take_of_length_le h,List.append_assoc]
def aZ (x:Ln):Prop:=-9223372036854775808<=x.date/\x.date<=9223372036854775807/\x.proc.length<=40000/\x.mods.length<=20000/\∀t ∈ x.mods,t.length<=20000
theorem uj (x:Ln) (h:aZ x) (k:Nat):0 < (uf x k).length/\(uf x k).length<=500000000:=by
 obtain ⟨_,_,h1,h2,h3⟩:=h;have h4:=xW (x.mods.take k) (fun t ht=>h3 t (List.mem_of_mem_take ht));have h5:(x.mods.take k).length<=20000:=by rw [List.length_take];omega
 have h6:(x.mods.take k).length * 20001<=20000 * 20001:=Nat.mul_le_mul_right _ h5;unfold uf;rw [List.length_append,List.length_append,ni];omega
theorem uw (x:Ln) (m:Value) (w:World) (hm:dI All w m x.mods) (hx:aZ x) :
  Calls Tryz.prog 44 #[lnv x m] w fun e w'=>e=.returned (.string (mk (uo x)))/\Below w.heap.size w w':=by
 have HLn:=zZ (uj x hx);have HSt:=zZ (um x);have HAll:=zZ (uh x);obtain ⟨x0,x1,x2,x3,x4⟩:=hx;have HZ:=zZ x4;have HBk:=zZ fun W=>gX x.date W x0 x1;have HM:=zZ fun W (h:Below w.heap.size w W)=>dI.move hm (Below.moves h);obtain ⟨a,c,rfl,f1,f2⟩:=Cm.dI.form hm;have HX:=zZ (Cm.bf.new w x (.slice a x.mods.length c) 48);have HW:=zZ (iU w (.cells #[.string (mk x.proc),.slice a x.mods.length c,iI x.date,iI x.units,iI x.Av,iI x.prior] 48));have HWs:Hid (w.heap.size < (w.alloc (.cells #[.string (mk x.proc),.slice a x.mods.length c,iI x.date,iI x.units,iI x.Av,iI x.prior] 48)).heap.size):=by show _ < _;simp
 have HK0:=zZ (ug x);clear hm x0 x1 x4;go_enter Tryz.func44,Tryz.ntmps44
 go_wp2_with fail
 generalize w.alloc (.cells #[.string (mk x.proc),.slice a x.mods.length c,iI x.date,iI x.units,iI x.Av,iI x.prior] 48)=W at *;obtain ⟨c0,c1,c2,c3,c4,c5⟩:=HX.out;go_wp2_with (first
  | (go_at_call 81;refine (HBk.out _).mono ?_;rintro e w1 ⟨v1,rfl,ho1,hb1⟩;obtain ⟨p0,p1,p2,p3,p4,p5⟩:=Cm.bf.Bu HX.out hb1)
  | (at_builtin;refine gU rfl _ _ rfl W.heap.size _ (ng 8 x.date) x.proc rfl ho1 rfl (by rw [ni];omega) (by omega) hb1.size ?_;intro v2 w2 ho2 hb2;obtain ⟨q0,q1,q2,q3,q4,q5⟩:=Cm.bf.Bu HX.out (hb1.trans hb2);clear p0 p1 p2 p3 p4 p5)
  | go_in)
 go_loopg [3,16] x.mods.length (fun gg v i wr=>∃k:Nat,k<=x.mods.length/\gg=x.mods.length - k/\i=iI k/\Hid (Own W.heap.size wr v (uf x k))/\Hid (Below W.heap.size W wr))
 case atStart=>exact ⟨0,Nat.zero_le _,rfl,rfl,by show Own _ _ _ _;rw [HK0.out];exact ho2,hb1.trans hb2⟩
 case round =>
  obtain ⟨k,hk,hg,rfl,HO,HB⟩:=hrel;clear c0 c1 c2 c3 c4 c5 q0 q1 q2 q3 q4 q5 ho1 hb1 ho2 hb2;obtain ⟨l0,l1⟩:=HLn.out k;by_cases hlt:k < x.mods.length
  ·obtain ⟨b,o,rfl,hx,hc⟩:=Cm.He (HM.out wr (jg HW.out HB.out)) k hlt;have ht:=HZ.out _ (List.mem_of_getElem? hx);have HN:=zZ (HSt.out k _ hx);generalize x.mods[k]=t at *;have hws:=HB.out.size;have HOa:=zZ fun o=>Ak HO.out (iU wr o);have HBa:=zZ fun o=>HB.out.trans ((iU wr o).mono hws);clear hx;go_wp2_with (first
    | (at_builtin;refine gQ rfl _ _ rfl W.heap.size _ (uf x k) rfl (HOa.out _) _ 1 58 58 rfl rfl (by first|simp|rfl) (by omega) (by simp;omega) ?_;intro v2 w2 ho2 hb2)
    | (at_builtin;refine gU rfl _ _ rfl W.heap.size _ (uf x k ++ [58]) t rfl ho2 rfl (by simp;omega) (by omega) ((HBa.out _).trans hb2).size ?_;intro v3 w3 ho3 hb3)
    | go_in)
   go_roundg (x.mods.length - (k+1))
   case rel=>exact ⟨k+1,by omega,rfl,by go_num,by show Own _ _ _ _;rw [HN.out];exact ho3,((HBa.out _).trans hb2).trans hb3⟩
   case measure=>omega
  ·have HV:=zZ (HAll.out k (by omega));have hcv:=l7 HO.out l0;rw [HV.out] at hcv;have hlt':¬ (k:Int) < (x.mods.length:Int):=by omega
   go_wp2;go_ret;exact ⟨rfl,jg HW.out HB.out⟩
end Tw
namespace Tw
open Go.RowKit Go.Maps
open Cm (Ln lnv bH bf iU jg)
theorem eZ:Keyed Tryz.prog 9:=string_keyed Tryz.underlying9
theorem Jg (w:World):(zeroValue 93).run Tryz.prog w=.ok (.agg #[]) w:=by kernel_rfl
theorem eO:(Tryz.prog.info? 4).map (fun i=>(i.zero,i.size,i.bytes))=some (some (.bool false),1,1):=by kernel_rfl
def cO (w:World) (b n:Nat) (C:List Ln):Prop:=∃D:DataW Unit,w.ownsMap Tryz.prog 9 unitElem b n D/\∀s:List UInt8,Maps.has D (.string s)=C.any fun y=>uo y == s
theorem cO.new (w:World):cO (w.alloc (.map #[] 0)) w.heap.size 0 []:=⟨.map [],World.ownsMap_made _ _ _ _,fun s=>rfl⟩
theorem cO.far {w w':World} {b n:Nat} {C:List Ln} (h:cO w b n C) (hb:Below w.heap.size w w'):cO w' b n C:=by
 obtain ⟨D,⟨es,clock,hh,r⟩,h2⟩:=h;exact ⟨D,⟨es,clock,tV hh hb,r⟩,h2⟩
theorem cO.set {w:World} {b n:Nat} {C:List Ln} (h:cO w b n C) {a:Addr} (ha:b ≠ a.block) (u:Value):cO (w.setCell a u) b n C:=by
 obtain ⟨D,h1,h2⟩:=h;exact ⟨D,h1.setCell ha u,h2⟩
theorem cO.lt {w:World} {b n:Nat} {C:List Ln} (h:cO w b n C):b < w.heap.size:=by
 obtain ⟨D,h1,h2⟩:=h;exact h1.lt
theorem Fh {ops:Array Oper} {rest:List Oper} {o:Oper} {a:Act} {w:World} {Q:Exit->Act->World->Prop} (hgd:o.guard=none) (m x v:Operand) (ho:o.op=Op.mapUpdate 92 m x v)
  (b n:Nat) (C:List Ln) (hm:a.eval m=.map (some b)) (h:cO w b n C) (hn:n<=1000000) (y:Ln) (hy:(uo y).length<=1000000000) (hx:a.eval x=.string (mk (uo y))) (hv:a.eval v=.agg #[])
  (hK:∀w',cO w' b (n+1) (C ++ [y])->w.grownBy w' (some b)->wpList Tryz.prog ops Q rest (a.put o.dst undef) w'):wpList Tryz.prog ops Q (o :: rest) a w:=by
 obtain ⟨D,h1,h2⟩:=h;have hkey:keyOf Tryz.prog 9 (.string (mk (uo y)))=some (.string (uo y)):=by
  have:=Go.WideMaps.keyOf_string_mk (P:=Tryz.prog) Tryz.underlying9 (s:=mk (uo y)) (by rw [xM];unfold maxLen;omega);rwa [xI] at this
 refine wpList_mapUpdate_own _ hgd m x v 92 ho 9 93 eZ Tryz.underlying92 (unitElem (H:=Unit)) b n D hm h1 (by unfold maxLen;omega) _ _ _ hx hv hkey _ [] unitElem_mk fun w' q1 q2=>hK w' ⟨_,q1,fun s=>?_⟩ q2;rw [List.any_append];by_cases e:uo y=s
 ·subst e;rw [has_put_same (k:=.string (uo y)) h1.isMap True.intro];simp
 ·rw [has_put_other (fun h=>e (by injection h with h;exact h.symm)),h2 s];simp [e]
theorem EZ {ops:Array Oper} {rest:List Oper} {o:Oper} {a:Act} {w:World} {Q:Exit->Act->World->Prop} (hgd:o.guard=none) (m x:Operand) (ho:o.op=Op.lookup 92 m x true)
  (b n:Nat) (C:List Ln) (hm:a.eval m=.map (some b)) (h:cO w b n C) (y:Ln) (hy:(uo y).length<=1000000000) (hx:a.eval x=.string (mk (uo y))) (B:Bool) (hB:inB y C=B)
  (hK:wpList Tryz.prog ops Q rest (a.put o.dst (.tuple #[.agg #[],.bool B])) w):wpList Tryz.prog ops Q (o :: rest) a w:=by
 obtain ⟨D,h1,h2⟩:=h;have hkey:keyOf Tryz.prog 9 (.string (mk (uo y)))=some (.string (uo y)):=by
  have:=Go.WideMaps.keyOf_string_mk (P:=Tryz.prog) Tryz.underlying9 (s:=mk (uo y)) (by rw [xM];unfold maxLen;omega);rwa [xI] at this
 refine wpList_lookup_own_unit _ hgd m x 92 ho 9 93 eZ Tryz.underlying92 (Jg _) b n D hm h1 _ _ hx hkey ?_;rw [h2 (uo y)];have e:(C.any fun z=>uo z == uo y)=B:=hB;rw [e];exact hK
def ah (w:World) (v:Value) (l:List Bool):Prop:=bT All (fun _ u x=>u=.bool x) w v l
theorem ah.far {w w':World} {v:Value} {l:List Bool} (h:ah w v l) (hb:Below w.heap.size w w'):ah w' v l:=bT.move h (Below.moves hb) fun _ _ _ h=>h
theorem ah.form {w:World} {v:Value} {l:List Bool} (h:ah w v l):∃a c,v=.slice a l.length c/\l.length<=c/\c<=9223372036854775807:=by
 obtain ⟨a,c,rfl,h1,h2,_⟩:=h;exact ⟨a,c,rfl,h1,by unfold maxLen at h2;exact h2⟩
theorem ah.get {w:World} {a:Option Addr} {n c:Nat} {l:List Bool} (h:ah w (.slice a n c) l) (k:Nat) (hk:k < l.length):∃b o,a=some ⟨b,o,none⟩/\l[k]?=some l[k]/\w.cell? ⟨b,o+k,none⟩=some (.bool l[k]):=by
 obtain ⟨a',c',he,h1,h2,h3⟩:=h;have ha:a=a':=by injection he
 subst ha;rcases h3 with h|⟨b,o,ha,_,_,hc⟩
 ·subst h;simp at hk
 ·have hx:=List.getElem?_eq_getElem hk;obtain ⟨m,q1,rfl⟩:=hc k _ hx;exact ⟨b,o,ha,hx,q1⟩
theorem jC {w:World} {g n:Nat} {l:List Bool} {f:Nat->Value} (h:w.rowIs g 4 n f) (hn:l.length=n) (hm:n<=1000000) (hf:∀i,i < n->f i=.bool (l.getD i false)):ah w (.slice (some ⟨g,0,none⟩) n n) l:=by
 subst hn;refine ⟨some ⟨g,0,none⟩,l.length,rfl,Nat.le_refl _,by unfold maxLen;omega,Or.inr ⟨g,0,rfl,trivial,h.lt,fun j x hj=>?_⟩⟩;have hjl:j < l.length:=(List.getElem?_eq_some_iff.1 hj).1;refine ⟨_,by rw [Nat.zero_add];exact h.cell hjl,?_⟩;rw [hf j hjl,List.getD_eq_getElem?_getD,hj];rfl
end Tw
end Go.Proofs.YtfbfeoplldjbpaaGreatDoor
