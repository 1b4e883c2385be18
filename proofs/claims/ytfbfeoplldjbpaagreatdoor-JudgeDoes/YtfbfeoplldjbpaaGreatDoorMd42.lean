/-
  Texts put together (merge.py): ZRLook, ZApp, CBits, CRefScl.
-/
import Derived.Test.YtfbfeoplldjbpaaGreatDoorMd29
import Derived.Test.YtfbfeoplldjbpaaGreatDoorMd17
set_option linter.unusedSimpArgs false
set_option linter.unusedVariables false
set_option maxHeartbeats 16000000
set_option maxRecDepth 100000
namespace Go.Proofs.YtfbfeoplldjbpaaGreatDoor
namespace Fe
open Go.RowKit
open Wo (Wd tV jI jQ qL iU jg)
theorem Ll (k:Key) (l:List Cr) (n:Nat) (h:n < l.length):(l.take (n+1)).foldl (F6 k) none=F6 k ((l.take n).foldl (F6 k) none) l[n]:=by
 have e:l.take (n+1)=l.take n ++ [l[n]]:=by rw [List.take_add_one,List.getElem?_eq_getElem h];rfl
 rw [e,List.foldl_append];rfl
theorem Lm {V1 V2 V3:Bool} {a b:Int} (hh:¬ (V1=true/\V2=true/\V3=false/\¬ a < b)):V1=false ∨ (V1=true/\V2=false) ∨ (V1=true/\V2=true/\V3=true) ∨ (V1=true/\V2=true/\V3=false/\a < b):=by
 cases V1<;>cases V2<;>cases V3<;>simp at hh ⊢<;>omega
def Kv (l:List Cr) (k:Key) (n:Nat) (bz:Int):Prop:=(bz=-1/\(l.take n).foldl (F6 k) none=none) ∨ ∃bi,∃h:bi < l.length,bz=(bi:Nat)/\(l.take n).foldl (F6 k) none=some l[bi]
theorem Ol (l:List Cr) (k:Key) (v:Value) (w:World) (h:aU All w v l) (hl:l.length<=281474976710656) :
  Calls Tryz.prog 97 #[v,.string (mk k.proc),.string (mk k.mod),iI k.net,iI k.day] w fun e w'=>e=.returned (.tuple #[iI (wL k l),.bool (wJ k l)])/\Below w.heap.size w w':=by
 have HF:=zZ h;obtain ⟨fa,fk,rfl,hm1,hm2⟩:=h.form;clear h;go_enter Tryz.func97,Tryz.ntmps97
 go_wp2;go_loopg [12,13] (l.length) (fun g s12 s13 wr=>∃(n:Nat) (bz:Int),s12=iI bz/\s13=iI (n:Nat)/\n<=l.length/\g=l.length - n/\Hid (Below w.heap.size w wr)/\Hid (Kv l k n bz))
 case atStart=>exact ⟨0,-1,rfl,rfl,Nat.zero_le _,rfl,Below.refl _ _,Or.inl ⟨rfl,rfl⟩⟩
 case round =>
  obtain ⟨n,bz,rfl,rfl,hn,hgk,Co,HBe⟩:=hrel;by_cases hlt:n < l.length
  ·have hltz:(n:Int) < (l.length:Int):=by omega
   have HFT:=zZ (Ll k l n hlt);obtain ⟨b,oo,rfl,-,-,hcc⟩:=aU.get (HF.out.Bu Co.out) n hlt;obtain ⟨c0,c1,c2,c3,c4⟩:=hcc;have HXn:=zZ fun W' (hW:Below wr.heap.size wr W')=>jZ (HF.out.Bu (jg Co.out hW)) n hlt;obtain ⟨x,HX⟩:∃x,Hid (l[n]=x):=⟨l[n],(rfl:l[n]=l[n])⟩;rw [HX.out] at HFT HXn c0 c1 c2 c3 c4;obtain ⟨V1,t1⟩:∃V,((mk x.proc).toList == (mk k.proc).toList)=V:=⟨_,rfl⟩;obtain ⟨V2,t2⟩:∃V,((mk x.mod).toList == (mk k.mod).toList)=V:=⟨_,rfl⟩;obtain ⟨V3,t3⟩:∃V,(x.net != k.net)=V:=⟨_,rfl⟩;have HV:Hid (hit k x=true ↔ V1=true/\V2=true/\V3=false/\¬ k.day < x.Ch):=by
    show _ ↔ _;rw [←t1,←t2,←t3,xH,xH,qN];simp
   by_cases hh:V1=true/\V2=true/\V3=false/\¬ k.day < x.Ch
   rotate_left
   ·have HS:Hid (F6 k ((l.take n).foldl (F6 k) none) x=(l.take n).foldl (F6 k) none):=F9 (by
     cases hv:hit k x with
     | false=>rfl
     | true=>exact absurd (HV.out.1 hv) hh)
    have HBe2:Hid (Kv l k (n+1) bz):=by show Kv _ _ _ _;unfold Kv;rw [HFT.out,HS.out];exact HBe.out
    have hc:=Lm hh;clear hh HV HS HFT HBe HXn;rcases hc with v1|⟨v1,v2⟩|⟨v1,v2,v3⟩|⟨v1,v2,v3,v4⟩
    all_goals
     go_wp2;go_roundg (l.length - (n+1))
     case measure=>omega
     case rel=>exact ⟨n+1,bz,rfl,by first|rfl|go_num|(congr 1;omega),by omega,rfl,Co.out,HBe2.out⟩
   ·have HHit:Hid (hit k x=true):=HV.out.2 hh;obtain ⟨v1,v2,v3,v4⟩:=hh;clear HV;have HD:=zZ (Below.drew (Below.refl wr.heap.size wr));obtain ⟨wo,hwo⟩:∃z,z=wr:=⟨_,rfl⟩;subst hwo;rcases HBe.out with ⟨rfl,hnone⟩|⟨bi,hbi,rfl,hsome⟩
    ·have HBe2:Hid (Kv l k (n+1) (n:Nat)):=by
      refine Or.inr ⟨n,hlt,rfl,?_⟩;rw [HFT.out,hnone,HX.out];unfold F6;rw [if_pos HHit.out]
     clear hnone HBe HFT HXn;go_upto_region 6 with fail
     clear c0 c1 c2 c3 c4 t1 t2 t3 v1 v2 v3 v4;refine Ri.IZ (by kernel_rfl) (by kernel_rfl) (by kernel_rfl) (fun Wx=>Below wo.heap.size wo Wx) (fun kz vs wz=>(fun kx vx wx=>match kx with|0=>vx=iI (-1)|1=>vx=.bool true|2=>vx=.bool true|3=>True|4=>True|5=>True|6=>True|7=>True|8=>True|9=>True|10=>True|11=>True|12=>True|13=>True|14=>vx=.bool true|_=>True:Nat->Value->World->Prop) kz (vs kz) wz) (fun kz=>[kz]) (by kernel_rfl) (fun jz vs iz vz wz hiz hz=>Ri.wI (F:=(fun kx vx wx=>match kx with|0=>vx=iI (-1)|1=>vx=.bool true|2=>vx=.bool true|3=>True|4=>True|5=>True|6=>True|7=>True|8=>True|9=>True|10=>True|11=>True|12=>True|13=>True|14=>vx=.bool true|_=>True:Nat->Value->World->Prop)) jz vs iz vz wz hiz hz) HD.out ⟨Or.inl ⟨rfl,?_⟩,Or.inl ⟨rfl,?_⟩,Or.inl ⟨rfl,?_⟩,Or.inr ⟨2,false,56,rfl,rfl,?_⟩,Or.inr ⟨2,false,56,rfl,rfl,?_⟩,Or.inr ⟨2,false,56,rfl,rfl,?_⟩,Or.inr ⟨2,false,56,rfl,rfl,?_⟩,Or.inr ⟨2,false,56,rfl,rfl,?_⟩,Or.inr ⟨2,false,56,rfl,rfl,?_⟩,Or.inr ⟨2,false,56,rfl,rfl,?_⟩,Or.inr ⟨2,false,56,rfl,rfl,?_⟩,Or.inr ⟨2,false,56,rfl,rfl,?_⟩,Or.inr ⟨2,false,56,rfl,rfl,?_⟩,Or.inr ⟨2,false,56,rfl,rfl,?_⟩,Or.inl ⟨rfl,?_⟩,trivial⟩ ?_
     ·intro vs Wx A hA hB hpre K hK;have e12:=(hA 12).trans (show _=iI (-1) by kernel_rfl);clear hA hpre;go_simp;exact hK _ _ hB rfl (fun _ _ h=>h)
     ·intro vs Wx A hA hB hpre K hK;have e54:=tT (hA 54) (by kernel_rfl) (hpre.1 rfl);clear hA hpre;go_simp;exact hK _ _ hB rfl (fun _ _ h=>h)
     ·intro vs Wx A hA hB hpre K hK;have e55:=tT (hA 55) (by kernel_rfl) (hpre.1 rfl);clear hA hpre;go_simp;exact hK _ _ hB rfl (fun _ _ h=>h)
     iterate 2
      ·intro vs Wx A hA hB hpre;have eg:=tT (hA 56) (by kernel_rfl) (hpre.1 rfl);exact ⟨true,eg,fun h=>(by cases h),fun _=>trivial⟩
     ·intro vs Wx A hA hB hpre;have eg:=tT (hA 56) (by kernel_rfl) (hpre.2.2.1 rfl);exact ⟨true,eg,fun h=>(by cases h),fun _=>trivial⟩
     iterate 2
      ·intro vs Wx A hA hB hpre;have eg:=tT (hA 56) (by kernel_rfl) (hpre.2.1 rfl);exact ⟨true,eg,fun h=>(by cases h),fun _=>trivial⟩
     iterate 2
      ·intro vs Wx A hA hB hpre;have eg:=tT (hA 56) (by kernel_rfl) (hpre.1 rfl);exact ⟨true,eg,fun h=>(by cases h),fun _=>trivial⟩
     ·intro vs Wx A hA hB hpre;have eg:=tT (hA 56) (by kernel_rfl) (hpre.2.2.1 rfl);exact ⟨true,eg,fun h=>(by cases h),fun _=>trivial⟩
     iterate 2
      ·intro vs Wx A hA hB hpre;have eg:=tT (hA 56) (by kernel_rfl) (hpre.2.1 rfl);exact ⟨true,eg,fun h=>(by cases h),fun _=>trivial⟩
     ·intro vs Wx A hA hB hpre;have eg:=tT (hA 56) (by kernel_rfl) (hpre.2.2.1 rfl);exact ⟨true,eg,fun h=>(by cases h),fun _=>trivial⟩
     ·intro vs Wx A hA hB hpre K hK;have e56:=tT (hA 56) (by kernel_rfl) (hpre.1 rfl);clear hA hpre;go_simp;exact hK _ _ hB rfl (fun _ _ h=>h)
     ·intro vs Wx hB hF;have hL:vs 14=.bool true:=hF 14 (by decide);have Cn:=zZ (jg Co.out hB);clear hF hB;simp only [Ri.puts];rw [hL];clear hL;go_simp;go_wp2;go_roundg (l.length - (n+1))
      case measure=>omega
      case rel=>exact ⟨n+1,(n:Nat),rfl,by first|rfl|go_num|(congr 1;omega),by omega,rfl,Cn.out,HBe2.out⟩
    ·have HXb:=zZ fun W' (hW:Below wo.heap.size wo W')=>jZ (HF.out.Bu (jg Co.out hW)) bi hbi;obtain ⟨y,HY⟩:∃y,Hid (l[bi]=y):=⟨l[bi],(rfl:l[bi]=l[bi])⟩;rw [HY.out] at HXb hsome;have HST:Hid (F6 k ((l.take n).foldl (F6 k) none) x=if y.Ch < x.Ch then some x else some y):=by
      show _=_;rw [hsome];unfold F6;rw [if_pos HHit.out]
     clear hsome HBe;by_cases hyx:y.Ch < x.Ch
     ·have HBe2:Hid (Kv l k (n+1) (n:Nat)):=by
       refine Or.inr ⟨n,hlt,rfl,?_⟩;rw [HFT.out,HST.out,if_pos hyx,HX.out]
      clear HST HFT;go_upto_region 6 with fail
      clear c0 c1 c2 c3 c4 t1 t2 t3 v1 v2 v3 v4;refine Ri.IZ (by kernel_rfl) (by kernel_rfl) (by kernel_rfl) (fun Wx=>Below wo.heap.size wo Wx) (fun kz vs wz=>(fun kx vx wx=>match kx with|0=>vx=iI (bi:Nat)|1=>vx=.bool false|2=>vx=.bool false|3=>vx=.slice (some ⟨b,oo,none⟩) l.length fk|4=>vx=iI (n:Nat)|5=>vx=pP b (oo+n * 5)|6=>vx=pP b (oo+n * 5+3)|7=>vx=iI x.Ch|8=>vx=.slice (some ⟨b,oo,none⟩) l.length fk|9=>vx=iI (bi:Nat)|10=>vx=pP b (oo+bi * 5)|11=>vx=pP b (oo+bi * 5+3)|12=>vx=iI y.Ch|13=>vx=.bool true|14=>vx=.bool true|_=>True:Nat->Value->World->Prop) kz (vs kz) wz) (fun kz=>[kz]) (by kernel_rfl) (fun jz vs iz vz wz hiz hz=>Ri.wI (F:=(fun kx vx wx=>match kx with|0=>vx=iI (bi:Nat)|1=>vx=.bool false|2=>vx=.bool false|3=>vx=.slice (some ⟨b,oo,none⟩) l.length fk|4=>vx=iI (n:Nat)|5=>vx=pP b (oo+n * 5)|6=>vx=pP b (oo+n * 5+3)|7=>vx=iI x.Ch|8=>vx=.slice (some ⟨b,oo,none⟩) l.length fk|9=>vx=iI (bi:Nat)|10=>vx=pP b (oo+bi * 5)|11=>vx=pP b (oo+bi * 5+3)|12=>vx=iI y.Ch|13=>vx=.bool true|14=>vx=.bool true|_=>True:Nat->Value->World->Prop)) jz vs iz vz wz hiz hz) HD.out ⟨Or.inl ⟨rfl,?_⟩,Or.inl ⟨rfl,?_⟩,Or.inl ⟨rfl,?_⟩,Or.inr ⟨2,false,56,rfl,rfl,?_⟩,Or.inr ⟨2,false,56,rfl,rfl,?_⟩,Or.inr ⟨2,false,56,rfl,rfl,?_⟩,Or.inr ⟨2,false,56,rfl,rfl,?_⟩,Or.inr ⟨2,false,56,rfl,rfl,?_⟩,Or.inr ⟨2,false,56,rfl,rfl,?_⟩,Or.inr ⟨2,false,56,rfl,rfl,?_⟩,Or.inr ⟨2,false,56,rfl,rfl,?_⟩,Or.inr ⟨2,false,56,rfl,rfl,?_⟩,Or.inr ⟨2,false,56,rfl,rfl,?_⟩,Or.inr ⟨2,false,56,rfl,rfl,?_⟩,Or.inl ⟨rfl,?_⟩,trivial⟩ ?_
      ·intro vs Wx A hA hB hpre K hK;have e12:=(hA 12).trans (show _=iI (bi:Nat) by kernel_rfl);clear hA hpre;go_simp;exact hK _ _ hB rfl (fun _ _ h=>h)
      ·intro vs Wx A hA hB hpre K hK;have e54:=tT (hA 54) (by kernel_rfl) (hpre.1 rfl);clear hA hpre;go_simp;exact hK _ _ hB rfl (fun _ _ h=>h)
      ·intro vs Wx A hA hB hpre K hK;have e55:=tT (hA 55) (by kernel_rfl) (hpre.1 rfl);clear hA hpre;go_simp;exact hK _ _ hB rfl (fun _ _ h=>h)
      ·intro vs Wx A hA hB hpre;have eg:=tT (hA 56) (by kernel_rfl) (hpre.1 rfl);refine ⟨false,eg,fun _ K hK=>?_,fun h=>absurd rfl h⟩;have e0:=(hA 0).trans (show _=Value.slice (some ⟨b,oo,none⟩) l.length fk by kernel_rfl);clear hA hpre;go_simp;exact hK _ _ hB rfl (fun _ _ h=>h)
      ·intro vs Wx A hA hB hpre;have eg:=tT (hA 56) (by kernel_rfl) (hpre.1 rfl);refine ⟨false,eg,fun _ K hK=>?_,fun h=>absurd rfl h⟩;have e13:=(hA 13).trans (show _=iI (n:Nat) by kernel_rfl);clear hA hpre;go_simp;exact hK _ _ hB rfl (fun _ _ h=>h)
      ·intro vs Wx A hA hB hpre;have eg:=tT (hA 56) (by kernel_rfl) (hpre.2.2.1 rfl);refine ⟨false,eg,fun _ K hK=>?_,fun h=>absurd rfl h⟩;have e57:=tT (hA 57) (by kernel_rfl) (hpre.1 rfl);have e58:=tT (hA 58) (by kernel_rfl) (hpre.2.1 rfl);clear hA hpre;go_simp;exact hK _ _ hB rfl (fun _ _ h=>h)
      ·intro vs Wx A hA hB hpre;have eg:=tT (hA 56) (by kernel_rfl) (hpre.2.1 rfl);refine ⟨false,eg,fun _ K hK=>?_,fun h=>absurd rfl h⟩;have e59:=tT (hA 59) (by kernel_rfl) (hpre.1 rfl);clear hA hpre;go_simp;exact hK _ _ hB rfl (fun _ _ h=>h)
      ·intro vs Wx A hA hB hpre;have eg:=tT (hA 56) (by kernel_rfl) (hpre.2.1 rfl);refine ⟨false,eg,fun _ K hK=>?_,fun h=>absurd rfl h⟩;have e60:=tT (hA 60) (by kernel_rfl) (hpre.1 rfl);obtain ⟨x0,x1,x2,x3,x4⟩:=HXn.out Wx hB;obtain ⟨y0,y1,y2,y3,y4⟩:=HXb.out Wx hB;clear hA hpre;go_simp;exact hK _ _ hB rfl (fun _ _ h=>h)
      ·intro vs Wx A hA hB hpre;have eg:=tT (hA 56) (by kernel_rfl) (hpre.1 rfl);refine ⟨false,eg,fun _ K hK=>?_,fun h=>absurd rfl h⟩;have e0:=(hA 0).trans (show _=Value.slice (some ⟨b,oo,none⟩) l.length fk by kernel_rfl);clear hA hpre;go_simp;exact hK _ _ hB rfl (fun _ _ h=>h)
      ·intro vs Wx A hA hB hpre;have eg:=tT (hA 56) (by kernel_rfl) (hpre.1 rfl);refine ⟨false,eg,fun _ K hK=>?_,fun h=>absurd rfl h⟩;have e12:=(hA 12).trans (show _=iI (bi:Nat) by kernel_rfl);clear hA hpre;go_simp;exact hK _ _ hB rfl (fun _ _ h=>h)
      ·intro vs Wx A hA hB hpre;have eg:=tT (hA 56) (by kernel_rfl) (hpre.2.2.1 rfl);refine ⟨false,eg,fun _ K hK=>?_,fun h=>absurd rfl h⟩;have e62:=tT (hA 62) (by kernel_rfl) (hpre.1 rfl);have e63:=tT (hA 63) (by kernel_rfl) (hpre.2.1 rfl);clear hA hpre;go_simp;exact hK _ _ hB rfl (fun _ _ h=>h)
      ·intro vs Wx A hA hB hpre;have eg:=tT (hA 56) (by kernel_rfl) (hpre.2.1 rfl);refine ⟨false,eg,fun _ K hK=>?_,fun h=>absurd rfl h⟩;have e64:=tT (hA 64) (by kernel_rfl) (hpre.1 rfl);clear hA hpre;go_simp;exact hK _ _ hB rfl (fun _ _ h=>h)
      ·intro vs Wx A hA hB hpre;have eg:=tT (hA 56) (by kernel_rfl) (hpre.2.1 rfl);refine ⟨false,eg,fun _ K hK=>?_,fun h=>absurd rfl h⟩;have e65:=tT (hA 65) (by kernel_rfl) (hpre.1 rfl);obtain ⟨x0,x1,x2,x3,x4⟩:=HXn.out Wx hB;obtain ⟨y0,y1,y2,y3,y4⟩:=HXb.out Wx hB;clear hA hpre;go_simp;exact hK _ _ hB rfl (fun _ _ h=>h)
      ·intro vs Wx A hA hB hpre;have eg:=tT (hA 56) (by kernel_rfl) (hpre.2.2.1 rfl);refine ⟨false,eg,fun _ K hK=>?_,fun h=>absurd rfl h⟩;have e61:=tT (hA 61) (by kernel_rfl) (hpre.1 rfl);have e66:=tT (hA 66) (by kernel_rfl) (hpre.2.1 rfl);clear hA hpre;go_simp;exact hK _ _ hB rfl (fun _ _ h=>h)
      ·intro vs Wx A hA hB hpre K hK;have e56:=tT (hA 56) (by kernel_rfl) (hpre.1 rfl);have e67:=tT (hA 67) (by kernel_rfl) (hpre.2.1 rfl);clear hA hpre;go_simp;exact hK _ _ hB rfl (fun _ _ h=>h)
      ·intro vs Wx hB hF;have hL:vs 14=.bool true:=hF 14 (by decide);have Cn:=zZ (jg Co.out hB);clear hF hB;simp only [Ri.puts];rw [hL];clear hL;go_simp;go_wp2;go_roundg (l.length - (n+1))
       case measure=>omega
       case rel=>exact ⟨n+1,(n:Nat),rfl,by first|rfl|go_num|(congr 1;omega),by omega,rfl,Cn.out,HBe2.out⟩
     ·have HBe2:Hid (Kv l k (n+1) (bi:Nat)):=by
       refine Or.inr ⟨bi,hbi,rfl,?_⟩;rw [HFT.out,HST.out,if_neg hyx,HY.out]
      clear HST HFT;go_upto_region 6 with fail
      clear c0 c1 c2 c3 c4 t1 t2 t3 v1 v2 v3 v4;refine Ri.IZ (by kernel_rfl) (by kernel_rfl) (by kernel_rfl) (fun Wx=>Below wo.heap.size wo Wx) (fun kz vs wz=>(fun kx vx wx=>match kx with|0=>vx=iI (bi:Nat)|1=>vx=.bool false|2=>vx=.bool false|3=>vx=.slice (some ⟨b,oo,none⟩) l.length fk|4=>vx=iI (n:Nat)|5=>vx=pP b (oo+n * 5)|6=>vx=pP b (oo+n * 5+3)|7=>vx=iI x.Ch|8=>vx=.slice (some ⟨b,oo,none⟩) l.length fk|9=>vx=iI (bi:Nat)|10=>vx=pP b (oo+bi * 5)|11=>vx=pP b (oo+bi * 5+3)|12=>vx=iI y.Ch|13=>vx=.bool false|14=>vx=.bool false|_=>True:Nat->Value->World->Prop) kz (vs kz) wz) (fun kz=>[kz]) (by kernel_rfl) (fun jz vs iz vz wz hiz hz=>Ri.wI (F:=(fun kx vx wx=>match kx with|0=>vx=iI (bi:Nat)|1=>vx=.bool false|2=>vx=.bool false|3=>vx=.slice (some ⟨b,oo,none⟩) l.length fk|4=>vx=iI (n:Nat)|5=>vx=pP b (oo+n * 5)|6=>vx=pP b (oo+n * 5+3)|7=>vx=iI x.Ch|8=>vx=.slice (some ⟨b,oo,none⟩) l.length fk|9=>vx=iI (bi:Nat)|10=>vx=pP b (oo+bi * 5)|11=>vx=pP b (oo+bi * 5+3)|12=>vx=iI y.Ch|13=>vx=.bool false|14=>vx=.bool false|_=>True:Nat->Value->World->Prop)) jz vs iz vz wz hiz hz) HD.out ⟨Or.inl ⟨rfl,?_⟩,Or.inl ⟨rfl,?_⟩,Or.inl ⟨rfl,?_⟩,Or.inr ⟨2,false,56,rfl,rfl,?_⟩,Or.inr ⟨2,false,56,rfl,rfl,?_⟩,Or.inr ⟨2,false,56,rfl,rfl,?_⟩,Or.inr ⟨2,false,56,rfl,rfl,?_⟩,Or.inr ⟨2,false,56,rfl,rfl,?_⟩,Or.inr ⟨2,false,56,rfl,rfl,?_⟩,Or.inr ⟨2,false,56,rfl,rfl,?_⟩,Or.inr ⟨2,false,56,rfl,rfl,?_⟩,Or.inr ⟨2,false,56,rfl,rfl,?_⟩,Or.inr ⟨2,false,56,rfl,rfl,?_⟩,Or.inr ⟨2,false,56,rfl,rfl,?_⟩,Or.inl ⟨rfl,?_⟩,trivial⟩ ?_
      ·intro vs Wx A hA hB hpre K hK;have e12:=(hA 12).trans (show _=iI (bi:Nat) by kernel_rfl);clear hA hpre;go_simp;exact hK _ _ hB rfl (fun _ _ h=>h)
      ·intro vs Wx A hA hB hpre K hK;have e54:=tT (hA 54) (by kernel_rfl) (hpre.1 rfl);clear hA hpre;go_simp;exact hK _ _ hB rfl (fun _ _ h=>h)
      ·intro vs Wx A hA hB hpre K hK;have e55:=tT (hA 55) (by kernel_rfl) (hpre.1 rfl);clear hA hpre;go_simp;exact hK _ _ hB rfl (fun _ _ h=>h)
      ·intro vs Wx A hA hB hpre;have eg:=tT (hA 56) (by kernel_rfl) (hpre.1 rfl);refine ⟨false,eg,fun _ K hK=>?_,fun h=>absurd rfl h⟩;have e0:=(hA 0).trans (show _=Value.slice (some ⟨b,oo,none⟩) l.length fk by kernel_rfl);clear hA hpre;go_simp;exact hK _ _ hB rfl (fun _ _ h=>h)
      ·intro vs Wx A hA hB hpre;have eg:=tT (hA 56) (by kernel_rfl) (hpre.1 rfl);refine ⟨false,eg,fun _ K hK=>?_,fun h=>absurd rfl h⟩;have e13:=(hA 13).trans (show _=iI (n:Nat) by kernel_rfl);clear hA hpre;go_simp;exact hK _ _ hB rfl (fun _ _ h=>h)
      ·intro vs Wx A hA hB hpre;have eg:=tT (hA 56) (by kernel_rfl) (hpre.2.2.1 rfl);refine ⟨false,eg,fun _ K hK=>?_,fun h=>absurd rfl h⟩;have e57:=tT (hA 57) (by kernel_rfl) (hpre.1 rfl);have e58:=tT (hA 58) (by kernel_rfl) (hpre.2.1 rfl);clear hA hpre;go_simp;exact hK _ _ hB rfl (fun _ _ h=>h)
      ·intro vs Wx A hA hB hpre;have eg:=tT (hA 56) (by kernel_rfl) (hpre.2.1 rfl);refine ⟨false,eg,fun _ K hK=>?_,fun h=>absurd rfl h⟩;have e59:=tT (hA 59) (by kernel_rfl) (hpre.1 rfl);clear hA hpre;go_simp;exact hK _ _ hB rfl (fun _ _ h=>h)
      ·intro vs Wx A hA hB hpre;have eg:=tT (hA 56) (by kernel_rfl) (hpre.2.1 rfl);refine ⟨false,eg,fun _ K hK=>?_,fun h=>absurd rfl h⟩;have e60:=tT (hA 60) (by kernel_rfl) (hpre.1 rfl);obtain ⟨x0,x1,x2,x3,x4⟩:=HXn.out Wx hB;obtain ⟨y0,y1,y2,y3,y4⟩:=HXb.out Wx hB;clear hA hpre;go_simp;exact hK _ _ hB rfl (fun _ _ h=>h)
      ·intro vs Wx A hA hB hpre;have eg:=tT (hA 56) (by kernel_rfl) (hpre.1 rfl);refine ⟨false,eg,fun _ K hK=>?_,fun h=>absurd rfl h⟩;have e0:=(hA 0).trans (show _=Value.slice (some ⟨b,oo,none⟩) l.length fk by kernel_rfl);clear hA hpre;go_simp;exact hK _ _ hB rfl (fun _ _ h=>h)
      ·intro vs Wx A hA hB hpre;have eg:=tT (hA 56) (by kernel_rfl) (hpre.1 rfl);refine ⟨false,eg,fun _ K hK=>?_,fun h=>absurd rfl h⟩;have e12:=(hA 12).trans (show _=iI (bi:Nat) by kernel_rfl);clear hA hpre;go_simp;exact hK _ _ hB rfl (fun _ _ h=>h)
      ·intro vs Wx A hA hB hpre;have eg:=tT (hA 56) (by kernel_rfl) (hpre.2.2.1 rfl);refine ⟨false,eg,fun _ K hK=>?_,fun h=>absurd rfl h⟩;have e62:=tT (hA 62) (by kernel_rfl) (hpre.1 rfl);have e63:=tT (hA 63) (by kernel_rfl) (hpre.2.1 rfl);clear hA hpre;go_simp;exact hK _ _ hB rfl (fun _ _ h=>h)
      ·intro vs Wx A hA hB hpre;have eg:=tT (hA 56) (by kernel_rfl) (hpre.2.1 rfl);refine ⟨false,eg,fun _ K hK=>?_,fun h=>absurd rfl h⟩;have e64:=tT (hA 64) (by kernel_rfl) (hpre.1 rfl);clear hA hpre;go_simp;exact hK _ _ hB rfl (fun _ _ h=>h)
      ·intro vs Wx A hA hB hpre;have eg:=tT (hA 56) (by kernel_rfl) (hpre.2.1 rfl);refine ⟨false,eg,fun _ K hK=>?_,fun h=>absurd rfl h⟩;have e65:=tT (hA 65) (by kernel_rfl) (hpre.1 rfl);obtain ⟨x0,x1,x2,x3,x4⟩:=HXn.out Wx hB;obtain ⟨y0,y1,y2,y3,y4⟩:=HXb.out Wx hB;clear hA hpre;go_simp;exact hK _ _ hB rfl (fun _ _ h=>h)
      ·intro vs Wx A hA hB hpre;have eg:=tT (hA 56) (by kernel_rfl) (hpre.2.2.1 rfl);refine ⟨false,eg,fun _ K hK=>?_,fun h=>absurd rfl h⟩;have e61:=tT (hA 61) (by kernel_rfl) (hpre.1 rfl);have e66:=tT (hA 66) (by kernel_rfl) (hpre.2.1 rfl);clear hA hpre;go_simp;exact hK _ _ hB rfl (fun _ _ h=>h)
      ·intro vs Wx A hA hB hpre K hK;have e56:=tT (hA 56) (by kernel_rfl) (hpre.1 rfl);have e67:=tT (hA 67) (by kernel_rfl) (hpre.2.1 rfl);clear hA hpre;go_simp;exact hK _ _ hB rfl (fun _ _ h=>h)
      ·intro vs Wx hB hF;have hL:vs 14=.bool false:=hF 14 (by decide);have Cn:=zZ (jg Co.out hB);clear hF hB;simp only [Ri.puts];rw [hL];clear hL;go_simp;go_wp2;go_roundg (l.length - (n+1))
       case measure=>omega
       case rel=>exact ⟨n+1,(bi:Nat),rfl,by first|rfl|go_num|(congr 1;omega),by omega,rfl,Cn.out,HBe2.out⟩
  ·have hltz:¬ (n:Int) < (l.length:Int):=by omega
   have HE:Hid (Kv l k l.length bz):=by
    have e:n=l.length:=by omega
    rw [e] at HBe;exact HBe
   clear HBe;rcases HE.out with ⟨rfl,hnone⟩|⟨bi,hbi,rfl,hsome⟩
   ·have HV:Hid (wL k l=0/\wJ k l=false):=by
     show _/\_;rw [List.take_length] at hnone;unfold wL wJ wK;rw [hnone];exact ⟨rfl,rfl⟩
    clear hnone HE;go_wp2;go_ret2;exact ⟨by rw [HV.out.1,HV.out.2];first|done|rfl,Co.out⟩
   ·obtain ⟨b,oo,rfl,-,-,hcc⟩:=aU.get (HF.out.Bu Co.out) bi hbi;have HV:Hid (wL k l=l[bi].Ck/\wJ k l=true):=by
     show _/\_;rw [List.take_length] at hsome;unfold wL wJ wK;rw [hsome];exact ⟨rfl,rfl⟩
    obtain ⟨c0,c1,c2,c3,c4⟩:=hcc;generalize l[bi]=y at *;clear hsome HE;go_wp2;go_ret2;exact ⟨by rw [HV.out.1,HV.out.2];first|done|rfl,Co.out⟩
end Fe
namespace Fe
open Go.RowKit
open Wo (Wd tV jI jQ qL iU jg)
theorem IQ {o:Oper} {a:Act} {w:World} {K:Act->World->Prop} {Q:Exit->Act->World->Prop} (s x:Operand) (ho:o.op=.call { callee:=.builtin .append,args:=#[s,x],argTypes:=#[25,25] })
  (B:Nat) (v:Value) (L:List Cr) (hs:a.eval s=v) (hown:w.ownsRow B 54 5 v L.length (fcs L)) (b c:Nat) (f:Cr) (hx:a.eval x=.slice (some ⟨b,0,none⟩) 1 c)
  (hc:w.heap[b]?=some (.cells #[sS f.proc,sS f.mod,iI f.net,iI f.Ch,iI f.Ck] 54 (0,0))) (hbd:L.length<=1000000) (hB:B<=w.heap.size)
  (h:∀v' w',w'.ownsRow B 54 5 v' (L ++ [f]).length (fcs (L ++ [f]))->w.grownBy w' v.ownBlock->(v'.ownBlock=v.ownBlock ∨ v'.ownBlock=some w.heap.size)->K (a.put o.dst v') w'):o.wp Tryz.prog a w K Q:=by
 obtain ⟨i,q1,q2,q3,q4⟩:=LH;have hb0:b < w.heap.size:=(Array.getElem?_eq_some_iff.1 hc).1;refine wp_append_lies w s x 25 ho B 54 i _ 5 56 Tryz.underlying25 q1 q2 q3 q4 rfl (by omega) v L.length (fcs L) hs hown ⟨b,0,none⟩ 1 c (fc f) hx rfl (fun j u hj=>?_) (fun u hu=>Lh [f] u (by simpa [fcs,fc] using hu)) (by omega) (by unfold maxLen;omega) (by omega) hB w.heap.size rfl fun g cap w' hown' hg hat _=>?_
 ·rw [show (⟨b,0,none⟩:Addr).add j=⟨b,j,none⟩ by unfold Addr.add;split<;>simp_all];rw [cell_of_row w b j _ _ (0,0) hc];match j,hj with
  | 0,hj=>exact hj
  | 1,hj=>exact hj
  | 2,hj=>exact hj
  | 3,hj=>exact hj
  | 4,hj=>exact hj
  | n+5,hj=>simp [fc] at hj
 ·refine h _ w' (by rw [Le,List.length_append];exact hown') hg ?_;rcases hat with e|e
  ·exact Or.inl (by rw [e];rfl)
  ·exact Or.inr (by rw [e];rfl)
theorem Am {w:World} {B:Nat} {e:TypeId} {z:Nat} {v:Value} {n:Nat} {xs:List Value} (h:w.ownsRow B e z v n xs):∃a c,v=.slice a n c:=by
 rcases h.2 with ⟨rfl,rfl⟩|⟨g,c,cur,rfl,_⟩
 ·exact ⟨none,0,rfl⟩
 ·exact ⟨_,c,rfl⟩
theorem Ak {w w':World} {B:Nat} {e:TypeId} {z:Nat} {v:Value} {n:Nat} {xs:List Value} (h:w.ownsRow B e z v n xs) (hb:Below w.heap.size w w'):w'.ownsRow B e z v n xs:=by
 refine ⟨h.1,h.2.imp id ?_⟩;rintro ⟨g,c,cur,rfl,h0,hh,hr⟩;exact ⟨g,c,cur,rfl,h0,tV hh hb,hr⟩
theorem qo {w w':World} {B:Nat} {e:TypeId} {z:Nat} {v:Value} {n:Nat} {xs:List Value} (ho:w.ownsRow B e z v n xs) (hg:w.grownBy w' v.ownBlock) (hB:B<=w.heap.size):Below B w w':=
 ⟨hg.os,hg.tape,hg.output,hg.size,fun k hk=>hg.block k (by omega) (fun e=>by have:=(ho.lt k e.symm).1;omega)⟩
end Fe
namespace Ce
theorem KO (a d N N' one left x y X Y b c1 c2:Int) (he:x * d+y=a * N) (hN:N'=2 * N+b) (ha:one * d+left=a)
  (hX:X=2 * x+c1+b * one+c2) (hY:Y=2 * y - c1 * d+b * left - c2 * d):X * d+Y=a * N':=by
 have e1:X * d=2 * (x * d)+c1 * d+b * (one * d)+c2 * d:=by
  rw [hX,Int.add_mul,Int.add_mul,Int.add_mul,Int.mul_assoc 2 x d,Int.mul_assoc b one d]
 have e2:a * N'=2 * (a * N)+b * (one * d)+b * left:=by
  rw [hN,Int.mul_add,←Int.mul_assoc a 2 N,Int.mul_comm a 2,Int.mul_assoc 2 a N,Int.mul_comm a b,←ha,Int.mul_add b,ha,Int.add_assoc]
 omega
theorem KP (n:Int) (j:Nat) (n0:0<=n):n / 2 ^ j=2 * (n / 2 ^ (j+1))+(n / 2 ^ j).tmod 2/\0<=(n / 2 ^ j).tmod 2/\(n / 2 ^ j).tmod 2<=1:=by
 have h0:0<=n / 2 ^ j:=Int.ediv_nonneg n0 (Int.pow_nonneg (by omega));have e:n / 2 ^ (j+1)=n / 2 ^ j / 2:=by
  rw [Int.pow_succ,←Int.ediv_ediv_of_nonneg (Int.pow_nonneg (by omega))]
 rw [Int.tmod_eq_emod_of_nonneg h0,e];omega
theorem KJ (n:Int) (j:Nat) (n0:0<=n):n / 2 ^ j<=n:=Int.ediv_le_self _ n0
theorem KL (a n d x y:Int) (j:Nat) (ga:good a=true) (n0:0<=n) (d0:1<=d) (he:x * d+y=a * (n / 2 ^ j)) (y0:0<=y) (hx:10000000000000 < x) :
  EG a n d=0/\EF a n d=2:=by
 have a0:=((ql a).1 ga).1;have h1:a * (n / 2 ^ j)<=a * n:=Int.mul_le_mul_of_nonneg_left (KJ n j n0) a0;have h2:x<=a * n / d:=by
  rw [Int.le_ediv_iff_mul_le (by omega)];omega
 have gq:good (a * n / d)=false:=(qm _).2 (by omega);constructor
 ·unfold EG;rw [if_neg];intro h;rw [gq] at h;simp at h
 ·unfold EF;rw [if_pos ⟨ga,n0,d0⟩,if_neg];rw [gq];simp
theorem KI (a n d x y:Int) (ga:good a=true) (n0:0<=n) (d0:1<=d) (he:x * d+y=a * (n / 2 ^ 0)) (y0:0<=y) (y1:y < d) (x0:0<=x) (x1:x<=10000000000000) :
  EG a n d=x/\EF a n d=0:=by
 have e:a * n / d=x:=by
  have h:a * n=y+x * d:=by
   rw [Int.pow_zero,Int.ediv_one] at he;omega
  rw [h,Int.add_mul_ediv_right _ _ (by omega),Int.ediv_eq_zero_of_lt y0 y1];omega
 have gq:good (a * n / d)=true:=(ql _).2 (by omega);constructor
 ·unfold EG;rw [if_pos ⟨ga,n0,d0,gq⟩,e]
 ·unfold EF;rw [if_pos ⟨ga,n0,d0⟩,if_pos gq]
theorem KN (a n d:Int) (n0:0<=n) (n1:n<=9223372036854775807):0 * d+0=a * (n / 2 ^ 63):=by
 have:n / 2 ^ 63=0:=Int.ediv_eq_zero_of_lt n0 (by omega);rw [this];omega
end Ce
namespace Ce
open Go.RowKit
theorem OI (a n d:Int) (w:World) (h:¬ (good a=true/\0<=n/\1<=d)) :
  Calls Tryz.prog 98 #[iI a,iI n,iI d] w fun e w'=>e=.returned (.tuple #[iI (EG a n d),iI (EF a n d)])/\w'=w:=by
 have e1:EG a n d=0:=by unfold EG;rw [if_neg];intro hh;exact h ⟨hh.1,hh.2.1,hh.2.2.1⟩
 have e2:EF a n d=1:=by unfold EF;rw [if_neg h]
 rw [e1,e2];cases ga:good a
 ·clear h;go_enter Tryz.func98,Tryz.ntmps98
  go_wp2_with (go_at_call 52;refine (NM _ _).mono ?_;rintro e w' ⟨rfl,rfl⟩)
  go_ret2;exact ⟨rfl,rfl⟩
 ·by_cases hn:n < 0
  ·clear h;go_enter Tryz.func98,Tryz.ntmps98
   go_wp2_with (go_at_call 52;refine (NM _ _).mono ?_;rintro e w' ⟨rfl,rfl⟩)
   go_ret2;exact ⟨rfl,rfl⟩
  ·have hd:d < 1:=by
    refine Int.not_le.1 fun hh=>h ⟨ga,by omega,by omega⟩
   clear h;go_enter Tryz.func98,Tryz.ntmps98
   go_wp2_with (go_at_call 52;refine (NM _ _).mono ?_;rintro e w' ⟨rfl,rfl⟩)
   go_ret2;exact ⟨rfl,rfl⟩
theorem OJ (a n d : Int) (w : World) (ga : good a = true) (n0 : 0 ≤ n) (n1 : n ≤ 9223372036854775807) (d0 : 1 ≤ d) (d1 : d ≤ 9223372036854775807) :
    Calls Tryz.prog 98 #[iI a,iI n,iI d] w fun e w'=>e=.returned (.tuple #[iI (EG a n d),iI (EF a n d)])/\w'=w:=by
  obtain ⟨a0,a1⟩:=(ql a).1 ga;have hd:(d == 0)=false:=by simp;omega
  have o0:0<=a / d:=Int.ediv_nonneg a0 (by omega);have o1:a / d<=a:=Int.ediv_le_self d a0;have l0:0<=a % d:=Int.emod_nonneg a (by omega);have l1:a % d < d:=Int.emod_lt_of_pos a (by omega);have ho:Hid (a / d * d+a % d=a):=Int.ediv_mul_add_emod a d;go_enter Tryz.func98,Tryz.ntmps98
  go_wp2_with (go_at_call 52;refine (NM _ _).mono ?_;rintro e w' ⟨rfl,rfl⟩)
  go_loop [8,9,12] (fun q r t=>∃(k:Nat) (x y:Int),k<=63/\t=iI ((k:Int) - 1)/\q=iI x/\r=iI y/\0<=x/\x<=10000000000000/\0<=y/\y < d/\Hid (x * d+y=a * (n / 2 ^ k))) (fun _ _ t=>(intOf t+1).toNat)
  case atStart=>exact ⟨63,0,0,by omega,rfl,rfl,rfl,by omega,by omega,by omega,by omega,KN a n d n0 n1⟩
  case round =>
    obtain ⟨k,x,y,hk,rfl,rfl,rfl,x0,x1,y0,y1,he⟩:=hrel;cases k with
    | zero =>
      go_wp2;go_ret2;have hs:=KI a n d x y ga n0 d0 he.out y0 y1 x0 x1;rw [hs.1,hs.2];exact ⟨rfl,rfl⟩
    | succ j =>
      have ej:((j+1:Nat):Int) - 1=(j:Int):=by omega
      rw [ej];obtain ⟨t0,t1,t2⟩:=KP n j n0;rcases (by omega:(n / 2 ^ j).tmod 2=0 ∨ (n / 2 ^ j).tmod 2=1) with hb|hb
      · have hN:Hid (n / 2 ^ j=2 * (n / 2 ^ (j+1))+0):=by rw [hb] at t0;exact t0
        have hbt:((n / 2 ^ j).tmod 2 == 1)=false:=by rw [hb];rfl
        clear t0 t1 t2 hb;go_wp2;all_goals first
          | (go_ret2
             have hs:=KL a n d _ _ j ga n0 d0 (KO a d _ _ _ _ x y _ _ 0 1 0 he.out hN.out ho.out rfl rfl) (by omega) (by omega);rw [hs.1,hs.2];exact ⟨rfl,rfl⟩)
          | (go_ret2
             have hs:=KL a n d _ _ j ga n0 d0 (KO a d _ _ _ _ x y _ _ 0 0 0 he.out hN.out ho.out rfl rfl) (by omega) (by omega);rw [hs.1,hs.2];exact ⟨rfl,rfl⟩)
          | (go_round
             case rel=>exact ⟨j,_,_,by omega,by go_num,rfl,rfl,by omega,by omega,by omega,by omega,KO a d _ _ _ _ x y _ _ 0 1 0 he.out hN.out ho.out (by omega) (by omega)⟩
             case measure=>simp [intOf])
          | (go_round
             case rel=>exact ⟨j,_,_,by omega,by go_num,rfl,rfl,by omega,by omega,by omega,by omega,KO a d _ _ _ _ x y _ _ 0 0 0 he.out hN.out ho.out (by omega) (by omega)⟩
             case measure=>simp [intOf])
      · have hN:Hid (n / 2 ^ j=2 * (n / 2 ^ (j+1))+1):=by rw [hb] at t0;exact t0
        have hbt:((n / 2 ^ j).tmod 2 == 1)=true:=by rw [hb];rfl
        clear t0 t1 t2 hb;go_wp2;all_goals first
          | (go_ret2
             have hs:=KL a n d _ _ j ga n0 d0 (KO a d _ _ _ _ x y _ _ 1 1 1 he.out hN.out ho.out rfl rfl) (by omega) (by omega);rw [hs.1,hs.2];exact ⟨rfl,rfl⟩)
          | (go_ret2
             have hs:=KL a n d _ _ j ga n0 d0 (KO a d _ _ _ _ x y _ _ 1 1 0 he.out hN.out ho.out rfl rfl) (by omega) (by omega);rw [hs.1,hs.2];exact ⟨rfl,rfl⟩)
          | (go_ret2
             have hs:=KL a n d _ _ j ga n0 d0 (KO a d _ _ _ _ x y _ _ 1 0 1 he.out hN.out ho.out rfl rfl) (by omega) (by omega);rw [hs.1,hs.2];exact ⟨rfl,rfl⟩)
          | (go_ret2
             have hs:=KL a n d _ _ j ga n0 d0 (KO a d _ _ _ _ x y _ _ 1 0 0 he.out hN.out ho.out rfl rfl) (by omega) (by omega);rw [hs.1,hs.2];exact ⟨rfl,rfl⟩)
          | (go_round
             case rel=>exact ⟨j,_,_,by omega,by go_num,rfl,rfl,by omega,by omega,by omega,by omega,KO a d _ _ _ _ x y _ _ 1 1 1 he.out hN.out ho.out (by omega) (by omega)⟩
             case measure=>simp [intOf])
          | (go_round
             case rel=>exact ⟨j,_,_,by omega,by go_num,rfl,rfl,by omega,by omega,by omega,by omega,KO a d _ _ _ _ x y _ _ 1 1 0 he.out hN.out ho.out (by omega) (by omega)⟩
             case measure=>simp [intOf])
          | (go_round
             case rel=>exact ⟨j,_,_,by omega,by go_num,rfl,rfl,by omega,by omega,by omega,by omega,KO a d _ _ _ _ x y _ _ 1 0 1 he.out hN.out ho.out (by omega) (by omega)⟩
             case measure=>simp [intOf])
          | (go_round
             case rel=>exact ⟨j,_,_,by omega,by go_num,rfl,rfl,by omega,by omega,by omega,by omega,KO a d _ _ _ _ x y _ _ 1 0 0 he.out hN.out ho.out (by omega) (by omega)⟩
             case measure=>simp [intOf])
theorem OH (a n d:Int) (w:World) (n1:n<=9223372036854775807) (d1:d<=9223372036854775807) :
  Calls Tryz.prog 98 #[iI a,iI n,iI d] w fun e w'=>e=.returned (.tuple #[iI (EG a n d),iI (EF a n d)])/\w'=w:=by
 by_cases h:good a=true/\0<=n/\1<=d
 ·exact OJ a n d w h.1 h.2.1 n1 h.2.2 d1
 ·exact OI a n d w h
end Ce
end Go.Proofs.YtfbfeoplldjbpaaGreatDoor
