/-
  Texts put together (merge.py): ZRow.
-/
import Derived.Test.YtfbfeoplldjbpaaGreatDoorMd16
set_option linter.unusedSimpArgs false
set_option linter.unusedVariables false
set_option maxHeartbeats 16000000
set_option maxRecDepth 100000
namespace Go.Proofs.YtfbfeoplldjbpaaGreatDoor
namespace Fe
open Go.RowKit
open Wo (tV jI jQ qL iU jg)
def aT (f:Cr):Prop:=(f.proc.length<=281474976710656/\f.mod.length<=281474976710656)/\(-9223372036854775808<=f.net/\f.net<=9223372036854775807)/\(-9223372036854775808<=f.Ch/\f.Ch<=9223372036854775807)/\(-9223372036854775808<=f.Ck/\f.Ck<=9223372036854775807)
theorem xE (s:Tx):(mk s).toList.isEmpty=decide (s=[]):=by
 rw [xJ];cases s<;>simp
theorem BH (s:Tx) (w:World) (hs:s.length<=9223372036854775807):Calls Tryz.prog 105 #[.string (mk s)] w fun e w'=>e=.returned (.bool (Cm.lM s 5 5))/\w'=w:=by
 go_enter Tryz.func105,Tryz.ntmps105
 go_wp2_with (go_at_call 116;refine (Cm.lN s 5 5 _ hs).mono ?_;rintro e w' ⟨rfl,rfl⟩)
 go_ret;exact ⟨rfl,rfl⟩
theorem xP (s:Tx) (w:World) (hs:s.length<=9223372036854775807):Calls Tryz.prog 106 #[.string (mk s)] w fun e w'=>e=.returned (.bool (Cm.lM s 2 2))/\w'=w:=by
 go_enter Tryz.func106,Tryz.ntmps106
 go_wp2_with (go_at_call 116;refine (Cm.lN s 2 2 _ hs).mono ?_;rintro e w' ⟨rfl,rfl⟩)
 go_ret;exact ⟨rfl,rfl⟩
theorem yO {f:Cr} (h:(Cm.lM f.proc 5 5 && (decide (f.mod=[]) || Cm.lM f.mod 2 2))=false):yQ f=9:=by unfold yQ;rw [h];rfl
theorem yL {f:Cr} (h:(Cm.lM f.proc 5 5 && (decide (f.mod=[]) || Cm.lM f.mod 2 2))=true) (h1:¬ (0<=f.net/\f.net<=1)):yQ f=3:=by unfold yQ;rw [if_pos h,if_neg h1]
theorem yM {f:Cr} (h:(Cm.lM f.proc 5 5 && (decide (f.mod=[]) || Cm.lM f.mod 2 2))=true) (h1:0<=f.net/\f.net<=1) (h2:Da.good f.Ch=false):yQ f=7:=by unfold yQ;rw [if_pos h,if_pos h1,if_neg (by rw [h2];decide)]
theorem yN {f:Cr} (h:(Cm.lM f.proc 5 5 && (decide (f.mod=[]) || Cm.lM f.mod 2 2))=true) (h1:0<=f.net/\f.net<=1) (h2:Da.good f.Ch=true) (h3:Ce.good f.Ck=false):yQ f=8:=by unfold yQ;rw [if_pos h,if_pos h1,if_pos h2];exact if_neg (by show ¬ Ce.good f.Ck=true;rw [h3];decide)
theorem yK {f:Cr} (h:(Cm.lM f.proc 5 5 && (decide (f.mod=[]) || Cm.lM f.mod 2 2))=true) (h1:0<=f.net/\f.net<=1) (h2:Da.good f.Ch=true) (h3:Ce.good f.Ck=true):yQ f=0:=by unfold yQ;rw [if_pos h,if_pos h1,if_pos h2];exact if_pos h3
theorem DX (f:Cr) (hf:aT f) (w:World) (hT:Da.Tab w):Calls Tryz.prog 64 #[fev f] w fun e w'=>e=.returned (iI (yQ f))/\Below w.heap.size w w':=by
 obtain ⟨⟨z1,z2⟩,-,⟨z3,z4⟩,-⟩:=hf;have z1:f.proc.length<=9223372036854775807:=by omega
 have z2:f.mod.length<=9223372036854775807:=by omega
 have HB:=zZ fun o=>iU w o;have HX:=zZ fun W' (hW:Below (w.alloc (.cells #[.string (mk f.proc),.string (mk f.mod),iI f.net,iI f.Ch,iI f.Ck] 54)).heap.size (w.alloc (.cells #[.string (mk f.proc),.string (mk f.mod),iI f.net,iI f.Ch,iI f.Ck] 54)) W')=>cells5 (tV (heap_alloc_new w (.cells #[.string (mk f.proc),.string (mk f.mod),iI f.net,iI f.Ch,iI f.Ck] 54)) hW);have HBR:=zZ fun W' (hW:Below (w.alloc (.cells #[.string (mk f.proc),.string (mk f.mod),iI f.net,iI f.Ch,iI f.Ck] 54)).heap.size (w.alloc (.cells #[.string (mk f.proc),.string (mk f.mod),iI f.net,iI f.Ch,iI f.Ck] 54)) W')=>jg (iU w _) hW;have HD:=zZ fun w' (hb:Below w.heap.size w w')=>Da.qh f.Ch w' (Cm.gP hT hb) z3 z4;clear hT;cases h1:Cm.lM f.proc 5 5
 ·have hc:(Cm.lM f.proc 5 5 && (decide (f.mod=[]) || Cm.lM f.mod 2 2))=false:=by rw [h1];rfl
  rw [yO hc];clear hc;go_enter Tryz.func64,Tryz.ntmps64
  go_wp2_with (first|(go_at_call 105;refine (BH _ _ (by assumption)).mono ?_;rintro e w' ⟨rfl,rfl⟩)|(go_at_call 106;refine (xP _ _ (by assumption)).mono ?_;rintro e w' ⟨rfl,rfl⟩)|(go_at_call 107;refine (HD.out _ (HB.out _)).mono ?_;rintro e w3 ⟨rfl,rfl⟩)|(go_at_call 76;refine (Ce.qh _ _).mono ?_;rintro e w4 ⟨rfl,rfl⟩))
  go_ret;exact ⟨rfl,HB.out _⟩
 by_cases hm:f.mod=[]
 ·have hme:(mk f.mod).toList.isEmpty=true:=by rw [xE];exact decide_eq_true hm
  have hc:(Cm.lM f.proc 5 5 && (decide (f.mod=[]) || Cm.lM f.mod 2 2))=true:=by rw [h1,decide_eq_true hm];rfl
  clear hm;by_cases k0:f.net=0
  ·have q0:(f.net != 0)=false:=by rw [k0];rfl
   have hn:0<=f.net/\f.net<=1:=by omega
   clear k0;cases h5:Da.good f.Ch
   ·rw [yM hc hn h5];clear hc hn;go_enter Tryz.func64,Tryz.ntmps64
    go_wp2_with (first|(go_at_call 105;refine (BH _ _ (by assumption)).mono ?_;rintro e w' ⟨rfl,rfl⟩)|(go_at_call 106;refine (xP _ _ (by assumption)).mono ?_;rintro e w' ⟨rfl,rfl⟩)|(go_at_call 107;refine (HD.out _ (HB.out _)).mono ?_;rintro e w3 ⟨rfl,rfl⟩)|(go_at_call 76;refine (Ce.qh _ _).mono ?_;rintro e w4 ⟨rfl,rfl⟩))
    go_ret;exact ⟨rfl,HB.out _⟩
   cases h6:Ce.good f.Ck
   ·rw [yN hc hn h5 h6];clear hc hn;go_enter Tryz.func64,Tryz.ntmps64
    go_wp2_with (first|(go_at_call 105;refine (BH _ _ (by assumption)).mono ?_;rintro e w' ⟨rfl,rfl⟩)|(go_at_call 106;refine (xP _ _ (by assumption)).mono ?_;rintro e w' ⟨rfl,rfl⟩)|(go_at_call 107;refine (HD.out _ (HB.out _)).mono ?_;rintro e w3 ⟨rfl,rfl⟩)|(go_at_call 76;refine (Ce.qh _ _).mono ?_;rintro e w4 ⟨rfl,rfl⟩))
    go_ret;exact ⟨rfl,HB.out _⟩
   rw [yK hc hn h5 h6];clear hc hn;go_enter Tryz.func64,Tryz.ntmps64
   go_wp2_with (first|(go_at_call 105;refine (BH _ _ (by assumption)).mono ?_;rintro e w' ⟨rfl,rfl⟩)|(go_at_call 106;refine (xP _ _ (by assumption)).mono ?_;rintro e w' ⟨rfl,rfl⟩)|(go_at_call 107;refine (HD.out _ (HB.out _)).mono ?_;rintro e w3 ⟨rfl,rfl⟩)|(go_at_call 76;refine (Ce.qh _ _).mono ?_;rintro e w4 ⟨rfl,rfl⟩))
   go_ret;exact ⟨rfl,HB.out _⟩
  have q0:(f.net != 0)=true:=by simpa using k0
  by_cases k1:f.net=1
  ·have q1:(f.net != 1)=false:=by rw [k1];rfl
   have hn:0<=f.net/\f.net<=1:=by omega
   clear k0 k1;cases h5:Da.good f.Ch
   ·rw [yM hc hn h5];clear hc hn;go_enter Tryz.func64,Tryz.ntmps64
    go_wp2_with (first|(go_at_call 105;refine (BH _ _ (by assumption)).mono ?_;rintro e w' ⟨rfl,rfl⟩)|(go_at_call 106;refine (xP _ _ (by assumption)).mono ?_;rintro e w' ⟨rfl,rfl⟩)|(go_at_call 107;refine (HD.out _ (HB.out _)).mono ?_;rintro e w3 ⟨rfl,rfl⟩)|(go_at_call 76;refine (Ce.qh _ _).mono ?_;rintro e w4 ⟨rfl,rfl⟩))
    go_ret;exact ⟨rfl,HB.out _⟩
   cases h6:Ce.good f.Ck
   ·rw [yN hc hn h5 h6];clear hc hn;go_enter Tryz.func64,Tryz.ntmps64
    go_wp2_with (first|(go_at_call 105;refine (BH _ _ (by assumption)).mono ?_;rintro e w' ⟨rfl,rfl⟩)|(go_at_call 106;refine (xP _ _ (by assumption)).mono ?_;rintro e w' ⟨rfl,rfl⟩)|(go_at_call 107;refine (HD.out _ (HB.out _)).mono ?_;rintro e w3 ⟨rfl,rfl⟩)|(go_at_call 76;refine (Ce.qh _ _).mono ?_;rintro e w4 ⟨rfl,rfl⟩))
    go_ret;exact ⟨rfl,HB.out _⟩
   rw [yK hc hn h5 h6];clear hc hn;go_enter Tryz.func64,Tryz.ntmps64
   go_wp2_with (first|(go_at_call 105;refine (BH _ _ (by assumption)).mono ?_;rintro e w' ⟨rfl,rfl⟩)|(go_at_call 106;refine (xP _ _ (by assumption)).mono ?_;rintro e w' ⟨rfl,rfl⟩)|(go_at_call 107;refine (HD.out _ (HB.out _)).mono ?_;rintro e w3 ⟨rfl,rfl⟩)|(go_at_call 76;refine (Ce.qh _ _).mono ?_;rintro e w4 ⟨rfl,rfl⟩))
   go_ret;exact ⟨rfl,HB.out _⟩
  have q1:(f.net != 1)=true:=by simpa using k1
  have hn:¬ (0<=f.net/\f.net<=1):=by omega
  clear k0 k1;rw [yL hc hn];clear hc hn;go_enter Tryz.func64,Tryz.ntmps64
  go_wp2_with (first|(go_at_call 105;refine (BH _ _ (by assumption)).mono ?_;rintro e w' ⟨rfl,rfl⟩)|(go_at_call 106;refine (xP _ _ (by assumption)).mono ?_;rintro e w' ⟨rfl,rfl⟩)|(go_at_call 107;refine (HD.out _ (HB.out _)).mono ?_;rintro e w3 ⟨rfl,rfl⟩)|(go_at_call 76;refine (Ce.qh _ _).mono ?_;rintro e w4 ⟨rfl,rfl⟩))
  go_ret;exact ⟨rfl,HB.out _⟩
 have hme:(mk f.mod).toList.isEmpty=false:=by rw [xE];exact decide_eq_false hm
 cases h3:Cm.lM f.mod 2 2
 ·have hc:(Cm.lM f.proc 5 5 && (decide (f.mod=[]) || Cm.lM f.mod 2 2))=false:=by rw [h1,h3,decide_eq_false hm];rfl
  clear hm;rw [yO hc];clear hc;go_enter Tryz.func64,Tryz.ntmps64
  go_wp2_with (first|(go_at_call 105;refine (BH _ _ (by assumption)).mono ?_;rintro e w' ⟨rfl,rfl⟩)|(go_at_call 106;refine (xP _ _ (by assumption)).mono ?_;rintro e w' ⟨rfl,rfl⟩)|(go_at_call 107;refine (HD.out _ (HB.out _)).mono ?_;rintro e w3 ⟨rfl,rfl⟩)|(go_at_call 76;refine (Ce.qh _ _).mono ?_;rintro e w4 ⟨rfl,rfl⟩))
  go_ret;exact ⟨rfl,HB.out _⟩
 have hc:(Cm.lM f.proc 5 5 && (decide (f.mod=[]) || Cm.lM f.mod 2 2))=true:=by rw [h1,h3];simp
 clear hm;by_cases k0:f.net=0
 ·have q0:(f.net != 0)=false:=by rw [k0];rfl
  have hn:0<=f.net/\f.net<=1:=by omega
  clear k0;cases h5:Da.good f.Ch
  ·rw [yM hc hn h5];clear hc hn;go_enter Tryz.func64,Tryz.ntmps64
   go_wp2_with (first|(go_at_call 105;refine (BH _ _ (by assumption)).mono ?_;rintro e w' ⟨rfl,rfl⟩)|(go_at_call 106;refine (xP _ _ (by assumption)).mono ?_;rintro e w' ⟨rfl,rfl⟩)|(go_at_call 107;refine (HD.out _ (HB.out _)).mono ?_;rintro e w3 ⟨rfl,rfl⟩)|(go_at_call 76;refine (Ce.qh _ _).mono ?_;rintro e w4 ⟨rfl,rfl⟩))
   go_ret;exact ⟨rfl,HB.out _⟩
  cases h6:Ce.good f.Ck
  ·rw [yN hc hn h5 h6];clear hc hn;go_enter Tryz.func64,Tryz.ntmps64
   go_wp2_with (first|(go_at_call 105;refine (BH _ _ (by assumption)).mono ?_;rintro e w' ⟨rfl,rfl⟩)|(go_at_call 106;refine (xP _ _ (by assumption)).mono ?_;rintro e w' ⟨rfl,rfl⟩)|(go_at_call 107;refine (HD.out _ (HB.out _)).mono ?_;rintro e w3 ⟨rfl,rfl⟩)|(go_at_call 76;refine (Ce.qh _ _).mono ?_;rintro e w4 ⟨rfl,rfl⟩))
   go_ret;exact ⟨rfl,HB.out _⟩
  rw [yK hc hn h5 h6];clear hc hn;go_enter Tryz.func64,Tryz.ntmps64
  go_wp2_with (first|(go_at_call 105;refine (BH _ _ (by assumption)).mono ?_;rintro e w' ⟨rfl,rfl⟩)|(go_at_call 106;refine (xP _ _ (by assumption)).mono ?_;rintro e w' ⟨rfl,rfl⟩)|(go_at_call 107;refine (HD.out _ (HB.out _)).mono ?_;rintro e w3 ⟨rfl,rfl⟩)|(go_at_call 76;refine (Ce.qh _ _).mono ?_;rintro e w4 ⟨rfl,rfl⟩))
  go_ret;exact ⟨rfl,HB.out _⟩
 have q0:(f.net != 0)=true:=by simpa using k0
 by_cases k1:f.net=1
 ·have q1:(f.net != 1)=false:=by rw [k1];rfl
  have hn:0<=f.net/\f.net<=1:=by omega
  clear k0 k1;cases h5:Da.good f.Ch
  ·rw [yM hc hn h5];clear hc hn;go_enter Tryz.func64,Tryz.ntmps64
   go_wp2_with (first|(go_at_call 105;refine (BH _ _ (by assumption)).mono ?_;rintro e w' ⟨rfl,rfl⟩)|(go_at_call 106;refine (xP _ _ (by assumption)).mono ?_;rintro e w' ⟨rfl,rfl⟩)|(go_at_call 107;refine (HD.out _ (HB.out _)).mono ?_;rintro e w3 ⟨rfl,rfl⟩)|(go_at_call 76;refine (Ce.qh _ _).mono ?_;rintro e w4 ⟨rfl,rfl⟩))
   go_ret;exact ⟨rfl,HB.out _⟩
  cases h6:Ce.good f.Ck
  ·rw [yN hc hn h5 h6];clear hc hn;go_enter Tryz.func64,Tryz.ntmps64
   go_wp2_with (first|(go_at_call 105;refine (BH _ _ (by assumption)).mono ?_;rintro e w' ⟨rfl,rfl⟩)|(go_at_call 106;refine (xP _ _ (by assumption)).mono ?_;rintro e w' ⟨rfl,rfl⟩)|(go_at_call 107;refine (HD.out _ (HB.out _)).mono ?_;rintro e w3 ⟨rfl,rfl⟩)|(go_at_call 76;refine (Ce.qh _ _).mono ?_;rintro e w4 ⟨rfl,rfl⟩))
   go_ret;exact ⟨rfl,HB.out _⟩
  rw [yK hc hn h5 h6];clear hc hn;go_enter Tryz.func64,Tryz.ntmps64
  go_wp2_with (first|(go_at_call 105;refine (BH _ _ (by assumption)).mono ?_;rintro e w' ⟨rfl,rfl⟩)|(go_at_call 106;refine (xP _ _ (by assumption)).mono ?_;rintro e w' ⟨rfl,rfl⟩)|(go_at_call 107;refine (HD.out _ (HB.out _)).mono ?_;rintro e w3 ⟨rfl,rfl⟩)|(go_at_call 76;refine (Ce.qh _ _).mono ?_;rintro e w4 ⟨rfl,rfl⟩))
  go_ret;exact ⟨rfl,HB.out _⟩
 have q1:(f.net != 1)=true:=by simpa using k1
 have hn:¬ (0<=f.net/\f.net<=1):=by omega
 clear k0 k1;rw [yL hc hn];clear hc hn;go_enter Tryz.func64,Tryz.ntmps64
 go_wp2_with (first|(go_at_call 105;refine (BH _ _ (by assumption)).mono ?_;rintro e w' ⟨rfl,rfl⟩)|(go_at_call 106;refine (xP _ _ (by assumption)).mono ?_;rintro e w' ⟨rfl,rfl⟩)|(go_at_call 107;refine (HD.out _ (HB.out _)).mono ?_;rintro e w3 ⟨rfl,rfl⟩)|(go_at_call 76;refine (Ce.qh _ _).mono ?_;rintro e w4 ⟨rfl,rfl⟩))
 go_ret;exact ⟨rfl,HB.out _⟩
theorem Oo (f:Cr) (hf:aT f) (w:World):Calls Tryz.prog 68 #[fev f] w fun e w'=>e=.returned (iI (yQ f))/\Below w.heap.size w w':=by
 obtain ⟨⟨z1,z2⟩,-,⟨z3,z4⟩,-⟩:=hf;have z1:f.proc.length<=9223372036854775807:=by omega
 have z2:f.mod.length<=9223372036854775807:=by omega
 have HB:=zZ fun o=>iU w o;have HX:=zZ fun W' (hW:Below (w.alloc (.cells #[.string (mk f.proc),.string (mk f.mod),iI f.net,iI f.Ch,iI f.Ck] 54)).heap.size (w.alloc (.cells #[.string (mk f.proc),.string (mk f.mod),iI f.net,iI f.Ch,iI f.Ck] 54)) W')=>cells5 (tV (heap_alloc_new w (.cells #[.string (mk f.proc),.string (mk f.mod),iI f.net,iI f.Ch,iI f.Ck] 54)) hW);have HBR:=zZ fun W' (hW:Below (w.alloc (.cells #[.string (mk f.proc),.string (mk f.mod),iI f.net,iI f.Ch,iI f.Ck] 54)).heap.size (w.alloc (.cells #[.string (mk f.proc),.string (mk f.mod),iI f.net,iI f.Ch,iI f.Ck] 54)) W')=>jg (iU w _) hW;have HD:=zZ fun w'=>Da.NP f.Ch w';cases h1:Cm.lM f.proc 5 5
 ·have hc:(Cm.lM f.proc 5 5 && (decide (f.mod=[]) || Cm.lM f.mod 2 2))=false:=by rw [h1];rfl
  rw [yO hc];clear hc;go_enter Tryz.func68,Tryz.ntmps68
  go_wp2_with (first|(go_at_call 50;refine (Cm.NG _ _ _ _ (by assumption)).mono ?_;rintro e w' ⟨rfl,rfl⟩)|(go_at_call 115;refine (HD.out _).mono ?_;rintro e w3 ⟨rfl,hb⟩;obtain ⟨c0,c1,c2,c3,c4⟩:=HX.out _ hb;have Cn:=zZ (HBR.out _ hb);clear hb)|(go_at_call 52;refine (Ce.NM _ _).mono ?_;rintro e w4 ⟨rfl,rfl⟩))
  go_ret;exact ⟨rfl,HB.out _⟩
 by_cases hm:f.mod=[]
 ·have hme:(mk f.mod).toList.isEmpty=true:=by rw [xE];exact decide_eq_true hm
  have hc:(Cm.lM f.proc 5 5 && (decide (f.mod=[]) || Cm.lM f.mod 2 2))=true:=by rw [h1,decide_eq_true hm];rfl
  clear hm;by_cases q0:f.net < 0
  ·rw [yL hc (by omega)];clear hc;go_enter Tryz.func68,Tryz.ntmps68
   go_wp2_with (first|(go_at_call 50;refine (Cm.NG _ _ _ _ (by assumption)).mono ?_;rintro e w' ⟨rfl,rfl⟩)|(go_at_call 115;refine (HD.out _).mono ?_;rintro e w3 ⟨rfl,hb⟩;obtain ⟨c0,c1,c2,c3,c4⟩:=HX.out _ hb;have Cn:=zZ (HBR.out _ hb);clear hb)|(go_at_call 52;refine (Ce.NM _ _).mono ?_;rintro e w4 ⟨rfl,rfl⟩))
   go_ret;exact ⟨rfl,HB.out _⟩
  by_cases q1:1 < f.net
  ·rw [yL hc (by omega)];clear hc;go_enter Tryz.func68,Tryz.ntmps68
   go_wp2_with (first|(go_at_call 50;refine (Cm.NG _ _ _ _ (by assumption)).mono ?_;rintro e w' ⟨rfl,rfl⟩)|(go_at_call 115;refine (HD.out _).mono ?_;rintro e w3 ⟨rfl,hb⟩;obtain ⟨c0,c1,c2,c3,c4⟩:=HX.out _ hb;have Cn:=zZ (HBR.out _ hb);clear hb)|(go_at_call 52;refine (Ce.NM _ _).mono ?_;rintro e w4 ⟨rfl,rfl⟩))
   go_ret;exact ⟨rfl,HB.out _⟩
  have hn:0<=f.net/\f.net<=1:=by omega
  cases h5:Da.good f.Ch
  ·rw [yM hc hn h5];clear hc hn;go_enter Tryz.func68,Tryz.ntmps68
   go_wp2_with (first|(go_at_call 50;refine (Cm.NG _ _ _ _ (by assumption)).mono ?_;rintro e w' ⟨rfl,rfl⟩)|(go_at_call 115;refine (HD.out _).mono ?_;rintro e w3 ⟨rfl,hb⟩;obtain ⟨c0,c1,c2,c3,c4⟩:=HX.out _ hb;have Cn:=zZ (HBR.out _ hb);clear hb)|(go_at_call 52;refine (Ce.NM _ _).mono ?_;rintro e w4 ⟨rfl,rfl⟩))
   go_ret;exact ⟨rfl,Cn.out⟩
  cases h6:Ce.good f.Ck
  ·rw [yN hc hn h5 h6];clear hc hn;go_enter Tryz.func68,Tryz.ntmps68
   go_wp2_with (first|(go_at_call 50;refine (Cm.NG _ _ _ _ (by assumption)).mono ?_;rintro e w' ⟨rfl,rfl⟩)|(go_at_call 115;refine (HD.out _).mono ?_;rintro e w3 ⟨rfl,hb⟩;obtain ⟨c0,c1,c2,c3,c4⟩:=HX.out _ hb;have Cn:=zZ (HBR.out _ hb);clear hb)|(go_at_call 52;refine (Ce.NM _ _).mono ?_;rintro e w4 ⟨rfl,rfl⟩))
   go_ret;exact ⟨rfl,Cn.out⟩
  rw [yK hc hn h5 h6];clear hc hn;go_enter Tryz.func68,Tryz.ntmps68
  go_wp2_with (first|(go_at_call 50;refine (Cm.NG _ _ _ _ (by assumption)).mono ?_;rintro e w' ⟨rfl,rfl⟩)|(go_at_call 115;refine (HD.out _).mono ?_;rintro e w3 ⟨rfl,hb⟩;obtain ⟨c0,c1,c2,c3,c4⟩:=HX.out _ hb;have Cn:=zZ (HBR.out _ hb);clear hb)|(go_at_call 52;refine (Ce.NM _ _).mono ?_;rintro e w4 ⟨rfl,rfl⟩))
  go_ret;exact ⟨rfl,Cn.out⟩
 have hme:(mk f.mod).toList.isEmpty=false:=by rw [xE];exact decide_eq_false hm
 cases h3:Cm.lM f.mod 2 2
 ·have hc:(Cm.lM f.proc 5 5 && (decide (f.mod=[]) || Cm.lM f.mod 2 2))=false:=by rw [h1,h3,decide_eq_false hm];rfl
  clear hm;rw [yO hc];clear hc;go_enter Tryz.func68,Tryz.ntmps68
  go_wp2_with (first|(go_at_call 50;refine (Cm.NG _ _ _ _ (by assumption)).mono ?_;rintro e w' ⟨rfl,rfl⟩)|(go_at_call 115;refine (HD.out _).mono ?_;rintro e w3 ⟨rfl,hb⟩;obtain ⟨c0,c1,c2,c3,c4⟩:=HX.out _ hb;have Cn:=zZ (HBR.out _ hb);clear hb)|(go_at_call 52;refine (Ce.NM _ _).mono ?_;rintro e w4 ⟨rfl,rfl⟩))
  go_ret;exact ⟨rfl,HB.out _⟩
 have hc:(Cm.lM f.proc 5 5 && (decide (f.mod=[]) || Cm.lM f.mod 2 2))=true:=by rw [h1,h3];simp
 clear hm;by_cases q0:f.net < 0
 ·rw [yL hc (by omega)];clear hc;go_enter Tryz.func68,Tryz.ntmps68
  go_wp2_with (first|(go_at_call 50;refine (Cm.NG _ _ _ _ (by assumption)).mono ?_;rintro e w' ⟨rfl,rfl⟩)|(go_at_call 115;refine (HD.out _).mono ?_;rintro e w3 ⟨rfl,hb⟩;obtain ⟨c0,c1,c2,c3,c4⟩:=HX.out _ hb;have Cn:=zZ (HBR.out _ hb);clear hb)|(go_at_call 52;refine (Ce.NM _ _).mono ?_;rintro e w4 ⟨rfl,rfl⟩))
  go_ret;exact ⟨rfl,HB.out _⟩
 by_cases q1:1 < f.net
 ·rw [yL hc (by omega)];clear hc;go_enter Tryz.func68,Tryz.ntmps68
  go_wp2_with (first|(go_at_call 50;refine (Cm.NG _ _ _ _ (by assumption)).mono ?_;rintro e w' ⟨rfl,rfl⟩)|(go_at_call 115;refine (HD.out _).mono ?_;rintro e w3 ⟨rfl,hb⟩;obtain ⟨c0,c1,c2,c3,c4⟩:=HX.out _ hb;have Cn:=zZ (HBR.out _ hb);clear hb)|(go_at_call 52;refine (Ce.NM _ _).mono ?_;rintro e w4 ⟨rfl,rfl⟩))
  go_ret;exact ⟨rfl,HB.out _⟩
 have hn:0<=f.net/\f.net<=1:=by omega
 cases h5:Da.good f.Ch
 ·rw [yM hc hn h5];clear hc hn;go_enter Tryz.func68,Tryz.ntmps68
  go_wp2_with (first|(go_at_call 50;refine (Cm.NG _ _ _ _ (by assumption)).mono ?_;rintro e w' ⟨rfl,rfl⟩)|(go_at_call 115;refine (HD.out _).mono ?_;rintro e w3 ⟨rfl,hb⟩;obtain ⟨c0,c1,c2,c3,c4⟩:=HX.out _ hb;have Cn:=zZ (HBR.out _ hb);clear hb)|(go_at_call 52;refine (Ce.NM _ _).mono ?_;rintro e w4 ⟨rfl,rfl⟩))
  go_ret;exact ⟨rfl,Cn.out⟩
 cases h6:Ce.good f.Ck
 ·rw [yN hc hn h5 h6];clear hc hn;go_enter Tryz.func68,Tryz.ntmps68
  go_wp2_with (first|(go_at_call 50;refine (Cm.NG _ _ _ _ (by assumption)).mono ?_;rintro e w' ⟨rfl,rfl⟩)|(go_at_call 115;refine (HD.out _).mono ?_;rintro e w3 ⟨rfl,hb⟩;obtain ⟨c0,c1,c2,c3,c4⟩:=HX.out _ hb;have Cn:=zZ (HBR.out _ hb);clear hb)|(go_at_call 52;refine (Ce.NM _ _).mono ?_;rintro e w4 ⟨rfl,rfl⟩))
  go_ret;exact ⟨rfl,Cn.out⟩
 rw [yK hc hn h5 h6];clear hc hn;go_enter Tryz.func68,Tryz.ntmps68
 go_wp2_with (first|(go_at_call 50;refine (Cm.NG _ _ _ _ (by assumption)).mono ?_;rintro e w' ⟨rfl,rfl⟩)|(go_at_call 115;refine (HD.out _).mono ?_;rintro e w3 ⟨rfl,hb⟩;obtain ⟨c0,c1,c2,c3,c4⟩:=HX.out _ hb;have Cn:=zZ (HBR.out _ hb);clear hb)|(go_at_call 52;refine (Ce.NM _ _).mono ?_;rintro e w4 ⟨rfl,rfl⟩))
 go_ret;exact ⟨rfl,Cn.out⟩
theorem Ky (a b:Cr):dR a b=if ((mk a.proc).toList == (mk b.proc).toList)=true then (if ((mk a.mod).toList == (mk b.mod).toList)=true then (if (a.net == b.net)=true then decide (a.Ch < b.Ch) else decide (a.net < b.net)) else Op.bytesLess (mk a.mod).toList (mk b.mod).toList) else Op.bytesLess (mk a.proc).toList (mk b.proc).toList:=by
 unfold dR uY;rw [xH,xH,xJ,xJ,xJ,xJ];simp only [decide_eq_true_eq,beq_iff_eq]
theorem MS (a b:Cr) (w:World):Calls Tryz.prog 69 #[fev a,fev b] w fun e w'=>e=.returned (.bool (dR a b))/\Below w.heap.size w w':=by
 have HB:Hid (∀o o',Below w.heap.size w ((w.alloc o).alloc o')):=fun o o'=>jg (iU _ _) (iU _ _);rw [Ky];cases e1:((mk a.proc).toList == (mk b.proc).toList)
 ·have q1:(if false=true then (if ((mk a.mod).toList == (mk b.mod).toList)=true then (if (a.net == b.net)=true then decide (a.Ch < b.Ch) else decide (a.net < b.net)) else Op.bytesLess (mk a.mod).toList (mk b.mod).toList) else Op.bytesLess (mk a.proc).toList (mk b.proc).toList)=Op.bytesLess (mk a.proc).toList (mk b.proc).toList:=rfl;rw [q1];clear q1;go_enter Tryz.func69,Tryz.ntmps69
  go_wp2;go_ret;exact ⟨rfl,HB.out _ _⟩
 cases e2:((mk a.mod).toList == (mk b.mod).toList)
 ·have q1:(if true=true then (if false=true then (if (a.net == b.net)=true then decide (a.Ch < b.Ch) else decide (a.net < b.net)) else Op.bytesLess (mk a.mod).toList (mk b.mod).toList) else Op.bytesLess (mk a.proc).toList (mk b.proc).toList)=Op.bytesLess (mk a.mod).toList (mk b.mod).toList:=rfl;rw [q1];clear q1;go_enter Tryz.func69,Tryz.ntmps69
  go_wp2;go_ret;exact ⟨rfl,HB.out _ _⟩
 cases e3:(a.net == b.net)
 ·have q1:(if true=true then (if true=true then (if false=true then decide (a.Ch < b.Ch) else decide (a.net < b.net)) else Op.bytesLess (mk a.mod).toList (mk b.mod).toList) else Op.bytesLess (mk a.proc).toList (mk b.proc).toList)=decide (a.net < b.net):=rfl;rw [q1];have e3':(a.net != b.net)=true:=by rw [bne,e3];rfl
  clear q1 e3;go_enter Tryz.func69,Tryz.ntmps69
  go_wp2;go_ret;exact ⟨rfl,HB.out _ _⟩
 ·have q1:(if true=true then (if true=true then (if true=true then decide (a.Ch < b.Ch) else decide (a.net < b.net)) else Op.bytesLess (mk a.mod).toList (mk b.mod).toList) else Op.bytesLess (mk a.proc).toList (mk b.proc).toList)=decide (a.Ch < b.Ch):=rfl;rw [q1];have e3':(a.net != b.net)=false:=by rw [bne,e3];rfl
  clear q1 e3;go_enter Tryz.func69,Tryz.ntmps69
  go_wp2;go_ret;exact ⟨rfl,HB.out _ _⟩
end Fe
end Go.Proofs.YtfbfeoplldjbpaaGreatDoor
