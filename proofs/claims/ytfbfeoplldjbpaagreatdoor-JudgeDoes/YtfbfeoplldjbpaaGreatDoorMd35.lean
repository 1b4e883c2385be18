/-
  Texts put together (merge.py): LHead, CSums, LTot, LCheck, YChk.
-/
import Derived.Deep.OwnRows
import Derived.Test.YtfbfeoplldjbpaaGreatDoorMd34
set_option linter.unusedSimpArgs false
set_option linter.unusedVariables false
set_option maxHeartbeats 16000000
set_option maxRecDepth 100000
namespace Go.Proofs.YtfbfeoplldjbpaaGreatDoor
namespace Cm
open Go.RowKit
theorem xG (s:Tx):(mk s).toList.isEmpty=decide (s=[]):=by
 rw [Lib.toList_data,xI];rw [Bool.eq_iff_iff];simp
theorem Dv (c:Cl) (m:Value) (w:World) (hm:∃a n k,m=.slice a n k) (hz:c.ref.length<=281474976710656) :
  Calls Tryz.prog 72 #[clv c m] w fun e w'=>e=.returned (.bool (Dq c))/\Below w.heap.size w w':=by
 obtain ⟨a,n,k,rfl⟩:=hm;have HB:=zZ fun o=>iU w o;by_cases h1:c.does=1
 ·have hr:Dq c=decide (c.ref=[]):=by unfold Dq;rw [if_pos h1]
  have he:=xG c.ref;rw [hr];clear hr;have hb:(c.does == 1)=true:=by simpa using h1
  generalize decide (c.ref=[])=R at *;clear h1;go_enter Tryz.func72,Tryz.ntmps72
  go_wp2;go_ret;exact ⟨by simp [he],HB.out _⟩
 ·have hr:Dq c=lM c.ref 1 12:=by unfold Dq;rw [if_neg h1]
  have HN:=zZ fun w=>fI c.ref w (by omega);have hb:(c.does == 1)=false:=by simpa using h1
  rw [hr];clear hr;generalize lM c.ref 1 12=R at *;go_enter Tryz.func72,Tryz.ntmps72
  go_wp2_with (go_at_call 71;refine (HN.out _).mono ?_;rintro e w' ⟨rfl,rfl⟩)
  go_ret;exact ⟨rfl,HB.out _⟩
theorem qH {x:Cl} (h:yA x=false):qJ x=9:=by simp [qJ,h]
theorem qF {x:Cl} (h:yA x=true) (h1:yF x.net=false):qJ x=3:=by simp [qJ,h,h1]
theorem qI {x:Cl} (h:yA x=true) (h1:yF x.net=true) (h2:Dq x=false):qJ x=9:=by simp [qJ,h,h1,h2]
theorem qG {x:Cl} (h:yA x=true) (h1:yF x.net=true) (h2:Dq x=true) (h3:nD x.does=false):qJ x=3:=by simp [qJ,h,h1,h2,h3]
theorem qE {x:Cl} (h:yA x=true) (h1:yF x.net=true) (h2:Dq x=true) (h3:nD x.does=true):qJ x=0:=by simp [qJ,h,h1,h2,h3]
def aF (c:Cl):Prop:=c.id.length<=281474976710656/\c.mem.length<=281474976710656/\c.Br.length<=281474976710656/\c.ref.length<=281474976710656
theorem aC.short {c:Cl} (h:aC c):aF c:=⟨h.2.2.1,h.2.2.2.1,h.2.2.2.2.1,h.2.2.2.2.2.1⟩
theorem qK (c:Cl) (m:Value) (w:World) (hm:∃a n k,m=.slice a n k) (hz:aF c) :
  Calls Tryz.prog 39 #[clv c m] w fun e w'=>e=.returned (iI (qJ c))/\Below w.heap.size w w':=by
 obtain ⟨z1,z2,z3,z4⟩:=hz;have HN:=zZ fun (s:Tx) (hs:s.length<=281474976710656) w=>fI s w (by omega);have HR:=zZ fun w=>Dv c m w hm z4;have HB:=zZ fun o=>iU w o;have H9:=zZ (@qH c);have H3:=zZ (@qF c);have H9':=zZ (@qI c);have H3':=zZ (@qG c);have H0:=zZ (@qE c);unfold yA at H9 H3 H9' H3' H0;have HBX:Hid (∀w',Below (w.alloc (.cells #[.string (mk c.id),.string (mk c.mem),.string (mk c.Br),iI c.net,iI c.does,.string (mk c.ref),m] 31)).heap.size (w.alloc (.cells #[.string (mk c.id),.string (mk c.mem),.string (mk c.Br),iI c.net,iI c.does,.string (mk c.ref),m] 31)) w'->ay w' w.heap.size c m):=fun w' hb=>(ay.new w c m _).Bu hb;obtain ⟨a,n,k,rfl⟩:=hm;cases h1:lM c.id 1 12
 ·rw [H9.out (by rw [h1];rfl)];clear H9 H3 H9' H3' H0;go_enter Tryz.func39,Tryz.ntmps39
  go_wp2_with (first|(go_at_call 71;refine (HN.out _ (by assumption) _).mono ?_;rintro e w' ⟨rfl,rfl⟩))
  go_ret;exact ⟨rfl,HB.out _⟩
 cases h2:lM c.mem 1 12
 ·rw [H9.out (by rw [h1,h2];rfl)];clear H9 H3 H9' H3' H0;go_enter Tryz.func39,Tryz.ntmps39
  go_wp2_with (first|(go_at_call 71;refine (HN.out _ (by assumption) _).mono ?_;rintro e w' ⟨rfl,rfl⟩))
  go_ret;exact ⟨rfl,HB.out _⟩
 cases h3:lM c.Br 1 12
 ·rw [H9.out (by rw [h1,h2,h3];rfl)];clear H9 H3 H9' H3' H0;go_enter Tryz.func39,Tryz.ntmps39
  go_wp2_with (first|(go_at_call 71;refine (HN.out _ (by assumption) _).mono ?_;rintro e w' ⟨rfl,rfl⟩))
  go_ret;exact ⟨rfl,HB.out _⟩
 have hn:(lM c.id 1 12 && (lM c.mem 1 12 && lM c.Br 1 12))=true:=by rw [h1,h2,h3];rfl
 have b0:(c.net != 0) = !decide (c.net=0):=by rw [Bool.eq_iff_iff];simp
 have b1:(c.net != 1) = !decide (c.net=1):=by rw [Bool.eq_iff_iff];simp
 cases h4:yF c.net
 ·rw [H3.out hn h4];clear H9 H3 H9' H3' H0 hn;unfold yF at h4;rw [Bool.or_eq_false_iff] at h4;rw [h4.1] at b0;rw [h4.2] at b1;clear h4;go_enter Tryz.func39,Tryz.ntmps39
  go_wp2_with (first|(go_at_call 71;refine (HN.out _ (by assumption) _).mono ?_;rintro e w' ⟨rfl,rfl⟩))
  go_ret;exact ⟨rfl,HB.out _⟩
 have h5:(c.net != 0)=false ∨ ((c.net != 0)=true/\(c.net != 1)=false):=by
  rw [b0,b1];unfold yF at h4;rw [Bool.or_eq_true] at h4;rcases h4 with h4|h4
  ·left;rw [h4];rfl
  ·right
   rw [h4];rw [decide_eq_true_eq] at h4;rw [decide_eq_false (by omega)];exact ⟨rfl,rfl⟩
 clear b0 b1;have d1:(c.does != 1) = !decide (c.does=1):=by rw [Bool.eq_iff_iff];simp
 have d7:(c.does != 7) = !decide (c.does=7):=by rw [Bool.eq_iff_iff];simp
 have d8:(c.does != 8) = !decide (c.does=8):=by rw [Bool.eq_iff_iff];simp
 cases h6:Dq c
 ·rw [H9'.out hn h4 h6];rw [h6] at HR;clear H9 H3 H9' H3' H0 hn h4 d1 d7 d8;rcases h5 with h5|⟨h5,h5'⟩ <;>
  ·go_enter Tryz.func39,Tryz.ntmps39
   go_wp2_with (first|(go_at_call 71;refine (HN.out _ (by assumption) _).mono ?_;rintro e w' ⟨rfl,rfl⟩)|(go_at_call 72;refine (HR.out _).mono ?_;rintro e w1 ⟨rfl,hb⟩;have HB1:=zZ hb;clear hb))
   go_ret;exact ⟨rfl,jg (HB.out _) HB1.out⟩
 rw [h6] at HR;cases h7:nD c.does
 ·rw [H3'.out hn h4 h6 h7];clear H9 H3 H9' H3' H0 hn h4;unfold nD at h7;simp only [Bool.or_eq_false_iff] at h7;rw [h7.1] at d1;rw [h7.2.1] at d7;rw [h7.2.2] at d8;clear h7;rcases h5 with h5|⟨h5,h5'⟩ <;>
  ·go_enter Tryz.func39,Tryz.ntmps39
   go_wp2_with (first|(go_at_call 71;refine (HN.out _ (by assumption) _).mono ?_;rintro e w' ⟨rfl,rfl⟩)|(go_at_call 72;refine (HR.out _).mono ?_;rintro e w1 ⟨rfl,hb⟩;obtain ⟨n0,n1,n2,n3,n4,n5,n6⟩:=HBX.out _ hb;have HB1:=zZ hb;clear hb))
   go_ret;exact ⟨rfl,jg (HB.out _) HB1.out⟩
 rw [H0.out hn h4 h6 h7];clear H9 H3 H9' H3' H0 hn h4;have h8:(c.does != 1)=false ∨ ((c.does != 1)=true/\(c.does != 7)=false) ∨ ((c.does != 1)=true/\(c.does != 7)=true/\(c.does != 8)=false):=by
  rw [d1,d7,d8];unfold nD at h7;simp only [Bool.or_eq_true,decide_eq_true_eq] at h7;rcases h7 with h7|h7|h7<;>simp [h7]
 clear d1 d7 d8 h7;rcases h5 with h5|⟨h5,h5'⟩<;>rcases h8 with h8|⟨h8,h8'⟩|⟨h8,h8',h8''⟩ <;>
 ·go_enter Tryz.func39,Tryz.ntmps39
  go_wp2_with (first|(go_at_call 71;refine (HN.out _ (by assumption) _).mono ?_;rintro e w' ⟨rfl,rfl⟩)|(go_at_call 72;refine (HR.out _).mono ?_;rintro e w1 ⟨rfl,hb⟩;obtain ⟨n0,n1,n2,n3,n4,n5,n6⟩:=HBX.out _ hb;have HB1:=zZ hb;clear hb))
  go_ret;exact ⟨rfl,jg (HB.out _) HB1.out⟩
end Cm
namespace Ce
open Go.RowKit
theorem eX (a:Option Addr) (len cap:Nat) (f:Nat->Int) (w:World) (hm:len<=9223372036854775807) (hc:∀i,i < len->∃b off,a=some ⟨b,off,none⟩/\w.cell? ⟨b,off+i,none⟩=some (iI (f i))) :
  Calls Tryz.prog 119 #[.slice a len cap] w fun e w'=>e=.returned (.bool (eF f len))/\w'=w:=by
 go_enter Tryz.func119,Tryz.ntmps119
 go_wp2;go_loop [6] (fun i=>∃k:Nat,k<=len/\i=iI k/\Hid (eF f k=true)) (fun i=>len - (intOf i).toNat)
 case atStart=>exact ⟨0,Nat.zero_le _,rfl,rfl⟩
 case round =>
  obtain ⟨k,hk,rfl,hg⟩:=hrel;by_cases hlt:k < len
  ·obtain ⟨b,off,rfl,hcell⟩:=hc k hlt;cases gk:good (f k)
   ·go_wp2_with (go_at_call 76;refine (qh _ _).mono ?_;rintro e w' ⟨rfl,rfl⟩)
    go_ret;exact ⟨by rw [eU f len k hlt gk];rfl,rfl⟩
   ·go_wp2_with (go_at_call 76;refine (qh _ _).mono ?_;rintro e w' ⟨rfl,rfl⟩)
    go_round
    case rel=>exact ⟨k+1,by omega,by go_num,eP f k hg.out gk⟩
    case measure=>simp [intOf];omega
  ·have:k=len:=by omega
   subst this;go_wp2;go_ret;exact ⟨by rw [hg.out];rfl,rfl⟩
theorem Gy (a:Option Addr) (len cap:Nat) (f:Nat->Int) (w:World) (hm:len<=9223372036854775807) (hc:∀i,i < len->∃b off,a=some ⟨b,off,none⟩/\w.cell? ⟨b,off+i,none⟩=some (iI (f i))) :
  Calls Tryz.prog 75 #[.slice a len cap] w fun e w'=>e=.returned (.tuple #[iI (Gu f len),iI (Gt f len)])/\w'=w:=by
 cases g:eF f len
 ·go_enter Tryz.func75,Tryz.ntmps75
  go_wp2_with (go_at_call 119;refine (eX a len cap f _ hm hc).mono ?_;rintro e w' ⟨rfl,rfl⟩)
  go_ret2;exact ⟨by rw [(Gv f len g).1,(Gv f len g).2];rfl,rfl⟩
 ·go_enter Tryz.func75,Tryz.ntmps75
  go_wp2_with (go_at_call 119;refine (eX a len cap f _ hm hc).mono ?_;rintro e w' ⟨rfl,rfl⟩)
  go_loop [4,12] (fun t i=>∃k:Nat,k<=len/\i=iI k/\t=iI (tot f k)/\tot f k<=10000000000000) (fun _ i=>len - (intOf i).toNat)
  case atStart=>exact ⟨0,Nat.zero_le _,rfl,rfl,by simp [tot]⟩
  case round =>
   obtain ⟨k,hk,rfl,rfl,ht⟩:=hrel;have t0:=G8 f len g k hk;by_cases hlt:k < len
   ·obtain ⟨b,off,rfl,hcell⟩:=hc k hlt;have gk:=eG f len k hlt g;have gt:good (tot f k)=true:=(ql _).2 ⟨t0,ht⟩;obtain ⟨f0,f1⟩:=(ql _).1 gk;by_cases ho:10000000000000 < tot f k+f k
    ·have gs:good (tot f k+f k)=false:=(qm _).2 (by omega);have e1:dM (tot f k) (f k)=0:=by simp [dM,gs]
     have e2:dJ (tot f k) (f k)=2:=by simp [dJ,gt,gk,gs]
     go_wp2_with (go_at_call 120;refine (aM _ _ _).mono ?_;rintro e w' ⟨rfl,rfl⟩)
     go_ret2;exact ⟨by rw [(Gx f len k g hlt ho).1,(Gx f len k g hlt ho).2];rfl,rfl⟩
    ·have gs:good (tot f k+f k)=true:=(ql _).2 (by omega);have e1:dM (tot f k) (f k)=tot f k+f k:=by simp [dM,gt,gk,gs]
     have e2:dJ (tot f k) (f k)=0:=by simp [dJ,gt,gk,gs]
     go_wp2_with (go_at_call 120;refine (aM _ _ _).mono ?_;rintro e w' ⟨rfl,rfl⟩)
     go_round
     case rel=>exact ⟨k+1,by omega,by go_num,rfl,by simp only [tot];omega⟩
     case measure=>simp [intOf];omega
   ·have:k=len:=by omega
    subst this;go_wp2;go_ret2;exact ⟨by rw [(Gw f k g ht).1,(Gw f k g ht).2];rfl,rfl⟩
theorem OX (a:Option Addr) (len cap:Nat) (f:Nat->Int) (w:World) (hm:len<=9223372036854775807) (hc:∀i,i < len->∃b off,a=some ⟨b,off,none⟩/\w.cell? ⟨b,off+i,none⟩=some (iI (f i))) :
  Calls Tryz.prog 137 #[.slice a len cap] w fun e w'=>e=.returned (.tuple #[iI (Gu f len),iI (Gt f len)])/\w'=w:=by
 go_enter Tryz.func137,Tryz.ntmps137
 go_wp2;go_loop [4] (fun i=>∃k:Nat,k<=len/\i=iI k/\Hid (eF f k=true)) (fun i=>len - (intOf i).toNat)
 case atStart=>exact ⟨0,Nat.zero_le _,rfl,rfl⟩
 case round =>
  obtain ⟨k,hk,rfl,hg⟩:=hrel;by_cases hlt:k < len
  ·obtain ⟨b,off,rfl,hcell⟩:=hc k hlt;cases gk:good (f k)
   ·go_wp2_with (go_at_call 52;refine (NM _ _).mono ?_;rintro e w' ⟨rfl,rfl⟩)
    go_ret2;have g:=eU f len k hlt gk;exact ⟨by rw [(Gv f len g).1,(Gv f len g).2];rfl,rfl⟩
   ·go_wp2_with (go_at_call 52;refine (NM _ _).mono ?_;rintro e w' ⟨rfl,rfl⟩)
    go_round
    case rel=>exact ⟨k+1,by omega,by go_num,eP f k hg.out gk⟩
    case measure=>simp [intOf];omega
  ·have:k=len:=by omega
   subst this;have g:=hg.out;clear hg;go_wp2;go_loop [5,6] (fun t i=>∃j:Nat,j<=k/\i=iI j/\t=iI (tot f j)/\tot f j<=10000000000000) (fun _ i=>k - (intOf i).toNat)
   case atStart=>exact ⟨0,Nat.zero_le _,rfl,rfl,by simp [tot]⟩
   case round =>
    obtain ⟨j,hj,rfl,rfl,ht⟩:=hrel;have t0:=G8 f k g j hj;by_cases hlt:j < k
    ·obtain ⟨b,off,rfl,hcell⟩:=hc j hlt;have gk:=eG f k j hlt g;obtain ⟨f0,f1⟩:=(ql _).1 gk;by_cases ho:10000000000000 < tot f j+f j
     ·go_wp2;go_ret2;exact ⟨by rw [(Gx f k j g hlt ho).1,(Gx f k j g hlt ho).2];rfl,rfl⟩
     ·go_wp2;go_round
      case rel=>exact ⟨j+1,by omega,by go_num,rfl,by simp only [tot];omega⟩
      case measure=>simp [intOf];omega
    ·have:j=k:=by omega
     subst this;go_wp2;go_ret2;exact ⟨by rw [(Gw f j g ht).1,(Gw f j g ht).2];rfl,rfl⟩
end Ce
namespace Cm
open Go.RowKit
theorem rV:(Tryz.prog.info? 2).map (fun i=>(i.zero,i.size,i.bytes))=some (some (iI 0),1,8):=by kernel_rfl
theorem iN (c:Cl) (m:Value) (w:World) (hm:bH All w m c.lines) (hl:c.lines.length<=1000000) :
  Calls Tryz.prog 41 #[clv c m] w fun e w'=>e=.returned (.tuple #[iI (G6 c.lines),iI (G5 c.lines)])/\Below w.heap.size w w':=by
 have HM:=zZ hm;have HB:=zZ fun o=>iU w o;obtain ⟨a,k,rfl,h1,h2⟩:=bH.form hm;clear hm;have HMK:=run_make_row' (P:=Tryz.prog) 124 2 (iI 0) 8 Tryz.underlying124 rV rfl .i64 .i64 c.lines.length (by omega) (by omega);go_enter Tryz.func41,Tryz.ntmps41
 go_wp2;go_loopg [16] (c.lines.length) (fun g i wr=>∃j:Nat,j<=c.lines.length/\g=c.lines.length - j/\i=iI j/\Hid (Below w.heap.size w wr)/\Hid (wr.rowIs (w.heap.size+1) 2 c.lines.length fun q=>if q < j then iI (bil c.lines q) else iI 0))
 case atStart =>
  refine ⟨0,Nat.zero_le _,rfl,rfl,jg (HB.out _) (iU _ _),?_⟩;show World.rowIs _ _ _ _ _;have:=World.rowIs_made (w.alloc (.cells #[sS c.id,sS c.mem,sS c.Br,iI c.net,iI c.does,sS c.ref,.slice a c.lines.length k] 31)) (iI 0) c.lines.length 2;rw [World.size_alloc] at this;exact this.congr fun q hq=>by simp
 case round =>
  obtain ⟨j,hj,hg,rfl,HB2,HR⟩:=hrel;by_cases hlt:j < c.lines.length
  ·have hL:=bH.move HM.out (Below.moves HB2.out);obtain ⟨b,o,m,rfl,hx,⟨c0,c1,c2,c3,c4,c5⟩,hr⟩:=bH.get hL j hlt;obtain ⟨am,cm,rfl,-,-⟩:=dI.form hr;have hbl:=World.block_lt_of_cell? wr _ c0;have hrc:=HR.out.cell hlt;have hrf:=HR.out.frozen j;have hrl:=HR.out.lt;have hne:w.heap.size+1 ≠ wr.heap.size:=Nat.ne_of_lt hrl;have hbj:=jy c.lines j _ hx;have HX:Hid (∀o1 v,v=iI (bil c.lines j)->Below w.heap.size w ((wr.setCell ⟨w.heap.size+1,j,none⟩ v).alloc o1)/\((wr.setCell ⟨w.heap.size+1,j,none⟩ v).alloc o1).rowIs (w.heap.size+1) 2 c.lines.length fun q=>if q < j+1 then iI (bil c.lines q) else iI 0):=fun o1 v hv=>by
    refine ⟨jg (HB2.out.setCell (p:=⟨w.heap.size+1,j,none⟩) (by simp) v) (iU _ o1),?_⟩;refine ((HR.out.set j v).alloc o1).congr fun q hq=>?_;rw [hv];by_cases e:q=j
    ·subst e;simp
    ·by_cases e2:q < j
     ·simp [e,e2,Nat.lt_succ_of_lt e2]
     ·simp [e,e2,show ¬ q < j+1 by omega]
   rw [←hbj] at c4;clear hx hr hL hbj;have hrc2:∀o1,(wr.alloc o1).cell? ⟨w.heap.size+1,j,none⟩=some (iI 0):=fun o1=>by
    rw [(HR.out.alloc o1).cell hlt];simp
   have hrf2:∀o1,(wr.alloc o1).frozen? ⟨w.heap.size+1,j,none⟩=false:=fun o1=>(HR.out.alloc o1).frozen j;go_wp2;go_roundg (c.lines.length - (j+1))
   case rel=>exact ⟨j+1,by omega,rfl,by go_num,(HX.out _ _ rfl).1,(HX.out _ _ rfl).2⟩
   case measure=>omega
  ·have hjj:j=c.lines.length:=by omega
   have HS:=zZ (Ce.Gy (some ⟨w.heap.size+1,0,none⟩) c.lines.length c.lines.length (bil c.lines) wr (by omega) (fun i hi=>⟨w.heap.size+1,0,rfl,by
    rw [Nat.zero_add,HR.out.cell hi];simp [show i < j by omega]⟩))
   clear hjj;have HV:Hid (G6 c.lines=if Ce.Gt (bil c.lines) c.lines.length=0 then Ce.Gu (bil c.lines) c.lines.length else 0):=rfl;have HE:Hid (G5 c.lines=if Ce.Gt (bil c.lines) c.lines.length=0 then 0 else 8):=rfl;generalize Ce.Gt (bil c.lines) c.lines.length=E at *;generalize Ce.Gu (bil c.lines) c.lines.length=V at *;by_cases he:E=0
   ·rw [if_pos he] at HV HE;obtain rfl:=he;go_wp2_with (go_at_call 75;refine (HS.out).mono ?_;rintro e w' ⟨rfl,rfl⟩)
    go_ret2;exact ⟨by rw [HV.out,HE.out];rfl,HB2.out⟩
   ·rw [if_neg he] at HV HE;have hb:(E != 0)=true:=by simpa using he
    go_wp2_with (go_at_call 75;refine (HS.out).mono ?_;rintro e w' ⟨rfl,rfl⟩)
    go_ret2;exact ⟨by rw [HV.out,HE.out];rfl,HB2.out⟩
end Cm
namespace Cm
open Go.RowKit
abbrev jR (c:Cl) (m:Value):Obj:=.cells #[sS c.id,sS c.mem,sS c.Br,iI c.net,iI c.does,sS c.ref,m] 31
theorem FP {m:Value} {a:Option Addr} {n c:Nat} (h:m=.slice a n c):∃a n k,m=.slice a n k:=⟨a,n,c,h⟩
theorem DF {c:Cl} (h:¬ c.lines.length<=999):DJ c=10:=by unfold DJ;rw [if_neg h]
theorem DI {c:Cl} (h:c.lines.length<=999) (h1:Ia c=false):DJ c=6:=by unfold DJ;rw [if_pos h,h1];simp
theorem DK {c:Cl} (h:c.lines.length<=999) (h1:Ia c=true) (h2:vW c.lines ≠ 0):DJ c=vW c.lines:=by unfold DJ;rw [if_pos h,if_pos h1,if_neg h2]
theorem DL {c:Cl} (h:c.lines.length<=999) (h1:Ia c=true) (h2:vW c.lines=0):DJ c=G5 c.lines:=by unfold DJ;rw [if_pos h,if_pos h1,if_pos h2]
theorem bL (c:Cl) (m:Value) (w:World) (hm:bH All w m c.lines) (hz:aC c) (hT:Da.Tab w) :
  Calls Tryz.prog 21 #[clv c m] w fun e w'=>e=.returned (iI (kF c))/\Below w.heap.size w w':=by
 obtain ⟨a,k,hsl,f1,f2⟩:=bH.form hm;have HH:=zZ fun w=>qK c m w (FP hsl) hz.short;have HB:=zZ fun o=>iU w o;have HBX:Hid (∀w',Below (w.alloc (jR c m)).heap.size (w.alloc (jR c m)) w'->ay w' w.heap.size c m/\Below w.heap.size w w'):=fun w' hb=>⟨(ay.new w c m _).Bu hb,jg (iU w _) hb⟩;have HL:=zZ fun w' (hb:Below w.heap.size w w')=>fq m c.lines w' (bH.move hm (Below.moves hb)) hz.2.2.2.2.2.2.2 (gP hT hb);have HTT:=zZ fun w' (hb:Below w.heap.size w w') (hl:c.lines.length<=999)=>iN c m w' (bH.move hm (Below.moves hb)) (by omega);obtain rfl:=hsl;clear hm hz hT;by_cases h0:qJ c=0
 case neg =>
  have hE:kF c=qJ c:=by unfold kF;rw [if_neg h0]
  have hb:(qJ c != 0)=true:=by simpa using h0
  rw [hE];clear hE h0 HL HTT;generalize qJ c=E at *;go_enter Tryz.func21,Tryz.ntmps21
  go_wp2_with (first|(go_at_call 39;refine (HH.out _).mono ?_;rintro e w1 ⟨rfl,hb⟩;have HB1:=zZ (HBX.out _ hb).2;clear hb))
  go_ret;exact ⟨rfl,HB1.out⟩
 have hE:kF c=DJ c:=by unfold kF;rw [if_pos h0]
 rw [h0] at HH;rw [hE];clear hE h0;have H10:=zZ (@DF c);have H6:=zZ (@DI c);have HLL:=zZ (@DK c);have HLT:=zZ (@DL c);unfold Ia at H6 HLL HLT;generalize DJ c=R at *;generalize vW c.lines=LE at *;generalize G5 c.lines=TE at *;generalize G6 c.lines=TV at *;by_cases h1:c.lines.length<=999
 case neg =>
  have h1':(999:Int) < (c.lines.length:Int):=by omega
  rw [H10.out h1];clear H10 H6 HLL HLT HL HTT;go_enter Tryz.func21,Tryz.ntmps21
  go_wp2_with (first|(go_at_call 39;refine (HH.out _).mono ?_;rintro e w1 ⟨rfl,hb⟩;obtain ⟨⟨n0,n1,n2,n3,n4,n5,n6⟩,hb2⟩:=HBX.out _ hb;have HB1:=zZ hb2;clear hb hb2))
  go_ret;exact ⟨rfl,HB1.out⟩
 have h1':¬ (999:Int) < (c.lines.length:Int):=by omega
 have e8:(c.does == 8)=decide (c.does=8):=by rw [Bool.eq_iff_iff];simp
 have el:((c.lines.length:Int) == 0)=decide (c.lines.length=0):=by rw [Bool.eq_iff_iff];simp
 obtain ⟨V,hV⟩:∃V,V=decide (c.does=8):=⟨_,rfl⟩;obtain ⟨Z,hZ⟩:∃Z,Z=decide (c.lines.length=0):=⟨_,rfl⟩;rw [←hV] at e8;rw [←hZ] at el;rw [←hV,←hZ] at H6 HLL HLT;clear hV hZ;cases hq:(V == Z)
 ·rw [H6.out h1 hq];have hv:(V != Z)=true:=by unfold bne;rw [hq];rfl
  clear H10 H6 HLL HLT HL HTT;go_enter Tryz.func21,Tryz.ntmps21
  go_wp2_with (first|(go_at_call 39;refine (HH.out _).mono ?_;rintro e w1 ⟨rfl,hb⟩;obtain ⟨⟨n0,n1,n2,n3,n4,n5,n6⟩,hb2⟩:=HBX.out _ hb;have HB1:=zZ hb2;clear hb hb2))
  go_ret;exact ⟨rfl,HB1.out⟩
 have hv:(V != Z)=false:=by unfold bne;rw [hq];rfl
 by_cases h2:LE=0
 ·rw [HLT.out h1 hq h2];have HT2:=zZ fun w' hb=>HTT.out w' hb h1;obtain rfl:=h2;clear H10 H6 HLL HLT HTT;go_enter Tryz.func21,Tryz.ntmps21
  go_wp2_with (first|(go_at_call 39;refine (HH.out _).mono ?_;rintro e w1 ⟨rfl,hb⟩;obtain ⟨⟨n0,n1,n2,n3,n4,n5,n6⟩,hb2⟩:=HBX.out _ hb;have HB1:=zZ hb2;have HBa:=zZ hb;clear hb hb2)|(go_at_call 40;refine (HL.out _ HB1.out).mono ?_;rintro e w2 ⟨rfl,hb⟩;obtain ⟨⟨q0,q1,q2,q3,q4,q5,q6⟩,hb2⟩:=HBX.out _ (jg HBa.out hb);have HB2:=zZ hb2;clear hb hb2)|(go_at_call 41;refine (HT2.out _ HB2.out).mono ?_;rintro e w3 ⟨rfl,hb⟩;have HB3:=zZ (jg HB2.out hb);clear hb))
  go_ret;exact ⟨rfl,HB3.out⟩
 ·rw [HLL.out h1 hq h2];have hb0:(LE != 0)=true:=by simpa using h2
  clear H10 H6 HLL HLT HTT h2;go_enter Tryz.func21,Tryz.ntmps21
  go_wp2_with (first|(go_at_call 39;refine (HH.out _).mono ?_;rintro e w1 ⟨rfl,hb⟩;obtain ⟨⟨n0,n1,n2,n3,n4,n5,n6⟩,hb2⟩:=HBX.out _ hb;have HB1:=zZ hb2;have HBa:=zZ hb;clear hb hb2)|(go_at_call 40;refine (HL.out _ HB1.out).mono ?_;rintro e w2 ⟨rfl,hb⟩;have HB2:=zZ (jg HB1.out hb);clear hb))
  go_ret;exact ⟨rfl,HB2.out⟩
end Cm
namespace Ac
open Go.RowKit
def prv (l:List Row) (k:Nat):Option Row:=if k=0 then none else l[k - 1]?
theorem BI (l:List Row) (k:Nat) (hk:k < l.length):prv l (k+1)=some l[k]:=by
 unfold prv;rw [if_neg (by omega),Nat.add_sub_cancel];exact List.getElem?_eq_getElem hk
theorem kT (l:List Row) (k:Nat) (hk:k < l.length):ckE (prv l k) (l.drop k)=if yP l[k]=true then (if iL (prv l k) l[k]=true then ckE (prv l (k+1)) (l.drop (k+1)) else 11) else 1:=by
 rw [List.drop_eq_getElem_cons hk,BI l k hk];rfl
theorem kR (l:List Row) (k:Nat) (hk:l.length<=k):ckE (prv l k) (l.drop k)=0:=by
 rw [List.drop_eq_nil_of_le hk];cases prv l k<;>rfl
theorem iP (l:List Row) (x:Row):iL (prv l 0) x=true:=rfl
theorem iM (l:List Row) (k:Nat) (hk:k < l.length) (x:Row):iL (prv l (k+1)) x=dR l[k] x:=by rw [BI l k hk];rfl
theorem yR (x:Row):yP x=(Ce.good x.de && (Ce.good x.oo && (decide (x.de<=x.oo) && decide (x.oo ≠ 0)))):=by
 rw [Bool.eq_iff_iff,yT];simp only [Bool.and_eq_true,decide_eq_true_eq,Ce.ql];omega
theorem fZ (x:Row) (w:World):Calls Tryz.prog 42 #[rwv x] w fun e w'=>e=.returned (.bool (yP x))/\Below w.heap.size w w':=by
 rw [yR];cases g1:Ce.good x.de with
 | false =>
  go_enter Tryz.func42,Tryz.ntmps42
  go_wp2_with (go_at_call 76;refine (Ce.qh _ _).mono ?_;rintro e w' ⟨rfl,rfl⟩;rw [g1])
  go_ret;exact ⟨rfl,iU _ _⟩
 | true =>
  cases g2:Ce.good x.oo with
  | false =>
   go_enter Tryz.func42,Tryz.ntmps42
   go_wp2_with (go_at_call 76;refine (Ce.qh _ _).mono ?_;rintro e w' ⟨rfl,rfl⟩;first|rw [g1]|rw [g2])
   go_ret;exact ⟨rfl,iU _ _⟩
  | true =>
   by_cases h3:x.de<=x.oo
   ·have d3:decide (x.de<=x.oo)=true:=decide_eq_true h3;rw [d3];by_cases h4:x.oo=0
    ·have d4:decide (x.oo ≠ 0)=false:=by simp [h4]
     have n4:(x.oo != 0)=false:=by simp [h4]
     rw [d4];clear h4 d4;go_enter Tryz.func42,Tryz.ntmps42
     go_wp2_with (go_at_call 76;refine (Ce.qh _ _).mono ?_;rintro e w' ⟨rfl,rfl⟩;first|rw [g1]|rw [g2])
     go_ret;exact ⟨rfl,iU _ _⟩
    ·have d4:decide (x.oo ≠ 0)=true:=by simp [h4]
     have n4:(x.oo != 0)=true:=by simp [h4]
     rw [d4];clear h4 d4;go_enter Tryz.func42,Tryz.ntmps42
     go_wp2_with (go_at_call 76;refine (Ce.qh _ _).mono ?_;rintro e w' ⟨rfl,rfl⟩;first|rw [g1]|rw [g2])
     go_ret;exact ⟨rfl,iU _ _⟩
   ·have d3:decide (x.de<=x.oo)=false:=decide_eq_false h3;rw [d3];go_enter Tryz.func42,Tryz.ntmps42
    go_wp2_with (go_at_call 76;refine (Ce.qh _ _).mono ?_;rintro e w' ⟨rfl,rfl⟩;first|rw [g1]|rw [g2])
    go_ret;exact ⟨rfl,iU _ _⟩
theorem bL (l:List Row) (v:Value) (w:World) (h:cu All w v l) (hl:l.length<=100000) :
  Calls Tryz.prog 22 #[v] w fun e w'=>e=.returned (iI (kF l))/\Below w.heap.size w w':=by
 obtain ⟨fa,fk,rfl,hm1,hm2⟩:=h.form;have HF:=zZ h;obtain ⟨C,HC⟩:∃C,Hid (kF l=C):=⟨_,(rfl:kF l=_)⟩;have HC0:Hid (ckE (prv l 0) (l.drop 0)=C):=HC.out;have HAm:=zZ fZ;have HOr:=zZ zI;rw [HC.out];clear h HC;go_enter Tryz.func22,Tryz.ntmps22
 go_wp2;go_loopg [7] (l.length) (fun g s7 wr=>∃k:Nat,s7=iI k/\k<=l.length/\l.length - k<=g/\Hid (Below w.heap.size w wr)/\Hid (ckE (prv l k) (l.drop k)=C))
 case atStart=>exact ⟨0,rfl,Nat.zero_le _,by omega,Below.refl _ _,HC0.out⟩
 case round =>
  obtain ⟨k,rfl,hk,hgk,Co,HI⟩:=hrel;clear HC0;by_cases hlt:k < l.length
  ·have hltz:(k:Int) < (l.length:Int):=by omega
   have HI2:Hid (C=if yP l[k]=true then (if iL (prv l k) l[k]=true then ckE (prv l (k+1)) (l.drop (k+1)) else 11) else 1):=HI.out.symm.trans (kT l k hlt);obtain ⟨b,oo,rfl,hbw,-,hc⟩:=cu.get (HF.out.Bu Co.out) k hlt;obtain ⟨x,HX⟩:∃x,Hid (l[k]=x):=⟨l[k],(rfl:l[k]=l[k])⟩;rw [HX.out] at HI2 hc;obtain ⟨x0,x1,x2,x3,x4⟩:=hc;have hb2:=iU wr (.cells #[sS x.who,.bool x.Br,iI x.year,iI x.de,iI x.oo] TA);have HZ:=zZ (heap_alloc_new wr (.cells #[sS x.who,.bool x.Br,iI x.year,iI x.de,iI x.oo] TA));have HB2:=zZ (jg Co.out hb2);clear hb2 HI;go_upto_region 4 with fail
   clear x0 x1 x2 x3 x4;generalize wr.alloc (.cells #[sS x.who,.bool x.Br,iI x.year,iI x.de,iI x.oo] TA)=W at *;generalize hp:wr.heap.size=p at *;obtain ⟨z0,z1,z2,z3,z4⟩:=cells5 HZ.out;go_wp2_with fail
   go_at_call 42
   refine (HAm.out x W).mono ?_;rintro e w3 ⟨rfl,hb3⟩;have HB3:=zZ (jg HB2.out hb3);have HZ3:=zZ (tV HZ.out hb3);clear hb3 HB2 HZ z0 z1 z2 z3 z4 Co;cases ho:yP x with
   | false =>
    have HCe:Hid (C=1):=HI2.out.trans (by rw [if_neg (by rw [ho];decide)]);clear HI2;go_wp2;go_ret;exact ⟨by first|(rw [HCe.out];done)|(rw [HCe.out];rfl),HB3.out⟩
   | true =>
    have HI3:Hid (C=if iL (prv l k) x=true then ckE (prv l (k+1)) (l.drop (k+1)) else 11):=HI2.out.trans (by rw [if_pos ho]);clear HI2;have HD:=zZ (Below.drew (Below.refl w3.heap.size w3));by_cases hk0:k=0
    ·subst hk0;have HI4:Hid (ckE (prv l (0+1)) (l.drop (0+1))=C):=(HI3.out.trans (if_pos (iP l x))).symm;clear HI3;go_upto_region 6 with fail
     refine Ri.IZ (by kernel_rfl) (by kernel_rfl) (by kernel_rfl) (fun Wx=>Below w3.heap.size w3 Wx) (fun kz vs wz=>(fun kx vx wx=>match kx with|0=>vx=iI 0|1=>vx=.bool false|2=>vx=.bool false|3=>True|4=>True|5=>True|6=>True|7=>True|8=>True|9=>True|10=>True|11=>vx=.bool false|_=>True:Nat->Value->World->Prop) kz (vs kz) wz) (fun kz=>[kz]) (by kernel_rfl) (fun jz vs iz vz wz hiz hz=>Ri.wI (F:=(fun kx vx wx=>match kx with|0=>vx=iI 0|1=>vx=.bool false|2=>vx=.bool false|3=>True|4=>True|5=>True|6=>True|7=>True|8=>True|9=>True|10=>True|11=>vx=.bool false|_=>True:Nat->Value->World->Prop)) jz vs iz vz wz hiz hz) HD.out ⟨Or.inl ⟨rfl,?_⟩,Or.inl ⟨rfl,?_⟩,Or.inl ⟨rfl,?_⟩,Or.inr ⟨2,true,17,rfl,rfl,?_⟩,Or.inr ⟨2,true,17,rfl,rfl,?_⟩,Or.inr ⟨2,true,17,rfl,rfl,?_⟩,Or.inr ⟨2,true,17,rfl,rfl,?_⟩,Or.inr ⟨2,true,17,rfl,rfl,?_⟩,Or.inr ⟨2,true,17,rfl,rfl,?_⟩,Or.inr ⟨2,true,17,rfl,rfl,?_⟩,Or.inr ⟨2,true,17,rfl,rfl,?_⟩,Or.inl ⟨rfl,?_⟩,trivial⟩ ?_
     ·intro vs Wx A hA hB hpre K hK;have e3:=(hA 3).trans (show _=iI 0 by kernel_rfl);clear hA hpre;go_simp;exact hK _ _ hB rfl (fun _ _ h=>h)
     ·intro vs Wx A hA hB hpre K hK;have e15:=tT (hA 15) (by kernel_rfl) (hpre.1 rfl);clear hA hpre;go_simp;exact hK _ _ hB rfl (fun _ _ h=>h)
     ·intro vs Wx A hA hB hpre K hK;have e16:=tT (hA 16) (by kernel_rfl) (hpre.1 rfl);clear hA hpre;go_simp;exact hK _ _ hB rfl (fun _ _ h=>h)
     iterate 2
      ·intro vs Wx A hA hB hpre;have eg:=tT (hA 17) (by kernel_rfl) (hpre.1 rfl);exact ⟨false,eg,fun h=>(by cases h),fun _=>trivial⟩
     ·intro vs Wx A hA hB hpre;have eg:=tT (hA 17) (by kernel_rfl) (hpre.2.1 rfl);exact ⟨false,eg,fun h=>(by cases h),fun _=>trivial⟩
     ·intro vs Wx A hA hB hpre;have eg:=tT (hA 17) (by kernel_rfl) (hpre.2.2.1 rfl);exact ⟨false,eg,fun h=>(by cases h),fun _=>trivial⟩
     ·intro vs Wx A hA hB hpre;have eg:=tT (hA 17) (by kernel_rfl) (hpre.2.1 rfl);exact ⟨false,eg,fun h=>(by cases h),fun _=>trivial⟩
     ·intro vs Wx A hA hB hpre;have eg:=tT (hA 17) (by kernel_rfl) (hpre.1 rfl);exact ⟨false,eg,fun h=>(by cases h),fun _=>trivial⟩
     ·intro vs Wx A hA hB hpre;have eg:=tT (hA 17) (by kernel_rfl) (hpre.2.2.1 rfl);exact ⟨false,eg,fun h=>(by cases h),fun _=>trivial⟩
     ·intro vs Wx A hA hB hpre;have eg:=tT (hA 17) (by kernel_rfl) (hpre.2.1 rfl);exact ⟨false,eg,fun h=>(by cases h),fun _=>trivial⟩
     ·intro vs Wx A hA hB hpre K hK;have e17:=tT (hA 17) (by kernel_rfl) (hpre.1 rfl);clear hA hpre;go_simp;exact hK _ _ hB rfl (fun _ _ h=>h)
     ·intro vs Wx hB hF;have hL:vs 11=.bool false:=hF 11 (by decide);have Cn:=zZ (jg HB3.out hB);clear hF hB;simp only [Ri.puts];rw [hL];clear hL;go_simp;go_wp2;go_roundg (l.length - 1)
      case measure=>omega
      case rel=>exact ⟨0+1,by first|rfl|go_num|(congr 1;omega),by omega,by omega,Cn.out,HI4.out⟩
    ·obtain ⟨j,hkj⟩:∃j,k=j+1:=⟨k - 1,by omega⟩;have hj:j < l.length:=by omega
     have hkz:0 < k:=by omega
     have hjw:IntKind.i64.wrap ((k:Int) - 1)=(j:Int):=by rw [IntKind.wrap_i64];omega
     have HKJ:=zZ hkj;obtain ⟨y,HY⟩:∃y,Hid (l[j]=y):=⟨l[j],(rfl:l[j]=l[j])⟩;have HI4:Hid (C=if dR y x=true then ckE (prv l (j+1+1)) (l.drop (j+1+1)) else 11):=HI3.out.trans (by rw [hkj,iM l j hj,HY.out]);have Bt:=zZ fun W' (hW:Below w3.heap.size w3 W')=>And.intro (jZ (HF.out.Bu (jg HB3.out hW)) j hj) (cells5 (tV HZ3.out hW));rw [HY.out] at Bt;clear HI3 hk0 hkj;go_upto_region 6 with fail
     refine Ri.IZ (by kernel_rfl) (by kernel_rfl) (by kernel_rfl) (fun Wx=>Below w3.heap.size w3 Wx) (fun kz vs wz=>(fun kx vx wx=>match kx with|0=>vx=iI (k:Nat)|1=>vx=.bool true|2=>vx=.bool true|3=>vx=.slice (some ⟨b,oo,none⟩) l.length fk|4=>vx=iI (k:Nat)|5=>vx=iI (j:Nat)|6=>vx=pP b (oo+j * 5)|7=>vx=rwv y|8=>vx=rwv x|9=>vx=iI (zC y x)|10=>vx=.bool (decide (0<=zC y x))|11=>vx=.bool (decide (0<=zC y x))|_=>True:Nat->Value->World->Prop) kz (vs kz) wz) (fun kz=>[kz]) (by kernel_rfl) (fun jz vs iz vz wz hiz hz=>Ri.wI (F:=(fun kx vx wx=>match kx with|0=>vx=iI (k:Nat)|1=>vx=.bool true|2=>vx=.bool true|3=>vx=.slice (some ⟨b,oo,none⟩) l.length fk|4=>vx=iI (k:Nat)|5=>vx=iI (j:Nat)|6=>vx=pP b (oo+j * 5)|7=>vx=rwv y|8=>vx=rwv x|9=>vx=iI (zC y x)|10=>vx=.bool (decide (0<=zC y x))|11=>vx=.bool (decide (0<=zC y x))|_=>True:Nat->Value->World->Prop)) jz vs iz vz wz hiz hz) HD.out ⟨Or.inl ⟨rfl,?_⟩,Or.inl ⟨rfl,?_⟩,Or.inl ⟨rfl,?_⟩,Or.inr ⟨2,true,17,rfl,rfl,?_⟩,Or.inr ⟨2,true,17,rfl,rfl,?_⟩,Or.inr ⟨2,true,17,rfl,rfl,?_⟩,Or.inr ⟨2,true,17,rfl,rfl,?_⟩,Or.inr ⟨2,true,17,rfl,rfl,?_⟩,Or.inr ⟨2,true,17,rfl,rfl,?_⟩,Or.inr ⟨2,true,17,rfl,rfl,?_⟩,Or.inr ⟨2,true,17,rfl,rfl,?_⟩,Or.inl ⟨rfl,?_⟩,trivial⟩ ?_
     ·intro vs Wx A hA hB hpre K hK;have e3:=(hA 3).trans (show _=iI (k:Nat) by kernel_rfl);clear hA hpre;go_simp;exact hK _ _ hB rfl (fun _ _ h=>h)
     ·intro vs Wx A hA hB hpre K hK;have e15:=tT (hA 15) (by kernel_rfl) (hpre.1 rfl);clear hA hpre;go_simp;exact hK _ _ hB rfl (fun _ _ h=>h)
     ·intro vs Wx A hA hB hpre K hK;have e16:=tT (hA 16) (by kernel_rfl) (hpre.1 rfl);clear hA hpre;go_simp;exact hK _ _ hB rfl (fun _ _ h=>h)
     ·intro vs Wx A hA hB hpre;have eg:=tT (hA 17) (by kernel_rfl) (hpre.1 rfl);refine ⟨true,eg,fun _ K hK=>?_,fun h=>absurd rfl h⟩;have e0:=(hA 0).trans (show _=Value.slice (some ⟨b,oo,none⟩) l.length fk by kernel_rfl);clear hA hpre;go_simp;exact hK _ _ hB rfl (fun _ _ h=>h)
     ·intro vs Wx A hA hB hpre;have eg:=tT (hA 17) (by kernel_rfl) (hpre.1 rfl);refine ⟨true,eg,fun _ K hK=>?_,fun h=>absurd rfl h⟩;have e3:=(hA 3).trans (show _=iI (k:Nat) by kernel_rfl);clear hA hpre;go_simp;exact hK _ _ hB rfl (fun _ _ h=>h)
     ·intro vs Wx A hA hB hpre;have eg:=tT (hA 17) (by kernel_rfl) (hpre.2.1 rfl);refine ⟨true,eg,fun _ K hK=>?_,fun h=>absurd rfl h⟩;have e19:=tT (hA 19) (by kernel_rfl) (hpre.1 rfl);clear hA hpre;go_simp;exact hK _ _ hB rfl (fun _ _ h=>h)
     ·intro vs Wx A hA hB hpre;have eg:=tT (hA 17) (by kernel_rfl) (hpre.2.2.1 rfl);refine ⟨true,eg,fun _ K hK=>?_,fun h=>absurd rfl h⟩;have e18:=tT (hA 18) (by kernel_rfl) (hpre.1 rfl);have e20:=tT (hA 20) (by kernel_rfl) (hpre.2.1 rfl);clear hA hpre;go_simp;exact hK _ _ hB rfl (fun _ _ h=>h)
     ·intro vs Wx A hA hB hpre;have eg:=tT (hA 17) (by kernel_rfl) (hpre.2.1 rfl);refine ⟨true,eg,fun _ K hK=>?_,fun h=>absurd rfl h⟩;have e21:=tT (hA 21) (by kernel_rfl) (hpre.1 rfl);obtain ⟨⟨x0,x1,x2,x3,x4⟩,⟨y0,y1,y2,y3,y4⟩⟩:=Bt.out Wx hB;clear hA hpre;go_simp;exact hK _ _ hB rfl (fun _ _ h=>h)
     ·intro vs Wx A hA hB hpre;have eg:=tT (hA 17) (by kernel_rfl) (hpre.1 rfl);refine ⟨true,eg,fun _ K hK=>?_,fun h=>absurd rfl h⟩;have e4:=(hA 4).trans (show _=pP p 0 by kernel_rfl);obtain ⟨⟨x0,x1,x2,x3,x4⟩,⟨y0,y1,y2,y3,y4⟩⟩:=Bt.out Wx hB;clear hA hpre;go_simp;exact hK _ _ hB rfl (fun _ _ h=>h)
     ·intro vs Wx A hA hB hpre;have eg:=tT (hA 17) (by kernel_rfl) (hpre.2.2.1 rfl);refine ⟨true,eg,fun _ K hK=>?_,fun h=>absurd rfl h⟩;have e22:=tT (hA 22) (by kernel_rfl) (hpre.1 rfl);have e23:=tT (hA 23) (by kernel_rfl) (hpre.2.1 rfl);clear hA hpre;go_simp;go_at_call 43
      refine (HOr.out _ _ _).mono ?_;rintro e w4 ⟨rfl,hg⟩;exact hK _ _ (jg hB hg) rfl (fun _ _ h=>h)
     ·intro vs Wx A hA hB hpre;have eg:=tT (hA 17) (by kernel_rfl) (hpre.2.1 rfl);refine ⟨true,eg,fun _ K hK=>?_,fun h=>absurd rfl h⟩;have e24:=tT (hA 24) (by kernel_rfl) (hpre.1 rfl);clear hA hpre;go_simp;exact hK _ _ hB rfl (fun _ _ h=>h)
     ·intro vs Wx A hA hB hpre K hK;have e17:=tT (hA 17) (by kernel_rfl) (hpre.1 rfl);have e25:=tT (hA 25) (by kernel_rfl) (hpre.2.1 rfl);clear hA hpre;go_simp;exact hK _ _ hB rfl (fun _ _ h=>h)
     ·intro vs Wx hB hF;have hL:vs 11=.bool (decide (0<=zC y x)):=hF 11 (by decide);have Cn:=zZ (jg HB3.out hB);clear hF hB;simp only [Ri.puts];rw [hL,zD];clear hL;cases hlv:dR y x with
      | true =>
       have HI5:Hid (ckE (prv l (j+1+1)) (l.drop (j+1+1))=C):=(HI4.out.trans (if_pos hlv)).symm;clear HI4;go_simp;go_wp2;go_roundg (l.length - (k+1))
       case measure=>omega
       case rel=>exact ⟨k+1,by first|rfl|go_num|(congr 1;omega),by omega,by omega,Cn.out,by rw [HKJ.out];exact HI5.out⟩
      | false =>
       have HCe:Hid (C=11):=HI4.out.trans (by rw [if_neg (by rw [hlv];decide)]);clear HI4;go_simp;go_wp2;go_ret;exact ⟨by first|(rw [HCe.out];done)|(rw [HCe.out];rfl),Cn.out⟩
  ·have hltz:¬ (k:Int) < (l.length:Int):=by omega
   have HCe:Hid (C=0):=HI.out.symm.trans (kR l k (by omega));go_wp2;go_ret;exact ⟨by first|(rw [HCe.out];done)|(rw [HCe.out];rfl),Co.out⟩
end Ac
end Go.Proofs.YtfbfeoplldjbpaaGreatDoor
