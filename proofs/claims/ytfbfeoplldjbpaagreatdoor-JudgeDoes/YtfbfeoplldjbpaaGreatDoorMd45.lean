/-
  Texts put together (merge.py): HRSetA, HRSetB, HRSettle.
-/
import Derived.Test.YtfbfeoplldjbpaaGreatDoorMd44
set_option linter.unusedSimpArgs false
set_option linter.unusedVariables false
set_option maxHeartbeats 16000000
set_option maxRecDepth 100000
namespace Go.Proofs.YtfbfeoplldjbpaaGreatDoor
namespace Sh
open Go.RowKit
theorem OL (bi al pr de cp cn:Int) (w:World) (bi0:0<=bi) (bi1:bi<=10000000000000) (al0:0<=al) (al1:al<=10000000000000) (pr0:0<=pr) (pr1:pr<=10000000000000) (de0:0<=de) (de1:de<=10000000000000) (cp0:0<=cp) (cp1:cp<=10000000000000) (cn0:0<=cn) (cn1:cn<=10000000000000) (Ca:[bi,al,pr,de,cp,cn].all Ce.good=true) (h1:¬ bi < al) (h2:¬ bi < pr) (h3:¬ al < de+cp+cn) (hr:pr < al) (P D C K:Int) (P0:0<=P) (P1:P<=10000000000000) (D0:0<=D) (D1:D<=10000000000000) (C0:0<=C) (C1:C<=10000000000000) (K0:0<=K) (K1:K<=10000000000000) (L1:Hid (∀w:World,Calls Tryz.prog 100 #[iI (al - de - cp - cn),iI (al - pr)] w fun e w'=>e=.returned (iI P)/\w'=w)) (L2:Hid (∀w:World,Calls Tryz.prog 100 #[iI de,iI ((al - pr) - P)] w fun e w'=>e=.returned (iI D)/\w'=w)) (L3:Hid (∀w:World,Calls Tryz.prog 100 #[iI cp,iI ((al - pr) - P - D)] w fun e w'=>e=.returned (iI C)/\w'=w)) (L4:Hid (∀w:World,Calls Tryz.prog 100 #[iI cn,iI ((al - pr) - P - D - C)] w fun e w'=>e=.returned (iI K)/\w'=w)) :
  Calls Tryz.prog 60 #[iI bi,iI al,iI pr,iI de,iI cp,iI cn] w fun e w'=>e=.returned (.tuple #[.agg #[iI al,iI D,iI C,iI K,iI P,iI (bi - pr - P - D - C - K),iI pr,iI 0],iI 0])/\Below w.heap.size w w':=by
 have HRW:=zZ (fM w #[iI 0,iI 0,iI 0,iI 0,iI 0,iI 0,iI 0,iI 0] (ints [bi,al,pr,de,cp,cn]).toArray 45 2);have HX0:=zZ (tV (fK w #[iI 0,iI 0,iI 0,iI 0,iI 0,iI 0,iI 0,iI 0] 45) (iU (w.alloc (.cells #[iI 0,iI 0,iI 0,iI 0,iI 0,iI 0,iI 0,iI 0] 45)) (.cells #[iI bi,iI al,iI pr,iI de,iI cp,iI cn] 2)));have HB0:=zZ (jg (iU w (.cells #[iI 0,iI 0,iI 0,iI 0,iI 0,iI 0,iI 0,iI 0] 45)) (iU (w.alloc (.cells #[iI 0,iI 0,iI 0,iI 0,iI 0,iI 0,iI 0,iI 0] 45)) (.cells #[iI bi,iI al,iI pr,iI de,iI cp,iI cn] 2)));have CR:Hid (w.heap.size < ((w.alloc (.cells #[iI 0,iI 0,iI 0,iI 0,iI 0,iI 0,iI 0,iI 0] 45)).alloc (.cells #[iI bi,iI al,iI pr,iI de,iI cp,iI cn] 2)).heap.size):=lt_of_block HX0.out;have HA:Hid (Ce.eF (fun i=>[bi,al,pr,de,cp,cn].getD i 0) 6=true):=by
  show _=_;rw [eH [bi,al,pr,de,cp,cn] 6 (by simp)];exact Ca
 clear Ca;go_enter Tryz.func60,Tryz.ntmps60
 go_upto_region 2 with fail
 have HRW':Hid (((w.alloc (.cells #[iI 0,iI 0,iI 0,iI 0,iI 0,iI 0,iI 0,iI 0] 45)).alloc (.cells #[iI bi,iI al,iI pr,iI de,iI cp,iI cn] 2)).heap[w.heap.size+1]?=some (.cells (ints [bi,al,pr,de,cp,cn]).toArray 2 (0,0))):=HRW.out;clear HRW;generalize ((w.alloc (.cells #[iI 0,iI 0,iI 0,iI 0,iI 0,iI 0,iI 0,iI 0] 45)).alloc (.cells #[iI bi,iI al,iI pr,iI de,iI cp,iI cn] 2))=W0 at *;generalize hp:w.heap.size=p at *;generalize hf:(fun i=>[bi,al,pr,de,cp,cn].getD i 0)=f at *;have HC:Hid (∀k,k < 6->W0.cell? ⟨p+1,k,none⟩=some (iI (f k))):=fun k hk=>by rw [←hf];exact ints_at HRW'.out k (by simpa using hk)
 clear hf HRW';go_wp2_with fail
 go_loop [15] (fun i=>∃k:Nat,k<=6/\i=iI k/\Hid (Ce.eF f k=true)) (fun i=>6 - (intOf i).toNat)
 case atStart=>exact ⟨0,Nat.zero_le _,rfl,rfl⟩
 case round =>
  obtain ⟨k,hk,rfl,hg⟩:=hrel;by_cases hlt:k < 6
  ·have hcell:=HC.out k hlt;cases gk:Ce.good (f k)
   ·exact absurd (Ce.eU f 6 k hlt gk) (by rw [HA.out];decide)
   ·go_wp2_with (go_at_call 52;refine (Ce.NM _ _).mono ?_;rintro e w' ⟨rfl,hw⟩;rw [hw];clear hw w')
    go_round
    case rel=>exact ⟨k+1,by omega,by go_num,Ce.eP f k hg.out gk⟩
    case measure=>simp [intOf];omega
  ·have hkk:k=6:=by omega
   subst hkk;clear hlt hk;have HO1:=zZ (fK W0 #[iI al,iI 0,iI 0,iI 0,iI 0,iI 0,iI pr,iI 0] 45);have Cz:=zZ (tV HX0.out (iU W0 (.cells #[iI al,iI 0,iI 0,iI 0,iI 0,iI 0,iI pr,iI 0] 45)));have HB1:=zZ (jc HB0.out (iU W0 (.cells #[iI al,iI 0,iI 0,iI 0,iI 0,iI 0,iI pr,iI 0] 45)) (Nat.le_of_lt CR.out));go_upto_region 13 with fail
   generalize hq:W0.heap.size=q at *;have HPQ:=zZ CR.out;generalize (W0.alloc (.cells #[iI al,iI 0,iI 0,iI 0,iI 0,iI 0,iI pr,iI 0] 45))=w1 at *;obtain ⟨b0,b1,b2,b3,b4,b5,b6,b7⟩:=eight HO1.out;obtain ⟨f0,f1,f2,f3,f4,f5,f6,f7⟩:=frz HO1.out;go_wp2_with fail
   go_at_call 100
   refine (L1.out _).mono ?_;rintro e w' ⟨rfl,hw⟩;rw [hw];clear hw w';go_upto_region 14 with fail
   clear b0 b1 b2 b3 b4 b5 b6 b7 f0 f1 f2 f3 f4 f5 f6 f7;have HX2:=zZ (qL (j:=4) (u:=iI P) Cz.out (Nat.ne_of_lt HPQ.out));have HB2:=zZ (HB1.out.setCell (p:=⟨q,4,none⟩) (Nat.le_of_lt HPQ.out) (iI P));have HO2:Hid ((w1.setCell ⟨q,4,none⟩ (iI P)).heap[q]?=some (.cells #[iI al,iI 0,iI 0,iI 0,iI P,iI 0,iI pr,iI 0] 45 (0,0))):=by show _=_;rw [heap_set HO1.out];rfl
   generalize w1.setCell ⟨q,4,none⟩ (iI P)=w2 at *;obtain ⟨b0,b1,b2,b3,b4,b5,b6,b7⟩:=eight HO2.out;obtain ⟨f0,f1,f2,f3,f4,f5,f6,f7⟩:=frz HO2.out;go_wp2_with fail
   go_at_call 100
   refine (L2.out _).mono ?_;rintro e w' ⟨rfl,hw⟩;rw [hw];clear hw w';go_upto_region 15 with fail
   clear b0 b1 b2 b3 b4 b5 b6 b7 f0 f1 f2 f3 f4 f5 f6 f7;have CK:=zZ (qL (j:=1) (u:=iI D) HX2.out (Nat.ne_of_lt HPQ.out));have HB3:=zZ (HB2.out.setCell (p:=⟨q,1,none⟩) (Nat.le_of_lt HPQ.out) (iI D));have HO3:Hid ((w2.setCell ⟨q,1,none⟩ (iI D)).heap[q]?=some (.cells #[iI al,iI D,iI 0,iI 0,iI P,iI 0,iI pr,iI 0] 45 (0,0))):=by show _=_;rw [heap_set HO2.out];rfl
   generalize w2.setCell ⟨q,1,none⟩ (iI D)=w3 at *;obtain ⟨b0,b1,b2,b3,b4,b5,b6,b7⟩:=eight HO3.out;obtain ⟨f0,f1,f2,f3,f4,f5,f6,f7⟩:=frz HO3.out;go_wp2_with fail
   go_at_call 100
   refine (L3.out _).mono ?_;rintro e w' ⟨rfl,hw⟩;rw [hw];clear hw w';go_upto_region 16 with fail
   clear b0 b1 b2 b3 b4 b5 b6 b7 f0 f1 f2 f3 f4 f5 f6 f7;have HX4:=zZ (qL (j:=2) (u:=iI C) CK.out (Nat.ne_of_lt HPQ.out));have HB4:=zZ (HB3.out.setCell (p:=⟨q,2,none⟩) (Nat.le_of_lt HPQ.out) (iI C));have HO4:Hid ((w3.setCell ⟨q,2,none⟩ (iI C)).heap[q]?=some (.cells #[iI al,iI D,iI C,iI 0,iI P,iI 0,iI pr,iI 0] 45 (0,0))):=by show _=_;rw [heap_set HO3.out];rfl
   generalize w3.setCell ⟨q,2,none⟩ (iI C)=w4 at *;obtain ⟨b0,b1,b2,b3,b4,b5,b6,b7⟩:=eight HO4.out;obtain ⟨f0,f1,f2,f3,f4,f5,f6,f7⟩:=frz HO4.out;go_wp2_with fail
   go_at_call 100
   refine (L4.out _).mono ?_;rintro e w' ⟨rfl,hw⟩;rw [hw];clear hw w';go_upto_region 17 with fail
   clear b0 b1 b2 b3 b4 b5 b6 b7 f0 f1 f2 f3 f4 f5 f6 f7;have HX5:=zZ (qL (j:=3) (u:=iI K) HX4.out (Nat.ne_of_lt HPQ.out));have CF:=zZ (HB4.out.setCell (p:=⟨q,3,none⟩) (Nat.le_of_lt HPQ.out) (iI K));have HO5:Hid ((w4.setCell ⟨q,3,none⟩ (iI K)).heap[q]?=some (.cells #[iI al,iI D,iI C,iI K,iI P,iI 0,iI pr,iI 0] 45 (0,0))):=by show _=_;rw [heap_set HO4.out];rfl
   generalize w4.setCell ⟨q,3,none⟩ (iI K)=w5 at *;obtain ⟨b0,b1,b2,b3,b4,b5,b6,b7⟩:=eight HO5.out;obtain ⟨f0,f1,f2,f3,f4,f5,f6,f7⟩:=frz HO5.out;go_upto_region 18 with fail
   clear b0 b1 b2 b3 b4 b5 b6 b7 f0 f1 f2 f3 f4 f5 f6 f7;have HX6:=zZ (qL (j:=5) (u:=iI (bi - pr - P - D - C - K)) HX5.out (Nat.ne_of_lt HPQ.out));have HB6:=zZ (CF.out.setCell (p:=⟨q,5,none⟩) (Nat.le_of_lt HPQ.out) (iI (bi - pr - P - D - C - K)));have HO6:Hid ((w5.setCell ⟨q,5,none⟩ (iI (bi - pr - P - D - C - K))).heap[q]?=some (.cells #[iI al,iI D,iI C,iI K,iI P,iI (bi - pr - P - D - C - K),iI pr,iI 0] 45 (0,0))):=by show _=_;rw [heap_set HO5.out];rfl
   generalize w5.setCell ⟨q,5,none⟩ (iI (bi - pr - P - D - C - K))=w6 at *;obtain ⟨b0,b1,b2,b3,b4,b5,b6,b7⟩:=eight HO6.out;obtain ⟨f0,f1,f2,f3,f4,f5,f6,f7⟩:=frz HO6.out;obtain ⟨d0,d1,d2,d3,d4,d5,d6,d7⟩:=eight HX6.out;obtain ⟨g0,g1,g2,g3,g4,g5,g6,g7⟩:=frz HX6.out;go_wp2;clear d0 d1 d2 d3 d4 d5 d6 d7 g0 g1 g2 g3 g4 g5 g6 g7;clear b0 b1 b2 b3 b4 b5 b6 b7 f0 f1 f2 f3 f4 f5 f6 f7;generalize Cg:((((((((w6.setCell ⟨p,0,none⟩ (iI al)).setCell ⟨p,1,none⟩ (iI D)).setCell ⟨p,2,none⟩ (iI C)).setCell ⟨p,3,none⟩ (iI K)).setCell ⟨p,4,none⟩ (iI P)).setCell ⟨p,5,none⟩ (iI (bi - pr - P - D - C - K))).setCell ⟨p,6,none⟩ (iI pr)).setCell ⟨p,7,none⟩ (iI 0))=WF at *;have Cy:Hid (WF.heap[p]?=some (.cells #[iI al,iI D,iI C,iI K,iI P,iI (bi - pr - P - D - C - K),iI pr,iI 0] 45 (0,0))):=by rw [←Cg];exact BR HX6.out
   have Cq:Hid (Below p w WF):=by rw [←Cg];exact BP HB6.out p (Nat.le_refl _) _ _ _ _ _ _ _ _
   clear Cg;obtain ⟨b0,b1,b2,b3,b4,b5,b6,b7⟩:=eight Cy.out;try simp only [Exit.inBlock,Exit.then]
   refine bodyPost_ret (v:=.tuple #[.agg #[iI al,iI D,iI C,iI K,iI P,iI (bi - pr - P - D - C - K),iI pr,iI 0],iI 0]) (by simp [results,Tryz.results60,go_sem,b0,b1,b2,b3,b4,b5,b6,b7]) rfl ?_;exact ⟨rfl,by first|exact Cq.out|(rw [hp];exact Cq.out)⟩
end Sh
namespace Sh
open Go.RowKit
theorem OM (bi al pr de cp cn:Int) (w:World) (bi0:0<=bi) (bi1:bi<=10000000000000) (al0:0<=al) (al1:al<=10000000000000) (pr0:0<=pr) (pr1:pr<=10000000000000) (de0:0<=de) (de1:de<=10000000000000) (cp0:0<=cp) (cp1:cp<=10000000000000) (cn0:0<=cn) (cn1:cn<=10000000000000) (Ca:[bi,al,pr,de,cp,cn].all Ce.good=true) (h1:¬ bi < al) (h2:¬ bi < pr) (h3:¬ al < de+cp+cn) (hr:¬ pr < al) (L1:Hid (∀w:World,Calls Tryz.prog 100 #[iI (al - de - cp - cn),iI 0] w fun e w'=>e=.returned (iI 0)/\w'=w)) (L2:Hid (∀w:World,Calls Tryz.prog 100 #[iI de,iI 0] w fun e w'=>e=.returned (iI 0)/\w'=w)) (L3:Hid (∀w:World,Calls Tryz.prog 100 #[iI cp,iI 0] w fun e w'=>e=.returned (iI 0)/\w'=w)) (L4:Hid (∀w:World,Calls Tryz.prog 100 #[iI cn,iI 0] w fun e w'=>e=.returned (iI 0)/\w'=w)) :
  Calls Tryz.prog 60 #[iI bi,iI al,iI pr,iI de,iI cp,iI cn] w fun e w'=>e=.returned (.tuple #[.agg #[iI al,iI 0,iI 0,iI 0,iI 0,iI (bi - pr),iI pr,iI 0],iI 0])/\Below w.heap.size w w':=by
 have HRW:=zZ (fM w #[iI 0,iI 0,iI 0,iI 0,iI 0,iI 0,iI 0,iI 0] (ints [bi,al,pr,de,cp,cn]).toArray 45 2);have HX0:=zZ (tV (fK w #[iI 0,iI 0,iI 0,iI 0,iI 0,iI 0,iI 0,iI 0] 45) (iU (w.alloc (.cells #[iI 0,iI 0,iI 0,iI 0,iI 0,iI 0,iI 0,iI 0] 45)) (.cells #[iI bi,iI al,iI pr,iI de,iI cp,iI cn] 2)));have HB0:=zZ (jg (iU w (.cells #[iI 0,iI 0,iI 0,iI 0,iI 0,iI 0,iI 0,iI 0] 45)) (iU (w.alloc (.cells #[iI 0,iI 0,iI 0,iI 0,iI 0,iI 0,iI 0,iI 0] 45)) (.cells #[iI bi,iI al,iI pr,iI de,iI cp,iI cn] 2)));have CR:Hid (w.heap.size < ((w.alloc (.cells #[iI 0,iI 0,iI 0,iI 0,iI 0,iI 0,iI 0,iI 0] 45)).alloc (.cells #[iI bi,iI al,iI pr,iI de,iI cp,iI cn] 2)).heap.size):=lt_of_block HX0.out;have HA:Hid (Ce.eF (fun i=>[bi,al,pr,de,cp,cn].getD i 0) 6=true):=by
  show _=_;rw [eH [bi,al,pr,de,cp,cn] 6 (by simp)];exact Ca
 clear Ca;go_enter Tryz.func60,Tryz.ntmps60
 go_upto_region 2 with fail
 have HRW':Hid (((w.alloc (.cells #[iI 0,iI 0,iI 0,iI 0,iI 0,iI 0,iI 0,iI 0] 45)).alloc (.cells #[iI bi,iI al,iI pr,iI de,iI cp,iI cn] 2)).heap[w.heap.size+1]?=some (.cells (ints [bi,al,pr,de,cp,cn]).toArray 2 (0,0))):=HRW.out;clear HRW;generalize ((w.alloc (.cells #[iI 0,iI 0,iI 0,iI 0,iI 0,iI 0,iI 0,iI 0] 45)).alloc (.cells #[iI bi,iI al,iI pr,iI de,iI cp,iI cn] 2))=W0 at *;generalize hp:w.heap.size=p at *;generalize hf:(fun i=>[bi,al,pr,de,cp,cn].getD i 0)=f at *;have HC:Hid (∀k,k < 6->W0.cell? ⟨p+1,k,none⟩=some (iI (f k))):=fun k hk=>by rw [←hf];exact ints_at HRW'.out k (by simpa using hk)
 clear hf HRW';go_wp2_with fail
 go_loop [15] (fun i=>∃k:Nat,k<=6/\i=iI k/\Hid (Ce.eF f k=true)) (fun i=>6 - (intOf i).toNat)
 case atStart=>exact ⟨0,Nat.zero_le _,rfl,rfl⟩
 case round =>
  obtain ⟨k,hk,rfl,hg⟩:=hrel;by_cases hlt:k < 6
  ·have hcell:=HC.out k hlt;cases gk:Ce.good (f k)
   ·exact absurd (Ce.eU f 6 k hlt gk) (by rw [HA.out];decide)
   ·go_wp2_with (go_at_call 52;refine (Ce.NM _ _).mono ?_;rintro e w' ⟨rfl,hw⟩;rw [hw];clear hw w')
    go_round
    case rel=>exact ⟨k+1,by omega,by go_num,Ce.eP f k hg.out gk⟩
    case measure=>simp [intOf];omega
  ·have hkk:k=6:=by omega
   subst hkk;clear hlt hk;have HO1:=zZ (fK W0 #[iI al,iI 0,iI 0,iI 0,iI 0,iI 0,iI pr,iI 0] 45);have Cz:=zZ (tV HX0.out (iU W0 (.cells #[iI al,iI 0,iI 0,iI 0,iI 0,iI 0,iI pr,iI 0] 45)));have HB1:=zZ (jc HB0.out (iU W0 (.cells #[iI al,iI 0,iI 0,iI 0,iI 0,iI 0,iI pr,iI 0] 45)) (Nat.le_of_lt CR.out));go_upto_region 13 with fail
   generalize hq:W0.heap.size=q at *;have HPQ:=zZ CR.out;generalize (W0.alloc (.cells #[iI al,iI 0,iI 0,iI 0,iI 0,iI 0,iI pr,iI 0] 45))=w1 at *;obtain ⟨b0,b1,b2,b3,b4,b5,b6,b7⟩:=eight HO1.out;obtain ⟨f0,f1,f2,f3,f4,f5,f6,f7⟩:=frz HO1.out;go_wp2_with fail
   go_at_call 100
   refine (L1.out _).mono ?_;rintro e w' ⟨rfl,hw⟩;rw [hw];clear hw w';go_upto_region 14 with fail
   clear b0 b1 b2 b3 b4 b5 b6 b7 f0 f1 f2 f3 f4 f5 f6 f7;have HX2:=zZ (qL (j:=4) (u:=iI 0) Cz.out (Nat.ne_of_lt HPQ.out));have HB2:=zZ (HB1.out.setCell (p:=⟨q,4,none⟩) (Nat.le_of_lt HPQ.out) (iI 0));have HO2:Hid ((w1.setCell ⟨q,4,none⟩ (iI 0)).heap[q]?=some (.cells #[iI al,iI 0,iI 0,iI 0,iI 0,iI 0,iI pr,iI 0] 45 (0,0))):=by show _=_;rw [heap_set HO1.out];rfl
   generalize w1.setCell ⟨q,4,none⟩ (iI 0)=w2 at *;obtain ⟨b0,b1,b2,b3,b4,b5,b6,b7⟩:=eight HO2.out;obtain ⟨f0,f1,f2,f3,f4,f5,f6,f7⟩:=frz HO2.out;go_wp2_with fail
   go_at_call 100
   refine (L2.out _).mono ?_;rintro e w' ⟨rfl,hw⟩;rw [hw];clear hw w';go_upto_region 15 with fail
   clear b0 b1 b2 b3 b4 b5 b6 b7 f0 f1 f2 f3 f4 f5 f6 f7;have CK:=zZ (qL (j:=1) (u:=iI 0) HX2.out (Nat.ne_of_lt HPQ.out));have HB3:=zZ (HB2.out.setCell (p:=⟨q,1,none⟩) (Nat.le_of_lt HPQ.out) (iI 0));have HO3:Hid ((w2.setCell ⟨q,1,none⟩ (iI 0)).heap[q]?=some (.cells #[iI al,iI 0,iI 0,iI 0,iI 0,iI 0,iI pr,iI 0] 45 (0,0))):=by show _=_;rw [heap_set HO2.out];rfl
   generalize w2.setCell ⟨q,1,none⟩ (iI 0)=w3 at *;obtain ⟨b0,b1,b2,b3,b4,b5,b6,b7⟩:=eight HO3.out;obtain ⟨f0,f1,f2,f3,f4,f5,f6,f7⟩:=frz HO3.out;go_wp2_with fail
   go_at_call 100
   refine (L3.out _).mono ?_;rintro e w' ⟨rfl,hw⟩;rw [hw];clear hw w';go_upto_region 16 with fail
   clear b0 b1 b2 b3 b4 b5 b6 b7 f0 f1 f2 f3 f4 f5 f6 f7;have HX4:=zZ (qL (j:=2) (u:=iI 0) CK.out (Nat.ne_of_lt HPQ.out));have HB4:=zZ (HB3.out.setCell (p:=⟨q,2,none⟩) (Nat.le_of_lt HPQ.out) (iI 0));have HO4:Hid ((w3.setCell ⟨q,2,none⟩ (iI 0)).heap[q]?=some (.cells #[iI al,iI 0,iI 0,iI 0,iI 0,iI 0,iI pr,iI 0] 45 (0,0))):=by show _=_;rw [heap_set HO3.out];rfl
   generalize w3.setCell ⟨q,2,none⟩ (iI 0)=w4 at *;obtain ⟨b0,b1,b2,b3,b4,b5,b6,b7⟩:=eight HO4.out;obtain ⟨f0,f1,f2,f3,f4,f5,f6,f7⟩:=frz HO4.out;go_wp2_with fail
   go_at_call 100
   refine (L4.out _).mono ?_;rintro e w' ⟨rfl,hw⟩;rw [hw];clear hw w';go_upto_region 17 with fail
   clear b0 b1 b2 b3 b4 b5 b6 b7 f0 f1 f2 f3 f4 f5 f6 f7;have HX5:=zZ (qL (j:=3) (u:=iI 0) HX4.out (Nat.ne_of_lt HPQ.out));have CF:=zZ (HB4.out.setCell (p:=⟨q,3,none⟩) (Nat.le_of_lt HPQ.out) (iI 0));have HO5:Hid ((w4.setCell ⟨q,3,none⟩ (iI 0)).heap[q]?=some (.cells #[iI al,iI 0,iI 0,iI 0,iI 0,iI 0,iI pr,iI 0] 45 (0,0))):=by show _=_;rw [heap_set HO4.out];rfl
   generalize w4.setCell ⟨q,3,none⟩ (iI 0)=w5 at *;obtain ⟨b0,b1,b2,b3,b4,b5,b6,b7⟩:=eight HO5.out;obtain ⟨f0,f1,f2,f3,f4,f5,f6,f7⟩:=frz HO5.out;go_upto_region 18 with fail
   clear b0 b1 b2 b3 b4 b5 b6 b7 f0 f1 f2 f3 f4 f5 f6 f7;have HX6:=zZ (qL (j:=5) (u:=iI (bi - pr)) HX5.out (Nat.ne_of_lt HPQ.out));have HB6:=zZ (CF.out.setCell (p:=⟨q,5,none⟩) (Nat.le_of_lt HPQ.out) (iI (bi - pr)));have HO6:Hid ((w5.setCell ⟨q,5,none⟩ (iI (bi - pr))).heap[q]?=some (.cells #[iI al,iI 0,iI 0,iI 0,iI 0,iI (bi - pr),iI pr,iI 0] 45 (0,0))):=by show _=_;rw [heap_set HO5.out];rfl
   generalize w5.setCell ⟨q,5,none⟩ (iI (bi - pr))=w6 at *;obtain ⟨b0,b1,b2,b3,b4,b5,b6,b7⟩:=eight HO6.out;obtain ⟨f0,f1,f2,f3,f4,f5,f6,f7⟩:=frz HO6.out;obtain ⟨d0,d1,d2,d3,d4,d5,d6,d7⟩:=eight HX6.out;obtain ⟨g0,g1,g2,g3,g4,g5,g6,g7⟩:=frz HX6.out;go_wp2;clear d0 d1 d2 d3 d4 d5 d6 d7 g0 g1 g2 g3 g4 g5 g6 g7;clear b0 b1 b2 b3 b4 b5 b6 b7 f0 f1 f2 f3 f4 f5 f6 f7;generalize Cg:((((((((w6.setCell ⟨p,0,none⟩ (iI al)).setCell ⟨p,1,none⟩ (iI 0)).setCell ⟨p,2,none⟩ (iI 0)).setCell ⟨p,3,none⟩ (iI 0)).setCell ⟨p,4,none⟩ (iI 0)).setCell ⟨p,5,none⟩ (iI (bi - pr))).setCell ⟨p,6,none⟩ (iI pr)).setCell ⟨p,7,none⟩ (iI 0))=WF at *;have Cy:Hid (WF.heap[p]?=some (.cells #[iI al,iI 0,iI 0,iI 0,iI 0,iI (bi - pr),iI pr,iI 0] 45 (0,0))):=by rw [←Cg];exact BR HX6.out
   have Cq:Hid (Below p w WF):=by rw [←Cg];exact BP HB6.out p (Nat.le_refl _) _ _ _ _ _ _ _ _
   clear Cg;obtain ⟨b0,b1,b2,b3,b4,b5,b6,b7⟩:=eight Cy.out;try simp only [Exit.inBlock,Exit.then]
   refine bodyPost_ret (v:=.tuple #[.agg #[iI al,iI 0,iI 0,iI 0,iI 0,iI (bi - pr),iI pr,iI 0],iI 0]) (by simp [results,Tryz.results60,go_sem,b0,b1,b2,b3,b4,b5,b6,b7]) rfl ?_;exact ⟨rfl,by first|exact Cq.out|(rw [hp];exact Cq.out)⟩
end Sh
namespace Sh
open Go.RowKit
theorem OW (bi al pr de cp cn:Int) (w:World) :
  Calls Tryz.prog 60 #[iI bi,iI al,iI pr,iI de,iI cp,iI cn] w fun e w'=>e=.returned (.tuple #[.agg #[iI (EW bi al pr de cp cn).al,iI (EW bi al pr de cp cn).de,iI (EW bi al pr de cp cn).cp,iI (EW bi al pr de cp cn).cn,iI (EW bi al pr de cp cn).plan,iI (EW bi al pr de cp cn).wr,iI (EW bi al pr de cp cn).pr,iI (EW bi al pr de cp cn).deny],iI (EP bi al pr de cp cn)])/\Below w.heap.size w w':=by
 cases Ca:[bi,al,pr,de,cp,cn].all Ce.good
 ·have e:=ER Ca;rw [Fj e (by decide),e];exact OQ bi al pr de cp cn w Ca
 obtain ⟨⟨a0,a1⟩,⟨b0,b1⟩,⟨c0',c1⟩,⟨e0,e1⟩,⟨f0,f1⟩,⟨g0,g1⟩⟩:=FN Ca;by_cases h1:bi < al
 ·have e:=EU Ca (Or.inl h1);rw [Fj e (by decide),e];exact OT bi al pr de cp cn w a0 a1 b0 b1 c0' c1 e0 e1 f0 f1 g0 g1 Ca h1
 by_cases h2:bi < pr
 ·have e:=EU Ca (Or.inr (Or.inl h2));rw [Fj e (by decide),e];exact OU bi al pr de cp cn w a0 a1 b0 b1 c0' c1 e0 e1 f0 f1 g0 g1 Ca h1 h2
 by_cases h3:al < de+cp+cn
 ·have e:=EU Ca (Or.inr (Or.inr h3));rw [Fj e (by decide),e];exact OV bi al pr de cp cn w a0 a1 b0 b1 c0' c1 e0 e1 f0 f1 g0 g1 Ca h1 h2 h3
 have e:=ET Ca h1 h2 h3;obtain ⟨r0,r1,r2,q0,q1,q2,q3,q4,q5,q6,q7⟩:=Fg e;have ev:EW bi al pr de cp cn=⟨al,sD al pr de cp cn,sC al pr de cp cn,sK al pr de cp cn,sP al pr de cp cn,bi - pr - sP al pr de cp cn - sD al pr de cp cn - sC al pr de cp cn - sK al pr de cp cn,pr,0⟩:=by unfold EW;rw [if_pos e]
 rw [ev,e];have x0:least (al - de - cp - cn) (rest al pr)=sP al pr de cp cn:=rfl;have x1:least de (rest al pr - sP al pr de cp cn)=sD al pr de cp cn:=rfl;have x2:least cp (rest al pr - sP al pr de cp cn - sD al pr de cp cn)=sC al pr de cp cn:=rfl;have x3:least cn (rest al pr - sP al pr de cp cn - sD al pr de cp cn - sC al pr de cp cn)=sK al pr de cp cn:=rfl;clear ev;have k0':sP al pr de cp cn<=10000000000000:=by omega
 have k1':sD al pr de cp cn<=10000000000000:=by omega
 have k2':sC al pr de cp cn<=10000000000000:=by omega
 have k3':sK al pr de cp cn<=10000000000000:=by omega
 by_cases hr:pr < al
 ·have hR:rest al pr=al - pr:=by unfold rest;rw [if_pos hr]
  rw [hR] at x0 x1 x2 x3;exact OL bi al pr de cp cn w a0 a1 b0 b1 c0' c1 e0 e1 f0 f1 g0 g1 Ca h1 h2 h3 hr _ _ _ _ q0 k0' q1 k1' q2 k2' q3 k3' (LQ _ _ _ x0) (LQ _ _ _ x1) (LQ _ _ _ x2) (LQ _ _ _ x3)
 ·have hR:rest al pr=0:=by unfold rest;rw [if_neg hr]
  rw [hR] at x0 x1 x2 x3;rw [hR] at q7;rw [show sP al pr de cp cn=0 by omega,show sD al pr de cp cn=0 by omega,show sC al pr de cp cn=0 by omega,show sK al pr de cp cn=0 by omega];simp only [Int.sub_zero];have lz (x:Int) (h:0<=x):least x 0=0:=by unfold least;split<;>omega
  exact OM bi al pr de cp cn w a0 a1 b0 b1 c0' c1 e0 e1 f0 f1 g0 g1 Ca h1 h2 h3 hr (LQ _ _ _ (lz _ (by omega))) (LQ _ _ _ (lz _ e0)) (LQ _ _ _ (lz _ f0)) (LQ _ _ _ (lz _ g0))
end Sh
end Go.Proofs.YtfbfeoplldjbpaaGreatDoor
