/-
  Texts put together (merge.py): ZRAllow, JRWhy, CRefPrt.
-/
import Derived.Test.YtfbfeoplldjbpaaGreatDoorMd42
import Derived.Test.YtfbfeoplldjbpaaGreatDoorMd40
import Derived.Test.YtfbfeoplldjbpaaGreatDoorMd41
set_option linter.unusedSimpArgs false
set_option linter.unusedVariables false
set_option maxHeartbeats 16000000
set_option maxRecDepth 100000
namespace Go.Proofs.YtfbfeoplldjbpaaGreatDoor
namespace Fe
open Go.RowKit
open Wo (Wd tV jI jQ qL iU jg)
open Cm (Ln)
def txc (xs:List Tx):List Value:=xs.map fun x=>.string (mk x)
theorem LM:∃i,Tryz.prog.info? 9=some i/\i.zero=some (.string ByteArray.empty)/\i.size=1/\i.bytes=16:=by
 have hi:(Tryz.prog.info? 9).map (fun i=>(i.zero,i.size,i.bytes))=some (some (.string ByteArray.empty),1,16):=by kernel_rfl
 cases hq:Tryz.prog.info? 9 with
 | none=>rw [hq] at hi;cases hi
 | some i =>
  rw [hq] at hi;simp only [Option.map_some,Option.some.injEq,Prod.mk.injEq] at hi;exact ⟨i,rfl,hi⟩
theorem PL {o:Oper} {a:Act} {w:World} {K:Act->World->Prop} {Q:Exit->Act->World->Prop} (s x:Operand) (ho:o.op=.call { callee:=.builtin .append,args:=#[s,x],argTypes:=#[46,46] })
  (B:Nat) (v:Value) (L:List Tx) (hs:a.eval s=v) (hown:w.ownsRow B 9 1 v L.length (txc L)) (ad:Addr) (m c:Nat) (ts:List Tx) (hx:a.eval x=.slice (some ad) m c) (hm:m=ts.length) (h0:0 < ts.length)
  (hc:∀j u,(txc ts)[j]?=some u->w.cell? (ad.add j)=some u) (hbd:L.length+ts.length<=1000000) (hB:B<=w.heap.size)
  (h:∀v' w',w'.ownsRow B 9 1 v' (L ++ ts).length (txc (L ++ ts))->w.grownBy w' v.ownBlock->(v'.ownBlock=v.ownBlock ∨ v'.ownBlock=some w.heap.size)->K (a.put o.dst v') w'):o.wp Tryz.prog a w K Q:=by
 obtain ⟨i,q1,q2,q3,q4⟩:=LM;refine wp_append_lies w s x 46 ho B 9 i _ 1 16 Tryz.underlying46 q1 q2 q3 q4 rfl (by omega) v L.length (txc L) hs hown ad m c (txc ts) hx (by rw [hm];simp [txc]) hc (fun u hu=>by obtain ⟨t,-,rfl⟩:=List.mem_map.1 hu;rfl) (by omega) (by unfold maxLen;omega) (by omega) hB w.heap.size rfl fun g cap w' hown' hg hat _=>?_;refine h _ w' (by rw [show txc (L ++ ts)=txc L ++ txc ts by simp [txc],List.length_append,←hm];exact hown') hg ?_;rcases hat with e|e
 ·exact Or.inl (by rw [e];rfl)
 ·exact Or.inr (by rw [e];rfl)
theorem Pq {w:World} {B:Nat} {v:Value} {L:List Tx} (h:w.ownsRow B 9 1 v L.length (txc L)):dI All w v L:=
 Oq h (fun _ _=>trivial) (fun j u y hu hy=>by
  unfold txc at hu;rw [List.getElem?_map,hy] at hu;exact (Option.some.inj hu).symm)
theorem KE {w:World} {B:Nat} (ty:Nat) (ad:Option Addr) (c:Nat) (v:Value) (n:Nat) (xs:List Value) (hown:w.ownsRow B 9 1 v n xs):(Builtin.append_ #[46,46] ty #[v,.slice ad 0 c]).run Tryz.prog w=.ok v w:=by
 obtain ⟨i,q1,_,q2,_⟩:=LM;rcases hown.2 with ⟨rfl,rfl⟩|⟨g,cap,cur,rfl,_,_,hnc,_⟩
 ·cases ad<;>simp [Builtin.append_,run_underlying Tryz.underlying46,sizeOf,typeInfo,q1,Builtin.lenOf,Builtin.firstCells,loadCells,loadCellsFrom]
 ·cases ad<;>simp [Builtin.append_,run_underlying Tryz.underlying46,sizeOf,typeInfo,q1,Builtin.lenOf,Builtin.firstCells,hnc,storeCells,loadCells,loadCellsFrom]
theorem PN {o:Oper} {a:Act} {w:World} {K:Act->World->Prop} {Q:Exit->Act->World->Prop} (s x:Operand) (ho:o.op=.call { callee:=.builtin .append,args:=#[s,x],argTypes:=#[46,46] })
  (B:Nat) (v:Value) (L:List Tx) (hs:a.eval s=v) (hown:w.ownsRow B 9 1 v L.length (txc L)) (ad:Option Addr) (c:Nat) (ts:List Tx) (hx:a.eval x=.slice ad ts.length c) (ht:dI All w (.slice ad ts.length c) ts) (hbd:L.length+ts.length<=1000000) (hB:B<=w.heap.size)
  (h:∀v' w',w'.ownsRow B 9 1 v' (L ++ ts).length (txc (L ++ ts))->w.grownBy w' v.ownBlock->(v'.ownBlock=v.ownBlock ∨ v'.ownBlock=some w.heap.size)->K (a.put o.dst v') w'):o.wp Tryz.prog a w K Q:=by
 by_cases hm0:ts.length=0
 ·have e2:ts=[]:=List.length_eq_zero_iff.1 hm0;subst e2;have hrun:=KE (w:=w) o.type ad c v L.length (txc L) hown;have hh:=h v w (by rw [List.append_nil];exact hown) ⟨rfl,rfl,rfl,Nat.le_refl _,fun _ _ _=>rfl⟩ (Or.inl rfl);unfold Oper.wp;simp only [List.length_nil] at hx;simp [execOp,ho,resolve,invoke,builtin,hs,hx,hrun,Result.andThen];exact hh
 ·obtain ⟨b,oo,rfl,-,-⟩:=Cm.He ht 0 (by omega);refine PL s x ho B v L hs hown ⟨b,oo,none⟩ ts.length c ts hx rfl (by omega) (fun j u hj=>?_) hbd hB h;rw [show (⟨b,oo,none⟩:Addr).add j=⟨b,oo+j,none⟩ by unfold Addr.add;split<;>simp_all];unfold txc at hj;rw [List.getElem?_map] at hj;cases hq:ts[j]? with
  | none=>rw [hq] at hj;cases hj
  | some t =>
   rw [hq] at hj;obtain rfl:=Option.some.inj hj;have hjl:=(List.getElem?_eq_some_iff.1 hq).1;obtain ⟨b1,o1,e1,e2,e3⟩:=Cm.He ht j hjl;simp only [Option.some.injEq,Addr.mk.injEq,and_true] at e1;obtain ⟨rfl,rfl⟩:=e1;rw [e3];have:ts[j]=t:=Option.some.inj (e2.symm.trans hq);rw [this]
theorem Po {w:World} {b oo n c:Nat} {xs:List Tx} (h:dI All w (.slice (some ⟨b,oo,none⟩) n c) xs) (k:Nat) (hk:k < xs.length):w.cell? ⟨b,oo+k,none⟩=some (.string (mk xs[k])):=by
 obtain ⟨b1,o1,e1,-,e3⟩:=Cm.He h k hk;simp only [Option.some.injEq,Addr.mk.injEq,and_true] at e1;obtain ⟨rfl,rfl⟩:=e1;exact e3
theorem Lj (l:List Cr) (x:Ln) (net:Int) (L:List Tx) (n:Nat) (h:n < L.length):o9 l x net (L.drop n)=if wJ ⟨x.proc,L[n],net,x.date⟩ l=true then wK ⟨x.proc,L[n],net,x.date⟩ l else o9 l x net (L.drop (n+1)):=by
 rw [List.drop_eq_getElem_cons h];rfl
theorem LC {w w':World} {v:Value} {B q:Nat} {e:TypeId} {z n:Nat} {xs:List Value} {o:Obj} (hg:w.grownBy w' v.ownBlock) (ho:w.ownsRow B e z v n xs) (hq:q < B) (h:w.heap[q]?=some o):w'.heap[q]?=some o:=by
 rw [hg.block q (Array.getElem?_eq_some_iff.1 h).1 (fun e=>by have:=(ho.lt q e.symm).1;omega)];exact h
theorem MV (l:List Cr) (v:Value) (x:Ln) (m:Value) (net:Int) (w:World) (h:aU All w v l) (hl:l.length<=281474976710656) (hm:dI All w m x.mods) (hml:x.mods.length<=1000) (hu:x.units<=9223372036854775807) (hu0:-9223372036854775808<=x.units) :
  Calls Tryz.prog 57 #[v,Cm.lnv x m,iI net] w fun e w'=>e=.returned (.tuple #[iI (fP l x net),.bool (Bv l x net)])/\Below w.heap.size w w':=by
 obtain ⟨ma,mc,rfl,hm1,hm2⟩:=Cm.dI.form hm;have hb0:=iU w (.cells #[.string (mk x.proc),.slice ma x.mods.length mc,iI x.date,iI x.units,iI x.Av,iI x.prior] 48);have HZ:=zZ (heap_alloc_new w (.cells #[.string (mk x.proc),.slice ma x.mods.length mc,iI x.date,iI x.units,iI x.Av,iI x.prior] 48));have HB0:=zZ hb0;have HM:=zZ (Hf hm hb0);have HFw:=zZ h;have HSc:=zZ fun (u:Int) W'=>Ce.OH u x.units 1 W' hu (by omega);have HS0:Hid (w.heap.size+1<=(w.alloc (.cells #[.string (mk x.proc),.slice ma x.mods.length mc,iI x.date,iI x.units,iI x.Av,iI x.prior] 48)).heap.size):=by show _<=_;simp
 obtain ⟨fa,fk,rfl,-,-⟩:=h.form;clear h hb0 hm;go_enter Tryz.func57,Tryz.ntmps57
 go_upto_region 1 with fail
 generalize w.alloc (.cells #[.string (mk x.proc),.slice ma x.mods.length mc,iI x.date,iI x.units,iI x.Av,iI x.prior] 48)=W at *;generalize hp:w.heap.size=p at *;obtain ⟨c0,c1,c2,c3,c4,c5⟩:=ku HZ.out;have HNil:Hid (W.ownsRow (p+1) 9 1 (.slice none 0 0) ([]:List Tx).length (txc [])):=World.ownsRow_nil _ _ _ _;have hbd0:([]:List Tx).length+x.mods.length<=1000000:=by simp;omega
 go_wp2_with (at_builtin;refine wpList_plain (by rfl) (fun K hK=>?_);refine PN _ _ (by rfl) (p+1) (.slice none 0 0) [] (by rfl) HNil.out ma mc x.mods (by rfl) HM.out hbd0 HS0.out ?_)
 intro v1 w1 hown hgr hat;have hlow:=qo HNil.out hgr HS0.out;have HB1:=zZ (HB0.out.trans (hlow.mono (Nat.le_succ p)));have HZ1:=zZ (LC hgr HNil.out (Nat.lt_succ_self p) HZ.out);have HS1:Hid (p+1<=w1.heap.size):=Nat.le_trans HS0.out hlow.size;obtain ⟨a1,k1,rfl⟩:=Am hown;have HO1:Hid (w1.ownsRow (p+1) 9 1 (.slice a1 x.mods.length k1) x.mods.length (txc x.mods)):=hown;refine hK _ _ ?_;clear hK hown hgr hat hlow HNil hbd0 c0 c1 c2 c3 c4 c5 HB0 HZ HS0 HM;have hb2:=iU w1 (.cells #[.string ⟨#[]⟩] 9);have HO2:=zZ (Ak HO1.out hb2);have HZ2:=zZ (tV HZ1.out hb2);have HB2:=zZ (HB1.out.trans (hb2.mono (by have:=HS1.out;omega)));have HS2:Hid (p+1<=(w1.alloc (.cells #[.string ⟨#[]⟩] 9)).heap.size):=Nat.le_trans HS1.out hb2.size;have HT2:Hid (dI All (w1.alloc (.cells #[.string ⟨#[]⟩] 9)) (.slice (some ⟨w1.heap.size,0,none⟩) ([[]]:List Tx).length 1) [[]]):=by
  refine ⟨some ⟨w1.heap.size,0,none⟩,1,rfl,by simp,by simp [maxLen],Or.inr ⟨w1.heap.size,0,rfl,trivial,(Array.getElem?_eq_some_iff.1 (heap_alloc_new w1 (.cells #[.string ⟨#[]⟩] 9))).1,fun j t hj=>?_⟩⟩;match j,hj with
  | 0,hj =>
   obtain rfl:[]=t:=Option.some.inj hj;exact ⟨_,(jI (heap_alloc_new w1 (.cells #[.string ⟨#[]⟩] 9))).1,rfl⟩
  | n+1,hj=>simp at hj
 have hbd1:x.mods.length+([[]]:List Tx).length<=1000000:=by simp;omega
 clear hb2;go_wp2_with (at_builtin;refine wpList_plain (by rfl) (fun K hK=>?_);refine PN _ _ (by rfl) (p+1) (.slice a1 x.mods.length k1) x.mods (by rfl) HO2.out (some ⟨w1.heap.size,0,none⟩) 1 [[]] (by rfl) HT2.out hbd1 HS2.out ?_)
 intro v3 w3 hown hgr hat;have hlow:=qo HO2.out hgr HS2.out;have HB3:=zZ (HB2.out.trans (hlow.mono (Nat.le_succ p)));have HZ3:=zZ (LC hgr HO2.out (Nat.lt_succ_self p) HZ2.out);obtain ⟨a3,k3,rfl⟩:=Am hown;have HT3:Hid (dI All w3 (.slice a3 (x.mods.length+1) k3) (x.mods ++ [[]])):=by
  show dI _ _ _ _;have e:x.mods.length+1=(x.mods ++ [[]]).length:=by simp
  rw [e] at hown ⊢;exact Pq hown
 have HPF:Hid (Bz l x net=o9 l x net (x.mods ++ [[]])):=(rfl:Bz l x net=o9 l x net (x.mods ++ [[]]));obtain ⟨L,HL⟩:∃L,Hid (x.mods ++ [[]]=L):=⟨x.mods ++ [[]],(rfl:x.mods ++ [[]]=x.mods ++ [[]])⟩;rw [HL.out] at HT3 HPF;obtain ⟨N,hN0⟩:∃N,x.mods.length+1=N:=⟨_,rfl⟩;have hNl:L.length=N:=by
  have:=congrArg List.length HL.out;rw [List.length_append] at this;simp at this;omega
 have hN1:N<=2000:=by omega
 rw [hN0] at HT3 ⊢;clear hN0;refine hK _ _ ?_;clear hK hown hgr hat hlow HO2 HZ2 HB2 HS2 HT2 hbd1 HO1 HZ1 HB1 HS1 HL;have HLN:=zZ hNl;clear hNl;go_wp2;go_loopg [9] N (fun g i wr=>∃n:Nat,n<=N/\g=N - n/\i=iI (n:Nat)/\Hid (Below w3.heap.size w3 wr)/\Hid (o9 l x net (L.drop n)=o9 l x net L))
 case atStart=>exact ⟨0,Nat.zero_le _,rfl,rfl,Below.refl _ _,rfl⟩
 case round =>
  obtain ⟨n,hn,hgk,rfl,Co,HE⟩:=hrel;by_cases hlt:n < N
  ·have hltz:(n:Int) < (N:Int):=by omega
   have hltL:n < L.length:=by rw [HLN.out];exact hlt
   have HFD:=zZ (Lj l x net L n hltL);obtain ⟨b,oo,rfl,-,-⟩:=Cm.He HT3.out n hltL;have Bt:=zZ fun W' (hW:Below wr.heap.size wr W')=>And.intro (ku (tV HZ3.out (jg Co.out hW))) (Po (Hf HT3.out (jg Co.out hW)) n hltL);have HLk:=zZ fun W' (hW:Below wr.heap.size wr W')=>Ol l ⟨x.proc,L[n],net,x.date⟩ _ W' (HFw.out.Bu (show Below w.heap.size w W' by subst hp;exact jg (jg HB3.out Co.out) hW)) hl;generalize L[n]=t at *;obtain ⟨LB,HLB⟩:∃B,Hid (wJ ⟨x.proc,t,net,x.date⟩ l=B):=⟨_,rfl⟩;obtain ⟨LV,HLV⟩:∃B,Hid (wL ⟨x.proc,t,net,x.date⟩ l=B):=⟨_,rfl⟩;rw [HLB.out] at HFD HLk;rw [HLV.out] at HLk;have HD:=zZ (Below.drew (Below.refl wr.heap.size wr));obtain ⟨wo,hwo⟩:∃z,z=wr:=⟨_,rfl⟩;subst hwo;go_upto_region 7 with fail
   refine Ri.IY (by kernel_rfl) (by kernel_rfl) (by kernel_rfl) (fun Wx=>Below wo.heap.size wo Wx) (fun kz vs wz=>(fun kx vx wx=>match kx with|0=>vx=.slice fa l.length fk|1=>vx=pP p 0|2=>vx=.string (mk x.proc)|3=>vx=.slice (some ⟨b,oo,none⟩) N k3|4=>vx=iI (n:Nat)|5=>vx=pP b (oo+n)|6=>vx=.string (mk t)|7=>vx=iI net|8=>vx=pP p 2|9=>vx=iI x.date|10=>vx=.tuple #[iI LV,.bool LB]|11=>vx=.tuple #[iI LV,.bool LB]|12=>vx=iI LV|13=>vx=.bool LB|14=>vx=iI LV|15=>vx=.bool LB|_=>True:Nat->Value->World->Prop) kz (vs kz) wz) (fun kz=>[kz]) (by kernel_rfl) (fun jz vs iz vz wz hiz hz=>Ri.wI (F:=(fun kx vx wx=>match kx with|0=>vx=.slice fa l.length fk|1=>vx=pP p 0|2=>vx=.string (mk x.proc)|3=>vx=.slice (some ⟨b,oo,none⟩) N k3|4=>vx=iI (n:Nat)|5=>vx=pP b (oo+n)|6=>vx=.string (mk t)|7=>vx=iI net|8=>vx=pP p 2|9=>vx=iI x.date|10=>vx=.tuple #[iI LV,.bool LB]|11=>vx=.tuple #[iI LV,.bool LB]|12=>vx=iI LV|13=>vx=.bool LB|14=>vx=iI LV|15=>vx=.bool LB|_=>True:Nat->Value->World->Prop)) jz vs iz vz wz hiz hz) HD.out ⟨⟨rfl,?_⟩,⟨rfl,?_⟩,⟨rfl,?_⟩,⟨rfl,?_⟩,⟨rfl,?_⟩,⟨rfl,?_⟩,⟨rfl,?_⟩,⟨rfl,?_⟩,⟨rfl,?_⟩,⟨rfl,?_⟩,⟨rfl,?_⟩,⟨rfl,?_⟩,⟨rfl,?_⟩,⟨rfl,?_⟩,⟨rfl,?_⟩,⟨rfl,?_⟩,trivial⟩ ?_
   ·intro vs Wx A hA hB hpre K hK;have e0:=(hA 0).trans (show _=Value.slice fa l.length fk by kernel_rfl);clear hA hpre;go_simp;exact hK _ _ hB rfl (fun _ _ h=>h)
   ·intro vs Wx A hA hB hpre K hK;have e4:=(hA 4).trans (show _=pP p 0 by kernel_rfl);clear hA hpre;go_simp;exact hK _ _ hB rfl (fun _ _ h=>h)
   ·intro vs Wx A hA hB hpre K hK;have e29:=tT (hA 29) (by kernel_rfl) (hpre.1 rfl);obtain ⟨⟨c0,c1,c2,c3,c4,c5⟩,d0⟩:=Bt.out Wx hB;clear hA hpre;go_simp;exact hK _ _ hB rfl (fun _ _ h=>h)
   ·intro vs Wx A hA hB hpre K hK;have e8:=(hA 8).trans (show _=Value.slice (some ⟨b,oo,none⟩) N k3 by kernel_rfl);clear hA hpre;go_simp;exact hK _ _ hB rfl (fun _ _ h=>h)
   ·intro vs Wx A hA hB hpre K hK;have e9:=(hA 9).trans (show _=iI (n:Nat) by kernel_rfl);clear hA hpre;go_simp;exact hK _ _ hB rfl (fun _ _ h=>h)
   ·intro vs Wx A hA hB hpre K hK;have e31:=tT (hA 31) (by kernel_rfl) (hpre.1 rfl);have e32:=tT (hA 32) (by kernel_rfl) (hpre.2.1 rfl);clear hA hpre;go_simp;exact hK _ _ hB rfl (fun _ _ h=>h)
   ·intro vs Wx A hA hB hpre K hK;have e33:=tT (hA 33) (by kernel_rfl) (hpre.1 rfl);obtain ⟨⟨c0,c1,c2,c3,c4,c5⟩,d0⟩:=Bt.out Wx hB;clear hA hpre;go_simp;exact hK _ _ hB rfl (fun _ _ h=>h)
   ·intro vs Wx A hA hB hpre K hK;have e2:=(hA 2).trans (show _=iI net by kernel_rfl);clear hA hpre;go_simp;exact hK _ _ hB rfl (fun _ _ h=>h)
   ·intro vs Wx A hA hB hpre K hK;have e4:=(hA 4).trans (show _=pP p 0 by kernel_rfl);clear hA hpre;go_simp;exact hK _ _ hB rfl (fun _ _ h=>h)
   ·intro vs Wx A hA hB hpre K hK;have e36:=tT (hA 36) (by kernel_rfl) (hpre.1 rfl);obtain ⟨⟨c0,c1,c2,c3,c4,c5⟩,d0⟩:=Bt.out Wx hB;clear hA hpre;go_simp;exact hK _ _ hB rfl (fun _ _ h=>h)
   ·intro vs Wx A hA hB hpre K hK;have e28:=tT (hA 28) (by kernel_rfl) (hpre.1 rfl);have e30:=tT (hA 30) (by kernel_rfl) (hpre.2.1 rfl);have e34:=tT (hA 34) (by kernel_rfl) (hpre.2.2.1 rfl);have e35:=tT (hA 35) (by kernel_rfl) (hpre.2.2.2.1 rfl);have e37:=tT (hA 37) (by kernel_rfl) (hpre.2.2.2.2.1 rfl);clear hA hpre;go_simp;go_at_call 97
    refine (HLk.out _ hB).mono ?_;rintro e w4 ⟨rfl,hg⟩;exact hK _ _ (jg hB hg) rfl (fun _ _ h=>h)
   ·intro vs Wx A hA hB hpre K hK;have e38:=tT (hA 38) (by kernel_rfl) (hpre.1 rfl);clear hA hpre;go_simp;exact hK _ _ hB rfl (fun _ _ h=>h)
   iterate 2
    ·intro vs Wx A hA hB hpre K hK;have e27:=tT (hA 27) (by kernel_rfl) (hpre.1 rfl);clear hA hpre;go_simp;exact hK _ _ hB rfl (fun _ _ h=>h)
   ·intro vs Wx A hA hB hpre K hK;have e39:=tT (hA 39) (by kernel_rfl) (hpre.1 rfl);clear hA hpre;go_simp;exact hK _ _ hB rfl (fun _ _ h=>h)
   ·intro vs Wx A hA hB hpre K hK;have e40:=tT (hA 40) (by kernel_rfl) (hpre.1 rfl);clear hA hpre;go_simp;exact hK _ _ hB rfl (fun _ _ h=>h)
   ·intro vs Wx hB hF;have hL1:vs 14=iI LV:=hF 14 (by decide);have hL2:vs 15=.bool LB:=hF 15 (by decide);have Cn:=zZ (jg Co.out hB);clear hF hB;simp only [Ri.puts];rw [hL1,hL2];clear hL1 hL2 Bt HLk HD;cases LB with
    | false =>
     have HE2:Hid (o9 l x net (L.drop (n+1))=o9 l x net L):=by show _=_;rw [←HE.out,HFD.out];rfl
     clear HE HFD HLB HLV;go_simp;go_wp2;go_roundg (N - (n+1))
     case measure=>omega
     case rel=>exact ⟨n+1,by omega,rfl,by first|rfl|go_num|(congr 1;omega),Cn.out,HE2.out⟩
    | true =>
     obtain ⟨e1,e2⟩:BA l x net=LV/\Bv l x net=true:=by
      unfold BA Bv;rw [HPF.out,←HE.out,HFD.out,if_pos rfl];exact ⟨HLV.out,HLB.out⟩
     have HPB:=zZ e2;have HV:Hid (fP l x net=if Ce.EF LV x.units 1 ≠ 0 ∨ x.Av < Ce.EG LV x.units 1 then x.Av else Ce.EG LV x.units 1):=by show _=_;unfold fP;rw [e2,e1];rfl
     have HS:=zZ (HSc.out LV);obtain ⟨SE,HSE⟩:∃B,Hid (Ce.EF LV x.units 1=B):=⟨_,rfl⟩;obtain ⟨SV,HSV⟩:∃B,Hid (Ce.EG LV x.units 1=B):=⟨_,rfl⟩;rw [HSE.out,HSV.out] at HV HS;have HBE:=zZ (jf hp HB3.out Cn.out);obtain ⟨c0,c1,c2,c3,c4,c5⟩:=ku (tV HZ3.out Cn.out);clear HSc e1 e2 HE HFD HLB HLV HPF HSE HSV;go_simp;by_cases hse:SE=0
     ·have q1:(SE != 0)=false:=by rw [hse];rfl
      by_cases hbl:x.Av < SV
      ·have HV2:Hid (fP l x net=x.Av):=by show _=_;rw [HV.out,if_pos (Or.inr hbl)]
       clear HV hse;go_wp2_with (go_at_call 98;refine (HS.out _).mono ?_;rintro e w5 ⟨rfl,hw5⟩;rw [hw5];clear hw5 w5)
       go_ret2;exact ⟨by rw [HV2.out,HPB.out];first|done|rfl,by first|exact HBE.out|(rw [hp];exact HBE.out)⟩
      ·have HV2:Hid (fP l x net=SV):=by show _=_;rw [HV.out,if_neg (by omega)]
       clear HV hse;go_wp2_with (go_at_call 98;refine (HS.out _).mono ?_;rintro e w5 ⟨rfl,hw5⟩;rw [hw5];clear hw5 w5)
       go_ret2;exact ⟨by rw [HV2.out,HPB.out];first|done|rfl,by first|exact HBE.out|(rw [hp];exact HBE.out)⟩
     ·have q1:(SE != 0)=true:=by simpa using hse
      have HV2:Hid (fP l x net=x.Av):=by show _=_;rw [HV.out,if_pos (Or.inl hse)]
      clear HV hse;go_wp2_with (go_at_call 98;refine (HS.out _).mono ?_;rintro e w5 ⟨rfl,hw5⟩;rw [hw5];clear hw5 w5)
      go_ret2;exact ⟨by rw [HV2.out,HPB.out];first|done|rfl,by first|exact HBE.out|(rw [hp];exact HBE.out)⟩
  ·have hltz:¬ (n:Int) < (N:Int):=by omega
   obtain ⟨e1,e2⟩:Bv l x net=false/\fP l x net=0:=by
    have hd:L.drop n=[]:=List.drop_eq_nil_of_le (by rw [HLN.out];omega);have hz:o9 l x net L=none:=by rw [←HE.out,hd];rfl
    have hb:Bv l x net=false:=by unfold Bv;rw [HPF.out,hz];rfl
    exact ⟨hb,by unfold fP;rw [hb];rfl⟩
   have HV:=zZ (And.intro e1 e2);have HBE:=zZ (jf hp HB3.out Co.out);clear e1 e2 HE HPF;go_wp2;go_ret2;exact ⟨by rw [HV.out.1,HV.out.2];first|done|rfl,by first|exact HBE.out|(rw [hp];exact HBE.out)⟩
end Fe
namespace Ju
open Go.RowKit
open Ac (Row pU dJ dM jF jG DW DU left cu Own tV qL iU jg jf fK)
open Sh (Ot bD bC bK bE EP EW Dt Du member Jj)
open Cm (Ln Cl bH lnv clv bG aC)
theorem OZ (a b c d:Value) (he:a.oneCell'=true) (w:World):(Instr.field 99 (.agg #[a,b,c,d]) 0).run Tryz.prog w=.ok a w:=by
 have hu:Tryz.prog.underlying 99=some _:=Tryz.underlying99;obtain ⟨i,hi,hz⟩:∃i,Tryz.prog.info? 4=some i/\i.size=1:=by
  have h:(Tryz.prog.info? 4).map (·.size)=some 1:=by kernel_rfl
  cases q:Tryz.prog.info? 4 with
  | none=>rw [q] at h;cases h
  | some i=>rw [q] at h;exact ⟨i,rfl,by simpa using h⟩
 simp [Instr.field,run_underlying hu,asAgg,part,sizeOf,typeInfo,hi,hz]
theorem O1 (t:Tb) (c:Cl) (k:Nat) (x:Ln) (mb:Bool) (m mf me ml:Value) (w:World) (hA:dF w m mf me t) (hL:bH All w ml c.lines) (hx:c.lines[k]?=some x) (hz:dG t) (hln:c.lines.length<=281474976710656) (hok:∀y ∈ c.lines,bG y) (hm4:x.mods.length<=1000) :
  Calls Tryz.prog 29 #[.agg #[iI t.plan.mode,iI t.plan.Ay,iI t.plan.AR,iI t.plan.Bb,iI t.plan.AJ,m,mf,me],.agg #[sS c.id,sS c.mem,sS c.Br,iI c.net,iI c.does,sS c.ref,ml],iI (k:Nat),.bool mb] w fun e w'=>e=.returned (iI (Ii t c k x mb))/\Below w.heap.size w w':=by
 obtain ⟨ma,mc,fa,fc,ea,ec,rfl,rfl,rfl⟩:=hA.form;have hkl:k < c.lines.length:=(List.getElem?_eq_some_iff.1 hx).1;obtain ⟨la,lc,rfl,hl1,hl2⟩:=Cm.bH.form hL;obtain ⟨b,lo,mx,rfl,hbl,hxc,hxm⟩:=vZ hL hx;obtain ⟨xa,xc,rfl,-,-⟩:=Cm.dI.form hxm;have hxo:=hok x (List.mem_of_getElem? hx);have HRes:Hid (∀W,Below w.heap.size w W->Calls Tryz.prog 55 #[.agg #[iI t.plan.mode,iI t.plan.Ay,iI t.plan.AR,iI t.plan.Bb,iI t.plan.AJ,.slice ma t.plan.rules.length mc],.agg #[sS x.proc,.slice xa x.mods.length xc,iI x.date,iI x.units,iI x.Av,iI x.prior],iI c.net] W fun e w'=>e=.returned (.agg #[.bool (val t c x 1 == 1),.bool (val t c x 2 == 1),iI (val t c x 3),iI (val t c x 4)])/\Below W.heap.size W w'):=fun W hW=>Ul.OD t.plan _ x _ c.net W (hA.Bu hW).1 (Ul.Hf hxm hW);have HDen:Hid (∀W,Below w.heap.size w W->Calls Tryz.prog 56 #[.slice ea t.edits.length ec,.slice (some ⟨b,lo,none⟩) c.lines.length lc,iI (k:Nat)] W fun e w'=>e=.returned (iI (Ex.mO t.edits c.lines (k:Nat)))/\Below W.heap.size W w'):=fun W hW=>Ex.NH t.edits _ c.lines _ (k:Nat) W (hA.Bu hW).2.2 (Ex.wB hL hW) hz.2.2 hln hok;have HAll:Hid (∀W,Below w.heap.size w W->Calls Tryz.prog 57 #[.slice fa t.Bp.length fc,.agg #[sS x.proc,.slice xa x.mods.length xc,iI x.date,iI x.units,iI x.Av,iI x.prior],iI c.net] W fun e w'=>e=.returned (.tuple #[iI (Fe.fP t.Bp x c.net),.bool (Fe.Bv t.Bp x c.net)])/\Below W.heap.size W w'):=fun W hW=>Fe.MV t.Bp _ x _ c.net W (hA.Bu hW).2.1 hz.1.2 (Ul.Hf hxm hW) hm4 hxo.2.1.2 hxo.2.1.1;have HWy:Hid (Ii t c k x mb=if mb=true then 18 else if (val t c x 1 == 1)=true then (if Ex.mO t.edits c.lines (k:Nat)=0 then (if Fe.Bv t.Bp x c.net=true then 0 else 147) else Ex.mO t.edits c.lines (k:Nat)) else 96):=by show _=_;unfold Ii;simp only [beq_iff_eq]
 have HXC:=zZ fun W (hW:Below w.heap.size w W)=>hxc.of (hW.block b hbl);have hkI:(k:Int) < (c.lines.length:Int):=by omega
 clear hA hL hx hz hln hok hm4 hxo hxc hxm hkl;generalize Ii t c k x mb=WY at *;generalize Ex.mO t.edits c.lines (k:Nat)=DN at *;generalize Fe.Bv t.Bp x c.net=PB at *;generalize Fe.fP t.Bp x c.net=AL at *;generalize (val t c x 1 == 1)=UC at *;generalize (val t c x 2 == 1)=UD at *;generalize val t c x 3=u3 at *;generalize val t c x 4=u4 at *;unfold Cm.bg at HXC;have hbx:Below w.heap.size w ((w.alloc (.cells #[iI t.plan.mode,iI t.plan.Ay,iI t.plan.AR,iI t.plan.Bb,iI t.plan.AJ,.slice ma t.plan.rules.length mc,.slice fa t.Bp.length fc,.slice ea t.edits.length ec] 28)).alloc (.cells #[sS c.id,sS c.mem,sS c.Br,iI c.net,iI c.does,sS c.ref,.slice (some ⟨b,lo,none⟩) c.lines.length lc] 31)):=jg (iU _ _) (iU _ _);have hz1:=tV (fK w #[iI t.plan.mode,iI t.plan.Ay,iI t.plan.AR,iI t.plan.Bb,iI t.plan.AJ,.slice ma t.plan.rules.length mc,.slice fa t.Bp.length fc,.slice ea t.edits.length ec] 28) (iU _ (.cells #[sS c.id,sS c.mem,sS c.Br,iI c.net,iI c.does,sS c.ref,.slice (some ⟨b,lo,none⟩) c.lines.length lc] 31));have hz2:=fK (w.alloc (.cells #[iI t.plan.mode,iI t.plan.Ay,iI t.plan.AR,iI t.plan.Bb,iI t.plan.AJ,.slice ma t.plan.rules.length mc,.slice fa t.Bp.length fc,.slice ea t.edits.length ec] 28)) #[sS c.id,sS c.mem,sS c.Br,iI c.net,iI c.does,sS c.ref,.slice (some ⟨b,lo,none⟩) c.lines.length lc] 31;rw [show (w.alloc (.cells #[iI t.plan.mode,iI t.plan.Ay,iI t.plan.AR,iI t.plan.Bb,iI t.plan.AJ,.slice ma t.plan.rules.length mc,.slice fa t.Bp.length fc,.slice ea t.edits.length ec] 28)).heap.size=w.heap.size+1 by simp] at hz2;have HX:=zZ hz1;have HY:=zZ hz2;have HB0:=zZ hbx;clear hbx hz1 hz2 hbl;go_enter Tryz.func29,Tryz.ntmps29
 go_upto_region 1 with fail
 generalize ((w.alloc (.cells #[iI t.plan.mode,iI t.plan.Ay,iI t.plan.AR,iI t.plan.Bb,iI t.plan.AJ,.slice ma t.plan.rules.length mc,.slice fa t.Bp.length fc,.slice ea t.edits.length ec] 28)).alloc (.cells #[sS c.id,sS c.mem,sS c.Br,iI c.net,iI c.does,sS c.ref,.slice (some ⟨b,lo,none⟩) c.lines.length lc] 31))=W at *;generalize hp:w.heap.size=p at *;obtain ⟨p1,hp1⟩:∃u,u=p+1:=⟨_,rfl⟩;rw [←hp1] at HY ⊢;clear hp1;cases mb with
 | true =>
  have HWz:Hid (WY=18):=by show _=_;rw [HWy.out,if_pos rfl]
  clear HWy HRes HDen HAll;go_wp2;go_ret;exact ⟨(by first|(rw [HWz.out];done)|(rw [HWz.out];rfl)),by first|exact HB0.out|(rw [hp];exact HB0.out)⟩
 | false =>
  rw [if_neg (by decide)] at HWy;go_upto_region 3 with fail
  have Bt:=zZ fun W' (hW:Below W.heap.size W W')=>And.intro (HXC.out W' (jf hp HB0.out hW)) (And.intro (Pl.iR (tV HX.out hW)) (jT (tV HY.out hW)));have HD:=zZ (Below.drew (Below.refl W.heap.size W));go_cut [24] (fun s24 wx=>s24=.bool (!UC)/\Hid (Below W.heap.size W wx))
  case first =>
   refine Ri.IY (by kernel_rfl) (by kernel_rfl) (by kernel_rfl) (fun Wx=>Below W.heap.size W Wx) (fun kz vs wz=>(fun kx vx wx=>match kx with|0=>vx=pP p 0|1=>vx=.agg #[iI t.plan.mode,iI t.plan.Ay,iI t.plan.AR,iI t.plan.Bb,iI t.plan.AJ,.slice ma t.plan.rules.length mc]|2=>vx=pP p1 6|3=>vx=.slice (some ⟨b,lo,none⟩) c.lines.length lc|4=>vx=iI (k:Nat)|5=>vx=pP b (lo+k * 6)|6=>vx=.agg #[sS x.proc,.slice xa x.mods.length xc,iI x.date,iI x.units,iI x.Av,iI x.prior]|7=>vx=pP p1 3|8=>vx=iI c.net|9=>vx=.agg #[.bool UC,.bool UD,iI u3,iI u4]|10=>vx=.bool UC|11=>vx=.bool (!UC)|_=>True:Nat->Value->World->Prop) kz (vs kz) wz) (fun kz=>[kz]) (by kernel_rfl) (fun jz vs iz vz wz hiz hz=>Ri.wI (F:=(fun kx vx wx=>match kx with|0=>vx=pP p 0|1=>vx=.agg #[iI t.plan.mode,iI t.plan.Ay,iI t.plan.AR,iI t.plan.Bb,iI t.plan.AJ,.slice ma t.plan.rules.length mc]|2=>vx=pP p1 6|3=>vx=.slice (some ⟨b,lo,none⟩) c.lines.length lc|4=>vx=iI (k:Nat)|5=>vx=pP b (lo+k * 6)|6=>vx=.agg #[sS x.proc,.slice xa x.mods.length xc,iI x.date,iI x.units,iI x.Av,iI x.prior]|7=>vx=pP p1 3|8=>vx=iI c.net|9=>vx=.agg #[.bool UC,.bool UD,iI u3,iI u4]|10=>vx=.bool UC|11=>vx=.bool (!UC)|_=>True:Nat->Value->World->Prop)) jz vs iz vz wz hiz hz) HD.out ⟨⟨rfl,?_⟩,⟨rfl,?_⟩,⟨rfl,?_⟩,⟨rfl,?_⟩,⟨rfl,?_⟩,⟨rfl,?_⟩,⟨rfl,?_⟩,⟨rfl,?_⟩,⟨rfl,?_⟩,⟨rfl,?_⟩,⟨rfl,?_⟩,⟨rfl,?_⟩,trivial⟩ ?_
   ·intro vs Wx A hA hB hpre K hK;have e4:=(hA 4).trans (show _=pP p 0 by kernel_rfl);clear hA hpre;go_simp;exact hK _ _ hB rfl (fun _ _ h=>h)
   ·intro vs Wx A hA hB hpre K hK;have e13:=tT (hA 13) (by kernel_rfl) (hpre.1 rfl);obtain ⟨⟨l0,l1,l2,l3,l4,l5⟩,⟨x0,x1,x2,x3,x4,x5,x6,x7⟩,y0,y1,y2,y3,y4,y5,y6⟩:=Bt.out Wx hB;clear hA hpre;go_simp;exact hK _ _ hB rfl (fun _ _ h=>h)
   ·intro vs Wx A hA hB hpre K hK;have e5:=(hA 5).trans (show _=pP p1 0 by kernel_rfl);clear hA hpre;go_simp;exact hK _ _ hB rfl (fun _ _ h=>h)
   ·intro vs Wx A hA hB hpre K hK;have e15:=tT (hA 15) (by kernel_rfl) (hpre.1 rfl);obtain ⟨⟨l0,l1,l2,l3,l4,l5⟩,⟨x0,x1,x2,x3,x4,x5,x6,x7⟩,y0,y1,y2,y3,y4,y5,y6⟩:=Bt.out Wx hB;clear hA hpre;go_simp;exact hK _ _ hB rfl (fun _ _ h=>h)
   ·intro vs Wx A hA hB hpre K hK;have e2:=(hA 2).trans (show _=iI (k:Nat) by kernel_rfl);clear hA hpre;go_simp;exact hK _ _ hB rfl (fun _ _ h=>h)
   ·intro vs Wx A hA hB hpre K hK;have e16:=tT (hA 16) (by kernel_rfl) (hpre.1 rfl);have e17:=tT (hA 17) (by kernel_rfl) (hpre.2.1 rfl);clear hA hpre;go_simp;exact hK _ _ hB rfl (fun _ _ h=>h)
   ·intro vs Wx A hA hB hpre K hK;have e18:=tT (hA 18) (by kernel_rfl) (hpre.1 rfl);obtain ⟨⟨l0,l1,l2,l3,l4,l5⟩,⟨x0,x1,x2,x3,x4,x5,x6,x7⟩,y0,y1,y2,y3,y4,y5,y6⟩:=Bt.out Wx hB;clear hA hpre;go_simp;exact hK _ _ hB rfl (fun _ _ h=>h)
   ·intro vs Wx A hA hB hpre K hK;have e5:=(hA 5).trans (show _=pP p1 0 by kernel_rfl);clear hA hpre;go_simp;exact hK _ _ hB rfl (fun _ _ h=>h)
   ·intro vs Wx A hA hB hpre K hK;have e20:=tT (hA 20) (by kernel_rfl) (hpre.1 rfl);obtain ⟨⟨l0,l1,l2,l3,l4,l5⟩,⟨x0,x1,x2,x3,x4,x5,x6,x7⟩,y0,y1,y2,y3,y4,y5,y6⟩:=Bt.out Wx hB;clear hA hpre;go_simp;exact hK _ _ hB rfl (fun _ _ h=>h)
   ·intro vs Wx A hA hB hpre K hK;have e14:=tT (hA 14) (by kernel_rfl) (hpre.1 rfl);have e19:=tT (hA 19) (by kernel_rfl) (hpre.2.1 rfl);have e21:=tT (hA 21) (by kernel_rfl) (hpre.2.2.1 rfl);clear hA hpre;go_simp;go_at_call 55
    refine (HRes.out Wx (jf hp HB0.out hB)).mono ?_;rintro e w3 ⟨rfl,hg⟩;exact hK _ _ (jg hB hg) rfl (fun _ _ h=>h)
   ·intro vs Wx A hA hB hpre K hK;have e22:=tT (hA 22) (by kernel_rfl) (hpre.1 rfl);have hfld:=OZ (.bool UC) (.bool UD) (iI u3) (iI u4) rfl Wx;clear hA hpre;go_simp;exact hK _ _ hB rfl (fun _ _ h=>h)
   ·intro vs Wx A hA hB hpre K hK;have e23:=tT (hA 23) (by kernel_rfl) (hpre.1 rfl);clear hA hpre;go_simp;exact hK _ _ hB rfl (fun _ _ h=>h)
   ·intro vs Wx hB hF;have hq:vs 11=.bool (!UC):=hF 11 (by decide);have Cn:=zZ hB;clear hF hB;simp only [Ri.puts];go_simp;go_wp2_with fail
    go_meet
    exact ⟨by first|exact hq|(go_simp;done)|(go_simp;exact hq),Cn.out⟩
  case rest =>
   obtain ⟨rfl,HB1'⟩:=hcut;obtain ⟨w1,hw1⟩:∃z,z=wc:=⟨_,rfl⟩;subst hw1;have HB1:=zZ (jf hp HB0.out HB1'.out);have Cz:=zZ (tV HX.out HB1'.out);have HY1:=zZ (tV HY.out HB1'.out);clear Bt HD HRes HB1' HB0 HX HY;cases UC with
   | false =>
    have HWz:Hid (WY=96):=by show _=_;rw [HWy.out,if_neg (by decide)]
    clear HWy HDen HAll;simp only [Bool.not_false];go_wp2;go_ret;exact ⟨(by first|(rw [HWz.out];done)|(rw [HWz.out];rfl)),by first|exact HB1.out|(rw [hp];exact HB1.out)⟩
   | true =>
    rw [if_pos rfl] at HWy;simp only [Bool.not_true];obtain ⟨x0,x1,x2,x3,x4,x5,x6,x7⟩:=Pl.iR Cz.out;obtain ⟨y0,y1,y2,y3,y4,y5,y6⟩:=jT HY1.out;go_wp2_with fail
    try (go_at_call 56)
    refine (HDen.out w1 HB1.out).mono ?_;rintro e w2 ⟨rfl,hb2⟩;have HB2:=zZ (jf hp HB1.out hb2);have HX2:=zZ (tV Cz.out hb2);have HY2:=zZ (tV HY1.out hb2);clear hb2 HB1 Cz HY1 HDen x0 x1 x2 x3 x4 x5 x6 x7 y0 y1 y2 y3 y4 y5 y6;by_cases e2:DN=0
    case neg =>
     have q2:(DN != 0)=true:=by simp [e2]
     have HWz:Hid (WY=DN):=by show _=_;rw [HWy.out,if_neg e2]
     clear e2 HWy HAll;go_wp2;go_ret;exact ⟨(by first|(rw [HWz.out];done)|(rw [HWz.out];rfl)),by first|exact HB2.out|(rw [hp];exact HB2.out)⟩
    case pos =>
     have q2:(DN != 0)=false:=by simp [e2]
     rw [if_pos e2] at HWy;clear e2;go_upto_region 8 with fail
     have Bt:=zZ fun W' (hW:Below w2.heap.size w2 W')=>And.intro (HXC.out W' (jf hp HB2.out hW)) (And.intro (Pl.iR (tV HX2.out hW)) (jT (tV HY2.out hW)));have HD:=zZ (Below.drew (Below.refl w2.heap.size w2));go_cut [11] (fun s11 wx=>s11=.bool PB/\Hid (Below w2.heap.size w2 wx))
     case first =>
      refine Ri.IY (by kernel_rfl) (by kernel_rfl) (by kernel_rfl) (fun Wx=>Below w2.heap.size w2 Wx) (fun kz vs wz=>(fun kx vx wx=>match kx with|0=>vx=pP p 6|1=>vx=.slice fa t.Bp.length fc|2=>vx=pP p1 6|3=>vx=.slice (some ⟨b,lo,none⟩) c.lines.length lc|4=>vx=iI (k:Nat)|5=>vx=pP b (lo+k * 6)|6=>vx=.agg #[sS x.proc,.slice xa x.mods.length xc,iI x.date,iI x.units,iI x.Av,iI x.prior]|7=>vx=pP p1 3|8=>vx=iI c.net|9=>vx=.tuple #[iI AL,.bool PB]|10=>vx=.tuple #[iI AL,.bool PB]|11=>vx=iI AL|12=>vx=.bool PB|13=>vx=iI AL|14=>vx=.bool PB|_=>True:Nat->Value->World->Prop) kz (vs kz) wz) (fun kz=>[kz]) (by kernel_rfl) (fun jz vs iz vz wz hiz hz=>Ri.wI (F:=(fun kx vx wx=>match kx with|0=>vx=pP p 6|1=>vx=.slice fa t.Bp.length fc|2=>vx=pP p1 6|3=>vx=.slice (some ⟨b,lo,none⟩) c.lines.length lc|4=>vx=iI (k:Nat)|5=>vx=pP b (lo+k * 6)|6=>vx=.agg #[sS x.proc,.slice xa x.mods.length xc,iI x.date,iI x.units,iI x.Av,iI x.prior]|7=>vx=pP p1 3|8=>vx=iI c.net|9=>vx=.tuple #[iI AL,.bool PB]|10=>vx=.tuple #[iI AL,.bool PB]|11=>vx=iI AL|12=>vx=.bool PB|13=>vx=iI AL|14=>vx=.bool PB|_=>True:Nat->Value->World->Prop)) jz vs iz vz wz hiz hz) HD.out ⟨⟨rfl,?_⟩,⟨rfl,?_⟩,⟨rfl,?_⟩,⟨rfl,?_⟩,⟨rfl,?_⟩,⟨rfl,?_⟩,⟨rfl,?_⟩,⟨rfl,?_⟩,⟨rfl,?_⟩,⟨rfl,?_⟩,⟨rfl,?_⟩,⟨rfl,?_⟩,⟨rfl,?_⟩,⟨rfl,?_⟩,⟨rfl,?_⟩,trivial⟩ ?_
      ·intro vs Wx A hA hB hpre K hK;have e4:=(hA 4).trans (show _=pP p 0 by kernel_rfl);clear hA hpre;go_simp;exact hK _ _ hB rfl (fun _ _ h=>h)
      ·intro vs Wx A hA hB hpre K hK;have e35:=tT (hA 35) (by kernel_rfl) (hpre.1 rfl);obtain ⟨⟨l0,l1,l2,l3,l4,l5⟩,⟨x0,x1,x2,x3,x4,x5,x6,x7⟩,y0,y1,y2,y3,y4,y5,y6⟩:=Bt.out Wx hB;clear hA hpre;go_simp;exact hK _ _ hB rfl (fun _ _ h=>h)
      ·intro vs Wx A hA hB hpre K hK;have e5:=(hA 5).trans (show _=pP p1 0 by kernel_rfl);clear hA hpre;go_simp;exact hK _ _ hB rfl (fun _ _ h=>h)
      ·intro vs Wx A hA hB hpre K hK;have e37:=tT (hA 37) (by kernel_rfl) (hpre.1 rfl);obtain ⟨⟨l0,l1,l2,l3,l4,l5⟩,⟨x0,x1,x2,x3,x4,x5,x6,x7⟩,y0,y1,y2,y3,y4,y5,y6⟩:=Bt.out Wx hB;clear hA hpre;go_simp;exact hK _ _ hB rfl (fun _ _ h=>h)
      ·intro vs Wx A hA hB hpre K hK;have e2:=(hA 2).trans (show _=iI (k:Nat) by kernel_rfl);clear hA hpre;go_simp;exact hK _ _ hB rfl (fun _ _ h=>h)
      ·intro vs Wx A hA hB hpre K hK;have e38:=tT (hA 38) (by kernel_rfl) (hpre.1 rfl);have e39:=tT (hA 39) (by kernel_rfl) (hpre.2.1 rfl);clear hA hpre;go_simp;exact hK _ _ hB rfl (fun _ _ h=>h)
      ·intro vs Wx A hA hB hpre K hK;have e40:=tT (hA 40) (by kernel_rfl) (hpre.1 rfl);obtain ⟨⟨l0,l1,l2,l3,l4,l5⟩,⟨x0,x1,x2,x3,x4,x5,x6,x7⟩,y0,y1,y2,y3,y4,y5,y6⟩:=Bt.out Wx hB;clear hA hpre;go_simp;exact hK _ _ hB rfl (fun _ _ h=>h)
      ·intro vs Wx A hA hB hpre K hK;have e5:=(hA 5).trans (show _=pP p1 0 by kernel_rfl);clear hA hpre;go_simp;exact hK _ _ hB rfl (fun _ _ h=>h)
      ·intro vs Wx A hA hB hpre K hK;have e42:=tT (hA 42) (by kernel_rfl) (hpre.1 rfl);obtain ⟨⟨l0,l1,l2,l3,l4,l5⟩,⟨x0,x1,x2,x3,x4,x5,x6,x7⟩,y0,y1,y2,y3,y4,y5,y6⟩:=Bt.out Wx hB;clear hA hpre;go_simp;exact hK _ _ hB rfl (fun _ _ h=>h)
      ·intro vs Wx A hA hB hpre K hK;have e36:=tT (hA 36) (by kernel_rfl) (hpre.1 rfl);have e41:=tT (hA 41) (by kernel_rfl) (hpre.2.1 rfl);have e43:=tT (hA 43) (by kernel_rfl) (hpre.2.2.1 rfl);clear hA hpre;go_simp;go_at_call 57
       refine (HAll.out Wx (jf hp HB2.out hB)).mono ?_;rintro e w3 ⟨rfl,hg⟩;exact hK _ _ (jg hB hg) rfl (fun _ _ h=>h)
      ·intro vs Wx A hA hB hpre K hK;have e44:=tT (hA 44) (by kernel_rfl) (hpre.1 rfl);clear hA hpre;go_simp;exact hK _ _ hB rfl (fun _ _ h=>h)
      iterate 2
       ·intro vs Wx A hA hB hpre K hK;have e34:=tT (hA 34) (by kernel_rfl) (hpre.1 rfl);clear hA hpre;go_simp;exact hK _ _ hB rfl (fun _ _ h=>h)
      ·intro vs Wx A hA hB hpre K hK;have e45:=tT (hA 45) (by kernel_rfl) (hpre.1 rfl);clear hA hpre;go_simp;exact hK _ _ hB rfl (fun _ _ h=>h)
      ·intro vs Wx A hA hB hpre K hK;have e46:=tT (hA 46) (by kernel_rfl) (hpre.1 rfl);clear hA hpre;go_simp;exact hK _ _ hB rfl (fun _ _ h=>h)
      ·intro vs Wx hB hF;have hq:vs 14=.bool PB:=hF 14 (by decide);have Cn:=zZ hB;clear hF hB;simp only [Ri.puts];go_simp;go_wp2_with fail
       go_meet
       exact ⟨by first|exact hq|(go_simp;done)|(go_simp;exact hq),Cn.out⟩
     case rest =>
      obtain ⟨rfl,HB3'⟩:=hcut;obtain ⟨w3,hw3⟩:∃z,z=wc:=⟨_,rfl⟩;subst hw3;have HB3:=zZ (jf hp HB2.out HB3'.out);have CK:=zZ (tV HX2.out HB3'.out);have HY3:=zZ (tV HY2.out HB3'.out);clear Bt HD HAll HB3' HB2 HX2 HY2;cases PB with
      | false =>
       have HWz:Hid (WY=147):=by show _=_;rw [HWy.out,if_neg (by decide)]
       clear HWy;go_wp2;go_ret;exact ⟨(by first|(rw [HWz.out];done)|(rw [HWz.out];rfl)),by first|exact HB3.out|(rw [hp];exact HB3.out)⟩
      | true =>
       have HWz:Hid (WY=0):=by show _=_;rw [HWy.out,if_pos rfl]
       clear HWy;go_wp2;go_ret;exact ⟨(by first|(rw [HWz.out];done)|(rw [HWz.out];rfl)),by first|exact HB3.out|(rw [hp];exact HB3.out)⟩
end Ju
namespace Ce
open Go.RowKit
theorem Ou (a p:Int) (w:World) :
  Calls Tryz.prog 101 #[iI a,iI p] w fun e w'=>e=.returned (.tuple #[iI (AZ a p),iI (AY a p)])/\w'=w:=by
 by_cases h0:p < 0
 ·have e1:AZ a p=0:=by unfold AZ;rw [if_neg (by omega)]
  have e2:AY a p=1:=by unfold AY;rw [if_neg (by omega)]
  rw [e1,e2];go_enter Tryz.func101,Tryz.ntmps101
  go_wp2;go_ret2;exact ⟨rfl,rfl⟩
 ·by_cases h1:10000 < p
  ·have e1:AZ a p=0:=by unfold AZ;rw [if_neg (by omega)]
   have e2:AY a p=1:=by unfold AY;rw [if_neg (by omega)]
   rw [e1,e2];go_enter Tryz.func101,Tryz.ntmps101
   go_wp2;go_ret2;exact ⟨rfl,rfl⟩
  ·have e1:AZ a p=EG a p 10000:=by unfold AZ;rw [if_pos (by omega)]
   have e2:AY a p=EF a p 10000:=by unfold AY;rw [if_pos (by omega)]
   rw [e1,e2];have hc:=fun w=>OH a p 10000 w (by omega) (by omega);clear e1 e2;go_enter Tryz.func101,Tryz.ntmps101
   go_wp2_with (go_at_call 98;refine (hc _).mono ?_;rintro e w' ⟨rfl,rfl⟩)
   go_ret2;exact ⟨rfl,rfl⟩
end Ce
end Go.Proofs.YtfbfeoplldjbpaaGreatDoor
