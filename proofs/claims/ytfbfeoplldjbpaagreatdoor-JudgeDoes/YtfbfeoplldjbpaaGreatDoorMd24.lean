/-
  Texts put together (merge.py): UTake.
-/
import Derived.Test.YtfbfeoplldjbpaaGreatDoorMd23
set_option linter.unusedSimpArgs false
set_option linter.unusedVariables false
set_option maxHeartbeats 16000000
set_option maxRecDepth 100000
namespace Go.Proofs.YtfbfeoplldjbpaaGreatDoor
namespace Ul
open Go.RowKit
open Pl (Cd St Ru Pn aX dD bY bW Ok1 cdv stv ruv pnv iU jg jv jU iR jf)
open Wo (jI jQ tV qL)
open Cm (Ln)
def stS (R k:Int) (b:Int × Int) (s:St):Int × Int:=if s.what=k/\b.1 < R then (R,s.n) else b
def Fq (R k:Int) (l:List St) (b:Int × Int):Int × Int:=l.foldl (stS R k) b
theorem FB (R k:Int) (l:List St) (b:Int × Int) (j:Nat) (s:St) (h:l[j]?=some s):Fq R k (l.take (j+1)) b=stS R k (Fq R k (l.take j) b) s:=by
 unfold Fq;rw [List.take_add_one,h,List.foldl_append];rfl
theorem Fv (R k:Int):∀(l:List St) (n:Int),Fq R k l (R,n)=(R,n)
 | [],n=>rfl
 | s :: r,n=>by
  show Fq R k r (stS R k (R,n) s)=_;rw [show stS R k (R,n) s=(R,n) by unfold stS;rw [if_neg (by simp)]];exact Fv R k r n
theorem Fz (R k:Int):∀(l:List St) (b:Int × Int),Fq R k l b=if R<=b.1 then b else (match setOf k l with|some n=>(R,n)|none=>b)
 | [],b=>by unfold Fq setOf;simp
 | s :: r,b=>by
  show Fq R k r (stS R k b s)=_;by_cases hw:s.what=k
  ·by_cases hb:b.1 < R
   ·rw [show stS R k b s=(R,s.n) by unfold stS;rw [if_pos ⟨hw,hb⟩],Fv,if_neg (by omega)];simp [setOf,List.find?,hw]
   ·rw [show stS R k b s=b by unfold stS;rw [if_neg (fun h=>hb h.2)],Fz R k r b,if_pos (by omega),if_pos (by omega)]
  ·rw [show stS R k b s=b by unfold stS;rw [if_neg (fun h=>hw h.1)],Fz R k r b];have:setOf k (s :: r)=setOf k r:=by simp [setOf,List.find?,hw]
   rw [this]
theorem Gg (x:Ln) (net k:Int) (b:Int × Int) (r:Ru):F7 x net k b r=if gK x net r=true then Fq r.rank k r.sets b else b:=by
 rw [Fz];unfold F7;by_cases h1:r.rank<=b.1
 ·rw [if_pos h1,if_pos h1];simp
 ·rw [if_neg h1,if_neg h1];cases setOf k r.sets<;>rfl
abbrev chC (a1 a2 a3 a4 v1 v2 v3 v4:Int):Array Value:=#[iI (-1),iI a1,iI a2,iI a3,iI a4,iI 0,iI v1,iI v2,iI v3,iI v4]
def ak (w:World) (q:Nat) (a1 a2 a3 a4 v1 v2 v3 v4:Int):Prop:=w.heap[q]?=some (.cells (chC a1 a2 a3 a4 v1 v2 v3 v4) 135 (0,0))
theorem ak.cells {w:World} {q:Nat} {a1 a2 a3 a4 v1 v2 v3 v4:Int} (h:ak w q a1 a2 a3 a4 v1 v2 v3 v4) :
  w.cell? ⟨q,1,none⟩=some (iI a1)/\w.cell? ⟨q,2,none⟩=some (iI a2)/\w.cell? ⟨q,3,none⟩=some (iI a3)/\w.cell? ⟨q,4,none⟩=some (iI a4)/\w.cell? ⟨q,6,none⟩=some (iI v1)/\w.cell? ⟨q,7,none⟩=some (iI v2)/\w.cell? ⟨q,8,none⟩=some (iI v3)/\w.cell? ⟨q,9,none⟩=some (iI v4):=by
 refine ⟨?_,?_,?_,?_,?_,?_,?_,?_⟩<;>rw [cell_of_row w q _ _ _ (0,0) h]<;>rfl
theorem ak.soft {w:World} {q:Nat} {a1 a2 a3 a4 v1 v2 v3 v4:Int} (h:ak w q a1 a2 a3 a4 v1 v2 v3 v4) (i:Nat):w.frozen? ⟨q,i,none⟩=false:=Lib.frozen_of_heap h i
theorem ak.far {w w':World} {q:Nat} {a1 a2 a3 a4 v1 v2 v3 v4:Int} (h:ak w q a1 a2 a3 a4 v1 v2 v3 v4) (hb:Below w.heap.size w w'):ak w' q a1 a2 a3 a4 v1 v2 v3 v4:=tV h hb
theorem jd {q:Nat} {w w':World} (h:Below q w w') (i:Nat) (v:Value):Below q w (w'.setCell ⟨q,i,none⟩ v):=h.setCell (p:=⟨q,i,none⟩) (Nat.le_refl _) _
theorem iZ {q:Nat} {a b c:World} (h:Below q a b) (hq:q<=b.heap.size) (k:Below b.heap.size b c):Below q a c:=h.trans (k.mono hq)
def f4 (a1 a2 a3 a4:Int) (k:Nat):Int:=match k with|1=>a1|2=>a2|3=>a3|_=>a4
def up (A:Nat->Int) (K:Nat) (x:Int) (k:Nat):Int:=if k=K then x else A k
def ChF (w:World) (q:Nat) (A V:Nat->Int):Prop:=ak w q (A 1) (A 2) (A 3) (A 4) (V 1) (V 2) (V 3) (V 4)
theorem four {K:Nat} (h1:1<=K) (h4:K<=4):K=1 ∨ K=2 ∨ K=3 ∨ K=4:=by omega
theorem kC {w:World} {q:Nat} {A V:Nat->Int} (h:ChF w q A V) {K:Nat} (h1:1<=K) (h4:K<=4):w.cell? ⟨q,K,none⟩=some (iI (A K))/\w.cell? ⟨q,5+K,none⟩=some (iI (V K)):=by
 obtain ⟨c1,c2,c3,c4,d1,d2,d3,d4⟩:=ak.cells h;rcases four h1 h4 with rfl|rfl|rfl|rfl
 ·exact ⟨c1,d1⟩
 ·exact ⟨c2,d2⟩
 ·exact ⟨c3,d3⟩
 ·exact ⟨c4,d4⟩
theorem Hw (A:Nat->Int) (K:Nat):up A K (A K)=A:=by
 funext k
 unfold up;split
 ·next h=>rw [h]
 ·rfl
theorem Ht (A:Nat->Int) (K:Nat) (x:Int):up A K x K=x:=if_pos rfl
theorem kD {w:World} {q:Nat} {A V:Nat->Int} {x:Int} {K:Nat} (h1:1<=K) (h4:K<=4) (h:ChF w q (up A K x) V) (R:Int):ChF (w.setCell ⟨q,K,none⟩ (iI R)) q (up A K R) V:=by
 rcases four h1 h4 with rfl|rfl|rfl|rfl
 ·exact heap_setCell_same w q 1 _ _ _ h
 ·exact heap_setCell_same w q 2 _ _ _ h
 ·exact heap_setCell_same w q 3 _ _ _ h
 ·exact heap_setCell_same w q 4 _ _ _ h
theorem kE {w:World} {q:Nat} {A V:Nat->Int} {x:Int} {K:Nat} (h1:1<=K) (h4:K<=4) (h:ChF w q A (up V K x)) (R:Int):ChF (w.setCell ⟨q,5+K,none⟩ (iI R)) q A (up V K R):=by
 rcases four h1 h4 with rfl|rfl|rfl|rfl
 ·exact heap_setCell_same w q 6 _ _ _ h
 ·exact heap_setCell_same w q 7 _ _ _ h
 ·exact heap_setCell_same w q 8 _ _ _ h
 ·exact heap_setCell_same w q 9 _ _ _ h
theorem FZ {R k:Int} {b:Int × Int} {s:St} (h:¬ (s.what=k/\b.1 < R)):stS R k b s=b:=by unfold stS;rw [if_neg h]
theorem F5 {R:Int} {A V:Nat->Int} {K:Nat} {sn:Int} (h:A K < R) (k:Nat):(up A K R k,up V K sn k)=stS R (k:Nat) (A k,V k) ⟨(K:Nat),sn⟩:=by
 unfold stS up;by_cases hk:k=K
 ·subst hk;rw [if_pos rfl,if_pos rfl,if_pos ⟨rfl,h⟩]
 ·rw [if_neg hk,if_neg hk,if_neg (fun e=>hk (by have:=e.1;simp only at this;omega))]
theorem iA (r:Ru) (k u s:Value) (q:Nat) (a1 a2 a3 a4 v1 v2 v3 v4:Int) (w:World) (hs:dD (fun b=>b < q) w s r.sets) (hch:ak w q a1 a2 a3 a4 v1 v2 v3 v4) :
  Calls Tryz.prog 84 #[pP q 0,ruv r k u s] w fun e w'=>e=.returned (.tuple #[])/\Below q w w' ∧
   ak w' q (Fq r.rank 1 r.sets (a1,v1)).1 (Fq r.rank 2 r.sets (a2,v2)).1 (Fq r.rank 3 r.sets (a3,v3)).1 (Fq r.rank 4 r.sets (a4,v4)).1 (Fq r.rank 1 r.sets (a1,v1)).2 (Fq r.rank 2 r.sets (a2,v2)).2 (Fq r.rank 3 r.sets (a3,v3)).2 (Fq r.rank 4 r.sets (a4,v4)).2:=by
 have hql:q < w.heap.size:=(Array.getElem?_eq_some_iff.1 hch).1;have hb:=iU w (.cells #[iI r.rank,iI r.BS.kind,sS r.BS.lo,sS r.BS.hi,iI r.BS.n,k,u,s] 82);have HX:=zZ (heap_alloc_new w (.cells #[iI r.rank,iI r.BS.kind,sS r.BS.lo,sS r.BS.hi,iI r.BS.n,k,u,s] 82));have HQ:=zZ (hch.far hb);have HB:=zZ (hb.mono (Nat.le_of_lt hql));have HSt:=zZ (hs.move (Below.yu HB.out));have HHS:Hid (q < (w.alloc (.cells #[iI r.rank,iI r.BS.kind,sS r.BS.lo,sS r.BS.hi,iI r.BS.n,k,u,s] 82)).heap.size):=Nat.lt_of_lt_of_le hql hb.size;have HPQ:Hid (w.heap.size ≠ q):=Nat.ne_of_gt hql;obtain ⟨sa,sc,rfl,hs1,hs2,hs3⟩:=hs.form;have hs3:r.sets.length<=281474976710656:=hs3;have HFIN:Hid (∀W A V,ChF W q A V->(∀k:Nat,1<=k->k<=4->(A k,V k)=Fq r.rank (k:Nat) r.sets (f4 a1 a2 a3 a4 k,f4 v1 v2 v3 v4 k)) →
   ak W q (Fq r.rank 1 r.sets (a1,v1)).1 (Fq r.rank 2 r.sets (a2,v2)).1 (Fq r.rank 3 r.sets (a3,v3)).1 (Fq r.rank 4 r.sets (a4,v4)).1 (Fq r.rank 1 r.sets (a1,v1)).2 (Fq r.rank 2 r.sets (a2,v2)).2 (Fq r.rank 3 r.sets (a3,v3)).2 (Fq r.rank 4 r.sets (a4,v4)).2):=by
  intro W A V h e;have e1:_=Fq r.rank 1 r.sets (a1,v1):=e 1 (by decide) (by decide);have e2:_=Fq r.rank 2 r.sets (a2,v2):=e 2 (by decide) (by decide);have e3:_=Fq r.rank 3 r.sets (a3,v3):=e 3 (by decide) (by decide);have e4:_=Fq r.rank 4 r.sets (a4,v4):=e 4 (by decide) (by decide);rw [←e1,←e2,←e3,←e4];exact h
 clear hs hb hch hql;go_enter Tryz.func84,Tryz.ntmps84
 go_upto_region 1 with fail
 generalize w.alloc (.cells #[iI r.rank,iI r.BS.kind,sS r.BS.lo,sS r.BS.hi,iI r.BS.n,k,u,.slice sa r.sets.length sc] 82)=W at *;generalize w.heap.size=p3 at *;obtain ⟨x0,x1,x2,x3,x4,x5,x6,x7⟩:=iR HX.out;have Cn:=zZ (Below.refl q W);go_wp2;go_loopg [9] (r.sets.length) (fun g i wr=>∃(j:Nat) (Af Vf:Nat->Int),j<=r.sets.length/\g=r.sets.length - j/\i=iI j/\Hid (Below q W wr)/\Hid (wr.heap[p3]?=some (.cells #[iI r.rank,iI r.BS.kind,sS r.BS.lo,sS r.BS.hi,iI r.BS.n,k,u,.slice sa r.sets.length sc] 82 (0,0)))/\Hid (ChF wr q Af Vf)/\Hid (∀k:Nat,1<=k->k<=4->(Af k,Vf k)=Fq r.rank (k:Nat) (r.sets.take j) (f4 a1 a2 a3 a4 k,f4 v1 v2 v3 v4 k)))
 case atStart=>exact ⟨0,f4 a1 a2 a3 a4,f4 v1 v2 v3 v4,Nat.zero_le _,rfl,rfl,Cn.out,HX.out,HQ.out,fun k _ _=>rfl⟩
 case round =>
  clear x0 x1 x2 x3 x4 x5 x6 x7 Cn HX HQ;obtain ⟨j,Af,Vf,hj,hgk,rfl,Cv,HX,HQ,EK⟩:=hrel;by_cases hlt:j < r.sets.length
  case neg =>
   have HR:=zZ (HFIN.out wr Af Vf HQ.out (by have:=EK.out;rwa [List.take_of_length_le (by omega)] at this));clear EK;go_wp2;go_end0
   exact ⟨rfl,HB.out.trans Cv.out,HR.out⟩
  obtain ⟨b,o,rfl,hbs,hxx,hc0,hc1,i0,i1⟩:=dD.get (HSt.out.move (Below.yu Cv.out)) j hlt;have NK:Hid (∀k:Nat,1<=k->k<=4->Fq r.rank (k:Nat) (r.sets.take (j+1)) (f4 a1 a2 a3 a4 k,f4 v1 v2 v3 v4 k)=stS r.rank (k:Nat) (Af k,Vf k) r.sets[j]):=fun k h1 h4=>by
   rw [FB r.rank (k:Nat) r.sets _ j _ hxx,←EK.out k h1 h4]
  clear hxx EK i0 i1;generalize r.sets[j]=st at *;obtain ⟨wh,sn⟩:=st;change wr.cell? ⟨b,o+j * 2,none⟩=some (iI wh) at hc0;change wr.cell? ⟨b,o+j * 2+1,none⟩=some (iI sn) at hc1;have hbz:=iU wr (.cells #[iI wh,iI sn] 85);have HZ:=zZ (heap_alloc_new wr (.cells #[iI wh,iI sn] 85));have hqw:q < wr.heap.size:=Nat.lt_of_lt_of_le HHS.out Cv.out.size;have HB3:=zZ (iZ Cv.out (Nat.le_of_lt hqw) hbz);have CK:=zZ (tV HX.out hbz);have HQ3:Hid (ChF _ q Af Vf):=zZ (ak.far HQ.out hbz);have HSQ:Hid (wr.heap.size ≠ q):=Nat.ne_of_gt hqw;have HQL:Hid (q<=(wr.alloc (.cells #[iI wh,iI sn] 85)).heap.size):=Nat.le_of_lt (Nat.lt_of_lt_of_le hqw hbz.size);clear hbz hqw hbs;go_upto_region 4 with fail
  clear hc0 hc1;generalize wr.alloc (.cells #[iI wh,iI sn] 85)=W3 at *;generalize wr.heap.size=s5 at *;clear HX HQ Cv;have HD:=zZ (Below.drew (Below.refl W3.heap.size W3));have Bt:=zZ fun W' (hW:Below W3.heap.size W3 W')=>And.intro (iR (tV CK.out hW)) (And.intro (jQ (tV HZ.out hW)) (ak.far HQ3.out hW));by_cases h1:1<=wh
  case neg =>
   go_cut [32] (fun s wx=>s=.bool false/\Hid (Below W3.heap.size W3 wx))
   case first =>
    refine Ri.I4 (by kernel_rfl) (by kernel_rfl) (by kernel_rfl) (fun Wx=>Below W3.heap.size W3 Wx) (fun kz vs wz=>(fun kx vx wx=>match kx with|0=>vx=pP s5 0|1=>vx=iI wh|2=>vx=.bool false|3=>vx=.bool false|4=>True|5=>True|6=>True|7=>vx=.bool false|8=>vx=.bool false|9=>True|10=>True|11=>True|12=>True|13=>True|14=>True|15=>True|16=>True|17=>True|18=>True|19=>vx=.bool false|_=>True:Nat->Value->World->Prop) kz (vs kz) wz) (fun kz=>[kz]) (by kernel_rfl) (fun jz vs iz vz wz hiz hz=>Ri.wI (F:=(fun kx vx wx=>match kx with|0=>vx=pP s5 0|1=>vx=iI wh|2=>vx=.bool false|3=>vx=.bool false|4=>True|5=>True|6=>True|7=>vx=.bool false|8=>vx=.bool false|9=>True|10=>True|11=>True|12=>True|13=>True|14=>True|15=>True|16=>True|17=>True|18=>True|19=>vx=.bool false|_=>True:Nat->Value->World->Prop)) jz vs iz vz wz hiz hz) HD.out ⟨Or.inl ⟨rfl,?_⟩,Or.inl ⟨rfl,?_⟩,Or.inl ⟨rfl,?_⟩,Or.inl ⟨rfl,?_⟩,Or.inr ⟨3,true,16,rfl,rfl,?_⟩,Or.inr ⟨3,true,16,rfl,rfl,?_⟩,Or.inr ⟨3,true,16,rfl,rfl,?_⟩,Or.inl ⟨rfl,?_⟩,Or.inl ⟨rfl,?_⟩,Or.inr ⟨8,true,21,rfl,rfl,?_⟩,Or.inr ⟨8,true,21,rfl,rfl,?_⟩,Or.inr ⟨8,true,21,rfl,rfl,?_⟩,Or.inr ⟨8,true,21,rfl,rfl,?_⟩,Or.inr ⟨8,true,21,rfl,rfl,?_⟩,Or.inr ⟨8,true,21,rfl,rfl,?_⟩,Or.inr ⟨8,true,21,rfl,rfl,?_⟩,Or.inr ⟨8,true,21,rfl,rfl,?_⟩,Or.inr ⟨8,true,21,rfl,rfl,?_⟩,Or.inr ⟨8,true,21,rfl,rfl,?_⟩,Or.inl ⟨rfl,?_⟩,trivial⟩ ?_
    ·intro vs Wx A hA hB hpre K hK;have e5:=(hA 5).trans (show _=pP s5 0 by kernel_rfl);clear hA hpre;go_simp;exact hK _ _ hB rfl (fun _ _ h=>h)
    ·intro vs Wx A hA hB hpre K hK;have e13:=tT (hA 13) (by kernel_rfl) (hpre.1 rfl);obtain ⟨⟨x0,x1,x2,x3,x4,x5,x6,x7⟩,⟨y0,y1,-,-⟩,hch⟩:=Bt.out Wx hB;clear hA hpre;go_simp;exact hK _ _ hB rfl (fun _ _ h=>h)
    ·intro vs Wx A hA hB hpre K hK;have e14:=tT (hA 14) (by kernel_rfl) (hpre.1 rfl);clear hA hpre;go_simp;exact hK _ _ hB rfl (fun _ _ h=>h)
    ·intro vs Wx A hA hB hpre K hK;have e15:=tT (hA 15) (by kernel_rfl) (hpre.1 rfl);clear hA hpre;go_simp;exact hK _ _ hB rfl (fun _ _ h=>h)
    ·intro vs Wx A hA hB hpre;have eg:=tT (hA 16) (by kernel_rfl) (hpre.1 rfl);exact ⟨false,eg,fun h=>(by cases h),fun _=>trivial⟩
    iterate 2
     ·intro vs Wx A hA hB hpre;have eg:=tT (hA 16) (by kernel_rfl) (hpre.2.1 rfl);exact ⟨false,eg,fun h=>(by cases h),fun _=>trivial⟩
    ·intro vs Wx A hA hB hpre K hK;have e16:=tT (hA 16) (by kernel_rfl) (hpre.1 rfl);clear hA hpre;go_simp;exact hK _ _ hB rfl (fun _ _ h=>h)
    ·intro vs Wx A hA hB hpre K hK;have e20:=tT (hA 20) (by kernel_rfl) (hpre.1 rfl);clear hA hpre;go_simp;exact hK _ _ hB rfl (fun _ _ h=>h)
    ·intro vs Wx A hA hB hpre;have eg:=tT (hA 21) (by kernel_rfl) (hpre.1 rfl);exact ⟨false,eg,fun h=>(by cases h),fun _=>trivial⟩
    ·intro vs Wx A hA hB hpre;have eg:=tT (hA 21) (by kernel_rfl) (hpre.2.1 rfl);exact ⟨false,eg,fun h=>(by cases h),fun _=>trivial⟩
    iterate 2
     ·intro vs Wx A hA hB hpre;have eg:=tT (hA 21) (by kernel_rfl) (hpre.1 rfl);exact ⟨false,eg,fun h=>(by cases h),fun _=>trivial⟩
    iterate 3
     ·intro vs Wx A hA hB hpre;have eg:=tT (hA 21) (by kernel_rfl) (hpre.2.1 rfl);exact ⟨false,eg,fun h=>(by cases h),fun _=>trivial⟩
    ·intro vs Wx A hA hB hpre;have eg:=tT (hA 21) (by kernel_rfl) (hpre.2.2.1 rfl);exact ⟨false,eg,fun h=>(by cases h),fun _=>trivial⟩
    ·intro vs Wx A hA hB hpre;have eg:=tT (hA 21) (by kernel_rfl) (hpre.2.1 rfl);exact ⟨false,eg,fun h=>(by cases h),fun _=>trivial⟩
    ·intro vs Wx A hA hB hpre;have eg:=tT (hA 21) (by kernel_rfl) (hpre.2.2.1 rfl);exact ⟨false,eg,fun h=>(by cases h),fun _=>trivial⟩
    ·intro vs Wx A hA hB hpre K hK;have e21:=tT (hA 21) (by kernel_rfl) (hpre.1 rfl);clear hA hpre;go_simp;exact hK _ _ hB rfl (fun _ _ h=>h)
    ·intro vs Wx hB hF;have h32:vs 19=.bool false:=hF 19 (by decide);have Cn:=zZ hB;clear hF hB;simp only [Ri.puts];go_simp;go_wp2_with fail
     go_meet
     exact ⟨by first|rfl|exact h32,Cn.out⟩
   case rest =>
    obtain ⟨rfl,HBx⟩:=hcut;have HXx:=zZ (tV CK.out HBx.out);have HQx:Hid (ChF wc q Af Vf):=zZ (ak.far HQ3.out HBx.out);have Co:=zZ (iZ HB3.out HQL.out HBx.out);clear Bt HD;go_wp2;go_roundg (r.sets.length - (j+1))
    case rel=>exact ⟨j+1,Af,Vf,by omega,rfl,by go_num,Co.out,HXx.out,HQx.out,fun k e1 e4=>by rw [NK.out k e1 e4,FZ];rintro ⟨e,-⟩;simp only at e;omega⟩
    case measure=>omega
  by_cases h4:wh<=4
  case neg =>
   go_cut [32] (fun s wx=>s=.bool false/\Hid (Below W3.heap.size W3 wx))
   case first =>
    refine Ri.I4 (by kernel_rfl) (by kernel_rfl) (by kernel_rfl) (fun Wx=>Below W3.heap.size W3 Wx) (fun kz vs wz=>(fun kx vx wx=>match kx with|0=>vx=pP s5 0|1=>vx=iI wh|2=>vx=.bool true|3=>vx=.bool true|4=>vx=pP s5 0|5=>vx=iI wh|6=>vx=.bool false|7=>vx=.bool false|8=>vx=.bool false|9=>True|10=>True|11=>True|12=>True|13=>True|14=>True|15=>True|16=>True|17=>True|18=>True|19=>vx=.bool false|_=>True:Nat->Value->World->Prop) kz (vs kz) wz) (fun kz=>[kz]) (by kernel_rfl) (fun jz vs iz vz wz hiz hz=>Ri.wI (F:=(fun kx vx wx=>match kx with|0=>vx=pP s5 0|1=>vx=iI wh|2=>vx=.bool true|3=>vx=.bool true|4=>vx=pP s5 0|5=>vx=iI wh|6=>vx=.bool false|7=>vx=.bool false|8=>vx=.bool false|9=>True|10=>True|11=>True|12=>True|13=>True|14=>True|15=>True|16=>True|17=>True|18=>True|19=>vx=.bool false|_=>True:Nat->Value->World->Prop)) jz vs iz vz wz hiz hz) HD.out ⟨Or.inl ⟨rfl,?_⟩,Or.inl ⟨rfl,?_⟩,Or.inl ⟨rfl,?_⟩,Or.inl ⟨rfl,?_⟩,Or.inr ⟨3,true,16,rfl,rfl,?_⟩,Or.inr ⟨3,true,16,rfl,rfl,?_⟩,Or.inr ⟨3,true,16,rfl,rfl,?_⟩,Or.inl ⟨rfl,?_⟩,Or.inl ⟨rfl,?_⟩,Or.inr ⟨8,true,21,rfl,rfl,?_⟩,Or.inr ⟨8,true,21,rfl,rfl,?_⟩,Or.inr ⟨8,true,21,rfl,rfl,?_⟩,Or.inr ⟨8,true,21,rfl,rfl,?_⟩,Or.inr ⟨8,true,21,rfl,rfl,?_⟩,Or.inr ⟨8,true,21,rfl,rfl,?_⟩,Or.inr ⟨8,true,21,rfl,rfl,?_⟩,Or.inr ⟨8,true,21,rfl,rfl,?_⟩,Or.inr ⟨8,true,21,rfl,rfl,?_⟩,Or.inr ⟨8,true,21,rfl,rfl,?_⟩,Or.inl ⟨rfl,?_⟩,trivial⟩ ?_
    ·intro vs Wx A hA hB hpre K hK;have e5:=(hA 5).trans (show _=pP s5 0 by kernel_rfl);clear hA hpre;go_simp;exact hK _ _ hB rfl (fun _ _ h=>h)
    ·intro vs Wx A hA hB hpre K hK;have e13:=tT (hA 13) (by kernel_rfl) (hpre.1 rfl);obtain ⟨⟨x0,x1,x2,x3,x4,x5,x6,x7⟩,⟨y0,y1,-,-⟩,hch⟩:=Bt.out Wx hB;clear hA hpre;go_simp;exact hK _ _ hB rfl (fun _ _ h=>h)
    ·intro vs Wx A hA hB hpre K hK;have e14:=tT (hA 14) (by kernel_rfl) (hpre.1 rfl);clear hA hpre;go_simp;exact hK _ _ hB rfl (fun _ _ h=>h)
    ·intro vs Wx A hA hB hpre K hK;have e15:=tT (hA 15) (by kernel_rfl) (hpre.1 rfl);clear hA hpre;go_simp;exact hK _ _ hB rfl (fun _ _ h=>h)
    ·intro vs Wx A hA hB hpre;have eg:=tT (hA 16) (by kernel_rfl) (hpre.1 rfl);refine ⟨true,eg,fun _ K hK=>?_,fun h=>absurd rfl h⟩;have e5:=(hA 5).trans (show _=pP s5 0 by kernel_rfl);clear hA hpre;go_simp;exact hK _ _ hB rfl (fun _ _ h=>h)
    ·intro vs Wx A hA hB hpre;have eg:=tT (hA 16) (by kernel_rfl) (hpre.2.1 rfl);refine ⟨true,eg,fun _ K hK=>?_,fun h=>absurd rfl h⟩;have e17:=tT (hA 17) (by kernel_rfl) (hpre.1 rfl);obtain ⟨⟨x0,x1,x2,x3,x4,x5,x6,x7⟩,⟨y0,y1,-,-⟩,hch⟩:=Bt.out Wx hB;clear hA hpre;go_simp;exact hK _ _ hB rfl (fun _ _ h=>h)
    ·intro vs Wx A hA hB hpre;have eg:=tT (hA 16) (by kernel_rfl) (hpre.2.1 rfl);refine ⟨true,eg,fun _ K hK=>?_,fun h=>absurd rfl h⟩;have e18:=tT (hA 18) (by kernel_rfl) (hpre.1 rfl);clear hA hpre;go_simp;exact hK _ _ hB rfl (fun _ _ h=>h)
    ·intro vs Wx A hA hB hpre K hK;have e16:=tT (hA 16) (by kernel_rfl) (hpre.1 rfl);have e19:=tT (hA 19) (by kernel_rfl) (hpre.2.1 rfl);clear hA hpre;go_simp;exact hK _ _ hB rfl (fun _ _ h=>h)
    ·intro vs Wx A hA hB hpre K hK;have e20:=tT (hA 20) (by kernel_rfl) (hpre.1 rfl);clear hA hpre;go_simp;exact hK _ _ hB rfl (fun _ _ h=>h)
    ·intro vs Wx A hA hB hpre;have eg:=tT (hA 21) (by kernel_rfl) (hpre.1 rfl);exact ⟨false,eg,fun h=>(by cases h),fun _=>trivial⟩
    ·intro vs Wx A hA hB hpre;have eg:=tT (hA 21) (by kernel_rfl) (hpre.2.1 rfl);exact ⟨false,eg,fun h=>(by cases h),fun _=>trivial⟩
    iterate 2
     ·intro vs Wx A hA hB hpre;have eg:=tT (hA 21) (by kernel_rfl) (hpre.1 rfl);exact ⟨false,eg,fun h=>(by cases h),fun _=>trivial⟩
    iterate 3
     ·intro vs Wx A hA hB hpre;have eg:=tT (hA 21) (by kernel_rfl) (hpre.2.1 rfl);exact ⟨false,eg,fun h=>(by cases h),fun _=>trivial⟩
    ·intro vs Wx A hA hB hpre;have eg:=tT (hA 21) (by kernel_rfl) (hpre.2.2.1 rfl);exact ⟨false,eg,fun h=>(by cases h),fun _=>trivial⟩
    ·intro vs Wx A hA hB hpre;have eg:=tT (hA 21) (by kernel_rfl) (hpre.2.1 rfl);exact ⟨false,eg,fun h=>(by cases h),fun _=>trivial⟩
    ·intro vs Wx A hA hB hpre;have eg:=tT (hA 21) (by kernel_rfl) (hpre.2.2.1 rfl);exact ⟨false,eg,fun h=>(by cases h),fun _=>trivial⟩
    ·intro vs Wx A hA hB hpre K hK;have e21:=tT (hA 21) (by kernel_rfl) (hpre.1 rfl);clear hA hpre;go_simp;exact hK _ _ hB rfl (fun _ _ h=>h)
    ·intro vs Wx hB hF;have h32:vs 19=.bool false:=hF 19 (by decide);have Cn:=zZ hB;clear hF hB;simp only [Ri.puts];go_simp;go_wp2_with fail
     go_meet
     exact ⟨by first|rfl|exact h32,Cn.out⟩
   case rest =>
    obtain ⟨rfl,HBx⟩:=hcut;have HXx:=zZ (tV CK.out HBx.out);have HQx:Hid (ChF wc q Af Vf):=zZ (ak.far HQ3.out HBx.out);have Co:=zZ (iZ HB3.out HQL.out HBx.out);clear Bt HD;go_wp2;go_roundg (r.sets.length - (j+1))
    case rel=>exact ⟨j+1,Af,Vf,by omega,rfl,by go_num,Co.out,HXx.out,HQx.out,fun k e1 e4=>by rw [NK.out k e1 e4,FZ];rintro ⟨e,-⟩;simp only at e;omega⟩
    case measure=>omega
  obtain ⟨Kx,rfl⟩:∃Kx:Nat,wh=(Kx:Nat):=⟨wh.toNat,by omega⟩;have hk1:1<=Kx:=by omega
  have hk4:Kx<=4:=by omega
  have hk5:Kx < 5:=by omega
  have hk5z:(Kx:Int) < 5:=by omega
  by_cases hgt:Af Kx < r.rank
  case neg =>
   go_cut [32] (fun s wx=>s=.bool false/\Hid (Below W3.heap.size W3 wx))
   case first =>
    refine Ri.I4 (by kernel_rfl) (by kernel_rfl) (by kernel_rfl) (fun Wx=>Below W3.heap.size W3 Wx) (fun kz vs wz=>(fun kx vx wx=>match kx with|0=>vx=pP s5 0|1=>vx=iI (Kx:Nat)|2=>vx=.bool true|3=>vx=.bool true|4=>vx=pP s5 0|5=>vx=iI (Kx:Nat)|6=>vx=.bool true|7=>vx=.bool true|8=>vx=.bool true|9=>vx=pP p3 0|10=>vx=iI r.rank|11=>vx=pP q 0|12=>vx=pP s5 0|13=>vx=iI (Kx:Nat)|14=>vx=pP q 0|15=>vx=pP q 0|16=>vx=pP q Kx|17=>vx=iI (Af Kx)|18=>vx=.bool false|19=>vx=.bool false|_=>True:Nat->Value->World->Prop) kz (vs kz) wz) (fun kz=>[kz]) (by kernel_rfl) (fun jz vs iz vz wz hiz hz=>Ri.wI (F:=(fun kx vx wx=>match kx with|0=>vx=pP s5 0|1=>vx=iI (Kx:Nat)|2=>vx=.bool true|3=>vx=.bool true|4=>vx=pP s5 0|5=>vx=iI (Kx:Nat)|6=>vx=.bool true|7=>vx=.bool true|8=>vx=.bool true|9=>vx=pP p3 0|10=>vx=iI r.rank|11=>vx=pP q 0|12=>vx=pP s5 0|13=>vx=iI (Kx:Nat)|14=>vx=pP q 0|15=>vx=pP q 0|16=>vx=pP q Kx|17=>vx=iI (Af Kx)|18=>vx=.bool false|19=>vx=.bool false|_=>True:Nat->Value->World->Prop)) jz vs iz vz wz hiz hz) HD.out ⟨Or.inl ⟨rfl,?_⟩,Or.inl ⟨rfl,?_⟩,Or.inl ⟨rfl,?_⟩,Or.inl ⟨rfl,?_⟩,Or.inr ⟨3,true,16,rfl,rfl,?_⟩,Or.inr ⟨3,true,16,rfl,rfl,?_⟩,Or.inr ⟨3,true,16,rfl,rfl,?_⟩,Or.inl ⟨rfl,?_⟩,Or.inl ⟨rfl,?_⟩,Or.inr ⟨8,true,21,rfl,rfl,?_⟩,Or.inr ⟨8,true,21,rfl,rfl,?_⟩,Or.inr ⟨8,true,21,rfl,rfl,?_⟩,Or.inr ⟨8,true,21,rfl,rfl,?_⟩,Or.inr ⟨8,true,21,rfl,rfl,?_⟩,Or.inr ⟨8,true,21,rfl,rfl,?_⟩,Or.inr ⟨8,true,21,rfl,rfl,?_⟩,Or.inr ⟨8,true,21,rfl,rfl,?_⟩,Or.inr ⟨8,true,21,rfl,rfl,?_⟩,Or.inr ⟨8,true,21,rfl,rfl,?_⟩,Or.inl ⟨rfl,?_⟩,trivial⟩ ?_
    ·intro vs Wx A hA hB hpre K hK;have e5:=(hA 5).trans (show _=pP s5 0 by kernel_rfl);clear hA hpre;go_simp;exact hK _ _ hB rfl (fun _ _ h=>h)
    ·intro vs Wx A hA hB hpre K hK;have e13:=tT (hA 13) (by kernel_rfl) (hpre.1 rfl);obtain ⟨⟨x0,x1,x2,x3,x4,x5,x6,x7⟩,⟨y0,y1,-,-⟩,hch⟩:=Bt.out Wx hB;clear hA hpre;go_simp;exact hK _ _ hB rfl (fun _ _ h=>h)
    ·intro vs Wx A hA hB hpre K hK;have e14:=tT (hA 14) (by kernel_rfl) (hpre.1 rfl);clear hA hpre;go_simp;exact hK _ _ hB rfl (fun _ _ h=>h)
    ·intro vs Wx A hA hB hpre K hK;have e15:=tT (hA 15) (by kernel_rfl) (hpre.1 rfl);clear hA hpre;go_simp;exact hK _ _ hB rfl (fun _ _ h=>h)
    ·intro vs Wx A hA hB hpre;have eg:=tT (hA 16) (by kernel_rfl) (hpre.1 rfl);refine ⟨true,eg,fun _ K hK=>?_,fun h=>absurd rfl h⟩;have e5:=(hA 5).trans (show _=pP s5 0 by kernel_rfl);clear hA hpre;go_simp;exact hK _ _ hB rfl (fun _ _ h=>h)
    ·intro vs Wx A hA hB hpre;have eg:=tT (hA 16) (by kernel_rfl) (hpre.2.1 rfl);refine ⟨true,eg,fun _ K hK=>?_,fun h=>absurd rfl h⟩;have e17:=tT (hA 17) (by kernel_rfl) (hpre.1 rfl);obtain ⟨⟨x0,x1,x2,x3,x4,x5,x6,x7⟩,⟨y0,y1,-,-⟩,hch⟩:=Bt.out Wx hB;clear hA hpre;go_simp;exact hK _ _ hB rfl (fun _ _ h=>h)
    ·intro vs Wx A hA hB hpre;have eg:=tT (hA 16) (by kernel_rfl) (hpre.2.1 rfl);refine ⟨true,eg,fun _ K hK=>?_,fun h=>absurd rfl h⟩;have e18:=tT (hA 18) (by kernel_rfl) (hpre.1 rfl);clear hA hpre;go_simp;exact hK _ _ hB rfl (fun _ _ h=>h)
    ·intro vs Wx A hA hB hpre K hK;have e16:=tT (hA 16) (by kernel_rfl) (hpre.1 rfl);have e19:=tT (hA 19) (by kernel_rfl) (hpre.2.1 rfl);clear hA hpre;go_simp;exact hK _ _ hB rfl (fun _ _ h=>h)
    ·intro vs Wx A hA hB hpre K hK;have e20:=tT (hA 20) (by kernel_rfl) (hpre.1 rfl);clear hA hpre;go_simp;exact hK _ _ hB rfl (fun _ _ h=>h)
    ·intro vs Wx A hA hB hpre;have eg:=tT (hA 21) (by kernel_rfl) (hpre.1 rfl);refine ⟨true,eg,fun _ K hK=>?_,fun h=>absurd rfl h⟩;have e3:=(hA 3).trans (show _=pP p3 0 by kernel_rfl);clear hA hpre;go_simp;exact hK _ _ hB rfl (fun _ _ h=>h)
    ·intro vs Wx A hA hB hpre;have eg:=tT (hA 21) (by kernel_rfl) (hpre.2.1 rfl);refine ⟨true,eg,fun _ K hK=>?_,fun h=>absurd rfl h⟩;have e22:=tT (hA 22) (by kernel_rfl) (hpre.1 rfl);obtain ⟨⟨x0,x1,x2,x3,x4,x5,x6,x7⟩,⟨y0,y1,-,-⟩,hch⟩:=Bt.out Wx hB;clear hA hpre;go_simp;exact hK _ _ hB rfl (fun _ _ h=>h)
    ·intro vs Wx A hA hB hpre;have eg:=tT (hA 21) (by kernel_rfl) (hpre.1 rfl);refine ⟨true,eg,fun _ K hK=>?_,fun h=>absurd rfl h⟩;have e0:=(hA 0).trans (show _=pP q 0 by kernel_rfl);clear hA hpre;go_simp;exact hK _ _ hB rfl (fun _ _ h=>h)
    ·intro vs Wx A hA hB hpre;have eg:=tT (hA 21) (by kernel_rfl) (hpre.1 rfl);refine ⟨true,eg,fun _ K hK=>?_,fun h=>absurd rfl h⟩;have e5:=(hA 5).trans (show _=pP s5 0 by kernel_rfl);clear hA hpre;go_simp;exact hK _ _ hB rfl (fun _ _ h=>h)
    ·intro vs Wx A hA hB hpre;have eg:=tT (hA 21) (by kernel_rfl) (hpre.2.1 rfl);refine ⟨true,eg,fun _ K hK=>?_,fun h=>absurd rfl h⟩;have e25:=tT (hA 25) (by kernel_rfl) (hpre.1 rfl);obtain ⟨⟨x0,x1,x2,x3,x4,x5,x6,x7⟩,⟨y0,y1,-,-⟩,hch⟩:=Bt.out Wx hB;clear hA hpre;go_simp;exact hK _ _ hB rfl (fun _ _ h=>h)
    ·intro vs Wx A hA hB hpre;have eg:=tT (hA 21) (by kernel_rfl) (hpre.2.1 rfl);refine ⟨true,eg,fun _ K hK=>?_,fun h=>absurd rfl h⟩;have e24:=tT (hA 24) (by kernel_rfl) (hpre.1 rfl);clear hA hpre;go_simp;exact hK _ _ hB rfl (fun _ _ h=>h)
    ·intro vs Wx A hA hB hpre;have eg:=tT (hA 21) (by kernel_rfl) (hpre.2.1 rfl);refine ⟨true,eg,fun _ K hK=>?_,fun h=>absurd rfl h⟩;have e27:=tT (hA 27) (by kernel_rfl) (hpre.1 rfl);clear hA hpre;go_simp;exact hK _ _ hB rfl (fun _ _ h=>h)
    ·intro vs Wx A hA hB hpre;have eg:=tT (hA 21) (by kernel_rfl) (hpre.2.2.1 rfl);refine ⟨true,eg,fun _ K hK=>?_,fun h=>absurd rfl h⟩;have e28:=tT (hA 28) (by kernel_rfl) (hpre.1 rfl);have e26:=tT (hA 26) (by kernel_rfl) (hpre.2.1 rfl);clear hA hpre;go_simp;exact hK _ _ hB rfl (fun _ _ h=>h)
    ·intro vs Wx A hA hB hpre;have eg:=tT (hA 21) (by kernel_rfl) (hpre.2.1 rfl);refine ⟨true,eg,fun _ K hK=>?_,fun h=>absurd rfl h⟩;have e29:=tT (hA 29) (by kernel_rfl) (hpre.1 rfl);obtain ⟨⟨x0,x1,x2,x3,x4,x5,x6,x7⟩,⟨y0,y1,-,-⟩,hch⟩:=Bt.out Wx hB;obtain ⟨cK,dK⟩:=kC hch hk1 hk4;clear hA hpre;go_simp;exact hK _ _ hB rfl (fun _ _ h=>h)
    ·intro vs Wx A hA hB hpre;have eg:=tT (hA 21) (by kernel_rfl) (hpre.2.2.1 rfl);refine ⟨true,eg,fun _ K hK=>?_,fun h=>absurd rfl h⟩;have e23:=tT (hA 23) (by kernel_rfl) (hpre.1 rfl);have e30:=tT (hA 30) (by kernel_rfl) (hpre.2.1 rfl);clear hA hpre;go_simp;exact hK _ _ hB rfl (fun _ _ h=>h)
    ·intro vs Wx A hA hB hpre K hK;have e21:=tT (hA 21) (by kernel_rfl) (hpre.1 rfl);have e31:=tT (hA 31) (by kernel_rfl) (hpre.2.1 rfl);clear hA hpre;go_simp;exact hK _ _ hB rfl (fun _ _ h=>h)
    ·intro vs Wx hB hF;have h32:vs 19=.bool false:=hF 19 (by decide);have Cn:=zZ hB;clear hF hB;simp only [Ri.puts];go_simp;go_wp2_with fail
     go_meet
     exact ⟨by first|rfl|exact h32,Cn.out⟩
   case rest =>
    obtain ⟨rfl,HBx⟩:=hcut;have HXx:=zZ (tV CK.out HBx.out);have HQx:Hid (ChF wc q Af Vf):=zZ (ak.far HQ3.out HBx.out);have Co:=zZ (iZ HB3.out HQL.out HBx.out);clear Bt HD;go_wp2;go_roundg (r.sets.length - (j+1))
    case rel=>exact ⟨j+1,Af,Vf,by omega,rfl,by go_num,Co.out,HXx.out,HQx.out,fun k e1 e4=>by rw [NK.out k e1 e4,FZ];rintro ⟨e,h⟩;simp only at e h;obtain rfl:k=Kx:=(by omega);omega⟩
    case measure=>omega
  case pos =>
   go_cut [32] (fun s wx=>s=.bool true/\Hid (Below W3.heap.size W3 wx))
   case first =>
    refine Ri.I4 (by kernel_rfl) (by kernel_rfl) (by kernel_rfl) (fun Wx=>Below W3.heap.size W3 Wx) (fun kz vs wz=>(fun kx vx wx=>match kx with|0=>vx=pP s5 0|1=>vx=iI (Kx:Nat)|2=>vx=.bool true|3=>vx=.bool true|4=>vx=pP s5 0|5=>vx=iI (Kx:Nat)|6=>vx=.bool true|7=>vx=.bool true|8=>vx=.bool true|9=>vx=pP p3 0|10=>vx=iI r.rank|11=>vx=pP q 0|12=>vx=pP s5 0|13=>vx=iI (Kx:Nat)|14=>vx=pP q 0|15=>vx=pP q 0|16=>vx=pP q Kx|17=>vx=iI (Af Kx)|18=>vx=.bool true|19=>vx=.bool true|_=>True:Nat->Value->World->Prop) kz (vs kz) wz) (fun kz=>[kz]) (by kernel_rfl) (fun jz vs iz vz wz hiz hz=>Ri.wI (F:=(fun kx vx wx=>match kx with|0=>vx=pP s5 0|1=>vx=iI (Kx:Nat)|2=>vx=.bool true|3=>vx=.bool true|4=>vx=pP s5 0|5=>vx=iI (Kx:Nat)|6=>vx=.bool true|7=>vx=.bool true|8=>vx=.bool true|9=>vx=pP p3 0|10=>vx=iI r.rank|11=>vx=pP q 0|12=>vx=pP s5 0|13=>vx=iI (Kx:Nat)|14=>vx=pP q 0|15=>vx=pP q 0|16=>vx=pP q Kx|17=>vx=iI (Af Kx)|18=>vx=.bool true|19=>vx=.bool true|_=>True:Nat->Value->World->Prop)) jz vs iz vz wz hiz hz) HD.out ⟨Or.inl ⟨rfl,?_⟩,Or.inl ⟨rfl,?_⟩,Or.inl ⟨rfl,?_⟩,Or.inl ⟨rfl,?_⟩,Or.inr ⟨3,true,16,rfl,rfl,?_⟩,Or.inr ⟨3,true,16,rfl,rfl,?_⟩,Or.inr ⟨3,true,16,rfl,rfl,?_⟩,Or.inl ⟨rfl,?_⟩,Or.inl ⟨rfl,?_⟩,Or.inr ⟨8,true,21,rfl,rfl,?_⟩,Or.inr ⟨8,true,21,rfl,rfl,?_⟩,Or.inr ⟨8,true,21,rfl,rfl,?_⟩,Or.inr ⟨8,true,21,rfl,rfl,?_⟩,Or.inr ⟨8,true,21,rfl,rfl,?_⟩,Or.inr ⟨8,true,21,rfl,rfl,?_⟩,Or.inr ⟨8,true,21,rfl,rfl,?_⟩,Or.inr ⟨8,true,21,rfl,rfl,?_⟩,Or.inr ⟨8,true,21,rfl,rfl,?_⟩,Or.inr ⟨8,true,21,rfl,rfl,?_⟩,Or.inl ⟨rfl,?_⟩,trivial⟩ ?_
    ·intro vs Wx A hA hB hpre K hK;have e5:=(hA 5).trans (show _=pP s5 0 by kernel_rfl);clear hA hpre;go_simp;exact hK _ _ hB rfl (fun _ _ h=>h)
    ·intro vs Wx A hA hB hpre K hK;have e13:=tT (hA 13) (by kernel_rfl) (hpre.1 rfl);obtain ⟨⟨x0,x1,x2,x3,x4,x5,x6,x7⟩,⟨y0,y1,-,-⟩,hch⟩:=Bt.out Wx hB;clear hA hpre;go_simp;exact hK _ _ hB rfl (fun _ _ h=>h)
    ·intro vs Wx A hA hB hpre K hK;have e14:=tT (hA 14) (by kernel_rfl) (hpre.1 rfl);clear hA hpre;go_simp;exact hK _ _ hB rfl (fun _ _ h=>h)
    ·intro vs Wx A hA hB hpre K hK;have e15:=tT (hA 15) (by kernel_rfl) (hpre.1 rfl);clear hA hpre;go_simp;exact hK _ _ hB rfl (fun _ _ h=>h)
    ·intro vs Wx A hA hB hpre;have eg:=tT (hA 16) (by kernel_rfl) (hpre.1 rfl);refine ⟨true,eg,fun _ K hK=>?_,fun h=>absurd rfl h⟩;have e5:=(hA 5).trans (show _=pP s5 0 by kernel_rfl);clear hA hpre;go_simp;exact hK _ _ hB rfl (fun _ _ h=>h)
    ·intro vs Wx A hA hB hpre;have eg:=tT (hA 16) (by kernel_rfl) (hpre.2.1 rfl);refine ⟨true,eg,fun _ K hK=>?_,fun h=>absurd rfl h⟩;have e17:=tT (hA 17) (by kernel_rfl) (hpre.1 rfl);obtain ⟨⟨x0,x1,x2,x3,x4,x5,x6,x7⟩,⟨y0,y1,-,-⟩,hch⟩:=Bt.out Wx hB;clear hA hpre;go_simp;exact hK _ _ hB rfl (fun _ _ h=>h)
    ·intro vs Wx A hA hB hpre;have eg:=tT (hA 16) (by kernel_rfl) (hpre.2.1 rfl);refine ⟨true,eg,fun _ K hK=>?_,fun h=>absurd rfl h⟩;have e18:=tT (hA 18) (by kernel_rfl) (hpre.1 rfl);clear hA hpre;go_simp;exact hK _ _ hB rfl (fun _ _ h=>h)
    ·intro vs Wx A hA hB hpre K hK;have e16:=tT (hA 16) (by kernel_rfl) (hpre.1 rfl);have e19:=tT (hA 19) (by kernel_rfl) (hpre.2.1 rfl);clear hA hpre;go_simp;exact hK _ _ hB rfl (fun _ _ h=>h)
    ·intro vs Wx A hA hB hpre K hK;have e20:=tT (hA 20) (by kernel_rfl) (hpre.1 rfl);clear hA hpre;go_simp;exact hK _ _ hB rfl (fun _ _ h=>h)
    ·intro vs Wx A hA hB hpre;have eg:=tT (hA 21) (by kernel_rfl) (hpre.1 rfl);refine ⟨true,eg,fun _ K hK=>?_,fun h=>absurd rfl h⟩;have e3:=(hA 3).trans (show _=pP p3 0 by kernel_rfl);clear hA hpre;go_simp;exact hK _ _ hB rfl (fun _ _ h=>h)
    ·intro vs Wx A hA hB hpre;have eg:=tT (hA 21) (by kernel_rfl) (hpre.2.1 rfl);refine ⟨true,eg,fun _ K hK=>?_,fun h=>absurd rfl h⟩;have e22:=tT (hA 22) (by kernel_rfl) (hpre.1 rfl);obtain ⟨⟨x0,x1,x2,x3,x4,x5,x6,x7⟩,⟨y0,y1,-,-⟩,hch⟩:=Bt.out Wx hB;clear hA hpre;go_simp;exact hK _ _ hB rfl (fun _ _ h=>h)
    ·intro vs Wx A hA hB hpre;have eg:=tT (hA 21) (by kernel_rfl) (hpre.1 rfl);refine ⟨true,eg,fun _ K hK=>?_,fun h=>absurd rfl h⟩;have e0:=(hA 0).trans (show _=pP q 0 by kernel_rfl);clear hA hpre;go_simp;exact hK _ _ hB rfl (fun _ _ h=>h)
    ·intro vs Wx A hA hB hpre;have eg:=tT (hA 21) (by kernel_rfl) (hpre.1 rfl);refine ⟨true,eg,fun _ K hK=>?_,fun h=>absurd rfl h⟩;have e5:=(hA 5).trans (show _=pP s5 0 by kernel_rfl);clear hA hpre;go_simp;exact hK _ _ hB rfl (fun _ _ h=>h)
    ·intro vs Wx A hA hB hpre;have eg:=tT (hA 21) (by kernel_rfl) (hpre.2.1 rfl);refine ⟨true,eg,fun _ K hK=>?_,fun h=>absurd rfl h⟩;have e25:=tT (hA 25) (by kernel_rfl) (hpre.1 rfl);obtain ⟨⟨x0,x1,x2,x3,x4,x5,x6,x7⟩,⟨y0,y1,-,-⟩,hch⟩:=Bt.out Wx hB;clear hA hpre;go_simp;exact hK _ _ hB rfl (fun _ _ h=>h)
    ·intro vs Wx A hA hB hpre;have eg:=tT (hA 21) (by kernel_rfl) (hpre.2.1 rfl);refine ⟨true,eg,fun _ K hK=>?_,fun h=>absurd rfl h⟩;have e24:=tT (hA 24) (by kernel_rfl) (hpre.1 rfl);clear hA hpre;go_simp;exact hK _ _ hB rfl (fun _ _ h=>h)
    ·intro vs Wx A hA hB hpre;have eg:=tT (hA 21) (by kernel_rfl) (hpre.2.1 rfl);refine ⟨true,eg,fun _ K hK=>?_,fun h=>absurd rfl h⟩;have e27:=tT (hA 27) (by kernel_rfl) (hpre.1 rfl);clear hA hpre;go_simp;exact hK _ _ hB rfl (fun _ _ h=>h)
    ·intro vs Wx A hA hB hpre;have eg:=tT (hA 21) (by kernel_rfl) (hpre.2.2.1 rfl);refine ⟨true,eg,fun _ K hK=>?_,fun h=>absurd rfl h⟩;have e28:=tT (hA 28) (by kernel_rfl) (hpre.1 rfl);have e26:=tT (hA 26) (by kernel_rfl) (hpre.2.1 rfl);clear hA hpre;go_simp;exact hK _ _ hB rfl (fun _ _ h=>h)
    ·intro vs Wx A hA hB hpre;have eg:=tT (hA 21) (by kernel_rfl) (hpre.2.1 rfl);refine ⟨true,eg,fun _ K hK=>?_,fun h=>absurd rfl h⟩;have e29:=tT (hA 29) (by kernel_rfl) (hpre.1 rfl);obtain ⟨⟨x0,x1,x2,x3,x4,x5,x6,x7⟩,⟨y0,y1,-,-⟩,hch⟩:=Bt.out Wx hB;obtain ⟨cK,dK⟩:=kC hch hk1 hk4;clear hA hpre;go_simp;exact hK _ _ hB rfl (fun _ _ h=>h)
    ·intro vs Wx A hA hB hpre;have eg:=tT (hA 21) (by kernel_rfl) (hpre.2.2.1 rfl);refine ⟨true,eg,fun _ K hK=>?_,fun h=>absurd rfl h⟩;have e23:=tT (hA 23) (by kernel_rfl) (hpre.1 rfl);have e30:=tT (hA 30) (by kernel_rfl) (hpre.2.1 rfl);clear hA hpre;go_simp;exact hK _ _ hB rfl (fun _ _ h=>h)
    ·intro vs Wx A hA hB hpre K hK;have e21:=tT (hA 21) (by kernel_rfl) (hpre.1 rfl);have e31:=tT (hA 31) (by kernel_rfl) (hpre.2.1 rfl);clear hA hpre;go_simp;exact hK _ _ hB rfl (fun _ _ h=>h)
    ·intro vs Wx hB hF;have h32:vs 19=.bool true:=hF 19 (by decide);have Cn:=zZ hB;clear hF hB;simp only [Ri.puts];go_simp;go_wp2_with fail
     go_meet
     exact ⟨by first|rfl|exact h32,Cn.out⟩
   case rest =>
    obtain ⟨rfl,HBx⟩:=hcut;have HXx:=zZ (tV CK.out HBx.out);have HZx:=zZ (tV HZ.out HBx.out);have HQx:Hid (ChF wc q Af Vf):=zZ (ak.far HQ3.out HBx.out);have Co:=zZ (iZ HB3.out HQL.out HBx.out);clear Bt HD CK HZ HQ3 HBx HB3;go_upto_region 5 with fail
    have HD:Hid ((fun Wx=>Below q wc Wx/\Wx.heap[p3]?=some (.cells #[iI r.rank,iI r.BS.kind,sS r.BS.lo,sS r.BS.hi,iI r.BS.n,k,u,.slice (some ⟨b,o,none⟩) r.sets.length sc] 82 (0,0))/\Wx.heap[s5]?=some (.cells #[iI (Kx:Nat),iI sn] 85 (0,0))/\∃x y,ChF Wx q (up Af Kx x) (up Vf Kx y)) wc.drew):=⟨Below.drew (Below.refl q wc),HXx.out,HZx.out,Af Kx,Vf Kx,by rw [Hw,Hw];exact HQx.out⟩;refine Ri.IY (by kernel_rfl) (by kernel_rfl) (by kernel_rfl) (fun Wx=>Below q wc Wx/\Wx.heap[p3]?=some (.cells #[iI r.rank,iI r.BS.kind,sS r.BS.lo,sS r.BS.hi,iI r.BS.n,k,u,.slice (some ⟨b,o,none⟩) r.sets.length sc] 82 (0,0))/\Wx.heap[s5]?=some (.cells #[iI (Kx:Nat),iI sn] 85 (0,0))/\∃x y,ChF Wx q (up Af Kx x) (up Vf Kx y)) (fun kz vs wz=>(fun kx vx wx=>match kx with|0=>vx=pP q 0|1=>vx=pP s5 0|2=>vx=iI (Kx:Nat)|3=>vx=pP q 0|4=>vx=pP s5 0|5=>vx=iI (Kx:Nat)|6=>vx=pP p3 0|7=>vx=iI r.rank|8=>vx=pP s5 1|9=>vx=iI sn|10=>vx=pP q 0|11=>vx=pP q 0|12=>vx=pP q Kx|13=>wx.cell? ⟨q,Kx,none⟩=some (iI r.rank)|14=>vx=pP q 0|15=>vx=pP q 5|16=>vx=pP q (5+Kx)|17=>wx.cell? ⟨q,5+Kx,none⟩=some (iI sn)|_=>True:Nat->Value->World->Prop) kz (vs kz) wz) (fun kz=>[kz]) (by kernel_rfl) (fun jz vs iz vz wz hiz hz=>Ri.wI (F:=(fun kx vx wx=>match kx with|0=>vx=pP q 0|1=>vx=pP s5 0|2=>vx=iI (Kx:Nat)|3=>vx=pP q 0|4=>vx=pP s5 0|5=>vx=iI (Kx:Nat)|6=>vx=pP p3 0|7=>vx=iI r.rank|8=>vx=pP s5 1|9=>vx=iI sn|10=>vx=pP q 0|11=>vx=pP q 0|12=>vx=pP q Kx|13=>wx.cell? ⟨q,Kx,none⟩=some (iI r.rank)|14=>vx=pP q 0|15=>vx=pP q 5|16=>vx=pP q (5+Kx)|17=>wx.cell? ⟨q,5+Kx,none⟩=some (iI sn)|_=>True:Nat->Value->World->Prop)) jz vs iz vz wz hiz hz) HD.out ⟨⟨rfl,?_⟩,⟨rfl,?_⟩,⟨rfl,?_⟩,⟨rfl,?_⟩,⟨rfl,?_⟩,⟨rfl,?_⟩,⟨rfl,?_⟩,⟨rfl,?_⟩,⟨rfl,?_⟩,⟨rfl,?_⟩,⟨rfl,?_⟩,⟨rfl,?_⟩,⟨rfl,?_⟩,⟨rfl,?_⟩,⟨rfl,?_⟩,⟨rfl,?_⟩,⟨rfl,?_⟩,⟨rfl,?_⟩,trivial⟩ ?_
    ·intro vs Wx A hA hB hpre K hK;have e0:=(hA 0).trans (show _=pP q 0 by kernel_rfl);clear hA hpre;go_simp;exact hK _ _ hB rfl (fun _ _ h=>h)
    ·intro vs Wx A hA hB hpre K hK;have e5:=(hA 5).trans (show _=pP s5 0 by kernel_rfl);clear hA hpre;go_simp;exact hK _ _ hB rfl (fun _ _ h=>h)
    ·intro vs Wx A hA hB hpre K hK;have e34:=tT (hA 34) (by kernel_rfl) (hpre.1 rfl);obtain ⟨hB1,hB2,hB3,x,y,hB4⟩:=id hB;obtain ⟨x0,x1,x2,x3,x4,x5,x6,x7⟩:=iR hB2;obtain ⟨y0,y1,-,-⟩:=jQ hB3;clear hA hpre;go_simp;exact hK _ _ hB rfl (fun _ _ h=>h)
    ·intro vs Wx A hA hB hpre K hK;have e0:=(hA 0).trans (show _=pP q 0 by kernel_rfl);clear hA hpre;go_simp;exact hK _ _ hB rfl (fun _ _ h=>h)
    ·intro vs Wx A hA hB hpre K hK;have e5:=(hA 5).trans (show _=pP s5 0 by kernel_rfl);clear hA hpre;go_simp;exact hK _ _ hB rfl (fun _ _ h=>h)
    ·intro vs Wx A hA hB hpre K hK;have e37:=tT (hA 37) (by kernel_rfl) (hpre.1 rfl);obtain ⟨hB1,hB2,hB3,x,y,hB4⟩:=id hB;obtain ⟨x0,x1,x2,x3,x4,x5,x6,x7⟩:=iR hB2;obtain ⟨y0,y1,-,-⟩:=jQ hB3;clear hA hpre;go_simp;exact hK _ _ hB rfl (fun _ _ h=>h)
    ·intro vs Wx A hA hB hpre K hK;have e3:=(hA 3).trans (show _=pP p3 0 by kernel_rfl);clear hA hpre;go_simp;exact hK _ _ hB rfl (fun _ _ h=>h)
    ·intro vs Wx A hA hB hpre K hK;have e39:=tT (hA 39) (by kernel_rfl) (hpre.1 rfl);obtain ⟨hB1,hB2,hB3,x,y,hB4⟩:=id hB;obtain ⟨x0,x1,x2,x3,x4,x5,x6,x7⟩:=iR hB2;obtain ⟨y0,y1,-,-⟩:=jQ hB3;clear hA hpre;go_simp;exact hK _ _ hB rfl (fun _ _ h=>h)
    ·intro vs Wx A hA hB hpre K hK;have e5:=(hA 5).trans (show _=pP s5 0 by kernel_rfl);clear hA hpre;go_simp;exact hK _ _ hB rfl (fun _ _ h=>h)
    ·intro vs Wx A hA hB hpre K hK;have e41:=tT (hA 41) (by kernel_rfl) (hpre.1 rfl);obtain ⟨hB1,hB2,hB3,x,y,hB4⟩:=id hB;obtain ⟨x0,x1,x2,x3,x4,x5,x6,x7⟩:=iR hB2;obtain ⟨y0,y1,-,-⟩:=jQ hB3;clear hA hpre;go_simp;exact hK _ _ hB rfl (fun _ _ h=>h)
    ·intro vs Wx A hA hB hpre K hK;have e33:=tT (hA 33) (by kernel_rfl) (hpre.1 rfl);clear hA hpre;go_simp;exact hK _ _ hB rfl (fun _ _ h=>h)
    ·intro vs Wx A hA hB hpre K hK;have e43:=tT (hA 43) (by kernel_rfl) (hpre.1 rfl);clear hA hpre;go_simp;exact hK _ _ hB rfl (fun _ _ h=>h)
    ·intro vs Wx A hA hB hpre K hK;have e44:=tT (hA 44) (by kernel_rfl) (hpre.1 rfl);have e35:=tT (hA 35) (by kernel_rfl) (hpre.2.1 rfl);clear hA hpre;go_simp;exact hK _ _ hB rfl (fun _ _ h=>h)
    ·intro vs Wx A hA hB hpre K hK;have e45:=tT (hA 45) (by kernel_rfl) (hpre.1 rfl);have e40:=tT (hA 40) (by kernel_rfl) (hpre.2.1 rfl);obtain ⟨hB1,hB2,hB3,x,y,hB4⟩:=id hB;obtain ⟨cK,dK⟩:=kC hB4 hk1 hk4;rw [Ht] at cK dK;have fz:=ak.soft hB4 (Kx);have HN:=zZ (kD hk1 hk4 hB4 r.rank);have HM:=zZ (kC HN.out hk1 hk4);rw [Ht,Ht] at HM;have HC:=zZ (And.intro hB1 (And.intro hB2 (And.intro hB3 (And.intro dK True.intro))));clear hB1 hB2 hB3 hB4;clear hA hpre;go_simp;refine hK undef _ ⟨jd HC.out.1 _ _,qL HC.out.2.1 HPQ.out,qL HC.out.2.2.1 HSQ.out,_,_,HN.out⟩ HM.out.1 (fun jz _ hz=>?_);match jz,hz with
     | 0,hz=>exact hz
     | 1,hz=>exact hz
     | 2,hz=>exact hz
     | 3,hz=>exact hz
     | 4,hz=>exact hz
     | 5,hz=>exact hz
     | 6,hz=>exact hz
     | 7,hz=>exact hz
     | 8,hz=>exact hz
     | 9,hz=>exact hz
     | 10,hz=>exact hz
     | 11,hz=>exact hz
     | 12,hz=>exact hz
     | 14,hz=>exact hz
     | 15,hz=>exact hz
     | 16,hz=>exact hz
     | 13,hz=>exact HM.out.1
     | 17,hz=>exact HM.out.2.trans (HC.out.2.2.2.1.symm.trans hz)
     | n+18,hz=>exact hz
    ·intro vs Wx A hA hB hpre K hK;have e36:=tT (hA 36) (by kernel_rfl) (hpre.1 rfl);clear hA hpre;go_simp;exact hK _ _ hB rfl (fun _ _ h=>h)
    ·intro vs Wx A hA hB hpre K hK;have e46:=tT (hA 46) (by kernel_rfl) (hpre.1 rfl);clear hA hpre;go_simp;exact hK _ _ hB rfl (fun _ _ h=>h)
    ·intro vs Wx A hA hB hpre K hK;have e47:=tT (hA 47) (by kernel_rfl) (hpre.1 rfl);have e38:=tT (hA 38) (by kernel_rfl) (hpre.2.1 rfl);clear hA hpre;go_simp;exact hK _ _ hB rfl (fun _ _ h=>h)
    ·intro vs Wx A hA hB hpre K hK;have e48:=tT (hA 48) (by kernel_rfl) (hpre.1 rfl);have e42:=tT (hA 42) (by kernel_rfl) (hpre.2.1 rfl);obtain ⟨hB1,hB2,hB3,x,y,hB4⟩:=id hB;obtain ⟨cK,dK⟩:=kC hB4 hk1 hk4;rw [Ht] at cK dK;have fz:=ak.soft hB4 (5+Kx);have HN:=zZ (kE hk1 hk4 hB4 sn);have HM:=zZ (kC HN.out hk1 hk4);rw [Ht,Ht] at HM;have HC:=zZ (And.intro hB1 (And.intro hB2 (And.intro hB3 (And.intro cK True.intro))));clear hB1 hB2 hB3 hB4;clear hA hpre;go_simp;refine hK undef _ ⟨jd HC.out.1 _ _,qL HC.out.2.1 HPQ.out,qL HC.out.2.2.1 HSQ.out,_,_,HN.out⟩ HM.out.2 (fun jz _ hz=>?_);match jz,hz with
     | 0,hz=>exact hz
     | 1,hz=>exact hz
     | 2,hz=>exact hz
     | 3,hz=>exact hz
     | 4,hz=>exact hz
     | 5,hz=>exact hz
     | 6,hz=>exact hz
     | 7,hz=>exact hz
     | 8,hz=>exact hz
     | 9,hz=>exact hz
     | 10,hz=>exact hz
     | 11,hz=>exact hz
     | 12,hz=>exact hz
     | 14,hz=>exact hz
     | 15,hz=>exact hz
     | 16,hz=>exact hz
     | 17,hz=>exact HM.out.2
     | 13,hz=>exact HM.out.1.trans (HC.out.2.2.2.1.symm.trans hz)
     | n+18,hz=>exact hz
    ·intro vs Wx hB hF;have h13:Wx.cell? ⟨q,Kx,none⟩=some (iI r.rank):=hF 13 (by decide);have h17:Wx.cell? ⟨q,5+Kx,none⟩=some (iI sn):=hF 17 (by decide);obtain ⟨hB1,hB2,hB3,x,y,hB4⟩:=hB;obtain ⟨cK,dK⟩:=kC hB4 hk1 hk4;rw [Ht] at cK dK;have ex:x=r.rank:=by rw [h13] at cK;simpa using cK.symm
     have ey:y=sn:=by rw [h17] at dK;simpa using dK.symm
     rw [ex,ey] at hB4;have HBm:=zZ (Co.out.trans hB1);have HXy:=zZ hB2;have HQy:=zZ hB4;clear hF hB1 hB2 hB3 hB4 cK dK h13 h17 HXx HZx HQx Co HD ex ey;simp only [Ri.puts];go_simp;go_wp2;go_roundg (r.sets.length - (j+1))
     case rel=>exact ⟨j+1,up Af Kx r.rank,up Vf Kx sn,by omega,rfl,by go_num,HBm.out,HXy.out,HQy.out,fun k e1 e4=>by rw [NK.out k e1 e4];exact F5 hgt k⟩
     case measure=>omega
end Ul
end Go.Proofs.YtfbfeoplldjbpaaGreatDoor
