/-
  Texts put together (merge.py): IMarks.
-/
import Derived.Test.YtfbfeoplldjbpaaGreatDoorMd30
set_option linter.unusedSimpArgs false
set_option linter.unusedVariables false
set_option maxHeartbeats 16000000
set_option maxRecDepth 100000
namespace Go.Proofs.YtfbfeoplldjbpaaGreatDoor
namespace Tw
open Go.RowKit Go.Maps
open Cm (Ln lnv bH bf iU jg)
theorem uq (x:Ln) (h:aZ x):(uo x).length<=500000000:=by
 have:=(uj x h x.mods.length).2;rwa [uh x _ (Nat.le_refl _)] at this
def mkF (A l:List Ln) (j:Nat):Nat->Value:=fun q=>if q < j then .bool ((wZ A l).getD q false) else .bool false
theorem xB (A l:List Ln) (j:Nat) (x:Ln) (h:l[j]?=some x) (q:Nat):(if q=j then .bool (inB x (A ++ l.take j)) else mkF A l j q)=mkF A l (j+1) q:=by
 have hm:=xg l A j x h;rw [←rP] at hm;unfold mkF;by_cases e:q=j
 ·subst e;rw [if_pos rfl,if_pos (by omega),List.getD_eq_getElem?_getD,hm];rfl
 ·rw [if_neg e];by_cases e2:q < j
  ·rw [if_pos e2,if_pos (by omega)]
  ·rw [if_neg e2,if_neg (by omega)]
theorem iB (l:List Ln) (j:Nat) (x:Ln) (h:l[j]?=some x):l.take (j+1)=l.take j ++ [x]:=by
 rw [List.take_add_one,h];rfl
theorem jB {w:World} {g:Nat} {A l:List Ln} {j:Nat} (h:w.rowIs g 4 l.length (mkF A l j)) (hj:l.length<=j) (hm:l.length<=1000000):ah w (.slice (some ⟨g,0,none⟩) l.length l.length) (wZ A l):=by
 refine jC h (xq l A) hm fun i hi=>?_;unfold mkF;rw [if_pos (by omega)]
theorem xk (v va:Value) (l A:List Ln) (w:World) (h:bH All w v l) (hA:bH All w va A) (hz:∀x ∈ l,aZ x) (hzA:∀x ∈ A,aZ x) (hl:l.length<=10000) (hlA:A.length<=10000) :
  Calls Tryz.prog 23 #[v,va] w fun e w'=>∃g,e=.returned (.slice (some ⟨g,0,none⟩) l.length l.length)/\ah w' (.slice (some ⟨g,0,none⟩) l.length l.length) (wZ A l)/\Below w.heap.size w w':=by
 have HL:=zZ fun W (hb:Below w.heap.size w W)=>bH.move h (Below.moves hb);have HLA:=zZ fun W (hb:Below w.heap.size w W)=>bH.move hA (Below.moves hb);have HZ:=zZ hz;have HZA:=zZ hzA;obtain ⟨a,c,rfl,f1,f2⟩:=bH.form h;obtain ⟨aa,ca,rfl,g1,g2⟩:=bH.form hA;have hmm:=@run_makeMap Tryz.prog;have HMK:=run_make_row' (P:=Tryz.prog) 63 4 (.bool false) 1 Tryz.underlying63 eO rfl .i64 .i64 l.length (by omega) (by omega);clear h hA hz hzA;go_enter Tryz.func23,Tryz.ntmps23
 go_wp2;go_loopg [15] A.length (fun gg i wr=>∃k:Nat,k<=A.length/\gg=A.length - k/\i=iI k/\Hid (cO wr w.heap.size k (A.take k))/\Hid (Below w.heap.size w wr))
 case atStart=>exact ⟨0,Nat.zero_le _,rfl,rfl,cO.new w,iU w _⟩
 case round =>
  obtain ⟨k,hk,hg,rfl,HS,HB⟩:=hrel;by_cases hlt:k < A.length
  ·obtain ⟨b,o,m,rfl,hx,⟨c0,c1,c2,c3,c4,c5⟩,hr⟩:=bH.get (HLA.out wr HB.out) k hlt;have hky:=HZA.out _ (List.mem_of_getElem? hx);have HKl:=zZ (uq _ hky);have HKy:=zZ fun o=>uw A[k] m (wr.alloc o) (dI.move hr (yt All wr o)) hky;have HT:=zZ (iB A k _ hx);obtain ⟨am,cm,rfl,-,-⟩:=Cm.dI.form hr;have hbl:=World.block_lt_of_cell? wr _ c0;have HSw:=zZ fun o w1 (hb1:Below (wr.alloc o).heap.size (wr.alloc o) w1)=>cO.far HS.out (jg (iU wr o) hb1);have HBw:=zZ fun o w1 (hb1:Below (wr.alloc o).heap.size (wr.alloc o) w1)=>jg HB.out (jg (iU wr o) hb1);clear hx hr hky;generalize A[k]=x at *;go_wp2_with (first
    | (go_at_call 44;refine (HKy.out _).mono ?_;rintro e w1 ⟨rfl,hb1⟩)
    | (at_mapUpdate;refine Fh rfl _ _ _ rfl w.heap.size k (A.take k) rfl (HSw.out _ _ hb1) (by omega) x (by have:=HKl.out;omega) rfl rfl ?_;intro w2 hs2 hg2)
    | go_in)
   go_roundg (A.length - (k+1))
   case rel=>exact ⟨k+1,by omega,rfl,by go_num,by show cO _ _ _ _;rw [HT.out];exact hs2,(HBw.out _ _ hb1).grown hg2 (HBw.out _ _ hb1).size (fun j hj=>by injection hj with hj;omega)⟩
   case measure=>omega
  ·have HT:Hid (A.take k=A):=List.take_of_length_le (by omega);have hkA:k=A.length:=by omega
   have HS0:Hid (cO wr w.heap.size A.length A):=by show cO _ _ _ _;rw [HT.out,hkA] at HS;exact HS.out
   have hlt':¬ (k:Int) < (A.length:Int):=by omega
   clear HS HT hkA;obtain ⟨wo,hwo⟩:∃z,z=wr:=⟨_,rfl⟩;subst hwo;have hBG:=HS0.out.lt;go_wp2;go_loopg [29] l.length (fun gg i wr=>∃j:Nat,j<=l.length/\gg=l.length - j/\i=iI j/\Hid (cO wr w.heap.size (A.length+j) (A ++ l.take j))/\Hid (Below w.heap.size w wr)/\Hid (wr.rowIs wo.heap.size 4 l.length (mkF A l j)))
   case atStart=>exact ⟨0,Nat.zero_le _,rfl,rfl,by show cO _ _ _ _;rw [List.take_zero,List.append_nil];exact cO.far HS0.out (iU wo _),jg HB.out (iU wo _),(World.rowIs_made wo (.bool false) l.length 4).congr fun q hq=>by simp [mkF]⟩
   case round =>
    obtain ⟨j,hj,hgj,rfl,HS,HB2,HR⟩:=hrel;by_cases hltj:j < l.length
    ·obtain ⟨b,o,m,rfl,hx,⟨c0,c1,c2,c3,c4,c5⟩,hr⟩:=bH.get (HL.out wr HB2.out) j hltj;have hky:=HZ.out _ (List.mem_of_getElem? hx);have HKl:=zZ (uq _ hky);have HKy:=zZ fun o=>uw l[j] m (wr.alloc o) (dI.move hr (yt All wr o)) hky;have HT:=zZ (iB l j _ hx);have HF:=zZ (xB A l j _ hx);obtain ⟨am,cm,rfl,-,-⟩:=Cm.dI.form hr;have hbl:=World.block_lt_of_cell? wr _ c0;have HSw:=zZ fun o w1 (hb1:Below (wr.alloc o).heap.size (wr.alloc o) w1)=>cO.far HS.out (jg (iU wr o) hb1);have HBw:=zZ fun o w1 (hb1:Below (wr.alloc o).heap.size (wr.alloc o) w1)=>jg HB2.out (jg (iU wr o) hb1);have HRw:=zZ fun o w1 (hb1:Below (wr.alloc o).heap.size (wr.alloc o) w1)=>World.rowIs.of_block HR.out ((jg (iU wr o) hb1).block _ HR.out.lt);clear hx hr hky;generalize l[j]=x at *;obtain ⟨V,HV⟩:∃V,Hid (inB x (A ++ l.take j)=V):=⟨_,rfl⟩;rw [HV.out] at HF;go_wp2_with (first
      | (go_at_call 44;refine (HKy.out _).mono ?_;rintro e w1 ⟨rfl,hb1⟩;have hrc:=(HRw.out _ _ hb1).cell hltj;have hrf:=(HRw.out _ _ hb1).frozen j)
      | (at_lookup;refine EZ rfl _ _ rfl w.heap.size (A.length+j) (A ++ l.take j) rfl (HSw.out _ _ hb1) x (by have:=HKl.out;omega) rfl V HV.out ?_)
      | (at_mapUpdate;refine Fh rfl _ _ _ rfl w.heap.size (A.length+j) (A ++ l.take j) rfl (cO.set (HSw.out _ _ hb1) (by show w.heap.size ≠ wo.heap.size;omega) _) (by omega) x (by have:=HKl.out;omega) rfl rfl ?_;intro w2 hs2 hg2)
      | go_in)
     have hR1:=World.rowIs.set (HRw.out _ _ hb1) j (.bool V);have hB1:=Below.setCell (HBw.out _ _ hb1) (p:=⟨wo.heap.size,j,none⟩) (by show w.heap.size<=wo.heap.size;omega) (.bool V);go_roundg (l.length - (j+1))
     case rel=>exact ⟨j+1,by omega,rfl,by go_num,by show cO _ _ _ _;rw [HT.out,←List.append_assoc];exact hs2,hB1.grown hg2 hB1.size (fun q hq=>by injection hq with hq;omega),(World.rowIs.of_block hR1 (hg2.block _ hR1.lt (fun e=>by injection e with e;omega))).congr fun q hq=>HF.out q⟩
     case measure=>omega
    ·have HU:=zZ (jB HR.out (by omega) (by omega));have hlt2:¬ (j:Int) < (l.length:Int):=by omega
     go_wp2;go_ret;exact ⟨_,rfl,HU.out,HB2.out⟩
end Tw
end Go.Proofs.YtfbfeoplldjbpaaGreatDoor
