/-
  Texts put together (merge.py): YInsG, YPut, CAdds, CRefs, CSubs.
-/
import Derived.Test.YtfbfeoplldjbpaaGreatDoorMd7
set_option linter.unusedSimpArgs false
set_option linter.unusedVariables false
set_option maxHeartbeats 16000000
set_option maxRecDepth 100000
namespace Go.Proofs.YtfbfeoplldjbpaaGreatDoor
namespace Ac
open Go.RowKit
theorem rY (l:List Row) (x:Row) (i:Nat):rcs (l.take i) ++ rc x ++ rcs (l.drop i)=rcs (l.take i ++ x :: l.drop i):=by
 rw [Dc,Dh,List.append_assoc]
theorem sF (l:List Row) (x:Row) (i:Nat) (hi:i<=l.length):(l.take i ++ x :: l.drop i).length=l.length+1:=by simp;omega
theorem C9 {w:World} {vb:Nat} {x:Row} (hx:w.heap[vb]?=some (.cells #[sS x.who,.bool x.Br,iI x.year,iI x.de,iI x.oo] TA (0,0))) (j:Nat) (u:Value) (hj:(rc x)[j]?=some u):w.cell? ((⟨vb,0,none⟩:Addr).add j)=some u:=by
 rw [add_lit,Nat.zero_add,cell_of_row w vb j _ _ (0,0) hx];match j,hj with
 | 0,hj=>exact hj
 | 1,hj=>exact hj
 | 2,hj=>exact hj
 | 3,hj=>exact hj
 | 4,hj=>exact hj
 | n+5,hj=>simp [rc] at hj
theorem CZ (x:Row):∀u ∈ rc x,u.oneCell'=true:=fun u hu=>Dk [x] u (by simpa [rcs,rc] using hu)
theorem Aq {B H G p:Nat} {w W:World} {L:List Value} {l:List Row} (h:aD H L p w W) (hB:B<=H) (hG:l.length<=G) (hG2:G<=maxLen) (hL:L.length=G * 5) (ht:L.take (l.length * 5)=rcs l):Own B W (.slice (some ⟨H,0,none⟩) l.length G) l:=
 ⟨Dj l,Or.inr ⟨H,G,L.toArray,rfl,hB,h.1,hG,hG2,by simpa using hL,by simpa using ht⟩⟩
theorem nH {W:World} {g:Nat} {cur:List Value} (hg:W.heap[g]?=some (.cells cur.toArray TA (0,0))) {l:List Row} (ht:cur.take (l.length * 5)=rcs l) (i:Nat) (j:Nat) (u:Value) (hj:(rcs (l.drop i))[j]?=some u):W.cell? ((⟨g,i * 5,none⟩:Addr).add j)=some u:=by
 rw [add_lit,cell_of_row W g _ _ _ (0,0) hg];rw [Di,List.getElem?_drop,←ht,List.getElem?_take] at hj;split at hj
 ·simpa using hj
 ·cases hj
theorem Jf (k:Nat):(Builtin.zeroCells (Value.agg #[.string ByteArray.empty,.bool false,iI 0,iI 0,iI 0]).cells k).size=k * 5:=by
 simp [Builtin.zeroCells,Value.cells]
theorem su (l:List Row) (x:Row) (i:Nat) (B g c:Nat) (cur:List Value) (vb:Nat) (w:World) (hi:i < l.length) (hl:l.length<=100000) (hB:B<=w.heap.size)
  (hg:w.heap[g]?=some (.cells cur.toArray TA (0,0))) (hc1:l.length<=c) (hc2:c < l.length+1) (ht:cur.take (l.length * 5)=rcs l)
  (hx:w.heap[vb]?=some (.cells #[sS x.who,.bool x.Br,iI x.year,iI x.de,iI x.oo] TA (0,0))) :
  Calls Tryz.prog 171 #[.slice (some ⟨g,0,none⟩) l.length c,iI (i:Nat),.slice (some ⟨vb,0,none⟩) 1 1] w fun e w'=>∃v',e=.returned v'/\Own B w' v' (l.take i ++ x :: l.drop i)/\Below B w w':=by
 obtain ⟨n,hn⟩:∃n,l.length=n:=⟨_,rfl⟩;rw [hn] at hi hl hc1 hc2 ⊢;obtain ⟨i0,hi0,hz0,hz1,hz2⟩:=rX;have hgw:g < w.heap.size:=(Array.getElem?_eq_some_iff.1 hg).1;have hvw:vb < w.heap.size:=(Array.getElem?_eq_some_iff.1 hx).1;have hil:(l.take i).length=i:=by rw [List.length_take];omega
 have hold:(Builtin.firstCells i0.size i (.slice (some ⟨g,0,none⟩) i c)).run Tryz.prog w.drew=.ok (rcs (l.take i)).toArray w.drew:=by
  rw [hz1];refine run_firstCells_some w.drew 5 i ⟨g,0,none⟩ i c _ (by rw [Dj,hil]) (fun j u hj=>?_);rw [add_lit,Nat.zero_add];have:w.drew.cell? ⟨g,j,none⟩=w.cell? ⟨g,j,none⟩:=rfl;rw [this,cell_of_row w g _ _ _ (0,0) hg];rw [Dn,←ht,List.getElem?_take] at hj;split at hj
  ·rw [List.getElem?_take] at hj;split at hj
   ·simpa using hj
   ·cases hj
  ·cases hj
 obtain ⟨G,hG⟩:∃G,grownCap w (n+1) c TA=G:=⟨_,rfl⟩;have hGn:n+1<=G:=by rw [←hG];exact grownCap_ge w _ _ _
 have hGm:G<=maxLen:=by rw [←hG];exact grownCap_le_maxLen w (n+1) c TA (by unfold maxLen;omega)
 have hG63:G<=9223372036854775807:=by unfold maxLen at hGm;exact hGm
 obtain ⟨L0,hL0⟩:∃L0:List Value,L0=((rcs (l.take i)).toArray ++ Builtin.zeroCells (Value.agg #[.string ByteArray.empty,.bool false,iI 0,iI 0,iI 0]).cells (n+1 - i) ++ Builtin.zeroCells (Value.agg #[.string ByteArray.empty,.bool false,iI 0,iI 0,iI 0]).cells (G - (n+1))).toList:=⟨_,rfl⟩;have hLl:L0.length=G * 5:=by
  rw [hL0,Array.length_toList,Array.size_append,Array.size_append,Jf,Jf];simp only [List.size_toArray,Dj,hil];omega
 have hLt:L0.take (i * 5)=rcs (l.take i):=by
  rw [hL0,Array.toList_append,Array.toList_append,List.append_assoc];exact List.take_left' (by simp only [Dj,hil])
 have HA1:Hid (∀ty,∃W1,(Builtin.append_ #[32,3] ty #[.slice (some ⟨g,0,none⟩) i c,iI ((n:Int)+1 - (i:Int))]).run Tryz.prog w=.ok (.slice (some ⟨w.heap.size,0,none⟩) (n+1) G) W1/\aD w.heap.size L0 w.heap.size w W1):=fun ty=>by
  have h:=Lib.run_append_grow_zeros w 32 3 ty TA i0 _ .i64 .i64 Tryz.underlying32 Tryz.underlying3 hi0 hz0 (some ⟨g,0,none⟩) i c _ hold (n+1 - i) (by omega) (by omega) (by omega) (by omega) (by rw [hz2];omega) (by rw [hz2,show i+(n+1 - i)=n+1 by omega];exact growslice_fits hc2 (by omega));rw [show i+(n+1 - i)=n+1 by omega,hG] at h;rw [show (n:Int)+1 - (i:Int)=((n+1 - i:Nat):Int) by omega];refine ⟨_,h,?_,?_⟩
  ·rw [hL0,Array.toArray_toList];exact heap_alloc_new w.drew _
  ·exact ((Below.drew (Below.refl w.heap.size w)).alloc (Nat.le_refl _) _)
 have hdl:(l.drop i).length=n - i:=by rw [List.length_drop,hn]
 have HA2:Hid (∀W1,aD w.heap.size L0 w.heap.size w W1->∀ty dc,∃W2,(Builtin.copy_ #[32,32] ty #[.slice (some ⟨w.heap.size,i * 5,none⟩) (n+1 - i) dc,.slice (some ⟨vb,0,none⟩) 1 1]).run Tryz.prog W1=.ok (goInt 1) W2/\aD w.heap.size (spl L0 (i * 5) (rc x)) w.heap.size w W2):=fun W1 h1 ty dc =>
  l9 h1 (Nat.le_refl _) ⟨vb,0,none⟩ (i * 5) (n+1 - i) dc 1 1 (rc x) 1 (by simp only [Nat.min_def];split<;>omega) rfl (C9 (tV hx h1.2)) (by rw [hLl];simp only [rc,List.length_cons,List.length_nil];omega) (CZ x) ty
 have hL2:(spl L0 (i * 5) (rc x)).length=G * 5:=by rw [FU _ _ _ (by rw [hLl];simp only [rc,List.length_cons,List.length_nil];omega),hLl]
 have HA3:Hid (∀W2,aD w.heap.size (spl L0 (i * 5) (rc x)) w.heap.size w W2->∀ty dc sc,∃W3,(Builtin.copy_ #[32,32] ty #[.slice (some ⟨w.heap.size,(i+1) * 5,none⟩) (n+1 - (i+1)) dc,.slice (some ⟨g,i * 5,none⟩) (n - i) sc]).run Tryz.prog W2.drew=.ok (goInt (n - i:Nat)) W3/\aD w.heap.size (spl (spl L0 (i * 5) (rc x)) ((i+1) * 5) (rcs (l.drop i))) w.heap.size w W3):=fun W2 h2 ty dc sc =>
  l9 (W:=W2.drew) ⟨h2.1,Below.drew h2.2⟩ (Nat.le_refl _) ⟨g,i * 5,none⟩ ((i+1) * 5) (n+1 - (i+1)) dc (n - i) sc (rcs (l.drop i)) (n - i) (by simp only [Nat.min_def];split<;>omega) (by rw [Dj,hdl]) (fun j u hj=>nH (W:=W2.drew) (tV hg (Below.drew h2.2)) ht i j u hj) (by rw [hL2,Dj,hdl];omega) (Dk _) ty
 have HL3:Hid ((spl (spl L0 (i * 5) (rc x)) ((i+1) * 5) (rcs (l.drop i))).length=G * 5/\(spl (spl L0 (i * 5) (rc x)) ((i+1) * 5) (rcs (l.drop i))).take ((n+1) * 5)=rcs (l.take i ++ x :: l.drop i)):=by
  refine ⟨by rw [FU _ _ _ (by rw [hL2,Dj,hdl];omega),hL2],?_⟩;rw [←rY];exact FX hLt (by simp only [rc,List.length_cons,List.length_nil];omega) (by rw [Dj,hdl];omega) (by rw [hLl];omega)
 have HE:Hid ((l.take i ++ x :: l.drop i).length=n+1):=by rw [←hn];exact sF l x i (by omega)
 have e1:¬ ((i:Int)=(n:Int)):=by omega
 have e1b:((i:Int) == (n:Int))=false:=by simp;omega
 have e2:(c:Int) < (n:Int)+1:=by omega
 have e3:(i:Int)<=(n:Int):=by omega
 have e4:(i:Int)<=(c:Int):=by omega
 have e5:¬ (c=i):=by omega
 have e6:¬ (G=i):=by omega
 have e7:¬ (G=i+1):=by omega
 have e8:(i:Int)+1<=(n:Int)+1:=by omega
 have e9:(i:Int)<=(n:Int)+1:=by omega
 have e10:((i:Int)+1).toNat=i+1:=by omega
 have e11:(0:Int)<=(i:Int)+1:=by omega
 have e12:IntKind.i64.wrap ((i:Int)+1)=(i:Int)+1:=by rw [IntKind.wrap_i64];omega
 have HG:=zZ (And.intro hGn hGm);obtain ⟨l2,Hl2⟩:∃l2,Hid (l.take i ++ x :: l.drop i=l2):=⟨_,(rfl:l.take i ++ x :: l.drop i=_)⟩;rw [Hl2.out] at HL3 HE ⊢;generalize spl (spl L0 (i * 5) (rc x)) ((i+1) * 5) (rcs (l.drop i))=L3 at *;generalize spl L0 (i * 5) (rc x)=L2 at *;obtain ⟨p,Hp⟩:∃p,Hid (w.heap.size=p):=⟨_,(rfl:w.heap.size=_)⟩;rw [Hp.out] at HA1 HA2 HA3 hB;have hB':=hB;clear hold hL0 hLl hLt hL2 hdl Hl2 hil hG hi0 hz0 hz1 hz2 hg hx ht hn hgw hvw;go_enter Tryz.func171,Tryz.ntmps171
 go_upto_region 10 with (at_builtin;refine IL rfl _ _ 32 3 rfl (.slice (some ⟨g,0,none⟩) i c) (iI ((n:Int)+1 - (i:Int))) rfl rfl _ _ (HA1.out _) ?_;intro W1 HW1)
 obtain ⟨W2,hr2,hW2⟩:=HA2.out W1 HW1.out 3 (G - i);have HW2:=zZ hW2;clear hW2;go_wp2_with fail
 clear hr2;go_region_law (refine F8 rfl _ _ 32 32 rfl (.slice (some ⟨p,(i+1) * 5,none⟩) (n+1 - (i+1)) (G - (i+1))) (.slice (some ⟨g,i * 5,none⟩) (n - i) (c - i)) (by simp [Act.eval,Act.put]) (by simp [Act.eval,Act.put]) (goInt (n - i:Nat)) _ (HA3.out _ HW2.out 3 (G - (i+1)) (c - i)) ?_;intro W3 HW3)
 all_goals (
  go_wp2;go_ret;refine ⟨_,rfl,?_,?_⟩
  ·rw [←HE.out];exact Aq HW3.out hB' (by rw [HE.out];exact HG.out.1) HG.out.2 HL3.out.1 (by rw [HE.out];exact HL3.out.2)
  ·exact (HW3.out.2).mono hB')
theorem sG (l:List Row) (x:Row) (i:Nat) (B g c:Nat) (cur:List Value) (vb:Nat) (w:World) (hi:i < l.length) (hl:l.length<=100000) (hBg:B<=g) (hne:vb ≠ g)
  (hg:w.heap[g]?=some (.cells cur.toArray TA (0,0))) (hc2:l.length+1<=c) (hcm:c<=maxLen) (hcs:cur.length=c * 5) (ht:cur.take (l.length * 5)=rcs l)
  (hx:w.heap[vb]?=some (.cells #[sS x.who,.bool x.Br,iI x.year,iI x.de,iI x.oo] TA (0,0))) :
  Calls Tryz.prog 171 #[.slice (some ⟨g,0,none⟩) l.length c,iI (i:Nat),.slice (some ⟨vb,0,none⟩) 1 1] w fun e w'=>∃v',e=.returned v'/\Own B w' v' (l.take i ++ x :: l.drop i)/\Below B w w':=by
 obtain ⟨n,hn⟩:∃n,l.length=n:=⟨_,rfl⟩;rw [hn] at hi hl hc2 ⊢;obtain ⟨i0,hi0,hz0,hz1,hz2⟩:=rX;have hil:(l.take i).length=i:=by rw [List.length_take];omega
 have hdl:(l.drop i).length=n - i:=by rw [List.length_drop,hn]
 have hLt:cur.take (i * 5)=rcs (l.take i):=by
  rw [Dn,←ht,List.take_take];congr 1;omega
 have hsz:∀w,(Go.sizeOf TA).run Tryz.prog w=.ok 5 w:=fun w=>by simp [sizeOf,typeInfo,hi0,hz1]
 have hov:∀lb cb,(callFunc 175 #[.slice (some ⟨vb,0,none⟩) 1 1,.slice (some ⟨g,(i+1) * 5,none⟩) lb cb]).run Tryz.prog w=.ok (.value (.bool false)) w:=fun lb cb=>by
  rw [run_callFunc_extern Tryz.func175 (by kernel_rfl) (by kernel_rfl) (by kernel_rfl) (e:=Extern.SlicesOverlaps.overlaps #[32,32] #[4]) (by kernel_rfl),
   Lib.run_overlaps_apart w 32 4 TA Tryz.underlying32 5 hsz ⟨vb,0,none⟩ ⟨g,(i+1) * 5,none⟩ 1 1 lb cb hne TA TA 5 (c * 5) (by simp [World.shape?,hx]) (by simp [World.shape?,hg,hcs]) (by omega) (Lib.frozen_of_heap hx _) (Lib.frozen_of_heap hx _)]
  rfl
 have HA2:Hid (∀ty dc sc,∃W2,(Builtin.copy_ #[32,32] ty #[.slice (some ⟨g,(i+1) * 5,none⟩) (n+1 - (i+1)) dc,.slice (some ⟨g,i * 5,none⟩) (n+1 - i) sc]).run Tryz.prog w.drew=.ok (goInt (n - i:Nat)) W2/\aD g (spl cur ((i+1) * 5) (rcs (l.drop i))) B w W2):=fun ty dc sc =>
  l9 (W:=w.drew) ⟨hg,Below.drew (Below.refl B w)⟩ hBg ⟨g,i * 5,none⟩ ((i+1) * 5) (n+1 - (i+1)) dc (n+1 - i) sc (rcs (l.drop i)) (n - i) (by simp only [Nat.min_def];split<;>omega) (by rw [Dj,hdl]) (fun j u hj=>nH (W:=w.drew) hg ht i j u hj) (by rw [hcs,Dj,hdl];omega) (Dk _) ty
 have hL2:(spl cur ((i+1) * 5) (rcs (l.drop i))).length=c * 5:=by rw [FU _ _ _ (by rw [hcs,Dj,hdl];omega),hcs]
 have HA3:Hid (∀W2,aD g (spl cur ((i+1) * 5) (rcs (l.drop i))) B w W2->W2.heap[vb]?=w.heap[vb]?->∀ty dc,∃W3,(Builtin.copy_ #[32,32] ty #[.slice (some ⟨g,i * 5,none⟩) (n+1 - i) dc,.slice (some ⟨vb,0,none⟩) 1 1]).run Tryz.prog W2=.ok (goInt 1) W3/\aD g (spl (spl cur ((i+1) * 5) (rcs (l.drop i))) (i * 5) (rc x)) B w W3):=fun W2 h2 hk ty dc =>
  l9 h2 hBg ⟨vb,0,none⟩ (i * 5) (n+1 - i) dc 1 1 (rc x) 1 (by simp only [Nat.min_def];split<;>omega) rfl (C9 (hk.trans hx)) (by rw [hL2];simp only [rc,List.length_cons,List.length_nil];omega) (CZ x) ty
 have HL3:Hid ((spl (spl cur ((i+1) * 5) (rcs (l.drop i))) (i * 5) (rc x)).length=c * 5/\(spl (spl cur ((i+1) * 5) (rcs (l.drop i))) (i * 5) (rc x)).take ((n+1) * 5)=rcs (l.take i ++ x :: l.drop i)):=by
  refine ⟨by rw [FU _ _ _ (by rw [hL2];simp only [rc,List.length_cons,List.length_nil];omega),hL2],?_⟩;rw [←rY];exact FV hLt (by simp only [rc,List.length_cons,List.length_nil];omega) (by rw [Dj,hdl];omega) (by rw [hcs];omega)
 have HE:Hid ((l.take i ++ x :: l.drop i).length=n+1):=by rw [←hn];exact sF l x i (by omega)
 have e1:¬ ((i:Int)=(n:Int)):=by omega
 have e1b:((i:Int) == (n:Int))=false:=by simp;omega
 have hc63:c<=9223372036854775807:=by unfold maxLen at hcm;exact hcm
 have e2:¬ ((c:Int) < (n:Int)+1):=by omega
 have e3:(i:Int)<=(n:Int):=by omega
 have e4:(i:Int)<=(c:Int):=by omega
 have e5:¬ (c=i):=by omega
 have e7:¬ (c=i+1):=by omega
 have e8:(i:Int)+1<=(n:Int)+1:=by omega
 have e9:(i:Int)<=(n:Int)+1:=by omega
 have e10:((i:Int)+1).toNat=i+1:=by omega
 have e10b:((n:Int)+1).toNat=n+1:=by omega
 have e11:(0:Int)<=(i:Int)+1:=by omega
 have e11b:(n:Int)+1<=(c:Int):=by omega
 have e12:IntKind.i64.wrap ((i:Int)+1)=(i:Int)+1:=by rw [IntKind.wrap_i64];omega
 have HC:=zZ (And.intro hc2 hcm);obtain ⟨l2,Hl2⟩:∃l2,Hid (l.take i ++ x :: l.drop i=l2):=⟨_,(rfl:l.take i ++ x :: l.drop i=_)⟩;rw [Hl2.out] at HL3 HE ⊢;generalize spl (spl cur ((i+1) * 5) (rcs (l.drop i))) (i * 5) (rc x)=L3 at *;have HVB:Hid (∀W2,(∃ty dc sc,(Builtin.copy_ #[32,32] ty #[.slice (some ⟨g,(i+1) * 5,none⟩) (n+1 - (i+1)) dc,.slice (some ⟨g,i * 5,none⟩) (n+1 - i) sc]).run Tryz.prog w.drew=.ok (goInt (n - i:Nat)) W2)->W2.heap[vb]?=w.heap[vb]?):=by
  rintro W2 ⟨ty,dc,sc,h⟩;have hr:=Ee Tryz.prog w.drew 32 32 ty TA 5 g ((i+1) * 5) (n+1 - (i+1)) dc ⟨g,i * 5,none⟩ (n+1 - i) sc cur.toArray TA (rcs (l.drop i)) Tryz.underlying32 (by rw [hi0];simp [hz1]) hg (by rw [Dj,hdl];congr 1;simp only [Nat.min_def];split<;>omega) (fun j u hj=>nH (W:=w.drew) hg ht i j u hj) (by simp only [List.size_toArray];rw [hcs,Dj,hdl];omega) (Dk _);rw [hr] at h;injection h with _ h;rw [←h];exact setRow_other w.drew g vb _ hne
 have HA4:Hid (∀ty dc sc,∃W2,(Builtin.copy_ #[32,32] ty #[.slice (some ⟨g,(i+1) * 5,none⟩) (n+1 - (i+1)) dc,.slice (some ⟨g,i * 5,none⟩) (n+1 - i) sc]).run Tryz.prog w.drew=.ok (goInt (n - i:Nat)) W2/\(aD g (spl cur ((i+1) * 5) (rcs (l.drop i))) B w W2/\W2.heap[vb]?=w.heap[vb]?)):=fun ty dc sc=>by
  obtain ⟨W2,h,hl⟩:=HA2.out ty dc sc;exact ⟨W2,h,hl,HVB.out W2 ⟨ty,dc,sc,h⟩⟩
 clear hL2 hdl hLt Hl2 hil hi0 hz0 hz1 hz2 hsz hg hx ht hn hcs HA2 HVB;generalize spl cur ((i+1) * 5) (rcs (l.drop i))=L2 at *;go_enter Tryz.func171,Tryz.ntmps171
 go_wp2_with (simp only [hov])
 go_region_law (refine F8 rfl _ _ 32 32 rfl (.slice (some ⟨g,(i+1) * 5,none⟩) (n+1 - (i+1)) (c - (i+1))) (.slice (some ⟨g,i * 5,none⟩) (n+1 - i) (c - i)) (by simp [Act.eval,Act.put]) (by simp [Act.eval,Act.put]) (goInt (n - i:Nat)) _ (HA4.out 3 (c - (i+1)) (c - i)) ?_;intro W2 HW2)
 all_goals (
  obtain ⟨W3,hr3,hW3⟩:=HA3.out W2 HW2.out.1 HW2.out.2 3 (c - i);have HW3:=zZ hW3;clear hW3;go_wp2;go_ret;refine ⟨_,rfl,?_,?_⟩
  ·rw [←HE.out];exact Aq HW3.out hBg (by rw [HE.out];exact HC.out.1) HC.out.2 HL3.out.1 (by rw [HE.out];exact HL3.out.2)
  ·exact HW3.out.2)
theorem sH (l:List Row) (x:Row) (i:Nat) (B:Nat) (v:Value) (vb:Nat) (w:World) (hown:Own B w v l) (hi:i<=l.length) (hl:l.length<=100000) (hB:B<=w.heap.size) (hne:v.ownBlock ≠ some vb)
  (hx:w.heap[vb]?=some (.cells #[sS x.who,.bool x.Br,iI x.year,iI x.de,iI x.oo] TA (0,0))) :
  Calls Tryz.prog 171 #[v,iI (i:Nat),.slice (some ⟨vb,0,none⟩) 1 1] w fun e w'=>∃v',e=.returned v'/\Own B w' v' (l.take i ++ x :: l.drop i)/\Below B w w':=by
 rcases Nat.lt_or_ge i l.length with h|h
 ·rcases hown.2 with ⟨rfl,h0⟩|⟨g,cap,cur,rfl,hbg,hg,h1,h2,hs,ht⟩
  ·omega
  ·have hg':w.heap[g]?=some (.cells cur.toList.toArray TA (0,0)):=by rw [Array.toArray_toList];exact hg
   have hs':cur.toList.length=cap * 5:=by simpa using hs
   have hne':vb ≠ g:=fun e=>hne (by rw [e];rfl);rcases Nat.lt_or_ge cap (l.length+1) with hc|hc
   ·exact su l x i B g cap cur.toList vb w h hl hB hg' h1 hc ht hx
   ·exact sG l x i B g cap cur.toList vb w h hl hbg hne' hg' hc h2 hs' ht hx
 ·have e:i=l.length:=by omega
  subst e;rw [List.take_of_length_le (Nat.le_refl _),List.drop_eq_nil_of_le (Nat.le_refl _)];exact rZ l x B v vb w hown hl hB hx
end Ac
namespace Ac
open Go.RowKit
theorem EM (A D:List Value) (b0 b1 b2 b3 b4 a0 a1 a2 a3 a4:Value) (p:Nat) (hA:A.length=p) :
  (((((A ++ b0 :: b1 :: b2 :: b3 :: b4 :: D).set p a0).set (p+1) a1).set (p+2) a2).set (p+3) a3).set (p+4) a4=A ++ a0 :: a1 :: a2 :: a3 :: a4 :: D:=by
 subst hA;simp [List.set_append]
theorem nG (L:List Value) (p:Nat) (h:p+5<=L.length):∃b0 b1 b2 b3 b4,L=L.take p ++ b0 :: b1 :: b2 :: b3 :: b4 :: L.drop (p+5):=by
 refine ⟨L[p],L[p+1],L[p+2],L[p+3],L[p+4],?_⟩;rw [←List.drop_eq_getElem_cons (show p+4 < L.length by omega),←List.drop_eq_getElem_cons (show p+3 < L.length by omega),←List.drop_eq_getElem_cons (show p+2 < L.length by omega),←List.drop_eq_getElem_cons (show p+1 < L.length by omega),←List.drop_eq_getElem_cons (show p < L.length by omega),List.take_append_drop]
theorem Dl (l:List Row) (i:Nat) (r:Row) (hi:i < l.length):rcs (l.set i r)=(rcs l).take (i * 5) ++ rc r ++ (rcs l).drop (i * 5+5):=by
 rw [List.set_eq_take_append_cons_drop,if_pos hi,Dc,Dh,Dn,Di,List.append_assoc];congr 3
 omega
theorem GX (C X:List Value) (n p:Nat) (hX:X.length=5) (hp:p+5<=n) (hn:n<=C.length):(C.take p ++ X ++ C.drop (p+5)).take n=(C.take n).take p ++ X ++ (C.take n).drop (p+5):=by
 have h1:(C.take p ++ X).length=p+5:=by rw [List.length_append,List.length_take,hX];omega
 rw [List.take_append,h1,List.take_of_length_le (by omega),List.take_take,Nat.min_eq_left (by omega),List.drop_take]
theorem Ar {B:Nat} {w:World} {g cap:Nat} {l:List Row} (h:Own B w (.slice (some ⟨g,0,none⟩) l.length cap) l) (i:Nat) (r:Row) (hi:i < l.length) :
  Own B (((((w.setCell ⟨g,i * 5,none⟩ (sS r.who)).setCell ⟨g,i * 5+1,none⟩ (.bool r.Br)).setCell ⟨g,i * 5+2,none⟩ (iI r.year)).setCell ⟨g,i * 5+3,none⟩ (iI r.de)).setCell ⟨g,i * 5+4,none⟩ (iI r.oo)) (.slice (some ⟨g,0,none⟩) l.length cap) (l.set i r):=by
 rcases h.2 with ⟨e,_⟩|⟨g',cap',cur,e,hbg,hg,h1,h2,hs,ht⟩
 ·simp at e
 ·simp only [Value.slice.injEq,Option.some.injEq,Addr.mk.injEq,and_true,true_and] at e;obtain ⟨rfl,rfl⟩:=e;have s1:=heap_set hg (i * 5) (sS r.who);have s2:=heap_set s1 (i * 5+1) (.bool r.Br);have s3:=heap_set s2 (i * 5+2) (iI r.year);have s4:=heap_set s3 (i * 5+3) (iI r.de);have s5:=heap_set s4 (i * 5+4) (iI r.oo);have hlen:(l.set i r).length=l.length:=List.length_set;refine ⟨by rw [Dj],Or.inr ⟨g,cap,_,by rw [hlen],hbg,s5,by rw [hlen];exact h1,h2,by simpa using hs,?_⟩⟩;simp only [Array.toList_setIfInBounds];have hcl:cur.toList.length=cap * 5:=by simpa using hs
  obtain ⟨b0,b1,b2,b3,b4,hd⟩:=nG cur.toList (i * 5) (by omega);have hpl:(cur.toList.take (i * 5)).length=i * 5:=by rw [List.length_take];omega
  have hall:((((cur.toList.set (i * 5) (sS r.who)).set (i * 5+1) (.bool r.Br)).set (i * 5+2) (iI r.year)).set (i * 5+3) (iI r.de)).set (i * 5+4) (iI r.oo)=cur.toList.take (i * 5) ++ rc r ++ cur.toList.drop (i * 5+5):=by
   conv=>lhs;rw [hd]
   rw [EM _ _ _ _ _ _ _ _ _ _ _ _ _ hpl];simp [rc]
  rw [hall,hlen,Dl l i r hi,←ht];exact GX cur.toList (rc r) (l.length * 5) (i * 5) rfl (by omega) (by omega)
theorem gF {B B':Nat} {w:World} {v:Value} {l:List Row} (hB:B' ≤ B) (h:Own B w v l):Own B' w v l:=
 ⟨h.1,h.2.imp id fun ⟨g,c,cur,e,h0,r⟩=>⟨g,c,cur,e,Nat.le_trans hB h0,r⟩⟩
def BX (l:List Row) (r:Row) (i:Nat) (fb:Bool):List Row:=if fb=true then l.set i r else if r.oo=0 then l else l.take i ++ r :: l.drop i
theorem gH (l:List Row) (r:Row) (v:Value) (w:World) (h:cu All w v l) (hl:l.length<=10000) (hU:Up l) :
  Calls Tryz.prog 158 #[v,rwv r] w fun e w'=>∃v' i fb,e=.returned v'/\dh l r i fb/\Own w.heap.size w' v' (BX l r i fb)/\Below w.heap.size w w':=by
 have hb1:=iU w (.cells #[sS r.who,.bool r.Br,iI r.year,iI r.de,iI r.oo] TA);have hz1:=heap_alloc_new w (.cells #[sS r.who,.bool r.Br,iI r.year,iI r.de,iI r.oo] TA);have hs1:(w.alloc (.cells #[sS r.who,.bool r.Br,iI r.year,iI r.de,iI r.oo] TA)).heap.size=w.heap.size+1:=by simp
 have HZ:=zZ hz1;have HB:=zZ hb1;have HCl:=zZ (bN l v _ (h.Bu hb1) (by omega));have HFi:=zZ fun W v' (hW:cu All W v' l)=>oQ l r v' W hW (by omega) hU;obtain ⟨fa,fk,rfl,hm1,hm2⟩:=h.form;have HL:=zZ hl;clear h hb1 hz1;go_enter Tryz.func158,Tryz.ntmps158
 go_upto_region 1 with fail
 generalize w.alloc (.cells #[sS r.who,.bool r.Br,iI r.year,iI r.de,iI r.oo] TA)=W at *;generalize hp:w.heap.size=p at *;go_wp2_with fail
 go_at_call 25
 refine HCl.out.mono ?_;rintro e w1 ⟨v1,rfl,ho1,hb1⟩;have HB1:=zZ (jf hp HB.out hb1);have HZ1:=zZ (tV HZ.out hb1);have HWp:Hid (p<=W.heap.size):=Nat.le_trans (Nat.le_succ p) (Nat.le_of_eq hs1.symm);have HS1:=zZ (Nat.le_trans (Nat.le_of_eq hs1.symm) hb1.size);have HO1:=zZ ho1;have HQ:Hid (∀b,v1.ownBlock=some b->p+1<=b):=fun b hb=>by have:=(ho1.lt b hb).1;rw [hs1] at this;exact this
 obtain ⟨a1,c1,rfl,hm3,hm4⟩:=Am ho1;have hc1:=(Eo (K:=All) ho1 fun _ _=>trivial);have HR1:=zZ hc1;clear ho1 hb1 HCl HZ HB hc1 hs1;obtain ⟨z0,z1,z2,z3,z4⟩:=cells5 HZ1.out;go_wp2_with fail
 go_at_call 156
 refine (HFi.out _ _ HR1.out).mono ?_;rintro e w2 ⟨⟨i,fb,rfl,hst⟩,hb2⟩;have HB2:=zZ (jf hp HB1.out hb2);have HZ2:=zZ (tV HZ1.out hb2);have HO2:=zZ (Ak HO1.out hb2);have HS2:=zZ (Nat.le_trans HS1.out hb2.size);have HST:=zZ hst;clear hb2 hst HFi HB1 HZ1 HO1 HR1 HS1 z0 z1 z2 z3 z4;obtain ⟨z0,z1,z2,z3,z4⟩:=cells5 HZ2.out;cases fb with
 | true =>
  obtain ⟨hi,-⟩:=HST.out.2.2.2.1 rfl;have HE:Hid (BX l r i true=l.set i r):=(rfl:BX l r i true=l.set i r);have hform:∃g cur,a1=some ⟨g,0,none⟩/\p+1<=g/\w2.heap[g]?=some (.cells cur TA (0,0)):=by
   rcases HO2.out.2 with ⟨e,h0⟩|⟨g,cap,cur,e,hbg,hg,_⟩
   ·omega
   ·simp only [Value.slice.injEq] at e;exact ⟨g,cur,e.1,HQ.out g (by rw [e.1];rfl),hg⟩
  obtain ⟨g,cur,rfl,hgp,hg⟩:=hform;have hc:=jZ (Eo (K:=All) HO2.out fun _ _=>trivial) i hi;rw [Nat.zero_add] at hc;obtain ⟨x0,x1,x2,x3,x4⟩:=hc;have t0:w2.frozen? ⟨g,i * 5,none⟩=false:=Lib.frozen_of_heap hg _;have t1:w2.frozen? ⟨g,i * 5+1,none⟩=false:=Lib.frozen_of_heap hg _;have t2:w2.frozen? ⟨g,i * 5+2,none⟩=false:=Lib.frozen_of_heap hg _;have t3:w2.frozen? ⟨g,i * 5+3,none⟩=false:=Lib.frozen_of_heap hg _;have t4:w2.frozen? ⟨g,i * 5+4,none⟩=false:=Lib.frozen_of_heap hg _;have HOF:=zZ (Ar HO2.out i r hi);have Cq:Hid (Below p w (((((w2.setCell ⟨g,i * 5,none⟩ (sS r.who)).setCell ⟨g,i * 5+1,none⟩ (.bool r.Br)).setCell ⟨g,i * 5+2,none⟩ (iI r.year)).setCell ⟨g,i * 5+3,none⟩ (iI r.de)).setCell ⟨g,i * 5+4,none⟩ (iI r.oo))):=
   ((((HB2.out.setCell (p:=⟨g,i * 5,none⟩) (show p<=g by omega) _).setCell (p:=⟨g,i * 5+1,none⟩) (show p<=g by omega) _).setCell (p:=⟨g,i * 5+2,none⟩) (show p<=g by omega) _).setCell (p:=⟨g,i * 5+3,none⟩) (show p<=g by omega) _).setCell (p:=⟨g,i * 5+4,none⟩) (show p<=g by omega) _
  have hiz:(i:Int) < (l.length:Int):=by omega
  clear hg HO2 HB2 HZ2 HS2 HQ;go_wp2;go_ret;refine ⟨_,i,true,rfl,HST.out,?_,?_⟩
  ·rw [hp,HE.out];exact gF HWp.out HOF.out
  ·rw [hp];exact Cq.out
 | false =>
  by_cases h0:r.oo=0
  ·have HE:Hid (BX l r i false=l):=(by unfold BX;rw [if_neg (by decide),if_pos h0]:BX l r i false=l);have hz:(r.oo == 0)=true:=by simp [h0]
   clear h0;go_wp2;go_ret;refine ⟨_,i,false,rfl,HST.out,?_,?_⟩
   ·rw [hp,HE.out];exact gF HWp.out HO2.out
   ·rw [hp];exact HB2.out
  ·have HE:Hid (BX l r i false=l.take i ++ r :: l.drop i):=(by unfold BX;rw [if_neg (by decide),if_neg h0]:BX l r i false=l.take i ++ r :: l.drop i);have hz:(r.oo == 0)=false:=by simp [h0]
   have hb3:=iU w2 (.cells #[sS r.who,.bool r.Br,iI r.year,iI r.de,iI r.oo] TA);have hz3:=heap_alloc_new w2 (.cells #[sS r.who,.bool r.Br,iI r.year,iI r.de,iI r.oo] TA);have HIn:=zZ (sH l r i p _ w2.heap.size _ (gF HWp.out (Ak HO2.out hb3)) HST.out.1 (by omega) (Nat.le_trans (by have:=HS2.out;omega) hb3.size) (fun e=>by have:=(HO2.out.lt _ e).2;omega) hz3);have HB3:=zZ (jf hp HB2.out hb3);obtain ⟨l2,Hl2⟩:∃l2,Hid (l.take i ++ r :: l.drop i=l2):=⟨_,(rfl:l.take i ++ r :: l.drop i=_)⟩;rw [Hl2.out] at HIn HE;clear h0 hb3 hz3 HO2 HB2 HZ2 HS2 HQ;go_wp2_with fail
   go_at_call 171
   refine HIn.out.mono ?_;rintro e w4 ⟨v4,rfl,ho4,hb4⟩;have HO4:=zZ ho4;have HB4:=zZ (HB3.out.trans hb4);obtain ⟨a4,c4,rfl,-,-⟩:=Am ho4;clear ho4 hb4 HIn HB3 z0 z1 z2 z3 z4;go_wp2;go_ret;refine ⟨_,i,false,rfl,HST.out,?_,?_⟩
   ·rw [hp,HE.out];exact HO4.out
   ·rw [hp];exact HB4.out
end Ac
namespace Ce
open Go.RowKit
theorem qh (a:Int) (w:World) :
  Calls Tryz.prog 76 #[iI a] w fun e w'=>e=.returned (.bool (good a))/\w'=w:=by
 by_cases h0:0<=a
 ·by_cases h1:a<=10000000000000
  ·have g:good a=true:=(ql a).2 ⟨h0,h1⟩;rw [g];go_enter Tryz.func76,Tryz.ntmps76
   go_wp2;go_ret;exact ⟨rfl,rfl⟩
  ·have g:good a=false:=(qm a).2 (by omega);rw [g];go_enter Tryz.func76,Tryz.ntmps76
   go_wp2;go_ret;exact ⟨rfl,rfl⟩
 ·have g:good a=false:=(qm a).2 (by omega);rw [g];go_enter Tryz.func76,Tryz.ntmps76
  go_wp2;go_ret;exact ⟨rfl,rfl⟩
theorem aM (a b:Int) (w:World) :
  Calls Tryz.prog 120 #[iI a,iI b] w fun e w'=>e=.returned (.tuple #[iI (dM a b),iI (dJ a b)])/\w'=w:=by
 cases ga:good a
 ·have e1:dM a b=0:=by simp [dM,ga]
  have e2:dJ a b=1:=by simp [dJ,ga]
  rw [e1,e2];go_enter Tryz.func120,Tryz.ntmps120
  go_wp2_with (go_at_call 76;refine (qh _ _).mono ?_;rintro e w' ⟨rfl,rfl⟩)
  go_ret2;exact ⟨rfl,rfl⟩
 ·cases gb:good b
  ·have e1:dM a b=0:=by simp [dM,gb]
   have e2:dJ a b=1:=by simp [dJ,gb]
   rw [e1,e2];go_enter Tryz.func120,Tryz.ntmps120
   go_wp2_with (go_at_call 76;refine (qh _ _).mono ?_;rintro e w' ⟨rfl,rfl⟩)
   go_ret2;exact ⟨rfl,rfl⟩
  ·have ba:=(ql a).1 ga;have bb:=(ql b).1 gb;obtain ⟨a0,a1⟩:=ba;obtain ⟨b0,b1⟩:=bb;cases gc:good (a+b)
   ·have e1:dM a b=0:=by simp [dM,gc]
    have e2:dJ a b=2:=by simp [dJ,ga,gb,gc]
    rw [e1,e2];go_enter Tryz.func120,Tryz.ntmps120
    go_wp2_with (go_at_call 76;refine (qh _ _).mono ?_;rintro e w' ⟨rfl,rfl⟩)
    go_ret2;exact ⟨rfl,rfl⟩
   ·have e1:dM a b=a+b:=by simp [dM,ga,gb,gc]
    have e2:dJ a b=0:=by simp [dJ,ga,gb,gc]
    rw [e1,e2];go_enter Tryz.func120,Tryz.ntmps120
    go_wp2_with (go_at_call 76;refine (qh _ _).mono ?_;rintro e w' ⟨rfl,rfl⟩)
    go_ret2;exact ⟨rfl,rfl⟩
end Ce
namespace Ce
open Go.RowKit
theorem NM (a:Int) (w:World) :
  Calls Tryz.prog 52 #[iI a] w fun e w'=>e=.returned (.bool (good a))/\w'=w:=by
 by_cases h0:a < 0
 ·have g:good a=false:=(qm a).2 (by omega);rw [g];go_enter Tryz.func52,Tryz.ntmps52
  go_wp2;go_ret;exact ⟨rfl,rfl⟩
 ·by_cases h1:10000000000000 < a
  ·have g:good a=false:=(qm a).2 (by omega);rw [g];go_enter Tryz.func52,Tryz.ntmps52
   go_wp2;go_ret;exact ⟨rfl,rfl⟩
  ·have g:good a=true:=(ql a).2 (by omega);rw [g];go_enter Tryz.func52,Tryz.ntmps52
   go_wp2;go_ret;exact ⟨rfl,rfl⟩
end Ce
namespace Ce
open Go.RowKit
theorem Gp (a b:Int) (w:World) :
  Calls Tryz.prog 122 #[iI a,iI b] w fun e w'=>e=.returned (.tuple #[iI (Gm a b),iI (Gl a b)])/\w'=w:=by
 cases ga:good a
 ·have e1:Gm a b=0:=by simp [Gm,ga]
  have e2:Gl a b=1:=by simp [Gl,ga]
  rw [e1,e2];go_enter Tryz.func122,Tryz.ntmps122
  go_wp2_with (go_at_call 76;refine (qh _ _).mono ?_;rintro e w' ⟨rfl,rfl⟩)
  go_ret2;exact ⟨rfl,rfl⟩
 ·cases gb:good b
  ·have e1:Gm a b=0:=by simp [Gm,gb]
   have e2:Gl a b=1:=by simp [Gl,gb]
   rw [e1,e2];go_enter Tryz.func122,Tryz.ntmps122
   go_wp2_with (go_at_call 76;refine (qh _ _).mono ?_;rintro e w' ⟨rfl,rfl⟩)
   go_ret2;exact ⟨rfl,rfl⟩
  ·have ba:=(ql a).1 ga;have bb:=(ql b).1 gb;obtain ⟨a0,a1⟩:=ba;obtain ⟨b0,b1⟩:=bb;by_cases gc:a < b
   ·have nb:¬ b<=a:=by omega
    have e1:Gm a b=0:=by simp [Gm,nb]
    have e2:Gl a b=3:=by simp [Gl,ga,gb,nb]
    rw [e1,e2];go_enter Tryz.func122,Tryz.ntmps122
    go_wp2_with (go_at_call 76;refine (qh _ _).mono ?_;rintro e w' ⟨rfl,rfl⟩)
    go_ret2;exact ⟨rfl,rfl⟩
   ·have nb:b<=a:=by omega
    have e1:Gm a b=a - b:=by simp [Gm,ga,gb,nb]
    have e2:Gl a b=0:=by simp [Gl,ga,gb,nb]
    rw [e1,e2];go_enter Tryz.func122,Tryz.ntmps122
    go_wp2_with (go_at_call 76;refine (qh _ _).mono ?_;rintro e w' ⟨rfl,rfl⟩)
    go_ret2;exact ⟨rfl,rfl⟩
theorem MR (a b:Int) (w:World) :
  Calls Tryz.prog 139 #[iI a,iI b] w fun e w'=>e=.returned (.tuple #[iI (dM a b),iI (dJ a b)])/\w'=w:=by
 cases ga:good a
 ·have e1:dM a b=0:=by simp [dM,ga]
  have e2:dJ a b=1:=by simp [dJ,ga]
  rw [e1,e2];go_enter Tryz.func139,Tryz.ntmps139
  go_wp2_with (go_at_call 52;refine (NM _ _).mono ?_;rintro e w' ⟨rfl,rfl⟩)
  go_ret2;exact ⟨rfl,rfl⟩
 ·cases gb:good b
  ·have e1:dM a b=0:=by simp [dM,gb]
   have e2:dJ a b=1:=by simp [dJ,gb]
   rw [e1,e2];go_enter Tryz.func139,Tryz.ntmps139
   go_wp2_with (go_at_call 52;refine (NM _ _).mono ?_;rintro e w' ⟨rfl,rfl⟩)
   go_ret2;exact ⟨rfl,rfl⟩
  ·have ba:=(ql a).1 ga;have bb:=(ql b).1 gb;obtain ⟨a0,a1⟩:=ba;obtain ⟨b0,b1⟩:=bb;cases gc:good (a+b)
   ·have e1:dM a b=0:=by simp [dM,gc]
    have e2:dJ a b=2:=by simp [dJ,ga,gb,gc]
    rw [e1,e2];go_enter Tryz.func139,Tryz.ntmps139
    go_wp2_with (go_at_call 52;refine (NM _ _).mono ?_;rintro e w' ⟨rfl,rfl⟩)
    go_ret2;exact ⟨rfl,rfl⟩
   ·have e1:dM a b=a+b:=by simp [dM,ga,gb,gc]
    have e2:dJ a b=0:=by simp [dJ,ga,gb,gc]
    rw [e1,e2];go_enter Tryz.func139,Tryz.ntmps139
    go_wp2_with (go_at_call 52;refine (NM _ _).mono ?_;rintro e w' ⟨rfl,rfl⟩)
    go_ret2;exact ⟨rfl,rfl⟩
end Ce
end Go.Proofs.YtfbfeoplldjbpaaGreatDoor
