/-
  Texts put together (merge.py): ISet, IMarks.
-/
import Derived.Maps.OwnSet
import Derived.Deep.OwnRows
import Derived.Test.YtfbfeoplldjbpaaGreatDoorMo35
set_option linter.unusedSimpArgs false
set_option linter.unusedVariables false
set_option maxHeartbeats 16000000
set_option maxRecDepth 100000
section
namespace Go.Proofs.YtfbfeoplldjbpaaGreatDoor.Tw
open Go.RowKit Go.Maps
open Cm (Ln lnv bH bf iU jg)
theorem law9:Keyed Tryz.prog 9:=string_keyed Tryz.underlying9
theorem Jg (w:World):(zeroValue 93).run Tryz.prog w=.ok (.agg #[]) w:=by kernel_rfl
theorem info4:(Tryz.prog.info? 4).map (fun i=>(i.zero,i.size,i.bytes))=some (some (.bool false),1,1):=by kernel_rfl
def cO (w:World) (b n:Nat) (C:List Ln):Prop:=∃D:DataW Unit,w.ownsMap Tryz.prog 9 unitElem b n D/\∀s:List UInt8,Maps.has D (.string s)=C.any fun y=>uo y == s
theorem cO.new (w:World):cO (w.alloc (.map #[] 0)) w.heap.size 0 []:=⟨.map [],World.ownsMap_made _ _ _ _,fun s=>rfl⟩
theorem cO.far {w w':World} {b n:Nat} {C:List Ln} (h:cO w b n C) (hb:Below w.heap.size w w'):cO w' b n C:=by
 obtain ⟨D,⟨es,clock,hh,r⟩,h2⟩:=h
 exact ⟨D,⟨es,clock,tV hh hb,r⟩,h2⟩
theorem cO.set {w:World} {b n:Nat} {C:List Ln} (h:cO w b n C) {a:Addr} (ha:b ≠ a.block) (u:Value):cO (w.setCell a u) b n C:=by
 obtain ⟨D,h1,h2⟩:=h
 exact ⟨D,h1.setCell ha u,h2⟩
theorem cO.lt {w:World} {b n:Nat} {C:List Ln} (h:cO w b n C):b < w.heap.size:=by
 obtain ⟨D,h1,h2⟩:=h
 exact h1.lt
theorem Fh {ops:Array Oper} {rest:List Oper} {o:Oper} {a:Act} {w:World} {Q:Exit->Act->World->Prop} (hgd:o.guard=none) (m x v:Operand) (ho:o.op=Op.mapUpdate 92 m x v)
  (b n:Nat) (C:List Ln) (hm:a.eval m=.map (some b)) (h:cO w b n C) (hn:n<=1000000) (y:Ln) (hy:(uo y).length<=1000000000) (hx:a.eval x=.string (mk (uo y))) (hv:a.eval v=.agg #[])
  (hK:∀w',cO w' b (n+1) (C ++ [y])->w.grownBy w' (some b)->wpList Tryz.prog ops Q rest (a.put o.dst undef) w'):wpList Tryz.prog ops Q (o :: rest) a w:=by
 obtain ⟨D,h1,h2⟩:=h
 have hkey:keyOf Tryz.prog 9 (.string (mk (uo y)))=some (.string (uo y)):=by
  have:=Go.WideMaps.keyOf_string_mk (P:=Tryz.prog) Tryz.underlying9 (s:=mk (uo y)) (by rw [xM];unfold maxLen;omega)
  rwa [xI] at this
 refine wpList_mapUpdate_own _ hgd m x v 92 ho 9 93 law9 Tryz.underlying92 (unitElem (H:=Unit)) b n D hm h1 (by unfold maxLen;omega) _ _ _ hx hv hkey _ [] unitElem_mk fun w' q1 q2=>hK w' ⟨_,q1,fun s=>?_⟩ q2
 rw [List.any_append]
 by_cases e:uo y=s
 ·subst e
  rw [has_put_same (k:=.string (uo y)) h1.isMap True.intro]
  simp
 ·rw [has_put_other (fun h=>e (by injection h with h;exact h.symm)),h2 s]
  simp [e]
theorem EZ {ops:Array Oper} {rest:List Oper} {o:Oper} {a:Act} {w:World} {Q:Exit->Act->World->Prop} (hgd:o.guard=none) (m x:Operand) (ho:o.op=Op.lookup 92 m x true)
  (b n:Nat) (C:List Ln) (hm:a.eval m=.map (some b)) (h:cO w b n C) (y:Ln) (hy:(uo y).length<=1000000000) (hx:a.eval x=.string (mk (uo y))) (B:Bool) (hB:inB y C=B)
  (hK:wpList Tryz.prog ops Q rest (a.put o.dst (.tuple #[.agg #[],.bool B])) w):wpList Tryz.prog ops Q (o :: rest) a w:=by
 obtain ⟨D,h1,h2⟩:=h
 have hkey:keyOf Tryz.prog 9 (.string (mk (uo y)))=some (.string (uo y)):=by
  have:=Go.WideMaps.keyOf_string_mk (P:=Tryz.prog) Tryz.underlying9 (s:=mk (uo y)) (by rw [xM];unfold maxLen;omega)
  rwa [xI] at this
 refine wpList_lookup_own_unit _ hgd m x 92 ho 9 93 law9 Tryz.underlying92 (Jg _) b n D hm h1 _ _ hx hkey ?_
 rw [h2 (uo y)]
 have e:(C.any fun z=>uo z == uo y)=B:=hB
 rw [e]
 exact hK
def ah (w:World) (v:Value) (l:List Bool):Prop:=bT All (fun _ u x=>u=.bool x) w v l
theorem ah.far {w w':World} {v:Value} {l:List Bool} (h:ah w v l) (hb:Below w.heap.size w w'):ah w' v l:=bT.move h (Below.moves hb) fun _ _ _ h=>h
theorem ah.form {w:World} {v:Value} {l:List Bool} (h:ah w v l):∃a c,v=.slice a l.length c/\l.length<=c/\c<=9223372036854775807:=by
 obtain ⟨a,c,rfl,h1,h2,_⟩:=h
 exact ⟨a,c,rfl,h1,by unfold maxLen at h2;exact h2⟩
theorem ah.get {w:World} {a:Option Addr} {n c:Nat} {l:List Bool} (h:ah w (.slice a n c) l) (k:Nat) (hk:k < l.length):∃b o,a=some ⟨b,o,none⟩/\l[k]?=some l[k]/\w.cell? ⟨b,o+k,none⟩=some (.bool l[k]):=by
 obtain ⟨a',c',he,h1,h2,h3⟩:=h
 have ha:a=a':=by injection he
 subst ha
 rcases h3 with h|⟨b,o,ha,_,_,hc⟩
 ·subst h;simp at hk
 ·have hx:=List.getElem?_eq_getElem hk
  obtain ⟨m,q1,rfl⟩:=hc k _ hx
  exact ⟨b,o,ha,hx,q1⟩
theorem jC {w:World} {g n:Nat} {l:List Bool} {f:Nat->Value} (h:w.rowIs g 4 n f) (hn:l.length=n) (hm:n<=1000000) (hf:∀i,i < n->f i=.bool (l.getD i false)):ah w (.slice (some ⟨g,0,none⟩) n n) l:=by
 subst hn
 refine ⟨some ⟨g,0,none⟩,l.length,rfl,Nat.le_refl _,by unfold maxLen;omega,Or.inr ⟨g,0,rfl,trivial,h.lt,fun j x hj=>?_⟩⟩
 have hjl:j < l.length:=(List.getElem?_eq_some_iff.1 hj).1
 refine ⟨_,by rw [Nat.zero_add];exact h.cell hjl,?_⟩
 rw [hf j hjl,List.getD_eq_getElem?_getD,hj]
 rfl
end Go.Proofs.YtfbfeoplldjbpaaGreatDoor.Tw
end
section
namespace Go.Proofs.YtfbfeoplldjbpaaGreatDoor.Tw
open Go.RowKit Go.Maps
open Cm (Ln lnv bH bf iU jg)
theorem uq (x:Ln) (h:aZ x):(uo x).length<=500000000:=by
 have:=(uj x h x.mods.length).2
 rwa [uh x _ (Nat.le_refl _)] at this
def mkF (A l:List Ln) (j:Nat):Nat->Value:=fun q=>if q < j then .bool ((wZ A l).getD q false) else .bool false
theorem xB (A l:List Ln) (j:Nat) (x:Ln) (h:l[j]?=some x) (q:Nat):(if q=j then .bool (inB x (A ++ l.take j)) else mkF A l j q)=mkF A l (j+1) q:=by
 have hm:=xg l A j x h
 rw [←rP] at hm
 unfold mkF
 by_cases e:q=j
 ·subst e
  rw [if_pos rfl,if_pos (by omega),List.getD_eq_getElem?_getD,hm]
  rfl
 ·rw [if_neg e]
  by_cases e2:q < j
  ·rw [if_pos e2,if_pos (by omega)]
  ·rw [if_neg e2,if_neg (by omega)]
theorem take_snoc (l:List Ln) (j:Nat) (x:Ln) (h:l[j]?=some x):l.take (j+1)=l.take j ++ [x]:=by
 rw [List.take_add_one,h];rfl
theorem jB {w:World} {g:Nat} {A l:List Ln} {j:Nat} (h:w.rowIs g 4 l.length (mkF A l j)) (hj:l.length<=j) (hm:l.length<=1000000):ah w (.slice (some ⟨g,0,none⟩) l.length l.length) (wZ A l):=by
 refine jC h (xq l A) hm fun i hi=>?_
 unfold mkF
 rw [if_pos (by omega)]
theorem xk (v va:Value) (l A:List Ln) (w:World) (h:bH All w v l) (hA:bH All w va A) (hz:∀x ∈ l,aZ x) (hzA:∀x ∈ A,aZ x) (hl:l.length<=10000) (hlA:A.length<=10000) :
  Calls Tryz.prog 23 #[v,va] w fun e w'=>∃g,e=.returned (.slice (some ⟨g,0,none⟩) l.length l.length)/\ah w' (.slice (some ⟨g,0,none⟩) l.length l.length) (wZ A l)/\Below w.heap.size w w':=by
 have HL:=Lib.hid fun W (hb:Below w.heap.size w W)=>bH.move h (Below.moves hb)
 have HLA:=Lib.hid fun W (hb:Below w.heap.size w W)=>bH.move hA (Below.moves hb)
 have HZ:=Lib.hid hz
 have HZA:=Lib.hid hzA
 obtain ⟨a,c,rfl,f1,f2⟩:=bH.form h
 obtain ⟨aa,ca,rfl,g1,g2⟩:=bH.form hA
 have hmm:=@run_makeMap Tryz.prog
 have HMK:=run_make_row' (P:=Tryz.prog) 63 4 (.bool false) 1 Tryz.underlying63 info4 rfl .i64 .i64 l.length (by omega) (by omega)
 clear h hA hz hzA
 go_enter Tryz.func23,Tryz.ntmps23
 go_wp2
 go_loopg [15] A.length (fun gg i wr=>∃k:Nat,k<=A.length/\gg=A.length - k/\i=.int .i64 k/\Hid (cO wr w.heap.size k (A.take k))/\Hid (Below w.heap.size w wr))
 case atStart=>exact ⟨0,Nat.zero_le _,rfl,rfl,cO.new w,iU w _⟩
 case round =>
  obtain ⟨k,hk,hg,rfl,HS,HB⟩:=hrel
  by_cases hlt:k < A.length
  ·obtain ⟨b,o,m,rfl,hx,⟨c0,c1,c2,c3,c4,c5⟩,hr⟩:=bH.get (HLA.out wr HB.out) k hlt
   have hky:=HZA.out _ (List.mem_of_getElem? hx)
   have HKl:=Lib.hid (uq _ hky)
   have HKy:=Lib.hid fun o=>uw A[k] m (wr.alloc o) (dI.move hr (yt All wr o)) hky
   have HT:=Lib.hid (take_snoc A k _ hx)
   obtain ⟨am,cm,rfl,-,-⟩:=Cm.dI.form hr
   have hbl:=World.block_lt_of_cell? wr _ c0
   have HSw:=Lib.hid fun o w1 (hb1:Below (wr.alloc o).heap.size (wr.alloc o) w1)=>cO.far HS.out (jg (iU wr o) hb1)
   have HBw:=Lib.hid fun o w1 (hb1:Below (wr.alloc o).heap.size (wr.alloc o) w1)=>jg HB.out (jg (iU wr o) hb1)
   clear hx hr hky
   generalize A[k]=x at *
   go_wp2_with (first
    | (go_at_call 44;refine (HKy.out _).mono ?_;rintro e w1 ⟨rfl,hb1⟩)
    | (at_mapUpdate;refine Fh rfl _ _ _ rfl w.heap.size k (A.take k) rfl (HSw.out _ _ hb1) (by omega) x (by have:=HKl.out;omega) rfl rfl ?_;intro w2 hs2 hg2)
    | go_in)
   go_roundg (A.length - (k+1))
   case rel=>exact ⟨k+1,by omega,rfl,by go_num,by show cO _ _ _ _;rw [HT.out];exact hs2,(HBw.out _ _ hb1).grown hg2 (HBw.out _ _ hb1).size (fun j hj=>by injection hj with hj;omega)⟩
   case measure=>omega
  ·have HT:Hid (A.take k=A):=List.take_of_length_le (by omega)
   have hkA:k=A.length:=by omega
   have HS0:Hid (cO wr w.heap.size A.length A):=by show cO _ _ _ _;rw [HT.out,hkA] at HS;exact HS.out
   have hlt':¬ (k:Int) < (A.length:Int):=by omega
   clear HS HT hkA
   obtain ⟨wo,hwo⟩:∃z,z=wr:=⟨_,rfl⟩
   subst hwo
   have hBG:=HS0.out.lt
   go_wp2
   go_loopg [29] l.length (fun gg i wr=>∃j:Nat,j<=l.length/\gg=l.length - j/\i=.int .i64 j/\Hid (cO wr w.heap.size (A.length+j) (A ++ l.take j))/\Hid (Below w.heap.size w wr)/\Hid (wr.rowIs wo.heap.size 4 l.length (mkF A l j)))
   case atStart=>exact ⟨0,Nat.zero_le _,rfl,rfl,by show cO _ _ _ _;rw [List.take_zero,List.append_nil];exact cO.far HS0.out (iU wo _),jg HB.out (iU wo _),(World.rowIs_made wo (.bool false) l.length 4).congr fun q hq=>by simp [mkF]⟩
   case round =>
    obtain ⟨j,hj,hgj,rfl,HS,HB2,HR⟩:=hrel
    by_cases hltj:j < l.length
    ·obtain ⟨b,o,m,rfl,hx,⟨c0,c1,c2,c3,c4,c5⟩,hr⟩:=bH.get (HL.out wr HB2.out) j hltj
     have hky:=HZ.out _ (List.mem_of_getElem? hx)
     have HKl:=Lib.hid (uq _ hky)
     have HKy:=Lib.hid fun o=>uw l[j] m (wr.alloc o) (dI.move hr (yt All wr o)) hky
     have HT:=Lib.hid (take_snoc l j _ hx)
     have HF:=Lib.hid (xB A l j _ hx)
     obtain ⟨am,cm,rfl,-,-⟩:=Cm.dI.form hr
     have hbl:=World.block_lt_of_cell? wr _ c0
     have HSw:=Lib.hid fun o w1 (hb1:Below (wr.alloc o).heap.size (wr.alloc o) w1)=>cO.far HS.out (jg (iU wr o) hb1)
     have HBw:=Lib.hid fun o w1 (hb1:Below (wr.alloc o).heap.size (wr.alloc o) w1)=>jg HB2.out (jg (iU wr o) hb1)
     have HRw:=Lib.hid fun o w1 (hb1:Below (wr.alloc o).heap.size (wr.alloc o) w1)=>World.rowIs.of_block HR.out ((jg (iU wr o) hb1).block _ HR.out.lt)
     clear hx hr hky
     generalize l[j]=x at *
     obtain ⟨V,HV⟩:∃V,Hid (inB x (A ++ l.take j)=V):=⟨_,rfl⟩
     rw [HV.out] at HF
     go_wp2_with (first
      | (go_at_call 44;refine (HKy.out _).mono ?_;rintro e w1 ⟨rfl,hb1⟩;have hrc:=(HRw.out _ _ hb1).cell hltj;have hrf:=(HRw.out _ _ hb1).frozen j)
      | (at_lookup;refine EZ rfl _ _ rfl w.heap.size (A.length+j) (A ++ l.take j) rfl (HSw.out _ _ hb1) x (by have:=HKl.out;omega) rfl V HV.out ?_)
      | (at_mapUpdate;refine Fh rfl _ _ _ rfl w.heap.size (A.length+j) (A ++ l.take j) rfl (cO.set (HSw.out _ _ hb1) (by show w.heap.size ≠ wo.heap.size;omega) _) (by omega) x (by have:=HKl.out;omega) rfl rfl ?_;intro w2 hs2 hg2)
      | go_in)
     have hR1:=World.rowIs.set (HRw.out _ _ hb1) j (.bool V)
     have hB1:=Below.setCell (HBw.out _ _ hb1) (p:=⟨wo.heap.size,j,none⟩) (by show w.heap.size<=wo.heap.size;omega) (.bool V)
     go_roundg (l.length - (j+1))
     case rel=>exact ⟨j+1,by omega,rfl,by go_num,by show cO _ _ _ _;rw [HT.out,←List.append_assoc];exact hs2,hB1.grown hg2 hB1.size (fun q hq=>by injection hq with hq;omega),(World.rowIs.of_block hR1 (hg2.block _ hR1.lt (fun e=>by injection e with e;omega))).congr fun q hq=>HF.out q⟩
     case measure=>omega
    ·have HU:=Lib.hid (jB HR.out (by omega) (by omega))
     have hlt2:¬ (j:Int) < (l.length:Int):=by omega
     go_wp2
     go_ret
     exact ⟨_,rfl,HU.out,HB2.out⟩
end Go.Proofs.YtfbfeoplldjbpaaGreatDoor.Tw
end
