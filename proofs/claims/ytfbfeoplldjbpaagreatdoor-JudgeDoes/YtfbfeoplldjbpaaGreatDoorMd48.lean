/-
  Texts put together (merge.py): IRMarks.
-/
import Derived.Test.YtfbfeoplldjbpaaGreatDoorMd47
set_option linter.unusedSimpArgs false
set_option linter.unusedVariables false
set_option maxHeartbeats 16000000
set_option maxRecDepth 100000
namespace Go.Proofs.YtfbfeoplldjbpaaGreatDoor
namespace Tw
open Go.RowKit
open Cm (Ln lnv bH bf iU jg)
def aL (B:Nat) (w:World) (v:Value) (l:List Bool):Prop:=w.ownsRow B 4 1 v l.length (l.map Value.bool)
theorem aL.nil (B:Nat) (w:World):aL B w (.slice none 0 0) []:=World.ownsRow_nil _ _ _ _
theorem aL.far {B:Nat} {w w':World} {v:Value} {l:List Bool} (h:aL B w v l) (hb:Below w.heap.size w w'):aL B w' v l:=Ak h hb
theorem LG:∃i,Tryz.prog.info? 4=some i/\i.zero=some (.bool false)/\i.size=1/\i.bytes=1:=by
 have hi:=eO;cases hq:Tryz.prog.info? 4 with
 | none=>rw [hq] at hi;cases hi
 | some i =>
  rw [hq] at hi;simp only [Option.map_some,Option.some.injEq,Prod.mk.injEq] at hi;exact ⟨i,rfl,hi⟩
theorem KF {ops:Array Oper} {rest:List Oper} {o:Oper} {a:Act} {w:World} {Q:Exit->Act->World->Prop} (hgd:o.guard=none) (s x:Operand) (ho:o.op=.call { callee:=.builtin .append,args:=#[s,x],argTypes:=#[63,63] })
  (B:Nat) (v:Value) (l:List Bool) (hs:a.eval s=v) (hown:aL B w v l) (b k:Nat) (c:Bool) (hx:a.eval x=.slice (some ⟨b,0,none⟩) 1 k)
  (hc:w.cell? ⟨b,0,none⟩=some (.bool c)) (hl:l.length<=1000000000) (hB:B<=w.heap.size)
  (h:∀v' w',aL B w' v' (l ++ [c])->Below B w w'->wpList Tryz.prog ops Q rest (a.put o.dst v') w'):wpList Tryz.prog ops Q (o :: rest) a w:=by
 obtain ⟨i,q1,q2,q3,q4⟩:=LG;refine wpList_append_own _ hgd s x 63 ho B 4 i _ 1 1 Tryz.underlying63 q1 q2 q3 q4 rfl (by decide) v l.length (l.map Value.bool) hs hown ⟨b,0,none⟩ 1 k [.bool c] hx rfl (fun j u hj=>?_) (fun u hu=>?_) (by unfold maxLen;omega) (by omega) hB fun v' w' ho' hg _=>?_
 ·match j,hj with
  | 0,hj =>
   rw [show (⟨b,0,none⟩:Addr).add 0=⟨b,0,none⟩ by unfold Addr.add;split<;>simp_all,hc];exact hj
  | j+1,hj=>simp at hj
 ·simp at hu;rw [hu];rfl
 ·refine h v' w' ?_ (qo hown hg hB);unfold aL;rw [List.map_append,List.length_append];exact ho'
theorem KQ {B:Nat} {w:World} {v:Value} {l:List Bool} (h:aL B w v l):ah w v l:=by
 refine Oq (K:=All) (R:=fun _ u x=>u=.bool x) h (fun _ _=>trivial) fun j u y hj hy=>?_;rw [List.getElem?_map,hy] at hj;simp at hj;exact hj.symm
theorem LD (x y:Ln) (A:List Ln) (j:Nat) (h:A[j]?=some y):inB x (A.take (j+1))=(inB x (A.take j) || decide (uo y=uo x)):=by
 rw [iB A j y h,rP];congr 1
 simp [inB];rw [Bool.eq_iff_iff];simp
theorem L8 (A l:List Ln) (k:Nat) (x:Ln) (h:l[k]?=some x):(wZ A l).take (k+1)=(wZ A l).take k ++ [inB x (A ++ l.take k)]:=by
 have hm:=xg l A k x h;rw [←rP] at hm;rw [List.take_add_one,hm];rfl
theorem Om (v va:Value) (l A:List Ln) (w:World) (h:bH All w v l) (hA:bH All w va A) (hz:∀x ∈ l,aZ x) (hzA:∀x ∈ A,aZ x) (hl:l.length<=10000) (hlA:A.length<=10000) :
  Calls Tryz.prog 28 #[v,va] w fun e w'=>∃u,e=.returned u/\ah w' u (wZ A l)/\Below w.heap.size w w':=by
 have HL:=zZ fun W (hb:Below w.heap.size w W)=>bH.move h (Below.moves hb);have HLA:=zZ fun W (hb:Below w.heap.size w W)=>bH.move hA (Below.moves hb);have HZ:=zZ hz;have HZA:=zZ hzA;obtain ⟨a,c,rfl,f1,f2⟩:=bH.form h;obtain ⟨aa,ca,rfl,g1,g2⟩:=bH.form hA;clear h hA hz hzA;go_enter Tryz.func28,Tryz.ntmps28
 go_wp2;go_loopg [5,6] l.length (fun gg v i wr=>∃k:Nat,k<=l.length/\gg=l.length - k/\i=iI k/\Hid (aL w.heap.size wr v ((wZ A l).take k))/\Hid (Below w.heap.size w wr))
 case atStart=>exact ⟨0,Nat.zero_le _,rfl,rfl,aL.nil _ _,Below.refl _ _⟩
 case round =>
  obtain ⟨k,hk,hg,rfl,HO,HB⟩:=hrel;by_cases hlt:k < l.length
  ·obtain ⟨b,o,m,rfl,hx,⟨c0,c1,c2,c3,c4,c5⟩,hr⟩:=bH.get (HL.out wr HB.out) k hlt;have hky:=HZ.out _ (List.mem_of_getElem? hx);have HKy:=zZ (Oc l[k] m wr hr hky);have HMS:=zZ (L8 A l k _ hx);obtain ⟨am,cm,rfl,-,-⟩:=Cm.dI.form hr;clear hx hr hky;obtain ⟨wo,hwo⟩:∃z,z=wr:=⟨_,rfl⟩;subst hwo;have hlm:((wZ A l).take k).length<=10000:=by rw [List.length_take];omega
   generalize hxx:l[k]=x at *;clear hxx;go_wp2_with (first
    | (go_at_call 54;refine HKy.out.mono ?_;rintro e w1 ⟨rfl,hb1⟩)
    | go_in)
   have HB1:=zZ (jg HB.out hb1);have HO1:=zZ (HO.out.far hb1);clear hb1 c0 c1 c2 c3 c4 c5;go_loopg [8,9] A.length (fun gg t j wr=>∃n:Nat,n<=A.length/\gg=A.length - n/\j=iI n/\t=.bool (inB x (A.take n))/\Hid (Below w1.heap.size w1 wr))
   case atStart=>exact ⟨0,Nat.zero_le _,rfl,rfl,rfl,Below.refl _ _⟩
   case round =>
    obtain ⟨n,hn,hgn,rfl,rfl,HB2⟩:=hrel;by_cases hltn:n < A.length
    ·obtain ⟨b',o',m',rfl,hx,⟨c0,c1,c2,c3,c4,c5⟩,hr⟩:=bH.get (HLA.out wr (jg HB1.out HB2.out)) n hltn;have HKy2:=zZ (Oc A[n] m' wr hr (HZA.out _ (List.mem_of_getElem? hx)));have HI:=zZ (LD x _ A n hx);have HE:=zZ (Cm.Mc (uo A[n]) (uo x));obtain ⟨am',cm',rfl,-,-⟩:=Cm.dI.form hr;clear hx hr;generalize A[n]=y at *;obtain ⟨V,HV⟩:∃V,Hid (decide (uo y=uo x)=V):=⟨_,rfl⟩;rw [HV.out] at HI HE;have hEe:=HE.out;obtain ⟨T,HT⟩:∃T,Hid (inB x (A.take n)=T):=⟨_,rfl⟩;rw [HT.out] at HI ⊢;cases T
     ·rw [Bool.false_or] at HI;go_wp2_with (first
       | (go_at_call 54;refine HKy2.out.mono ?_;rintro e w2 ⟨rfl,hb2⟩)
       | go_in)
      go_roundg (A.length - (n+1))
      case rel=>exact ⟨n+1,by omega,rfl,by go_num,by rw [HI.out],jg HB2.out hb2⟩
      case measure=>omega
     ·rw [Bool.true_or] at HI;go_wp2;go_roundg (A.length - (n+1))
      case rel=>exact ⟨n+1,by omega,rfl,by go_num,by rw [HI.out],HB2.out⟩
      case measure=>omega
    ·have HT:Hid (A.take n=A):=List.take_of_length_le (by omega);rw [HT.out];have hltn':¬ (n:Int) < (A.length:Int):=by omega
     obtain ⟨w2,hwo⟩:∃z,z=wr:=⟨_,rfl⟩;subst hwo;go_wp2;go_loopg [8,10] k (fun gg t j wr=>∃n:Nat,n<=k/\gg=k - n/\j=iI n/\t=.bool (inB x (A ++ l.take n))/\Hid (Below w1.heap.size w1 wr))
     case atStart=>exact ⟨0,Nat.zero_le _,rfl,rfl,by rw [List.take_zero,List.append_nil],HB2.out⟩
     case round =>
      obtain ⟨j,hj,hgj,rfl,rfl,HB3⟩:=hrel;by_cases hltj:j < k
      ·have hjl:j < l.length:=by omega
       obtain ⟨b',o',m',he,hx,⟨c0,c1,c2,c3,c4,c5⟩,hr⟩:=bH.get (HL.out wr (jg HB1.out HB3.out)) j hjl;injection he with he;injection he with he1 he2;subst he1 he2;have HKy2:=zZ (Oc l[j] m' wr hr (HZ.out _ (List.mem_of_getElem? hx)));have HI:Hid (inB x (A ++ l.take (j+1))=(inB x (A ++ l.take j) || decide (uo l[j]=uo x))):=by
        show _=_;rw [rP,LD x _ l j hx,rP,Bool.or_assoc]
       have HE:=zZ (Cm.Mc (uo l[j]) (uo x));obtain ⟨am',cm',rfl,-,-⟩:=Cm.dI.form hr;clear hx hr;generalize l[j]=y at *;obtain ⟨V,HV⟩:∃V,Hid (decide (uo y=uo x)=V):=⟨_,rfl⟩;rw [HV.out] at HI HE;have hEe:=HE.out;obtain ⟨T,HT⟩:∃T,Hid (inB x (A ++ l.take j)=T):=⟨_,rfl⟩;rw [HT.out] at HI ⊢;cases T
       ·rw [Bool.false_or] at HI;go_wp2_with (first
         | (go_at_call 54;refine HKy2.out.mono ?_;rintro e w2 ⟨rfl,hb2⟩)
         | go_in)
        go_roundg (k - (j+1))
        case rel=>exact ⟨j+1,by omega,rfl,by go_num,by rw [HI.out],jg HB3.out hb2⟩
        case measure=>omega
       ·rw [Bool.true_or] at HI;go_wp2;go_roundg (k - (j+1))
        case rel=>exact ⟨j+1,by omega,rfl,by go_num,by rw [HI.out],HB3.out⟩
        case measure=>omega
      ·obtain rfl:j=k:=by omega
       have hltj':¬ (j:Int) < (j:Int):=by omega
       generalize inB x (A ++ l.take j)=T at *;have HB4:=zZ fun o=>jg (jg HB1.out HB3.out) (iU wr o);have HO4:=zZ fun o=>(HO1.out.far HB3.out).far (iU wr o);go_wp2_with (first
        | (at_builtin;refine KF rfl _ _ rfl w.heap.size _ ((wZ A l).take j) rfl (HO4.out _) _ 1 T rfl (by first|simp|rfl) (by omega) (HB4.out _).size ?_;intro v2 w3 ho3 hb3)
        | go_in)
       go_roundg (l.length - (j+1))
       case rel=>exact ⟨j+1,by omega,rfl,by go_num,by show aL _ _ _ _;rw [HMS.out];exact ho3,(HB4.out _).trans hb3⟩
       case measure=>omega
  ·have HT:Hid ((wZ A l).take k=wZ A l):=List.take_of_length_le (by rw [xq];omega);have HU:=zZ (KQ HO.out);rw [HT.out] at HU;have hlt':¬ (k:Int) < (l.length:Int):=by omega
   go_wp2;go_ret;exact ⟨_,rfl,HU.out,HB.out⟩
end Tw
end Go.Proofs.YtfbfeoplldjbpaaGreatDoor
