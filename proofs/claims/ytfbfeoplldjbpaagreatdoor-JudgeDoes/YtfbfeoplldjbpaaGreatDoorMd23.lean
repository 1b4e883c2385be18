/-
  Texts put together (merge.py): UHold, UBox.
-/
import Derived.Test.YtfbfeoplldjbpaaGreatDoorMd14
set_option linter.unusedSimpArgs false
set_option linter.unusedVariables false
set_option maxHeartbeats 16000000
set_option maxRecDepth 100000
namespace Go.Proofs.YtfbfeoplldjbpaaGreatDoor
namespace Ul
open Go.RowKit
open Pl (Cd St Ru Pn aX dD bY bW Ok1 cdv stv ruv pnv iU jg jv jU iR jf)
open Wo (jI jQ tV qL)
open Cm (Ln)
abbrev lnv (x:Ln) (m:Value):Value:=.agg #[.string (mk x.proc),m,iI x.date,iI x.units,iI x.Av,iI x.prior]
theorem Hf {w w':World} {v:Value} {xs:List Tx} (h:dI All w v xs) (hb:Below w.heap.size w w'):dI All w' v xs:=dI.move h (Below.moves hb)
theorem G9 {w:World} {v:Value} {xs:List Tx} (h:dI All w v xs):∃a c,v=.slice a xs.length c/\xs.length<=c/\c<=9223372036854775807:=by
 obtain ⟨a,c,rfl,h1,h2,_⟩:=h;exact ⟨a,c,rfl,h1,by unfold maxLen at h2;exact h2⟩
theorem He {w:World} {a:Option Addr} {n c:Nat} {xs:List Tx} (h:dI All w (.slice a n c) xs) (k:Nat) (hk:k < xs.length) :
  ∃b o,a=some ⟨b,o,none⟩/\xs[k]?=some xs[k]/\w.cell? ⟨b,o+k,none⟩=some (.string (mk xs[k])):=by
 obtain ⟨a',c',he,h1,h2,h3⟩:=h;have ha:a=a':=by injection he
 subst ha;rcases h3 with h|⟨b,o,ha,_,_,hc⟩
 ·subst h;simp at hk
 ·have hx:=List.getElem?_eq_getElem hk;obtain ⟨m,q1,rfl⟩:=hc k _ hx;exact ⟨b,o,ha,hx,q1⟩
theorem jJ (w:World) (c:Cd) (m:Value) (x:Ln) (ml:Value) :
  Below w.heap.size w ((w.alloc (.cells #[iI c.kind,.string (mk c.lo),.string (mk c.hi),iI c.n,m] 79)).alloc (.cells #[.string (mk x.proc),ml,iI x.date,iI x.units,iI x.Av,iI x.prior] 48)) ∧
  ((w.alloc (.cells #[iI c.kind,.string (mk c.lo),.string (mk c.hi),iI c.n,m] 79)).alloc (.cells #[.string (mk x.proc),ml,iI x.date,iI x.units,iI x.Av,iI x.prior] 48)).heap[w.heap.size]?=some (.cells #[iI c.kind,.string (mk c.lo),.string (mk c.hi),iI c.n,m] 79 (0,0)) ∧
  ((w.alloc (.cells #[iI c.kind,.string (mk c.lo),.string (mk c.hi),iI c.n,m] 79)).alloc (.cells #[.string (mk x.proc),ml,iI x.date,iI x.units,iI x.Av,iI x.prior] 48)).heap[w.heap.size+1]?=some (.cells #[.string (mk x.proc),ml,iI x.date,iI x.units,iI x.Av,iI x.prior] 48 (0,0)):=by
 refine ⟨jg (iU w _) (iU _ _),tV (heap_alloc_new w _) (iU _ _),?_⟩;have h:=heap_alloc_new (w.alloc (.cells #[iI c.kind,.string (mk c.lo),.string (mk c.hi),iI c.n,m] 79)) (.cells #[.string (mk x.proc),ml,iI x.date,iI x.units,iI x.Av,iI x.prior] 48);rwa [show (w.alloc (.cells #[iI c.kind,.string (mk c.lo),.string (mk c.hi),iI c.n,m] 79)).heap.size=w.heap.size+1 by simp] at h
theorem vk (a b:Tx):(Op.bytesLess a b || a == b) = !Op.bytesLess b a:=by
 cases h:Op.bytesLess b a
 ·cases h2:Op.bytesLess a b
  ·rw [Go.Proofs.bytesLess_eq] at h h2;simp only [decide_eq_false_iff_not,List.not_lt] at h h2;have:=List.le_antisymm h h2;simp [this]
  ·rfl
 ·rw [Go.Proofs.bytesLess_eq] at h ⊢;simp only [decide_eq_true_eq] at h;have h2:¬ a < b:=List.lt_asymm h;have h3:a ≠ b:=fun e=>by rw [e] at h;exact List.lt_irrefl _ h
  simp [h2,h3]
theorem gG (t:Tx) (xs:List Tx) (k:Nat) (y:Tx) (h:xs[k]?=some y) (ha:(xs.take k).any (fun z=>decide (z=t))=false) (hy:¬ t=y):(xs.take (k+1)).any (fun z=>decide (z=t))=false:=by
 rw [List.take_add_one,h];simp_all
 exact fun e=>hy e.symm
theorem gu (t:Tx) (xs:List Tx) (k:Nat) (h:xs[k]?=some t):xs.any (fun z=>decide (z=t))=true:=by
 rw [List.any_eq_true];exact ⟨t,List.mem_of_getElem? h,by simp⟩
theorem Ho (t:Tx):(mk t).toList=t:=by rw [Lib.toList_data,xI]
theorem Hl {a b:Tx} (h:¬ a=b):((mk a).toList == (mk b).toList)=false:=by rw [Ho,Ho];simpa using h
theorem Pv (a:Tx):((mk a).toList == (mk a).toList)=true:=by simp
def aW (xs:List Tx) (t:Tx) (n:Int):Prop:=decide (0<=n)=xs.any (fun z=>decide (z=t))
theorem rU (xs:List Tx) (t:Tx) (v:Value) (w:World) (h:dI All w v xs) :
  Calls Tryz.prog 166 #[v,.string (mk t)] w fun e w'=>(∃n,e=.returned (iI n)/\aW xs t n)/\w'=w:=by
 have HT:=zZ h;obtain ⟨a,c,rfl,h1,h2⟩:=G9 h;clear h;go_enter Tryz.func166,Tryz.ntmps166
 go_wp2;go_loopg [8] (xs.length) (fun g i wr=>∃n:Nat,n<=xs.length/\g=xs.length - n/\i=iI n/\wr=w/\Hid ((xs.take n).any (fun z=>decide (z=t))=false))
 case atStart=>exact ⟨0,Nat.zero_le _,rfl,rfl,rfl,rfl⟩
 case round =>
  obtain ⟨n,hn,hgk,rfl,rfl,HA⟩:=hrel;by_cases hlt:n < xs.length
  ·obtain ⟨b,o,rfl,hx,hc⟩:=He HT.out n hlt;by_cases he:t=xs[n]
   ·have HR:Hid (aW xs t n):=by show decide _=_;rw [gu t xs n (by rw [hx,←he]),decide_eq_true (by omega)]
    rw [←he] at hc;clear hx he HA;go_wp2;go_ret;exact ⟨⟨_,rfl,HR.out⟩,rfl⟩
   ·have HN:=zZ (gG t xs n _ hx HA.out he);have hne:((mk t).toList == (mk xs[n]).toList)=false:=Hl he;clear hx he HA;generalize xs[n]=y at *;go_wp2;go_roundg (xs.length - (n+1))
    case rel=>exact ⟨n+1,by omega,rfl,by go_num,rfl,HN.out⟩
    case measure=>omega
  ·have HR:Hid (aW xs t (-1)):=by
    show decide _=_;have:=HA.out;rw [List.take_of_length_le (by omega)] at this;rw [this];rfl
   clear HA;go_wp2;go_ret;exact ⟨⟨_,rfl,HR.out⟩,rfl⟩
theorem lY (xs:List Tx) (t:Tx) (v:Value) (w:World) (h:dI All w v xs) :
  Calls Tryz.prog 150 #[v,.string (mk t)] w fun e w'=>e=.returned (.bool (xs.any (fun z=>decide (z=t))))/\w'=w:=by
 have HI:=zZ (rU xs t v w h);obtain ⟨a,c,rfl,h1,h2⟩:=G9 h;clear h;go_enter Tryz.func150,Tryz.ntmps150
 go_wp2_with (go_at_call 166;refine HI.out.mono ?_;rintro e w1 ⟨⟨n,rfl,hn⟩,hw⟩;rw [hw];clear hw)
 go_ret;unfold aW at hn;exact ⟨by rw [←hn];rfl,rfl⟩
end Ul
namespace Ul
open Go.RowKit
open Pl (Cd St Ru Pn aX dD bY bW Ok1 cdv stv ruv pnv iU jg jv jU iR jf)
open Wo (jI jQ tV qL)
open Cm (Ln)
theorem jM (w:World) (r:Ru) (k u s:Value) (x:Ln) (ml:Value) :
  Below w.heap.size w ((w.alloc (.cells #[iI r.rank,iI r.BS.kind,sS r.BS.lo,sS r.BS.hi,iI r.BS.n,k,u,s] 82)).alloc (.cells #[sS x.proc,ml,iI x.date,iI x.units,iI x.Av,iI x.prior] 48)) ∧
  ((w.alloc (.cells #[iI r.rank,iI r.BS.kind,sS r.BS.lo,sS r.BS.hi,iI r.BS.n,k,u,s] 82)).alloc (.cells #[sS x.proc,ml,iI x.date,iI x.units,iI x.Av,iI x.prior] 48)).heap[w.heap.size]?=some (.cells #[iI r.rank,iI r.BS.kind,sS r.BS.lo,sS r.BS.hi,iI r.BS.n,k,u,s] 82 (0,0)) ∧
  ((w.alloc (.cells #[iI r.rank,iI r.BS.kind,sS r.BS.lo,sS r.BS.hi,iI r.BS.n,k,u,s] 82)).alloc (.cells #[sS x.proc,ml,iI x.date,iI x.units,iI x.Av,iI x.prior] 48)).heap[w.heap.size+1]?=some (.cells #[sS x.proc,ml,iI x.date,iI x.units,iI x.Av,iI x.prior] 48 (0,0)):=by
 refine ⟨jg (iU w _) (iU _ _),tV (heap_alloc_new w _) (iU _ _),?_⟩;have h:=heap_alloc_new (w.alloc (.cells #[iI r.rank,iI r.BS.kind,sS r.BS.lo,sS r.BS.hi,iI r.BS.n,k,u,s] 82)) (.cells #[sS x.proc,ml,iI x.date,iI x.units,iI x.Av,iI x.prior] 48);rwa [show (w.alloc (.cells #[iI r.rank,iI r.BS.kind,sS r.BS.lo,sS r.BS.hi,iI r.BS.n,k,u,s] 82)).heap.size=w.heap.size+1 by simp] at h
theorem jK (w:World) (p:Pn) (m:Value) (x:Ln) (ml:Value) :
  Below w.heap.size w ((w.alloc (.cells #[iI p.mode,iI p.Ay,iI p.AR,iI p.Bb,iI p.AJ,m] 24)).alloc (.cells #[sS x.proc,ml,iI x.date,iI x.units,iI x.Av,iI x.prior] 48)) ∧
  ((w.alloc (.cells #[iI p.mode,iI p.Ay,iI p.AR,iI p.Bb,iI p.AJ,m] 24)).alloc (.cells #[sS x.proc,ml,iI x.date,iI x.units,iI x.Av,iI x.prior] 48)).heap[w.heap.size]?=some (.cells #[iI p.mode,iI p.Ay,iI p.AR,iI p.Bb,iI p.AJ,m] 24 (0,0)) ∧
  ((w.alloc (.cells #[iI p.mode,iI p.Ay,iI p.AR,iI p.Bb,iI p.AJ,m] 24)).alloc (.cells #[sS x.proc,ml,iI x.date,iI x.units,iI x.Av,iI x.prior] 48)).heap[w.heap.size+1]?=some (.cells #[sS x.proc,ml,iI x.date,iI x.units,iI x.Av,iI x.prior] 48 (0,0)):=by
 refine ⟨jg (iU w _) (iU _ _),tV (heap_alloc_new w _) (iU _ _),?_⟩;have h:=heap_alloc_new (w.alloc (.cells #[iI p.mode,iI p.Ay,iI p.AR,iI p.Bb,iI p.AJ,m] 24)) (.cells #[sS x.proc,ml,iI x.date,iI x.units,iI x.Av,iI x.prior] 48);rwa [show (w.alloc (.cells #[iI p.mode,iI p.Ay,iI p.AR,iI p.Bb,iI p.AJ,m] 24)).heap.size=w.heap.size+1 by simp] at h
theorem Ej {w:World} {b:Nat} {r:Ru} {k u s:Value} {T:TypeId} (h:w.heap[b]?=some (.cells #[iI r.rank,iI r.BS.kind,sS r.BS.lo,sS r.BS.hi,iI r.BS.n,k,u,s] T (0,0))) (hin:bW All w r k u s):bY All w (.slice (some ⟨b,0,none⟩) 1 1) [r]:=by
 refine ⟨_,_,rfl,Nat.le_refl _,by unfold maxLen;simp,by unfold Pl.Big;simp,Or.inr ⟨_,_,rfl,trivial,(Array.getElem?_eq_some_iff.1 h).1,fun j x hj=>?_⟩⟩;have c:=fun j=>cell_of_row w b j _ _ (0,0) h;match j,hj with
 | 0,hj =>
  obtain rfl:r=x:=Option.some.inj hj;exact ⟨k,u,s,⟨c 0,c 1,c 2,c 3,c 4,c 5,c 6,c 7⟩,hin⟩
 | n+1,hj=>simp at hj
theorem gy (f:Cd->Bool) (xs:List Cd) (k:Nat) (y:Cd) (h:xs[k]?=some y) (hy:f y=true):xs.any f=true:=by
 rw [List.any_eq_true];exact ⟨y,List.mem_of_getElem? h,hy⟩
theorem gB (f:Cd->Bool) (xs:List Cd) (k:Nat) (y:Cd) (h:xs[k]?=some y):(xs.take (k+1)).any f=((xs.take k).any f || f y):=by
 rw [List.take_add_one,h];simp
theorem gI (f:Cd->Bool) (xs:List Cd) (k:Nat) (y:Cd) (h:xs[k]?=some y) (ha:(xs.take k).any f=false) (hy:f y=false):(xs.take (k+1)).any f=false:=by
 rw [gB f xs k y h,ha,hy];rfl
end Ul
end Go.Proofs.YtfbfeoplldjbpaaGreatDoor
