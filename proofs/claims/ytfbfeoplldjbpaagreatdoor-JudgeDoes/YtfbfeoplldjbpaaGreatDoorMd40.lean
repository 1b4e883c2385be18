/-
  Texts put together (merge.py): URVal, URRes.
-/
import Derived.Test.YtfbfeoplldjbpaaGreatDoorMd39
set_option linter.unusedSimpArgs false
set_option linter.unusedVariables false
set_option maxHeartbeats 16000000
set_option maxRecDepth 100000
namespace Go.Proofs.YtfbfeoplldjbpaaGreatDoor
namespace Ul
open Go.RowKit
open Pl (Cd St Ru Pn aX dD bY bW Ok1 cdv stv ruv pnv iU jg jv jU iR jf)
open Wo (jI jQ tV qL)
open Cm (Ln)
theorem O8 (k:Int):∀(l:List St),(∀s ∈ l,¬ s.what=k)->setOf k l=none
 | [],_=>rfl
 | s :: r,h=>by
  have h1:=h s List.mem_cons_self;have:=O8 k r fun t ht=>h t (List.mem_cons_of_mem _ ht);unfold setOf at *;rw [List.find?_cons,decide_eq_false h1];exact this
theorem O9 (k:Int):∀(l:List St) (j:Nat) (s:St),l[j]?=some s->s.what=k->(∀t ∈ l.take j,¬ t.what=k)->setOf k l=some s.n
 | [],j,s,h,_,_=>by simp at h
 | x :: r,0,s,h,hw,_=>by
  simp at h;subst h;unfold setOf;rw [List.find?_cons,decide_eq_true hw];rfl
 | x :: r,j+1,s,h,hw,hn=>by
  have h1:=hn x (by simp);have:=O9 k r j s (by simpa using h) hw fun t ht=>hn t (by simp [ht]);unfold setOf at *;rw [List.find?_cons,decide_eq_false h1];exact this
theorem MG (k:Int) (l:List St) (j:Nat) (s:St) (h:l[j]?=some s) (hn:∀t ∈ l.take j,¬ t.what=k) (hs:¬ s.what=k):∀t ∈ l.take (j+1),¬ t.what=k:=by
 rw [List.take_add_one,h];intro t ht;rcases List.mem_append.1 ht with h1|h1
 ·exact hn t h1
 ·simp at h1;subst h1;exact hs
theorem Pe {x:Ln} {net k:Int} {b:Int × Int} {r:Ru} {n:Int} (h1:b.1 < r.rank) (h2:gK x net r=true) (h3:setOf k r.sets=some n):F7 x net k b r=(r.rank,n):=by
 unfold F7;rw [if_neg (by omega),if_pos h2,h3]
theorem Pg {x:Ln} {net k:Int} {b:Int × Int} {r:Ru} (h3:setOf k r.sets=none):F7 x net k b r=b:=by
 unfold F7;rw [h3];split<;>simp
theorem gN {x:Ln} {net k:Int} {b:Int × Int} {r:Ru} (h1:r.rank<=b.1):F7 x net k b r=b:=by
 unfold F7;rw [if_pos h1]
theorem O0 (p:Pn) (m:Value) (x:Ln) (ml:Value) (net what:Int) (w:World) (h:bY All w m p.rules) (hx:dI All w ml x.mods) :
  Calls Tryz.prog 95 #[pnv p m,lnv x ml,iI net,iI what] w fun e w'=>e=.returned (iI (Hy x net what p.rules))/\Below w.heap.size w w':=by
 obtain ⟨U,HU⟩:∃U,Hid (Hy x net what p.rules=U):=⟨_,rfl⟩;rw [HU.out];obtain ⟨hb,hz1,hz2⟩:=jK w p m x ml;have HB:=zZ hb;have HX:=zZ hz1;have HL:=zZ hz2;have HRu:=zZ (h.Bu hb);have HM:=zZ (Hf hx hb);obtain ⟨ma,mc,rfl,hm1,hm2,hm3⟩:=h.form;have hm3:p.rules.length<=281474976710656:=hm3;obtain ⟨la,lk,rfl,hl1,hl2⟩:=G9 hx;clear h hx hb hz1 hz2;go_enter Tryz.func95,Tryz.ntmps95
 go_upto_region 1 with fail
 generalize (w.alloc (.cells #[iI p.mode,iI p.Ay,iI p.AR,iI p.Bb,iI p.AJ,.slice ma p.rules.length mc] 24)).alloc (.cells #[.string (mk x.proc),.slice la x.mods.length lk,iI x.date,iI x.units,iI x.Av,iI x.prior] 48)=W at *;generalize hp:w.heap.size=p0 at *;obtain ⟨q1,hq1⟩:∃q1,q1=p0+1:=⟨_,rfl⟩;rw [←hq1] at HL ⊢;clear hq1;obtain ⟨x0,x1,x2,x3,x4,x5⟩:=jU HX.out;obtain ⟨y0,y1,y2,y3,y4,y5⟩:=jU HL.out;have Bt:=zZ fun W' (hW:Below W.heap.size W W')=>And.intro (jU (tV HX.out hW)) (jU (tV HL.out hW));have HW0:=zZ (Below.refl W.heap.size W);go_wp2;go_loopg [9,10,11] (p.rules.length) (fun g bs n i wr=>∃(j:Nat) (A V:Int),j<=p.rules.length/\g=p.rules.length - j/\bs=iI A/\n=iI V/\i=iI j/\Hid (Below W.heap.size W wr)/\Hid ((A,V)=jm x net what (p.rules.take j)))
 case atStart=>exact ⟨0,-1,0,Nat.zero_le _,rfl,rfl,rfl,rfl,HW0.out,rfl⟩
 case round =>
  clear x0 x1 x2 x3 x4 x5 y0 y1 y2 y3 y4 y5 HW0;obtain ⟨j,A,V,hj,hgk,rfl,rfl,rfl,Cv,E⟩:=hrel;obtain ⟨⟨x0,x1,x2,x3,x4,x5⟩,⟨y0,y1,y2,y3,y4,y5⟩⟩:=Bt.out _ Cv.out;by_cases hlt:j < p.rules.length
  case neg =>
   have HE:Hid (V=U):=by
    show _=_;have e:=E.out;rw [List.take_of_length_le (by omega)] at e;rw [←HU.out,Hz e]
   clear E;go_wp2;go_ret;exact ⟨by first|rfl|(rw [←HE.out];rfl),by first|exact jf hp HB.out Cv.out|(rw [hp];exact jf hp HB.out Cv.out)⟩
  obtain ⟨b,o,kv,uv,sv,rfl,hbs,hxx,hcc,hin⟩:=bY.get (HRu.out.Bu Cv.out) j hlt;obtain ⟨z0,z1,z2,z3,z4,z5,z6,z7⟩:=hcc;obtain ⟨-,-,-,hk1,hk2,hk3⟩:=id hin;obtain ⟨ka,kc,rfl,-,-⟩:=hk1.form;obtain ⟨ua,uc,rfl,-,-⟩:=hk2.form;obtain ⟨sa,sc,rfl,hs1,hs2,hs3⟩:=hk3.form;have hs3:p.rules[j].sets.length<=281474976710656:=hs3;have hbz:=iU wr (.cells #[iI p.rules[j].rank,iI p.rules[j].BS.kind,.string (mk p.rules[j].BS.lo),.string (mk p.rules[j].BS.hi),iI p.rules[j].BS.n,.slice ka p.rules[j].BS.kids.length kc,.slice ua p.rules[j].Ct.length uc,.slice sa p.rules[j].sets.length sc] 82);have HZ:=zZ (heap_alloc_new wr (.cells #[iI p.rules[j].rank,iI p.rules[j].BS.kind,.string (mk p.rules[j].BS.lo),.string (mk p.rules[j].BS.hi),iI p.rules[j].BS.n,.slice ka p.rules[j].BS.kids.length kc,.slice ua p.rules[j].Ct.length uc,.slice sa p.rules[j].sets.length sc] 82));have HBz:=zZ (jg Cv.out hbz);have HAp:=zZ (MW x net _ p.rules[j] _ _ _ _ (hin.move (Below.moves hbz)) (Hf HM.out HBz.out));have HSt:=zZ (hk3.Bu hbz);have HXz:=zZ (Bt.out _ HBz.out);have N:=zZ (jq x net what p.rules j _ hxx);rw [←E.out] at N;clear hin hk1 hk2 hk3 hxx hbs hbz Cv E;generalize p.rules[j]=r at *;go_upto_region 7 with fail
  clear x0 x1 x2 x3 x4 x5 y0 y1 y2 y3 y4 y5 z0 z1 z2 z3 z4 z5 z6 z7;generalize wr.alloc (.cells #[iI r.rank,iI r.BS.kind,.string (mk r.BS.lo),.string (mk r.BS.hi),iI r.BS.n,.slice ka r.BS.kids.length kc,.slice ua r.Ct.length uc,.slice sa r.sets.length sc] 82)=W3 at *;generalize wr.heap.size=s3 at *;obtain ⟨⟨x0,x1,x2,x3,x4,x5⟩,⟨y0,y1,y2,y3,y4,y5⟩⟩:=HXz.out;obtain ⟨z0,z1,z2,z3,z4,z5,z6,z7⟩:=iR HZ.out;by_cases hle:r.rank<=A
  case pos =>
   clear HAp;go_wp2;go_roundg (p.rules.length - (j+1))
   case rel=>exact ⟨j+1,A,V,by omega,rfl,rfl,rfl,by go_num,HBz.out,by show _=_;rw [N.out,gN hle]⟩
   case measure=>omega
  go_wp2_with fail
  go_at_call 138
  refine HAp.out.mono ?_;rintro e w4 ⟨rfl,hb4⟩;have HB4:=zZ (jg HBz.out hb4);have HZ4:=zZ (tV HZ.out hb4);have HSt4:=zZ (HSt.out.Bu hb4);clear hb4 HAp HZ HSt HXz x0 x1 x2 x3 x4 x5 y0 y1 y2 y3 y4 y5 z0 z1 z2 z3 z4 z5 z6 z7;obtain ⟨z0,z1,z2,z3,z4,z5,z6,z7⟩:=iR HZ4.out;cases hq:gK x net r
  ·go_wp2;go_roundg (p.rules.length - (j+1))
   case rel=>exact ⟨j+1,A,V,by omega,rfl,rfl,rfl,by go_num,HB4.out,by show _=_;rw [N.out,Gf hq]⟩
   case measure=>omega
  have HW4:=zZ (Below.refl w4.heap.size w4);go_wp2;go_loopg [9,10,13] (r.sets.length) (fun g bs n i wr=>∃k:Nat,k<=r.sets.length/\g=r.sets.length - k/\bs=iI A/\n=iI V/\i=iI k/\wr=w4/\Hid (∀t ∈ r.sets.take k,¬ t.what=what))
  case atStart=>exact ⟨0,Nat.zero_le _,rfl,rfl,rfl,rfl,rfl,fun t ht=>by simp at ht⟩
  case round =>
   obtain ⟨k,hkk,hgk2,rfl,rfl,rfl,hwr,HNo⟩:=hrel;rw [hwr];clear hwr;by_cases hlt2:k < r.sets.length
   case neg =>
    have HE:Hid (setOf what r.sets=none):=O8 what r.sets (by have:=HNo.out;rwa [List.take_of_length_le (by omega)] at this);clear HNo;go_wp2;go_roundg (p.rules.length - (j+1))
    case rel=>exact ⟨j+1,A,V,by omega,rfl,rfl,rfl,by go_num,HB4.out,by show _=_;rw [N.out,Pg HE.out]⟩
    case measure=>omega
   obtain ⟨b2,o2,rfl,-,hx2,c0,c1,-,-⟩:=dD.get HSt4.out k hlt2;by_cases hw:r.sets[k].what=what
   ·have HE:=zZ (O9 what r.sets k _ hx2 hw HNo.out);have bw:(r.sets[k].what == what)=true:=by simpa using hw
    clear hx2 HNo hw;generalize r.sets[k]=st at *;go_wp2;go_roundg (p.rules.length - (j+1))
    case rel=>exact ⟨j+1,r.rank,st.n,by omega,rfl,rfl,rfl,by go_num,HB4.out,by show _=_;rw [N.out,Pe hle hq HE.out]⟩
    case measure=>omega
   ·have HE:=zZ (MG what r.sets k _ hx2 HNo.out hw);have bw:(r.sets[k].what == what)=false:=by simpa using hw
    clear hx2 HNo hw;generalize r.sets[k]=st at *;go_wp2;go_roundg (r.sets.length - (k+1))
    case rel=>exact ⟨k+1,by omega,rfl,rfl,rfl,by go_num,rfl,HE.out⟩
    case measure=>omega
end Ul
namespace Ul
open Go.RowKit
open Pl (Cd St Ru Pn aX dD bY bW Ok1 cdv stv ruv pnv iU jg jv jU iR jf)
open Wo (jI jQ tV qL)
open Cm (Ln)
theorem OD (p:Pn) (m:Value) (x:Ln) (ml:Value) (net:Int) (w:World) (h:bY All w m p.rules) (hx:dI All w ml x.mods) :
  Calls Tryz.prog 55 #[pnv p m,lnv x ml,iI net] w fun e w'=>e=.returned (ji x net p.rules)/\Below w.heap.size w w':=by
 obtain ⟨hb,hz1,hz2,hz3,hsz⟩:=jL w p m x ml;have HB:=zZ hb;have HX:=zZ hz1;have HL:=zZ hz2;have HR:=zZ hz3;have HRu:=zZ (wG (q:=w.heap.size+2) h hb (by omega));have HMx:=zZ (wH (q:=w.heap.size+2) hx hb (by omega));obtain ⟨ma,mc,rfl,hm1,hm2,hm3⟩:=h.form;have hm3:p.rules.length<=281474976710656:=hm3;obtain ⟨la,lk,rfl,hl1,hl2⟩:=G9 hx;clear h hx hb hz1 hz2 hz3 hsz;go_enter Tryz.func55,Tryz.ntmps55
 go_upto_region 1 with fail
 generalize ((w.alloc (.cells #[iI p.mode,iI p.Ay,iI p.AR,iI p.Bb,iI p.AJ,.slice ma p.rules.length mc] 24)).alloc (.cells #[sS x.proc,.slice la x.mods.length lk,iI x.date,iI x.units,iI x.Av,iI x.prior] 48)).alloc (.cells #[.bool false,.bool false,iI 0,iI 0] 99)=W at *;generalize hp:w.heap.size=p0 at *;obtain ⟨q1,hq1⟩:∃q1,q1=p0+1:=⟨_,rfl⟩;obtain ⟨rb,hrb⟩:∃rb,rb=q1+1:=⟨_,rfl⟩;rw [←hq1] at HL ⊢;rw [←hrb];rw [show p0+2=rb by omega] at HR HRu HMx;have CR:Hid (p0 < rb/\q1 < rb/\p0<=rb):=⟨by omega,by omega,by omega⟩;clear hq1 hrb;have Bt:=zZ fun W' (hW:Below rb W W')=>And.intro (jU (tX HX.out hW CR.out.1)) (jU (tX HL.out hW CR.out.2.1));have HV:=zZ fun (k:Int) W' (hW:Below rb W W')=>O0 p _ x _ net k W' (KA HRu.out hW) (fJ HMx.out hW);have HD:Hid ((fun Wx=>Below rb W Wx/\∃c0 c1 c2 c3,Wx.heap[rb]?=some (.cells #[c0,c1,c2,c3] 99 (0,0))) W.drew):=⟨Below.drew (Below.refl rb W),_,_,_,_,HR.out⟩;refine Ri.IY (by kernel_rfl) (by kernel_rfl) (by kernel_rfl) (fun Wx=>Below rb W Wx/\∃c0 c1 c2 c3,Wx.heap[rb]?=some (.cells #[c0,c1,c2,c3] 99 (0,0))) (fun kz vs wz=>(fun kx vx wx=>match kx with|0=>vx=pnv p (.slice ma p.rules.length mc)|1=>vx=lnv x (.slice la x.mods.length lk)|2=>vx=iI net|3=>vx=iI (Hy x net 1 p.rules)|4=>vx=.bool ((Hy x net 1 p.rules) == 1)|5=>vx=pnv p (.slice ma p.rules.length mc)|6=>vx=lnv x (.slice la x.mods.length lk)|7=>vx=iI net|8=>vx=iI (Hy x net 2 p.rules)|9=>vx=.bool ((Hy x net 2 p.rules) == 1)|10=>vx=pnv p (.slice ma p.rules.length mc)|11=>vx=lnv x (.slice la x.mods.length lk)|12=>vx=iI net|13=>vx=iI (Hy x net 3 p.rules)|14=>vx=pnv p (.slice ma p.rules.length mc)|15=>vx=lnv x (.slice la x.mods.length lk)|16=>vx=iI net|17=>vx=iI (Hy x net 4 p.rules)|18=>vx=ji x net p.rules|19=>wx.heap[rb]?=some (.cells (jh (Hy x net 1 p.rules) (Hy x net 2 p.rules) (Hy x net 3 p.rules) (Hy x net 4 p.rules)) 99 (0,0))|_=>True:Nat->Value->World->Prop) kz (vs kz) wz) (fun kz=>[kz]) (by kernel_rfl) (fun jz vs iz vz wz hiz hz=>Ri.wI (F:=(fun kx vx wx=>match kx with|0=>vx=pnv p (.slice ma p.rules.length mc)|1=>vx=lnv x (.slice la x.mods.length lk)|2=>vx=iI net|3=>vx=iI (Hy x net 1 p.rules)|4=>vx=.bool ((Hy x net 1 p.rules) == 1)|5=>vx=pnv p (.slice ma p.rules.length mc)|6=>vx=lnv x (.slice la x.mods.length lk)|7=>vx=iI net|8=>vx=iI (Hy x net 2 p.rules)|9=>vx=.bool ((Hy x net 2 p.rules) == 1)|10=>vx=pnv p (.slice ma p.rules.length mc)|11=>vx=lnv x (.slice la x.mods.length lk)|12=>vx=iI net|13=>vx=iI (Hy x net 3 p.rules)|14=>vx=pnv p (.slice ma p.rules.length mc)|15=>vx=lnv x (.slice la x.mods.length lk)|16=>vx=iI net|17=>vx=iI (Hy x net 4 p.rules)|18=>vx=ji x net p.rules|19=>wx.heap[rb]?=some (.cells (jh (Hy x net 1 p.rules) (Hy x net 2 p.rules) (Hy x net 3 p.rules) (Hy x net 4 p.rules)) 99 (0,0))|_=>True:Nat->Value->World->Prop)) jz vs iz vz wz hiz hz) HD.out ⟨⟨rfl,?_⟩,⟨rfl,?_⟩,⟨rfl,?_⟩,⟨rfl,?_⟩,⟨rfl,?_⟩,⟨rfl,?_⟩,⟨rfl,?_⟩,⟨rfl,?_⟩,⟨rfl,?_⟩,⟨rfl,?_⟩,⟨rfl,?_⟩,⟨rfl,?_⟩,⟨rfl,?_⟩,⟨rfl,?_⟩,⟨rfl,?_⟩,⟨rfl,?_⟩,⟨rfl,?_⟩,⟨rfl,?_⟩,⟨rfl,?_⟩,⟨rfl,?_⟩,trivial⟩ ?_
 ·intro vs Wx A hA hB hpre K hK;have e3:=(hA 3).trans (show _=pP p0 0 by kernel_rfl);obtain ⟨⟨x0,x1,x2,x3,x4,x5⟩,⟨y0,y1,y2,y3,y4,y5⟩⟩:=Bt.out Wx hB.1;clear hA hpre;go_simp;exact hK _ _ hB rfl (fun _ _ h=>h)
 ·intro vs Wx A hA hB hpre K hK;have e4:=(hA 4).trans (show _=pP q1 0 by kernel_rfl);obtain ⟨⟨x0,x1,x2,x3,x4,x5⟩,⟨y0,y1,y2,y3,y4,y5⟩⟩:=Bt.out Wx hB.1;clear hA hpre;go_simp;exact hK _ _ hB rfl (fun _ _ h=>h)
 ·intro vs Wx A hA hB hpre K hK;have e2:=(hA 2).trans (show _=iI net by kernel_rfl);clear hA hpre;go_simp;exact hK _ _ hB rfl (fun _ _ h=>h)
 ·intro vs Wx A hA hB hpre K hK;have e7:=tT (hA 7) (by kernel_rfl) (hpre.1 rfl);have e8:=tT (hA 8) (by kernel_rfl) (hpre.2.1 rfl);have e9:=tT (hA 9) (by kernel_rfl) (hpre.2.2.1 rfl);clear hA hpre;go_simp;go_at_call 95
  refine (HV.out 1 _ hB.1).mono ?_;rintro e w3 ⟨rfl,hb3⟩;obtain ⟨hB1,c0,c1,c2,c3,hB2⟩:=hB;refine hK _ _ ⟨iZ hB1 (Nat.le_of_lt (Array.getElem?_eq_some_iff.1 hB2).1) hb3,_,_,_,_,tV hB2 hb3⟩ rfl (fun jz hj hz=>?_);match jz,hj,hz with
  | 0,_,hz=>exact hz
  | 1,_,hz=>exact hz
  | 2,_,hz=>exact hz
  | 3,_,hz=>exact hz
  | 4,_,hz=>exact hz
  | 5,_,hz=>exact hz
  | 6,_,hz=>exact hz
  | 7,_,hz=>exact hz
  | 8,_,hz=>exact hz
  | 9,_,hz=>exact hz
  | 10,_,hz=>exact hz
  | 11,_,hz=>exact hz
  | 12,_,hz=>exact hz
  | 13,_,hz=>exact hz
  | 14,_,hz=>exact hz
  | 15,_,hz=>exact hz
  | 16,_,hz=>exact hz
  | 17,_,hz=>exact hz
  | 18,_,hz=>exact hz
  | 19,_,hz=>exact tV hz hb3
  | n+20,_,hz=>exact hz
 ·intro vs Wx A hA hB hpre K hK;have e10:=tT (hA 10) (by kernel_rfl) (hpre.1 rfl);clear hA hpre;go_simp;exact hK _ _ hB rfl (fun _ _ h=>h)
 ·intro vs Wx A hA hB hpre K hK;have e3:=(hA 3).trans (show _=pP p0 0 by kernel_rfl);obtain ⟨⟨x0,x1,x2,x3,x4,x5⟩,⟨y0,y1,y2,y3,y4,y5⟩⟩:=Bt.out Wx hB.1;clear hA hpre;go_simp;exact hK _ _ hB rfl (fun _ _ h=>h)
 ·intro vs Wx A hA hB hpre K hK;have e4:=(hA 4).trans (show _=pP q1 0 by kernel_rfl);obtain ⟨⟨x0,x1,x2,x3,x4,x5⟩,⟨y0,y1,y2,y3,y4,y5⟩⟩:=Bt.out Wx hB.1;clear hA hpre;go_simp;exact hK _ _ hB rfl (fun _ _ h=>h)
 ·intro vs Wx A hA hB hpre K hK;have e2:=(hA 2).trans (show _=iI net by kernel_rfl);clear hA hpre;go_simp;exact hK _ _ hB rfl (fun _ _ h=>h)
 ·intro vs Wx A hA hB hpre K hK;have e12:=tT (hA 12) (by kernel_rfl) (hpre.1 rfl);have e13:=tT (hA 13) (by kernel_rfl) (hpre.2.1 rfl);have e14:=tT (hA 14) (by kernel_rfl) (hpre.2.2.1 rfl);clear hA hpre;go_simp;go_at_call 95
  refine (HV.out 2 _ hB.1).mono ?_;rintro e w3 ⟨rfl,hb3⟩;obtain ⟨hB1,c0,c1,c2,c3,hB2⟩:=hB;refine hK _ _ ⟨iZ hB1 (Nat.le_of_lt (Array.getElem?_eq_some_iff.1 hB2).1) hb3,_,_,_,_,tV hB2 hb3⟩ rfl (fun jz hj hz=>?_);match jz,hj,hz with
  | 0,_,hz=>exact hz
  | 1,_,hz=>exact hz
  | 2,_,hz=>exact hz
  | 3,_,hz=>exact hz
  | 4,_,hz=>exact hz
  | 5,_,hz=>exact hz
  | 6,_,hz=>exact hz
  | 7,_,hz=>exact hz
  | 8,_,hz=>exact hz
  | 9,_,hz=>exact hz
  | 10,_,hz=>exact hz
  | 11,_,hz=>exact hz
  | 12,_,hz=>exact hz
  | 13,_,hz=>exact hz
  | 14,_,hz=>exact hz
  | 15,_,hz=>exact hz
  | 16,_,hz=>exact hz
  | 17,_,hz=>exact hz
  | 18,_,hz=>exact hz
  | 19,_,hz=>exact tV hz hb3
  | n+20,_,hz=>exact hz
 ·intro vs Wx A hA hB hpre K hK;have e15:=tT (hA 15) (by kernel_rfl) (hpre.1 rfl);clear hA hpre;go_simp;exact hK _ _ hB rfl (fun _ _ h=>h)
 ·intro vs Wx A hA hB hpre K hK;have e3:=(hA 3).trans (show _=pP p0 0 by kernel_rfl);obtain ⟨⟨x0,x1,x2,x3,x4,x5⟩,⟨y0,y1,y2,y3,y4,y5⟩⟩:=Bt.out Wx hB.1;clear hA hpre;go_simp;exact hK _ _ hB rfl (fun _ _ h=>h)
 ·intro vs Wx A hA hB hpre K hK;have e4:=(hA 4).trans (show _=pP q1 0 by kernel_rfl);obtain ⟨⟨x0,x1,x2,x3,x4,x5⟩,⟨y0,y1,y2,y3,y4,y5⟩⟩:=Bt.out Wx hB.1;clear hA hpre;go_simp;exact hK _ _ hB rfl (fun _ _ h=>h)
 ·intro vs Wx A hA hB hpre K hK;have e2:=(hA 2).trans (show _=iI net by kernel_rfl);clear hA hpre;go_simp;exact hK _ _ hB rfl (fun _ _ h=>h)
 ·intro vs Wx A hA hB hpre K hK;have e17:=tT (hA 17) (by kernel_rfl) (hpre.1 rfl);have e18:=tT (hA 18) (by kernel_rfl) (hpre.2.1 rfl);have e19:=tT (hA 19) (by kernel_rfl) (hpre.2.2.1 rfl);clear hA hpre;go_simp;go_at_call 95
  refine (HV.out 3 _ hB.1).mono ?_;rintro e w3 ⟨rfl,hb3⟩;obtain ⟨hB1,c0,c1,c2,c3,hB2⟩:=hB;refine hK _ _ ⟨iZ hB1 (Nat.le_of_lt (Array.getElem?_eq_some_iff.1 hB2).1) hb3,_,_,_,_,tV hB2 hb3⟩ rfl (fun jz hj hz=>?_);match jz,hj,hz with
  | 0,_,hz=>exact hz
  | 1,_,hz=>exact hz
  | 2,_,hz=>exact hz
  | 3,_,hz=>exact hz
  | 4,_,hz=>exact hz
  | 5,_,hz=>exact hz
  | 6,_,hz=>exact hz
  | 7,_,hz=>exact hz
  | 8,_,hz=>exact hz
  | 9,_,hz=>exact hz
  | 10,_,hz=>exact hz
  | 11,_,hz=>exact hz
  | 12,_,hz=>exact hz
  | 13,_,hz=>exact hz
  | 14,_,hz=>exact hz
  | 15,_,hz=>exact hz
  | 16,_,hz=>exact hz
  | 17,_,hz=>exact hz
  | 18,_,hz=>exact hz
  | 19,_,hz=>exact tV hz hb3
  | n+20,_,hz=>exact hz
 ·intro vs Wx A hA hB hpre K hK;have e3:=(hA 3).trans (show _=pP p0 0 by kernel_rfl);obtain ⟨⟨x0,x1,x2,x3,x4,x5⟩,⟨y0,y1,y2,y3,y4,y5⟩⟩:=Bt.out Wx hB.1;clear hA hpre;go_simp;exact hK _ _ hB rfl (fun _ _ h=>h)
 ·intro vs Wx A hA hB hpre K hK;have e4:=(hA 4).trans (show _=pP q1 0 by kernel_rfl);obtain ⟨⟨x0,x1,x2,x3,x4,x5⟩,⟨y0,y1,y2,y3,y4,y5⟩⟩:=Bt.out Wx hB.1;clear hA hpre;go_simp;exact hK _ _ hB rfl (fun _ _ h=>h)
 ·intro vs Wx A hA hB hpre K hK;have e2:=(hA 2).trans (show _=iI net by kernel_rfl);clear hA hpre;go_simp;exact hK _ _ hB rfl (fun _ _ h=>h)
 ·intro vs Wx A hA hB hpre K hK;have e21:=tT (hA 21) (by kernel_rfl) (hpre.1 rfl);have e22:=tT (hA 22) (by kernel_rfl) (hpre.2.1 rfl);have e23:=tT (hA 23) (by kernel_rfl) (hpre.2.2.1 rfl);clear hA hpre;go_simp;go_at_call 95
  refine (HV.out 4 _ hB.1).mono ?_;rintro e w3 ⟨rfl,hb3⟩;obtain ⟨hB1,c0,c1,c2,c3,hB2⟩:=hB;refine hK _ _ ⟨iZ hB1 (Nat.le_of_lt (Array.getElem?_eq_some_iff.1 hB2).1) hb3,_,_,_,_,tV hB2 hb3⟩ rfl (fun jz hj hz=>?_);match jz,hj,hz with
  | 0,_,hz=>exact hz
  | 1,_,hz=>exact hz
  | 2,_,hz=>exact hz
  | 3,_,hz=>exact hz
  | 4,_,hz=>exact hz
  | 5,_,hz=>exact hz
  | 6,_,hz=>exact hz
  | 7,_,hz=>exact hz
  | 8,_,hz=>exact hz
  | 9,_,hz=>exact hz
  | 10,_,hz=>exact hz
  | 11,_,hz=>exact hz
  | 12,_,hz=>exact hz
  | 13,_,hz=>exact hz
  | 14,_,hz=>exact hz
  | 15,_,hz=>exact hz
  | 16,_,hz=>exact hz
  | 17,_,hz=>exact hz
  | 18,_,hz=>exact hz
  | 19,_,hz=>exact tV hz hb3
  | n+20,_,hz=>exact hz
 ·intro vs Wx A hA hB hpre K hK;have e11:=tT (hA 11) (by kernel_rfl) (hpre.1 rfl);have e16:=tT (hA 16) (by kernel_rfl) (hpre.2.1 rfl);have e20:=tT (hA 20) (by kernel_rfl) (hpre.2.2.1 rfl);have e24:=tT (hA 24) (by kernel_rfl) (hpre.2.2.2.1 rfl);clear hA hpre;go_simp;exact hK _ _ hB rfl (fun _ _ h=>h)
 ·intro vs Wx A hA hB hpre K hK;have e6:=(hA 6).trans (show _=pP rb 0 by kernel_rfl);have e25:=tT (hA 25) (by kernel_rfl) (hpre.1 rfl);obtain ⟨hB1,c0,c1,c2,c3,hB2⟩:=hB;obtain ⟨⟨m0,m1,m2,m3⟩,f0,f1,f2,f3⟩:=jw hB2;have HB1:=zZ hB1;have HN:=zZ (BM hB2 (.bool ((Hy x net 1 p.rules) == 1)) (.bool ((Hy x net 2 p.rules) == 1)) (iI (Hy x net 3 p.rules)) (iI (Hy x net 4 p.rules)));clear hB1 hB2;clear hA hpre;go_simp;refine hK undef _ ⟨BK HB1.out rb (Nat.le_refl _) _ _ _ _,_,_,_,_,HN.out⟩ HN.out (fun jz hj hz=>?_);match jz,hj,hz with
  | 0,_,hz=>exact hz
  | 1,_,hz=>exact hz
  | 2,_,hz=>exact hz
  | 3,_,hz=>exact hz
  | 4,_,hz=>exact hz
  | 5,_,hz=>exact hz
  | 6,_,hz=>exact hz
  | 7,_,hz=>exact hz
  | 8,_,hz=>exact hz
  | 9,_,hz=>exact hz
  | 10,_,hz=>exact hz
  | 11,_,hz=>exact hz
  | 12,_,hz=>exact hz
  | 13,_,hz=>exact hz
  | 14,_,hz=>exact hz
  | 15,_,hz=>exact hz
  | 16,_,hz=>exact hz
  | 17,_,hz=>exact hz
  | 18,_,hz=>exact hz
  | 19,hj,_=>exact absurd rfl hj
  | n+20,_,hz=>exact hz
 ·intro vs Wx hB hF;have h19:Wx.heap[rb]?=some (.cells (jh (Hy x net 1 p.rules) (Hy x net 2 p.rules) (Hy x net 3 p.rules) (Hy x net 4 p.rules)) 99 (0,0)):=hF 19 (by decide);obtain ⟨⟨r0,r1,r2,r3⟩,-⟩:=jw h19;have Cn:=zZ (HB.out.trans (hB.1.mono CR.out.2.2));clear hF hB h19;simp only [Ri.puts];go_simp;go_wp2_with fail
  refine bodyPost_ret (v:=ji x net p.rules) (by simp [results,Tryz.results55,go_sem,r0,r1,r2,r3]) rfl ⟨rfl,?_⟩;first|exact Cn.out|(rw [hp];exact Cn.out)
end Ul
end Go.Proofs.YtfbfeoplldjbpaaGreatDoor
