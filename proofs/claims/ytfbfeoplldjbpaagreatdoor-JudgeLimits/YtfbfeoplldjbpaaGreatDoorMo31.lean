/-
  Texts put together (merge.py): URes.
-/
import Derived.Test.YtfbfeoplldjbpaaGreatDoorMo28
import Derived.Test.YtfbfeoplldjbpaaGreatDoorMo30
set_option linter.unusedSimpArgs false
set_option linter.unusedVariables false
set_option maxHeartbeats 16000000
set_option maxRecDepth 100000
section
namespace Go.Proofs.YtfbfeoplldjbpaaGreatDoor.Ul
open Go.RowKit
open Pl (Cd St Ru Pn aX dD bY bW Ok1 cdv stv ruv pnv iU jg jv jU iR jf)
open Wo (jI jQ tV qL)
open Cm (Ln)
theorem DC (p:Pn) (m:Value) (x:Ln) (ml:Value) (net:Int) (w:World) (h:bY All w m p.rules) (hx:dI All w ml x.mods) :
  Calls Tryz.prog 46 #[pnv p m,lnv x ml,.int .i64 net] w fun e w'=>e=.returned (ji x net p.rules)/\Below w.heap.size w w':=by
 obtain ⟨U,HU⟩:∃U,Hid (ji x net p.rules=U):=⟨_,rfl⟩
 rw [HU.out]
 obtain ⟨hb,hz1,hz2,hz3,hsz⟩:=jL w p m x ml
 have HB:=Lib.hid hb
 have HX:=Lib.hid hz1
 have HL:=Lib.hid hz2
 have HR:=Lib.hid hz3
 have HSZ:=Lib.hid hsz
 have HRu:=Lib.hid (wG h hb hb.size)
 have HMx:=Lib.hid (wH hx hb hb.size)
 obtain ⟨ma,mc,rfl,hm1,hm2,hm3⟩:=h.form
 have hm3:p.rules.length<=281474976710656:=hm3
 obtain ⟨la,lk,rfl,hl1,hl2⟩:=G9 hx
 clear h hx hb hz1 hz2 hz3 hsz
 go_enter Tryz.func46,Tryz.ntmps46
 go_upto_region 1 with fail
 generalize ((w.alloc (.cells #[.int .i64 p.mode,.int .i64 p.indDed,.int .i64 p.famDed,.int .i64 p.indOop,.int .i64 p.famOop,.slice ma p.rules.length mc] 24)).alloc (.cells #[.string (mk x.proc),.slice la x.mods.length lk,.int .i64 x.date,.int .i64 x.units,.int .i64 x.billed,.int .i64 x.prior] 48)).alloc (.cells #[.bool false,.bool false,.int .i64 0,.int .i64 0] 99)=W1 at *
 generalize hp:w.heap.size=p0 at *
 obtain ⟨q1,hq1⟩:∃q1,q1=p0+1:=⟨_,rfl⟩
 obtain ⟨rb,hrb⟩:∃rb,rb=q1+1:=⟨_,rfl⟩
 rw [←hq1] at HL ⊢
 rw [←hrb]
 rw [show p0+2=rb by omega] at HR
 have HP0:Hid (p0 < W1.heap.size/\q1 < W1.heap.size/\rb < W1.heap.size/\p0<=rb):=by have:=HSZ.out;exact ⟨by omega,by omega,by omega,by omega⟩
 clear hq1 hrb HSZ
 have hb2:=iU W1 (.cells (chC (-1) (-1) (-1) (-1) 0 0 0 0) 135)
 have HQ:Hid (ak (W1.alloc (.cells (chC (-1) (-1) (-1) (-1) 0 0 0 0) 135)) W1.heap.size (-1) (-1) (-1) (-1) 0 0 0 0):=heap_alloc_new W1 _
 have HX2:=Lib.hid (tV HX.out hb2)
 have HL2:=Lib.hid (tV HL.out hb2)
 have HR2:=Lib.hid (tV HR.out hb2)
 have HRu2:=Lib.hid (HRu.out.move (Below.yu hb2))
 have HMx2:=Lib.hid (dI.move HMx.out (Below.yu hb2))
 have HB2:=Lib.hid (jf hp HB.out hb2)
 have HQL:=Lib.hid (show W1.heap.size < (W1.alloc (.cells (chC (-1) (-1) (-1) (-1) 0 0 0 0) 135)).heap.size by simp)
 clear hb2 HX HL HR HRu HMx HB
 go_upto_region 2 with fail
 generalize W1.alloc (.cells #[.int .i64 (-1),.int .i64 (-1),.int .i64 (-1),.int .i64 (-1),.int .i64 (-1),.int .i64 0,.int .i64 0,.int .i64 0,.int .i64 0,.int .i64 0] 135)=W2 at *
 generalize W1.heap.size=q at *
 obtain ⟨x0,x1,x2,x3,x4,x5⟩:=jU HX2.out
 have HXK:=Lib.hid fun W' (hW:Below q W2 W')=>And.intro (jU (tX HX2.out hW HP0.out.1)) (jU (tX HL2.out hW HP0.out.2.1))
 have HW0:=Lib.hid (Below.refl q W2)
 go_wp2
 go_loopg [15] (p.rules.length) (fun g i wr=>∃(j:Nat) (A1 A2 A3 A4 V1 V2 V3 V4:Int),j<=p.rules.length/\g=p.rules.length - j/\i=.int .i64 j/\Hid (Below q W2 wr)/\Hid (ak wr q A1 A2 A3 A4 V1 V2 V3 V4)/\Hid ((A1,V1)=jm x net 1 (p.rules.take j))/\Hid ((A2,V2)=jm x net 2 (p.rules.take j))/\Hid ((A3,V3)=jm x net 3 (p.rules.take j))/\Hid ((A4,V4)=jm x net 4 (p.rules.take j)))
 case atStart=>exact ⟨0,-1,-1,-1,-1,0,0,0,0,Nat.zero_le _,rfl,rfl,HW0.out,HQ.out,rfl,rfl,rfl,rfl⟩
 case round =>
  clear x0 x1 x2 x3 x4 x5 HW0 HQ
  obtain ⟨j,A1,A2,A3,A4,V1,V2,V3,V4,hj,hgk,rfl,HBr,HQ,E1,E2,E3,E4⟩:=hrel
  obtain ⟨⟨x0,x1,x2,x3,x4,x5⟩,⟨y0,y1,y2,y3,y4,y5⟩⟩:=HXK.out _ HBr.out
  by_cases hlt:j < p.rules.length
  case neg =>
   have HE:Hid (U=jl V1 V2 V3 V4):=by
    show _=_
    have e1:=E1.out
    have e2:=E2.out
    have e3:=E3.out
    have e4:=E4.out
    rw [List.take_of_length_le (by omega)] at e1 e2 e3 e4
    rw [←HU.out]
    show jl _ _ _ _=_
    rw [Hz e1,Hz e2,Hz e3,Hz e4]
   have HBn:=Lib.hid (jk q A1 A2 A3 A4 V1 V2 V3 V4 wr HQ.out)
   have HRr:=Lib.hid (tX HR2.out HBr.out HP0.out.2.2.1)
   have HBF:=Lib.hid (HB2.out.trans (HBr.out.mono (show p0<=q from Nat.le_of_lt HP0.out.1)))
   clear E1 E2 E3 E4 HU HXK
   go_wp2_with fail
   go_at_call 85
   refine HBn.out.mono ?_
   rintro e w6 ⟨rfl,hb6⟩
   have HR6:=Lib.hid (tV HRr.out hb6)
   have HB6:=Lib.hid (iZ HBF.out (by have h1:=HQL.out;have h2:=HBr.out.size;have h3:=HP0.out.1;omega) hb6)
   clear hb6 HBn HRr HQ HBr x0 x1 x2 x3 x4 x5 y0 y1 y2 y3 y4 y5
   obtain ⟨⟨m0,m1,m2,m3⟩,f0,f1,f2,f3⟩:=jw HR6.out
   go_wp2_with fail
   have HN:=Lib.hid (BM HR6.out (.bool (V1 == 1)) (.bool (V2 == 1)) (.int .i64 V3) (.int .i64 V4))
   have HB7:=Lib.hid (BK HB6.out rb HP0.out.2.2.2 (.bool (V1 == 1)) (.bool (V2 == 1)) (.int .i64 V3) (.int .i64 V4))
   unfold BJ at HN HB7
   generalize (((w6.setCell ⟨rb,0,none⟩ (.bool (V1 == 1))).setCell ⟨rb,1,none⟩ (.bool (V2 == 1))).setCell ⟨rb,2,none⟩ (.int .i64 V3)).setCell ⟨rb,3,none⟩ (.int .i64 V4)=w7 at *
   clear m0 m1 m2 m3 f0 f1 f2 f3
   obtain ⟨⟨r0,r1,r2,r3⟩,-⟩:=jw HN.out
   refine bodyPost_ret (v:=jl V1 V2 V3 V4) (by simp [results,Tryz.results46,go_sem,r0,r1,r2,r3]) rfl ⟨by rw [HE.out],?_⟩
   first|exact HB7.out|(rw [hp];exact HB7.out)
  obtain ⟨b,o,kv,uv,sv,rfl,hbs,hxx,hcc,hin⟩:=bY.get (HRu2.out.move (Below.yu HBr.out)) j hlt
  obtain ⟨z0,z1,z2,z3,z4,z5,z6,z7⟩:=hcc
  obtain ⟨-,-,-,hk1,hk2,hk3⟩:=id hin
  obtain ⟨ka,kc,rfl,-,-⟩:=hk1.form
  obtain ⟨ua,uc,rfl,-,-⟩:=hk2.form
  obtain ⟨sa,sc,rfl,-,-,-⟩:=hk3.form
  have hqw:q < wr.heap.size:=Nat.lt_of_lt_of_le HQL.out HBr.out.size
  have hbz:=iU wr (.cells #[.int .i64 p.rules[j].rank,.int .i64 p.rules[j].cif.kind,.string (mk p.rules[j].cif.lo),.string (mk p.rules[j].cif.hi),.int .i64 p.rules[j].cif.n,.slice ka p.rules[j].cif.kids.length kc,.slice ua p.rules[j].unl.length uc,.slice sa p.rules[j].sets.length sc] 82)
  have HZ:=Lib.hid (heap_alloc_new wr (.cells #[.int .i64 p.rules[j].rank,.int .i64 p.rules[j].cif.kind,.string (mk p.rules[j].cif.lo),.string (mk p.rules[j].cif.hi),.int .i64 p.rules[j].cif.n,.slice ka p.rules[j].cif.kids.length kc,.slice ua p.rules[j].unl.length uc,.slice sa p.rules[j].sets.length sc] 82))
  have HBz:=Lib.hid (iZ HBr.out (Nat.le_of_lt hqw) hbz)
  have hbq:=hbz.mono (Nat.le_of_lt hqw)
  have HAp:=Lib.hid (app_any x net _ p.rules[j] _ _ _ _ (fE hin hbq) (fJ HMx2.out HBz.out))
  have HSt:=Lib.hid (hk3.move (Below.yu hbq))
  have HQz:=Lib.hid (HQ.out.far hbz)
  have HXz:=Lib.hid (HXK.out _ HBz.out)
  have HQS:=Lib.hid (show q<=(wr.alloc (.cells #[.int .i64 p.rules[j].rank,.int .i64 p.rules[j].cif.kind,.string (mk p.rules[j].cif.lo),.string (mk p.rules[j].cif.hi),.int .i64 p.rules[j].cif.n,.slice ka p.rules[j].cif.kids.length kc,.slice ua p.rules[j].unl.length uc,.slice sa p.rules[j].sets.length sc] 82)).heap.size from Nat.le_of_lt (Nat.lt_of_lt_of_le hqw hbz.size))
  have N1:=Lib.hid (jq x net 1 p.rules j _ hxx)
  have N2:=Lib.hid (jq x net 2 p.rules j _ hxx)
  have N3:=Lib.hid (jq x net 3 p.rules j _ hxx)
  have N4:=Lib.hid (jq x net 4 p.rules j _ hxx)
  rw [←E1.out] at N1
  rw [←E2.out] at N2
  rw [←E3.out] at N3
  rw [←E4.out] at N4
  clear hin hk1 hk2 hk3 hxx hbs hbz hbq hqw HQ HBr E1 E2 E3 E4
  generalize p.rules[j]=r at *
  go_upto_region 5 with fail
  clear x0 x1 x2 x3 x4 x5 y0 y1 y2 y3 y4 y5 z0 z1 z2 z3 z4 z5 z6 z7
  generalize wr.alloc (.cells #[.int .i64 r.rank,.int .i64 r.cif.kind,.string (mk r.cif.lo),.string (mk r.cif.hi),.int .i64 r.cif.n,.slice ka r.cif.kids.length kc,.slice ua r.unl.length uc,.slice sa r.sets.length sc] 82)=W3 at *
  generalize wr.heap.size=s3 at *
  obtain ⟨⟨x0,x1,x2,x3,x4,x5⟩,⟨y0,y1,y2,y3,y4,y5⟩⟩:=HXz.out
  obtain ⟨z0,z1,z2,z3,z4,z5,z6,z7⟩:=iR HZ.out
  go_wp2_with fail
  go_at_call 83
  refine HAp.out.mono ?_
  rintro e w4 ⟨rfl,hb4⟩
  have hb4q:=hb4.mono HQS.out
  have HB4:=Lib.hid (HBz.out.trans hb4q)
  have HZ4:=Lib.hid (tV HZ.out hb4)
  have HQ4:=Lib.hid (HQz.out.far hb4)
  have HSt4:=Lib.hid (HSt.out.move (Below.yu hb4q))
  have HTk:=Lib.hid (take_any r (.slice ka r.cif.kids.length kc) (.slice ua r.unl.length uc) _ q A1 A2 A3 A4 V1 V2 V3 V4 w4 HSt4.out HQ4.out)
  clear hb4 hb4q HAp HZ HQz HSt HBz HXz HQS HSt4 x0 x1 x2 x3 x4 x5 y0 y1 y2 y3 y4 y5 z0 z1 z2 z3 z4 z5 z6 z7
  obtain ⟨z0,z1,z2,z3,z4,z5,z6,z7⟩:=iR HZ4.out
  cases hq:gK x net r
  ·clear HTk
   go_wp2
   go_roundg (p.rules.length - (j+1))
   case rel=>exact ⟨j+1,A1,A2,A3,A4,V1,V2,V3,V4,by omega,rfl,by go_num,HB4.out,HQ4.out,by show _=_;rw [N1.out,Gf hq],by show _=_;rw [N2.out,Gf hq],by show _=_;rw [N3.out,Gf hq],by show _=_;rw [N4.out,Gf hq]⟩
   case measure=>omega
  ·go_wp2_with (go_at_call 84;refine HTk.out.mono ?_;rintro e w5 ⟨rfl,hb5,hq5⟩;have HB5:=Lib.hid (HB4.out.trans hb5);have HQ5:=Lib.hid hq5;clear hb5 hq5)
   go_roundg (p.rules.length - (j+1))
   case rel=>exact ⟨j+1,_,_,_,_,_,_,_,_,by omega,rfl,by go_num,HB5.out,HQ5.out,by show _=_;rw [N1.out,Gg,if_pos hq],by show _=_;rw [N2.out,Gg,if_pos hq],by show _=_;rw [N3.out,Gg,if_pos hq],by show _=_;rw [N4.out,Gg,if_pos hq]⟩
   case measure=>omega
end Go.Proofs.YtfbfeoplldjbpaaGreatDoor.Ul
end
