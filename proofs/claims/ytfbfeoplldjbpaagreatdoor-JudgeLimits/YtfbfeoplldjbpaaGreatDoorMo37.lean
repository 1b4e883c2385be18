/-
  Texts put together (merge.py): JSvc.
-/
import Derived.Test.YtfbfeoplldjbpaaGreatDoorMo25
import Derived.Test.YtfbfeoplldjbpaaGreatDoorMo31
import Derived.Test.YtfbfeoplldjbpaaGreatDoorMo33
import Derived.Test.YtfbfeoplldjbpaaGreatDoorMo35
import Derived.Test.YtfbfeoplldjbpaaGreatDoorMo36
set_option linter.unusedSimpArgs false
set_option linter.unusedVariables false
set_option maxHeartbeats 16000000
set_option maxRecDepth 100000
section
namespace Go.Proofs.YtfbfeoplldjbpaaGreatDoor.Ju
open Go.RowKit
open Ac (Row pU dJ dM jF jG DW DU left cu Own tV qL iU jg jf fK)
open Sh (Ot bD bC bK bE EP EW Dt Du member Jj)
open Cm (Ln Cl bH lnv clv bG aC)
theorem Gz {q:Nat} {E:Int} {V:Ot} {R:List Row} {cs:Value->Array Value} {w W w':World} {e:Ending} (h:SvV q E V R cs W e w') (hb:Below w.heap.size w W):SvV q E V R cs w e w':=
 ⟨h.1,⟨h.2.1.os.trans hb.os,h.2.1.tape.trans hb.tape,h.2.1.output.trans hb.output,Nat.le_trans hb.size h.2.1.size,fun k hk hne=>(h.2.1.block k (Nat.lt_of_lt_of_le hk hb.size) hne).trans (hb.block k hk)⟩,h.2.2⟩
theorem Es {q u:Nat} {w w':World} {v:Value} {l:List Row} (h:cu (fun b=>b ≠ q) w v l) {z0 z1 z2 z3 z4 z5 z6 z7:Int} {T:TypeId} (hu:w.heap[u]?=some (.cells #[.int .i64 z0,.int .i64 z1,.int .i64 z2,.int .i64 z3,.int .i64 z4,.int .i64 z5,.int .i64 z6,.int .i64 z7] T (0,0))) (hf:∀k,k ≠ u->w'.heap[k]?=w.heap[k]?) (hs:w.heap.size<=w'.heap.size):cu (fun b=>b ≠ q) w' v l:=by
 obtain ⟨a,c,rfl,h1,h2,h3⟩:=h
 refine ⟨a,c,rfl,h1,h2,?_⟩
 rcases h3 with h|⟨b,o,rfl,hk,hb,hc⟩
 ·exact Or.inl h
 ·cases l with
  | nil=>exact Or.inl rfl
  | cons x r =>
   have hne:b ≠ u:=by
    rintro rfl
    have h0:=(hc 0 x rfl).1
    rw [cell_of_row w b _ _ T (0,0) hu] at h0
    have hm:=Array.mem_of_getElem? h0
    simp at hm
   exact Or.inr ⟨b,o,rfl,hk,Nat.lt_of_lt_of_le hb hs,fun j y hj=>(hc j y hj).of (hf b hne)⟩
theorem jA {w:World} {v:Value} {l:List Bool} {k:Nat} {y:Bool} (h:Tw.ah w v l) (hk:l[k]?=some y):∃b o c,v=.slice (some ⟨b,o,none⟩) l.length c/\l.length<=c/\c<=9223372036854775807/\b < w.heap.size/\w.cell? ⟨b,o+k,none⟩=some (.bool y):=by
 obtain ⟨a,c,rfl,h1,h2⟩:=h.form
 obtain ⟨hl,he⟩:=List.getElem?_eq_some_iff.1 hk
 obtain ⟨b,o,rfl,-,h3⟩:=h.get k hl
 rw [he] at h3
 exact ⟨b,o,c,rfl,h1,h2,World.block_lt_of_cell? w _ h3,h3⟩
theorem vZ {w:World} {a:Option Addr} {n c k:Nat} {l:List Ln} {x:Ln} (h:bH All w (.slice a n c) l) (hk:l[k]?=some x):∃b o m,a=some ⟨b,o,none⟩/\b < w.heap.size/\Cm.bg w b (o+k * 6) x m/\dI All w m x.mods:=by
 obtain ⟨a',c',he,h1,h2,h3⟩:=h
 have ha:a=a':=by injection he
 subst ha
 rcases h3 with h|⟨b,o,ha,_,hb,hc⟩
 ·subst h;simp at hk
 ·obtain ⟨m,q1,q2⟩:=hc k x hk
  exact ⟨b,o,m,ha,hb,q1,q2⟩
theorem GI {q u:Nat} {E:Int} {V:Ot} {R:List Row} {cs:Value->Array Value} {w W WF:World} {e:Ending} (h:SvV q E V R cs w e W) (hf:∀k,k ≠ u->WF.heap[k]?=W.heap[k]?) (hb:Below 0 W WF) (hu:w.heap.size<=u) (hq:u ≠ q) {z0 z1 z2 z3 z4 z5 z6 z7:Int} {T:TypeId} (hz:W.heap[u]?=some (.cells #[.int .i64 z0,.int .i64 z1,.int .i64 z2,.int .i64 z3,.int .i64 z4,.int .i64 z5,.int .i64 z6,.int .i64 z7] T (0,0))):SvV q E V R cs w e WF:=by
 refine ⟨h.1,⟨hb.os.trans h.2.1.os,hb.tape.trans h.2.1.tape,hb.output.trans h.2.1.output,Nat.le_trans h.2.1.size hb.size,fun k hk hne=>(hf k (by omega)).trans (h.2.1.block k hk hne)⟩,fun h0=>?_⟩
 obtain ⟨v',h1,h2⟩:=h.2.2 h0
 exact ⟨v',(hf q (Ne.symm hq)).trans h1,Es h2 hz hf hb.size⟩
theorem EJ (t:Tb) (c:Cl) (r:List Row) (k:Nat) (x:Ln) (mb:Bool) (ms:List Bool) (q:Nat) (m mf me ml mg vr:Value) (w:World)
  (hq:w.heap[q]?=some (.cells #[.int .i64 t.plan.mode,.int .i64 t.plan.indDed,.int .i64 t.plan.famDed,.int .i64 t.plan.indOop,.int .i64 t.plan.famOop,m,mf,me,.string (mk c.id),.string (mk c.mem),.string (mk c.fam),.int .i64 c.net,.int .i64 c.does,.string (mk c.ref),ml,mg,vr] 66 (0,0))) (hA:dF w m mf me t) (hL:bH All w ml c.lines) (hM:Tw.ah w mg ms) (hml:ms.length=c.lines.length) (hx:c.lines[k]?=some x) (hmb:ms[k]?=some mb)
  (hr:cu (fun b=>b ≠ q) w vr r) (hO:Ac.Ok r) (hl:r.length<=8000) (hpl:Pl.kF t.plan=0) (hfe:Fe.Up t.fees) (hz:dG t) (hln:c.lines.length<=281474976710656) (hd:Da.good x.date=true) (hxo:bG x) (hT:Da.Tab w) :
  Calls Tryz.prog 24 #[.pointer (some ⟨q,0,none⟩),.int .i64 (k:Nat)] w fun e w'=>SvV q (zL (cxV t c) r (itV t c k x mb)) (zU (cxV t c) r (itV t c k x mb)) (zO (cxV t c) r (itV t c k x mb)) (fun v=>#[.int .i64 t.plan.mode,.int .i64 t.plan.indDed,.int .i64 t.plan.famDed,.int .i64 t.plan.indOop,.int .i64 t.plan.famOop,m,mf,me,.string (mk c.id),.string (mk c.mem),.string (mk c.fam),.int .i64 c.net,.int .i64 c.does,.string (mk c.ref),ml,mg,v]) w e w':=by
 obtain ⟨ma,mc,fa,fc,ea,ec,rfl,rfl,rfl⟩:=hA.form
 have hkl:k < c.lines.length:=(List.getElem?_eq_some_iff.1 hx).1
 obtain ⟨la,lc,rfl,hl1,hl2⟩:=Cm.bH.form hL
 obtain ⟨b,lo,mx,rfl,hbl,hxc,hxm⟩:=vZ hL hx
 obtain ⟨xa,xc,rfl,-,-⟩:=Cm.dI.form hxm
 obtain ⟨ra,rc,rfl,-,-⟩:=hr.form
 obtain ⟨kb,ko,kc,rfl,hk1,hk2,hkbl,hkm⟩:=jA hM hmb
 rw [hml] at hq hk1 ⊢
 have HQ0:=Lib.hid hq
 have HRw:=Lib.hid hr
 have HW:Hid ((itV t c k x mb).why=Ii t c k x mb):=rfl
 have HRef:=Lib.hid fun y W=>Dz x (.slice xa x.mods.length xc) y W ⟨_,_,rfl⟩
 have HRes:Hid (∀W,Below w.heap.size w W->Calls Tryz.prog 46 #[.agg #[.int .i64 t.plan.mode,.int .i64 t.plan.indDed,.int .i64 t.plan.famDed,.int .i64 t.plan.indOop,.int .i64 t.plan.famOop,.slice ma t.plan.rules.length mc],.agg #[.string (mk x.proc),.slice xa x.mods.length xc,.int .i64 x.date,.int .i64 x.units,.int .i64 x.billed,.int .i64 x.prior],.int .i64 c.net] W fun e w'=>e=.returned (.agg #[.bool (val t c x 1 == 1),.bool (val t c x 2 == 1),.int .i64 (val t c x 3),.int .i64 (val t c x 4)])/\Below W.heap.size W w'):=fun W hW=>Ul.DC t.plan _ x _ c.net W (hA.grw hW).1 (Ul.Hf hxm hW)
 have HDen:Hid (∀W,Below w.heap.size w W->Calls Tryz.prog 47 #[.slice ea t.edits.length ec,.slice (some ⟨b,lo,none⟩) c.lines.length lc,.int .i64 (k:Nat)] W fun e w'=>e=.returned (.int .i64 (Ex.mO t.edits c.lines (k:Nat)))/\Below W.heap.size W w'):=fun W hW=>Ex.mP t.edits _ c.lines _ (k:Nat) W (hA.grw hW).2.2 (Ex.wB hL hW) hz.2.2 hln
 have HAll:Hid (∀W,Below w.heap.size w W->Calls Tryz.prog 48 #[.slice fa t.fees.length fc,.agg #[.string (mk x.proc),.slice xa x.mods.length xc,.int .i64 x.date,.int .i64 x.units,.int .i64 x.billed,.int .i64 x.prior],.int .i64 c.net] W fun e w'=>e=.returned (.tuple #[.int .i64 (Fe.fP t.fees x c.net),.bool (Fe.Bv t.fees x c.net)])/\Below W.heap.size W w'):=fun W hW=>Fe.fQ t.fees _ x _ c.net W (hA.grw hW).2.1 hz.1.2 hfe (Ul.Hf hxm hW) hxo.2.1.2 hxo.2.1.1
 have HSet:Hid (Ii t c k x mb=0->∀W,Below w.heap.size w W->Calls Tryz.prog 49 #[.pointer (some ⟨q,0,none⟩),.agg #[.string (mk x.proc),.slice xa x.mods.length xc,.int .i64 x.date,.int .i64 x.units,.int .i64 x.billed,.int .i64 x.prior],.agg #[.bool (val t c x 1 == 1),.bool (val t c x 2 == 1),.int .i64 (val t c x 3),.int .i64 (val t c x 4)],.int .i64 (Fe.fP t.fees x c.net)] W fun e w'=>SvV q (zL (cxV t c) r (itV t c k x mb)) (zU (cxV t c) r (itV t c k x mb)) (zO (cxV t c) r (itV t c k x mb)) (fun v=>#[.int .i64 t.plan.mode,.int .i64 t.plan.indDed,.int .i64 t.plan.famDed,.int .i64 t.plan.indOop,.int .i64 t.plan.famOop,.slice ma t.plan.rules.length mc,.slice fa t.fees.length fc,.slice ea t.edits.length ec,.string (mk c.id),.string (mk c.mem),.string (mk c.fam),.int .i64 c.net,.int .i64 c.does,.string (mk c.ref),.slice (some ⟨b,lo,none⟩) c.lines.length lc,.slice (some ⟨kb,ko,none⟩) c.lines.length kc,v]) W e w'):=fun h W hW=>FD t c r x (val t c x 1 == 1) (itV t c k x mb) q _ _ _ _ _ _ _ W (tV hq hW) ⟨_,_,rfl⟩ ⟨_,_,rfl⟩ ⟨_,_,rfl⟩ (En hr hW) hO hl hpl hd hxo (Cm.tab_below hT hW) h rfl rfl rfl
 have HNo:Hid (∀(y:Int) (e:Ending) (w':World),Ii t c k x mb=y->y ≠ 0->e=.returned (.tuple #[.agg #[.int .i64 (Du x.billed x.prior y).al,.int .i64 (Du x.billed x.prior y).de,.int .i64 (Du x.billed x.prior y).cp,.int .i64 (Du x.billed x.prior y).cn,.int .i64 (Du x.billed x.prior y).plan,.int .i64 (Du x.billed x.prior y).wr,.int .i64 (Du x.billed x.prior y).pr,.int .i64 (Du x.billed x.prior y).deny],.int .i64 (Dt x.billed x.prior y)])->Below w.heap.size w w'->SvV q (zL (cxV t c) r (itV t c k x mb)) (zU (cxV t c) r (itV t c k x mb)) (zO (cxV t c) r (itV t c k x mb)) (fun v=>#[.int .i64 t.plan.mode,.int .i64 t.plan.indDed,.int .i64 t.plan.famDed,.int .i64 t.plan.indOop,.int .i64 t.plan.famOop,.slice ma t.plan.rules.length mc,.slice fa t.fees.length fc,.slice ea t.edits.length ec,.string (mk c.id),.string (mk c.mem),.string (mk c.fam),.int .i64 c.net,.int .i64 c.does,.string (mk c.ref),.slice (some ⟨b,lo,none⟩) c.lines.length lc,.slice (some ⟨kb,ko,none⟩) c.lines.length kc,v]) w e w'):=fun y e w' hy hn he hb=>by
  have hw:(itV t c k x mb).why=y:=hy
  have hne:(itV t c k x mb).why ≠ 0:=by rw [hw];exact hn
  rw [zM hne,zV hne,zS hne,he,hw]
  exact GH hq hr hb (fun _=>rfl) (fun _=>rfl)
 have HWy:Hid (Ii t c k x mb=if mb=true then 18 else if val t c x 1=1 then (if Ex.mO t.edits c.lines (k:Nat)=0 then (if Fe.Bv t.fees x c.net=true then 0 else 147) else Ex.mO t.edits c.lines (k:Nat)) else 96):=rfl
 have HSg:Hid (∀W e w',Below w.heap.size w W->SvV q (zL (cxV t c) r (itV t c k x mb)) (zU (cxV t c) r (itV t c k x mb)) (zO (cxV t c) r (itV t c k x mb)) (fun v=>#[.int .i64 t.plan.mode,.int .i64 t.plan.indDed,.int .i64 t.plan.famDed,.int .i64 t.plan.indOop,.int .i64 t.plan.famOop,.slice ma t.plan.rules.length mc,.slice fa t.fees.length fc,.slice ea t.edits.length ec,.string (mk c.id),.string (mk c.mem),.string (mk c.fam),.int .i64 c.net,.int .i64 c.does,.string (mk c.ref),.slice (some ⟨b,lo,none⟩) c.lines.length lc,.slice (some ⟨kb,ko,none⟩) c.lines.length kc,v]) W e w'->SvV q (zL (cxV t c) r (itV t c k x mb)) (zU (cxV t c) r (itV t c k x mb)) (zO (cxV t c) r (itV t c k x mb)) (fun v=>#[.int .i64 t.plan.mode,.int .i64 t.plan.indDed,.int .i64 t.plan.famDed,.int .i64 t.plan.indOop,.int .i64 t.plan.famOop,.slice ma t.plan.rules.length mc,.slice fa t.fees.length fc,.slice ea t.edits.length ec,.string (mk c.id),.string (mk c.mem),.string (mk c.fam),.int .i64 c.net,.int .i64 c.does,.string (mk c.ref),.slice (some ⟨b,lo,none⟩) c.lines.length lc,.slice (some ⟨kb,ko,none⟩) c.lines.length kc,v]) w e w'):=fun W e w' hb h=>Gz h hb
 clear hr hO hl hpl hfe hz hln hd hT HW hA hM hmb hml hxo hxm
 generalize zL (cxV t c) r (itV t c k x mb)=OE at *
 generalize zU (cxV t c) r (itV t c k x mb)=OV1 at *
 generalize zO (cxV t c) r (itV t c k x mb)=OR at *
 generalize Ii t c k x mb=WY at *
 generalize Ex.mO t.edits c.lines (k:Nat)=DN at *
 generalize Fe.Bv t.fees x c.net=PB at *
 generalize Fe.fP t.fees x c.net=AL at *
 generalize val t c x 1=u1 at *
 generalize val t c x 2=u2 at *
 generalize val t c x 3=u3 at *
 generalize val t c x 4=u4 at *
 have HLo:Hid (b < w.heap.size/\kb < w.heap.size):=⟨hbl,hkbl⟩
 have HXC:=Lib.hid fun W (hW:Below w.heap.size w W)=>And.intro (hxc.of (hW.block b hbl)) (And.intro (show W.cell? ⟨kb,ko+k,none⟩=some (.bool mb) from (by rw [World.cell?_of_block (w:=w) (hW.block kb hkbl)];exact hkm)) (b17 (tV hq hW)))
 have hkI:(k:Int) < (c.lines.length:Int):=by omega
 have HB0:=Lib.hid (iU w (.cells #[.int .i64 0,.int .i64 0,.int .i64 0,.int .i64 0,.int .i64 0,.int .i64 0,.int .i64 0,.int .i64 0] 45))
 have HY0:=Lib.hid (fK w #[.int .i64 0,.int .i64 0,.int .i64 0,.int .i64 0,.int .i64 0,.int .i64 0,.int .i64 0,.int .i64 0] 45)
 clear hxc hkm hq hbl hkbl hx hkl
 unfold Cm.bg at HXC
 go_enter Tryz.func24,Tryz.ntmps24
 go_upto_region 1 with fail
 obtain ⟨⟨l0,l1,l2,l3,l4,l5⟩,km,h0,h1,h2,h3,h4,h5,h6,h7,h8,h9,h10,h11,h12,h13,h14,h15,h16⟩:=HXC.out _ HB0.out
 generalize w.alloc (.cells #[.int .i64 0,.int .i64 0,.int .i64 0,.int .i64 0,.int .i64 0,.int .i64 0,.int .i64 0,.int .i64 0] 45)=W at *
 generalize hp:w.heap.size=u at *
 have hbn:=iU W (.cells #[.string (mk x.proc),.slice xa x.mods.length xc,.int .i64 x.date,.int .i64 x.units,.int .i64 x.billed,.int .i64 x.prior] 48)
 have HX1:=Lib.hid (fK W #[.string (mk x.proc),.slice xa x.mods.length xc,.int .i64 x.date,.int .i64 x.units,.int .i64 x.billed,.int .i64 x.prior] 48)
 have HY1:=Lib.hid (tV HY0.out hbn)
 have HB1:=Lib.hid (jf hp HB0.out hbn)
 have HU:Hid (u<=u):=Nat.le_refl u
 clear hbn
 go_upto_region 2 with fail
 clear l0 l1 l2 l3 l4 l5 km h0 h1 h2 h3 h4 h5 h6 h7 h8 h9 h10 h11 h12 h13 h14 h15 h16 HB0 HY0
 generalize W.alloc (.cells #[.string (mk x.proc),.slice xa x.mods.length xc,.int .i64 x.date,.int .i64 x.units,.int .i64 x.billed,.int .i64 x.prior] 48)=w1 at *
 generalize W.heap.size=xb at *
 obtain ⟨-,km,h0,h1,h2,h3,h4,h5,h6,h7,h8,h9,h10,h11,h12,h13,h14,h15,h16⟩:=HXC.out _ HB1.out
 obtain ⟨x0,x1,x2,x3,x4,x5⟩:=Pl.jU HX1.out
 cases hmb:mb with
 | true =>
  have HWz:Hid (WY=18):=by show _=_;rw [HWy.out,if_pos hmb]
  rw [hmb] at km
  clear HWy HSet HAll HDen HRes hmb
  obtain ⟨V,hV⟩:∃V,Du x.billed x.prior 18=V:=⟨_,rfl⟩
  obtain ⟨E,hE⟩:∃E,Dt x.billed x.prior 18=E:=⟨_,rfl⟩
  have HC:=Lib.hid (HRef.out 18 w1)
  have HN:=Lib.hid (HNo.out 18)
  rw [hV,hE] at HC HN
  clear hV hE HNo HRef
  go_wp2_with fail
  try (go_at_call 45)
  refine HC.out.mono ?_
  rintro e w9 ⟨rfl,hb9⟩
  have HB9:=Lib.hid (jf hp HB1.out hb9)
  have HY9:=Lib.hid (tV HY1.out hb9)
  clear hb9 HC x0 x1 x2 x3 x4 x5
  obtain ⟨b0,b1,b2,b3,b4,b5,b6,b7⟩:=Sh.eight HY9.out
  obtain ⟨f0,f1,f2,f3,f4,f5,f6,f7⟩:=Sh.frz HY9.out
  go_wp2
  clear b0 b1 b2 b3 b4 b5 b6 b7 f0 f1 f2 f3 f4 f5 f6 f7
  have HXF:Hid (((((((((w9.setCell ⟨u,0,none⟩ (.int .i64 V.al)).setCell ⟨u,1,none⟩ (.int .i64 V.de)).setCell ⟨u,2,none⟩ (.int .i64 V.cp)).setCell ⟨u,3,none⟩ (.int .i64 V.cn)).setCell ⟨u,4,none⟩ (.int .i64 V.plan)).setCell ⟨u,5,none⟩ (.int .i64 V.wr)).setCell ⟨u,6,none⟩ (.int .i64 V.pr)).setCell ⟨u,7,none⟩ (.int .i64 V.deny)).heap[u]?=some (.cells #[.int .i64 V.al,.int .i64 V.de,.int .i64 V.cp,.int .i64 V.cn,.int .i64 V.plan,.int .i64 V.wr,.int .i64 V.pr,.int .i64 V.deny] 45 (0,0))):=Sh.BR HY9.out
  have HBF:Hid (Below u w ((((((((w9.setCell ⟨u,0,none⟩ (.int .i64 V.al)).setCell ⟨u,1,none⟩ (.int .i64 V.de)).setCell ⟨u,2,none⟩ (.int .i64 V.cp)).setCell ⟨u,3,none⟩ (.int .i64 V.cn)).setCell ⟨u,4,none⟩ (.int .i64 V.plan)).setCell ⟨u,5,none⟩ (.int .i64 V.wr)).setCell ⟨u,6,none⟩ (.int .i64 V.pr)).setCell ⟨u,7,none⟩ (.int .i64 V.deny))):=Sh.BP HB9.out u HU.out _ _ _ _ _ _ _ _
  generalize ((((((((w9.setCell ⟨u,0,none⟩ (.int .i64 V.al)).setCell ⟨u,1,none⟩ (.int .i64 V.de)).setCell ⟨u,2,none⟩ (.int .i64 V.cp)).setCell ⟨u,3,none⟩ (.int .i64 V.cn)).setCell ⟨u,4,none⟩ (.int .i64 V.plan)).setCell ⟨u,5,none⟩ (.int .i64 V.wr)).setCell ⟨u,6,none⟩ (.int .i64 V.pr)).setCell ⟨u,7,none⟩ (.int .i64 V.deny))=WF at *
  obtain ⟨b0,b1,b2,b3,b4,b5,b6,b7⟩:=Sh.eight HXF.out
  refine bodyPost_ret (v:=.tuple #[.agg #[.int .i64 V.al,.int .i64 V.de,.int .i64 V.cp,.int .i64 V.cn,.int .i64 V.plan,.int .i64 V.wr,.int .i64 V.pr,.int .i64 V.deny],.int .i64 E]) (by simp [results,Tryz.results24,go_sem,b0,b1,b2,b3,b4,b5,b6,b7]) rfl ?_
  exact HN.out _ _ HWz.out (by decide) rfl (by first|exact HBF.out|(rw [hp];exact HBF.out))
 | false =>
  rw [if_neg (by rw [hmb];decide)] at HWy
  rw [hmb] at km
  go_upto_region 4 with fail
  clear km x0 x1 x2 x3 x4 x5 h0 h1 h2 h3 h4 h5 h6 h7 h8 h9 h10 h11 h12 h13 h14 h15 h16
  have HXK:=Lib.hid fun W' (hW:Below w1.heap.size w1 W')=>And.intro (HXC.out W' (jf hp HB1.out hW)).2.2 (Pl.jU (tV HX1.out hW))
  have HD:=Lib.hid (Below.drew (Below.refl w1.heap.size w1))
  go_cut [7] (fun s7 wx=>∃g:Nat,s7=.pointer (some ⟨g,0,none⟩)/\Hid (wx.heap[g]?=some (.cells #[.bool (u1 == 1),.bool (u2 == 1),.int .i64 u3,.int .i64 u4] 99 (0,0)))/\Hid (Below w1.heap.size w1 wx))
  case first =>
   refine Ri.I7 13 (by kernel_rfl) (by kernel_rfl) (by kernel_rfl) (by decide) (by kernel_rfl) (fun Wx=>Below w1.heap.size w1 Wx) (fun kz vs wz=>(fun kx vx wx=>match kx with|0=>vx=.pointer (some ⟨q,0,none⟩)|1=>vx=.pointer (some ⟨q,0,none⟩)|2=>vx=.pointer (some ⟨q,0,none⟩)|3=>vx=.pointer (some ⟨q,0,none⟩)|4=>vx=.agg #[.int .i64 t.plan.mode,.int .i64 t.plan.indDed,.int .i64 t.plan.famDed,.int .i64 t.plan.indOop,.int .i64 t.plan.famOop,.slice ma t.plan.rules.length mc]|5=>vx=.agg #[.string (mk x.proc),.slice xa x.mods.length xc,.int .i64 x.date,.int .i64 x.units,.int .i64 x.billed,.int .i64 x.prior]|6=>vx=.pointer (some ⟨q,0,none⟩)|7=>vx=.pointer (some ⟨q,0,none⟩)|8=>vx=.pointer (some ⟨q,8,none⟩)|9=>vx=.pointer (some ⟨q,11,none⟩)|10=>vx=.int .i64 c.net|11=>vx=.agg #[.bool (u1 == 1),.bool (u2 == 1),.int .i64 u3,.int .i64 u4]|12=>(∃g,vx=.pointer (some ⟨g,0,none⟩)/\w1.heap.size<=g/\wx.heap[g]?=some (.cells #[.bool false,.bool false,.int .i64 0,.int .i64 0] 99 (0,0)))|_=>True:Nat->Value->World->Prop) kz (vs kz) wz) (fun lst vs=>True) (fun kz=>[kz]) (by kernel_rfl) (fun jz vs iz vz wz hiz hz=>Ri.wI (F:=(fun kx vx wx=>match kx with|0=>vx=.pointer (some ⟨q,0,none⟩)|1=>vx=.pointer (some ⟨q,0,none⟩)|2=>vx=.pointer (some ⟨q,0,none⟩)|3=>vx=.pointer (some ⟨q,0,none⟩)|4=>vx=.agg #[.int .i64 t.plan.mode,.int .i64 t.plan.indDed,.int .i64 t.plan.famDed,.int .i64 t.plan.indOop,.int .i64 t.plan.famOop,.slice ma t.plan.rules.length mc]|5=>vx=.agg #[.string (mk x.proc),.slice xa x.mods.length xc,.int .i64 x.date,.int .i64 x.units,.int .i64 x.billed,.int .i64 x.prior]|6=>vx=.pointer (some ⟨q,0,none⟩)|7=>vx=.pointer (some ⟨q,0,none⟩)|8=>vx=.pointer (some ⟨q,8,none⟩)|9=>vx=.pointer (some ⟨q,11,none⟩)|10=>vx=.int .i64 c.net|11=>vx=.agg #[.bool (u1 == 1),.bool (u2 == 1),.int .i64 u3,.int .i64 u4]|12=>(∃g,vx=.pointer (some ⟨g,0,none⟩)/\w1.heap.size<=g/\wx.heap[g]?=some (.cells #[.bool false,.bool false,.int .i64 0,.int .i64 0] 99 (0,0)))|_=>True:Nat->Value->World->Prop)) jz vs iz vz wz hiz hz) HD.out ?_ ⟨⟨rfl,?_⟩,⟨rfl,?_⟩,⟨rfl,?_⟩,⟨rfl,?_⟩,⟨rfl,?_⟩,⟨rfl,?_⟩,⟨rfl,?_⟩,⟨rfl,?_⟩,⟨rfl,?_⟩,⟨rfl,?_⟩,⟨rfl,?_⟩,⟨rfl,?_⟩,⟨rfl,?_⟩,trivial⟩ ?_
   ·intro vs hvs
    exact trivial
   ·intro vs Wx A lst hA hB hls hX hno hpre K hK
    have e0:=(hA 0).trans (show _=Value.pointer (some ⟨q,0,none⟩) by kernel_rfl)
    clear hA hpre
    go_simp
    exact hK _ _ hB rfl (fun _ _ h=>h) hX
   ·intro vs Wx A lst hA hB hls hX hno hpre K hK
    have e30:=((hA 30).trans (show _=vs 0 by kernel_rfl)).trans (hpre.1 rfl)
    clear hA hpre
    go_simp
    exact hK _ _ hB rfl (fun _ _ h=>h) hX
   ·intro vs Wx A lst hA hB hls hX hno hpre K hK
    have e31:=((hA 31).trans (show _=vs 1 by kernel_rfl)).trans (hpre.1 rfl)
    clear hA hpre
    go_simp
    exact hK _ _ hB rfl (fun _ _ h=>h) hX
   ·intro vs Wx A lst hA hB hls hX hno hpre K hK
    have e32:=((hA 32).trans (show _=vs 2 by kernel_rfl)).trans (hpre.1 rfl)
    clear hA hpre
    go_simp
    exact hK _ _ hB rfl (fun _ _ h=>h) hX
   ·intro vs Wx A lst hA hB hls hX hno hpre K hK
    have e33:=((hA 33).trans (show _=vs 3 by kernel_rfl)).trans (hpre.1 rfl)
    obtain ⟨⟨h0,h1,h2,h3,h4,h5,h6,h7,h8,h9,h10,h11,h12,h13,h14,h15,h16⟩,⟨x0,x1,x2,x3,x4,x5⟩⟩:=HXK.out Wx hB
    clear hA hpre
    go_simp
    exact hK _ _ hB rfl (fun _ _ h=>h) hX
   ·intro vs Wx A lst hA hB hls hX hno hpre K hK
    have e6:=(hA 6).trans (show _=Value.pointer (some ⟨xb,0,none⟩) by kernel_rfl)
    obtain ⟨⟨h0,h1,h2,h3,h4,h5,h6,h7,h8,h9,h10,h11,h12,h13,h14,h15,h16⟩,⟨x0,x1,x2,x3,x4,x5⟩⟩:=HXK.out Wx hB
    clear hA hpre
    go_simp
    exact hK _ _ hB rfl (fun _ _ h=>h) hX
   ·intro vs Wx A lst hA hB hls hX hno hpre K hK
    have e0:=(hA 0).trans (show _=Value.pointer (some ⟨q,0,none⟩) by kernel_rfl)
    clear hA hpre
    go_simp
    exact hK _ _ hB rfl (fun _ _ h=>h) hX
   ·intro vs Wx A lst hA hB hls hX hno hpre K hK
    have e36:=((hA 36).trans (show _=vs 6 by kernel_rfl)).trans (hpre.1 rfl)
    clear hA hpre
    go_simp
    exact hK _ _ hB rfl (fun _ _ h=>h) hX
   ·intro vs Wx A lst hA hB hls hX hno hpre K hK
    have e37:=((hA 37).trans (show _=vs 7 by kernel_rfl)).trans (hpre.1 rfl)
    clear hA hpre
    go_simp
    exact hK _ _ hB rfl (fun _ _ h=>h) hX
   ·intro vs Wx A lst hA hB hls hX hno hpre K hK
    have e38:=((hA 38).trans (show _=vs 8 by kernel_rfl)).trans (hpre.1 rfl)
    clear hA hpre
    go_simp
    exact hK _ _ hB rfl (fun _ _ h=>h) hX
   ·intro vs Wx A lst hA hB hls hX hno hpre K hK
    have e39:=((hA 39).trans (show _=vs 9 by kernel_rfl)).trans (hpre.1 rfl)
    obtain ⟨⟨h0,h1,h2,h3,h4,h5,h6,h7,h8,h9,h10,h11,h12,h13,h14,h15,h16⟩,⟨x0,x1,x2,x3,x4,x5⟩⟩:=HXK.out Wx hB
    clear hA hpre
    go_simp
    exact hK _ _ hB rfl (fun _ _ h=>h) hX
   ·intro vs Wx A lst hA hB hls hX hno hpre K hK
    have e34:=((hA 34).trans (show _=vs 4 by kernel_rfl)).trans (hpre.1 rfl)
    have e35:=((hA 35).trans (show _=vs 5 by kernel_rfl)).trans (hpre.2.1 rfl)
    have e40:=((hA 40).trans (show _=vs 10 by kernel_rfl)).trans (hpre.2.2.1 rfl)
    clear hA hpre
    go_simp
    go_at_call 46
    refine (HRes.out Wx (jf hp HB1.out hB)).mono ?_
    rintro e w3 ⟨rfl,hg⟩
    refine hK _ _ (jg hB hg) rfl (fun jz hj hz=>?_) hX
    match jz,hj,hz with
    | 0,_,hz=>exact hz
    | 1,_,hz=>exact hz
    | 2,_,hz=>exact hz
    | 3,_,hz=>exact hz
    | 4,_,hz=>exact hz
    | 5,_,hz=>exact hz
    | 6,_,hz=>exact hz
    | 7,_,hz=>exact hz
    | 8,_,hz=>exact hz
    | 9,_,hz=>exact hz
    | 10,_,hz=>exact hz
    | 11,_,hz=>exact hz
    | 12,_,hz=>exact (hz.elim fun g h=>⟨g,h.1,h.2.1,tV h.2.2 hg⟩)
    | n+13,_,hz=>exact hz
   ·intro vs Wx A lst hA hB hls hX hno hpre K hK
    clear hA hpre
    go_simp
    refine hK _ _ (jg hB (iU Wx _)) ⟨_,rfl,hB.size,heap_alloc_new Wx _⟩ (fun jz hj hz=>?_) hX
    match jz,hj,hz with
    | 0,_,hz=>exact hz
    | 1,_,hz=>exact hz
    | 2,_,hz=>exact hz
    | 3,_,hz=>exact hz
    | 4,_,hz=>exact hz
    | 5,_,hz=>exact hz
    | 6,_,hz=>exact hz
    | 7,_,hz=>exact hz
    | 8,_,hz=>exact hz
    | 9,_,hz=>exact hz
    | 10,_,hz=>exact hz
    | 11,_,hz=>exact hz
    | 12,hj,_=>exact absurd rfl hj
    | n+13,_,hz=>exact hz
   ·intro vs Wx lst hall hX hB hF
    refine fun A13 hA K13 hK13=>?_
    have e7:=(hA 7).trans (show _=vs 12 by kernel_rfl)
    have e41:=((hA 41).trans (show _=vs 11 by kernel_rfl)).trans (hF 11 (by decide))
    clear hA
    obtain ⟨g,ea,hga,hza⟩:=hF 12 (by decide)
    rw [ea] at e7
    obtain ⟨m0,m1,m2,m3⟩:=jw hza
    obtain ⟨k0,k1,k2,k3⟩:=f4 hza
    have HNA:=Lib.hid (AP hza (.bool (u1 == 1)) (.bool (u2 == 1)) (.int .i64 u3) (.int .i64 u4))
    have HBP:=Lib.hid (AO hB g hga (.bool (u1 == 1)) (.bool (u2 == 1)) (.int .i64 u3) (.int .i64 u4))
    have HEA:=Lib.hid ea
    clear hga hza
    go_simp
    refine hK13 undef _ ?_
    clear m0 m1 m2 m3 k0 k1 k2 k3 e7 e41
    clear hB hX hall hF
    simp only [Ri.Tail,Ri.puts]
    go_simp
    go_wp2_with fail
    go_meet
    exact ⟨g,by first|exact HEA.out|(go_simp;exact HEA.out)|(simpa [Ri.upd] using HEA.out),HNA.out,HBP.out⟩
  case rest =>
   obtain ⟨g,rfl,HG2,HB2'⟩:=hcut
   obtain ⟨w2,hw2⟩:∃z,z=wc:=⟨_,rfl⟩
   subst hw2
   have HB2:=Lib.hid (jf hp HB1.out HB2'.out)
   have HX2:=Lib.hid (tV HX1.out HB2'.out)
   have HY2:=Lib.hid (tV HY1.out HB2'.out)
   clear HXK HD HRes HB2' HB1 HX1 HY1
   obtain ⟨n0,n1,n2,n3⟩:=jw HG2.out
   obtain ⟨x0,x1,x2,x3,x4,x5⟩:=Pl.jU HX2.out
   by_cases e1:u1=1
   case neg =>
    have q1:(u1 == 1)=false:=by simp [e1]
    have HWz:Hid (WY=96):=by show _=_;rw [HWy.out,if_neg e1]
    rw [q1] at n0
    clear e1 q1 HWy HSet HAll HDen
    obtain ⟨V,hV⟩:∃V,Du x.billed x.prior 96=V:=⟨_,rfl⟩
    obtain ⟨E,hE⟩:∃E,Dt x.billed x.prior 96=E:=⟨_,rfl⟩
    have HC:=Lib.hid (HRef.out 96 w2)
    have HN:=Lib.hid (HNo.out 96)
    rw [hV,hE] at HC HN
    clear hV hE HNo HRef
    go_wp2_with fail
    try (go_at_call 45)
    refine HC.out.mono ?_
    rintro e w9 ⟨rfl,hb9⟩
    have HB9:=Lib.hid (jf hp HB2.out hb9)
    have HY9:=Lib.hid (tV HY2.out hb9)
    clear hb9 HC x0 x1 x2 x3 x4 x5 n0 n1 n2 n3
    obtain ⟨b0,b1,b2,b3,b4,b5,b6,b7⟩:=Sh.eight HY9.out
    obtain ⟨f0,f1,f2,f3,f4,f5,f6,f7⟩:=Sh.frz HY9.out
    go_wp2
    clear b0 b1 b2 b3 b4 b5 b6 b7 f0 f1 f2 f3 f4 f5 f6 f7
    have HXF:Hid (((((((((w9.setCell ⟨u,0,none⟩ (.int .i64 V.al)).setCell ⟨u,1,none⟩ (.int .i64 V.de)).setCell ⟨u,2,none⟩ (.int .i64 V.cp)).setCell ⟨u,3,none⟩ (.int .i64 V.cn)).setCell ⟨u,4,none⟩ (.int .i64 V.plan)).setCell ⟨u,5,none⟩ (.int .i64 V.wr)).setCell ⟨u,6,none⟩ (.int .i64 V.pr)).setCell ⟨u,7,none⟩ (.int .i64 V.deny)).heap[u]?=some (.cells #[.int .i64 V.al,.int .i64 V.de,.int .i64 V.cp,.int .i64 V.cn,.int .i64 V.plan,.int .i64 V.wr,.int .i64 V.pr,.int .i64 V.deny] 45 (0,0))):=Sh.BR HY9.out
    have HBF:Hid (Below u w ((((((((w9.setCell ⟨u,0,none⟩ (.int .i64 V.al)).setCell ⟨u,1,none⟩ (.int .i64 V.de)).setCell ⟨u,2,none⟩ (.int .i64 V.cp)).setCell ⟨u,3,none⟩ (.int .i64 V.cn)).setCell ⟨u,4,none⟩ (.int .i64 V.plan)).setCell ⟨u,5,none⟩ (.int .i64 V.wr)).setCell ⟨u,6,none⟩ (.int .i64 V.pr)).setCell ⟨u,7,none⟩ (.int .i64 V.deny))):=Sh.BP HB9.out u HU.out _ _ _ _ _ _ _ _
    generalize ((((((((w9.setCell ⟨u,0,none⟩ (.int .i64 V.al)).setCell ⟨u,1,none⟩ (.int .i64 V.de)).setCell ⟨u,2,none⟩ (.int .i64 V.cp)).setCell ⟨u,3,none⟩ (.int .i64 V.cn)).setCell ⟨u,4,none⟩ (.int .i64 V.plan)).setCell ⟨u,5,none⟩ (.int .i64 V.wr)).setCell ⟨u,6,none⟩ (.int .i64 V.pr)).setCell ⟨u,7,none⟩ (.int .i64 V.deny))=WF at *
    obtain ⟨b0,b1,b2,b3,b4,b5,b6,b7⟩:=Sh.eight HXF.out
    refine bodyPost_ret (v:=.tuple #[.agg #[.int .i64 V.al,.int .i64 V.de,.int .i64 V.cp,.int .i64 V.cn,.int .i64 V.plan,.int .i64 V.wr,.int .i64 V.pr,.int .i64 V.deny],.int .i64 E]) (by simp [results,Tryz.results24,go_sem,b0,b1,b2,b3,b4,b5,b6,b7]) rfl ?_
    exact HN.out _ _ HWz.out (by decide) rfl (by first|exact HBF.out|(rw [hp];exact HBF.out))
   case pos =>
    have q1:(u1 == 1)=true:=by simp [e1]
    rw [if_pos e1] at HWy
    rw [q1] at n0
    clear e1
    go_upto_region 7 with fail
    clear x0 x1 x2 x3 x4 x5 n0 n1 n2 n3
    have HXK:=Lib.hid fun W' (hW:Below w2.heap.size w2 W')=>(HXC.out W' (jf hp HB2.out hW)).2.2
    have HD:=Lib.hid (Below.drew (Below.refl w2.heap.size w2))
    go_cut [8] (fun s8 wx=>s8=.int .i64 DN/\Hid (Below w2.heap.size w2 wx))
    case first =>
     refine Ri.IY (by kernel_rfl) (by kernel_rfl) (by kernel_rfl) (fun Wx=>Below w2.heap.size w2 Wx) (fun kz vs wz=>(fun kx vx wx=>match kx with|0=>vx=.pointer (some ⟨q,0,none⟩)|1=>vx=.pointer (some ⟨q,0,none⟩)|2=>vx=.pointer (some ⟨q,0,none⟩)|3=>vx=.pointer (some ⟨q,7,none⟩)|4=>vx=.slice ea t.edits.length ec|5=>vx=.pointer (some ⟨q,0,none⟩)|6=>vx=.pointer (some ⟨q,0,none⟩)|7=>vx=.pointer (some ⟨q,8,none⟩)|8=>vx=.pointer (some ⟨q,14,none⟩)|9=>vx=.slice (some ⟨b,lo,none⟩) c.lines.length lc|10=>vx=.int .i64 (k:Nat)|11=>vx=.int .i64 DN|12=>vx=.int .i64 DN|_=>True:Nat->Value->World->Prop) kz (vs kz) wz) (fun kz=>[kz]) (by kernel_rfl) (fun jz vs iz vz wz hiz hz=>Ri.wI (F:=(fun kx vx wx=>match kx with|0=>vx=.pointer (some ⟨q,0,none⟩)|1=>vx=.pointer (some ⟨q,0,none⟩)|2=>vx=.pointer (some ⟨q,0,none⟩)|3=>vx=.pointer (some ⟨q,7,none⟩)|4=>vx=.slice ea t.edits.length ec|5=>vx=.pointer (some ⟨q,0,none⟩)|6=>vx=.pointer (some ⟨q,0,none⟩)|7=>vx=.pointer (some ⟨q,8,none⟩)|8=>vx=.pointer (some ⟨q,14,none⟩)|9=>vx=.slice (some ⟨b,lo,none⟩) c.lines.length lc|10=>vx=.int .i64 (k:Nat)|11=>vx=.int .i64 DN|12=>vx=.int .i64 DN|_=>True:Nat->Value->World->Prop)) jz vs iz vz wz hiz hz) HD.out ⟨⟨rfl,?_⟩,⟨rfl,?_⟩,⟨rfl,?_⟩,⟨rfl,?_⟩,⟨rfl,?_⟩,⟨rfl,?_⟩,⟨rfl,?_⟩,⟨rfl,?_⟩,⟨rfl,?_⟩,⟨rfl,?_⟩,⟨rfl,?_⟩,⟨rfl,?_⟩,⟨rfl,?_⟩,trivial⟩ ?_
     ·intro vs Wx A hA hB hpre K hK
      have e0:=(hA 0).trans (show _=Value.pointer (some ⟨q,0,none⟩) by kernel_rfl)
      clear hA hpre
      go_simp
      exact hK _ _ hB rfl (fun _ _ h=>h)
     ·intro vs Wx A hA hB hpre K hK
      have e49:=((hA 49).trans (show _=vs 0 by kernel_rfl)).trans (hpre.1 rfl)
      clear hA hpre
      go_simp
      exact hK _ _ hB rfl (fun _ _ h=>h)
     ·intro vs Wx A hA hB hpre K hK
      have e50:=((hA 50).trans (show _=vs 1 by kernel_rfl)).trans (hpre.1 rfl)
      clear hA hpre
      go_simp
      exact hK _ _ hB rfl (fun _ _ h=>h)
     ·intro vs Wx A hA hB hpre K hK
      have e51:=((hA 51).trans (show _=vs 2 by kernel_rfl)).trans (hpre.1 rfl)
      clear hA hpre
      go_simp
      exact hK _ _ hB rfl (fun _ _ h=>h)
     ·intro vs Wx A hA hB hpre K hK
      have e52:=((hA 52).trans (show _=vs 3 by kernel_rfl)).trans (hpre.1 rfl)
      obtain ⟨h0,h1,h2,h3,h4,h5,h6,h7,h8,h9,h10,h11,h12,h13,h14,h15,h16⟩:=HXK.out Wx hB
      clear hA hpre
      go_simp
      exact hK _ _ hB rfl (fun _ _ h=>h)
     ·intro vs Wx A hA hB hpre K hK
      have e0:=(hA 0).trans (show _=Value.pointer (some ⟨q,0,none⟩) by kernel_rfl)
      clear hA hpre
      go_simp
      exact hK _ _ hB rfl (fun _ _ h=>h)
     ·intro vs Wx A hA hB hpre K hK
      have e54:=((hA 54).trans (show _=vs 5 by kernel_rfl)).trans (hpre.1 rfl)
      clear hA hpre
      go_simp
      exact hK _ _ hB rfl (fun _ _ h=>h)
     ·intro vs Wx A hA hB hpre K hK
      have e55:=((hA 55).trans (show _=vs 6 by kernel_rfl)).trans (hpre.1 rfl)
      clear hA hpre
      go_simp
      exact hK _ _ hB rfl (fun _ _ h=>h)
     ·intro vs Wx A hA hB hpre K hK
      have e56:=((hA 56).trans (show _=vs 7 by kernel_rfl)).trans (hpre.1 rfl)
      clear hA hpre
      go_simp
      exact hK _ _ hB rfl (fun _ _ h=>h)
     ·intro vs Wx A hA hB hpre K hK
      have e57:=((hA 57).trans (show _=vs 8 by kernel_rfl)).trans (hpre.1 rfl)
      obtain ⟨h0,h1,h2,h3,h4,h5,h6,h7,h8,h9,h10,h11,h12,h13,h14,h15,h16⟩:=HXK.out Wx hB
      clear hA hpre
      go_simp
      exact hK _ _ hB rfl (fun _ _ h=>h)
     ·intro vs Wx A hA hB hpre K hK
      have e1:=(hA 1).trans (show _=Value.int .i64 (k:Nat) by kernel_rfl)
      clear hA hpre
      go_simp
      exact hK _ _ hB rfl (fun _ _ h=>h)
     ·intro vs Wx A hA hB hpre K hK
      have e53:=((hA 53).trans (show _=vs 4 by kernel_rfl)).trans (hpre.1 rfl)
      have e58:=((hA 58).trans (show _=vs 9 by kernel_rfl)).trans (hpre.2.1 rfl)
      have e59:=((hA 59).trans (show _=vs 10 by kernel_rfl)).trans (hpre.2.2.1 rfl)
      clear hA hpre
      go_simp
      go_at_call 47
      refine (HDen.out Wx (jf hp HB2.out hB)).mono ?_
      rintro e w3 ⟨rfl,hg⟩
      exact hK _ _ (jg hB hg) rfl (fun _ _ h=>h)
     ·intro vs Wx A hA hB hpre K hK
      have e60:=((hA 60).trans (show _=vs 11 by kernel_rfl)).trans (hpre.1 rfl)
      clear hA hpre
      go_simp
      exact hK _ _ hB rfl (fun _ _ h=>h)
     ·intro vs Wx hB hF
      have hv12:vs 12=.int .i64 DN:=hF 12 (by decide)
      have HBW:=Lib.hid hB
      clear hF hB
      simp only [Ri.puts]
      go_simp
      go_wp2_with fail
      go_meet
      exact ⟨by first|exact hv12|(go_simp;done)|(go_simp;exact hv12),HBW.out⟩
    case rest =>
     obtain ⟨rfl,HB3'⟩:=hcut
     obtain ⟨w3,hw3⟩:∃z,z=wc:=⟨_,rfl⟩
     subst hw3
     have HB3:=Lib.hid (jf hp HB2.out HB3'.out)
     have HX3:=Lib.hid (tV HX2.out HB3'.out)
     have HY3:=Lib.hid (tV HY2.out HB3'.out)
     have HG3:=Lib.hid (tV HG2.out HB3'.out)
     clear HXK HD HDen HB3' HB2 HX2 HY2 HG2
     obtain ⟨x0,x1,x2,x3,x4,x5⟩:=Pl.jU HX3.out
     by_cases e2:DN=0
     case neg =>
      have q2:(DN != 0)=true:=by simp [e2]
      have HWz:Hid (WY=DN):=by show _=_;rw [HWy.out,if_neg e2]
      have HNz:=Lib.hid e2
      clear e2 HWy HSet HAll
      obtain ⟨V,hV⟩:∃V,Du x.billed x.prior DN=V:=⟨_,rfl⟩
      obtain ⟨E,hE⟩:∃E,Dt x.billed x.prior DN=E:=⟨_,rfl⟩
      have HC:=Lib.hid (HRef.out DN w3)
      have HN:=Lib.hid (HNo.out DN)
      rw [hV,hE] at HC HN
      clear hV hE HNo HRef
      go_wp2_with fail
      try (go_at_call 45)
      refine HC.out.mono ?_
      rintro e w9 ⟨rfl,hb9⟩
      have HB9:=Lib.hid (jf hp HB3.out hb9)
      have HY9:=Lib.hid (tV HY3.out hb9)
      clear hb9 HC x0 x1 x2 x3 x4 x5
      obtain ⟨b0,b1,b2,b3,b4,b5,b6,b7⟩:=Sh.eight HY9.out
      obtain ⟨f0,f1,f2,f3,f4,f5,f6,f7⟩:=Sh.frz HY9.out
      go_wp2
      clear b0 b1 b2 b3 b4 b5 b6 b7 f0 f1 f2 f3 f4 f5 f6 f7
      have HXF:Hid (((((((((w9.setCell ⟨u,0,none⟩ (.int .i64 V.al)).setCell ⟨u,1,none⟩ (.int .i64 V.de)).setCell ⟨u,2,none⟩ (.int .i64 V.cp)).setCell ⟨u,3,none⟩ (.int .i64 V.cn)).setCell ⟨u,4,none⟩ (.int .i64 V.plan)).setCell ⟨u,5,none⟩ (.int .i64 V.wr)).setCell ⟨u,6,none⟩ (.int .i64 V.pr)).setCell ⟨u,7,none⟩ (.int .i64 V.deny)).heap[u]?=some (.cells #[.int .i64 V.al,.int .i64 V.de,.int .i64 V.cp,.int .i64 V.cn,.int .i64 V.plan,.int .i64 V.wr,.int .i64 V.pr,.int .i64 V.deny] 45 (0,0))):=Sh.BR HY9.out
      have HBF:Hid (Below u w ((((((((w9.setCell ⟨u,0,none⟩ (.int .i64 V.al)).setCell ⟨u,1,none⟩ (.int .i64 V.de)).setCell ⟨u,2,none⟩ (.int .i64 V.cp)).setCell ⟨u,3,none⟩ (.int .i64 V.cn)).setCell ⟨u,4,none⟩ (.int .i64 V.plan)).setCell ⟨u,5,none⟩ (.int .i64 V.wr)).setCell ⟨u,6,none⟩ (.int .i64 V.pr)).setCell ⟨u,7,none⟩ (.int .i64 V.deny))):=Sh.BP HB9.out u HU.out _ _ _ _ _ _ _ _
      generalize ((((((((w9.setCell ⟨u,0,none⟩ (.int .i64 V.al)).setCell ⟨u,1,none⟩ (.int .i64 V.de)).setCell ⟨u,2,none⟩ (.int .i64 V.cp)).setCell ⟨u,3,none⟩ (.int .i64 V.cn)).setCell ⟨u,4,none⟩ (.int .i64 V.plan)).setCell ⟨u,5,none⟩ (.int .i64 V.wr)).setCell ⟨u,6,none⟩ (.int .i64 V.pr)).setCell ⟨u,7,none⟩ (.int .i64 V.deny))=WF at *
      obtain ⟨b0,b1,b2,b3,b4,b5,b6,b7⟩:=Sh.eight HXF.out
      refine bodyPost_ret (v:=.tuple #[.agg #[.int .i64 V.al,.int .i64 V.de,.int .i64 V.cp,.int .i64 V.cn,.int .i64 V.plan,.int .i64 V.wr,.int .i64 V.pr,.int .i64 V.deny],.int .i64 E]) (by simp [results,Tryz.results24,go_sem,b0,b1,b2,b3,b4,b5,b6,b7]) rfl ?_
      exact HN.out _ _ HWz.out HNz.out rfl (by first|exact HBF.out|(rw [hp];exact HBF.out))
     case pos =>
      have q2:(DN != 0)=false:=by simp [e2]
      rw [if_pos e2] at HWy
      clear e2
      go_upto_region 10 with fail
      clear x0 x1 x2 x3 x4 x5
      have HXK:=Lib.hid fun W' (hW:Below w3.heap.size w3 W')=>And.intro (HXC.out W' (jf hp HB3.out hW)).2.2 (Pl.jU (tV HX3.out hW))
      have HD:=Lib.hid (Below.drew (Below.refl w3.heap.size w3))
      go_cut [9,10] (fun s9 s10 wx=>s9=.int .i64 AL/\s10=.bool PB/\Hid (Below w3.heap.size w3 wx))
      case first =>
       refine Ri.IY (by kernel_rfl) (by kernel_rfl) (by kernel_rfl) (fun Wx=>Below w3.heap.size w3 Wx) (fun kz vs wz=>(fun kx vx wx=>match kx with|0=>vx=.pointer (some ⟨q,0,none⟩)|1=>vx=.pointer (some ⟨q,0,none⟩)|2=>vx=.pointer (some ⟨q,0,none⟩)|3=>vx=.pointer (some ⟨q,6,none⟩)|4=>vx=.slice fa t.fees.length fc|5=>vx=.agg #[.string (mk x.proc),.slice xa x.mods.length xc,.int .i64 x.date,.int .i64 x.units,.int .i64 x.billed,.int .i64 x.prior]|6=>vx=.pointer (some ⟨q,0,none⟩)|7=>vx=.pointer (some ⟨q,0,none⟩)|8=>vx=.pointer (some ⟨q,8,none⟩)|9=>vx=.pointer (some ⟨q,11,none⟩)|10=>vx=.int .i64 c.net|11=>vx=.tuple #[.int .i64 AL,.bool PB]|12=>vx=.tuple #[.int .i64 AL,.bool PB]|13=>vx=.int .i64 AL|14=>vx=.bool PB|15=>vx=.int .i64 AL|16=>vx=.bool PB|_=>True:Nat->Value->World->Prop) kz (vs kz) wz) (fun kz=>[kz]) (by kernel_rfl) (fun jz vs iz vz wz hiz hz=>Ri.wI (F:=(fun kx vx wx=>match kx with|0=>vx=.pointer (some ⟨q,0,none⟩)|1=>vx=.pointer (some ⟨q,0,none⟩)|2=>vx=.pointer (some ⟨q,0,none⟩)|3=>vx=.pointer (some ⟨q,6,none⟩)|4=>vx=.slice fa t.fees.length fc|5=>vx=.agg #[.string (mk x.proc),.slice xa x.mods.length xc,.int .i64 x.date,.int .i64 x.units,.int .i64 x.billed,.int .i64 x.prior]|6=>vx=.pointer (some ⟨q,0,none⟩)|7=>vx=.pointer (some ⟨q,0,none⟩)|8=>vx=.pointer (some ⟨q,8,none⟩)|9=>vx=.pointer (some ⟨q,11,none⟩)|10=>vx=.int .i64 c.net|11=>vx=.tuple #[.int .i64 AL,.bool PB]|12=>vx=.tuple #[.int .i64 AL,.bool PB]|13=>vx=.int .i64 AL|14=>vx=.bool PB|15=>vx=.int .i64 AL|16=>vx=.bool PB|_=>True:Nat->Value->World->Prop)) jz vs iz vz wz hiz hz) HD.out ⟨⟨rfl,?_⟩,⟨rfl,?_⟩,⟨rfl,?_⟩,⟨rfl,?_⟩,⟨rfl,?_⟩,⟨rfl,?_⟩,⟨rfl,?_⟩,⟨rfl,?_⟩,⟨rfl,?_⟩,⟨rfl,?_⟩,⟨rfl,?_⟩,⟨rfl,?_⟩,⟨rfl,?_⟩,⟨rfl,?_⟩,⟨rfl,?_⟩,⟨rfl,?_⟩,⟨rfl,?_⟩,trivial⟩ ?_
       ·intro vs Wx A hA hB hpre K hK
        have e0:=(hA 0).trans (show _=Value.pointer (some ⟨q,0,none⟩) by kernel_rfl)
        clear hA hpre
        go_simp
        exact hK _ _ hB rfl (fun _ _ h=>h)
       ·intro vs Wx A hA hB hpre K hK
        have e69:=((hA 69).trans (show _=vs 0 by kernel_rfl)).trans (hpre.1 rfl)
        clear hA hpre
        go_simp
        exact hK _ _ hB rfl (fun _ _ h=>h)
       ·intro vs Wx A hA hB hpre K hK
        have e70:=((hA 70).trans (show _=vs 1 by kernel_rfl)).trans (hpre.1 rfl)
        clear hA hpre
        go_simp
        exact hK _ _ hB rfl (fun _ _ h=>h)
       ·intro vs Wx A hA hB hpre K hK
        have e71:=((hA 71).trans (show _=vs 2 by kernel_rfl)).trans (hpre.1 rfl)
        clear hA hpre
        go_simp
        exact hK _ _ hB rfl (fun _ _ h=>h)
       ·intro vs Wx A hA hB hpre K hK
        have e72:=((hA 72).trans (show _=vs 3 by kernel_rfl)).trans (hpre.1 rfl)
        obtain ⟨⟨h0,h1,h2,h3,h4,h5,h6,h7,h8,h9,h10,h11,h12,h13,h14,h15,h16⟩,⟨x0,x1,x2,x3,x4,x5⟩⟩:=HXK.out Wx hB
        clear hA hpre
        go_simp
        exact hK _ _ hB rfl (fun _ _ h=>h)
       ·intro vs Wx A hA hB hpre K hK
        have e6:=(hA 6).trans (show _=Value.pointer (some ⟨xb,0,none⟩) by kernel_rfl)
        obtain ⟨⟨h0,h1,h2,h3,h4,h5,h6,h7,h8,h9,h10,h11,h12,h13,h14,h15,h16⟩,⟨x0,x1,x2,x3,x4,x5⟩⟩:=HXK.out Wx hB
        clear hA hpre
        go_simp
        exact hK _ _ hB rfl (fun _ _ h=>h)
       ·intro vs Wx A hA hB hpre K hK
        have e0:=(hA 0).trans (show _=Value.pointer (some ⟨q,0,none⟩) by kernel_rfl)
        clear hA hpre
        go_simp
        exact hK _ _ hB rfl (fun _ _ h=>h)
       ·intro vs Wx A hA hB hpre K hK
        have e75:=((hA 75).trans (show _=vs 6 by kernel_rfl)).trans (hpre.1 rfl)
        clear hA hpre
        go_simp
        exact hK _ _ hB rfl (fun _ _ h=>h)
       ·intro vs Wx A hA hB hpre K hK
        have e76:=((hA 76).trans (show _=vs 7 by kernel_rfl)).trans (hpre.1 rfl)
        clear hA hpre
        go_simp
        exact hK _ _ hB rfl (fun _ _ h=>h)
       ·intro vs Wx A hA hB hpre K hK
        have e77:=((hA 77).trans (show _=vs 8 by kernel_rfl)).trans (hpre.1 rfl)
        clear hA hpre
        go_simp
        exact hK _ _ hB rfl (fun _ _ h=>h)
       ·intro vs Wx A hA hB hpre K hK
        have e78:=((hA 78).trans (show _=vs 9 by kernel_rfl)).trans (hpre.1 rfl)
        obtain ⟨⟨h0,h1,h2,h3,h4,h5,h6,h7,h8,h9,h10,h11,h12,h13,h14,h15,h16⟩,⟨x0,x1,x2,x3,x4,x5⟩⟩:=HXK.out Wx hB
        clear hA hpre
        go_simp
        exact hK _ _ hB rfl (fun _ _ h=>h)
       ·intro vs Wx A hA hB hpre K hK
        have e73:=((hA 73).trans (show _=vs 4 by kernel_rfl)).trans (hpre.1 rfl)
        have e74:=((hA 74).trans (show _=vs 5 by kernel_rfl)).trans (hpre.2.1 rfl)
        have e79:=((hA 79).trans (show _=vs 10 by kernel_rfl)).trans (hpre.2.2.1 rfl)
        clear hA hpre
        go_simp
        go_at_call 48
        refine (HAll.out Wx (jf hp HB3.out hB)).mono ?_
        rintro e w3 ⟨rfl,hg⟩
        exact hK _ _ (jg hB hg) rfl (fun _ _ h=>h)
       ·intro vs Wx A hA hB hpre K hK
        have e80:=((hA 80).trans (show _=vs 11 by kernel_rfl)).trans (hpre.1 rfl)
        clear hA hpre
        go_simp
        exact hK _ _ hB rfl (fun _ _ h=>h)
       iterate 2
        ·intro vs Wx A hA hB hpre K hK
         have e68:=((hA 68).trans (show _=vs 12 by kernel_rfl)).trans (hpre.1 rfl)
         clear hA hpre
         go_simp
         exact hK _ _ hB rfl (fun _ _ h=>h)
       ·intro vs Wx A hA hB hpre K hK
        have e81:=((hA 81).trans (show _=vs 13 by kernel_rfl)).trans (hpre.1 rfl)
        clear hA hpre
        go_simp
        exact hK _ _ hB rfl (fun _ _ h=>h)
       ·intro vs Wx A hA hB hpre K hK
        have e82:=((hA 82).trans (show _=vs 14 by kernel_rfl)).trans (hpre.1 rfl)
        clear hA hpre
        go_simp
        exact hK _ _ hB rfl (fun _ _ h=>h)
       ·intro vs Wx hB hF
        have hv15:vs 15=.int .i64 AL:=hF 15 (by decide)
        have hv16:vs 16=.bool PB:=hF 16 (by decide)
        have HBW:=Lib.hid hB
        clear hF hB
        simp only [Ri.puts]
        go_simp
        go_wp2_with fail
        go_meet
        exact ⟨by first|exact hv15|(go_simp;done)|(go_simp;exact hv15),by first|exact hv16|(go_simp;done)|(go_simp;exact hv16),HBW.out⟩
      case rest =>
       obtain ⟨rfl,rfl,HB4'⟩:=hcut
       obtain ⟨w4,hw4⟩:∃z,z=wc:=⟨_,rfl⟩
       subst hw4
       have HB4:=Lib.hid (jf hp HB3.out HB4'.out)
       have HX4:=Lib.hid (tV HX3.out HB4'.out)
       have HY4:=Lib.hid (tV HY3.out HB4'.out)
       have HG4:=Lib.hid (tV HG3.out HB4'.out)
       clear HXK HD HAll HB4' HB3 HX3 HY3 HG3
       obtain ⟨x0,x1,x2,x3,x4,x5⟩:=Pl.jU HX4.out
       cases hPB:PB with
       | false =>
        have HWz:Hid (WY=147):=by show _=_;rw [HWy.out,if_neg (by rw [hPB];decide)]
        clear hPB HWy HSet
        obtain ⟨V,hV⟩:∃V,Du x.billed x.prior 147=V:=⟨_,rfl⟩
        obtain ⟨E,hE⟩:∃E,Dt x.billed x.prior 147=E:=⟨_,rfl⟩
        have HC:=Lib.hid (HRef.out 147 w4)
        have HN:=Lib.hid (HNo.out 147)
        rw [hV,hE] at HC HN
        clear hV hE HNo HRef
        go_wp2_with fail
        try (go_at_call 45)
        refine HC.out.mono ?_
        rintro e w9 ⟨rfl,hb9⟩
        have HB9:=Lib.hid (jf hp HB4.out hb9)
        have HY9:=Lib.hid (tV HY4.out hb9)
        clear hb9 HC x0 x1 x2 x3 x4 x5
        obtain ⟨b0,b1,b2,b3,b4,b5,b6,b7⟩:=Sh.eight HY9.out
        obtain ⟨f0,f1,f2,f3,f4,f5,f6,f7⟩:=Sh.frz HY9.out
        go_wp2
        clear b0 b1 b2 b3 b4 b5 b6 b7 f0 f1 f2 f3 f4 f5 f6 f7
        have HXF:Hid (((((((((w9.setCell ⟨u,0,none⟩ (.int .i64 V.al)).setCell ⟨u,1,none⟩ (.int .i64 V.de)).setCell ⟨u,2,none⟩ (.int .i64 V.cp)).setCell ⟨u,3,none⟩ (.int .i64 V.cn)).setCell ⟨u,4,none⟩ (.int .i64 V.plan)).setCell ⟨u,5,none⟩ (.int .i64 V.wr)).setCell ⟨u,6,none⟩ (.int .i64 V.pr)).setCell ⟨u,7,none⟩ (.int .i64 V.deny)).heap[u]?=some (.cells #[.int .i64 V.al,.int .i64 V.de,.int .i64 V.cp,.int .i64 V.cn,.int .i64 V.plan,.int .i64 V.wr,.int .i64 V.pr,.int .i64 V.deny] 45 (0,0))):=Sh.BR HY9.out
        have HBF:Hid (Below u w ((((((((w9.setCell ⟨u,0,none⟩ (.int .i64 V.al)).setCell ⟨u,1,none⟩ (.int .i64 V.de)).setCell ⟨u,2,none⟩ (.int .i64 V.cp)).setCell ⟨u,3,none⟩ (.int .i64 V.cn)).setCell ⟨u,4,none⟩ (.int .i64 V.plan)).setCell ⟨u,5,none⟩ (.int .i64 V.wr)).setCell ⟨u,6,none⟩ (.int .i64 V.pr)).setCell ⟨u,7,none⟩ (.int .i64 V.deny))):=Sh.BP HB9.out u HU.out _ _ _ _ _ _ _ _
        generalize ((((((((w9.setCell ⟨u,0,none⟩ (.int .i64 V.al)).setCell ⟨u,1,none⟩ (.int .i64 V.de)).setCell ⟨u,2,none⟩ (.int .i64 V.cp)).setCell ⟨u,3,none⟩ (.int .i64 V.cn)).setCell ⟨u,4,none⟩ (.int .i64 V.plan)).setCell ⟨u,5,none⟩ (.int .i64 V.wr)).setCell ⟨u,6,none⟩ (.int .i64 V.pr)).setCell ⟨u,7,none⟩ (.int .i64 V.deny))=WF at *
        obtain ⟨b0,b1,b2,b3,b4,b5,b6,b7⟩:=Sh.eight HXF.out
        refine bodyPost_ret (v:=.tuple #[.agg #[.int .i64 V.al,.int .i64 V.de,.int .i64 V.cp,.int .i64 V.cn,.int .i64 V.plan,.int .i64 V.wr,.int .i64 V.pr,.int .i64 V.deny],.int .i64 E]) (by simp [results,Tryz.results24,go_sem,b0,b1,b2,b3,b4,b5,b6,b7]) rfl ?_
        exact HN.out _ _ HWz.out (by decide) rfl (by first|exact HBF.out|(rw [hp];exact HBF.out))
       | true =>
        have HSt:=Lib.hid (HSet.out (by rw [HWy.out,if_pos hPB]))
        rw [q1] at HSt HG4
        clear hPB HWy HSet HRef HNo
        obtain ⟨n0,n1,n2,n3⟩:=jw HG4.out
        go_wp2_with fail
        try (go_at_call 49)
        refine (HSt.out w4 HB4.out).mono ?_
        rintro e w5 hsv
        have hsw:=HSg.out w4 _ _ HB4.out hsv
        obtain ⟨⟨V,rfl,-⟩,hgr,-⟩:=hsv
        have HSw:=Lib.hid hsw
        have hqu:u ≠ q:=by have h1:=(Array.getElem?_eq_some_iff.1 HQ0.out).1;omega
        have HY5:=Lib.hid ((hgr.block u (Array.getElem?_eq_some_iff.1 HY4.out).1 (fun e=>hqu (Option.some.inj e))).trans HY4.out)
        have HQu:=Lib.hid hqu
        clear hsw hgr hqu HSt HSg x0 x1 x2 x3 x4 x5 n0 n1 n2 n3
        obtain ⟨b0,b1,b2,b3,b4,b5,b6,b7⟩:=Sh.eight HY5.out
        obtain ⟨f0,f1,f2,f3,f4,f5,f6,f7⟩:=Sh.frz HY5.out
        go_wp2
        clear b0 b1 b2 b3 b4 b5 b6 b7 f0 f1 f2 f3 f4 f5 f6 f7
        have HXF:Hid (((((((((w5.setCell ⟨u,0,none⟩ (.int .i64 V.al)).setCell ⟨u,1,none⟩ (.int .i64 V.de)).setCell ⟨u,2,none⟩ (.int .i64 V.cp)).setCell ⟨u,3,none⟩ (.int .i64 V.cn)).setCell ⟨u,4,none⟩ (.int .i64 V.plan)).setCell ⟨u,5,none⟩ (.int .i64 V.wr)).setCell ⟨u,6,none⟩ (.int .i64 V.pr)).setCell ⟨u,7,none⟩ (.int .i64 V.deny)).heap[u]?=some (.cells #[.int .i64 V.al,.int .i64 V.de,.int .i64 V.cp,.int .i64 V.cn,.int .i64 V.plan,.int .i64 V.wr,.int .i64 V.pr,.int .i64 V.deny] 45 (0,0))):=Sh.BR HY5.out
        have HFr:Hid (∀k,k ≠ u->((((((((w5.setCell ⟨u,0,none⟩ (.int .i64 V.al)).setCell ⟨u,1,none⟩ (.int .i64 V.de)).setCell ⟨u,2,none⟩ (.int .i64 V.cp)).setCell ⟨u,3,none⟩ (.int .i64 V.cn)).setCell ⟨u,4,none⟩ (.int .i64 V.plan)).setCell ⟨u,5,none⟩ (.int .i64 V.wr)).setCell ⟨u,6,none⟩ (.int .i64 V.pr)).setCell ⟨u,7,none⟩ (.int .i64 V.deny)).heap[k]?=w5.heap[k]?):=fun k hk=>oD hk _ _ _ _ _ _ _ _
        have HOt:Hid (Below 0 w5 ((((((((w5.setCell ⟨u,0,none⟩ (.int .i64 V.al)).setCell ⟨u,1,none⟩ (.int .i64 V.de)).setCell ⟨u,2,none⟩ (.int .i64 V.cp)).setCell ⟨u,3,none⟩ (.int .i64 V.cn)).setCell ⟨u,4,none⟩ (.int .i64 V.plan)).setCell ⟨u,5,none⟩ (.int .i64 V.wr)).setCell ⟨u,6,none⟩ (.int .i64 V.pr)).setCell ⟨u,7,none⟩ (.int .i64 V.deny))):=Sh.BP (Below.refl 0 w5) u (Nat.zero_le _) _ _ _ _ _ _ _ _
        generalize ((((((((w5.setCell ⟨u,0,none⟩ (.int .i64 V.al)).setCell ⟨u,1,none⟩ (.int .i64 V.de)).setCell ⟨u,2,none⟩ (.int .i64 V.cp)).setCell ⟨u,3,none⟩ (.int .i64 V.cn)).setCell ⟨u,4,none⟩ (.int .i64 V.plan)).setCell ⟨u,5,none⟩ (.int .i64 V.wr)).setCell ⟨u,6,none⟩ (.int .i64 V.pr)).setCell ⟨u,7,none⟩ (.int .i64 V.deny))=WF at *
        obtain ⟨b0,b1,b2,b3,b4,b5,b6,b7⟩:=Sh.eight HXF.out
        refine bodyPost_ret (v:=.tuple #[.agg #[.int .i64 V.al,.int .i64 V.de,.int .i64 V.cp,.int .i64 V.cn,.int .i64 V.plan,.int .i64 V.wr,.int .i64 V.pr,.int .i64 V.deny],.int .i64 OE]) (by simp [results,Tryz.results24,go_sem,b0,b1,b2,b3,b4,b5,b6,b7]) rfl ?_
        exact GI HSw.out (fun k hk=>HFr.out k hk) HOt.out (by first|exact Nat.le_of_eq hp|omega) HQu.out HY5.out
end Go.Proofs.YtfbfeoplldjbpaaGreatDoor.Ju
end
