/-
  Texts put together (merge.py): JSvc.
-/
import Derived.Test.YtfbfeoplldjbpaaGreatDoorMd22
import Derived.Test.YtfbfeoplldjbpaaGreatDoorMd26
import Derived.Test.YtfbfeoplldjbpaaGreatDoorMd28
import Derived.Test.YtfbfeoplldjbpaaGreatDoorMd31
set_option linter.unusedSimpArgs false
set_option linter.unusedVariables false
set_option maxHeartbeats 16000000
set_option maxRecDepth 100000
namespace Go.Proofs.YtfbfeoplldjbpaaGreatDoor
namespace Ju
open Go.RowKit
open Ac (Row pU dJ dM jF jG DW DU left cu Own tV qL iU jg jf fK)
open Sh (Ot bD bC bK bE EP EW Dt Du member Jj)
open Cm (Ln Cl bH lnv clv bG aC)
theorem Gz {q:Nat} {E:Int} {V:Ot} {R:List Row} {cs:Value->Array Value} {w W w':World} {e:Ending} (h:SvV q E V R cs W e w') (hb:Below w.heap.size w W):SvV q E V R cs w e w':=
 ⟨h.1,⟨h.2.1.os.trans hb.os,h.2.1.tape.trans hb.tape,h.2.1.output.trans hb.output,Nat.le_trans hb.size h.2.1.size,fun k hk hne=>(h.2.1.block k (Nat.lt_of_lt_of_le hk hb.size) hne).trans (hb.block k hk)⟩,h.2.2⟩
theorem Es {q u:Nat} {w w':World} {v:Value} {l:List Row} (h:cu (fun b=>b ≠ q) w v l) {z0 z1 z2 z3 z4 z5 z6 z7:Int} {T:TypeId} (hu:w.heap[u]?=some (.cells #[iI z0,iI z1,iI z2,iI z3,iI z4,iI z5,iI z6,iI z7] T (0,0))) (hf:∀k,k ≠ u->w'.heap[k]?=w.heap[k]?) (hs:w.heap.size<=w'.heap.size):cu (fun b=>b ≠ q) w' v l:=by
 obtain ⟨a,c,rfl,h1,h2,h3⟩:=h;refine ⟨a,c,rfl,h1,h2,?_⟩;rcases h3 with h|⟨b,o,rfl,hk,hb,hc⟩
 ·exact Or.inl h
 ·cases l with
  | nil=>exact Or.inl rfl
  | cons x r =>
   have hne:b ≠ u:=by
    rintro rfl;have h0:=(hc 0 x rfl).1;rw [cell_of_row w b _ _ T (0,0) hu] at h0;have hm:=Array.mem_of_getElem? h0;simp at hm
   exact Or.inr ⟨b,o,rfl,hk,Nat.lt_of_lt_of_le hb hs,fun j y hj=>(hc j y hj).of (hf b hne)⟩
theorem jA {w:World} {v:Value} {l:List Bool} {k:Nat} {y:Bool} (h:Tw.ah w v l) (hk:l[k]?=some y):∃b o c,v=.slice (some ⟨b,o,none⟩) l.length c/\l.length<=c/\c<=9223372036854775807/\b < w.heap.size/\w.cell? ⟨b,o+k,none⟩=some (.bool y):=by
 obtain ⟨a,c,rfl,h1,h2⟩:=h.form;obtain ⟨hl,he⟩:=List.getElem?_eq_some_iff.1 hk;obtain ⟨b,o,rfl,-,h3⟩:=h.get k hl;rw [he] at h3;exact ⟨b,o,c,rfl,h1,h2,World.block_lt_of_cell? w _ h3,h3⟩
theorem vZ {w:World} {a:Option Addr} {n c k:Nat} {l:List Ln} {x:Ln} (h:bH All w (.slice a n c) l) (hk:l[k]?=some x):∃b o m,a=some ⟨b,o,none⟩/\b < w.heap.size/\Cm.bg w b (o+k * 6) x m/\dI All w m x.mods:=by
 obtain ⟨a',c',he,h1,h2,h3⟩:=h;have ha:a=a':=by injection he
 subst ha;rcases h3 with h|⟨b,o,ha,_,hb,hc⟩
 ·subst h;simp at hk
 ·obtain ⟨m,q1,q2⟩:=hc k x hk;exact ⟨b,o,m,ha,hb,q1,q2⟩
theorem GI {q u:Nat} {E:Int} {V:Ot} {R:List Row} {cs:Value->Array Value} {w W WF:World} {e:Ending} (h:SvV q E V R cs w e W) (hf:∀k,k ≠ u->WF.heap[k]?=W.heap[k]?) (hb:Below 0 W WF) (hu:w.heap.size<=u) (hq:u ≠ q) {z0 z1 z2 z3 z4 z5 z6 z7:Int} {T:TypeId} (hz:W.heap[u]?=some (.cells #[iI z0,iI z1,iI z2,iI z3,iI z4,iI z5,iI z6,iI z7] T (0,0))):SvV q E V R cs w e WF:=by
 refine ⟨h.1,⟨hb.os.trans h.2.1.os,hb.tape.trans h.2.1.tape,hb.output.trans h.2.1.output,Nat.le_trans h.2.1.size hb.size,fun k hk hne=>(hf k (by omega)).trans (h.2.1.block k hk hne)⟩,fun h0=>?_⟩;obtain ⟨v',h1,h2⟩:=h.2.2 h0;exact ⟨v',(hf q (Ne.symm hq)).trans h1,Es h2 hz hf hb.size⟩
theorem EJ (t:Tb) (c:Cl) (r:List Row) (k:Nat) (x:Ln) (mb:Bool) (ms:List Bool) (q:Nat) (m mf me ml mg vr:Value) (w:World)
  (hq:w.heap[q]?=some (.cells #[iI t.plan.mode,iI t.plan.Ay,iI t.plan.AR,iI t.plan.Bb,iI t.plan.AJ,m,mf,me,sS c.id,sS c.mem,sS c.Br,iI c.net,iI c.does,sS c.ref,ml,mg,vr] 66 (0,0))) (hA:dF w m mf me t) (hL:bH All w ml c.lines) (hM:Tw.ah w mg ms) (hml:ms.length=c.lines.length) (hx:c.lines[k]?=some x) (hmb:ms[k]?=some mb)
  (hr:cu (fun b=>b ≠ q) w vr r) (hO:Ac.Ok r) (hl:r.length<=8000) (hpl:Pl.kF t.plan=0) (hfe:Fe.Up t.Bp) (hz:dG t) (hln:c.lines.length<=281474976710656) (hd:Da.good x.date=true) (hxo:bG x) (hT:Da.Tab w) :
  Calls Tryz.prog 24 #[pP q 0,iI (k:Nat)] w fun e w'=>SvV q (zL (Bw t c) r (Cu t c k x mb)) (zU (Bw t c) r (Cu t c k x mb)) (zO (Bw t c) r (Cu t c k x mb)) (fun v=>#[iI t.plan.mode,iI t.plan.Ay,iI t.plan.AR,iI t.plan.Bb,iI t.plan.AJ,m,mf,me,sS c.id,sS c.mem,sS c.Br,iI c.net,iI c.does,sS c.ref,ml,mg,v]) w e w':=by
 obtain ⟨ma,mc,fa,fc,ea,ec,rfl,rfl,rfl⟩:=hA.form;have hkl:k < c.lines.length:=(List.getElem?_eq_some_iff.1 hx).1;obtain ⟨la,lc,rfl,hl1,hl2⟩:=Cm.bH.form hL;obtain ⟨b,lo,mx,rfl,hbl,hxc,hxm⟩:=vZ hL hx;obtain ⟨xa,xc,rfl,-,-⟩:=Cm.dI.form hxm;obtain ⟨ra,rc,rfl,-,-⟩:=hr.form;obtain ⟨kb,ko,kc,rfl,hk1,hk2,hkbl,hkm⟩:=jA hM hmb;rw [hml] at hq hk1 ⊢;have HQ0:=zZ hq;have HRw:=zZ hr;have HW:Hid ((Cu t c k x mb).why=Ii t c k x mb):=rfl;have HRef:=zZ fun y W=>Dz x (.slice xa x.mods.length xc) y W ⟨_,_,rfl⟩;have HRes:Hid (∀W,Below w.heap.size w W->Calls Tryz.prog 46 #[.agg #[iI t.plan.mode,iI t.plan.Ay,iI t.plan.AR,iI t.plan.Bb,iI t.plan.AJ,.slice ma t.plan.rules.length mc],.agg #[sS x.proc,.slice xa x.mods.length xc,iI x.date,iI x.units,iI x.Av,iI x.prior],iI c.net] W fun e w'=>e=.returned (.agg #[.bool (val t c x 1 == 1),.bool (val t c x 2 == 1),iI (val t c x 3),iI (val t c x 4)])/\Below W.heap.size W w'):=fun W hW=>Ul.DC t.plan _ x _ c.net W (hA.Bu hW).1 (Ul.Hf hxm hW);have HDen:Hid (∀W,Below w.heap.size w W->Calls Tryz.prog 47 #[.slice ea t.edits.length ec,.slice (some ⟨b,lo,none⟩) c.lines.length lc,iI (k:Nat)] W fun e w'=>e=.returned (iI (Ex.mO t.edits c.lines (k:Nat)))/\Below W.heap.size W w'):=fun W hW=>Ex.mP t.edits _ c.lines _ (k:Nat) W (hA.Bu hW).2.2 (Ex.wB hL hW) hz.2.2 hln;have HAll:Hid (∀W,Below w.heap.size w W->Calls Tryz.prog 48 #[.slice fa t.Bp.length fc,.agg #[sS x.proc,.slice xa x.mods.length xc,iI x.date,iI x.units,iI x.Av,iI x.prior],iI c.net] W fun e w'=>e=.returned (.tuple #[iI (Fe.fP t.Bp x c.net),.bool (Fe.Bv t.Bp x c.net)])/\Below W.heap.size W w'):=fun W hW=>Fe.fQ t.Bp _ x _ c.net W (hA.Bu hW).2.1 hz.1.2 hfe (Ul.Hf hxm hW) hxo.2.1.2 hxo.2.1.1;have HSet:Hid (Ii t c k x mb=0->∀W,Below w.heap.size w W->Calls Tryz.prog 49 #[pP q 0,.agg #[sS x.proc,.slice xa x.mods.length xc,iI x.date,iI x.units,iI x.Av,iI x.prior],.agg #[.bool (val t c x 1 == 1),.bool (val t c x 2 == 1),iI (val t c x 3),iI (val t c x 4)],iI (Fe.fP t.Bp x c.net)] W fun e w'=>SvV q (zL (Bw t c) r (Cu t c k x mb)) (zU (Bw t c) r (Cu t c k x mb)) (zO (Bw t c) r (Cu t c k x mb)) (fun v=>#[iI t.plan.mode,iI t.plan.Ay,iI t.plan.AR,iI t.plan.Bb,iI t.plan.AJ,.slice ma t.plan.rules.length mc,.slice fa t.Bp.length fc,.slice ea t.edits.length ec,sS c.id,sS c.mem,sS c.Br,iI c.net,iI c.does,sS c.ref,.slice (some ⟨b,lo,none⟩) c.lines.length lc,.slice (some ⟨kb,ko,none⟩) c.lines.length kc,v]) W e w'):=fun h W hW=>FD t c r x (val t c x 1 == 1) (Cu t c k x mb) q _ _ _ _ _ _ _ W (tV hq hW) ⟨_,_,rfl⟩ ⟨_,_,rfl⟩ ⟨_,_,rfl⟩ (En hr hW) hO hl hpl hd hxo (Cm.gP hT hW) h rfl rfl rfl;have HNo:Hid (∀(y:Int) (e:Ending) (w':World),Ii t c k x mb=y->y ≠ 0->e=.returned (.tuple #[.agg #[iI (Du x.Av x.prior y).al,iI (Du x.Av x.prior y).de,iI (Du x.Av x.prior y).cp,iI (Du x.Av x.prior y).cn,iI (Du x.Av x.prior y).plan,iI (Du x.Av x.prior y).wr,iI (Du x.Av x.prior y).pr,iI (Du x.Av x.prior y).deny],iI (Dt x.Av x.prior y)])->Below w.heap.size w w'->SvV q (zL (Bw t c) r (Cu t c k x mb)) (zU (Bw t c) r (Cu t c k x mb)) (zO (Bw t c) r (Cu t c k x mb)) (fun v=>#[iI t.plan.mode,iI t.plan.Ay,iI t.plan.AR,iI t.plan.Bb,iI t.plan.AJ,.slice ma t.plan.rules.length mc,.slice fa t.Bp.length fc,.slice ea t.edits.length ec,sS c.id,sS c.mem,sS c.Br,iI c.net,iI c.does,sS c.ref,.slice (some ⟨b,lo,none⟩) c.lines.length lc,.slice (some ⟨kb,ko,none⟩) c.lines.length kc,v]) w e w'):=fun y e w' hy hn he hb=>by
  have hw:(Cu t c k x mb).why=y:=hy;have hne:(Cu t c k x mb).why ≠ 0:=by rw [hw];exact hn
  rw [zM hne,zV hne,zS hne,he,hw];exact GH hq hr hb (fun _=>rfl) (fun _=>rfl)
 have HWy:Hid (Ii t c k x mb=if mb=true then 18 else if val t c x 1=1 then (if Ex.mO t.edits c.lines (k:Nat)=0 then (if Fe.Bv t.Bp x c.net=true then 0 else 147) else Ex.mO t.edits c.lines (k:Nat)) else 96):=rfl;have HSg:Hid (∀W e w',Below w.heap.size w W->SvV q (zL (Bw t c) r (Cu t c k x mb)) (zU (Bw t c) r (Cu t c k x mb)) (zO (Bw t c) r (Cu t c k x mb)) (fun v=>#[iI t.plan.mode,iI t.plan.Ay,iI t.plan.AR,iI t.plan.Bb,iI t.plan.AJ,.slice ma t.plan.rules.length mc,.slice fa t.Bp.length fc,.slice ea t.edits.length ec,sS c.id,sS c.mem,sS c.Br,iI c.net,iI c.does,sS c.ref,.slice (some ⟨b,lo,none⟩) c.lines.length lc,.slice (some ⟨kb,ko,none⟩) c.lines.length kc,v]) W e w'->SvV q (zL (Bw t c) r (Cu t c k x mb)) (zU (Bw t c) r (Cu t c k x mb)) (zO (Bw t c) r (Cu t c k x mb)) (fun v=>#[iI t.plan.mode,iI t.plan.Ay,iI t.plan.AR,iI t.plan.Bb,iI t.plan.AJ,.slice ma t.plan.rules.length mc,.slice fa t.Bp.length fc,.slice ea t.edits.length ec,sS c.id,sS c.mem,sS c.Br,iI c.net,iI c.does,sS c.ref,.slice (some ⟨b,lo,none⟩) c.lines.length lc,.slice (some ⟨kb,ko,none⟩) c.lines.length kc,v]) w e w'):=fun W e w' hb h=>Gz h hb;clear hr hO hl hpl hfe hz hln hd hT HW hA hM hmb hml hxo hxm;generalize zL (Bw t c) r (Cu t c k x mb)=OE at *;generalize zU (Bw t c) r (Cu t c k x mb)=OV1 at *;generalize zO (Bw t c) r (Cu t c k x mb)=OR at *;generalize Ii t c k x mb=WY at *;generalize Ex.mO t.edits c.lines (k:Nat)=DN at *;generalize Fe.Bv t.Bp x c.net=PB at *;generalize Fe.fP t.Bp x c.net=AL at *;generalize val t c x 1=u1 at *;generalize val t c x 2=u2 at *;generalize val t c x 3=u3 at *;generalize val t c x 4=u4 at *;have HLo:Hid (b < w.heap.size/\kb < w.heap.size):=⟨hbl,hkbl⟩;have HXC:=zZ fun W (hW:Below w.heap.size w W)=>And.intro (hxc.of (hW.block b hbl)) (And.intro (show W.cell? ⟨kb,ko+k,none⟩=some (.bool mb) from (by rw [World.cell?_of_block (w:=w) (hW.block kb hkbl)];exact hkm)) (b17 (tV hq hW)));have hkI:(k:Int) < (c.lines.length:Int):=by omega
 have HB0:=zZ (iU w (.cells #[iI 0,iI 0,iI 0,iI 0,iI 0,iI 0,iI 0,iI 0] 45));have HY0:=zZ (fK w #[iI 0,iI 0,iI 0,iI 0,iI 0,iI 0,iI 0,iI 0] 45);clear hxc hkm hq hbl hkbl hx hkl;unfold Cm.bg at HXC;go_enter Tryz.func24,Tryz.ntmps24
 go_upto_region 1 with fail
 obtain ⟨⟨l0,l1,l2,l3,l4,l5⟩,km,h0,h1,h2,h3,h4,h5,h6,h7,h8,h9,h10,h11,h12,h13,h14,h15,h16⟩:=HXC.out _ HB0.out;generalize w.alloc (.cells #[iI 0,iI 0,iI 0,iI 0,iI 0,iI 0,iI 0,iI 0] 45)=W at *;generalize hp:w.heap.size=u at *;have hbn:=iU W (.cells #[sS x.proc,.slice xa x.mods.length xc,iI x.date,iI x.units,iI x.Av,iI x.prior] 48);have Cz:=zZ (fK W #[sS x.proc,.slice xa x.mods.length xc,iI x.date,iI x.units,iI x.Av,iI x.prior] 48);have HY1:=zZ (tV HY0.out hbn);have HB1:=zZ (jf hp HB0.out hbn);have HU:Hid (u<=u):=Nat.le_refl u;clear hbn;go_upto_region 2 with fail
 clear l0 l1 l2 l3 l4 l5 km h0 h1 h2 h3 h4 h5 h6 h7 h8 h9 h10 h11 h12 h13 h14 h15 h16 HB0 HY0;generalize W.alloc (.cells #[sS x.proc,.slice xa x.mods.length xc,iI x.date,iI x.units,iI x.Av,iI x.prior] 48)=w1 at *;generalize W.heap.size=xb at *;obtain ⟨-,km,h0,h1,h2,h3,h4,h5,h6,h7,h8,h9,h10,h11,h12,h13,h14,h15,h16⟩:=HXC.out _ HB1.out;obtain ⟨x0,x1,x2,x3,x4,x5⟩:=Pl.jU Cz.out;cases hmb:mb with
 | true =>
  have HWz:Hid (WY=18):=by show _=_;rw [HWy.out,if_pos hmb]
  rw [hmb] at km;clear HWy HSet HAll HDen HRes hmb;obtain ⟨V,hV⟩:∃V,Du x.Av x.prior 18=V:=⟨_,rfl⟩;obtain ⟨E,hE⟩:∃E,Dt x.Av x.prior 18=E:=⟨_,rfl⟩;have HC:=zZ (HRef.out 18 w1);have HN:=zZ (HNo.out 18);rw [hV,hE] at HC HN;clear hV hE HNo HRef;go_wp2_with fail
  try (go_at_call 45)
  refine HC.out.mono ?_;rintro e w9 ⟨rfl,hb9⟩;have HB9:=zZ (jf hp HB1.out hb9);have HY9:=zZ (tV HY1.out hb9);clear hb9 HC x0 x1 x2 x3 x4 x5;obtain ⟨b0,b1,b2,b3,b4,b5,b6,b7⟩:=Sh.eight HY9.out;obtain ⟨f0,f1,f2,f3,f4,f5,f6,f7⟩:=Sh.frz HY9.out;go_wp2;clear b0 b1 b2 b3 b4 b5 b6 b7 f0 f1 f2 f3 f4 f5 f6 f7;generalize Cg:((((((((w9.setCell ⟨u,0,none⟩ (iI V.al)).setCell ⟨u,1,none⟩ (iI V.de)).setCell ⟨u,2,none⟩ (iI V.cp)).setCell ⟨u,3,none⟩ (iI V.cn)).setCell ⟨u,4,none⟩ (iI V.plan)).setCell ⟨u,5,none⟩ (iI V.wr)).setCell ⟨u,6,none⟩ (iI V.pr)).setCell ⟨u,7,none⟩ (iI V.deny))=WF at *;have Cy:Hid (WF.heap[u]?=some (.cells #[iI V.al,iI V.de,iI V.cp,iI V.cn,iI V.plan,iI V.wr,iI V.pr,iI V.deny] 45 (0,0))):=by rw [←Cg];exact Sh.BR HY9.out
  have Cq:Hid (Below u w WF):=by rw [←Cg];exact Sh.BP HB9.out u HU.out _ _ _ _ _ _ _ _
  clear Cg;obtain ⟨b0,b1,b2,b3,b4,b5,b6,b7⟩:=Sh.eight Cy.out;refine bodyPost_ret (v:=.tuple #[.agg #[iI V.al,iI V.de,iI V.cp,iI V.cn,iI V.plan,iI V.wr,iI V.pr,iI V.deny],iI E]) (by simp [results,Tryz.results24,go_sem,b0,b1,b2,b3,b4,b5,b6,b7]) rfl ?_;exact HN.out _ _ HWz.out (by decide) rfl (by first|exact Cq.out|(rw [hp];exact Cq.out))
 | false =>
  rw [if_neg (by rw [hmb];decide)] at HWy;rw [hmb] at km;go_upto_region 4 with fail
  clear km x0 x1 x2 x3 x4 x5 h0 h1 h2 h3 h4 h5 h6 h7 h8 h9 h10 h11 h12 h13 h14 h15 h16;have Bt:=zZ fun W' (hW:Below w1.heap.size w1 W')=>And.intro (HXC.out W' (jf hp HB1.out hW)).2.2 (Pl.jU (tV Cz.out hW));have HD:=zZ (Below.drew (Below.refl w1.heap.size w1));go_cut [7] (fun s7 wx=>∃g:Nat,s7=pP g 0/\Hid (wx.heap[g]?=some (.cells #[.bool (u1 == 1),.bool (u2 == 1),iI u3,iI u4] 99 (0,0)))/\Hid (Below w1.heap.size w1 wx))
  case first =>
   refine Ri.I7 13 (by kernel_rfl) (by kernel_rfl) (by kernel_rfl) (by decide) (by kernel_rfl) (fun Wx=>Below w1.heap.size w1 Wx) (fun kz vs wz=>(fun kx vx wx=>match kx with|0=>vx=pP q 0|1=>vx=pP q 0|2=>vx=pP q 0|3=>vx=pP q 0|4=>vx=.agg #[iI t.plan.mode,iI t.plan.Ay,iI t.plan.AR,iI t.plan.Bb,iI t.plan.AJ,.slice ma t.plan.rules.length mc]|5=>vx=.agg #[sS x.proc,.slice xa x.mods.length xc,iI x.date,iI x.units,iI x.Av,iI x.prior]|6=>vx=pP q 0|7=>vx=pP q 0|8=>vx=pP q 8|9=>vx=pP q 11|10=>vx=iI c.net|11=>vx=.agg #[.bool (u1 == 1),.bool (u2 == 1),iI u3,iI u4]|12=>(∃g,vx=pP g 0/\w1.heap.size<=g/\wx.heap[g]?=some (.cells #[.bool false,.bool false,iI 0,iI 0] 99 (0,0)))|_=>True:Nat->Value->World->Prop) kz (vs kz) wz) (fun Cw vs=>True) (fun kz=>[kz]) (by kernel_rfl) (fun jz vs iz vz wz hiz hz=>Ri.wI (F:=(fun kx vx wx=>match kx with|0=>vx=pP q 0|1=>vx=pP q 0|2=>vx=pP q 0|3=>vx=pP q 0|4=>vx=.agg #[iI t.plan.mode,iI t.plan.Ay,iI t.plan.AR,iI t.plan.Bb,iI t.plan.AJ,.slice ma t.plan.rules.length mc]|5=>vx=.agg #[sS x.proc,.slice xa x.mods.length xc,iI x.date,iI x.units,iI x.Av,iI x.prior]|6=>vx=pP q 0|7=>vx=pP q 0|8=>vx=pP q 8|9=>vx=pP q 11|10=>vx=iI c.net|11=>vx=.agg #[.bool (u1 == 1),.bool (u2 == 1),iI u3,iI u4]|12=>(∃g,vx=pP g 0/\w1.heap.size<=g/\wx.heap[g]?=some (.cells #[.bool false,.bool false,iI 0,iI 0] 99 (0,0)))|_=>True:Nat->Value->World->Prop)) jz vs iz vz wz hiz hz) HD.out ?_ ⟨⟨rfl,?_⟩,⟨rfl,?_⟩,⟨rfl,?_⟩,⟨rfl,?_⟩,⟨rfl,?_⟩,⟨rfl,?_⟩,⟨rfl,?_⟩,⟨rfl,?_⟩,⟨rfl,?_⟩,⟨rfl,?_⟩,⟨rfl,?_⟩,⟨rfl,?_⟩,⟨rfl,?_⟩,trivial⟩ ?_
   ·intro vs hvs;exact trivial
   ·intro vs Wx A Cw hA hB hls hX hno hpre K hK;have e0:=(hA 0).trans (show _=pP q 0 by kernel_rfl);clear hA hpre;go_simp;exact hK _ _ hB rfl (fun _ _ h=>h) hX
   ·intro vs Wx A Cw hA hB hls hX hno hpre K hK;have e30:=tT (hA 30) (by kernel_rfl) (hpre.1 rfl);clear hA hpre;go_simp;exact hK _ _ hB rfl (fun _ _ h=>h) hX
   ·intro vs Wx A Cw hA hB hls hX hno hpre K hK;have e31:=tT (hA 31) (by kernel_rfl) (hpre.1 rfl);clear hA hpre;go_simp;exact hK _ _ hB rfl (fun _ _ h=>h) hX
   ·intro vs Wx A Cw hA hB hls hX hno hpre K hK;have e32:=tT (hA 32) (by kernel_rfl) (hpre.1 rfl);clear hA hpre;go_simp;exact hK _ _ hB rfl (fun _ _ h=>h) hX
   ·intro vs Wx A Cw hA hB hls hX hno hpre K hK;have e33:=tT (hA 33) (by kernel_rfl) (hpre.1 rfl);obtain ⟨⟨h0,h1,h2,h3,h4,h5,h6,h7,h8,h9,h10,h11,h12,h13,h14,h15,h16⟩,⟨x0,x1,x2,x3,x4,x5⟩⟩:=Bt.out Wx hB;clear hA hpre;go_simp;exact hK _ _ hB rfl (fun _ _ h=>h) hX
   ·intro vs Wx A Cw hA hB hls hX hno hpre K hK;have e6:=(hA 6).trans (show _=pP xb 0 by kernel_rfl);obtain ⟨⟨h0,h1,h2,h3,h4,h5,h6,h7,h8,h9,h10,h11,h12,h13,h14,h15,h16⟩,⟨x0,x1,x2,x3,x4,x5⟩⟩:=Bt.out Wx hB;clear hA hpre;go_simp;exact hK _ _ hB rfl (fun _ _ h=>h) hX
   ·intro vs Wx A Cw hA hB hls hX hno hpre K hK;have e0:=(hA 0).trans (show _=pP q 0 by kernel_rfl);clear hA hpre;go_simp;exact hK _ _ hB rfl (fun _ _ h=>h) hX
   ·intro vs Wx A Cw hA hB hls hX hno hpre K hK;have e36:=tT (hA 36) (by kernel_rfl) (hpre.1 rfl);clear hA hpre;go_simp;exact hK _ _ hB rfl (fun _ _ h=>h) hX
   ·intro vs Wx A Cw hA hB hls hX hno hpre K hK;have e37:=tT (hA 37) (by kernel_rfl) (hpre.1 rfl);clear hA hpre;go_simp;exact hK _ _ hB rfl (fun _ _ h=>h) hX
   ·intro vs Wx A Cw hA hB hls hX hno hpre K hK;have e38:=tT (hA 38) (by kernel_rfl) (hpre.1 rfl);clear hA hpre;go_simp;exact hK _ _ hB rfl (fun _ _ h=>h) hX
   ·intro vs Wx A Cw hA hB hls hX hno hpre K hK;have e39:=tT (hA 39) (by kernel_rfl) (hpre.1 rfl);obtain ⟨⟨h0,h1,h2,h3,h4,h5,h6,h7,h8,h9,h10,h11,h12,h13,h14,h15,h16⟩,⟨x0,x1,x2,x3,x4,x5⟩⟩:=Bt.out Wx hB;clear hA hpre;go_simp;exact hK _ _ hB rfl (fun _ _ h=>h) hX
   ·intro vs Wx A Cw hA hB hls hX hno hpre K hK;have e34:=tT (hA 34) (by kernel_rfl) (hpre.1 rfl);have e35:=tT (hA 35) (by kernel_rfl) (hpre.2.1 rfl);have e40:=tT (hA 40) (by kernel_rfl) (hpre.2.2.1 rfl);clear hA hpre;go_simp;go_at_call 46
    refine (HRes.out Wx (jf hp HB1.out hB)).mono ?_;rintro e w3 ⟨rfl,hg⟩;refine hK _ _ (jg hB hg) rfl (fun jz hj hz=>?_) hX;match jz,hj,hz with
    | 0,_,hz=>exact hz
    | 1,_,hz=>exact hz
    | 2,_,hz=>exact hz
    | 3,_,hz=>exact hz
    | 4,_,hz=>exact hz
    | 5,_,hz=>exact hz
    | 6,_,hz=>exact hz
    | 7,_,hz=>exact hz
    | 8,_,hz=>exact hz
    | 9,_,hz=>exact hz
    | 10,_,hz=>exact hz
    | 11,_,hz=>exact hz
    | 12,_,hz=>exact (hz.elim fun g h=>⟨g,h.1,h.2.1,tV h.2.2 hg⟩)
    | n+13,_,hz=>exact hz
   ·intro vs Wx A Cw hA hB hls hX hno hpre K hK;clear hA hpre;go_simp;refine hK _ _ (jg hB (iU Wx _)) ⟨_,rfl,hB.size,heap_alloc_new Wx _⟩ (fun jz hj hz=>?_) hX;match jz,hj,hz with
    | 0,_,hz=>exact hz
    | 1,_,hz=>exact hz
    | 2,_,hz=>exact hz
    | 3,_,hz=>exact hz
    | 4,_,hz=>exact hz
    | 5,_,hz=>exact hz
    | 6,_,hz=>exact hz
    | 7,_,hz=>exact hz
    | 8,_,hz=>exact hz
    | 9,_,hz=>exact hz
    | 10,_,hz=>exact hz
    | 11,_,hz=>exact hz
    | 12,hj,_=>exact absurd rfl hj
    | n+13,_,hz=>exact hz
   ·intro vs Wx Cw hall hX hB hF;refine fun A13 hA K13 hK13=>?_;have e7:=(hA 7).trans (show _=vs 12 by kernel_rfl);have e41:=tT (hA 41) (by kernel_rfl) (hF 11 (by decide));clear hA;obtain ⟨g,ea,hga,hza⟩:=hF 12 (by decide);rw [ea] at e7;obtain ⟨m0,m1,m2,m3⟩:=jw hza;obtain ⟨k0,k1,k2,k3⟩:=f4 hza;have HNA:=zZ (AP hza (.bool (u1 == 1)) (.bool (u2 == 1)) (iI u3) (iI u4));have HBP:=zZ (AO hB g hga (.bool (u1 == 1)) (.bool (u2 == 1)) (iI u3) (iI u4));have HEA:=zZ ea;clear hga hza;go_simp;refine hK13 undef _ ?_;clear m0 m1 m2 m3 k0 k1 k2 k3 e7 e41;clear hB hX hall hF;simp only [Ri.Tail,Ri.puts];go_simp;go_wp2_with fail
    go_meet
    exact ⟨g,by first|exact HEA.out|(go_simp;exact HEA.out)|(simpa [Ri.upd] using HEA.out),HNA.out,HBP.out⟩
  case rest =>
   obtain ⟨g,rfl,HG2,HB2'⟩:=hcut;obtain ⟨w2,hw2⟩:∃z,z=wc:=⟨_,rfl⟩;subst hw2;have HB2:=zZ (jf hp HB1.out HB2'.out);have HX2:=zZ (tV Cz.out HB2'.out);have HY2:=zZ (tV HY1.out HB2'.out);clear Bt HD HRes HB2' HB1 Cz HY1;obtain ⟨n0,n1,n2,n3⟩:=jw HG2.out;obtain ⟨x0,x1,x2,x3,x4,x5⟩:=Pl.jU HX2.out;by_cases e1:u1=1
   case neg =>
    have q1:(u1 == 1)=false:=by simp [e1]
    have HWz:Hid (WY=96):=by show _=_;rw [HWy.out,if_neg e1]
    rw [q1] at n0;clear e1 q1 HWy HSet HAll HDen;obtain ⟨V,hV⟩:∃V,Du x.Av x.prior 96=V:=⟨_,rfl⟩;obtain ⟨E,hE⟩:∃E,Dt x.Av x.prior 96=E:=⟨_,rfl⟩;have HC:=zZ (HRef.out 96 w2);have HN:=zZ (HNo.out 96);rw [hV,hE] at HC HN;clear hV hE HNo HRef;go_wp2_with fail
    try (go_at_call 45)
    refine HC.out.mono ?_;rintro e w9 ⟨rfl,hb9⟩;have HB9:=zZ (jf hp HB2.out hb9);have HY9:=zZ (tV HY2.out hb9);clear hb9 HC x0 x1 x2 x3 x4 x5 n0 n1 n2 n3;obtain ⟨b0,b1,b2,b3,b4,b5,b6,b7⟩:=Sh.eight HY9.out;obtain ⟨f0,f1,f2,f3,f4,f5,f6,f7⟩:=Sh.frz HY9.out;go_wp2;clear b0 b1 b2 b3 b4 b5 b6 b7 f0 f1 f2 f3 f4 f5 f6 f7;generalize Cg:((((((((w9.setCell ⟨u,0,none⟩ (iI V.al)).setCell ⟨u,1,none⟩ (iI V.de)).setCell ⟨u,2,none⟩ (iI V.cp)).setCell ⟨u,3,none⟩ (iI V.cn)).setCell ⟨u,4,none⟩ (iI V.plan)).setCell ⟨u,5,none⟩ (iI V.wr)).setCell ⟨u,6,none⟩ (iI V.pr)).setCell ⟨u,7,none⟩ (iI V.deny))=WF at *;have Cy:Hid (WF.heap[u]?=some (.cells #[iI V.al,iI V.de,iI V.cp,iI V.cn,iI V.plan,iI V.wr,iI V.pr,iI V.deny] 45 (0,0))):=by rw [←Cg];exact Sh.BR HY9.out
    have Cq:Hid (Below u w WF):=by rw [←Cg];exact Sh.BP HB9.out u HU.out _ _ _ _ _ _ _ _
    clear Cg;obtain ⟨b0,b1,b2,b3,b4,b5,b6,b7⟩:=Sh.eight Cy.out;refine bodyPost_ret (v:=.tuple #[.agg #[iI V.al,iI V.de,iI V.cp,iI V.cn,iI V.plan,iI V.wr,iI V.pr,iI V.deny],iI E]) (by simp [results,Tryz.results24,go_sem,b0,b1,b2,b3,b4,b5,b6,b7]) rfl ?_;exact HN.out _ _ HWz.out (by decide) rfl (by first|exact Cq.out|(rw [hp];exact Cq.out))
   case pos =>
    have q1:(u1 == 1)=true:=by simp [e1]
    rw [if_pos e1] at HWy;rw [q1] at n0;clear e1;go_upto_region 7 with fail
    clear x0 x1 x2 x3 x4 x5 n0 n1 n2 n3;have Bt:=zZ fun W' (hW:Below w2.heap.size w2 W')=>(HXC.out W' (jf hp HB2.out hW)).2.2;have HD:=zZ (Below.drew (Below.refl w2.heap.size w2));go_cut [8] (fun s8 wx=>s8=iI DN/\Hid (Below w2.heap.size w2 wx))
    case first =>
     refine Ri.IY (by kernel_rfl) (by kernel_rfl) (by kernel_rfl) (fun Wx=>Below w2.heap.size w2 Wx) (fun kz vs wz=>(fun kx vx wx=>match kx with|0=>vx=pP q 0|1=>vx=pP q 0|2=>vx=pP q 0|3=>vx=pP q 7|4=>vx=.slice ea t.edits.length ec|5=>vx=pP q 0|6=>vx=pP q 0|7=>vx=pP q 8|8=>vx=pP q 14|9=>vx=.slice (some ⟨b,lo,none⟩) c.lines.length lc|10=>vx=iI (k:Nat)|11=>vx=iI DN|12=>vx=iI DN|_=>True:Nat->Value->World->Prop) kz (vs kz) wz) (fun kz=>[kz]) (by kernel_rfl) (fun jz vs iz vz wz hiz hz=>Ri.wI (F:=(fun kx vx wx=>match kx with|0=>vx=pP q 0|1=>vx=pP q 0|2=>vx=pP q 0|3=>vx=pP q 7|4=>vx=.slice ea t.edits.length ec|5=>vx=pP q 0|6=>vx=pP q 0|7=>vx=pP q 8|8=>vx=pP q 14|9=>vx=.slice (some ⟨b,lo,none⟩) c.lines.length lc|10=>vx=iI (k:Nat)|11=>vx=iI DN|12=>vx=iI DN|_=>True:Nat->Value->World->Prop)) jz vs iz vz wz hiz hz) HD.out ⟨⟨rfl,?_⟩,⟨rfl,?_⟩,⟨rfl,?_⟩,⟨rfl,?_⟩,⟨rfl,?_⟩,⟨rfl,?_⟩,⟨rfl,?_⟩,⟨rfl,?_⟩,⟨rfl,?_⟩,⟨rfl,?_⟩,⟨rfl,?_⟩,⟨rfl,?_⟩,⟨rfl,?_⟩,trivial⟩ ?_
     ·intro vs Wx A hA hB hpre K hK;have e0:=(hA 0).trans (show _=pP q 0 by kernel_rfl);clear hA hpre;go_simp;exact hK _ _ hB rfl (fun _ _ h=>h)
     ·intro vs Wx A hA hB hpre K hK;have e49:=tT (hA 49) (by kernel_rfl) (hpre.1 rfl);clear hA hpre;go_simp;exact hK _ _ hB rfl (fun _ _ h=>h)
     ·intro vs Wx A hA hB hpre K hK;have e50:=tT (hA 50) (by kernel_rfl) (hpre.1 rfl);clear hA hpre;go_simp;exact hK _ _ hB rfl (fun _ _ h=>h)
     ·intro vs Wx A hA hB hpre K hK;have e51:=tT (hA 51) (by kernel_rfl) (hpre.1 rfl);clear hA hpre;go_simp;exact hK _ _ hB rfl (fun _ _ h=>h)
     ·intro vs Wx A hA hB hpre K hK;have e52:=tT (hA 52) (by kernel_rfl) (hpre.1 rfl);obtain ⟨h0,h1,h2,h3,h4,h5,h6,h7,h8,h9,h10,h11,h12,h13,h14,h15,h16⟩:=Bt.out Wx hB;clear hA hpre;go_simp;exact hK _ _ hB rfl (fun _ _ h=>h)
     ·intro vs Wx A hA hB hpre K hK;have e0:=(hA 0).trans (show _=pP q 0 by kernel_rfl);clear hA hpre;go_simp;exact hK _ _ hB rfl (fun _ _ h=>h)
     ·intro vs Wx A hA hB hpre K hK;have e54:=tT (hA 54) (by kernel_rfl) (hpre.1 rfl);clear hA hpre;go_simp;exact hK _ _ hB rfl (fun _ _ h=>h)
     ·intro vs Wx A hA hB hpre K hK;have e55:=tT (hA 55) (by kernel_rfl) (hpre.1 rfl);clear hA hpre;go_simp;exact hK _ _ hB rfl (fun _ _ h=>h)
     ·intro vs Wx A hA hB hpre K hK;have e56:=tT (hA 56) (by kernel_rfl) (hpre.1 rfl);clear hA hpre;go_simp;exact hK _ _ hB rfl (fun _ _ h=>h)
     ·intro vs Wx A hA hB hpre K hK;have e57:=tT (hA 57) (by kernel_rfl) (hpre.1 rfl);obtain ⟨h0,h1,h2,h3,h4,h5,h6,h7,h8,h9,h10,h11,h12,h13,h14,h15,h16⟩:=Bt.out Wx hB;clear hA hpre;go_simp;exact hK _ _ hB rfl (fun _ _ h=>h)
     ·intro vs Wx A hA hB hpre K hK;have e1:=(hA 1).trans (show _=iI (k:Nat) by kernel_rfl);clear hA hpre;go_simp;exact hK _ _ hB rfl (fun _ _ h=>h)
     ·intro vs Wx A hA hB hpre K hK;have e53:=tT (hA 53) (by kernel_rfl) (hpre.1 rfl);have e58:=tT (hA 58) (by kernel_rfl) (hpre.2.1 rfl);have e59:=tT (hA 59) (by kernel_rfl) (hpre.2.2.1 rfl);clear hA hpre;go_simp;go_at_call 47
      refine (HDen.out Wx (jf hp HB2.out hB)).mono ?_;rintro e w3 ⟨rfl,hg⟩;exact hK _ _ (jg hB hg) rfl (fun _ _ h=>h)
     ·intro vs Wx A hA hB hpre K hK;have e60:=tT (hA 60) (by kernel_rfl) (hpre.1 rfl);clear hA hpre;go_simp;exact hK _ _ hB rfl (fun _ _ h=>h)
     ·intro vs Wx hB hF;have hv12:vs 12=iI DN:=hF 12 (by decide);have Cn:=zZ hB;clear hF hB;simp only [Ri.puts];go_simp;go_wp2_with fail
      go_meet
      exact ⟨by first|exact hv12|(go_simp;done)|(go_simp;exact hv12),Cn.out⟩
    case rest =>
     obtain ⟨rfl,HB3'⟩:=hcut;obtain ⟨w3,hw3⟩:∃z,z=wc:=⟨_,rfl⟩;subst hw3;have HB3:=zZ (jf hp HB2.out HB3'.out);have CK:=zZ (tV HX2.out HB3'.out);have HY3:=zZ (tV HY2.out HB3'.out);have HG3:=zZ (tV HG2.out HB3'.out);clear Bt HD HDen HB3' HB2 HX2 HY2 HG2;obtain ⟨x0,x1,x2,x3,x4,x5⟩:=Pl.jU CK.out;by_cases e2:DN=0
     case neg =>
      have q2:(DN != 0)=true:=by simp [e2]
      have HWz:Hid (WY=DN):=by show _=_;rw [HWy.out,if_neg e2]
      have HNz:=zZ e2;clear e2 HWy HSet HAll;obtain ⟨V,hV⟩:∃V,Du x.Av x.prior DN=V:=⟨_,rfl⟩;obtain ⟨E,hE⟩:∃E,Dt x.Av x.prior DN=E:=⟨_,rfl⟩;have HC:=zZ (HRef.out DN w3);have HN:=zZ (HNo.out DN);rw [hV,hE] at HC HN;clear hV hE HNo HRef;go_wp2_with fail
      try (go_at_call 45)
      refine HC.out.mono ?_;rintro e w9 ⟨rfl,hb9⟩;have HB9:=zZ (jf hp HB3.out hb9);have HY9:=zZ (tV HY3.out hb9);clear hb9 HC x0 x1 x2 x3 x4 x5;obtain ⟨b0,b1,b2,b3,b4,b5,b6,b7⟩:=Sh.eight HY9.out;obtain ⟨f0,f1,f2,f3,f4,f5,f6,f7⟩:=Sh.frz HY9.out;go_wp2;clear b0 b1 b2 b3 b4 b5 b6 b7 f0 f1 f2 f3 f4 f5 f6 f7;generalize Cg:((((((((w9.setCell ⟨u,0,none⟩ (iI V.al)).setCell ⟨u,1,none⟩ (iI V.de)).setCell ⟨u,2,none⟩ (iI V.cp)).setCell ⟨u,3,none⟩ (iI V.cn)).setCell ⟨u,4,none⟩ (iI V.plan)).setCell ⟨u,5,none⟩ (iI V.wr)).setCell ⟨u,6,none⟩ (iI V.pr)).setCell ⟨u,7,none⟩ (iI V.deny))=WF at *;have Cy:Hid (WF.heap[u]?=some (.cells #[iI V.al,iI V.de,iI V.cp,iI V.cn,iI V.plan,iI V.wr,iI V.pr,iI V.deny] 45 (0,0))):=by rw [←Cg];exact Sh.BR HY9.out
      have Cq:Hid (Below u w WF):=by rw [←Cg];exact Sh.BP HB9.out u HU.out _ _ _ _ _ _ _ _
      clear Cg;obtain ⟨b0,b1,b2,b3,b4,b5,b6,b7⟩:=Sh.eight Cy.out;refine bodyPost_ret (v:=.tuple #[.agg #[iI V.al,iI V.de,iI V.cp,iI V.cn,iI V.plan,iI V.wr,iI V.pr,iI V.deny],iI E]) (by simp [results,Tryz.results24,go_sem,b0,b1,b2,b3,b4,b5,b6,b7]) rfl ?_;exact HN.out _ _ HWz.out HNz.out rfl (by first|exact Cq.out|(rw [hp];exact Cq.out))
     case pos =>
      have q2:(DN != 0)=false:=by simp [e2]
      rw [if_pos e2] at HWy;clear e2;go_upto_region 10 with fail
      clear x0 x1 x2 x3 x4 x5;have Bt:=zZ fun W' (hW:Below w3.heap.size w3 W')=>And.intro (HXC.out W' (jf hp HB3.out hW)).2.2 (Pl.jU (tV CK.out hW));have HD:=zZ (Below.drew (Below.refl w3.heap.size w3));go_cut [9,10] (fun s9 s10 wx=>s9=iI AL/\s10=.bool PB/\Hid (Below w3.heap.size w3 wx))
      case first =>
       refine Ri.IY (by kernel_rfl) (by kernel_rfl) (by kernel_rfl) (fun Wx=>Below w3.heap.size w3 Wx) (fun kz vs wz=>(fun kx vx wx=>match kx with|0=>vx=pP q 0|1=>vx=pP q 0|2=>vx=pP q 0|3=>vx=pP q 6|4=>vx=.slice fa t.Bp.length fc|5=>vx=.agg #[sS x.proc,.slice xa x.mods.length xc,iI x.date,iI x.units,iI x.Av,iI x.prior]|6=>vx=pP q 0|7=>vx=pP q 0|8=>vx=pP q 8|9=>vx=pP q 11|10=>vx=iI c.net|11=>vx=.tuple #[iI AL,.bool PB]|12=>vx=.tuple #[iI AL,.bool PB]|13=>vx=iI AL|14=>vx=.bool PB|15=>vx=iI AL|16=>vx=.bool PB|_=>True:Nat->Value->World->Prop) kz (vs kz) wz) (fun kz=>[kz]) (by kernel_rfl) (fun jz vs iz vz wz hiz hz=>Ri.wI (F:=(fun kx vx wx=>match kx with|0=>vx=pP q 0|1=>vx=pP q 0|2=>vx=pP q 0|3=>vx=pP q 6|4=>vx=.slice fa t.Bp.length fc|5=>vx=.agg #[sS x.proc,.slice xa x.mods.length xc,iI x.date,iI x.units,iI x.Av,iI x.prior]|6=>vx=pP q 0|7=>vx=pP q 0|8=>vx=pP q 8|9=>vx=pP q 11|10=>vx=iI c.net|11=>vx=.tuple #[iI AL,.bool PB]|12=>vx=.tuple #[iI AL,.bool PB]|13=>vx=iI AL|14=>vx=.bool PB|15=>vx=iI AL|16=>vx=.bool PB|_=>True:Nat->Value->World->Prop)) jz vs iz vz wz hiz hz) HD.out ⟨⟨rfl,?_⟩,⟨rfl,?_⟩,⟨rfl,?_⟩,⟨rfl,?_⟩,⟨rfl,?_⟩,⟨rfl,?_⟩,⟨rfl,?_⟩,⟨rfl,?_⟩,⟨rfl,?_⟩,⟨rfl,?_⟩,⟨rfl,?_⟩,⟨rfl,?_⟩,⟨rfl,?_⟩,⟨rfl,?_⟩,⟨rfl,?_⟩,⟨rfl,?_⟩,⟨rfl,?_⟩,trivial⟩ ?_
       ·intro vs Wx A hA hB hpre K hK;have e0:=(hA 0).trans (show _=pP q 0 by kernel_rfl);clear hA hpre;go_simp;exact hK _ _ hB rfl (fun _ _ h=>h)
       ·intro vs Wx A hA hB hpre K hK;have e69:=tT (hA 69) (by kernel_rfl) (hpre.1 rfl);clear hA hpre;go_simp;exact hK _ _ hB rfl (fun _ _ h=>h)
       ·intro vs Wx A hA hB hpre K hK;have e70:=tT (hA 70) (by kernel_rfl) (hpre.1 rfl);clear hA hpre;go_simp;exact hK _ _ hB rfl (fun _ _ h=>h)
       ·intro vs Wx A hA hB hpre K hK;have e71:=tT (hA 71) (by kernel_rfl) (hpre.1 rfl);clear hA hpre;go_simp;exact hK _ _ hB rfl (fun _ _ h=>h)
       ·intro vs Wx A hA hB hpre K hK;have e72:=tT (hA 72) (by kernel_rfl) (hpre.1 rfl);obtain ⟨⟨h0,h1,h2,h3,h4,h5,h6,h7,h8,h9,h10,h11,h12,h13,h14,h15,h16⟩,⟨x0,x1,x2,x3,x4,x5⟩⟩:=Bt.out Wx hB;clear hA hpre;go_simp;exact hK _ _ hB rfl (fun _ _ h=>h)
       ·intro vs Wx A hA hB hpre K hK;have e6:=(hA 6).trans (show _=pP xb 0 by kernel_rfl);obtain ⟨⟨h0,h1,h2,h3,h4,h5,h6,h7,h8,h9,h10,h11,h12,h13,h14,h15,h16⟩,⟨x0,x1,x2,x3,x4,x5⟩⟩:=Bt.out Wx hB;clear hA hpre;go_simp;exact hK _ _ hB rfl (fun _ _ h=>h)
       ·intro vs Wx A hA hB hpre K hK;have e0:=(hA 0).trans (show _=pP q 0 by kernel_rfl);clear hA hpre;go_simp;exact hK _ _ hB rfl (fun _ _ h=>h)
       ·intro vs Wx A hA hB hpre K hK;have e75:=tT (hA 75) (by kernel_rfl) (hpre.1 rfl);clear hA hpre;go_simp;exact hK _ _ hB rfl (fun _ _ h=>h)
       ·intro vs Wx A hA hB hpre K hK;have e76:=tT (hA 76) (by kernel_rfl) (hpre.1 rfl);clear hA hpre;go_simp;exact hK _ _ hB rfl (fun _ _ h=>h)
       ·intro vs Wx A hA hB hpre K hK;have e77:=tT (hA 77) (by kernel_rfl) (hpre.1 rfl);clear hA hpre;go_simp;exact hK _ _ hB rfl (fun _ _ h=>h)
       ·intro vs Wx A hA hB hpre K hK;have e78:=tT (hA 78) (by kernel_rfl) (hpre.1 rfl);obtain ⟨⟨h0,h1,h2,h3,h4,h5,h6,h7,h8,h9,h10,h11,h12,h13,h14,h15,h16⟩,⟨x0,x1,x2,x3,x4,x5⟩⟩:=Bt.out Wx hB;clear hA hpre;go_simp;exact hK _ _ hB rfl (fun _ _ h=>h)
       ·intro vs Wx A hA hB hpre K hK;have e73:=tT (hA 73) (by kernel_rfl) (hpre.1 rfl);have e74:=tT (hA 74) (by kernel_rfl) (hpre.2.1 rfl);have e79:=tT (hA 79) (by kernel_rfl) (hpre.2.2.1 rfl);clear hA hpre;go_simp;go_at_call 48
        refine (HAll.out Wx (jf hp HB3.out hB)).mono ?_;rintro e w3 ⟨rfl,hg⟩;exact hK _ _ (jg hB hg) rfl (fun _ _ h=>h)
       ·intro vs Wx A hA hB hpre K hK;have e80:=tT (hA 80) (by kernel_rfl) (hpre.1 rfl);clear hA hpre;go_simp;exact hK _ _ hB rfl (fun _ _ h=>h)
       iterate 2
        ·intro vs Wx A hA hB hpre K hK;have e68:=tT (hA 68) (by kernel_rfl) (hpre.1 rfl);clear hA hpre;go_simp;exact hK _ _ hB rfl (fun _ _ h=>h)
       ·intro vs Wx A hA hB hpre K hK;have e81:=tT (hA 81) (by kernel_rfl) (hpre.1 rfl);clear hA hpre;go_simp;exact hK _ _ hB rfl (fun _ _ h=>h)
       ·intro vs Wx A hA hB hpre K hK;have e82:=tT (hA 82) (by kernel_rfl) (hpre.1 rfl);clear hA hpre;go_simp;exact hK _ _ hB rfl (fun _ _ h=>h)
       ·intro vs Wx hB hF;have hv15:vs 15=iI AL:=hF 15 (by decide);have hv16:vs 16=.bool PB:=hF 16 (by decide);have Cn:=zZ hB;clear hF hB;simp only [Ri.puts];go_simp;go_wp2_with fail
        go_meet
        exact ⟨by first|exact hv15|(go_simp;done)|(go_simp;exact hv15),by first|exact hv16|(go_simp;done)|(go_simp;exact hv16),Cn.out⟩
      case rest =>
       obtain ⟨rfl,rfl,HB4'⟩:=hcut;obtain ⟨w4,hw4⟩:∃z,z=wc:=⟨_,rfl⟩;subst hw4;have HB4:=zZ (jf hp HB3.out HB4'.out);have HX4:=zZ (tV CK.out HB4'.out);have HY4:=zZ (tV HY3.out HB4'.out);have HG4:=zZ (tV HG3.out HB4'.out);clear Bt HD HAll HB4' HB3 CK HY3 HG3;obtain ⟨x0,x1,x2,x3,x4,x5⟩:=Pl.jU HX4.out;cases hPB:PB with
       | false =>
        have HWz:Hid (WY=147):=by show _=_;rw [HWy.out,if_neg (by rw [hPB];decide)]
        clear hPB HWy HSet;obtain ⟨V,hV⟩:∃V,Du x.Av x.prior 147=V:=⟨_,rfl⟩;obtain ⟨E,hE⟩:∃E,Dt x.Av x.prior 147=E:=⟨_,rfl⟩;have HC:=zZ (HRef.out 147 w4);have HN:=zZ (HNo.out 147);rw [hV,hE] at HC HN;clear hV hE HNo HRef;go_wp2_with fail
        try (go_at_call 45)
        refine HC.out.mono ?_;rintro e w9 ⟨rfl,hb9⟩;have HB9:=zZ (jf hp HB4.out hb9);have HY9:=zZ (tV HY4.out hb9);clear hb9 HC x0 x1 x2 x3 x4 x5;obtain ⟨b0,b1,b2,b3,b4,b5,b6,b7⟩:=Sh.eight HY9.out;obtain ⟨f0,f1,f2,f3,f4,f5,f6,f7⟩:=Sh.frz HY9.out;go_wp2;clear b0 b1 b2 b3 b4 b5 b6 b7 f0 f1 f2 f3 f4 f5 f6 f7;generalize Cg:((((((((w9.setCell ⟨u,0,none⟩ (iI V.al)).setCell ⟨u,1,none⟩ (iI V.de)).setCell ⟨u,2,none⟩ (iI V.cp)).setCell ⟨u,3,none⟩ (iI V.cn)).setCell ⟨u,4,none⟩ (iI V.plan)).setCell ⟨u,5,none⟩ (iI V.wr)).setCell ⟨u,6,none⟩ (iI V.pr)).setCell ⟨u,7,none⟩ (iI V.deny))=WF at *;have Cy:Hid (WF.heap[u]?=some (.cells #[iI V.al,iI V.de,iI V.cp,iI V.cn,iI V.plan,iI V.wr,iI V.pr,iI V.deny] 45 (0,0))):=by rw [←Cg];exact Sh.BR HY9.out
        have Cq:Hid (Below u w WF):=by rw [←Cg];exact Sh.BP HB9.out u HU.out _ _ _ _ _ _ _ _
        clear Cg;obtain ⟨b0,b1,b2,b3,b4,b5,b6,b7⟩:=Sh.eight Cy.out;refine bodyPost_ret (v:=.tuple #[.agg #[iI V.al,iI V.de,iI V.cp,iI V.cn,iI V.plan,iI V.wr,iI V.pr,iI V.deny],iI E]) (by simp [results,Tryz.results24,go_sem,b0,b1,b2,b3,b4,b5,b6,b7]) rfl ?_;exact HN.out _ _ HWz.out (by decide) rfl (by first|exact Cq.out|(rw [hp];exact Cq.out))
       | true =>
        have HSt:=zZ (HSet.out (by rw [HWy.out,if_pos hPB]));rw [q1] at HSt HG4;clear hPB HWy HSet HRef HNo;obtain ⟨n0,n1,n2,n3⟩:=jw HG4.out;go_wp2_with fail
        try (go_at_call 49)
        refine (HSt.out w4 HB4.out).mono ?_;rintro e w5 hsv;have hsw:=HSg.out w4 _ _ HB4.out hsv;obtain ⟨⟨V,rfl,-⟩,hgr,-⟩:=hsv;have HSw:=zZ hsw;have hqu:u ≠ q:=by have h1:=(Array.getElem?_eq_some_iff.1 HQ0.out).1;omega
        have HY5:=zZ ((hgr.block u (Array.getElem?_eq_some_iff.1 HY4.out).1 (fun e=>hqu (Option.some.inj e))).trans HY4.out);have HQu:=zZ hqu;clear hsw hgr hqu HSt HSg x0 x1 x2 x3 x4 x5 n0 n1 n2 n3;obtain ⟨b0,b1,b2,b3,b4,b5,b6,b7⟩:=Sh.eight HY5.out;obtain ⟨f0,f1,f2,f3,f4,f5,f6,f7⟩:=Sh.frz HY5.out;go_wp2;clear b0 b1 b2 b3 b4 b5 b6 b7 f0 f1 f2 f3 f4 f5 f6 f7;generalize Cg:((((((((w5.setCell ⟨u,0,none⟩ (iI V.al)).setCell ⟨u,1,none⟩ (iI V.de)).setCell ⟨u,2,none⟩ (iI V.cp)).setCell ⟨u,3,none⟩ (iI V.cn)).setCell ⟨u,4,none⟩ (iI V.plan)).setCell ⟨u,5,none⟩ (iI V.wr)).setCell ⟨u,6,none⟩ (iI V.pr)).setCell ⟨u,7,none⟩ (iI V.deny))=WF at *;have Cy:Hid (WF.heap[u]?=some (.cells #[iI V.al,iI V.de,iI V.cp,iI V.cn,iI V.plan,iI V.wr,iI V.pr,iI V.deny] 45 (0,0))):=by rw [←Cg];exact Sh.BR HY5.out
        have HFr:Hid (∀k,k ≠ u->WF.heap[k]?=w5.heap[k]?):=by rw [←Cg];exact fun k hk=>oD hk _ _ _ _ _ _ _ _
        have HOt:Hid (Below 0 w5 WF):=by rw [←Cg];exact Sh.BP (Below.refl 0 w5) u (Nat.zero_le _) _ _ _ _ _ _ _ _
        clear Cg;obtain ⟨b0,b1,b2,b3,b4,b5,b6,b7⟩:=Sh.eight Cy.out;refine bodyPost_ret (v:=.tuple #[.agg #[iI V.al,iI V.de,iI V.cp,iI V.cn,iI V.plan,iI V.wr,iI V.pr,iI V.deny],iI OE]) (by simp [results,Tryz.results24,go_sem,b0,b1,b2,b3,b4,b5,b6,b7]) rfl ?_;exact GI HSw.out (fun k hk=>HFr.out k hk) HOt.out (by first|exact Nat.le_of_eq hp|omega) HQu.out HY5.out
end Ju
end Go.Proofs.YtfbfeoplldjbpaaGreatDoor
