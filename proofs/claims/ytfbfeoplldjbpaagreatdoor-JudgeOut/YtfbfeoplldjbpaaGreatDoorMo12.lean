/-
  Texts put together (merge.py): YRGet, YRAdd, YRoom, YRRoom.
-/
import Derived.Test.YtfbfeoplldjbpaaGreatDoorMo8
import Derived.Test.YtfbfeoplldjbpaaGreatDoorMo9
import Derived.Test.YtfbfeoplldjbpaaGreatDoorMo11
set_option linter.unusedSimpArgs false
set_option linter.unusedVariables false
set_option maxHeartbeats 16000000
set_option maxRecDepth 100000
section
namespace Go.Proofs.YtfbfeoplldjbpaaGreatDoor.Ac
open Go.RowKit
theorem JL (l:List Row) (wh:Tx) (f:Bool) (y:Int) (v:Value) (w:World) (h:cu All w v l) (hl:l.length<=100000) :
  Calls Tryz.prog 16 #[v,.string (mk wh),.bool f,.int .i64 y] w fun e w'=>e=.returned (rwv (pU l wh f y))/\Below w.heap.size w w':=by
 have hb1:=iU w (.cells #[.string ⟨#[]⟩,.bool false,.int .i64 0,.int .i64 0,.int .i64 0] TA)
 have HR:=Lib.hid (heap_alloc_new w (.cells #[.string ⟨#[]⟩,.bool false,.int .i64 0,.int .i64 0,.int .i64 0] TA))
 have HF:=Lib.hid (h.grw hb1)
 have HB:=Lib.hid hb1
 obtain ⟨fa,fk,rfl,hm1,hm2⟩:=h.form
 obtain ⟨G,HG⟩:∃G,Hid (pU l wh f y=G):=⟨_,(rfl:pU l wh f y=_)⟩
 have HG0:Hid (pU (l.drop 0) wh f y=G):=HG.out
 rw [HG.out]
 clear h hb1 HG
 go_enter Tryz.func16,Tryz.ntmps16
 go_upto_region 1 with fail
 generalize w.alloc (.cells #[.string ⟨#[]⟩,.bool false,.int .i64 0,.int .i64 0,.int .i64 0] TA)=W at *
 generalize hp:w.heap.size=p at *
 go_wp2
 go_loopg [9] (l.length) (fun g s9 wr=>∃k:Nat,s9=.int .i64 k/\k<=l.length/\l.length - k<=g/\wr=W/\Hid (pU (l.drop k) wh f y=G))
 case atStart=>exact ⟨0,rfl,Nat.zero_le _,by omega,rfl,HG0.out⟩
 case round =>
  obtain ⟨k,rfl,hk,hgk,hwr,HI⟩:=hrel
  rw [hwr]
  clear HG0 hwr wr
  by_cases hlt:k < l.length
  ·have hltz:(k:Int) < (l.length:Int):=by omega
   obtain ⟨b,oo,rfl,-,-,hc⟩:=cu.get HF.out k hlt
   have HI2:Hid (G=if hit wh f y l[k]=true then l[k] else pU (l.drop (k+1)) wh f y):=HI.out.symm.trans (by rw [List.drop_eq_getElem_cons hlt];rfl)
   obtain ⟨x,HX⟩:∃x,Hid (l[k]=x):=⟨l[k],(rfl:l[k]=l[k])⟩
   rw [HX.out] at HI2 hc
   obtain ⟨x0,x1,x2,x3,x4⟩:=hc
   clear HI HX
   have HE:=xH x.who wh
   by_cases c1:x.who=wh
   ·have q1:((mk x.who).toList == (mk wh).toList)=true:=by rw [HE];exact decide_eq_true c1
    have HI3:Hid (G=if x.fam=f/\x.year=y then x else pU (l.drop (k+1)) wh f y):=HI2.out.trans (by
     by_cases c:x.fam=f/\x.year=y
     ·rw [if_pos c,if_pos ((qN _ _ _ _).2 ⟨c1,c⟩)]
     ·rw [if_neg c,if_neg (fun e=>c ((qN _ _ _ _).1 e).2)])
    clear HI2 HE c1
    by_cases c2:x.fam=f
    ·have q2:(x.fam == f)=true:=by simp [c2]
     by_cases c3:x.year=y
     ·have q3:(x.year == y)=true:=by simp [c3]
      have hG:G=x:=HI3.out.trans (if_pos ⟨c2,c3⟩)
      clear HI3 c2 c3
      subst hG
      obtain ⟨r0,r1,r2,r3,r4⟩:=cells5 HR.out
      obtain ⟨t0,t1,t2,t3,t4⟩:=pO HR.out
      have HXF:Hid ((((((W.setCell ⟨p,0,none⟩ (.string (mk G.who))).setCell ⟨p,1,none⟩ (.bool G.fam)).setCell ⟨p,2,none⟩ (.int .i64 G.year)).setCell ⟨p,3,none⟩ (.int .i64 G.de)).setCell ⟨p,4,none⟩ (.int .i64 G.oo)).heap[p]?=some (.cells #[.string (mk G.who),.bool G.fam,.int .i64 G.year,.int .i64 G.de,.int .i64 G.oo] TA (0,0))):=BO HR.out
      have HBF:Hid (Below p w (((((W.setCell ⟨p,0,none⟩ (.string (mk G.who))).setCell ⟨p,1,none⟩ (.bool G.fam)).setCell ⟨p,2,none⟩ (.int .i64 G.year)).setCell ⟨p,3,none⟩ (.int .i64 G.de)).setCell ⟨p,4,none⟩ (.int .i64 G.oo))):=BN HB.out p (Nat.le_refl _) _ _ _ _ _
      go_wp2
      clear r0 r1 r2 r3 r4 t0 t1 t2 t3 t4 x0 x1 x2 x3 x4
      generalize (((((W.setCell ⟨p,0,none⟩ (.string (mk G.who))).setCell ⟨p,1,none⟩ (.bool G.fam)).setCell ⟨p,2,none⟩ (.int .i64 G.year)).setCell ⟨p,3,none⟩ (.int .i64 G.de)).setCell ⟨p,4,none⟩ (.int .i64 G.oo))=WF at *
      obtain ⟨r0,r1,r2,r3,r4⟩:=cells5 HXF.out
      refine bodyPost_ret (v:=rwv G) (by simp [results,Tryz.results16,go_sem,r0,r1,r2,r3,r4]) rfl ?_
      exact ⟨rfl,by first|exact HBF.out|(rw [hp];exact HBF.out)⟩
     ·have q3:(x.year == y)=false:=by simp [c3]
      have HI4:Hid (pU (l.drop (k+1)) wh f y=G):=(HI3.out.trans (if_neg fun c=>c3 c.2)).symm
      clear HI3 c2 c3
      go_wp2
      go_roundg (l.length - (k+1))
      case measure=>omega
      case rel=>exact ⟨k+1,by first|rfl|go_num|(congr 1;omega),by omega,by omega,rfl,HI4.out⟩
    ·have q2:(x.fam == f)=false:=by simp [c2]
     have HI4:Hid (pU (l.drop (k+1)) wh f y=G):=(HI3.out.trans (if_neg fun c=>c2 c.1)).symm
     clear HI3 c2
     go_wp2
     go_roundg (l.length - (k+1))
     case measure=>omega
     case rel=>exact ⟨k+1,by first|rfl|go_num|(congr 1;omega),by omega,by omega,rfl,HI4.out⟩
   ·have q1:((mk x.who).toList == (mk wh).toList)=false:=by rw [HE];exact decide_eq_false c1
    have HI4:Hid (pU (l.drop (k+1)) wh f y=G):=(HI2.out.trans (if_neg fun e=>c1 ((qN _ _ _ _).1 e).1)).symm
    clear HI2 HE c1
    go_wp2
    go_roundg (l.length - (k+1))
    case measure=>omega
    case rel=>exact ⟨k+1,by first|rfl|go_num|(congr 1;omega),by omega,by omega,rfl,HI4.out⟩
  ·have hltz:¬ (k:Int) < (l.length:Int):=by omega
   have hG:G=⟨wh,f,y,0,0⟩:=HI.out.symm.trans (by rw [List.drop_eq_nil_of_le (by omega)];rfl)
   clear HI
   subst hG
   obtain ⟨r0,r1,r2,r3,r4⟩:=cells5 HR.out
   obtain ⟨t0,t1,t2,t3,t4⟩:=pO HR.out
   have HXF:Hid ((((((W.setCell ⟨p,0,none⟩ (.string (mk wh))).setCell ⟨p,1,none⟩ (.bool f)).setCell ⟨p,2,none⟩ (.int .i64 y)).setCell ⟨p,3,none⟩ (.int .i64 0)).setCell ⟨p,4,none⟩ (.int .i64 0)).heap[p]?=some (.cells #[.string (mk wh),.bool f,.int .i64 y,.int .i64 0,.int .i64 0] TA (0,0))):=BO HR.out
   have HBF:Hid (Below p w (((((W.setCell ⟨p,0,none⟩ (.string (mk wh))).setCell ⟨p,1,none⟩ (.bool f)).setCell ⟨p,2,none⟩ (.int .i64 y)).setCell ⟨p,3,none⟩ (.int .i64 0)).setCell ⟨p,4,none⟩ (.int .i64 0))):=BN HB.out p (Nat.le_refl _) _ _ _ _ _
   go_wp2
   clear r0 r1 r2 r3 r4 t0 t1 t2 t3 t4
   generalize (((((W.setCell ⟨p,0,none⟩ (.string (mk wh))).setCell ⟨p,1,none⟩ (.bool f)).setCell ⟨p,2,none⟩ (.int .i64 y)).setCell ⟨p,3,none⟩ (.int .i64 0)).setCell ⟨p,4,none⟩ (.int .i64 0))=WF at *
   obtain ⟨r0,r1,r2,r3,r4⟩:=cells5 HXF.out
   refine bodyPost_ret (v:=.agg #[.string (mk wh),.bool f,.int .i64 y,.int .i64 0,.int .i64 0]) (by simp [results,Tryz.results16,go_sem,r0,r1,r2,r3,r4]) rfl ?_
   exact ⟨rfl,by first|exact HBF.out|(rw [hp];exact HBF.out)⟩
end Go.Proofs.YtfbfeoplldjbpaaGreatDoor.Ac
end
section
namespace Go.Proofs.YtfbfeoplldjbpaaGreatDoor.Ac
open Go.RowKit
end Go.Proofs.YtfbfeoplldjbpaaGreatDoor.Ac
end
section
namespace Go.Proofs.YtfbfeoplldjbpaaGreatDoor.Ac
open Go.RowKit
theorem six {w:World} {q:Nat} {a0 a1 a2 a3 a4 a5:Value} {T:TypeId} (h:w.heap[q]?=some (.cells #[a0,a1,a2,a3,a4,a5] T (0,0))):w.cell? ⟨q,0,none⟩=some a0/\w.cell? ⟨q,1,none⟩=some a1/\w.cell? ⟨q,2,none⟩=some a2/\w.cell? ⟨q,3,none⟩=some a3/\w.cell? ⟨q,4,none⟩=some a4/\w.cell? ⟨q,5,none⟩=some a5:=by
 refine ⟨?_,?_,?_,?_,?_,?_⟩<;>rw [cell_of_row w q _ _ T (0,0) h]<;>rfl
def In (a:Int):Prop:=0<=a/\a<=10000000000000
theorem Gs (m h:Int) (h1:In m) (h2:In h):Ce.Gm m h=left m h:=by
 obtain ⟨a,b⟩:=h1
 obtain ⟨c,d⟩:=h2
 have g1:Ce.good m=true:=(Ce.ql m).2 ⟨a,b⟩
 have g2:Ce.good h=true:=(Ce.ql h).2 ⟨c,d⟩
 unfold Ce.Gm left
 by_cases hc:m<=h
 ·rw [if_pos hc]
  by_cases he:h<=m
  ·simp [g1,g2,he];omega
  ·simp [g1,g2,he]
 ·rw [if_neg hc]
  have he:h<=m:=by omega
  simp [g1,g2,he]
theorem uT (m h:Int) (w:World) (h1:In m) (h2:In h):Calls Tryz.prog 130 #[.int .i64 m,.int .i64 h] w fun e w'=>e=.returned (.int .i64 (left m h))/\w'=w:=by
 rw [←Gs m h h1 h2]
 go_enter Tryz.func130,Tryz.ntmps130
 go_wp2_with (go_at_call 122;refine (Ce.Gp _ _ _).mono ?_;rintro e w' ⟨rfl,rfl⟩)
 go_ret
 exact ⟨rfl,rfl⟩
theorem xA (a b:Int):min a b=Sh.least a b:=by
 unfold Sh.least
 split<;>omega
theorem pY {l:List Row} (h:Ok l) (wh:Tx) (f:Bool) (y:Int):In (pU l wh f y).de/\In (pU l wh f y).oo:=by
 have:=qc h wh f y
 unfold In
 omega
theorem DV (md id fd io fo:Int) (ra:Option Addr) (rn rcp:Nat) (l:List Row) (m f:Tx) (y:Int) (v:Value) (w:World) (h:cu All w v l) (hl:l.length<=10000) (hO:Ok l) (i1:In id) (i2:In fd) (i3:In io) (i4:In fo) :
  Calls Tryz.prog 89 #[.agg #[.int .i64 md,.int .i64 id,.int .i64 fd,.int .i64 io,.int .i64 fo,.slice ra rn rcp],v,.string (mk m),.string (mk f),.int .i64 y] w fun e w'=>e=.returned (.tuple #[.int .i64 (DU md id fd (pU l m false y).de (pU l f true y).de),.int .i64 (DU md io fo (pU l m false y).oo (pU l f true y).oo)])/\Below w.heap.size w w':=by
 obtain ⟨fgd,fgo,hG⟩:=pV l f true y
 obtain ⟨mgd,mgo,hM⟩:=pV l m false y
 have a1:=pY hO f true y
 have a2:=pY hO m false y
 rw [hG] at a1
 rw [hM] at a2
 simp only at a1 a2
 have hb0:=iU w (.cells #[.int .i64 md,.int .i64 id,.int .i64 fd,.int .i64 io,.int .i64 fo,.slice ra rn rcp] 24)
 have HX:=Lib.hid (heap_alloc_new w (.cells #[.int .i64 md,.int .i64 id,.int .i64 fd,.int .i64 io,.int .i64 fo,.slice ra rn rcp] 24))
 have HB:=Lib.hid hb0
 have HGet:Hid (∀W,Below w.heap.size w W->Calls Tryz.prog 131 #[v,.string (mk f),.bool true,.int .i64 y] W fun e w'=>e=.returned (.agg #[.string (mk f),.bool true,.int .i64 y,.int .i64 fgd,.int .i64 fgo])/\Below W.heap.size W w'):=fun W hW=>by
  have hq:=get_any l f true y v W ((Em h).move (Below.yu hW)).all (by omega) hO.up
  rw [hG] at hq
  exact hq
 have HGem:Hid (∀W,Below w.heap.size w W->Calls Tryz.prog 131 #[v,.string (mk m),.bool false,.int .i64 y] W fun e w'=>e=.returned (.agg #[.string (mk m),.bool false,.int .i64 y,.int .i64 mgd,.int .i64 mgo])/\Below W.heap.size W w'):=fun W hW=>by
  have hq:=get_any l m false y v W ((Em h).move (Below.yu hW)).all (by omega) hO.up
  rw [hM] at hq
  exact hq
 have HL1:=Lib.hid fun W=>uT fd fgd W i2 a1.1
 have HL2:=Lib.hid fun W=>uT fo fgo W i4 a1.2
 have HL3:=Lib.hid fun W=>uT id mgd W i1 a2.1
 have HL4:=Lib.hid fun W=>uT io mgo W i3 a2.2
 rw [hG,hM]
 simp only
 obtain ⟨fa,fk,rfl,hm1,hm2⟩:=h.form
 have HV1:Hid (DU md id fd mgd fgd=if md=0 then Sh.least (left fd fgd) (left id mgd) else left fd fgd):=(rfl:DU md id fd mgd fgd=_)
 have HV2:Hid (DU md io fo mgo fgo=if md=0 then Sh.least (left fo fgo) (left io mgo) else left fo fgo):=(rfl:DU md io fo mgo fgo=_)
 generalize DU md id fd mgd fgd=V1 at *
 generalize DU md io fo mgo fgo=V2 at *
 generalize left fd fgd=L1 at *
 generalize left fo fgo=L2 at *
 generalize left id mgd=L3 at *
 generalize left io mgo=L4 at *
 clear h hO hG hM hb0 a1 a2 i1 i2 i3 i4
 go_enter Tryz.func89,Tryz.ntmps89
 go_upto_region 1 with fail
 generalize w.alloc (.cells #[.int .i64 md,.int .i64 id,.int .i64 fd,.int .i64 io,.int .i64 fo,.slice ra rn rcp] 24)=W at *
 generalize hp:w.heap.size=p at *
 go_wp2_with fail
 go_at_call 131
 refine (HGet.out W HB.out).mono ?_
 rintro e w1 ⟨rfl,hb1⟩
 have HX1:=Lib.hid (tV HX.out (jg hb1 (iU w1 (.cells #[.string (mk f),.bool true,.int .i64 y,.int .i64 fgd,.int .i64 fgo] TA))))
 have HZ1:=Lib.hid (heap_alloc_new w1 (.cells #[.string (mk f),.bool true,.int .i64 y,.int .i64 fgd,.int .i64 fgo] TA))
 have HB1:=Lib.hid (jf hp HB.out (jg hb1 (iU w1 (.cells #[.string (mk f),.bool true,.int .i64 y,.int .i64 fgd,.int .i64 fgo] TA))))
 clear hb1 HGet HX HB
 go_upto_region 3 with fail
 generalize w1.alloc (.cells #[.string (mk f),.bool true,.int .i64 y,.int .i64 fgd,.int .i64 fgo] TA)=W1 at *
 generalize w1.heap.size=q at *
 have HXK:=Lib.hid fun W' (hW:Below W1.heap.size W1 W')=>And.intro (six (tV HX1.out hW)) (cells5 (tV HZ1.out hW))
 have HD:=Lib.hid (Below.drew (Below.refl W1.heap.size W1))
 refine Ri.IY (by kernel_rfl) (by kernel_rfl) (by kernel_rfl) (fun Wx=>Below W1.heap.size W1 Wx) (fun kz vs wz=>(fun kx vx wx=>match kx with|0=>vx=.func (.func 130) #[] #[]|1=>vx=.pointer (some ⟨p,2,none⟩)|2=>vx=.int .i64 fd|3=>vx=.pointer (some ⟨q,3,none⟩)|4=>vx=.int .i64 fgd|5=>vx=.int .i64 L1|6=>vx=.func (.func 130) #[] #[]|7=>vx=.pointer (some ⟨p,4,none⟩)|8=>vx=.int .i64 fo|9=>vx=.pointer (some ⟨q,4,none⟩)|10=>vx=.int .i64 fgo|11=>vx=.int .i64 L2|12=>vx=.int .i64 L1|13=>vx=.int .i64 L2|_=>True:Nat->Value->World->Prop) kz (vs kz) wz) (fun kz=>[kz]) (by kernel_rfl) (fun jz vs iz vz wz hiz hz=>Ri.wI (F:=(fun kx vx wx=>match kx with|0=>vx=.func (.func 130) #[] #[]|1=>vx=.pointer (some ⟨p,2,none⟩)|2=>vx=.int .i64 fd|3=>vx=.pointer (some ⟨q,3,none⟩)|4=>vx=.int .i64 fgd|5=>vx=.int .i64 L1|6=>vx=.func (.func 130) #[] #[]|7=>vx=.pointer (some ⟨p,4,none⟩)|8=>vx=.int .i64 fo|9=>vx=.pointer (some ⟨q,4,none⟩)|10=>vx=.int .i64 fgo|11=>vx=.int .i64 L2|12=>vx=.int .i64 L1|13=>vx=.int .i64 L2|_=>True:Nat->Value->World->Prop)) jz vs iz vz wz hiz hz) HD.out ⟨⟨rfl,?_⟩,⟨rfl,?_⟩,⟨rfl,?_⟩,⟨rfl,?_⟩,⟨rfl,?_⟩,⟨rfl,?_⟩,⟨rfl,?_⟩,⟨rfl,?_⟩,⟨rfl,?_⟩,⟨rfl,?_⟩,⟨rfl,?_⟩,⟨rfl,?_⟩,⟨rfl,?_⟩,⟨rfl,?_⟩,trivial⟩ ?_
 ·intro vs Wx A hA hB hpre K hK
  have e12:=(hA 12).trans (show _=Value.func (.func 130) #[] #[] by kernel_rfl)
  clear hA hpre
  go_simp
  exact hK _ _ hB rfl (fun _ _ h=>h)
 ·intro vs Wx A hA hB hpre K hK
  have e5:=(hA 5).trans (show _=Value.pointer (some ⟨p,0,none⟩) by kernel_rfl)
  clear hA hpre
  go_simp
  exact hK _ _ hB rfl (fun _ _ h=>h)
 ·intro vs Wx A hA hB hpre K hK
  have e22:=((hA 22).trans (show _=vs 1 by kernel_rfl)).trans (hpre.1 rfl)
  obtain ⟨⟨x0,x1,x2,x3,x4,x5⟩,⟨y0,y1,y2,y3,y4⟩⟩:=HXK.out Wx hB
  clear hA hpre
  go_simp
  exact hK _ _ hB rfl (fun _ _ h=>h)
 ·intro vs Wx A hA hB hpre K hK
  have e13:=(hA 13).trans (show _=Value.pointer (some ⟨q,0,none⟩) by kernel_rfl)
  clear hA hpre
  go_simp
  exact hK _ _ hB rfl (fun _ _ h=>h)
 ·intro vs Wx A hA hB hpre K hK
  have e24:=((hA 24).trans (show _=vs 3 by kernel_rfl)).trans (hpre.1 rfl)
  obtain ⟨⟨x0,x1,x2,x3,x4,x5⟩,⟨y0,y1,y2,y3,y4⟩⟩:=HXK.out Wx hB
  clear hA hpre
  go_simp
  exact hK _ _ hB rfl (fun _ _ h=>h)
 ·intro vs Wx A hA hB hpre K hK
  have e21:=((hA 21).trans (show _=vs 0 by kernel_rfl)).trans (hpre.1 rfl)
  have e23:=((hA 23).trans (show _=vs 2 by kernel_rfl)).trans (hpre.2.1 rfl)
  have e25:=((hA 25).trans (show _=vs 4 by kernel_rfl)).trans (hpre.2.2.1 rfl)
  clear hA hpre
  go_simp
  go_at_call 130
  refine (HL1.out _).mono ?_
  rintro e w3 ⟨rfl,hw⟩
  rw [hw]
  exact hK _ _ hB rfl (fun _ _ h=>h)
 ·intro vs Wx A hA hB hpre K hK
  have e12:=(hA 12).trans (show _=Value.func (.func 130) #[] #[] by kernel_rfl)
  clear hA hpre
  go_simp
  exact hK _ _ hB rfl (fun _ _ h=>h)
 ·intro vs Wx A hA hB hpre K hK
  have e5:=(hA 5).trans (show _=Value.pointer (some ⟨p,0,none⟩) by kernel_rfl)
  clear hA hpre
  go_simp
  exact hK _ _ hB rfl (fun _ _ h=>h)
 ·intro vs Wx A hA hB hpre K hK
  have e28:=((hA 28).trans (show _=vs 7 by kernel_rfl)).trans (hpre.1 rfl)
  obtain ⟨⟨x0,x1,x2,x3,x4,x5⟩,⟨y0,y1,y2,y3,y4⟩⟩:=HXK.out Wx hB
  clear hA hpre
  go_simp
  exact hK _ _ hB rfl (fun _ _ h=>h)
 ·intro vs Wx A hA hB hpre K hK
  have e13:=(hA 13).trans (show _=Value.pointer (some ⟨q,0,none⟩) by kernel_rfl)
  clear hA hpre
  go_simp
  exact hK _ _ hB rfl (fun _ _ h=>h)
 ·intro vs Wx A hA hB hpre K hK
  have e30:=((hA 30).trans (show _=vs 9 by kernel_rfl)).trans (hpre.1 rfl)
  obtain ⟨⟨x0,x1,x2,x3,x4,x5⟩,⟨y0,y1,y2,y3,y4⟩⟩:=HXK.out Wx hB
  clear hA hpre
  go_simp
  exact hK _ _ hB rfl (fun _ _ h=>h)
 ·intro vs Wx A hA hB hpre K hK
  have e27:=((hA 27).trans (show _=vs 6 by kernel_rfl)).trans (hpre.1 rfl)
  have e29:=((hA 29).trans (show _=vs 8 by kernel_rfl)).trans (hpre.2.1 rfl)
  have e31:=((hA 31).trans (show _=vs 10 by kernel_rfl)).trans (hpre.2.2.1 rfl)
  clear hA hpre
  go_simp
  go_at_call 130
  refine (HL2.out _).mono ?_
  rintro e w3 ⟨rfl,hw⟩
  rw [hw]
  exact hK _ _ hB rfl (fun _ _ h=>h)
 ·intro vs Wx A hA hB hpre K hK
  have e26:=((hA 26).trans (show _=vs 5 by kernel_rfl)).trans (hpre.1 rfl)
  clear hA hpre
  go_simp
  exact hK _ _ hB rfl (fun _ _ h=>h)
 ·intro vs Wx A hA hB hpre K hK
  have e32:=((hA 32).trans (show _=vs 11 by kernel_rfl)).trans (hpre.1 rfl)
  clear hA hpre
  go_simp
  exact hK _ _ hB rfl (fun _ _ h=>h)
 ·intro vs Wx hB hF
  have hL1:vs 12=.int .i64 L1:=hF 12 (by decide)
  have hL2:vs 13=.int .i64 L2:=hF 13 (by decide)
  have HB2:=Lib.hid (jf hp HB1.out hB)
  have HX2:=Lib.hid (tV HX1.out hB)
  clear hF hB HXK HD HX1 HZ1 HB1 HL1 HL2
  simp only [Ri.puts]
  rw [hL1,hL2]
  clear hL1 hL2
  obtain ⟨x0,x1,x2,x3,x4,x5⟩:=six HX2.out
  go_simp
  by_cases h0:md=0
  ·have n0:(md != 0)=false:=by simp [h0]
   have HV3:Hid (V1=Sh.least L1 L3):=HV1.out.trans (if_pos h0)
   have HV4:Hid (V2=Sh.least L2 L4):=HV2.out.trans (if_pos h0)
   clear HV1 HV2 h0
   go_wp2_with fail
   go_at_call 131
   refine (HGem.out Wx HB2.out).mono ?_
   rintro e w3 ⟨rfl,hb3⟩
   have HX3:=Lib.hid (tV HX2.out (jg hb3 (iU w3 (.cells #[.string (mk m),.bool false,.int .i64 y,.int .i64 mgd,.int .i64 mgo] TA))))
   have HZ3:=Lib.hid (heap_alloc_new w3 (.cells #[.string (mk m),.bool false,.int .i64 y,.int .i64 mgd,.int .i64 mgo] TA))
   have HB3:=Lib.hid (jf hp HB2.out (jg hb3 (iU w3 (.cells #[.string (mk m),.bool false,.int .i64 y,.int .i64 mgd,.int .i64 mgo] TA))))
   clear hb3 HGem HX2 HB2 x0 x1 x2 x3 x4 x5
   go_upto_region 7 with fail
   generalize w3.alloc (.cells #[.string (mk m),.bool false,.int .i64 y,.int .i64 mgd,.int .i64 mgo] TA)=W3 at *
   generalize w3.heap.size=r at *
   have HXK:=Lib.hid fun W' (hW:Below W3.heap.size W3 W')=>And.intro (six (tV HX3.out hW)) (cells5 (tV HZ3.out hW))
   have HD:=Lib.hid (Below.drew (Below.refl W3.heap.size W3))
   have hmn1:min L1 L3=Sh.least L1 L3:=xA L1 L3
   have hmn2:min L2 L4=Sh.least L2 L4:=xA L2 L4
   generalize Sh.least L1 L3=M1 at *
   generalize Sh.least L2 L4=M2 at *
   refine Ri.IY (by kernel_rfl) (by kernel_rfl) (by kernel_rfl) (fun Wx=>Below W3.heap.size W3 Wx) (fun kz vs wz=>(fun kx vx wx=>match kx with|0=>vx=.int .i64 L1|1=>vx=.func (.func 130) #[] #[]|2=>vx=.pointer (some ⟨p,1,none⟩)|3=>vx=.int .i64 id|4=>vx=.pointer (some ⟨r,3,none⟩)|5=>vx=.int .i64 mgd|6=>vx=.int .i64 L3|7=>vx=.int .i64 M1|8=>vx=.int .i64 L2|9=>vx=.func (.func 130) #[] #[]|10=>vx=.pointer (some ⟨p,3,none⟩)|11=>vx=.int .i64 io|12=>vx=.pointer (some ⟨r,4,none⟩)|13=>vx=.int .i64 mgo|14=>vx=.int .i64 L4|15=>vx=.int .i64 M2|16=>vx=.int .i64 M1|17=>vx=.int .i64 M2|_=>True:Nat->Value->World->Prop) kz (vs kz) wz) (fun kz=>[kz]) (by kernel_rfl) (fun jz vs iz vz wz hiz hz=>Ri.wI (F:=(fun kx vx wx=>match kx with|0=>vx=.int .i64 L1|1=>vx=.func (.func 130) #[] #[]|2=>vx=.pointer (some ⟨p,1,none⟩)|3=>vx=.int .i64 id|4=>vx=.pointer (some ⟨r,3,none⟩)|5=>vx=.int .i64 mgd|6=>vx=.int .i64 L3|7=>vx=.int .i64 M1|8=>vx=.int .i64 L2|9=>vx=.func (.func 130) #[] #[]|10=>vx=.pointer (some ⟨p,3,none⟩)|11=>vx=.int .i64 io|12=>vx=.pointer (some ⟨r,4,none⟩)|13=>vx=.int .i64 mgo|14=>vx=.int .i64 L4|15=>vx=.int .i64 M2|16=>vx=.int .i64 M1|17=>vx=.int .i64 M2|_=>True:Nat->Value->World->Prop)) jz vs iz vz wz hiz hz) HD.out ⟨⟨rfl,?_⟩,⟨rfl,?_⟩,⟨rfl,?_⟩,⟨rfl,?_⟩,⟨rfl,?_⟩,⟨rfl,?_⟩,⟨rfl,?_⟩,⟨rfl,?_⟩,⟨rfl,?_⟩,⟨rfl,?_⟩,⟨rfl,?_⟩,⟨rfl,?_⟩,⟨rfl,?_⟩,⟨rfl,?_⟩,⟨rfl,?_⟩,⟨rfl,?_⟩,⟨rfl,?_⟩,⟨rfl,?_⟩,trivial⟩ ?_
   ·intro vs Wx A hA hB hpre K hK
    have e14:=(hA 14).trans (show _=Value.int .i64 L1 by kernel_rfl)
    clear hA hpre
    go_simp
    exact hK _ _ hB rfl (fun _ _ h=>h)
   ·intro vs Wx A hA hB hpre K hK
    have e12:=(hA 12).trans (show _=Value.func (.func 130) #[] #[] by kernel_rfl)
    clear hA hpre
    go_simp
    exact hK _ _ hB rfl (fun _ _ h=>h)
   ·intro vs Wx A hA hB hpre K hK
    have e5:=(hA 5).trans (show _=Value.pointer (some ⟨p,0,none⟩) by kernel_rfl)
    clear hA hpre
    go_simp
    exact hK _ _ hB rfl (fun _ _ h=>h)
   ·intro vs Wx A hA hB hpre K hK
    have e44:=((hA 44).trans (show _=vs 2 by kernel_rfl)).trans (hpre.1 rfl)
    obtain ⟨⟨x0,x1,x2,x3,x4,x5⟩,⟨y0,y1,y2,y3,y4⟩⟩:=HXK.out Wx hB
    clear hA hpre
    go_simp
    exact hK _ _ hB rfl (fun _ _ h=>h)
   ·intro vs Wx A hA hB hpre K hK
    have e16:=(hA 16).trans (show _=Value.pointer (some ⟨r,0,none⟩) by kernel_rfl)
    clear hA hpre
    go_simp
    exact hK _ _ hB rfl (fun _ _ h=>h)
   ·intro vs Wx A hA hB hpre K hK
    have e46:=((hA 46).trans (show _=vs 4 by kernel_rfl)).trans (hpre.1 rfl)
    obtain ⟨⟨x0,x1,x2,x3,x4,x5⟩,⟨y0,y1,y2,y3,y4⟩⟩:=HXK.out Wx hB
    clear hA hpre
    go_simp
    exact hK _ _ hB rfl (fun _ _ h=>h)
   ·intro vs Wx A hA hB hpre K hK
    have e43:=((hA 43).trans (show _=vs 1 by kernel_rfl)).trans (hpre.1 rfl)
    have e45:=((hA 45).trans (show _=vs 3 by kernel_rfl)).trans (hpre.2.1 rfl)
    have e47:=((hA 47).trans (show _=vs 5 by kernel_rfl)).trans (hpre.2.2.1 rfl)
    clear hA hpre
    go_simp
    go_at_call 130
    refine (HL3.out _).mono ?_
    rintro e w3 ⟨rfl,hw⟩
    rw [hw]
    exact hK _ _ hB rfl (fun _ _ h=>h)
   ·intro vs Wx A hA hB hpre K hK
    have e42:=((hA 42).trans (show _=vs 0 by kernel_rfl)).trans (hpre.1 rfl)
    have e48:=((hA 48).trans (show _=vs 6 by kernel_rfl)).trans (hpre.2.1 rfl)
    clear hA hpre
    go_simp
    exact hK _ _ hB rfl (fun _ _ h=>h)
   ·intro vs Wx A hA hB hpre K hK
    have e15:=(hA 15).trans (show _=Value.int .i64 L2 by kernel_rfl)
    clear hA hpre
    go_simp
    exact hK _ _ hB rfl (fun _ _ h=>h)
   ·intro vs Wx A hA hB hpre K hK
    have e12:=(hA 12).trans (show _=Value.func (.func 130) #[] #[] by kernel_rfl)
    clear hA hpre
    go_simp
    exact hK _ _ hB rfl (fun _ _ h=>h)
   ·intro vs Wx A hA hB hpre K hK
    have e5:=(hA 5).trans (show _=Value.pointer (some ⟨p,0,none⟩) by kernel_rfl)
    clear hA hpre
    go_simp
    exact hK _ _ hB rfl (fun _ _ h=>h)
   ·intro vs Wx A hA hB hpre K hK
    have e52:=((hA 52).trans (show _=vs 10 by kernel_rfl)).trans (hpre.1 rfl)
    obtain ⟨⟨x0,x1,x2,x3,x4,x5⟩,⟨y0,y1,y2,y3,y4⟩⟩:=HXK.out Wx hB
    clear hA hpre
    go_simp
    exact hK _ _ hB rfl (fun _ _ h=>h)
   ·intro vs Wx A hA hB hpre K hK
    have e16:=(hA 16).trans (show _=Value.pointer (some ⟨r,0,none⟩) by kernel_rfl)
    clear hA hpre
    go_simp
    exact hK _ _ hB rfl (fun _ _ h=>h)
   ·intro vs Wx A hA hB hpre K hK
    have e54:=((hA 54).trans (show _=vs 12 by kernel_rfl)).trans (hpre.1 rfl)
    obtain ⟨⟨x0,x1,x2,x3,x4,x5⟩,⟨y0,y1,y2,y3,y4⟩⟩:=HXK.out Wx hB
    clear hA hpre
    go_simp
    exact hK _ _ hB rfl (fun _ _ h=>h)
   ·intro vs Wx A hA hB hpre K hK
    have e51:=((hA 51).trans (show _=vs 9 by kernel_rfl)).trans (hpre.1 rfl)
    have e53:=((hA 53).trans (show _=vs 11 by kernel_rfl)).trans (hpre.2.1 rfl)
    have e55:=((hA 55).trans (show _=vs 13 by kernel_rfl)).trans (hpre.2.2.1 rfl)
    clear hA hpre
    go_simp
    go_at_call 130
    refine (HL4.out _).mono ?_
    rintro e w3 ⟨rfl,hw⟩
    rw [hw]
    exact hK _ _ hB rfl (fun _ _ h=>h)
   ·intro vs Wx A hA hB hpre K hK
    have e50:=((hA 50).trans (show _=vs 8 by kernel_rfl)).trans (hpre.1 rfl)
    have e56:=((hA 56).trans (show _=vs 14 by kernel_rfl)).trans (hpre.2.1 rfl)
    clear hA hpre
    go_simp
    exact hK _ _ hB rfl (fun _ _ h=>h)
   ·intro vs Wx A hA hB hpre K hK
    have e49:=((hA 49).trans (show _=vs 7 by kernel_rfl)).trans (hpre.1 rfl)
    clear hA hpre
    go_simp
    exact hK _ _ hB rfl (fun _ _ h=>h)
   ·intro vs Wx A hA hB hpre K hK
    have e57:=((hA 57).trans (show _=vs 15 by kernel_rfl)).trans (hpre.1 rfl)
    clear hA hpre
    go_simp
    exact hK _ _ hB rfl (fun _ _ h=>h)
   ·intro vs Wy hB hF
    have hL1:vs 16=.int .i64 M1:=hF 16 (by decide)
    have hL2:vs 17=.int .i64 M2:=hF 17 (by decide)
    have HB4:=Lib.hid (jf hp HB3.out hB)
    clear hF hB
    simp only [Ri.puts]
    rw [hL1,hL2]
    clear hL1 hL2
    go_simp
    go_wp2_with fail
    go_ret2
    exact ⟨by first|(rw [HV3.out,HV4.out];done)|(rw [HV3.out,HV4.out];rfl),by first|exact HB4.out|(rw [hp];exact HB4.out)⟩
  ·have n0:(md != 0)=true:=by simp [h0]
   have HV3:Hid (V1=L1):=HV1.out.trans (if_neg h0)
   have HV4:Hid (V2=L2):=HV2.out.trans (if_neg h0)
   clear HV1 HV2 h0
   go_wp2
   go_ret2
   exact ⟨by first|(rw [HV3.out,HV4.out];done)|(rw [HV3.out,HV4.out];rfl),by first|exact HB2.out|(rw [hp];exact HB2.out)⟩
end Go.Proofs.YtfbfeoplldjbpaaGreatDoor.Ac
end
section
namespace Go.Proofs.YtfbfeoplldjbpaaGreatDoor.Ac
open Go.RowKit
open Sh (Ot member)
end Go.Proofs.YtfbfeoplldjbpaaGreatDoor.Ac
end
