/-
  Texts put together (merge.py): PMem, PCode, PChk, PChc, PRCk.
-/
import Derived.Lib.Hide
import Derived.Deep.DeepCutAuto
import Derived.BigQuiet
import Derived.Deep.LoopGhost
import Derived.Deep.RegionHeld3
import Derived.WalkLawsBesides
import Derived.Deep.CutBlock
import Derived.Test.YtfbfeoplldjbpaaGreatDoorMo3
import Derived.Test.YtfbfeoplldjbpaaGreatDoorMo11
set_option linter.unusedSimpArgs false
set_option linter.unusedVariables false
set_option maxHeartbeats 16000000
set_option maxRecDepth 100000
section
namespace Go.Proofs.YtfbfeoplldjbpaaGreatDoor.Pl
open Go.RowKit
abbrev Big:Nat:=281474976710656
def Ok1 (c:Cd):Prop:=Cm.I64 c.kind/\Cm.I64 c.n/\c.lo.length<=Big/\c.hi.length<=Big/\c.kids.length<=Big
abbrev cdv (c:Cd) (m:Value):Value:=.agg #[.int .i64 c.kind,.string (mk c.lo),.string (mk c.hi),.int .i64 c.n,m]
abbrev stv (s:St):Value:=.agg #[.int .i64 s.what,.int .i64 s.n]
abbrev ruv (r:Ru) (k u s:Value):Value:=.agg #[.int .i64 r.rank,.int .i64 r.cif.kind,.string (mk r.cif.lo),.string (mk r.cif.hi),.int .i64 r.cif.n,k,u,s]
abbrev pnv (p:Pn) (m:Value):Value:=.agg #[.int .i64 p.mode,.int .i64 p.indDed,.int .i64 p.famDed,.int .i64 p.indOop,.int .i64 p.famOop,m]
def aj (w:World) (b o:Nat) (c:Cd) (m:Value):Prop:=
 w.cell? ⟨b,o,none⟩=some (.int .i64 c.kind)/\w.cell? ⟨b,o+1,none⟩=some (.string (mk c.lo))/\w.cell? ⟨b,o+2,none⟩=some (.string (mk c.hi))/\w.cell? ⟨b,o+3,none⟩=some (.int .i64 c.n)/\w.cell? ⟨b,o+4,none⟩=some m
def aY (K:Nat->Prop) (w:World) (P:Value->List Cd->Prop) (v:Value) (ks:List Cd):Prop:=
 ∃(a:Option Addr) (c:Nat) (M:Nat->Value),v=.slice a ks.length c/\ks.length<=c/\c<=maxLen/\(∀x ∈ ks,Ok1 x) ∧
  (ks=[] ∨ ∃b o,a=some ⟨b,o,none⟩/\K b/\b < w.heap.size/\∀(j:Nat) x,ks[j]?=some x->aj w b (o+j * 5) x (M j)) ∧
  ∀(j:Nat) x,ks[j]?=some x->P (M j) x.kids
def aX (K:Nat->Prop) (w:World) (v:Value) (ks:List Cd):Prop:=
 ∀P:Value->List Cd->Prop,(∀v ks,aY K w P v ks->P v ks)->P v ks
theorem aX.mk {K:Nat->Prop} {w:World} {v:Value} {ks:List Cd} (a:Option Addr) (c:Nat) (M:Nat->Value) (hv:v=.slice a ks.length c) (hc:ks.length<=c) (hm:c<=maxLen)
  (hok:∀x ∈ ks,Ok1 x) (hcells:ks=[] ∨ ∃b o,a=some ⟨b,o,none⟩/\K b/\b < w.heap.size/\∀(j:Nat) x,ks[j]?=some x->aj w b (o+j * 5) x (M j))
  (hkids:∀(j:Nat) x,ks[j]?=some x->aX K w (M j) x.kids):aX K w v ks:=
 fun P h=>h v ks ⟨a,c,M,hv,hc,hm,hok,hcells,fun j x hj=>hkids j x hj P h⟩
theorem aX.opened {K:Nat->Prop} {w:World} {v:Value} {ks:List Cd} (h:aX K w v ks):aY K w (aX K w) v ks:=by
 refine h (aY K w (aX K w)) ?_
 rintro v ks ⟨a,c,M,hv,hc,hm,hok,hcells,hk⟩
 refine ⟨a,c,M,hv,hc,hm,hok,hcells,fun j x hj=>?_⟩
 obtain ⟨a',c',M',hv',hc',hm',hok',hcells',hk'⟩:=hk j x hj
 exact aX.mk a' c' M' hv' hc' hm' hok' hcells' hk'
theorem aj.of {w w':World} {b o:Nat} {x:Cd} {m:Value} (h:aj w b o x m) (he:w'.heap[b]?=w.heap[b]?):aj w' b o x m:=by
 obtain ⟨h0,h1,h2,h3,h4⟩:=h
 refine ⟨?_,?_,?_,?_,?_⟩<;>rw [World.cell?_of_block (w:=w) he]<;>assumption
theorem aX.move {K K':Nat->Prop} {w w':World} {v:Value} {ks:List Cd} (h:aX K w v ks) (hm:Moves K K' w w'):aX K' w' v ks:=by
 refine h (aX K' w') ?_
 rintro v ks ⟨a,c,M,hv,hc,hx,hok,hcells,ih⟩
 refine aX.mk a c M hv hc hx hok (hcells.imp id ?_) ih
 rintro ⟨b,o,rfl,hk,hb,hcc⟩
 obtain ⟨k',hh⟩:=hm.2 b hb hk
 exact ⟨b,o,rfl,k',Nat.lt_of_lt_of_le hb hm.1,fun j x hj=>(hcc j x hj).of hh⟩
theorem aX.nil (K:Nat->Prop) (w:World):aX K w (.slice none 0 0) []:=aX.mk none 0 (fun _=>.slice none 0 0) rfl (by simp) (by simp [maxLen]) (by simp) (Or.inl rfl) (by simp)
theorem aX.form {K:Nat->Prop} {w:World} {v:Value} {ks:List Cd} (h:aX K w v ks):∃a c,v=.slice a ks.length c/\ks.length<=c/\c<=9223372036854775807:=by
 obtain ⟨a,c,M,rfl,h1,h2,_⟩:=h.opened
 exact ⟨a,c,rfl,h1,by unfold maxLen at h2;exact h2⟩
theorem aX.get {K:Nat->Prop} {w:World} {a:Option Addr} {n c:Nat} {ks:List Cd} (h:aX K w (.slice a n c) ks) (k:Nat) (hk:k < ks.length) :
  ∃b o m,a=some ⟨b,o,none⟩/\b < w.heap.size/\ks[k]?=some ks[k]/\aj w b (o+k * 5) ks[k] m/\aX K w m ks[k].kids/\Ok1 ks[k]:=by
 obtain ⟨a',c',M,he,h1,h2,hok,h3,h4⟩:=h.opened
 have ha:a=a':=by injection he
 subst ha
 rcases h3 with h|⟨b,o,ha,_,hb,hc⟩
 ·subst h;simp at hk
 ·have hx:=List.getElem?_eq_getElem hk
  exact ⟨b,o,M k,ha,hb,hx,hc k _ hx,h4 k _ hx,hok _ (List.getElem_mem hk)⟩
def dD (K:Nat->Prop) (w:World) (v:Value) (ss:List St):Prop:=
 ∃a c,v=.slice a ss.length c/\ss.length<=c/\c<=maxLen/\ss.length<=Big/\(∀x ∈ ss,Cm.I64 x.what/\Cm.I64 x.n)/\(ss=[] ∨ ∃b o,a=some ⟨b,o,none⟩/\K b/\b < w.heap.size/\∀(j:Nat) x,ss[j]?=some x->w.cell? ⟨b,o+j * 2,none⟩=some (.int .i64 x.what)/\w.cell? ⟨b,o+j * 2+1,none⟩=some (.int .i64 x.n))
theorem dD.move {K K':Nat->Prop} {w w':World} {v:Value} {ss:List St} (h:dD K w v ss) (hm:Moves K K' w w'):dD K' w' v ss:=by
 obtain ⟨a,c,rfl,h1,h2,h4,h5,h3⟩:=h
 refine ⟨a,c,rfl,h1,h2,h4,h5,h3.imp id ?_⟩
 rintro ⟨b,o,rfl,hk,hb,hc⟩
 obtain ⟨k',hh⟩:=hm.2 b hb hk
 refine ⟨b,o,rfl,k',Nat.lt_of_lt_of_le hb hm.1,fun j x hj=>?_⟩
 obtain ⟨q1,q2⟩:=hc j x hj
 exact ⟨by rw [World.cell?_of_block (w:=w) hh];exact q1,by rw [World.cell?_of_block (w:=w) hh];exact q2⟩
theorem dD.nil (K:Nat->Prop) (w:World):dD K w (.slice none 0 0) []:=⟨none,0,rfl,by simp,by simp [maxLen],by simp,by simp,Or.inl rfl⟩
theorem dD.form {K:Nat->Prop} {w:World} {v:Value} {ss:List St} (h:dD K w v ss):∃a c,v=.slice a ss.length c/\ss.length<=c/\c<=9223372036854775807/\ss.length<=Big:=by
 obtain ⟨a,c,rfl,h1,h2,h3,_⟩:=h
 exact ⟨a,c,rfl,h1,by unfold maxLen at h2;exact h2,h3⟩
theorem dD.get {K:Nat->Prop} {w:World} {a:Option Addr} {n c:Nat} {ss:List St} (h:dD K w (.slice a n c) ss) (k:Nat) (hk:k < ss.length) :
  ∃b o,a=some ⟨b,o,none⟩/\b < w.heap.size/\ss[k]?=some ss[k]/\w.cell? ⟨b,o+k * 2,none⟩=some (.int .i64 ss[k].what)/\w.cell? ⟨b,o+k * 2+1,none⟩=some (.int .i64 ss[k].n)/\Cm.I64 ss[k].what/\Cm.I64 ss[k].n:=by
 obtain ⟨a',c',he,h1,h2,_,hok,h3⟩:=h
 have ha:a=a':=by injection he
 subst ha
 rcases h3 with h|⟨b,o,ha,_,hb,hc⟩
 ·subst h;simp at hk
 ·have hx:=List.getElem?_eq_getElem hk
  obtain ⟨q1,q2⟩:=hc k _ hx
  have:=hok _ (List.getElem_mem hk)
  exact ⟨b,o,ha,hb,hx,q1,q2,this.1,this.2⟩
def bV (w:World) (b o:Nat) (r:Ru) (k u s:Value):Prop:=
 w.cell? ⟨b,o,none⟩=some (.int .i64 r.rank)/\w.cell? ⟨b,o+1,none⟩=some (.int .i64 r.cif.kind)/\w.cell? ⟨b,o+2,none⟩=some (.string (mk r.cif.lo))/\w.cell? ⟨b,o+3,none⟩=some (.string (mk r.cif.hi))/\w.cell? ⟨b,o+4,none⟩=some (.int .i64 r.cif.n)/\w.cell? ⟨b,o+5,none⟩=some k/\w.cell? ⟨b,o+6,none⟩=some u/\w.cell? ⟨b,o+7,none⟩=some s
theorem bV.of {w w':World} {b o:Nat} {x:Ru} {k u s:Value} (h:bV w b o x k u s) (he:w'.heap[b]?=w.heap[b]?):bV w' b o x k u s:=by
 obtain ⟨h0,h1,h2,h3,h4,h5,h6,h7⟩:=h
 refine ⟨?_,?_,?_,?_,?_,?_,?_,?_⟩<;>rw [World.cell?_of_block (w:=w) he]<;>assumption
def bW (K:Nat->Prop) (w:World) (r:Ru) (k u s:Value):Prop:=Cm.I64 r.rank/\Ok1 r.cif/\r.unl.length<=Big/\aX K w k r.cif.kids/\aX K w u r.unl/\dD K w s r.sets
theorem bW.move {K K':Nat->Prop} {w w':World} {r:Ru} {k u s:Value} (h:bW K w r k u s) (hm:Moves K K' w w'):bW K' w' r k u s:=
 ⟨h.1,h.2.1,h.2.2.1,h.2.2.2.1.move hm,h.2.2.2.2.1.move hm,h.2.2.2.2.2.move hm⟩
def bY (K:Nat->Prop) (w:World) (v:Value) (rs:List Ru):Prop:=
 ∃a c,v=.slice a rs.length c/\rs.length<=c/\c<=maxLen/\rs.length<=Big/\(rs=[] ∨ ∃b o,a=some ⟨b,o,none⟩/\K b/\b < w.heap.size/\∀(j:Nat) x,rs[j]?=some x->∃k u s,bV w b (o+j * 8) x k u s/\bW K w x k u s)
theorem bY.move {K K':Nat->Prop} {w w':World} {v:Value} {rs:List Ru} (h:bY K w v rs) (hm:Moves K K' w w'):bY K' w' v rs:=by
 obtain ⟨a,c,rfl,h1,h2,h4,h3⟩:=h
 refine ⟨a,c,rfl,h1,h2,h4,h3.imp id ?_⟩
 rintro ⟨b,o,rfl,hk,hb,hc⟩
 obtain ⟨k',hh⟩:=hm.2 b hb hk
 refine ⟨b,o,rfl,k',Nat.lt_of_lt_of_le hb hm.1,fun j x hj=>?_⟩
 obtain ⟨k,u,s,q1,q2⟩:=hc j x hj
 exact ⟨k,u,s,q1.of hh,q2.move hm⟩
theorem bY.nil (K:Nat->Prop) (w:World):bY K w (.slice none 0 0) []:=⟨none,0,rfl,by simp,by simp [maxLen],by simp,Or.inl rfl⟩
theorem bY.form {K:Nat->Prop} {w:World} {v:Value} {rs:List Ru} (h:bY K w v rs):∃a c,v=.slice a rs.length c/\rs.length<=c/\c<=9223372036854775807/\rs.length<=Big:=by
 obtain ⟨a,c,rfl,h1,h2,h3,_⟩:=h
 exact ⟨a,c,rfl,h1,by unfold maxLen at h2;exact h2,h3⟩
theorem bY.get {K:Nat->Prop} {w:World} {a:Option Addr} {n c:Nat} {rs:List Ru} (h:bY K w (.slice a n c) rs) (k:Nat) (hk:k < rs.length) :
  ∃b o q u s,a=some ⟨b,o,none⟩/\b < w.heap.size/\rs[k]?=some rs[k]/\bV w b (o+k * 8) rs[k] q u s/\bW K w rs[k] q u s:=by
 obtain ⟨a',c',he,h1,h2,_,h3⟩:=h
 have ha:a=a':=by injection he
 subst ha
 rcases h3 with h|⟨b,o,ha,_,hb,hc⟩
 ·subst h;simp at hk
 ·have hx:=List.getElem?_eq_getElem hk
  obtain ⟨q,u,s,q1,q2⟩:=hc k _ hx
  exact ⟨b,o,q,u,s,ha,hb,hx,q1,q2⟩
def bQ (p:Pn):Prop:=Cm.I64 p.mode/\Cm.I64 p.indDed/\Cm.I64 p.famDed/\Cm.I64 p.indOop/\Cm.I64 p.famOop
theorem iU (w:World) (o:Obj):Below w.heap.size w (w.alloc o):=(Below.refl _ w).alloc (Nat.le_refl _) o
theorem jg {a b c:World} (h:Below a.heap.size a b) (k:Below b.heap.size b c):Below a.heap.size a c:=h.trans (k.mono h.size)
theorem aX.grw {w w':World} {v:Value} {ks:List Cd} (h:aX All w v ks) (hb:Below w.heap.size w w'):aX All w' v ks:=h.move (Below.moves hb)
theorem dD.grw {w w':World} {v:Value} {ks:List St} (h:dD All w v ks) (hb:Below w.heap.size w w'):dD All w' v ks:=h.move (Below.moves hb)
theorem bY.grw {w w':World} {v:Value} {ks:List Ru} (h:bY All w v ks) (hb:Below w.heap.size w w'):bY All w' v ks:=h.move (Below.moves hb)
end Go.Proofs.YtfbfeoplldjbpaaGreatDoor.Pl
end
section
namespace Go.Proofs.YtfbfeoplldjbpaaGreatDoor.Cm
open Go.RowKit
end Go.Proofs.YtfbfeoplldjbpaaGreatDoor.Cm
end
section
namespace Go.Proofs.YtfbfeoplldjbpaaGreatDoor.Pl
open Go.RowKit
open Wo (Wd jI jQ tV qL)
theorem oq (x t:Tx):((mk x).toList == t)=decide (x=t):=by
 rw [Lib.toList_data,xI,Bool.eq_iff_iff]
 simp
theorem BH (s:Tx) (w:World) (hs:s.length<=9223372036854775807) :
  Calls Tryz.prog 160 #[.string (mk s)] w fun e w'=>e=.returned (.bool (Cm.lM s 5 5))/\w'=w:=by
 have HC:=Lib.hid fun w=>Cm.lN s 5 5 w hs
 generalize Cm.lM s 5 5=R at *
 go_enter Tryz.func160,Tryz.ntmps160
 go_wp2_with (go_at_call 116;refine (HC.out _).mono ?_;rintro e w' ⟨rfl,rfl⟩)
 go_ret
 exact ⟨rfl,rfl⟩
theorem xP (s:Tx) (w:World) (hs:s.length<=9223372036854775807) :
  Calls Tryz.prog 161 #[.string (mk s)] w fun e w'=>e=.returned (.bool (Cm.lM s 2 2))/\w'=w:=by
 have HC:=Lib.hid fun w=>Cm.lN s 2 2 w hs
 generalize Cm.lM s 2 2=R at *
 go_enter Tryz.func161,Tryz.ntmps161
 go_wp2_with (go_at_call 116;refine (HC.out _).mono ?_;rintro e w' ⟨rfl,rfl⟩)
 go_ret
 exact ⟨rfl,rfl⟩
theorem uI (k:Int) (w:World) :
  Calls Tryz.prog 140 #[.int .i64 k] w fun e w'=>e=.returned (.int .i64 (uD k:Nat))/\w'=w:=by
 by_cases h6:k=6
 ·subst h6
  go_enter Tryz.func140,Tryz.ntmps140
  go_wp2
  go_ret
  exact ⟨rfl,rfl⟩
 by_cases h7:k=7
 ·subst h7
  go_enter Tryz.func140,Tryz.ntmps140
  go_wp2
  go_ret
  exact ⟨rfl,rfl⟩
 by_cases h8:k=8
 ·subst h8
  go_enter Tryz.func140,Tryz.ntmps140
  go_wp2
  go_ret
  exact ⟨rfl,rfl⟩
 have HK:Hid (uD k=0):=by show _=_;unfold uD;rw [if_neg h6,if_neg (by omega)]
 have b6:(k == 6)=false:=by simpa using h6
 have b7:(k == 7)=false:=by simpa using h7
 have b8:(k == 8)=false:=by simpa using h8
 clear h6 h7 h8
 go_enter Tryz.func140,Tryz.ntmps140
 go_wp2
 go_ret
 exact ⟨by rw [HK.out];rfl,rfl⟩
theorem qj (n:Int) (w:World):Calls Tryz.prog 76 #[.int .i64 n] w fun e w'=>e=.returned (.bool (qg n))/\w'=w:=Ce.qh n w
theorem fields1 (lo hi:Tx) (n:Int) (m:Value) (w:World) (hlo:lo.length<=Big) (hhi:hi.length<=Big) :
  Calls Tryz.prog 141 #[.agg #[.int .i64 1,.string (mk lo),.string (mk hi),.int .i64 n,m]] w fun e w'=>e=.returned (.bool (uM 1 lo hi n))/\Below w.heap.size w w':=by
 have HB:=Lib.hid (iU w (.cells #[.int .i64 1,.string (mk lo),.string (mk hi),.int .i64 n,m] 79))
 have HP1:=Lib.hid fun W=>BH lo W (by show _<=_;have:lo.length<=281474976710656:=hlo;omega)
 have HP2:=Lib.hid fun W=>BH hi W (by show _<=_;have:hi.length<=281474976710656:=hhi;omega)
 have hl:uM 1 lo hi n=(Cm.lM lo 5 5 && (Cm.lM hi 5 5 && (n == 0))):=by rw [show (n == 0)=decide (n=0) from rfl];rfl
 rw [hl]
 clear hl
 generalize Cm.lM lo 5 5=A at *
 generalize Cm.lM hi 5 5=C at *
 cases A<;>cases C<;>cases hn:(n == 0)
 all_goals
  go_enter Tryz.func141,Tryz.ntmps141
  go_wp2_with (first|(go_at_call 160;first|(refine (HP1.out _).mono ?_;rintro e w1 ⟨rfl,rfl⟩)|(refine (HP2.out _).mono ?_;rintro e w1 ⟨rfl,rfl⟩)))
  go_ret
  exact ⟨rfl,HB.out⟩
theorem fields2 (lo hi:Tx) (n:Int) (m:Value) (w:World) (hlo:lo.length<=Big) (hhi:hi.length<=Big) :
  Calls Tryz.prog 141 #[.agg #[.int .i64 2,.string (mk lo),.string (mk hi),.int .i64 n,m]] w fun e w'=>e=.returned (.bool (uM 2 lo hi n))/\Below w.heap.size w w':=by
 have HB:=Lib.hid (iU w (.cells #[.int .i64 2,.string (mk lo),.string (mk hi),.int .i64 n,m] 79))
 have HM:=Lib.hid fun W=>xP lo W (by show _<=_;have:lo.length<=281474976710656:=hlo;omega)
 have hl:uM 2 lo hi n=(Cm.lM lo 2 2 && (((mk hi).toList == []) && (n == 0))):=by rw [oq,show (n == 0)=decide (n=0) from rfl];rfl
 rw [hl]
 clear hl
 generalize Cm.lM lo 2 2=A at *
 cases A<;>cases hh:((mk hi).toList == [])<;>cases hn:(n == 0)
 all_goals
  go_enter Tryz.func141,Tryz.ntmps141
  go_wp2_with (first|(go_at_call 161;refine (HM.out _).mono ?_;rintro e w1 ⟨rfl,rfl⟩))
  go_ret
  exact ⟨rfl,HB.out⟩
theorem oI (lo hi:Tx) (n:Int) (m:Value) (w:World) (hlo:lo.length<=Big) (hhi:hi.length<=Big) :
  Calls Tryz.prog 141 #[.agg #[.int .i64 3,.string (mk lo),.string (mk hi),.int .i64 n,m]] w fun e w'=>e=.returned (.bool (uM 3 lo hi n))/\Below w.heap.size w w':=by
 have HB:=Lib.hid (iU w (.cells #[.int .i64 3,.string (mk lo),.string (mk hi),.int .i64 n,m] 79))
 have hl:uM 3 lo hi n=(((mk lo).toList == []) && (((mk hi).toList == []) && (decide (0<=n) && decide (n<=9999)))):=by rw [oq,oq];rfl
 rw [hl]
 clear hl
 cases h0:((mk lo).toList == [])<;>cases hh:((mk hi).toList == [])<;>cases hn:decide (0<=n)<;>cases hm:decide (n<=9999)
 all_goals
  go_enter Tryz.func141,Tryz.ntmps141
  go_wp2
  go_ret
  exact ⟨rfl,HB.out⟩
theorem oJ (lo hi:Tx) (n:Int) (m:Value) (w:World) (hlo:lo.length<=Big) (hhi:hi.length<=Big) :
  Calls Tryz.prog 141 #[.agg #[.int .i64 4,.string (mk lo),.string (mk hi),.int .i64 n,m]] w fun e w'=>e=.returned (.bool (uM 4 lo hi n))/\Below w.heap.size w w':=by
 have HB:=Lib.hid (iU w (.cells #[.int .i64 4,.string (mk lo),.string (mk hi),.int .i64 n,m] 79))
 have HG:=Lib.hid fun W=>qj n W
 have hl:uM 4 lo hi n=(((mk lo).toList == []) && (((mk hi).toList == []) && qg n)):=by rw [oq,oq];rfl
 rw [hl]
 clear hl
 generalize qg n=G at *
 cases h0:((mk lo).toList == [])<;>cases hh:((mk hi).toList == [])<;>cases G
 all_goals
  go_enter Tryz.func141,Tryz.ntmps141
  go_wp2_with (first|(go_at_call 76;refine (HG.out _).mono ?_;rintro e w1 ⟨rfl,rfl⟩))
  go_ret
  exact ⟨rfl,HB.out⟩
theorem uO (k:Int) (lo hi:Tx) (n:Int) (h:k=0 ∨ k=5 ∨ k=6 ∨ k=7 ∨ k=8):uM k lo hi n=(((mk lo).toList == []) && (((mk hi).toList == []) && (n == 0))):=by
 rw [oq,oq,show (n == 0)=decide (n=0) from rfl]
 rcases h with rfl|rfl|rfl|rfl|rfl<;>rfl
theorem uN (k:Int) (lo hi:Tx) (n:Int) (h:¬ (0<=k/\k<=8)):uM k lo hi n=false:=by
 unfold uM
 have:(decide (0<=k) && decide (k<=8))=false:=by simp;omega
 rw [this];rfl
theorem oH (lo hi:Tx) (n:Int) (m:Value) (w:World) (hlo:lo.length<=Big) (hhi:hi.length<=Big) :
  Calls Tryz.prog 141 #[.agg #[.int .i64 0,.string (mk lo),.string (mk hi),.int .i64 n,m]] w fun e w'=>e=.returned (.bool (uM 0 lo hi n))/\Below w.heap.size w w':=by
 have HB:=Lib.hid (iU w (.cells #[.int .i64 0,.string (mk lo),.string (mk hi),.int .i64 n,m] 79))
 have hl:=uO 0 lo hi n (by simp)
 rw [hl]
 clear hl
 cases h0:((mk lo).toList == [])<;>cases hh:((mk hi).toList == [])<;>cases hn:(n == 0)
 all_goals
  go_enter Tryz.func141,Tryz.ntmps141
  go_wp2
  go_ret
  exact ⟨rfl,HB.out⟩
theorem oK (lo hi:Tx) (n:Int) (m:Value) (w:World) (hlo:lo.length<=Big) (hhi:hi.length<=Big) :
  Calls Tryz.prog 141 #[.agg #[.int .i64 5,.string (mk lo),.string (mk hi),.int .i64 n,m]] w fun e w'=>e=.returned (.bool (uM 5 lo hi n))/\Below w.heap.size w w':=by
 have HB:=Lib.hid (iU w (.cells #[.int .i64 5,.string (mk lo),.string (mk hi),.int .i64 n,m] 79))
 have hl:=uO 5 lo hi n (by simp)
 rw [hl]
 clear hl
 cases h0:((mk lo).toList == [])<;>cases hh:((mk hi).toList == [])<;>cases hn:(n == 0)
 all_goals
  go_enter Tryz.func141,Tryz.ntmps141
  go_wp2
  go_ret
  exact ⟨rfl,HB.out⟩
theorem oL (lo hi:Tx) (n:Int) (m:Value) (w:World) (hlo:lo.length<=Big) (hhi:hi.length<=Big) :
  Calls Tryz.prog 141 #[.agg #[.int .i64 6,.string (mk lo),.string (mk hi),.int .i64 n,m]] w fun e w'=>e=.returned (.bool (uM 6 lo hi n))/\Below w.heap.size w w':=by
 have HB:=Lib.hid (iU w (.cells #[.int .i64 6,.string (mk lo),.string (mk hi),.int .i64 n,m] 79))
 have hl:=uO 6 lo hi n (by simp)
 rw [hl]
 clear hl
 cases h0:((mk lo).toList == [])<;>cases hh:((mk hi).toList == [])<;>cases hn:(n == 0)
 all_goals
  go_enter Tryz.func141,Tryz.ntmps141
  go_wp2
  go_ret
  exact ⟨rfl,HB.out⟩
theorem oM (lo hi:Tx) (n:Int) (m:Value) (w:World) (hlo:lo.length<=Big) (hhi:hi.length<=Big) :
  Calls Tryz.prog 141 #[.agg #[.int .i64 7,.string (mk lo),.string (mk hi),.int .i64 n,m]] w fun e w'=>e=.returned (.bool (uM 7 lo hi n))/\Below w.heap.size w w':=by
 have HB:=Lib.hid (iU w (.cells #[.int .i64 7,.string (mk lo),.string (mk hi),.int .i64 n,m] 79))
 have hl:=uO 7 lo hi n (by simp)
 rw [hl]
 clear hl
 cases h0:((mk lo).toList == [])<;>cases hh:((mk hi).toList == [])<;>cases hn:(n == 0)
 all_goals
  go_enter Tryz.func141,Tryz.ntmps141
  go_wp2
  go_ret
  exact ⟨rfl,HB.out⟩
theorem oN (lo hi:Tx) (n:Int) (m:Value) (w:World) (hlo:lo.length<=Big) (hhi:hi.length<=Big) :
  Calls Tryz.prog 141 #[.agg #[.int .i64 8,.string (mk lo),.string (mk hi),.int .i64 n,m]] w fun e w'=>e=.returned (.bool (uM 8 lo hi n))/\Below w.heap.size w w':=by
 have HB:=Lib.hid (iU w (.cells #[.int .i64 8,.string (mk lo),.string (mk hi),.int .i64 n,m] 79))
 have hl:=uO 8 lo hi n (by simp)
 rw [hl]
 clear hl
 cases h0:((mk lo).toList == [])<;>cases hh:((mk hi).toList == [])<;>cases hn:(n == 0)
 all_goals
  go_enter Tryz.func141,Tryz.ntmps141
  go_wp2
  go_ret
  exact ⟨rfl,HB.out⟩
theorem oO (lo hi:Tx) (n:Int) (m:Value) (w:World) (k:Int) (hk:¬ (0<=k/\k<=8)) (hlo:lo.length<=Big) (hhi:hi.length<=Big) :
  Calls Tryz.prog 141 #[.agg #[.int .i64 k,.string (mk lo),.string (mk hi),.int .i64 n,m]] w fun e w'=>e=.returned (.bool (uM k lo hi n))/\Below w.heap.size w w':=by
 have HB:=Lib.hid (iU w (.cells #[.int .i64 k,.string (mk lo),.string (mk hi),.int .i64 n,m] 79))
 have hl:=uN k lo hi n hk
 rw [hl]
 clear hl
 have b0:(k == 0)=false:=by simp;omega
 have b1:(k == 1)=false:=by simp;omega
 have b2:(k == 2)=false:=by simp;omega
 have b3:(k == 3)=false:=by simp;omega
 have b4:(k == 4)=false:=by simp;omega
 have b5:(k == 5)=false:=by simp;omega
 have b6:(k == 6)=false:=by simp;omega
 have b7:(k == 7)=false:=by simp;omega
 have b8:(k == 8)=false:=by simp;omega
 clear hk
 go_enter Tryz.func141,Tryz.ntmps141
 go_wp2
 go_ret
 exact ⟨rfl,HB.out⟩
theorem oP (c:Cd) (m:Value) (w:World) (ho:Ok1 c) :
  Calls Tryz.prog 141 #[cdv c m] w fun e w'=>e=.returned (.bool (uM c.kind c.lo c.hi c.n))/\Below w.heap.size w w':=by
 obtain ⟨k,lo,hi,n,ks⟩:=c
 obtain ⟨_,_,hlo,hhi,_⟩:=ho
 by_cases hk:0<=k/\k<=8
 ·rcases tN hk.1 hk.2 with rfl|rfl|rfl|rfl|rfl|rfl|rfl|rfl|rfl
  ·exact oH lo hi n m w hlo hhi
  ·exact fields1 lo hi n m w hlo hhi
  ·exact fields2 lo hi n m w hlo hhi
  ·exact oI lo hi n m w hlo hhi
  ·exact oJ lo hi n m w hlo hhi
  ·exact oK lo hi n m w hlo hhi
  ·exact oL lo hi n m w hlo hhi
  ·exact oM lo hi n m w hlo hhi
  ·exact oN lo hi n m w hlo hhi
 ·exact oO lo hi n m w k hk hlo hhi
end Go.Proofs.YtfbfeoplldjbpaaGreatDoor.Pl
end
section
namespace Go.Proofs.YtfbfeoplldjbpaaGreatDoor.Pl
open Go.RowKit
open Wo (Wd jI jQ tV qL)
theorem lW (f:Nat) (c:Cd):lV (f+1) c=(decide (c.kids.length=uD c.kind) && (c.kids.all (lV f) && uM c.kind c.lo c.hi c.n)):=by cases c;rfl
theorem jv {w:World} {q:Nat} {a b c d e:Value} {T:TypeId} (h:w.heap[q]?=some (.cells #[a,b,c,d,e] T (0,0))):w.cell? ⟨q,0,none⟩=some a/\w.cell? ⟨q,1,none⟩=some b/\w.cell? ⟨q,2,none⟩=some c/\w.cell? ⟨q,3,none⟩=some d/\w.cell? ⟨q,4,none⟩=some e:=by
 refine ⟨?_,?_,?_,?_,?_⟩<;>rw [cell_of_row w q _ _ T (0,0) h]<;>rfl
theorem jf {B:Nat} {a b c:World} (hB:a.heap.size=B) (h:Below B a b) (k:Below b.heap.size b c):Below B a c:=h.trans (k.mono (hB ▸ h.size))
theorem iV {w W:World} (h:Below w.heap.size w W) (n:Nat):Below w.heap.size w (W.drewN n):=h.trans ⟨rfl,rfl,rfl,Nat.le_refl _,fun _ _=>rfl⟩
theorem kK (c:Cd) (m:Value) (w:World) :
  Calls Tryz.prog 103 #[cdv c m,.int .i64 17] w fun e w'=>e=.returned (.bool false)/\Below w.heap.size w w':=by
 have hb:=iU w (.cells #[.int .i64 c.kind,.string (mk c.lo),.string (mk c.hi),.int .i64 c.n,m] 79)
 have HB:=Lib.hid hb
 clear hb
 go_enter Tryz.func103,Tryz.ntmps103
 go_wp2_with fail
 go_quiet (fail)
 go_wp2
 go_ret
 exact ⟨rfl,iV HB.out nq⟩
theorem fG {p:Cd->Bool} (l:List Cd) (k:Nat) (c:Cd) (h:l[k]?=some c) (hk:(l.take k).all p=true) (hc:p c=true):(l.take (k+1)).all p=true:=by
 rw [List.take_add_one,h];simp_all
theorem fB {p:Cd->Bool} (l:List Cd) (k:Nat) (c:Cd) (h:l[k]?=some c) (hc:p c=false):l.all p=false:=by
 rw [List.all_eq_false]
 exact ⟨c,List.mem_of_getElem? h,by simp [hc]⟩
theorem kQ (f:Nat) (d:Int) (hd0:1<=d) (hd:d<=16) (IH:∀(c:Cd) (m:Value) (w:World),aX All w m c.kids->Ok1 c->Calls Tryz.prog 103 #[cdv c m,.int .i64 (d+1)] w fun e w'=>e=.returned (.bool (lV f c))/\Below w.heap.size w w')
  (c:Cd) (m:Value) (w:World) (hK:aX All w m c.kids) (ho:Ok1 c) :
  Calls Tryz.prog 103 #[cdv c m,.int .i64 d] w fun e w'=>e=.returned (.bool (lV (f+1) c))/\Below w.heap.size w w':=by
 rw [lW]
 have hb:=iU w (.cells #[.int .i64 c.kind,.string (mk c.lo),.string (mk c.hi),.int .i64 c.n,m] 79)
 have HB:=Lib.hid hb
 have HX:=Lib.hid (heap_alloc_new w (.cells #[.int .i64 c.kind,.string (mk c.lo),.string (mk c.hi),.int .i64 c.n,m] 79))
 have HK:=Lib.hid (hK.grw hb)
 obtain ⟨a,k,rfl,h1,h2⟩:=hK.form
 have HKD:=Lib.hid fun W=>uI c.kind W
 have HF:=Lib.hid fun W=>oP c (.slice a c.kids.length k) W ho
 obtain ⟨x0,x1,x2,x3,x4⟩:=jv HX.out
 have hi:¬ 16 < d:=by omega
 have hbig:c.kids.length<=281474976710656:=ho.2.2.2.2
 have hneq:((c.kids.length:Int) != ((uD c.kind:Nat):Int)) = !decide (c.kids.length=uD c.kind):=by
  by_cases e:c.kids.length=uD c.kind<;>simp [e]<;>omega
 clear hK hb
 generalize hgl:decide (c.kids.length=uD c.kind)=GL at *
 generalize hgf:uM c.kind c.lo c.hi c.n=GF at *
 clear hgl hgf
 go_enter Tryz.func103,Tryz.ntmps103
 go_upto_region 1 with fail
 generalize w.alloc (.cells #[.int .i64 c.kind,.string (mk c.lo),.string (mk c.hi),.int .i64 c.n,.slice a c.kids.length k] 79)=W at *
 generalize hp:w.heap.size=p at *
 go_cut [22] (fun s22 wx=>s22=.bool (!(GL && GF))/\Hid (Below W.heap.size W wx))
 case first =>
  cases GL
  ·simp only [Bool.not_false] at hneq
   go_quiet (first|(go_at_call 140;refine Calls.quiet_of_same (HKD.out _)))
   go_wp2_with fail
   go_meet
   exact ⟨rfl,iV (Below.refl _ _) _⟩
  ·simp only [Bool.not_true] at hneq
   go_region_with (first|(go_at_call 140;refine (HKD.out _).mono ?_;rintro x w1 ⟨rfl,rfl⟩)|(go_at_call 141;refine (HF.out _).mono ?_;rintro x w1 ⟨rfl,hb1⟩;have HB1:=Lib.hid hb1;clear hb1))
   all_goals
    go_wp2_with fail
    go_meet
    exact ⟨by cases GF<;>rfl,jg (Below.drew (Below.refl _ W)) HB1.out⟩
 case rest =>
  obtain ⟨rfl,HBx⟩:=hcut
  have hBB:Below p w wc:=jf hp HB.out HBx.out
  have HBB:=Lib.hid hBB
  have HKx:=Lib.hid (HK.out.grw HBx.out)
  obtain ⟨x0,x1,x2,x3,x4⟩:=jv (tV HX.out HBx.out)
  clear HB HX HK HKD HF hneq hBB HBx
  cases hg:(GL && GF) with
  | false =>
   have HRES:Hid ((GL && (c.kids.all (lV f) && GF))=false):=by
    show _=_
    cases GL<;>cases GF<;>simp_all
   clear hg
   go_wp2
   go_ret
   exact ⟨by rw [HRES.out];rfl,by first|exact HBB.out|(rw [hp];exact HBB.out)⟩
  | true =>
   have HRES:Hid ((GL && (c.kids.all (lV f) && GF))=c.kids.all (lV f)):=by
    show _=_
    cases GL<;>cases GF<;>simp_all
   clear hg
   have HW0:=Lib.hid (Below.refl wc.heap.size wc)
   go_wp2
   go_loopg [26] (c.kids.length) (fun g i wr=>∃n:Nat,n<=c.kids.length/\g=c.kids.length - n/\i=.int .i64 n/\Hid (Below wc.heap.size wc wr)/\Hid ((c.kids.take n).all (lV f)=true))
   case atStart=>exact ⟨0,Nat.zero_le _,rfl,rfl,HW0.out,rfl⟩
   case round =>
    clear HW0 x0 x1 x2 x3 x4
    obtain ⟨n,hn,hgk,rfl,HBr,HA⟩:=hrel
    by_cases hlt:n < c.kids.length
    ·obtain ⟨b,o,mv,rfl,hbs,hx,hcc,hkk,hok⟩:=aX.get (HKx.out.grw HBr.out) n hlt
     obtain ⟨y0,y1,y2,y3,y4⟩:=hcc
     obtain ⟨ma,mc,rfl,-,-⟩:=hkk.form
     have hbz:=iU wr (.cells #[.int .i64 c.kids[n].kind,.string (mk c.kids[n].lo),.string (mk c.kids[n].hi),.int .i64 c.kids[n].n,.slice ma c.kids[n].kids.length mc] 79)
     have HC:=Lib.hid (IH c.kids[n] _ _ (hkk.grw hbz) hok)
     have HBz:=Lib.hid (jg HBr.out hbz)
     have HT:=Lib.hid fun h=>fG (p:=lV f) c.kids n _ hx HA.out h
     have HN:=Lib.hid fun h=>fB (p:=lV f) c.kids n _ hx h
     clear hx hkk hok hbz
     generalize c.kids[n]=kd at *
     cases hq:lV f kd
     ·rw [hq] at HC
      have HN2:=Lib.hid (HN.out hq)
      clear hq HT HN
      go_wp2_with (go_at_call 103;refine HC.out.mono ?_;rintro e w3 ⟨rfl,hb3⟩;have HB3:=Lib.hid hb3;clear hb3)
      go_ret
      exact ⟨by rw [HRES.out,HN2.out];rfl,by first|exact jf hp HBB.out (jg HBz.out HB3.out)|(rw [hp];exact jf hp HBB.out (jg HBz.out HB3.out))⟩
     ·rw [hq] at HC
      have HT2:=Lib.hid (HT.out hq)
      clear hq HT HN
      go_wp2_with (go_at_call 103;refine HC.out.mono ?_;rintro e w3 ⟨rfl,hb3⟩;have HB3:=Lib.hid hb3;clear hb3)
      go_roundg (c.kids.length - (n+1))
      case rel=>exact ⟨n+1,by omega,rfl,by go_num,jg HBz.out HB3.out,HT2.out⟩
      case measure=>omega
    ·have hall:c.kids.take n=c.kids:=List.take_of_length_le (by omega)
     rw [hall] at HA
     clear hall
     go_wp2
     go_ret
     exact ⟨by rw [HRES.out,HA.out];rfl,by first|exact jf hp HBB.out HBr.out|(rw [hp];exact jf hp HBB.out HBr.out)⟩
theorem kJ:∀(f:Nat) (d:Int),d+f=17->f<=16->∀(c:Cd) (m:Value) (w:World),aX All w m c.kids->Ok1 c →
  Calls Tryz.prog 103 #[cdv c m,.int .i64 d] w fun e w'=>e=.returned (.bool (lV f c))/\Below w.heap.size w w':=by
 intro f
 induction f with
 | zero =>
  intro d hd _ c m w _ _
  obtain rfl:d=17:=by omega
  exact kK c m w
 | succ f ih=>intro d hd hf c m w hK ho;exact kQ f d (by omega) (by omega) (fun c m w hK ho=>ih (d+1) (by omega) (by omega) c m w hK ho) c m w hK ho
end Go.Proofs.YtfbfeoplldjbpaaGreatDoor.Pl
end
section
namespace Go.Proofs.YtfbfeoplldjbpaaGreatDoor.Pl
open Go.RowKit
open Wo (Wd jI jQ tV qL)
end Go.Proofs.YtfbfeoplldjbpaaGreatDoor.Pl
end
