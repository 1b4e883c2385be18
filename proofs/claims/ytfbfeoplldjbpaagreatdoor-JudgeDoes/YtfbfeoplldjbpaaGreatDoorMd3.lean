/-
  Texts put together (merge.py): DDate, LMem, XMem, XApp, RInv, XBase.
-/
import Derived.BigQuiet
import Derived.WalkLawsBesides
import Derived.Handy
import Derived.Sort.Grow
import Derived.Deep.DeepCutAuto
import Derived.Test.YtfbfeoplldjbpaaGreatDoorMd2
set_option linter.unusedSimpArgs false
set_option linter.unusedVariables false
set_option maxHeartbeats 16000000
set_option maxRecDepth 100000
namespace Go.Proofs.YtfbfeoplldjbpaaGreatDoor
namespace Da
open Go.RowKit
def Tab (w:World):Prop:=∀i:Nat,i < 12->w.cell? ⟨2,i,none⟩=some (iI (lens.getD i 0))
theorem uQ (y:Int) (w:World) (h:0<=y) :
  Calls Tryz.prog 164 #[iI y] w fun e w'=>e=.returned (.bool (uP y))/\w'=w:=by
 unfold uP;cases h1:(y % 4 == 0)<;>cases h2:(y % 100 != 0)<;>cases h3:(y % 400 == 0) <;>
 ·go_enter Tryz.func164,Tryz.ntmps164
  go_wp2;go_ret;exact ⟨by first|rfl|simp [h1,h2,h3],rfl⟩
theorem GR {w:World} (hT:Tab w):w.cell? ⟨2,0,none⟩=some (iI 31)/\w.cell? ⟨2,1,none⟩=some (iI 28)/\w.cell? ⟨2,2,none⟩=some (iI 31)/\w.cell? ⟨2,3,none⟩=some (iI 30)/\w.cell? ⟨2,4,none⟩=some (iI 31)/\w.cell? ⟨2,5,none⟩=some (iI 30) ∧
  w.cell? ⟨2,6,none⟩=some (iI 31)/\w.cell? ⟨2,7,none⟩=some (iI 31)/\w.cell? ⟨2,8,none⟩=some (iI 30)/\w.cell? ⟨2,9,none⟩=some (iI 31)/\w.cell? ⟨2,10,none⟩=some (iI 30)/\w.cell? ⟨2,11,none⟩=some (iI 31):=
 ⟨hT 0 (by decide),hT 1 (by decide),hT 2 (by decide),hT 3 (by decide),hT 4 (by decide),hT 5 (by decide),hT 6 (by decide),hT 7 (by decide),hT 8 (by decide),hT 9 (by decide),hT 10 (by decide),hT 11 (by decide)⟩
theorem uX (y m:Int) (w:World) (hT:Tab w) (h:0<=y) (h1:1<=m) (h2:m<=12) :
  Calls Tryz.prog 144 #[iI y,iI m] w fun e w'=>e=.returned (iI (uU y m))/\w'=w:=by
 obtain ⟨c0,c1,c2,c3,c4,c5,c6,c7,c8,c9,c10,c11⟩:=GR hT;clear hT;rcases yj m h1 h2 with rfl|rfl|rfl|rfl|rfl|rfl|rfl|rfl|rfl|rfl|rfl|rfl
 case inr.inl =>
  cases b:uP y
  ·go_enter Tryz.func144,Tryz.ntmps144
   go_wp2_with (go_at_call 164;refine (uQ _ _ h).mono ?_;rintro e w' ⟨rfl,rfl⟩)
   go_ret;exact ⟨by simp [uU,b,uV,lens],rfl⟩
  ·go_enter Tryz.func144,Tryz.ntmps144
   go_wp2_with (go_at_call 164;refine (uQ _ _ h).mono ?_;rintro e w' ⟨rfl,rfl⟩)
   go_ret;exact ⟨by simp [uU,b],rfl⟩
 all_goals
  go_enter Tryz.func144,Tryz.ntmps144
  go_wp2;go_ret;exact ⟨rfl,rfl⟩
theorem CS (n k:Int) (h:-9223372036854775808<=n) (h':n<=9223372036854775807) (hk:1<=k):-9223372036854775808<=n.tdiv k/\n.tdiv k<=9223372036854775807:=by
 have l:∀a:Int,0<=a->0<=a.tdiv k/\a.tdiv k<=a:=fun a ha=>by
  rw [Int.tdiv_eq_ediv_of_nonneg ha];exact ⟨Int.ediv_nonneg ha (by omega),Int.ediv_le_self _ ha⟩
 rcases Int.lt_or_le n 0 with c|c
 ·have:=l (-n) (by omega);rw [Int.neg_tdiv] at this;omega
 ·have:=l n c;omega
theorem FY (n:Int) (w:World) (h:-9223372036854775808<=n) (h':n<=9223372036854775807) :
  Calls Tryz.prog 118 #[iI n] w fun e w'=>e=.returned (.tuple #[iI (yr n),iI (mo n),iI (da n)])/\w'=w:=by
 unfold yr mo da;obtain ⟨b1,b2⟩:=CS n 10000 h h' (by omega);obtain ⟨b3,b4⟩:=CS n 100 h h' (by omega);go_enter Tryz.func118,Tryz.ntmps118
 go_wp2;exact bodyPost_ret (v:=.tuple #[iI (n.tdiv 10000),iI ((n.tdiv 100).tmod 100),iI (n.tmod 100)]) (by simp [results,Tryz.results118,go_sem]) rfl ⟨rfl,rfl⟩
theorem qh (n:Int) (w:World) (hT:Tab w) (h:-9223372036854775808<=n) (h':n<=9223372036854775807) :
  Calls Tryz.prog 107 #[iI n] w fun e w'=>e=.returned (.bool (good n))/\w'=w:=by
 by_cases c1:yr n < 1
 ·have g:good n=false:=by simp [good];omega
  rw [g];go_enter Tryz.func107,Tryz.ntmps107
  go_wp2_with (go_at_call 118;refine (FY _ _ h h').mono ?_;rintro e w' ⟨rfl,rfl⟩)
  go_ret;exact ⟨rfl,rfl⟩
 by_cases c2:yr n > 9999
 ·have g:good n=false:=by simp [good];omega
  rw [g];go_enter Tryz.func107,Tryz.ntmps107
  go_wp2_with (go_at_call 118;refine (FY _ _ h h').mono ?_;rintro e w' ⟨rfl,rfl⟩)
  go_ret;exact ⟨rfl,rfl⟩
 by_cases c3:mo n < 1
 ·have g:good n=false:=by simp [good];omega
  rw [g];go_enter Tryz.func107,Tryz.ntmps107
  go_wp2_with (go_at_call 118;refine (FY _ _ h h').mono ?_;rintro e w' ⟨rfl,rfl⟩)
  go_ret;exact ⟨rfl,rfl⟩
 by_cases c4:mo n > 12
 ·have g:good n=false:=by simp [good];omega
  rw [g];go_enter Tryz.func107,Tryz.ntmps107
  go_wp2_with (go_at_call 118;refine (FY _ _ h h').mono ?_;rintro e w' ⟨rfl,rfl⟩)
  go_ret;exact ⟨rfl,rfl⟩
 by_cases c5:1<=da n
 ·by_cases c6:da n<=uU (yr n) (mo n)
  ·have g:good n=true:=by simp [good];omega
   rw [g];go_enter Tryz.func107,Tryz.ntmps107
   go_wp2_with (first|(go_at_call 118;refine (FY _ _ h h').mono ?_;rintro e w' ⟨rfl,rfl⟩)|(go_at_call 144;refine (uX _ _ _ hT (by omega) (by omega) (by omega)).mono ?_;rintro e w' ⟨rfl,rfl⟩))
   go_ret;exact ⟨rfl,rfl⟩
  ·have g:good n=false:=by simp [good];omega
   have d6:decide (da n<=uU (yr n) (mo n))=false:=by simpa using c6
   rw [g];go_enter Tryz.func107,Tryz.ntmps107
   go_wp2_with (first|(go_at_call 118;refine (FY _ _ h h').mono ?_;rintro e w' ⟨rfl,rfl⟩)|(go_at_call 144;refine (uX _ _ _ hT (by omega) (by omega) (by omega)).mono ?_;rintro e w' ⟨rfl,rfl⟩))
   go_ret;exact ⟨rfl,rfl⟩
 ·have g:good n=false:=by simp [good];omega
  rw [g];go_enter Tryz.func107,Tryz.ntmps107
  go_wp2_with (go_at_call 118;refine (FY _ _ h h').mono ?_;rintro e w' ⟨rfl,rfl⟩)
  go_ret;exact ⟨rfl,rfl⟩
def I9 (n:Int):Int:=if good n=true then yr n else 0
theorem Jb (n:Int) (w:World) (hT:Tab w) (h:-9223372036854775808<=n) (h':n<=9223372036854775807) :
  Calls Tryz.prog 74 #[iI n] w fun e w'=>e=.returned (iI (I9 n))/\w'=w:=by
 cases g:good n
 ·have e:I9 n=0:=by simp [I9,g]
  go_enter Tryz.func74,Tryz.ntmps74
  go_wp2_with (go_at_call 107;refine (qh _ _ hT h h').mono ?_;rintro e w' ⟨rfl,rfl⟩)
  go_ret;exact ⟨by rw [e];rfl,rfl⟩
 ·have e:I9 n=yr n:=by simp [I9,g]
  go_enter Tryz.func74,Tryz.ntmps74
  go_wp2_with (first|(go_at_call 107;refine (qh _ _ hT h h').mono ?_;rintro e w' ⟨rfl,rfl⟩)|(go_at_call 118;refine (FY _ _ h h').mono ?_;rintro e w' ⟨rfl,rfl⟩))
  go_ret;exact ⟨by rw [e];rfl,rfl⟩
end Da
namespace Cm
open Go.RowKit
abbrev lnv (x:Ln) (m:Value):Value:=.agg #[.string (mk x.proc),m,iI x.date,iI x.units,iI x.Av,iI x.prior]
abbrev clv (c:Cl) (m:Value):Value:=.agg #[.string (mk c.id),.string (mk c.mem),.string (mk c.Br),iI c.net,iI c.does,.string (mk c.ref),m]
def bg (w:World) (b o:Nat) (x:Ln) (m:Value):Prop:=
 w.cell? ⟨b,o,none⟩=some (.string (mk x.proc))/\w.cell? ⟨b,o+1,none⟩=some m/\w.cell? ⟨b,o+2,none⟩=some (iI x.date)/\w.cell? ⟨b,o+3,none⟩=some (iI x.units)/\w.cell? ⟨b,o+4,none⟩=some (iI x.Av)/\w.cell? ⟨b,o+5,none⟩=some (iI x.prior)
def aA (w:World) (b o:Nat) (c:Cl) (m:Value):Prop:=
 w.cell? ⟨b,o,none⟩=some (.string (mk c.id))/\w.cell? ⟨b,o+1,none⟩=some (.string (mk c.mem))/\w.cell? ⟨b,o+2,none⟩=some (.string (mk c.Br))/\w.cell? ⟨b,o+3,none⟩=some (iI c.net)/\w.cell? ⟨b,o+4,none⟩=some (iI c.does)/\w.cell? ⟨b,o+5,none⟩=some (.string (mk c.ref))/\w.cell? ⟨b,o+6,none⟩=some m
def bH (K:Nat->Prop) (w:World) (v:Value) (ls:List Ln):Prop:=
 ∃a c,v=.slice a ls.length c/\ls.length<=c/\c<=maxLen/\(ls=[] ∨ ∃b o,a=some ⟨b,o,none⟩/\K b/\b < w.heap.size/\∀(j:Nat) x,ls[j]?=some x->∃m,bg w b (o+j * 6) x m/\dI K w m x.mods)
def aG (K:Nat->Prop) (w:World) (v:Value) (cs:List Cl):Prop:=
 ∃a c,v=.slice a cs.length c/\cs.length<=c/\c<=maxLen/\(cs=[] ∨ ∃b o,a=some ⟨b,o,none⟩/\K b/\b < w.heap.size/\∀(j:Nat) x,cs[j]?=some x->∃m,aA w b (o+j * 7) x m/\bH K w m x.lines)
theorem bg.of {w w':World} {b o:Nat} {x:Ln} {m:Value} (h:bg w b o x m) (he:w'.heap[b]?=w.heap[b]?):bg w' b o x m:=by
 obtain ⟨h0,h1,h2,h3,h4,h5⟩:=h;refine ⟨?_,?_,?_,?_,?_,?_⟩<;>rw [World.cell?_of_block (w:=w) he]<;>assumption
theorem aA.of {w w':World} {b o:Nat} {x:Cl} {m:Value} (h:aA w b o x m) (he:w'.heap[b]?=w.heap[b]?):aA w' b o x m:=by
 obtain ⟨h0,h1,h2,h3,h4,h5,h6⟩:=h;refine ⟨?_,?_,?_,?_,?_,?_,?_⟩<;>rw [World.cell?_of_block (w:=w) he]<;>assumption
theorem bH.move {K K':Nat->Prop} {w w':World} {v:Value} {ls:List Ln} (h:bH K w v ls) (hm:Moves K K' w w'):bH K' w' v ls:=by
 obtain ⟨a,c,rfl,h1,h2,h3⟩:=h;refine ⟨a,c,rfl,h1,h2,h3.imp id ?_⟩;rintro ⟨b,o,rfl,hk,hb,hc⟩;obtain ⟨k',hh⟩:=hm.2 b hb hk;refine ⟨b,o,rfl,k',Nat.lt_of_lt_of_le hb hm.1,fun j x hj=>?_⟩;obtain ⟨m,hu,hr⟩:=hc j x hj;exact ⟨m,hu.of hh,dI.move hr hm⟩
theorem aG.move {K K':Nat->Prop} {w w':World} {v:Value} {cs:List Cl} (h:aG K w v cs) (hm:Moves K K' w w'):aG K' w' v cs:=by
 obtain ⟨a,c,rfl,h1,h2,h3⟩:=h;refine ⟨a,c,rfl,h1,h2,h3.imp id ?_⟩;rintro ⟨b,o,rfl,hk,hb,hc⟩;obtain ⟨k',hh⟩:=hm.2 b hb hk;refine ⟨b,o,rfl,k',Nat.lt_of_lt_of_le hb hm.1,fun j x hj=>?_⟩;obtain ⟨m,hu,hr⟩:=hc j x hj;exact ⟨m,hu.of hh,bH.move hr hm⟩
theorem bH.get {K:Nat->Prop} {w:World} {a:Option Addr} {n c:Nat} {ls:List Ln} (h:bH K w (.slice a n c) ls) (k:Nat) (hk:k < ls.length) :
  ∃b o m,a=some ⟨b,o,none⟩/\ls[k]?=some ls[k]/\bg w b (o+k * 6) ls[k] m/\dI K w m ls[k].mods:=by
 obtain ⟨a',c',he,h1,h2,h3⟩:=h;have ha:a=a':=by injection he
 subst ha;rcases h3 with h|⟨b,o,ha,_,_,hc⟩
 ·subst h;simp at hk
 ·have hx:=List.getElem?_eq_getElem hk;obtain ⟨m,q1,q2⟩:=hc k _ hx;exact ⟨b,o,m,ha,hx,q1,q2⟩
theorem aG.get {K:Nat->Prop} {w:World} {a:Option Addr} {n c:Nat} {ls:List Cl} (h:aG K w (.slice a n c) ls) (k:Nat) (hk:k < ls.length) :
  ∃b o m,a=some ⟨b,o,none⟩/\ls[k]?=some ls[k]/\aA w b (o+k * 7) ls[k] m/\bH K w m ls[k].lines:=by
 obtain ⟨a',c',he,h1,h2,h3⟩:=h;have ha:a=a':=by injection he
 subst ha;rcases h3 with h|⟨b,o,ha,_,_,hc⟩
 ·subst h;simp at hk
 ·have hx:=List.getElem?_eq_getElem hk;obtain ⟨m,q1,q2⟩:=hc k _ hx;exact ⟨b,o,m,ha,hx,q1,q2⟩
theorem He {K:Nat->Prop} {w:World} {a:Option Addr} {n c:Nat} {xs:List Tx} (h:dI K w (.slice a n c) xs) (k:Nat) (hk:k < xs.length) :
  ∃b o,a=some ⟨b,o,none⟩/\xs[k]?=some xs[k]/\w.cell? ⟨b,o+k,none⟩=some (.string (mk xs[k])):=by
 obtain ⟨a',c',he,h1,h2,h3⟩:=h;have ha:a=a':=by injection he
 subst ha;rcases h3 with h|⟨b,o,ha,_,_,hc⟩
 ·subst h;simp at hk
 ·have hx:=List.getElem?_eq_getElem hk;obtain ⟨m,q1,rfl⟩:=hc k _ hx;exact ⟨b,o,ha,hx,q1⟩
theorem dI.form {K:Nat->Prop} {w:World} {v:Value} {xs:List Tx} (h:dI K w v xs):∃a c,v=.slice a xs.length c/\xs.length<=c/\c<=9223372036854775807:=by
 obtain ⟨a,c,rfl,h1,h2,_⟩:=h;exact ⟨a,c,rfl,h1,by unfold maxLen at h2;exact h2⟩
theorem bH.form {K:Nat->Prop} {w:World} {v:Value} {xs:List Ln} (h:bH K w v xs):∃a c,v=.slice a xs.length c/\xs.length<=c/\c<=9223372036854775807:=by
 obtain ⟨a,c,rfl,h1,h2,_⟩:=h;exact ⟨a,c,rfl,h1,by unfold maxLen at h2;exact h2⟩
theorem aG.form {K:Nat->Prop} {w:World} {v:Value} {xs:List Cl} (h:aG K w v xs):∃a c,v=.slice a xs.length c/\xs.length<=c/\c<=9223372036854775807:=by
 obtain ⟨a,c,rfl,h1,h2,_⟩:=h;exact ⟨a,c,rfl,h1,by unfold maxLen at h2;exact h2⟩
theorem iU (w:World) (o:Obj):Below w.heap.size w (w.alloc o):=(Below.refl _ w).alloc (Nat.le_refl _) o
theorem jg {a b c:World} (h:Below a.heap.size a b) (k:Below b.heap.size b c):Below a.heap.size a c:=h.trans (k.mono h.size)
theorem iY {w w':World} (h:∃q,w'=w.drewN q):Below w.heap.size w w':=by
 obtain ⟨q,rfl⟩:=h;exact (Below.refl _ _).trans ⟨rfl,rfl,rfl,Nat.le_refl _,fun _ _=>rfl⟩
theorem gP {w w':World} (h:Da.Tab w) (hb:Below w.heap.size w w'):Da.Tab w':=fun i hi=>by
 have c:=h i hi;rw [hb.cell (p:=⟨2,i,none⟩) (World.block_lt_of_cell? w ⟨2,i,none⟩ c)];exact c
def bf (w:World) (b:Nat) (x:Ln) (m:Value):Prop:=
 w.cell? ⟨b,0,none⟩=some (.string (mk x.proc))/\w.cell? ⟨b,1,none⟩=some m/\w.cell? ⟨b,2,none⟩=some (iI x.date)/\w.cell? ⟨b,3,none⟩=some (iI x.units)/\w.cell? ⟨b,4,none⟩=some (iI x.Av)/\w.cell? ⟨b,5,none⟩=some (iI x.prior)
def ay (w:World) (b:Nat) (c:Cl) (m:Value):Prop:=
 w.cell? ⟨b,0,none⟩=some (.string (mk c.id))/\w.cell? ⟨b,1,none⟩=some (.string (mk c.mem))/\w.cell? ⟨b,2,none⟩=some (.string (mk c.Br))/\w.cell? ⟨b,3,none⟩=some (iI c.net)/\w.cell? ⟨b,4,none⟩=some (iI c.does)/\w.cell? ⟨b,5,none⟩=some (.string (mk c.ref))/\w.cell? ⟨b,6,none⟩=some m
theorem bf.new (w:World) (x:Ln) (m:Value) (t:TypeId):bf (w.alloc (.cells #[.string (mk x.proc),m,iI x.date,iI x.units,iI x.Av,iI x.prior] t)) w.heap.size x m:=by
 refine ⟨?_,?_,?_,?_,?_,?_⟩<;>simp
theorem ay.new (w:World) (c:Cl) (m:Value) (t:TypeId):ay (w.alloc (.cells #[.string (mk c.id),.string (mk c.mem),.string (mk c.Br),iI c.net,iI c.does,.string (mk c.ref),m] t)) w.heap.size c m:=by
 refine ⟨?_,?_,?_,?_,?_,?_,?_⟩<;>simp
theorem bf.Bu {w w':World} {b:Nat} {x:Ln} {m:Value} (h:bf w b x m) (hb:Below w.heap.size w w'):bf w' b x m:=by
 obtain ⟨h0,h1,h2,h3,h4,h5⟩:=h;have hl:=World.block_lt_of_cell? w _ h0;refine ⟨?_,?_,?_,?_,?_,?_⟩<;>rw [World.cell?_of_block (w:=w) (hb.block b hl)]<;>assumption
theorem ay.Bu {w w':World} {b:Nat} {x:Cl} {m:Value} (h:ay w b x m) (hb:Below w.heap.size w w'):ay w' b x m:=by
 obtain ⟨h0,h1,h2,h3,h4,h5,h6⟩:=h;have hl:=World.block_lt_of_cell? w _ h0;refine ⟨?_,?_,?_,?_,?_,?_,?_⟩<;>rw [World.cell?_of_block (w:=w) (hb.block b hl)]<;>assumption
end Cm
namespace Ex
open Go.RowKit
open Wo (tV jI jQ qL iU jg)
def ec (f:Ed):List Value:=[iI f.kind,sS f.a,sS f.b,.bool f.bypass,iI f.n]
abbrev edv (f:Ed):Value:=.agg #[iI f.kind,sS f.a,sS f.b,.bool f.bypass,iI f.n]
def aN (w:World) (b o:Nat) (f:Ed):Prop:=
 w.cell? ⟨b,o,none⟩=some (iI f.kind)/\w.cell? ⟨b,o+1,none⟩=some (sS f.a)/\w.cell? ⟨b,o+2,none⟩=some (sS f.b)/\w.cell? ⟨b,o+3,none⟩=some (.bool f.bypass)/\w.cell? ⟨b,o+4,none⟩=some (iI f.n)
theorem aN.of {w w':World} {b o:Nat} {x:Ed} (h:aN w b o x) (he:w'.heap[b]?=w.heap[b]?):aN w' b o x:=by
 obtain ⟨h0,h1,h2,h3,h4⟩:=h;refine ⟨?_,?_,?_,?_,?_⟩<;>rw [World.cell?_of_block (w:=w) he]<;>assumption
def aP (K:Nat->Prop) (w:World) (v:Value) (l:List Ed):Prop:=
 ∃a c,v=.slice a l.length c/\l.length<=c/\c<=maxLen/\(l=[] ∨ ∃b o,a=some ⟨b,o,none⟩/\K b/\b < w.heap.size/\∀(j:Nat) x,l[j]?=some x->aN w b (o+j * 5) x)
theorem aP.move {K K':Nat->Prop} {w w':World} {v:Value} {l:List Ed} (h:aP K w v l) (hm:Moves K K' w w'):aP K' w' v l:=by
 obtain ⟨a,c,rfl,h1,h2,h3⟩:=h;refine ⟨a,c,rfl,h1,h2,h3.imp id ?_⟩;rintro ⟨b,o,rfl,hk,hb,hc⟩;obtain ⟨k',hh⟩:=hm.2 b hb hk;exact ⟨b,o,rfl,k',Nat.lt_of_lt_of_le hb hm.1,fun j x hj=>(hc j x hj).of hh⟩
theorem aP.Bu {w w':World} {v:Value} {l:List Ed} (h:aP All w v l) (hb:Below w.heap.size w w'):aP All w' v l:=h.move (Below.moves hb)
theorem aP.nil (K:Nat->Prop) (w:World):aP K w (.slice none 0 0) []:=⟨none,0,rfl,by simp,by simp [maxLen],Or.inl rfl⟩
theorem aP.form {K:Nat->Prop} {w:World} {v:Value} {xs:List Ed} (h:aP K w v xs):∃a c,v=.slice a xs.length c/\xs.length<=c/\c<=9223372036854775807:=by
 obtain ⟨a,c,rfl,h1,h2,_⟩:=h;exact ⟨a,c,rfl,h1,by unfold maxLen at h2;exact h2⟩
theorem aP.get {K:Nat->Prop} {w:World} {a:Option Addr} {n c:Nat} {ls:List Ed} (h:aP K w (.slice a n c) ls) (k:Nat) (hk:k < ls.length) :
  ∃b o,a=some ⟨b,o,none⟩/\b < w.heap.size/\ls[k]?=some ls[k]/\aN w b (o+k * 5) ls[k]:=by
 obtain ⟨a',c',he,h1,h2,h3⟩:=h;have ha:a=a':=by injection he
 subst ha;rcases h3 with h|⟨b,o,ha,_,hb,hc⟩
 ·subst h;simp at hk
 ·have hx:=List.getElem?_eq_getElem hk;exact ⟨b,o,ha,hb,hx,hc k _ hx⟩
end Ex
namespace Ri
open Go
def opn (l:Array Bool):Nat:=l.toList.countP (fun b=>!b)
theorem zo {l:Array Bool} {i:Nat} (h:l.getD i true=false):opn (l.setIfInBounds i true)+1=opn l:=by
 have hi:i < l.size:=by
  rcases Nat.lt_or_ge i l.size with h' | h'
  ·exact h'
  ·simp [Array.getElem?_eq_none h'] at h
 have hb:l[i]=false:=by simpa [hi] using h
 unfold opn;rw [Array.toList_setIfInBounds];have e:l.toList=l.toList.take i ++ false :: l.toList.drop (i+1):=by
  have:=List.take_append_drop i l.toList;rw [List.drop_eq_getElem_cons (by simpa using hi)] at this;rw [←hb];simpa using this.symm
 have e2:l.toList.set i true=l.toList.take i ++ true :: l.toList.drop (i+1):=by
  rw [List.set_eq_take_append_cons_drop,if_pos (by simpa using hi)]
 rw [e2];conv=>rhs;rw [e]
 simp only [List.countP_append,List.countP_cons];simp;omega
theorem IK {P:Program} {ops:Array Oper} {Q:Exit->Act->World->Prop} (I:Array Bool->Act->World->Prop)
  (hs:∀listed a w,I listed a w->∀i ∈ Region.ready .any ops listed,wpOp P ops Q i (I (listed.setIfInBounds i true)) a w)
  (hd:∀listed a w,I listed a w->Region.ready .any ops listed=[]->Q .normal a w) :
  ∀(fuel:Nat) (listed:Array Bool) (a:Act) (w:World),opn listed<=fuel->I listed a w->wpAny P .any ops Q fuel listed a w
 | 0,listed,a,w,hf,h=>by
  have hr:Region.ready .any ops listed=[]:=by
   cases hr:Region.ready .any ops listed with
   | nil=>rfl
   | cons i r =>
    have hi:i ∈ Region.ready .any ops listed:=by rw [hr];exact List.mem_cons_self
    have:=zo (mem_ready.1 hi).1;omega
  exact ⟨hr,hd _ _ _ h hr⟩
 | fuel+1,listed,a,w,hf,h=>⟨fun hr=>hd _ _ _ h hr,fun i hi=>wpOp_mono (fun a' w' h'=>IK I hs hd fuel _ a' w' (by have:=zo (mem_ready.1 hi).1;omega) h') (hs _ _ _ h i hi)⟩
theorem zn (n:Nat):opn (Array.replicate n false)=n:=by simp [opn,List.countP_replicate]
def upd (vs:Nat->Value) (i:Nat) (v:Value):Nat->Value:=fun k=>if k=i then v else vs k
theorem upd_same (vs:Nat->Value) (i:Nat) (v:Value):upd vs i v i=v:=if_pos rfl
theorem upd_ne (vs:Nat->Value) {i k:Nat} (v:Value) (h:k ≠ i):upd vs i v k=vs k:=if_neg h
def puts:List Oper->Nat->(Nat->Value)->Act->Act
 | [],_,_,a=>a
 | o :: l,k,vs,a=>puts l (k+1) vs (a.put o.dst (vs k))
def gJ:List Oper->Bool
 | []=>true
 | o :: l=>(o.dst.isNone || l.all fun x=>x.dst != o.dst) && gJ l
theorem CJ:∀(l:List Oper) (k:Nat) (vs us:Nat->Value) (a:Act),(∀j,k<=j->vs j=us j)->puts l k vs a=puts l k us a
 | [],_,_,_,_,_=>rfl
 | o :: l,k,vs,us,a,h=>by
  show puts l (k+1) vs (a.put o.dst (vs k))=puts l (k+1) us (a.put o.dst (us k));rw [h k (Nat.le_refl _)];exact CJ l (k+1) vs us _ fun j hj=>h j (by omega)
theorem Cj (a:Act) (d:Option Tmp) (u v:Value):(a.put d u).put d v=a.put d v:=by
 cases d with
 | none=>rfl
 | some d=>simp [Act.put]
theorem CO:∀(l:List Oper) (k:Nat) (vs:Nat->Value) (a:Act) (d:Option Tmp) (v:Value),(∀x ∈ l,∀t,x.dst=some t->d ≠ some t)->(puts l k vs a).put d v=puts l k vs (a.put d v)
 | [],_,_,_,_,_,_=>rfl
 | o :: l,k,vs,a,d,v,h=>by
  show (puts l (k+1) vs (a.put o.dst (vs k))).put d v=puts l (k+1) vs ((a.put d v).put o.dst (vs k));rw [CO l (k+1) vs _ d v fun x hx=>h x (List.mem_cons_of_mem _ hx),Act.put_comm a (vs k) v fun t ht=>h o List.mem_cons_self t ht]
theorem CP:∀(l:List Oper) (k i:Nat) (o:Oper) (vs:Nat->Value) (a:Act) (v:Value),gJ l=true->l[i]?=some o->(puts l k vs a).put o.dst v=puts l k (upd vs (k+i) v) a
 | [],_,_,_,_,_,_,_,h=>by simp at h
 | x :: l,k,0,o,vs,a,v,hap,h=>by
  simp at h;subst h;show (puts l (k+1) vs (a.put x.dst (vs k))).put x.dst v=puts l (k+1) (upd vs k v) (a.put x.dst (upd vs k v k));rw [upd_same];simp only [gJ,Bool.and_eq_true,Bool.or_eq_true,List.all_eq_true] at hap;rw [CO l (k+1) vs _ x.dst v ?_,Cj]
  ·exact CJ l (k+1) _ _ _ fun j hj=>(upd_ne vs v (by omega)).symm
  ·intro y hy t ht e;rcases hap.1 with h1|h1
   ·rw [e] at h1;cases h1
   ·have:=h1 y hy;rw [ht,e] at this;simp at this
 | x :: l,k,i+1,o,vs,a,v,hap,h=>by
  simp at h;show (puts l (k+1) vs (a.put x.dst (vs k))).put o.dst v=puts l (k+1) (upd vs (k+(i+1)) v) (a.put x.dst (upd vs (k+(i+1)) v k));simp only [gJ,Bool.and_eq_true] at hap;rw [CP l (k+1) i o vs _ v hap.2 h,upd_ne vs v (show k ≠ k+(i+1) by omega),show k+1+i=k+(i+1) by omega]
theorem CB (a:Act) (d:Option Tmp):∃v,a.put d v=a:=by
  cases d with
  | none=>exact ⟨undef,rfl⟩
  | some d =>
    refine ⟨a.tmps.getD d undef,?_⟩;show ({ a with tmps:=a.tmps.setIfInBounds d (a.tmps.getD d undef) }:Act)=a;have:a.tmps.setIfInBounds d (a.tmps.getD d undef)=a.tmps:=by
      apply Array.ext_getElem?;intro i;rw [Array.getElem?_setIfInBounds];split
      · next h => subst h; split
                  · next h'=>simp [h']
                  · next h'=>rw [Array.getElem?_eq_none (by omega)]
      · rfl
    rw [this]
theorem CQ:∀(l:List Oper) (k:Nat) (a:Act),∃vs,puts l k vs a=a
 | [],_,a=>⟨fun _=>undef,rfl⟩
 | o :: l,k,a=>by
  obtain ⟨v,hv⟩:=CB a o.dst;obtain ⟨vs,hvs⟩:=CQ l (k+1) a;refine ⟨upd vs k v,?_⟩;show puts l (k+1) (upd vs k v) (a.put o.dst (upd vs k v k))=a;rw [upd_same,hv,CJ l (k+1) _ vs a fun j hj=>upd_ne vs v (by omega)];exact hvs
def back:Nat->List Oper->Bool
 | _,[]=>true
 | k,o :: l=>(o.after.all fun e=>decide (e.on < k)) && back (k+1) l
theorem gY:∀(l:List Oper) (k i:Nat) (o:Oper),back k l=true->l[i]?=some o->∀e ∈ o.after,e.on < k+i
 | [],_,_,_,_,h=>by simp at h
 | x :: l,k,0,o,hb,h=>by
  simp at h;subst h;simp only [back,Bool.and_eq_true,Array.all_eq_true_iff_forall_mem,decide_eq_true_eq] at hb;exact fun e he=>hb.1 e he
 | x :: l,k,i+1,o,hb,h=>by
  simp at h;simp only [back,Bool.and_eq_true] at hb;intro e he;have:=gY l (k+1) i o hb.2 h e he;omega
def mX (deps:Nat->List Nat):Nat->List Oper->Bool
 | _,[]=>true
 | k,o :: l=>((deps k).all fun d=>d == k || o.after.any fun e=>Region.binds .any e && (deps e.on).contains d) && mX deps (k+1) l
theorem mY (deps:Nat->List Nat):∀(l:List Oper) (k i:Nat) (o:Oper),mX deps k l=true->l[i]?=some o->∀d ∈ deps (k+i),d=k+i ∨ ∃e ∈ o.after,Region.binds .any e=true/\d ∈ deps e.on
 | [],_,_,_,_,h=>by simp at h
 | x :: l,k,0,o,hb,h=>by
  simp at h;subst h;simp only [mX,Bool.and_eq_true,List.all_eq_true,Bool.or_eq_true,beq_iff_eq,Array.any_eq_true',List.contains_eq_mem,decide_eq_true_eq] at hb;intro d hd;rcases hb.1 d hd with h1|⟨e,he,h2,h3⟩
  ·exact Or.inl h1
  ·exact Or.inr ⟨e,he,h2,h3⟩
 | x :: l,k,i+1,o,hb,h=>by
  simp at h;simp only [mX,Bool.and_eq_true] at hb;intro d hd;have:=mY deps l (k+1) i o hb.2 h d (by rw [show k+1+i=k+(i+1) by omega];exact hd);rwa [show k+1+i=k+(i+1) by omega] at this
def Step (P:Program) (l:List Oper) (Q:Exit->Act->World->Prop) (a0:Act) (B:World->Prop) (F:Nat->(Nat->Value)->World->Prop) (k:Nat) (o:Oper):Prop:=
 ∀(vs:Nat->Value) (w:World),B w->(∀e ∈ o.after,Region.binds .any e=true->F e.on vs w)->∀K:Act->World->Prop,(∀v w',B w'->F k (upd vs k v) w'->(∀j,j ≠ k->F j vs w->F j vs w')->K ((puts l 0 vs a0).put o.dst v) w')->if Region.wanted o (yielded l.toArray (puts l 0 vs a0).tmps)=true then Oper.wp P o (puts l 0 vs a0) w K Q else K ((puts l 0 vs a0).put o.dst undef) w
def Each (P:Program) (l:List Oper) (Q:Exit->Act->World->Prop) (a0:Act) (B:World->Prop) (F:Nat->(Nat->Value)->World->Prop):Nat->List Oper->Prop
 | _,[]=>True
 | k,o :: r=>Step P l Q a0 B F k o/\Each P l Q a0 B F (k+1) r
theorem Each.get {P:Program} {l:List Oper} {Q:Exit->Act->World->Prop} {a0:Act} {B:World->Prop} {F:Nat->(Nat->Value)->World->Prop}:∀(r:List Oper) (k i:Nat) (o:Oper),Each P l Q a0 B F k r->r[i]?=some o->Step P l Q a0 B F (k+i) o
 | [],_,_,_,_,h=>by simp at h
 | x :: r,k,0,o,hh,h=>by simp at h;subst h;exact hh.1
 | x :: r,k,i+1,o,hh,h=>by
  simp at h;have:=Each.get r (k+1) i o hh.2 h;rwa [show k+1+i=k+(i+1) by omega] at this
theorem IV {P:Program} {id:Nat} {l:List Oper} {Q:Exit->Act->World->Prop} {a0:Act} {w0:World} (hm:P.follows .mixedOrders=true) (hap:gJ l=true) (hbk:back 0 l=true)
  (B:World->Prop) (F:Nat->(Nat->Value)->World->Prop) (deps:Nat->List Nat) (hdp:mX deps 0 l=true)
  (hloc:∀j vs i v w,i ∉ deps j->F j vs w->F j (upd vs i v) w) (h0:B w0.drew) (hop:Each P l Q a0 B F 0 l)
  (hd:∀vs w,B w->(∀j,j < l.length->F j vs w)->Q .normal (puts l 0 vs a0) w):(Code.region id l.toArray true).wp P Q a0 w0:=by
 refine wp_region_any hm (IK (fun listed a w=>listed.size=l.length/\(∀j,listed.getD j false=true->∀d ∈ deps j,listed.getD d false=true)/\∃vs,a=puts l 0 vs a0/\B w/\∀j,listed.getD j false=true->F j vs w) ?_ ?_ _ _ _ _ (by rw [zn];exact Nat.le_refl _) ?_)
 ·rintro listed a w ⟨hsz,hcl,vs,rfl,hB,hF⟩ i hi;obtain ⟨hni,o,ho,hpre⟩:=mem_ready.1 hi;have ho':l[i]?=some o:=by simpa using ho
  have hil:i < l.length:=(List.getElem?_eq_some_iff.1 ho').1;have hnf:listed.getD i false=false:=by
   have:i < listed.size:=by omega
   simpa [this] using hni
  have hst:=Each.get l 0 i o hop ho';rw [Nat.zero_add] at hst;refine wpOp_step ho fun K hK=>?_;refine hst vs w hB (fun e he hb=>hF _ (hpre e he hb)) K fun v w' hB' hFi hFj=>hK _ _ ?_;have hset:∀j,(listed.setIfInBounds i true).getD j false=true->j=i ∨ listed.getD j false=true:=fun j hj=>by
   by_cases hji:i=j
   ·exact Or.inl hji.symm
   ·rw [getD_set_ne false hji] at hj;exact Or.inr hj
  refine ⟨by simp [hsz],fun j hj d hdd=>?_,upd vs i v,by have:=CP l 0 i o vs a0 v hap ho';rwa [Nat.zero_add] at this,hB',fun j hj=>?_⟩
  ·rcases hset j hj with rfl|hj'
   ·have:=mY deps l 0 j o hdp ho';rw [Nat.zero_add] at this;rcases this d hdd with rfl|⟨e,he,hb,hde⟩
    ·have:d < listed.size:=by omega
     simp [this]
    ·exact getD_set_true (hcl _ (hpre e he hb) d hde)
   ·exact getD_set_true (hcl j hj' d hdd)
  ·by_cases hji:j=i
   ·subst hji;exact hFi
   ·rcases hset j hj with h|hj'
    ·exact absurd h hji
    ·refine hloc j vs i v w' (fun hin=>?_) (hFj j hji (hF j hj'));rw [hcl j hj' i hin] at hnf;cases hnf
 ·rintro listed a w ⟨hsz,hcl,vs,rfl,hB,hF⟩ hr;refine hd vs w hB fun j hj=>hF j ?_;have all:∀n,∀j,j < n->j < l.length->listed.getD j false=true:=by
   intro n;induction n with
   | zero=>intro j h;omega
   | succ n ih =>
    intro j hjn hjl;rcases Nat.lt_or_ge j n with h|h
    ·exact ih j h hjl
    obtain rfl:j=n:=by omega
    have hoj:l[j]?=some l[j]:=List.getElem?_eq_getElem hjl;by_cases hc:listed.getD j false=true
    ·exact hc
    ·exfalso;have hjs:j < listed.size:=by omega
     have hmem:j ∈ Region.ready .any l.toArray listed:=mem_ready.2 ⟨by simpa [hjs] using hc,l[j],by simp,fun e he _=>by
      have:=gY l 0 j _ hbk hoj e he;exact ih e.on (by omega) (by omega)⟩
     rw [hr] at hmem;cases hmem
  exact all (j+1) j (by omega) hj
 ·obtain ⟨vs,hvs⟩:=CQ l 0 a0;refine ⟨by simp,fun j hj=>?_,vs,hvs.symm,h0,fun j hj=>?_⟩;all_goals
   exfalso;rw [Array.getD_eq_getD_getElem?,Array.getElem?_replicate] at hj;split at hj<;>simp at hj
def Pre (F:Nat->(Nat->Value)->World->Prop) (vs:Nat->Value) (w:World):List Edge->Prop
 | []=>True
 | e :: r=>(Region.binds .any e=true->F e.on vs w)/\Pre F vs w r
theorem Pre.of {F:Nat->(Nat->Value)->World->Prop} {vs:Nat->Value} {w:World}:∀(r:List Edge),(∀e ∈ r,Region.binds .any e=true->F e.on vs w)->Pre F vs w r
 | [],_=>trivial
 | e :: r,h=>⟨h e List.mem_cons_self,Pre.of r fun e he=>h e (List.mem_cons_of_mem _ he)⟩
def StepA (P:Program) (l:List Oper) (Q:Exit->Act->World->Prop) (a0:Act) (B:World->Prop) (F:Nat->(Nat->Value)->World->Prop) (k:Nat) (o:Oper):Prop:=
 ∀(vs:Nat->Value) (w:World) (A:Act),(∀t:Nat,A.tmps[t]?.getD undef=(puts l 0 vs a0).tmps[t]?.getD undef)->B w->Pre F vs w o.after.toList->∀K:Act->World->Prop,(∀v w',B w'->F k (upd vs k v) w'->(∀j,j ≠ k->F j vs w->F j vs w')->K (A.put o.dst v) w')->o.wp P A w K Q
def aH (P:Program) (l:List Oper) (Q:Exit->Act->World->Prop) (a0:Act) (B:World->Prop) (F:Nat->(Nat->Value)->World->Prop):Nat->List Oper->Prop
 | _,[]=>True
 | k,o :: r=>(o.guard=none/\StepA P l Q a0 B F k o)/\aH P l Q a0 B F (k+1) r
theorem aH.each {P:Program} {l:List Oper} {Q:Exit->Act->World->Prop} {a0:Act} {B:World->Prop} {F:Nat->(Nat->Value)->World->Prop}:∀(r:List Oper) (k:Nat),aH P l Q a0 B F k r->Each P l Q a0 B F k r
 | [],_,_=>trivial
 | o :: r,k,h=>⟨fun vs w hB hpre K hK=>by
   rw [if_pos (by simp [Region.wanted,h.1.1])];exact h.1.2 vs w _ (fun _=>rfl) hB (Pre.of _ fun e he=>hpre e (by simpa using he)) K hK,aH.each r (k+1) h.2⟩
theorem IX {P:Program} {id:Nat} {l:List Oper} {Q:Exit->Act->World->Prop} {a0:Act} {w0:World} (hm:P.follows .mixedOrders=true) (hap:gJ l=true) (hbk:back 0 l=true)
  (B:World->Prop) (F:Nat->(Nat->Value)->World->Prop) (deps:Nat->List Nat) (hdp:mX deps 0 l=true)
  (hloc:∀j vs i v w,i ∉ deps j->F j vs w->F j (upd vs i v) w) (h0:B w0.drew) (hop:aH P l Q a0 B F 0 l)
  (hd:∀vs w,B w->(∀j,j < l.length->F j vs w)->Q .normal (puts l 0 vs a0) w):(Code.region id l.toArray true).wp P Q a0 w0:=
 IV hm hap hbk B F deps hdp hloc h0 (aH.each l 0 hop) hd
def dn (P:Program) (l:List Oper) (Q:Exit->Act->World->Prop) (a0:Act) (B:World->Prop) (F:Nat->(Nat->Value)->World->Prop) (k:Nat) (o:Oper) (want:Bool) (d:Nat):Prop:=
 ∀(vs:Nat->Value) (w:World) (A:Act),(∀t:Nat,A.tmps[t]?.getD undef=(puts l 0 vs a0).tmps[t]?.getD undef)->B w->Pre F vs w o.after.toList->∃b:Bool,A.tmps[d]?.getD undef=.bool b/\(b=want->∀K:Act->World->Prop,(∀v w',B w'->F k (upd vs k v) w'->(∀j,j ≠ k->F j vs w->F j vs w')->K (A.put o.dst v) w')->o.wp P A w K Q)/\(b ≠ want->F k (upd vs k undef) w)
def aI (P:Program) (l:List Oper) (Q:Exit->Act->World->Prop) (a0:Act) (B:World->Prop) (F:Nat->(Nat->Value)->World->Prop):Nat->List Oper->Prop
 | _,[]=>True
 | k,o :: r=>((o.guard=none/\StepA P l Q a0 B F k o) ∨ ∃(j:Nat) (want:Bool) (d:Nat),o.guard=some (j,want)/\(l[j]?).bind (·.dst)=some d/\dn P l Q a0 B F k o want d)/\aI P l Q a0 B F (k+1) r
theorem Jd {l:List Oper} {A:Act} {j d:Nat} {b:Bool} (hd:(l[j]?).bind (·.dst)=some d) (hb:A.tmps[d]?.getD undef=.bool b):yielded l.toArray A.tmps j=some b:=by
 have h:A.tmps[d]?=some (.bool b):=by
  cases hx:A.tmps[d]? with
  | none=>rw [hx] at hb;cases hb
  | some v=>rw [hx] at hb;exact congrArg some hb
 unfold yielded;rw [List.getElem?_toArray,hd];show (match A.tmps[d]? with|some (.bool b)=>some b|_=>none)=some b;rw [h]
theorem aI.each {P:Program} {l:List Oper} {Q:Exit->Act->World->Prop} {a0:Act} {B:World->Prop} {F:Nat->(Nat->Value)->World->Prop}:∀(r:List Oper) (k:Nat),aI P l Q a0 B F k r->Each P l Q a0 B F k r
 | [],_,_=>trivial
 | o :: r,k,h=>⟨fun vs w hB hpre K hK=>by
   rcases h.1 with h1|⟨j,want,d,hg,hd,hs⟩
   ·rw [if_pos (by simp [Region.wanted,h1.1])];exact h1.2 vs w _ (fun _=>rfl) hB (Pre.of _ fun e he=>hpre e (by simpa using he)) K hK
   ·obtain ⟨b,hb,hy,hn⟩:=hs vs w (puts l 0 vs a0) (fun _=>rfl) hB (Pre.of _ fun e he=>hpre e (by simpa using he));have hw:Region.wanted o (yielded l.toArray (puts l 0 vs a0).tmps)=(b == want):=by
     unfold Region.wanted;rw [hg];show (yielded l.toArray (puts l 0 vs a0).tmps j == some want)=_;rw [Jd hd hb];cases b<;>cases want<;>rfl
    rw [hw];by_cases e:b=want
    ·rw [if_pos (by simp [e])];exact hy e K hK
    ·rw [if_neg (by simp [e])];exact hK undef w hB (hn e) (fun _ _ h=>h),aI.each r (k+1) h.2⟩
theorem I4 {P:Program} {id:Nat} {l:List Oper} {Q:Exit->Act->World->Prop} {a0:Act} {w0:World} (hm:P.follows .mixedOrders=true) (hap:gJ l=true) (hbk:back 0 l=true)
  (B:World->Prop) (F:Nat->(Nat->Value)->World->Prop) (deps:Nat->List Nat) (hdp:mX deps 0 l=true)
  (hloc:∀j vs i v w,i ∉ deps j->F j vs w->F j (upd vs i v) w) (h0:B w0.drew) (hop:aI P l Q a0 B F 0 l)
  (hd:∀vs w,B w->(∀j,j < l.length->F j vs w)->Q .normal (puts l 0 vs a0) w):(Code.region id l.toArray true).wp P Q a0 w0:=
 IV hm hap hbk B F deps hdp hloc h0 (aI.each l 0 hop) hd
theorem wI {F:Nat->Value->World->Prop} (j:Nat) (vs:Nat->Value) (i:Nat) (v:Value) (w:World) (hi:i ∉ [j]) (h:F j (vs j) w):F j (upd vs i v j) w:=by
 rw [upd_ne vs v (fun e=>hi (by rw [e];exact List.mem_singleton.2 rfl))];exact h
end Ri
namespace Ex
open Go.RowKit
open Wo (Wd tV jI jQ qL iU jg)
theorem xJ (x:Tx):(mk x).toList=x:=by rw [Lib.toList_data,xI]
theorem xH (x y:Tx):((mk x).toList == (mk y).toList)=decide (x=y):=by
 rw [xJ,xJ,Bool.eq_iff_iff];simp
theorem xE (s:Tx):(mk s).toList.isEmpty=decide (s=[]):=by
 rw [xJ];cases s<;>simp
theorem cells5 {w:World} {g:Nat} {a b c d e:Value} {T:TypeId} (h:w.heap[g]?=some (.cells #[a,b,c,d,e] T (0,0))):w.cell? ⟨g,0,none⟩=some a/\w.cell? ⟨g,1,none⟩=some b/\w.cell? ⟨g,2,none⟩=some c/\w.cell? ⟨g,3,none⟩=some d/\w.cell? ⟨g,4,none⟩=some e:=by
 refine ⟨?_,?_,?_,?_,?_⟩<;>(rw [cell_of_row w g _ _ T (0,0) h];rfl)
theorem ku {w:World} {g:Nat} {a b c d e f:Value} {T:TypeId} (h:w.heap[g]?=some (.cells #[a,b,c,d,e,f] T (0,0))):w.cell? ⟨g,0,none⟩=some a/\w.cell? ⟨g,1,none⟩=some b/\w.cell? ⟨g,2,none⟩=some c/\w.cell? ⟨g,3,none⟩=some d/\w.cell? ⟨g,4,none⟩=some e/\w.cell? ⟨g,5,none⟩=some f:=by
 refine ⟨?_,?_,?_,?_,?_,?_⟩<;>(rw [cell_of_row w g _ _ T (0,0) h];rfl)
theorem LY {x l:Tx} (h:x=l):((mk x).toList == l)=true:=by rw [xJ,h];simp
theorem LX {x l:Tx} (h:¬ x=l):((mk x).toList == l)=false:=by rw [xJ];simpa using h
def aO (f:Ed):Prop:=(f.a.length<=281474976710656/\f.b.length<=281474976710656)/\(-9223372036854775808<=f.kind/\f.kind<=9223372036854775807)/\(-9223372036854775808<=f.n/\f.n<=9223372036854775807)
end Ex
end Go.Proofs.YtfbfeoplldjbpaaGreatDoor
