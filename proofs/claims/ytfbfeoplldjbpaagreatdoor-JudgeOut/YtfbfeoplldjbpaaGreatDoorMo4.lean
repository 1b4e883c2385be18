/-
  Texts put together (merge.py): DDate, LMem, XMem, XApp.
-/
import Derived.WalkKit
import Derived.Lib.Hide
import Derived.BigQuiet
import Derived.Deep.LoopGhost
import Derived.Deep.RegionHeld3
import Derived.WalkLawsBesides
import Derived.Laws.AppendOwn
import Derived.Deep.AppendLies
import Derived.Maps.AppendAt
import Derived.Test.YtfbfeoplldjbpaaGreatDoorProg
import Derived.Test.YtfbfeoplldjbpaaGreatDoorMo2
import Derived.Test.YtfbfeoplldjbpaaGreatDoorMo3
set_option linter.unusedSimpArgs false
set_option linter.unusedVariables false
set_option maxHeartbeats 16000000
set_option maxRecDepth 100000
section
namespace Go.Proofs.YtfbfeoplldjbpaaGreatDoor.Da
open Go.RowKit
def Tab (w:World):Prop:=∀i:Nat,i < 12->w.cell? ⟨2,i,none⟩=some (.int .i64 (lens.getD i 0))
theorem uQ (y:Int) (w:World) (h:0<=y) :
  Calls Tryz.prog 164 #[.int .i64 y] w fun e w'=>e=.returned (.bool (uP y))/\w'=w:=by
 unfold uP
 cases h1:(y % 4 == 0)<;>cases h2:(y % 100 != 0)<;>cases h3:(y % 400 == 0) <;>
 ·go_enter Tryz.func164,Tryz.ntmps164
  go_wp2
  go_ret
  exact ⟨by first|rfl|simp [h1,h2,h3],rfl⟩
theorem GR {w:World} (hT:Tab w):w.cell? ⟨2,0,none⟩=some (.int .i64 31)/\w.cell? ⟨2,1,none⟩=some (.int .i64 28)/\w.cell? ⟨2,2,none⟩=some (.int .i64 31)/\w.cell? ⟨2,3,none⟩=some (.int .i64 30)/\w.cell? ⟨2,4,none⟩=some (.int .i64 31)/\w.cell? ⟨2,5,none⟩=some (.int .i64 30) ∧
  w.cell? ⟨2,6,none⟩=some (.int .i64 31)/\w.cell? ⟨2,7,none⟩=some (.int .i64 31)/\w.cell? ⟨2,8,none⟩=some (.int .i64 30)/\w.cell? ⟨2,9,none⟩=some (.int .i64 31)/\w.cell? ⟨2,10,none⟩=some (.int .i64 30)/\w.cell? ⟨2,11,none⟩=some (.int .i64 31):=
 ⟨hT 0 (by decide),hT 1 (by decide),hT 2 (by decide),hT 3 (by decide),hT 4 (by decide),hT 5 (by decide),hT 6 (by decide),hT 7 (by decide),hT 8 (by decide),hT 9 (by decide),hT 10 (by decide),hT 11 (by decide)⟩
theorem uX (y m:Int) (w:World) (hT:Tab w) (h:0<=y) (h1:1<=m) (h2:m<=12) :
  Calls Tryz.prog 144 #[.int .i64 y,.int .i64 m] w fun e w'=>e=.returned (.int .i64 (uU y m))/\w'=w:=by
 obtain ⟨c0,c1,c2,c3,c4,c5,c6,c7,c8,c9,c10,c11⟩:=GR hT
 clear hT
 rcases yj m h1 h2 with rfl|rfl|rfl|rfl|rfl|rfl|rfl|rfl|rfl|rfl|rfl|rfl
 case inr.inl =>
  cases b:uP y
  ·go_enter Tryz.func144,Tryz.ntmps144
   go_wp2_with (go_at_call 164;refine (uQ _ _ h).mono ?_;rintro e w' ⟨rfl,rfl⟩)
   go_ret
   exact ⟨by simp [uU,b,uV,lens],rfl⟩
  ·go_enter Tryz.func144,Tryz.ntmps144
   go_wp2_with (go_at_call 164;refine (uQ _ _ h).mono ?_;rintro e w' ⟨rfl,rfl⟩)
   go_ret
   exact ⟨by simp [uU,b],rfl⟩
 all_goals
  go_enter Tryz.func144,Tryz.ntmps144
  go_wp2
  go_ret
  exact ⟨rfl,rfl⟩
theorem CS (n k:Int) (h:-9223372036854775808<=n) (h':n<=9223372036854775807) (hk:1<=k):-9223372036854775808<=n.tdiv k/\n.tdiv k<=9223372036854775807:=by
 have l:∀a:Int,0<=a->0<=a.tdiv k/\a.tdiv k<=a:=fun a ha=>by
  rw [Int.tdiv_eq_ediv_of_nonneg ha]
  exact ⟨Int.ediv_nonneg ha (by omega),Int.ediv_le_self _ ha⟩
 rcases Int.lt_or_le n 0 with c|c
 ·have:=l (-n) (by omega)
  rw [Int.neg_tdiv] at this
  omega
 ·have:=l n c
  omega
theorem FY (n:Int) (w:World) (h:-9223372036854775808<=n) (h':n<=9223372036854775807) :
  Calls Tryz.prog 118 #[.int .i64 n] w fun e w'=>e=.returned (.tuple #[.int .i64 (yr n),.int .i64 (mo n),.int .i64 (da n)])/\w'=w:=by
 unfold yr mo da
 obtain ⟨b1,b2⟩:=CS n 10000 h h' (by omega)
 obtain ⟨b3,b4⟩:=CS n 100 h h' (by omega)
 go_enter Tryz.func118,Tryz.ntmps118
 go_wp2
 exact bodyPost_ret (v:=.tuple #[.int .i64 (n.tdiv 10000),.int .i64 ((n.tdiv 100).tmod 100),.int .i64 (n.tmod 100)]) (by simp [results,Tryz.results118,go_sem]) rfl ⟨rfl,rfl⟩
theorem qh (n:Int) (w:World) (hT:Tab w) (h:-9223372036854775808<=n) (h':n<=9223372036854775807) :
  Calls Tryz.prog 107 #[.int .i64 n] w fun e w'=>e=.returned (.bool (good n))/\w'=w:=by
 by_cases c1:yr n < 1
 ·have g:good n=false:=by simp [good];omega
  rw [g]
  go_enter Tryz.func107,Tryz.ntmps107
  go_wp2_with (go_at_call 118;refine (FY _ _ h h').mono ?_;rintro e w' ⟨rfl,rfl⟩)
  go_ret
  exact ⟨rfl,rfl⟩
 by_cases c2:yr n > 9999
 ·have g:good n=false:=by simp [good];omega
  rw [g]
  go_enter Tryz.func107,Tryz.ntmps107
  go_wp2_with (go_at_call 118;refine (FY _ _ h h').mono ?_;rintro e w' ⟨rfl,rfl⟩)
  go_ret
  exact ⟨rfl,rfl⟩
 by_cases c3:mo n < 1
 ·have g:good n=false:=by simp [good];omega
  rw [g]
  go_enter Tryz.func107,Tryz.ntmps107
  go_wp2_with (go_at_call 118;refine (FY _ _ h h').mono ?_;rintro e w' ⟨rfl,rfl⟩)
  go_ret
  exact ⟨rfl,rfl⟩
 by_cases c4:mo n > 12
 ·have g:good n=false:=by simp [good];omega
  rw [g]
  go_enter Tryz.func107,Tryz.ntmps107
  go_wp2_with (go_at_call 118;refine (FY _ _ h h').mono ?_;rintro e w' ⟨rfl,rfl⟩)
  go_ret
  exact ⟨rfl,rfl⟩
 by_cases c5:1<=da n
 ·by_cases c6:da n<=uU (yr n) (mo n)
  ·have g:good n=true:=by simp [good];omega
   rw [g]
   go_enter Tryz.func107,Tryz.ntmps107
   go_wp2_with (first|(go_at_call 118;refine (FY _ _ h h').mono ?_;rintro e w' ⟨rfl,rfl⟩)|(go_at_call 144;refine (uX _ _ _ hT (by omega) (by omega) (by omega)).mono ?_;rintro e w' ⟨rfl,rfl⟩))
   go_ret
   exact ⟨rfl,rfl⟩
  ·have g:good n=false:=by simp [good];omega
   have d6:decide (da n<=uU (yr n) (mo n))=false:=by simpa using c6
   rw [g]
   go_enter Tryz.func107,Tryz.ntmps107
   go_wp2_with (first|(go_at_call 118;refine (FY _ _ h h').mono ?_;rintro e w' ⟨rfl,rfl⟩)|(go_at_call 144;refine (uX _ _ _ hT (by omega) (by omega) (by omega)).mono ?_;rintro e w' ⟨rfl,rfl⟩))
   go_ret
   exact ⟨rfl,rfl⟩
 ·have g:good n=false:=by simp [good];omega
  rw [g]
  go_enter Tryz.func107,Tryz.ntmps107
  go_wp2_with (go_at_call 118;refine (FY _ _ h h').mono ?_;rintro e w' ⟨rfl,rfl⟩)
  go_ret
  exact ⟨rfl,rfl⟩
def I9 (n:Int):Int:=if good n=true then yr n else 0
theorem Jb (n:Int) (w:World) (hT:Tab w) (h:-9223372036854775808<=n) (h':n<=9223372036854775807) :
  Calls Tryz.prog 74 #[.int .i64 n] w fun e w'=>e=.returned (.int .i64 (I9 n))/\w'=w:=by
 cases g:good n
 ·have e:I9 n=0:=by simp [I9,g]
  go_enter Tryz.func74,Tryz.ntmps74
  go_wp2_with (go_at_call 107;refine (qh _ _ hT h h').mono ?_;rintro e w' ⟨rfl,rfl⟩)
  go_ret
  exact ⟨by rw [e];rfl,rfl⟩
 ·have e:I9 n=yr n:=by simp [I9,g]
  go_enter Tryz.func74,Tryz.ntmps74
  go_wp2_with (first|(go_at_call 107;refine (qh _ _ hT h h').mono ?_;rintro e w' ⟨rfl,rfl⟩)|(go_at_call 118;refine (FY _ _ h h').mono ?_;rintro e w' ⟨rfl,rfl⟩))
  go_ret
  exact ⟨by rw [e];rfl,rfl⟩
end Go.Proofs.YtfbfeoplldjbpaaGreatDoor.Da
end
section
namespace Go.Proofs.YtfbfeoplldjbpaaGreatDoor.Cm
open Go.RowKit
abbrev lnv (x:Ln) (m:Value):Value:=.agg #[.string (mk x.proc),m,.int .i64 x.date,.int .i64 x.units,.int .i64 x.billed,.int .i64 x.prior]
abbrev clv (c:Cl) (m:Value):Value:=.agg #[.string (mk c.id),.string (mk c.mem),.string (mk c.fam),.int .i64 c.net,.int .i64 c.does,.string (mk c.ref),m]
def bg (w:World) (b o:Nat) (x:Ln) (m:Value):Prop:=
 w.cell? ⟨b,o,none⟩=some (.string (mk x.proc))/\w.cell? ⟨b,o+1,none⟩=some m/\w.cell? ⟨b,o+2,none⟩=some (.int .i64 x.date)/\w.cell? ⟨b,o+3,none⟩=some (.int .i64 x.units)/\w.cell? ⟨b,o+4,none⟩=some (.int .i64 x.billed)/\w.cell? ⟨b,o+5,none⟩=some (.int .i64 x.prior)
def aA (w:World) (b o:Nat) (c:Cl) (m:Value):Prop:=
 w.cell? ⟨b,o,none⟩=some (.string (mk c.id))/\w.cell? ⟨b,o+1,none⟩=some (.string (mk c.mem))/\w.cell? ⟨b,o+2,none⟩=some (.string (mk c.fam))/\w.cell? ⟨b,o+3,none⟩=some (.int .i64 c.net)/\w.cell? ⟨b,o+4,none⟩=some (.int .i64 c.does)/\w.cell? ⟨b,o+5,none⟩=some (.string (mk c.ref))/\w.cell? ⟨b,o+6,none⟩=some m
def bH (K:Nat->Prop) (w:World) (v:Value) (ls:List Ln):Prop:=
 ∃a c,v=.slice a ls.length c/\ls.length<=c/\c<=maxLen/\(ls=[] ∨ ∃b o,a=some ⟨b,o,none⟩/\K b/\b < w.heap.size/\∀(j:Nat) x,ls[j]?=some x->∃m,bg w b (o+j * 6) x m/\dI K w m x.mods)
def aG (K:Nat->Prop) (w:World) (v:Value) (cs:List Cl):Prop:=
 ∃a c,v=.slice a cs.length c/\cs.length<=c/\c<=maxLen/\(cs=[] ∨ ∃b o,a=some ⟨b,o,none⟩/\K b/\b < w.heap.size/\∀(j:Nat) x,cs[j]?=some x->∃m,aA w b (o+j * 7) x m/\bH K w m x.lines)
theorem bg.of {w w':World} {b o:Nat} {x:Ln} {m:Value} (h:bg w b o x m) (he:w'.heap[b]?=w.heap[b]?):bg w' b o x m:=by
 obtain ⟨h0,h1,h2,h3,h4,h5⟩:=h
 refine ⟨?_,?_,?_,?_,?_,?_⟩<;>rw [World.cell?_of_block (w:=w) he]<;>assumption
theorem aA.of {w w':World} {b o:Nat} {x:Cl} {m:Value} (h:aA w b o x m) (he:w'.heap[b]?=w.heap[b]?):aA w' b o x m:=by
 obtain ⟨h0,h1,h2,h3,h4,h5,h6⟩:=h
 refine ⟨?_,?_,?_,?_,?_,?_,?_⟩<;>rw [World.cell?_of_block (w:=w) he]<;>assumption
theorem bH.move {K K':Nat->Prop} {w w':World} {v:Value} {ls:List Ln} (h:bH K w v ls) (hm:Moves K K' w w'):bH K' w' v ls:=by
 obtain ⟨a,c,rfl,h1,h2,h3⟩:=h
 refine ⟨a,c,rfl,h1,h2,h3.imp id ?_⟩
 rintro ⟨b,o,rfl,hk,hb,hc⟩
 obtain ⟨k',hh⟩:=hm.2 b hb hk
 refine ⟨b,o,rfl,k',Nat.lt_of_lt_of_le hb hm.1,fun j x hj=>?_⟩
 obtain ⟨m,hu,hr⟩:=hc j x hj
 exact ⟨m,hu.of hh,dI.move hr hm⟩
theorem aG.move {K K':Nat->Prop} {w w':World} {v:Value} {cs:List Cl} (h:aG K w v cs) (hm:Moves K K' w w'):aG K' w' v cs:=by
 obtain ⟨a,c,rfl,h1,h2,h3⟩:=h
 refine ⟨a,c,rfl,h1,h2,h3.imp id ?_⟩
 rintro ⟨b,o,rfl,hk,hb,hc⟩
 obtain ⟨k',hh⟩:=hm.2 b hb hk
 refine ⟨b,o,rfl,k',Nat.lt_of_lt_of_le hb hm.1,fun j x hj=>?_⟩
 obtain ⟨m,hu,hr⟩:=hc j x hj
 exact ⟨m,hu.of hh,bH.move hr hm⟩
theorem bH.get {K:Nat->Prop} {w:World} {a:Option Addr} {n c:Nat} {ls:List Ln} (h:bH K w (.slice a n c) ls) (k:Nat) (hk:k < ls.length) :
  ∃b o m,a=some ⟨b,o,none⟩/\ls[k]?=some ls[k]/\bg w b (o+k * 6) ls[k] m/\dI K w m ls[k].mods:=by
 obtain ⟨a',c',he,h1,h2,h3⟩:=h
 have ha:a=a':=by injection he
 subst ha
 rcases h3 with h|⟨b,o,ha,_,_,hc⟩
 ·subst h;simp at hk
 ·have hx:=List.getElem?_eq_getElem hk
  obtain ⟨m,q1,q2⟩:=hc k _ hx
  exact ⟨b,o,m,ha,hx,q1,q2⟩
theorem aG.get {K:Nat->Prop} {w:World} {a:Option Addr} {n c:Nat} {ls:List Cl} (h:aG K w (.slice a n c) ls) (k:Nat) (hk:k < ls.length) :
  ∃b o m,a=some ⟨b,o,none⟩/\ls[k]?=some ls[k]/\aA w b (o+k * 7) ls[k] m/\bH K w m ls[k].lines:=by
 obtain ⟨a',c',he,h1,h2,h3⟩:=h
 have ha:a=a':=by injection he
 subst ha
 rcases h3 with h|⟨b,o,ha,_,_,hc⟩
 ·subst h;simp at hk
 ·have hx:=List.getElem?_eq_getElem hk
  obtain ⟨m,q1,q2⟩:=hc k _ hx
  exact ⟨b,o,m,ha,hx,q1,q2⟩
theorem He {K:Nat->Prop} {w:World} {a:Option Addr} {n c:Nat} {xs:List Tx} (h:dI K w (.slice a n c) xs) (k:Nat) (hk:k < xs.length) :
  ∃b o,a=some ⟨b,o,none⟩/\xs[k]?=some xs[k]/\w.cell? ⟨b,o+k,none⟩=some (.string (mk xs[k])):=by
 obtain ⟨a',c',he,h1,h2,h3⟩:=h
 have ha:a=a':=by injection he
 subst ha
 rcases h3 with h|⟨b,o,ha,_,_,hc⟩
 ·subst h;simp at hk
 ·have hx:=List.getElem?_eq_getElem hk
  obtain ⟨m,q1,rfl⟩:=hc k _ hx
  exact ⟨b,o,ha,hx,q1⟩
theorem dI.form {K:Nat->Prop} {w:World} {v:Value} {xs:List Tx} (h:dI K w v xs):∃a c,v=.slice a xs.length c/\xs.length<=c/\c<=9223372036854775807:=by
 obtain ⟨a,c,rfl,h1,h2,_⟩:=h
 exact ⟨a,c,rfl,h1,by unfold maxLen at h2;exact h2⟩
theorem bH.form {K:Nat->Prop} {w:World} {v:Value} {xs:List Ln} (h:bH K w v xs):∃a c,v=.slice a xs.length c/\xs.length<=c/\c<=9223372036854775807:=by
 obtain ⟨a,c,rfl,h1,h2,_⟩:=h
 exact ⟨a,c,rfl,h1,by unfold maxLen at h2;exact h2⟩
theorem aG.form {K:Nat->Prop} {w:World} {v:Value} {xs:List Cl} (h:aG K w v xs):∃a c,v=.slice a xs.length c/\xs.length<=c/\c<=9223372036854775807:=by
 obtain ⟨a,c,rfl,h1,h2,_⟩:=h
 exact ⟨a,c,rfl,h1,by unfold maxLen at h2;exact h2⟩
theorem iU (w:World) (o:Obj):Below w.heap.size w (w.alloc o):=(Below.refl _ w).alloc (Nat.le_refl _) o
theorem jg {a b c:World} (h:Below a.heap.size a b) (k:Below b.heap.size b c):Below a.heap.size a c:=h.trans (k.mono h.size)
theorem iY {w w':World} (h:∃q,w'=w.drewN q):Below w.heap.size w w':=by
 obtain ⟨q,rfl⟩:=h
 exact (Below.refl _ _).trans ⟨rfl,rfl,rfl,Nat.le_refl _,fun _ _=>rfl⟩
theorem tab_below {w w':World} (h:Da.Tab w) (hb:Below w.heap.size w w'):Da.Tab w':=fun i hi=>by
 have c:=h i hi
 rw [hb.cell (p:=⟨2,i,none⟩) (World.block_lt_of_cell? w ⟨2,i,none⟩ c)]
 exact c
def bf (w:World) (b:Nat) (x:Ln) (m:Value):Prop:=
 w.cell? ⟨b,0,none⟩=some (.string (mk x.proc))/\w.cell? ⟨b,1,none⟩=some m/\w.cell? ⟨b,2,none⟩=some (.int .i64 x.date)/\w.cell? ⟨b,3,none⟩=some (.int .i64 x.units)/\w.cell? ⟨b,4,none⟩=some (.int .i64 x.billed)/\w.cell? ⟨b,5,none⟩=some (.int .i64 x.prior)
def ay (w:World) (b:Nat) (c:Cl) (m:Value):Prop:=
 w.cell? ⟨b,0,none⟩=some (.string (mk c.id))/\w.cell? ⟨b,1,none⟩=some (.string (mk c.mem))/\w.cell? ⟨b,2,none⟩=some (.string (mk c.fam))/\w.cell? ⟨b,3,none⟩=some (.int .i64 c.net)/\w.cell? ⟨b,4,none⟩=some (.int .i64 c.does)/\w.cell? ⟨b,5,none⟩=some (.string (mk c.ref))/\w.cell? ⟨b,6,none⟩=some m
theorem bf.new (w:World) (x:Ln) (m:Value) (t:TypeId):bf (w.alloc (.cells #[.string (mk x.proc),m,.int .i64 x.date,.int .i64 x.units,.int .i64 x.billed,.int .i64 x.prior] t)) w.heap.size x m:=by
 refine ⟨?_,?_,?_,?_,?_,?_⟩<;>simp
theorem ay.new (w:World) (c:Cl) (m:Value) (t:TypeId):ay (w.alloc (.cells #[.string (mk c.id),.string (mk c.mem),.string (mk c.fam),.int .i64 c.net,.int .i64 c.does,.string (mk c.ref),m] t)) w.heap.size c m:=by
 refine ⟨?_,?_,?_,?_,?_,?_,?_⟩<;>simp
theorem bf.grw {w w':World} {b:Nat} {x:Ln} {m:Value} (h:bf w b x m) (hb:Below w.heap.size w w'):bf w' b x m:=by
 obtain ⟨h0,h1,h2,h3,h4,h5⟩:=h
 have hl:=World.block_lt_of_cell? w _ h0
 refine ⟨?_,?_,?_,?_,?_,?_⟩<;>rw [World.cell?_of_block (w:=w) (hb.block b hl)]<;>assumption
theorem ay.grw {w w':World} {b:Nat} {x:Cl} {m:Value} (h:ay w b x m) (hb:Below w.heap.size w w'):ay w' b x m:=by
 obtain ⟨h0,h1,h2,h3,h4,h5,h6⟩:=h
 have hl:=World.block_lt_of_cell? w _ h0
 refine ⟨?_,?_,?_,?_,?_,?_,?_⟩<;>rw [World.cell?_of_block (w:=w) (hb.block b hl)]<;>assumption
end Go.Proofs.YtfbfeoplldjbpaaGreatDoor.Cm
end
section
namespace Go.Proofs.YtfbfeoplldjbpaaGreatDoor.Ex
open Go.RowKit
open Wo (tV jI jQ qL iU jg)
def ec (f:Ed):List Value:=[.int .i64 f.kind,.string (mk f.a),.string (mk f.b),.bool f.bypass,.int .i64 f.n]
abbrev edv (f:Ed):Value:=.agg #[.int .i64 f.kind,.string (mk f.a),.string (mk f.b),.bool f.bypass,.int .i64 f.n]
def aN (w:World) (b o:Nat) (f:Ed):Prop:=
 w.cell? ⟨b,o,none⟩=some (.int .i64 f.kind)/\w.cell? ⟨b,o+1,none⟩=some (.string (mk f.a))/\w.cell? ⟨b,o+2,none⟩=some (.string (mk f.b))/\w.cell? ⟨b,o+3,none⟩=some (.bool f.bypass)/\w.cell? ⟨b,o+4,none⟩=some (.int .i64 f.n)
theorem aN.of {w w':World} {b o:Nat} {x:Ed} (h:aN w b o x) (he:w'.heap[b]?=w.heap[b]?):aN w' b o x:=by
 obtain ⟨h0,h1,h2,h3,h4⟩:=h
 refine ⟨?_,?_,?_,?_,?_⟩<;>rw [World.cell?_of_block (w:=w) he]<;>assumption
def aP (K:Nat->Prop) (w:World) (v:Value) (l:List Ed):Prop:=
 ∃a c,v=.slice a l.length c/\l.length<=c/\c<=maxLen/\(l=[] ∨ ∃b o,a=some ⟨b,o,none⟩/\K b/\b < w.heap.size/\∀(j:Nat) x,l[j]?=some x->aN w b (o+j * 5) x)
theorem aP.move {K K':Nat->Prop} {w w':World} {v:Value} {l:List Ed} (h:aP K w v l) (hm:Moves K K' w w'):aP K' w' v l:=by
 obtain ⟨a,c,rfl,h1,h2,h3⟩:=h
 refine ⟨a,c,rfl,h1,h2,h3.imp id ?_⟩
 rintro ⟨b,o,rfl,hk,hb,hc⟩
 obtain ⟨k',hh⟩:=hm.2 b hb hk
 exact ⟨b,o,rfl,k',Nat.lt_of_lt_of_le hb hm.1,fun j x hj=>(hc j x hj).of hh⟩
theorem aP.grw {w w':World} {v:Value} {l:List Ed} (h:aP All w v l) (hb:Below w.heap.size w w'):aP All w' v l:=h.move (Below.moves hb)
theorem aP.nil (K:Nat->Prop) (w:World):aP K w (.slice none 0 0) []:=⟨none,0,rfl,by simp,by simp [maxLen],Or.inl rfl⟩
theorem aP.form {K:Nat->Prop} {w:World} {v:Value} {xs:List Ed} (h:aP K w v xs):∃a c,v=.slice a xs.length c/\xs.length<=c/\c<=9223372036854775807:=by
 obtain ⟨a,c,rfl,h1,h2,_⟩:=h
 exact ⟨a,c,rfl,h1,by unfold maxLen at h2;exact h2⟩
theorem aP.get {K:Nat->Prop} {w:World} {a:Option Addr} {n c:Nat} {ls:List Ed} (h:aP K w (.slice a n c) ls) (k:Nat) (hk:k < ls.length) :
  ∃b o,a=some ⟨b,o,none⟩/\b < w.heap.size/\ls[k]?=some ls[k]/\aN w b (o+k * 5) ls[k]:=by
 obtain ⟨a',c',he,h1,h2,h3⟩:=h
 have ha:a=a':=by injection he
 subst ha
 rcases h3 with h|⟨b,o,ha,_,hb,hc⟩
 ·subst h;simp at hk
 ·have hx:=List.getElem?_eq_getElem hk
  exact ⟨b,o,ha,hb,hx,hc k _ hx⟩
end Go.Proofs.YtfbfeoplldjbpaaGreatDoor.Ex
end
section
namespace Go.Proofs.YtfbfeoplldjbpaaGreatDoor.Ex
open Go.RowKit
open Wo (Wd tV jI jQ qL iU jg)
end Go.Proofs.YtfbfeoplldjbpaaGreatDoor.Ex
end
