/-
  Texts put together (merge.py): PIs, PChd, PChb, PRRu, PCha.
-/
import Derived.Test.YtfbfeoplldjbpaaGreatDoorMo13
set_option linter.unusedSimpArgs false
set_option linter.unusedVariables false
set_option maxHeartbeats 16000000
set_option maxRecDepth 100000
section
namespace Go.Proofs.YtfbfeoplldjbpaaGreatDoor.Pl
open Go.RowKit
open Wo (Wd jI jQ tV qL)
theorem sN (s:St) (k:Int) (p:Nat) (w:World) (hp:w.heap[p]?=some (.cells #[.int .i64 k] 3 (0,0))) :
  Calls Tryz.prog 163 #[stv s,.pointer (some ⟨p,0,none⟩)] w fun e w'=>e=.returned (.bool (s.what == k))/\Below w.heap.size w w':=by
 have hb:=iU w (.cells #[.int .i64 s.what,.int .i64 s.n] 85)
 obtain ⟨c0,-⟩:=jI (tV hp hb)
 have HB:=Lib.hid hb
 clear hb hp
 go_enter Tryz.func163,Tryz.ntmps163
 go_wp2
 go_ret
 exact ⟨rfl,HB.out⟩
theorem rM (v:Value) (ss:List St) (k:Int) (p:Nat) (w:World) (h:dD All w v ss) (hp:w.heap[p]?=some (.cells #[.int .i64 k] 3 (0,0))) :
  Calls Tryz.prog 173 #[v,.func (.func 163) #[] #[.pointer (some ⟨p,0,none⟩)]] w fun e w'=>(∃n:Int,e=.returned (.int .i64 n)/\(decide (0<=n)=decide (k ∈ ss.map (·.what))))/\Below w.heap.size w w':=by
 have HS:=Lib.hid h
 have HP:=Lib.hid hp
 obtain ⟨a,c,rfl,h1,h2,h4⟩:=h.form
 have HB0:=Lib.hid (Below.refl w.heap.size w)
 clear h hp
 go_enter Tryz.func173,Tryz.ntmps173
 go_wp2
 go_loopg [8] (ss.length) (fun g i wr=>∃(n:Nat),n<=ss.length/\g=ss.length - n/\i=.int .i64 n/\Hid (Below w.heap.size w wr)/\Hid (k ∉ (ss.take n).map (·.what)))
 case atStart=>exact ⟨0,Nat.zero_le _,rfl,rfl,HB0.out,by show _ ∉ _;simp⟩
 case round =>
  clear HB0
  obtain ⟨n,hk,hg,rfl,HB,HA⟩:=hrel
  by_cases hlt:n < ss.length
  ·obtain ⟨b,o,rfl,hbs,hx,hu0,hu1,-,-⟩:=dD.get (HS.out.grw HB.out) n hlt
   have HC:=Lib.hid fun W (hW:W.heap[p]?=some (.cells #[.int .i64 k] 3 (0,0)))=>sN ss[n] k p W hW
   have HP1:=Lib.hid (tV HP.out HB.out)
   have HH:Hid (ss[n].what=k->k ∈ ss.map (·.what)):=fun e=>by rw [←e];exact List.mem_map_of_mem (List.getElem_mem hlt)
   have HN:Hid (¬ ss[n].what=k->k ∉ (ss.take (n+1)).map (·.what)):=fun he=>by
    show k ∉ (ss.take (n+1)).map (·.what)
    rw [List.take_add_one,hx]
    simp only [Option.toList_some,List.map_append,List.map_cons,List.map_nil,List.mem_append,List.mem_singleton,not_or]
    exact ⟨HA.out,fun e=>he e.symm⟩
   clear hx
   generalize ss[n]=x at *
   by_cases he:x.what=k
   ·have hq:(x.what == k)=true:=by simpa using he
    have HH2:=Lib.hid (HH.out he)
    rw [hq] at HC
    clear he hq
    go_wp2_with (go_at_call 163;refine (HC.out _ HP1.out).mono ?_;rintro e w1 ⟨rfl,hb1⟩;have HB1:=Lib.hid hb1;clear hb1)
    go_ret
    refine ⟨⟨(n:Nat),rfl,?_⟩,jg HB.out HB1.out⟩
    rw [decide_eq_true HH2.out,decide_eq_true (by omega)]
   ·have hq:(x.what == k)=false:=by simpa using he
    have HN2:=Lib.hid (HN.out he)
    rw [hq] at HC
    clear he hq
    go_wp2_with (go_at_call 163;refine (HC.out _ HP1.out).mono ?_;rintro e w1 ⟨rfl,hb1⟩;have HB1:=Lib.hid hb1;clear hb1)
    go_roundg (ss.length - (n+1))
    case rel=>exact ⟨n+1,by omega,rfl,by go_num,jg HB.out HB1.out,HN2.out⟩
    case measure=>omega
  ·have hall:ss.take n=ss:=List.take_of_length_le (by omega)
   have HM:Hid (k ∉ ss.map (·.what)):=by show _ ∉ _;rw [←hall];exact HA.out
   clear hall
   go_wp2
   go_ret
   refine ⟨⟨-1,rfl,?_⟩,HB.out⟩
   rw [decide_eq_false HM.out,decide_eq_false (by omega)]
theorem lZ (v:Value) (ss:List St) (k:Int) (p:Nat) (w:World) (h:dD All w v ss) (hp:w.heap[p]?=some (.cells #[.int .i64 k] 3 (0,0))) :
  Calls Tryz.prog 162 #[v,.func (.func 163) #[] #[.pointer (some ⟨p,0,none⟩)]] w fun e w'=>e=.returned (.bool (decide (k ∈ ss.map (·.what))))/\Below w.heap.size w w':=by
 have HC:=Lib.hid (rM v ss k p w h hp)
 clear h hp
 go_enter Tryz.func162,Tryz.ntmps162
 go_wp2_with (go_at_call 173;refine HC.out.mono ?_;rintro e w1 ⟨⟨n,rfl,hn⟩,hb1⟩;have HB1:=Lib.hid hb1;have HN:=Lib.hid hn;clear hb1 hn)
 go_ret
 exact ⟨by rw [←HN.out];rfl,HB1.out⟩
theorem sJ (v:Value) (ss:List St) (k:Int) (w:World) (h:dD All w v ss) :
  Calls Tryz.prog 143 #[v,.int .i64 k] w fun e w'=>e=.returned (.bool (decide (k ∈ ss.map (·.what))))/\Below w.heap.size w w':=by
 have hb:=iU w (.cells #[.int .i64 k] 3)
 have HC:=Lib.hid (lZ v ss k w.heap.size _ (h.grw hb) (heap_alloc_new w (.cells #[.int .i64 k] 3)))
 have HB:=Lib.hid hb
 obtain ⟨a,c,rfl,h1,h2,h4⟩:=h.form
 have hmf:∀(fn:Fn) (first cap:Array Value) (w:World),(Instr.makeFunc fn first cap).run Tryz.prog w=.ok (.func fn first cap) w:=fun _ _ _ _=>rfl
 clear h hb
 generalize decide (k ∈ ss.map (·.what))=R at *
 go_enter Tryz.func143,Tryz.ntmps143
 go_wp2_with (go_at_call 162;refine HC.out.mono ?_;rintro e w1 ⟨rfl,hb1⟩;have HB1:=Lib.hid hb1;clear hb1)
 go_ret
 exact ⟨rfl,jg HB.out HB1.out⟩
end Go.Proofs.YtfbfeoplldjbpaaGreatDoor.Pl
end
section
namespace Go.Proofs.YtfbfeoplldjbpaaGreatDoor.Pl
open Go.RowKit
open Wo (Wd jI jQ tV qL)
theorem kN (s:St) (w:World) :
  Calls Tryz.prog 142 #[stv s] w fun e w'=>e=.returned (.bool (setB s))/\Below w.heap.size w w':=by
 have HB:=Lib.hid (iU w (.cells #[.int .i64 s.what,.int .i64 s.n] 85))
 obtain ⟨k,n⟩:=s
 by_cases h1:k=1 ∨ k=2
 ·have HRES:Hid (setB ⟨k,n⟩=(n == 0 || n == 1)):=by
   show _=_
   unfold setB
   simp only [if_pos h1]
   rw [Bool.eq_iff_iff];simp;omega
  rcases h1 with rfl|rfl
  all_goals
   cases h0:(n == 0)<;>cases hh:(n == 1)
   all_goals
    rw [h0,hh] at HRES
    go_enter Tryz.func142,Tryz.ntmps142
    go_wp2
    go_ret
    exact ⟨by rw [HRES.out];rfl,HB.out⟩
 by_cases h3:k=3
 ·subst h3
  have HRES:Hid (setB ⟨3,n⟩=qg n):=by
   show _=_
   unfold setB qg
   rw [Bool.eq_iff_iff];simp
  have HG:=Lib.hid fun W=>qj n W
  generalize qg n=G at *
  go_enter Tryz.func142,Tryz.ntmps142
  go_wp2_with (first|(go_at_call 76;refine (HG.out _).mono ?_;rintro e w1 ⟨rfl,rfl⟩))
  go_ret
  exact ⟨by rw [HRES.out];rfl,HB.out⟩
 by_cases h4:k=4
 ·subst h4
  have HRES:Hid (setB ⟨4,n⟩=(decide (0<=n) && decide (n<=10000))):=rfl
  cases h0:decide (0<=n)<;>cases hh:decide (n<=10000)
  all_goals
   rw [h0,hh] at HRES
   go_enter Tryz.func142,Tryz.ntmps142
   go_wp2
   go_ret
   exact ⟨by rw [HRES.out];rfl,HB.out⟩
 ·have HRES:Hid (setB ⟨k,n⟩=false):=by
   show _=_
   unfold setB
   simp only [if_neg h1,if_neg h3,if_neg h4,Bool.and_false]
  have b1:(k == 1)=false:=by simp;omega
  have b2:(k == 2)=false:=by simp;omega
  have b3:(k == 3)=false:=by simp;omega
  have b4:(k == 4)=false:=by simp;omega
  clear h1 h3 h4
  go_enter Tryz.func142,Tryz.ntmps142
  go_wp2
  go_ret
  exact ⟨by rw [HRES.out];rfl,HB.out⟩
theorem dD.take {K:Nat->Prop} {w:World} {a:Option Addr} {n c:Nat} {ss:List St} (h:dD K w (.slice a n c) ss) (k:Nat) (hk:k<=ss.length):dD K w (.slice a k c) (ss.take k):=by
 obtain ⟨a',c',he,h1,h2,h4,h5,h3⟩:=h
 injection he with e1 e2 e3
 subst e1 e2 e3
 have hl:(ss.take k).length=k:=by simp;omega
 refine ⟨a,c,by rw [hl],by rw [hl];omega,h2,by rw [hl];omega,fun x hx=>h5 x (List.mem_of_mem_take hx),?_⟩
 rcases h3 with h|⟨b,o,ha,hK,hb,hc⟩
 ·subst h;left;simp
 ·exact Or.inr ⟨b,o,ha,hK,hb,fun j x hj=>hc j x (by rw [List.getElem?_take] at hj;split at hj;exact hj;cases hj)⟩
theorem FC (ss:List St) (k:Nat) (s:St) (seen:List Int) (h:ss[k]?=some s):Fp seen (ss.drop k)=(setB s && (decide (s.what ∉ seen) && Fp (seen ++ [s.what]) (ss.drop (k+1)))):=by
 have hk:k < ss.length:=(List.getElem?_eq_some_iff.1 h).1
 have hs:ss[k]=s:=(List.getElem?_eq_some_iff.1 h).2
 rw [List.drop_eq_getElem_cons hk,hs]
 rfl
theorem wY (ss:List St) (k:Nat) (s:St) (h:ss[k]?=some s):(ss.take (k+1)).map (·.what)=(ss.take k).map (·.what) ++ [s.what]:=by
 rw [List.take_add_one,h];simp
theorem kP (v:Value) (ss:List St) (w:World) (h:dD All w v ss) :
  Calls Tryz.prog 104 #[v] w fun e w'=>e=.returned (.bool (decide (1<=ss.length) && Fp [] ss))/\Below w.heap.size w w':=by
 have HS:=Lib.hid h
 obtain ⟨a,c,rfl,h1,h2,h4⟩:=h.form
 have HB0:=Lib.hid (Below.refl w.heap.size w)
 obtain ⟨R,hR⟩:∃R,R=Fp [] ss:=⟨_,rfl⟩
 have HR0:Hid (R=Fp ((ss.take 0).map (·.what)) (ss.drop 0)):=hR
 rw [←hR]
 clear h hR
 go_enter Tryz.func104,Tryz.ntmps104
 go_wp2
 go_loopg [7] (ss.length) (fun g i wr=>∃(n:Nat),n<=ss.length/\g=ss.length - n/\i=.int .i64 n/\Hid (Below w.heap.size w wr)/\Hid (R=Fp ((ss.take n).map (·.what)) (ss.drop n)))
 case atStart=>exact ⟨0,Nat.zero_le _,rfl,rfl,HB0.out,HR0.out⟩
 case round =>
  clear HB0 HR0
  obtain ⟨n,hn,hg,rfl,HB,HA⟩:=hrel
  by_cases hlt:n < ss.length
  ·obtain ⟨b,o,rfl,hbs,hx,y0,y1,-,-⟩:=dD.get (HS.out.grw HB.out) n hlt
   have HMT:=Lib.hid (wY ss n _ hx)
   have HAT:=Lib.hid (HA.out.trans (FC ss n _ _ hx))
   have hbx:=iU wr (.cells #[.int .i64 ss[n].what,.int .i64 ss[n].n] 85)
   have HBX:=Lib.hid (jg HB.out hbx)
   have HXX:=Lib.hid (heap_alloc_new wr (.cells #[.int .i64 ss[n].what,.int .i64 ss[n].n] 85))
   have HTK:=Lib.hid fun (W:World) (hW:Below w.heap.size w W)=>dD.take (HS.out.grw hW) n hn
   clear hx hbx HA
   generalize ss[n]=s at *
   have HCS:=Lib.hid fun W=>kN s W
   have HIS:=Lib.hid fun W (hW:Below w.heap.size w W)=>sJ _ (ss.take n) s.what W (HTK.out W hW)
   have hcc:n<=c:=by omega
   go_upto_region 4 with fail
   clear y0 y1
   generalize wr.alloc (.cells #[.int .i64 s.what,.int .i64 s.n] 85)=W1 at *
   generalize wr.heap.size=p at *
   generalize setB s=SB at *
   generalize hdm:decide (s.what ∈ (ss.take n).map (·.what))=DM at *
   have HDN:Hid (decide (s.what ∉ (ss.take n).map (·.what)) = !DM):=by show _=_;rw [←hdm];simp
   clear hdm
   obtain ⟨x0,x1,-,-⟩:=jQ HXX.out
   go_cut [22] (fun s22 wx=>s22=.bool (!(SB && !DM))/\Hid (Below W1.heap.size W1 wx))
   case first =>
    cases SB
    ·first|(go_region_with (first|(go_at_call 142;refine (HCS.out _).mono ?_;rintro x w1 ⟨rfl,hb1⟩;have HB1:=Lib.hid hb1;clear hb1)))|fail
     all_goals
      go_wp2_with fail
      go_meet
      exact ⟨rfl,jg (Below.drew (Below.refl _ W1)) HB1.out⟩
    ·have HXK:=Lib.hid fun (w1:World) (h:Below W1.drew.heap.size W1.drew w1)=>jQ (tV (w:=W1.drew) HXX.out h)
     go_region_with (first|(go_at_call 142;refine (HCS.out _).mono ?_;rintro x w1 ⟨rfl,hb1⟩;obtain ⟨z0,z1,-,-⟩:=HXK.out _ hb1;have HB1:=Lib.hid hb1;clear hb1)|(go_at_call 143;refine (HIS.out _ (jg HBX.out (jg (Below.drew (Below.refl _ W1)) HB1.out))).mono ?_;rintro x w2 ⟨rfl,hb2⟩;have HB2:=Lib.hid hb2;clear hb2))
     all_goals
      go_wp2_with fail
      go_meet
      exact ⟨by cases DM<;>rfl,jg (Below.drew (Below.refl _ W1)) (jg HB1.out HB2.out)⟩
   case rest =>
    obtain ⟨rfl,HBx⟩:=hcut
    have HBw:=Lib.hid (jg HBX.out HBx.out)
    have hR:=HAT.out
    rw [HDN.out] at hR
    have HR:=Lib.hid hR
    clear HXX HTK HCS HIS HAT HDN hR HBX HBx x0 x1
    cases hq:(SB && !DM)
    ·have HRF:Hid (R=false):=by
      show _=_
      rw [HR.out]
      cases SB<;>cases DM<;>simp_all
     clear hq HR
     go_wp2
     go_ret
     exact ⟨by rw [HRF.out,Bool.and_false];rfl,HBw.out⟩
    ·have HRT:Hid (R=Fp ((ss.take (n+1)).map (·.what)) (ss.drop (n+1))):=by
      show _=_
      rw [HR.out,HMT.out]
      cases SB<;>cases DM<;>simp_all
     clear hq HR
     go_wp2
     go_roundg (ss.length - (n+1))
     case rel=>exact ⟨n+1,by omega,rfl,by go_num,HBw.out,HRT.out⟩
     case measure=>omega
  ·have hall:ss.drop n=[]:=List.drop_eq_nil_of_le (by omega)
   have HRT:Hid (R=true):=by show _=_;rw [HA.out,hall];rfl
   clear hall HA
   by_cases hz:0 < ss.length
   ·go_wp2
    go_ret
    exact ⟨by rw [HRT.out,decide_eq_true (by omega)];rfl,HB.out⟩
   ·go_wp2
    go_ret
    exact ⟨by rw [HRT.out,decide_eq_false (by omega)];rfl,HB.out⟩
end Go.Proofs.YtfbfeoplldjbpaaGreatDoor.Pl
end
section
namespace Go.Proofs.YtfbfeoplldjbpaaGreatDoor.Pl
open Go.RowKit
open Wo (Wd jI jQ tV qL)
theorem iR {w:World} {q:Nat} {a0 a1 a2 a3 a4 a5 a6 a7:Value} {T:TypeId} (h:w.heap[q]?=some (.cells #[a0,a1,a2,a3,a4,a5,a6,a7] T (0,0))):w.cell? ⟨q,0,none⟩=some a0/\w.cell? ⟨q,1,none⟩=some a1/\w.cell? ⟨q,2,none⟩=some a2/\w.cell? ⟨q,3,none⟩=some a3/\w.cell? ⟨q,4,none⟩=some a4/\w.cell? ⟨q,5,none⟩=some a5/\w.cell? ⟨q,6,none⟩=some a6/\w.cell? ⟨q,7,none⟩=some a7:=by
 refine ⟨?_,?_,?_,?_,?_,?_,?_,?_⟩<;>rw [cell_of_row w q _ _ T (0,0) h]<;>rfl
theorem D5 (r:Ru):DZ r=((decide (0<=r.rank) && decide (r.rank<=9999)) && (lV 16 r.cif && (decide (r.unl.length<=1) && (r.unl.all (lV 16) && (decide (1<=r.sets.length) && Fp [] r.sets))))):=rfl
theorem kM (r:Ru) (k u s:Value) (w:World) (h:bW All w r k u s) :
  Calls Tryz.prog 63 #[ruv r k u s] w fun e w'=>e=.returned (.bool (DZ r))/\Below w.heap.size w w':=by
 obtain ⟨h64,hok,hul,hk,hu,hs⟩:=h
 have hb:=iU w (.cells #[.int .i64 r.rank,.int .i64 r.cif.kind,.string (mk r.cif.lo),.string (mk r.cif.hi),.int .i64 r.cif.n,k,u,s] 82)
 have HB:=Lib.hid hb
 have HX:=Lib.hid (heap_alloc_new w (.cells #[.int .i64 r.rank,.int .i64 r.cif.kind,.string (mk r.cif.lo),.string (mk r.cif.hi),.int .i64 r.cif.n,k,u,s] 82))
 have HU:=Lib.hid (hu.grw hb)
 have HS:=Lib.hid (hs.grw hb)
 have HC:=Lib.hid fun W (hW:Below w.heap.size w W)=>kJ 16 1 (by decide) (by decide) r.cif k W (hk.grw hW) hok
 obtain ⟨ka,kc,rfl,-,-⟩:=hk.form
 obtain ⟨ua,uc,rfl,hu1,hu2⟩:=hu.form
 obtain ⟨sa,sc,rfl,-,-,-⟩:=hs.form
 obtain ⟨x0,x1,x2,x3,x4,x5,x6,x7⟩:=iR HX.out
 have HR:=Lib.hid (D5 r)
 have hul2:r.unl.length<=281474976710656:=hul
 clear hb hk hu hs h64 hok hul
 generalize DZ r=R at *
 by_cases c1:r.rank < 0
 ·have HRES:Hid (R=false):=by show _=_;rw [HR.out,decide_eq_false (show ¬ 0<=r.rank by omega)];simp
  clear HR HC HU HS
  go_enter Tryz.func63,Tryz.ntmps63
  go_wp2
  go_ret
  exact ⟨by rw [HRES.out];rfl,HB.out⟩
 by_cases c2:9999 < r.rank
 ·have HRES:Hid (R=false):=by show _=_;rw [HR.out,decide_eq_false (show ¬ r.rank<=9999 by omega)];simp
  clear HR HC HU HS
  go_enter Tryz.func63,Tryz.ntmps63
  go_wp2
  go_ret
  exact ⟨by rw [HRES.out];rfl,HB.out⟩
 by_cases c3:1 < r.unl.length
 ·have HRES:Hid (R=false):=by show _=_;rw [HR.out,decide_eq_false (show ¬ r.unl.length<=1 by omega)];simp
  clear HR HC HU HS
  go_enter Tryz.func63,Tryz.ntmps63
  go_wp2
  go_ret
  exact ⟨by rw [HRES.out];rfl,HB.out⟩
 have HR2:Hid (R=(lV 16 r.cif && (r.unl.all (lV 16) && (decide (1<=r.sets.length) && Fp [] r.sets)))):=by
  show _=_
  rw [HR.out,decide_eq_true (show 0<=r.rank by omega),decide_eq_true (show r.rank<=9999 by omega),decide_eq_true (show r.unl.length<=1 by omega)]
  simp
 clear HR
 cases hc:lV 16 r.cif
 ·rw [hc] at HC HR2
  have HRES:Hid (R=false):=HR2.out
  clear HR2 HU HS hc
  go_enter Tryz.func63,Tryz.ntmps63
  go_wp2_with (first|(go_at_call 103;refine (HC.out _ HB.out).mono ?_;rintro e w1 ⟨rfl,hb1⟩;have HB1:=Lib.hid hb1;clear hb1))
  go_ret
  exact ⟨by rw [HRES.out];rfl,jg HB.out HB1.out⟩
 rw [hc] at HC HR2
 clear hc
 go_enter Tryz.func63,Tryz.ntmps63
 go_wp2_with fail
 go_at_call 103
 refine (HC.out _ HB.out).mono ?_
 rintro e w1 ⟨rfl,hb1⟩
 have HB1:=Lib.hid (jg HB.out hb1)
 have HU1:=Lib.hid (HU.out.grw hb1)
 have HS1:=Lib.hid (HS.out.grw hb1)
 have HX1:=Lib.hid (tV HX.out hb1)
 obtain ⟨x0,x1,x2,x3,x4,x5,x6,x7⟩:=iR HX1.out
 have HW0:=Lib.hid (Below.refl w1.heap.size w1)
 clear hb1 HB HX HU HS HC
 go_wp2
 go_loopg [28] (r.unl.length) (fun g i wr=>∃n:Nat,n<=r.unl.length/\g=r.unl.length - n/\i=.int .i64 n/\Hid (Below w1.heap.size w1 wr)/\Hid ((r.unl.take n).all (lV 16)=true))
 case atStart=>exact ⟨0,Nat.zero_le _,rfl,rfl,HW0.out,rfl⟩
 case round =>
  clear HW0 x0 x1 x2 x3 x4 x5 x6 x7
  obtain ⟨n,hn,hgk,rfl,HBr,HA⟩:=hrel
  by_cases hlt:n < r.unl.length
  ·obtain ⟨b,o,mv,rfl,hbs,hx,hcc,hkk,hok⟩:=aX.get (HU1.out.grw HBr.out) n hlt
   obtain ⟨y0,y1,y2,y3,y4⟩:=hcc
   obtain ⟨ma,mc,rfl,-,-⟩:=hkk.form
   have hbz:=iU wr (.cells #[.int .i64 r.unl[n].kind,.string (mk r.unl[n].lo),.string (mk r.unl[n].hi),.int .i64 r.unl[n].n,.slice ma r.unl[n].kids.length mc] 79)
   have HC:=Lib.hid (kJ 16 1 (by decide) (by decide) r.unl[n] _ _ (hkk.grw hbz) hok)
   have HBz:=Lib.hid (jg HBr.out hbz)
   have HT:=Lib.hid fun h=>fG (p:=lV 16) r.unl n _ hx HA.out h
   have HN:=Lib.hid fun h=>fB (p:=lV 16) r.unl n _ hx h
   clear hx hkk hok hbz
   generalize r.unl[n]=kd at *
   cases hq:lV 16 kd
   ·rw [hq] at HC
    have HN2:=Lib.hid (HN.out hq)
    clear hq HT HN
    go_wp2_with (go_at_call 103;refine HC.out.mono ?_;rintro e w3 ⟨rfl,hb3⟩;have HB3:=Lib.hid hb3;clear hb3)
    go_ret
    exact ⟨by rw [HR2.out,HN2.out];rfl,jg HB1.out (jg HBz.out HB3.out)⟩
   ·rw [hq] at HC
    have HT2:=Lib.hid (HT.out hq)
    clear hq HT HN
    go_wp2_with (go_at_call 103;refine HC.out.mono ?_;rintro e w3 ⟨rfl,hb3⟩;have HB3:=Lib.hid hb3;clear hb3)
    go_roundg (r.unl.length - (n+1))
    case rel=>exact ⟨n+1,by omega,rfl,by go_num,jg HBz.out HB3.out,HT2.out⟩
    case measure=>omega
  ·have hall:r.unl.take n=r.unl:=List.take_of_length_le (by omega)
   rw [hall] at HA
   have HCS:=Lib.hid (kP _ r.sets wr (HS1.out.grw HBr.out))
   obtain ⟨x0,x1,x2,x3,x4,x5,x6,x7⟩:=iR (tV HX1.out HBr.out)
   clear hall
   have HR3:=HR2.out
   rw [HA.out] at HR3
   simp only [Bool.true_and] at HR3
   have HR4:=Lib.hid HR3
   clear HR3
   generalize (decide (1<=r.sets.length) && Fp [] r.sets)=Z at *
   go_wp2_with (go_at_call 104;refine HCS.out.mono ?_;rintro e w3 ⟨rfl,hb3⟩;have HB3:=Lib.hid hb3;clear hb3)
   go_ret
   exact ⟨by rw [HR4.out];rfl,jg HB1.out (jg HBr.out HB3.out)⟩
end Go.Proofs.YtfbfeoplldjbpaaGreatDoor.Pl
end
section
namespace Go.Proofs.YtfbfeoplldjbpaaGreatDoor.Pl
open Go.RowKit
open Wo (Wd jI jQ tV qL)
end Go.Proofs.YtfbfeoplldjbpaaGreatDoor.Pl
end
section
namespace Go.Proofs.YtfbfeoplldjbpaaGreatDoor.Pl
open Go.RowKit
open Wo (Wd jI jQ tV qL)
theorem jU {w:World} {q:Nat} {a0 a1 a2 a3 a4 a5:Value} {T:TypeId} (h:w.heap[q]?=some (.cells #[a0,a1,a2,a3,a4,a5] T (0,0))):w.cell? ⟨q,0,none⟩=some a0/\w.cell? ⟨q,1,none⟩=some a1/\w.cell? ⟨q,2,none⟩=some a2/\w.cell? ⟨q,3,none⟩=some a3/\w.cell? ⟨q,4,none⟩=some a4/\w.cell? ⟨q,5,none⟩=some a5:=by
 refine ⟨?_,?_,?_,?_,?_,?_⟩<;>rw [cell_of_row w q _ _ T (0,0) h]<;>rfl
theorem iT {w:World} {q:Nat} {a0 a1 a2 a3 a4 a5 a6 a7:Value} {T:TypeId} (h:w.heap[q]?=some (.cells #[a0,a1,a2,a3,a4,a5,a6,a7] T (0,0))):w.cell? ⟨q,0,none⟩=some a0/\w.cell? ⟨q,1,none⟩=some a1/\w.cell? ⟨q,2,none⟩=some a2/\w.cell? ⟨q,3,none⟩=some a3/\w.cell? ⟨q,4,none⟩=some a4/\w.cell? ⟨q,5,none⟩=some a5/\w.cell? ⟨q,6,none⟩=some a6/\w.cell? ⟨q,7,none⟩=some a7:=by
 refine ⟨?_,?_,?_,?_,?_,?_,?_,?_⟩<;>rw [cell_of_row w q _ _ T (0,0) h]<;>rfl
theorem kL (p:Pn) (m:Value) (w:World) :
  Calls Tryz.prog 62 #[pnv p m] w fun e w'=>e=.returned (.bool (vI p))/\Below w.heap.size w w':=by
 have HB:=Lib.hid (iU w (.cells #[.int .i64 p.mode,.int .i64 p.indDed,.int .i64 p.famDed,.int .i64 p.indOop,.int .i64 p.famOop,m] 24))
 have HG1:=Lib.hid fun W=>qj p.indDed W
 have HG2:=Lib.hid fun W=>qj p.famDed W
 have HG3:=Lib.hid fun W=>qj p.indOop W
 have HG4:=Lib.hid fun W=>qj p.famOop W
 have HL:Hid (vI p=(qg p.indDed && (qg p.famDed && (qg p.indOop && (qg p.famOop && (decide (p.indDed<=p.famDed) && (decide (p.indDed<=p.indOop) && (decide (p.famDed<=p.famOop) && decide (p.indOop<=p.famOop))))))))):=by
  show _=_
  unfold vI qg
  rw [Bool.eq_iff_iff]
  simp only [Bool.and_eq_true,decide_eq_true_eq]
  omega
 generalize vI p=R at *
 obtain ⟨md,x1,x2,x3,x4,rs⟩:=p
 simp only at *
 generalize qg x1=g1 at *
 generalize qg x2=g2 at *
 generalize qg x3=g3 at *
 generalize qg x4=g4 at *
 cases g1
 ·have HRES:Hid (R=false):=by show _=_;rw [HL.out];simp
  clear HL
  go_enter Tryz.func62,Tryz.ntmps62
  go_wp2_with (first|(go_at_call_of 76 (Value.int IntKind.i64 x1);refine (HG1.out _).mono ?_;rintro e w1 ⟨rfl,rfl⟩)|(go_at_call_of 76 (Value.int IntKind.i64 x2);refine (HG2.out _).mono ?_;rintro e w1 ⟨rfl,rfl⟩)|(go_at_call_of 76 (Value.int IntKind.i64 x3);refine (HG3.out _).mono ?_;rintro e w1 ⟨rfl,rfl⟩)|(go_at_call_of 76 (Value.int IntKind.i64 x4);refine (HG4.out _).mono ?_;rintro e w1 ⟨rfl,rfl⟩))
  go_ret
  exact ⟨by rw [HRES.out];rfl,HB.out⟩
 cases g2
 ·have HRES:Hid (R=false):=by show _=_;rw [HL.out];simp
  clear HL
  go_enter Tryz.func62,Tryz.ntmps62
  go_wp2_with (first|(go_at_call_of 76 (Value.int IntKind.i64 x1);refine (HG1.out _).mono ?_;rintro e w1 ⟨rfl,rfl⟩)|(go_at_call_of 76 (Value.int IntKind.i64 x2);refine (HG2.out _).mono ?_;rintro e w1 ⟨rfl,rfl⟩)|(go_at_call_of 76 (Value.int IntKind.i64 x3);refine (HG3.out _).mono ?_;rintro e w1 ⟨rfl,rfl⟩)|(go_at_call_of 76 (Value.int IntKind.i64 x4);refine (HG4.out _).mono ?_;rintro e w1 ⟨rfl,rfl⟩))
  go_ret
  exact ⟨by rw [HRES.out];rfl,HB.out⟩
 cases g3
 ·have HRES:Hid (R=false):=by show _=_;rw [HL.out];simp
  clear HL
  go_enter Tryz.func62,Tryz.ntmps62
  go_wp2_with (first|(go_at_call_of 76 (Value.int IntKind.i64 x1);refine (HG1.out _).mono ?_;rintro e w1 ⟨rfl,rfl⟩)|(go_at_call_of 76 (Value.int IntKind.i64 x2);refine (HG2.out _).mono ?_;rintro e w1 ⟨rfl,rfl⟩)|(go_at_call_of 76 (Value.int IntKind.i64 x3);refine (HG3.out _).mono ?_;rintro e w1 ⟨rfl,rfl⟩)|(go_at_call_of 76 (Value.int IntKind.i64 x4);refine (HG4.out _).mono ?_;rintro e w1 ⟨rfl,rfl⟩))
  go_ret
  exact ⟨by rw [HRES.out];rfl,HB.out⟩
 cases g4
 ·have HRES:Hid (R=false):=by show _=_;rw [HL.out];simp
  clear HL
  go_enter Tryz.func62,Tryz.ntmps62
  go_wp2_with (first|(go_at_call_of 76 (Value.int IntKind.i64 x1);refine (HG1.out _).mono ?_;rintro e w1 ⟨rfl,rfl⟩)|(go_at_call_of 76 (Value.int IntKind.i64 x2);refine (HG2.out _).mono ?_;rintro e w1 ⟨rfl,rfl⟩)|(go_at_call_of 76 (Value.int IntKind.i64 x3);refine (HG3.out _).mono ?_;rintro e w1 ⟨rfl,rfl⟩)|(go_at_call_of 76 (Value.int IntKind.i64 x4);refine (HG4.out _).mono ?_;rintro e w1 ⟨rfl,rfl⟩))
  go_ret
  exact ⟨by rw [HRES.out];rfl,HB.out⟩
 cases d1:decide (x1<=x2)
 ·have HRES:Hid (R=false):=by show _=_;rw [HL.out,d1];simp
  clear HL
  go_enter Tryz.func62,Tryz.ntmps62
  go_wp2_with (first|(go_at_call_of 76 (Value.int IntKind.i64 x1);refine (HG1.out _).mono ?_;rintro e w1 ⟨rfl,rfl⟩)|(go_at_call_of 76 (Value.int IntKind.i64 x2);refine (HG2.out _).mono ?_;rintro e w1 ⟨rfl,rfl⟩)|(go_at_call_of 76 (Value.int IntKind.i64 x3);refine (HG3.out _).mono ?_;rintro e w1 ⟨rfl,rfl⟩)|(go_at_call_of 76 (Value.int IntKind.i64 x4);refine (HG4.out _).mono ?_;rintro e w1 ⟨rfl,rfl⟩))
  go_ret
  exact ⟨by rw [HRES.out];rfl,HB.out⟩
 cases d2:decide (x1<=x3)
 ·have HRES:Hid (R=false):=by show _=_;rw [HL.out,d2];simp
  clear HL
  go_enter Tryz.func62,Tryz.ntmps62
  go_wp2_with (first|(go_at_call_of 76 (Value.int IntKind.i64 x1);refine (HG1.out _).mono ?_;rintro e w1 ⟨rfl,rfl⟩)|(go_at_call_of 76 (Value.int IntKind.i64 x2);refine (HG2.out _).mono ?_;rintro e w1 ⟨rfl,rfl⟩)|(go_at_call_of 76 (Value.int IntKind.i64 x3);refine (HG3.out _).mono ?_;rintro e w1 ⟨rfl,rfl⟩)|(go_at_call_of 76 (Value.int IntKind.i64 x4);refine (HG4.out _).mono ?_;rintro e w1 ⟨rfl,rfl⟩))
  go_ret
  exact ⟨by rw [HRES.out];rfl,HB.out⟩
 cases d3:decide (x2<=x4)
 ·have HRES:Hid (R=false):=by show _=_;rw [HL.out,d3];simp
  clear HL
  go_enter Tryz.func62,Tryz.ntmps62
  go_wp2_with (first|(go_at_call_of 76 (Value.int IntKind.i64 x1);refine (HG1.out _).mono ?_;rintro e w1 ⟨rfl,rfl⟩)|(go_at_call_of 76 (Value.int IntKind.i64 x2);refine (HG2.out _).mono ?_;rintro e w1 ⟨rfl,rfl⟩)|(go_at_call_of 76 (Value.int IntKind.i64 x3);refine (HG3.out _).mono ?_;rintro e w1 ⟨rfl,rfl⟩)|(go_at_call_of 76 (Value.int IntKind.i64 x4);refine (HG4.out _).mono ?_;rintro e w1 ⟨rfl,rfl⟩))
  go_ret
  exact ⟨by rw [HRES.out];rfl,HB.out⟩
 cases d4:decide (x3<=x4)
 ·have HRES:Hid (R=false):=by show _=_;rw [HL.out,d4];simp
  clear HL
  go_enter Tryz.func62,Tryz.ntmps62
  go_wp2_with (first|(go_at_call_of 76 (Value.int IntKind.i64 x1);refine (HG1.out _).mono ?_;rintro e w1 ⟨rfl,rfl⟩)|(go_at_call_of 76 (Value.int IntKind.i64 x2);refine (HG2.out _).mono ?_;rintro e w1 ⟨rfl,rfl⟩)|(go_at_call_of 76 (Value.int IntKind.i64 x3);refine (HG3.out _).mono ?_;rintro e w1 ⟨rfl,rfl⟩)|(go_at_call_of 76 (Value.int IntKind.i64 x4);refine (HG4.out _).mono ?_;rintro e w1 ⟨rfl,rfl⟩))
  go_ret
  exact ⟨by rw [HRES.out];rfl,HB.out⟩
 have HRES:Hid (R=true):=by show _=_;rw [HL.out,d1,d2,d3,d4];rfl
 clear HL
 go_enter Tryz.func62,Tryz.ntmps62
 go_wp2_with (first|(go_at_call_of 76 (Value.int IntKind.i64 x1);refine (HG1.out _).mono ?_;rintro e w1 ⟨rfl,rfl⟩)|(go_at_call_of 76 (Value.int IntKind.i64 x2);refine (HG2.out _).mono ?_;rintro e w1 ⟨rfl,rfl⟩)|(go_at_call_of 76 (Value.int IntKind.i64 x3);refine (HG3.out _).mono ?_;rintro e w1 ⟨rfl,rfl⟩)|(go_at_call_of 76 (Value.int IntKind.i64 x4);refine (HG4.out _).mono ?_;rintro e w1 ⟨rfl,rfl⟩))
 go_ret
 exact ⟨by rw [HRES.out];rfl,HB.out⟩
end Go.Proofs.YtfbfeoplldjbpaaGreatDoor.Pl
end
