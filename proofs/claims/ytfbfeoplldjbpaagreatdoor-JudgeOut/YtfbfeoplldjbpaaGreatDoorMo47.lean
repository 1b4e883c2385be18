/-
  Texts put together (merge.py): JOut.
-/
import Derived.Test.YtfbfeoplldjbpaaGreatDoorMo43
set_option linter.unusedSimpArgs false
set_option linter.unusedVariables false
set_option maxHeartbeats 16000000
set_option maxRecDepth 100000
section
namespace Go.Proofs.YtfbfeoplldjbpaaGreatDoor.Ju
open Ac (Row)
open Sh (Ot)
open Cm (Ln Cl)
theorem Ku (t:Tb) (c:Cl) (r:List Row) (A:List Ln) (hn:c.net ≠ 0) (h:tC t c r A=0) :
  tC t c [] A=0/\tH t c [] A=tH t c r A/\tJ t c [] A=[]/\tJ t c r A=r/\∀o ∈ tH t c r A,o.de=0:=by
 obtain ⟨hp,hr⟩:=Jw h
 obtain ⟨p1,p2,p3,p4,p5⟩:=Bq hp
 have hx:=JD c p1
 have hn':(cxV t c).net ≠ 0:=hn
 obtain ⟨m1,m2,m3⟩:=run_any (cxV t c) hx.1 hx.2 hn' (its t c A) r hr
 have h0:Bo t c []=0:=by
  unfold Bo at hp ⊢
  obtain ⟨q1,q2⟩:=zx hp
  rw [q1,p4]
  rfl
 have hE:tC t c [] A=0:=by
  unfold tC
  rw [if_pos h0]
  exact m1
 refine ⟨hE,?_,?_,?_,?_⟩
 ·rw [(Js hE).1,(Js h).1];exact m2
 ·rw [(Js hE).2];exact JX _ hn' _ _
 ·rw [(Js h).2];exact JX _ hn' _ _
 ·rw [(Js h).1];exact m3
end Go.Proofs.YtfbfeoplldjbpaaGreatDoor.Ju
end
