/-
  Texts put together (merge.py): JMem, CDiv0, CScl, HBear0.
-/
import Derived.Test.YtfbfeoplldjbpaaGreatDoorMd14
import Derived.Test.YtfbfeoplldjbpaaGreatDoorMd17
import Derived.Test.YtfbfeoplldjbpaaGreatDoorShelf
set_option linter.unusedSimpArgs false
set_option linter.unusedVariables false
set_option maxHeartbeats 16000000
set_option maxRecDepth 100000
namespace Go.Proofs.YtfbfeoplldjbpaaGreatDoor
namespace Ju
open Go.RowKit
open Ac (Row pU dJ dM jF jG DW DU left cu Own tV qL iU jg jf fK)
open Sh (Ot bD bC bK bE EP EW Dt Du member Jj)
open Cm (Ln Cl bH lnv clv bG aC)
def dF (w:World) (m mf me:Value) (t:Tb):Prop:=Pl.bY All w m t.plan.rules/\Fe.aU All w mf t.Bp/\Ex.aP All w me t.edits
def dG (t:Tb):Prop:=((∀f ∈ t.Bp,Fe.aT f)/\t.Bp.length<=281474976710656)/\(∀f ∈ t.edits,Ex.aO f)/\t.edits.length<=281474976710656
theorem dF.Bu {w w':World} {m mf me:Value} {t:Tb} (h:dF w m mf me t) (hb:Below w.heap.size w w'):dF w' m mf me t:=⟨h.1.Bu hb,h.2.1.Bu hb,h.2.2.Bu hb⟩
theorem dF.form {w:World} {m mf me:Value} {t:Tb} (h:dF w m mf me t):∃ma mc fa fc ea ec,m=.slice ma t.plan.rules.length mc/\mf=.slice fa t.Bp.length fc/\me=.slice ea t.edits.length ec:=by
 obtain ⟨h1,h2,h3⟩:=h;obtain ⟨ma,mc,e1,-⟩:=h1.form;obtain ⟨fa,fc,e2,-⟩:=h2.form;obtain ⟨ea,ec,e3,-⟩:=h3.form;exact ⟨ma,mc,fa,fc,ea,ec,e1,e2,e3⟩
theorem dF.nums {w:World} {m mf me:Value} {t:Tb} (h:dF w m mf me t):t.plan.rules.length<=9223372036854775807/\t.Bp.length<=9223372036854775807/\t.edits.length<=9223372036854775807:=by
 obtain ⟨h1,h2,h3⟩:=h;obtain ⟨ma,mc,e1,l1,k1,-⟩:=h1.form;obtain ⟨fa,fc,e2,l2,k2⟩:=h2.form;obtain ⟨ea,ec,e3,l3,k3⟩:=h3.form;exact ⟨by omega,by omega,by omega⟩
theorem jT {w:World} {q:Nat} {a0 a1 a2 a3 a4 a5 a6:Value} {T:TypeId} (h:w.heap[q]?=some (.cells #[a0,a1,a2,a3,a4,a5,a6] T (0,0))):w.cell? ⟨q,0,none⟩=some a0/\w.cell? ⟨q,1,none⟩=some a1/\w.cell? ⟨q,2,none⟩=some a2/\w.cell? ⟨q,3,none⟩=some a3/\w.cell? ⟨q,4,none⟩=some a4/\w.cell? ⟨q,5,none⟩=some a5/\w.cell? ⟨q,6,none⟩=some a6:=by
 refine ⟨?_,?_,?_,?_,?_,?_,?_⟩<;>rw [cell_of_row w q _ _ T (0,0) h]<;>rfl
theorem b17 {w:World} {q:Nat} {a0 a1 a2 a3 a4 a5 a6 a7 a8 a9 a10 a11 a12 a13 a14 a15 a16:Value} {T:TypeId} (h:w.heap[q]?=some (.cells #[a0,a1,a2,a3,a4,a5,a6,a7,a8,a9,a10,a11,a12,a13,a14,a15,a16] T (0,0))):w.cell? ⟨q,0,none⟩=some a0/\w.cell? ⟨q,1,none⟩=some a1/\w.cell? ⟨q,2,none⟩=some a2/\w.cell? ⟨q,3,none⟩=some a3/\w.cell? ⟨q,4,none⟩=some a4/\w.cell? ⟨q,5,none⟩=some a5/\w.cell? ⟨q,6,none⟩=some a6/\w.cell? ⟨q,7,none⟩=some a7/\w.cell? ⟨q,8,none⟩=some a8/\w.cell? ⟨q,9,none⟩=some a9/\w.cell? ⟨q,10,none⟩=some a10/\w.cell? ⟨q,11,none⟩=some a11/\w.cell? ⟨q,12,none⟩=some a12/\w.cell? ⟨q,13,none⟩=some a13/\w.cell? ⟨q,14,none⟩=some a14/\w.cell? ⟨q,15,none⟩=some a15/\w.cell? ⟨q,16,none⟩=some a16:=by
 refine ⟨?_,?_,?_,?_,?_,?_,?_,?_,?_,?_,?_,?_,?_,?_,?_,?_,?_⟩<;>rw [cell_of_row w q _ _ T (0,0) h]<;>rfl
theorem EL {w:World} {q:Nat} {a0 a1 a2 a3 a4 a5 a6 a7 a8 a9 a10 a11 a12 a13 a14 a15 a16 u:Value} {T:TypeId} (h:w.heap[q]?=some (.cells #[a0,a1,a2,a3,a4,a5,a6,a7,a8,a9,a10,a11,a12,a13,a14,a15,a16] T (0,0))):(w.setCell ⟨q,16,none⟩ u).heap[q]?=some (.cells #[a0,a1,a2,a3,a4,a5,a6,a7,a8,a9,a10,a11,a12,a13,a14,a15,u] T (0,0)):=by
 rw [Ac.heap_set h];rfl
theorem AP {W:World} {b:Nat} {a0 a1 a2 a3:Value} {T:TypeId} (h:W.heap[b]?=some (.cells #[a0,a1,a2,a3] T (0,0))) (b0 b1 b2 b3:Value):((((W.setCell ⟨b,0,none⟩ b0).setCell ⟨b,1,none⟩ b1).setCell ⟨b,2,none⟩ b2).setCell ⟨b,3,none⟩ b3).heap[b]?=some (.cells #[b0,b1,b2,b3] T (0,0)):=by
 have h0:(W.setCell ⟨b,0,none⟩ b0).heap[b]?=some (.cells #[b0,a1,a2,a3] T (0,0)):=heap_setCell_same _ b 0 _ _ _ h;have h1:((W.setCell ⟨b,0,none⟩ b0).setCell ⟨b,1,none⟩ b1).heap[b]?=some (.cells #[b0,b1,a2,a3] T (0,0)):=heap_setCell_same _ b 1 _ _ _ h0;have h2:(((W.setCell ⟨b,0,none⟩ b0).setCell ⟨b,1,none⟩ b1).setCell ⟨b,2,none⟩ b2).heap[b]?=some (.cells #[b0,b1,b2,a3] T (0,0)):=heap_setCell_same _ b 2 _ _ _ h1;have h3:((((W.setCell ⟨b,0,none⟩ b0).setCell ⟨b,1,none⟩ b1).setCell ⟨b,2,none⟩ b2).setCell ⟨b,3,none⟩ b3).heap[b]?=some (.cells #[b0,b1,b2,b3] T (0,0)):=heap_setCell_same _ b 3 _ _ _ h2;exact h3
theorem AO {B:Nat} {w W:World} (h:Below B w W) (b:Nat) (hb:B<=b) (b0 b1 b2 b3:Value):Below B w ((((W.setCell ⟨b,0,none⟩ b0).setCell ⟨b,1,none⟩ b1).setCell ⟨b,2,none⟩ b2).setCell ⟨b,3,none⟩ b3):=(((h.setCell (p:=⟨b,0,none⟩) hb _).setCell (p:=⟨b,1,none⟩) hb _).setCell (p:=⟨b,2,none⟩) hb _).setCell (p:=⟨b,3,none⟩) hb _
theorem f4 {W:World} {b:Nat} {a0 a1 a2 a3:Value} {T:TypeId} (h:W.heap[b]?=some (.cells #[a0,a1,a2,a3] T (0,0))):W.frozen? ⟨b,0,none⟩=false/\W.frozen? ⟨b,1,none⟩=false/\W.frozen? ⟨b,2,none⟩=false/\W.frozen? ⟨b,3,none⟩=false:=⟨Lib.frozen_of_heap h 0,Lib.frozen_of_heap h 1,Lib.frozen_of_heap h 2,Lib.frozen_of_heap h 3⟩
theorem AU {W:World} {b:Nat} {a0 a1 a2 a3 a4 a5 a6:Value} {T:TypeId} (h:W.heap[b]?=some (.cells #[a0,a1,a2,a3,a4,a5,a6] T (0,0))) (b0 b1 b2 b3 b4 b5 b6:Value):(((((((W.setCell ⟨b,0,none⟩ b0).setCell ⟨b,1,none⟩ b1).setCell ⟨b,2,none⟩ b2).setCell ⟨b,3,none⟩ b3).setCell ⟨b,4,none⟩ b4).setCell ⟨b,5,none⟩ b5).setCell ⟨b,6,none⟩ b6).heap[b]?=some (.cells #[b0,b1,b2,b3,b4,b5,b6] T (0,0)):=by
 have h0:(W.setCell ⟨b,0,none⟩ b0).heap[b]?=some (.cells #[b0,a1,a2,a3,a4,a5,a6] T (0,0)):=heap_setCell_same _ b 0 _ _ _ h;have h1:((W.setCell ⟨b,0,none⟩ b0).setCell ⟨b,1,none⟩ b1).heap[b]?=some (.cells #[b0,b1,a2,a3,a4,a5,a6] T (0,0)):=heap_setCell_same _ b 1 _ _ _ h0;have h2:(((W.setCell ⟨b,0,none⟩ b0).setCell ⟨b,1,none⟩ b1).setCell ⟨b,2,none⟩ b2).heap[b]?=some (.cells #[b0,b1,b2,a3,a4,a5,a6] T (0,0)):=heap_setCell_same _ b 2 _ _ _ h1;have h3:((((W.setCell ⟨b,0,none⟩ b0).setCell ⟨b,1,none⟩ b1).setCell ⟨b,2,none⟩ b2).setCell ⟨b,3,none⟩ b3).heap[b]?=some (.cells #[b0,b1,b2,b3,a4,a5,a6] T (0,0)):=heap_setCell_same _ b 3 _ _ _ h2;have h4:(((((W.setCell ⟨b,0,none⟩ b0).setCell ⟨b,1,none⟩ b1).setCell ⟨b,2,none⟩ b2).setCell ⟨b,3,none⟩ b3).setCell ⟨b,4,none⟩ b4).heap[b]?=some (.cells #[b0,b1,b2,b3,b4,a5,a6] T (0,0)):=heap_setCell_same _ b 4 _ _ _ h3;have h5:((((((W.setCell ⟨b,0,none⟩ b0).setCell ⟨b,1,none⟩ b1).setCell ⟨b,2,none⟩ b2).setCell ⟨b,3,none⟩ b3).setCell ⟨b,4,none⟩ b4).setCell ⟨b,5,none⟩ b5).heap[b]?=some (.cells #[b0,b1,b2,b3,b4,b5,a6] T (0,0)):=heap_setCell_same _ b 5 _ _ _ h4;have h6:(((((((W.setCell ⟨b,0,none⟩ b0).setCell ⟨b,1,none⟩ b1).setCell ⟨b,2,none⟩ b2).setCell ⟨b,3,none⟩ b3).setCell ⟨b,4,none⟩ b4).setCell ⟨b,5,none⟩ b5).setCell ⟨b,6,none⟩ b6).heap[b]?=some (.cells #[b0,b1,b2,b3,b4,b5,b6] T (0,0)):=heap_setCell_same _ b 6 _ _ _ h5;exact h6
theorem AQ {B:Nat} {w W:World} (h:Below B w W) (b:Nat) (hb:B<=b) (b0 b1 b2 b3 b4 b5 b6:Value):Below B w (((((((W.setCell ⟨b,0,none⟩ b0).setCell ⟨b,1,none⟩ b1).setCell ⟨b,2,none⟩ b2).setCell ⟨b,3,none⟩ b3).setCell ⟨b,4,none⟩ b4).setCell ⟨b,5,none⟩ b5).setCell ⟨b,6,none⟩ b6):=((((((h.setCell (p:=⟨b,0,none⟩) hb _).setCell (p:=⟨b,1,none⟩) hb _).setCell (p:=⟨b,2,none⟩) hb _).setCell (p:=⟨b,3,none⟩) hb _).setCell (p:=⟨b,4,none⟩) hb _).setCell (p:=⟨b,5,none⟩) hb _).setCell (p:=⟨b,6,none⟩) hb _
theorem f7 {W:World} {b:Nat} {a0 a1 a2 a3 a4 a5 a6:Value} {T:TypeId} (h:W.heap[b]?=some (.cells #[a0,a1,a2,a3,a4,a5,a6] T (0,0))):W.frozen? ⟨b,0,none⟩=false/\W.frozen? ⟨b,1,none⟩=false/\W.frozen? ⟨b,2,none⟩=false/\W.frozen? ⟨b,3,none⟩=false/\W.frozen? ⟨b,4,none⟩=false/\W.frozen? ⟨b,5,none⟩=false/\W.frozen? ⟨b,6,none⟩=false:=⟨Lib.frozen_of_heap h 0,Lib.frozen_of_heap h 1,Lib.frozen_of_heap h 2,Lib.frozen_of_heap h 3,Lib.frozen_of_heap h 4,Lib.frozen_of_heap h 5,Lib.frozen_of_heap h 6⟩
theorem AB {W:World} {b:Nat} {a0 a1 a2 a3 a4 a5 a6 a7 a8 a9 a10 a11 a12 a13 a14 a15 a16:Value} {T:TypeId} (h:W.heap[b]?=some (.cells #[a0,a1,a2,a3,a4,a5,a6,a7,a8,a9,a10,a11,a12,a13,a14,a15,a16] T (0,0))) (b0 b1 b2 b3 b4 b5 b6 b7 b8 b9 b10 b11 b12 b13 b14 b15 b16:Value):(((((((((((((((((W.setCell ⟨b,0,none⟩ b0).setCell ⟨b,1,none⟩ b1).setCell ⟨b,2,none⟩ b2).setCell ⟨b,3,none⟩ b3).setCell ⟨b,4,none⟩ b4).setCell ⟨b,5,none⟩ b5).setCell ⟨b,6,none⟩ b6).setCell ⟨b,7,none⟩ b7).setCell ⟨b,8,none⟩ b8).setCell ⟨b,9,none⟩ b9).setCell ⟨b,10,none⟩ b10).setCell ⟨b,11,none⟩ b11).setCell ⟨b,12,none⟩ b12).setCell ⟨b,13,none⟩ b13).setCell ⟨b,14,none⟩ b14).setCell ⟨b,15,none⟩ b15).setCell ⟨b,16,none⟩ b16).heap[b]?=some (.cells #[b0,b1,b2,b3,b4,b5,b6,b7,b8,b9,b10,b11,b12,b13,b14,b15,b16] T (0,0)):=by
 have h0:(W.setCell ⟨b,0,none⟩ b0).heap[b]?=some (.cells #[b0,a1,a2,a3,a4,a5,a6,a7,a8,a9,a10,a11,a12,a13,a14,a15,a16] T (0,0)):=heap_setCell_same _ b 0 _ _ _ h;have h1:((W.setCell ⟨b,0,none⟩ b0).setCell ⟨b,1,none⟩ b1).heap[b]?=some (.cells #[b0,b1,a2,a3,a4,a5,a6,a7,a8,a9,a10,a11,a12,a13,a14,a15,a16] T (0,0)):=heap_setCell_same _ b 1 _ _ _ h0;have h2:(((W.setCell ⟨b,0,none⟩ b0).setCell ⟨b,1,none⟩ b1).setCell ⟨b,2,none⟩ b2).heap[b]?=some (.cells #[b0,b1,b2,a3,a4,a5,a6,a7,a8,a9,a10,a11,a12,a13,a14,a15,a16] T (0,0)):=heap_setCell_same _ b 2 _ _ _ h1;have h3:((((W.setCell ⟨b,0,none⟩ b0).setCell ⟨b,1,none⟩ b1).setCell ⟨b,2,none⟩ b2).setCell ⟨b,3,none⟩ b3).heap[b]?=some (.cells #[b0,b1,b2,b3,a4,a5,a6,a7,a8,a9,a10,a11,a12,a13,a14,a15,a16] T (0,0)):=heap_setCell_same _ b 3 _ _ _ h2;have h4:(((((W.setCell ⟨b,0,none⟩ b0).setCell ⟨b,1,none⟩ b1).setCell ⟨b,2,none⟩ b2).setCell ⟨b,3,none⟩ b3).setCell ⟨b,4,none⟩ b4).heap[b]?=some (.cells #[b0,b1,b2,b3,b4,a5,a6,a7,a8,a9,a10,a11,a12,a13,a14,a15,a16] T (0,0)):=heap_setCell_same _ b 4 _ _ _ h3;have h5:((((((W.setCell ⟨b,0,none⟩ b0).setCell ⟨b,1,none⟩ b1).setCell ⟨b,2,none⟩ b2).setCell ⟨b,3,none⟩ b3).setCell ⟨b,4,none⟩ b4).setCell ⟨b,5,none⟩ b5).heap[b]?=some (.cells #[b0,b1,b2,b3,b4,b5,a6,a7,a8,a9,a10,a11,a12,a13,a14,a15,a16] T (0,0)):=heap_setCell_same _ b 5 _ _ _ h4;have h6:(((((((W.setCell ⟨b,0,none⟩ b0).setCell ⟨b,1,none⟩ b1).setCell ⟨b,2,none⟩ b2).setCell ⟨b,3,none⟩ b3).setCell ⟨b,4,none⟩ b4).setCell ⟨b,5,none⟩ b5).setCell ⟨b,6,none⟩ b6).heap[b]?=some (.cells #[b0,b1,b2,b3,b4,b5,b6,a7,a8,a9,a10,a11,a12,a13,a14,a15,a16] T (0,0)):=heap_setCell_same _ b 6 _ _ _ h5;have h7:((((((((W.setCell ⟨b,0,none⟩ b0).setCell ⟨b,1,none⟩ b1).setCell ⟨b,2,none⟩ b2).setCell ⟨b,3,none⟩ b3).setCell ⟨b,4,none⟩ b4).setCell ⟨b,5,none⟩ b5).setCell ⟨b,6,none⟩ b6).setCell ⟨b,7,none⟩ b7).heap[b]?=some (.cells #[b0,b1,b2,b3,b4,b5,b6,b7,a8,a9,a10,a11,a12,a13,a14,a15,a16] T (0,0)):=heap_setCell_same _ b 7 _ _ _ h6;have h8:(((((((((W.setCell ⟨b,0,none⟩ b0).setCell ⟨b,1,none⟩ b1).setCell ⟨b,2,none⟩ b2).setCell ⟨b,3,none⟩ b3).setCell ⟨b,4,none⟩ b4).setCell ⟨b,5,none⟩ b5).setCell ⟨b,6,none⟩ b6).setCell ⟨b,7,none⟩ b7).setCell ⟨b,8,none⟩ b8).heap[b]?=some (.cells #[b0,b1,b2,b3,b4,b5,b6,b7,b8,a9,a10,a11,a12,a13,a14,a15,a16] T (0,0)):=heap_setCell_same _ b 8 _ _ _ h7;have h9:((((((((((W.setCell ⟨b,0,none⟩ b0).setCell ⟨b,1,none⟩ b1).setCell ⟨b,2,none⟩ b2).setCell ⟨b,3,none⟩ b3).setCell ⟨b,4,none⟩ b4).setCell ⟨b,5,none⟩ b5).setCell ⟨b,6,none⟩ b6).setCell ⟨b,7,none⟩ b7).setCell ⟨b,8,none⟩ b8).setCell ⟨b,9,none⟩ b9).heap[b]?=some (.cells #[b0,b1,b2,b3,b4,b5,b6,b7,b8,b9,a10,a11,a12,a13,a14,a15,a16] T (0,0)):=heap_setCell_same _ b 9 _ _ _ h8;have h10:(((((((((((W.setCell ⟨b,0,none⟩ b0).setCell ⟨b,1,none⟩ b1).setCell ⟨b,2,none⟩ b2).setCell ⟨b,3,none⟩ b3).setCell ⟨b,4,none⟩ b4).setCell ⟨b,5,none⟩ b5).setCell ⟨b,6,none⟩ b6).setCell ⟨b,7,none⟩ b7).setCell ⟨b,8,none⟩ b8).setCell ⟨b,9,none⟩ b9).setCell ⟨b,10,none⟩ b10).heap[b]?=some (.cells #[b0,b1,b2,b3,b4,b5,b6,b7,b8,b9,b10,a11,a12,a13,a14,a15,a16] T (0,0)):=heap_setCell_same _ b 10 _ _ _ h9;have h11:((((((((((((W.setCell ⟨b,0,none⟩ b0).setCell ⟨b,1,none⟩ b1).setCell ⟨b,2,none⟩ b2).setCell ⟨b,3,none⟩ b3).setCell ⟨b,4,none⟩ b4).setCell ⟨b,5,none⟩ b5).setCell ⟨b,6,none⟩ b6).setCell ⟨b,7,none⟩ b7).setCell ⟨b,8,none⟩ b8).setCell ⟨b,9,none⟩ b9).setCell ⟨b,10,none⟩ b10).setCell ⟨b,11,none⟩ b11).heap[b]?=some (.cells #[b0,b1,b2,b3,b4,b5,b6,b7,b8,b9,b10,b11,a12,a13,a14,a15,a16] T (0,0)):=heap_setCell_same _ b 11 _ _ _ h10;have h12:(((((((((((((W.setCell ⟨b,0,none⟩ b0).setCell ⟨b,1,none⟩ b1).setCell ⟨b,2,none⟩ b2).setCell ⟨b,3,none⟩ b3).setCell ⟨b,4,none⟩ b4).setCell ⟨b,5,none⟩ b5).setCell ⟨b,6,none⟩ b6).setCell ⟨b,7,none⟩ b7).setCell ⟨b,8,none⟩ b8).setCell ⟨b,9,none⟩ b9).setCell ⟨b,10,none⟩ b10).setCell ⟨b,11,none⟩ b11).setCell ⟨b,12,none⟩ b12).heap[b]?=some (.cells #[b0,b1,b2,b3,b4,b5,b6,b7,b8,b9,b10,b11,b12,a13,a14,a15,a16] T (0,0)):=heap_setCell_same _ b 12 _ _ _ h11;have h13:((((((((((((((W.setCell ⟨b,0,none⟩ b0).setCell ⟨b,1,none⟩ b1).setCell ⟨b,2,none⟩ b2).setCell ⟨b,3,none⟩ b3).setCell ⟨b,4,none⟩ b4).setCell ⟨b,5,none⟩ b5).setCell ⟨b,6,none⟩ b6).setCell ⟨b,7,none⟩ b7).setCell ⟨b,8,none⟩ b8).setCell ⟨b,9,none⟩ b9).setCell ⟨b,10,none⟩ b10).setCell ⟨b,11,none⟩ b11).setCell ⟨b,12,none⟩ b12).setCell ⟨b,13,none⟩ b13).heap[b]?=some (.cells #[b0,b1,b2,b3,b4,b5,b6,b7,b8,b9,b10,b11,b12,b13,a14,a15,a16] T (0,0)):=heap_setCell_same _ b 13 _ _ _ h12;have h14:(((((((((((((((W.setCell ⟨b,0,none⟩ b0).setCell ⟨b,1,none⟩ b1).setCell ⟨b,2,none⟩ b2).setCell ⟨b,3,none⟩ b3).setCell ⟨b,4,none⟩ b4).setCell ⟨b,5,none⟩ b5).setCell ⟨b,6,none⟩ b6).setCell ⟨b,7,none⟩ b7).setCell ⟨b,8,none⟩ b8).setCell ⟨b,9,none⟩ b9).setCell ⟨b,10,none⟩ b10).setCell ⟨b,11,none⟩ b11).setCell ⟨b,12,none⟩ b12).setCell ⟨b,13,none⟩ b13).setCell ⟨b,14,none⟩ b14).heap[b]?=some (.cells #[b0,b1,b2,b3,b4,b5,b6,b7,b8,b9,b10,b11,b12,b13,b14,a15,a16] T (0,0)):=heap_setCell_same _ b 14 _ _ _ h13;have h15:((((((((((((((((W.setCell ⟨b,0,none⟩ b0).setCell ⟨b,1,none⟩ b1).setCell ⟨b,2,none⟩ b2).setCell ⟨b,3,none⟩ b3).setCell ⟨b,4,none⟩ b4).setCell ⟨b,5,none⟩ b5).setCell ⟨b,6,none⟩ b6).setCell ⟨b,7,none⟩ b7).setCell ⟨b,8,none⟩ b8).setCell ⟨b,9,none⟩ b9).setCell ⟨b,10,none⟩ b10).setCell ⟨b,11,none⟩ b11).setCell ⟨b,12,none⟩ b12).setCell ⟨b,13,none⟩ b13).setCell ⟨b,14,none⟩ b14).setCell ⟨b,15,none⟩ b15).heap[b]?=some (.cells #[b0,b1,b2,b3,b4,b5,b6,b7,b8,b9,b10,b11,b12,b13,b14,b15,a16] T (0,0)):=heap_setCell_same _ b 15 _ _ _ h14;have h16:(((((((((((((((((W.setCell ⟨b,0,none⟩ b0).setCell ⟨b,1,none⟩ b1).setCell ⟨b,2,none⟩ b2).setCell ⟨b,3,none⟩ b3).setCell ⟨b,4,none⟩ b4).setCell ⟨b,5,none⟩ b5).setCell ⟨b,6,none⟩ b6).setCell ⟨b,7,none⟩ b7).setCell ⟨b,8,none⟩ b8).setCell ⟨b,9,none⟩ b9).setCell ⟨b,10,none⟩ b10).setCell ⟨b,11,none⟩ b11).setCell ⟨b,12,none⟩ b12).setCell ⟨b,13,none⟩ b13).setCell ⟨b,14,none⟩ b14).setCell ⟨b,15,none⟩ b15).setCell ⟨b,16,none⟩ b16).heap[b]?=some (.cells #[b0,b1,b2,b3,b4,b5,b6,b7,b8,b9,b10,b11,b12,b13,b14,b15,b16] T (0,0)):=heap_setCell_same _ b 16 _ _ _ h15;exact h16
theorem AA {B:Nat} {w W:World} (h:Below B w W) (b:Nat) (hb:B<=b) (b0 b1 b2 b3 b4 b5 b6 b7 b8 b9 b10 b11 b12 b13 b14 b15 b16:Value):Below B w (((((((((((((((((W.setCell ⟨b,0,none⟩ b0).setCell ⟨b,1,none⟩ b1).setCell ⟨b,2,none⟩ b2).setCell ⟨b,3,none⟩ b3).setCell ⟨b,4,none⟩ b4).setCell ⟨b,5,none⟩ b5).setCell ⟨b,6,none⟩ b6).setCell ⟨b,7,none⟩ b7).setCell ⟨b,8,none⟩ b8).setCell ⟨b,9,none⟩ b9).setCell ⟨b,10,none⟩ b10).setCell ⟨b,11,none⟩ b11).setCell ⟨b,12,none⟩ b12).setCell ⟨b,13,none⟩ b13).setCell ⟨b,14,none⟩ b14).setCell ⟨b,15,none⟩ b15).setCell ⟨b,16,none⟩ b16):=((((((((((((((((h.setCell (p:=⟨b,0,none⟩) hb _).setCell (p:=⟨b,1,none⟩) hb _).setCell (p:=⟨b,2,none⟩) hb _).setCell (p:=⟨b,3,none⟩) hb _).setCell (p:=⟨b,4,none⟩) hb _).setCell (p:=⟨b,5,none⟩) hb _).setCell (p:=⟨b,6,none⟩) hb _).setCell (p:=⟨b,7,none⟩) hb _).setCell (p:=⟨b,8,none⟩) hb _).setCell (p:=⟨b,9,none⟩) hb _).setCell (p:=⟨b,10,none⟩) hb _).setCell (p:=⟨b,11,none⟩) hb _).setCell (p:=⟨b,12,none⟩) hb _).setCell (p:=⟨b,13,none⟩) hb _).setCell (p:=⟨b,14,none⟩) hb _).setCell (p:=⟨b,15,none⟩) hb _).setCell (p:=⟨b,16,none⟩) hb _
theorem f17 {W:World} {b:Nat} {a0 a1 a2 a3 a4 a5 a6 a7 a8 a9 a10 a11 a12 a13 a14 a15 a16:Value} {T:TypeId} (h:W.heap[b]?=some (.cells #[a0,a1,a2,a3,a4,a5,a6,a7,a8,a9,a10,a11,a12,a13,a14,a15,a16] T (0,0))):W.frozen? ⟨b,0,none⟩=false/\W.frozen? ⟨b,1,none⟩=false/\W.frozen? ⟨b,2,none⟩=false/\W.frozen? ⟨b,3,none⟩=false/\W.frozen? ⟨b,4,none⟩=false/\W.frozen? ⟨b,5,none⟩=false/\W.frozen? ⟨b,6,none⟩=false/\W.frozen? ⟨b,7,none⟩=false/\W.frozen? ⟨b,8,none⟩=false/\W.frozen? ⟨b,9,none⟩=false/\W.frozen? ⟨b,10,none⟩=false/\W.frozen? ⟨b,11,none⟩=false/\W.frozen? ⟨b,12,none⟩=false/\W.frozen? ⟨b,13,none⟩=false/\W.frozen? ⟨b,14,none⟩=false/\W.frozen? ⟨b,15,none⟩=false/\W.frozen? ⟨b,16,none⟩=false:=⟨Lib.frozen_of_heap h 0,Lib.frozen_of_heap h 1,Lib.frozen_of_heap h 2,Lib.frozen_of_heap h 3,Lib.frozen_of_heap h 4,Lib.frozen_of_heap h 5,Lib.frozen_of_heap h 6,Lib.frozen_of_heap h 7,Lib.frozen_of_heap h 8,Lib.frozen_of_heap h 9,Lib.frozen_of_heap h 10,Lib.frozen_of_heap h 11,Lib.frozen_of_heap h 12,Lib.frozen_of_heap h 13,Lib.frozen_of_heap h 14,Lib.frozen_of_heap h 15,Lib.frozen_of_heap h 16⟩
theorem jw {w:World} {q:Nat} {a0 a1 a2 a3:Value} {T:TypeId} (h:w.heap[q]?=some (.cells #[a0,a1,a2,a3] T (0,0))):w.cell? ⟨q,0,none⟩=some a0/\w.cell? ⟨q,1,none⟩=some a1/\w.cell? ⟨q,2,none⟩=some a2/\w.cell? ⟨q,3,none⟩=some a3:=by
 refine ⟨?_,?_,?_,?_⟩<;>rw [cell_of_row w q _ _ T (0,0) h]<;>rfl
theorem oC {W:World} {k q o:Nat} (hne:k ≠ q) (b0 b1 b2 b3 b4 b5 b6 b7:Value):((((((((W.setCell ⟨q,o,none⟩ b0).setCell ⟨q,o+1,none⟩ b1).setCell ⟨q,o+2,none⟩ b2).setCell ⟨q,o+3,none⟩ b3).setCell ⟨q,o+4,none⟩ b4).setCell ⟨q,o+5,none⟩ b5).setCell ⟨q,o+6,none⟩ b6).setCell ⟨q,o+7,none⟩ b7).heap[k]?=W.heap[k]?:=by
 repeat rw [Below.heap_setCell _ _ _ _ hne]
theorem Aw {w w':World} {B:Nat} {v:Value} {l:List Row} (h:Own B w v l) (hk:∀k,B<=k->k < w.heap.size->w'.heap[k]?=w.heap[k]?):Own B w' v l:=by
 refine ⟨h.1,h.2.imp id ?_⟩;rintro ⟨g,c,cur,rfl,h0,hh,hr⟩;exact ⟨g,c,cur,rfl,h0,(hk g h0 (Array.getElem?_eq_some_iff.1 hh).1).trans hh,hr⟩
abbrev TO:TypeId:=45
def oc (o:Ot):List Value:=[iI o.al,iI o.de,iI o.cp,iI o.cn,iI o.plan,iI o.wr,iI o.pr,iI o.deny]
def ocs:List Ot->List Value
 | []=>[]
 | o :: r=>iI o.al :: iI o.de :: iI o.cp :: iI o.cn :: iI o.plan :: iI o.wr :: iI o.pr :: iI o.deny :: ocs r
theorem MH (a b:List Ot):ocs (a ++ b)=ocs a ++ ocs b:=by induction a<;>simp_all [ocs]
theorem yI (a:List Ot):(ocs a).length=a.length * 8:=by induction a<;>simp_all [ocs];omega
theorem yH:∀(a:List Ot) (j:Nat) (x:Ot),a[j]?=some x->∀i,i < 8->(ocs a)[j * 8+i]?=(oc x)[i]?
 | [],j,x,h,_,_=>by simp at h
 | y :: r,0,x,h,i,hi=>by
  simp at h;subst h;match i,hi with
  | 0,_=>rfl
  | 1,_=>rfl
  | 2,_=>rfl
  | 3,_=>rfl
  | 4,_=>rfl
  | 5,_=>rfl
  | 6,_=>rfl
  | 7,_=>rfl
 | y :: r,j+1,x,h,i,hi=>by
  have:=yH r j x (by simpa using h) i hi;rw [show (j+1) * 8+i=(j * 8+i)+8 by omega];simpa [ocs] using this
theorem MI:∀(a:List Ot),∀u ∈ ocs a,u.oneCell'=true
 | [],u,h=>by simp [ocs] at h
 | f :: r,u,h=>by
  have ih:=MI r;simp only [ocs,List.mem_cons] at h;rcases h with rfl|rfl|rfl|rfl|rfl|rfl|rfl|rfl|h
  all_goals first|rfl|exact ih u h
def bI (w:World) (b o:Nat) (x:Ot):Prop:=w.cell? ⟨b,o,none⟩=some (iI x.al)/\w.cell? ⟨b,o+1,none⟩=some (iI x.de)/\w.cell? ⟨b,o+2,none⟩=some (iI x.cp)/\w.cell? ⟨b,o+3,none⟩=some (iI x.cn)/\w.cell? ⟨b,o+4,none⟩=some (iI x.plan)/\w.cell? ⟨b,o+5,none⟩=some (iI x.wr)/\w.cell? ⟨b,o+6,none⟩=some (iI x.pr)/\w.cell? ⟨b,o+7,none⟩=some (iI x.deny)
theorem bI.of {w w':World} {b o:Nat} {x:Ot} (h:bI w b o x) (he:w'.heap[b]?=w.heap[b]?):bI w' b o x:=by
 obtain ⟨h0,h1,h2,h3,h4,h5,h6,h7⟩:=h;refine ⟨?_,?_,?_,?_,?_,?_,?_,?_⟩<;>rw [World.cell?_of_block (w:=w) he]<;>assumption
def bJ (K:Nat->Prop) (w:World) (v:Value) (l:List Ot):Prop:=
 ∃a c,v=.slice a l.length c/\l.length<=c/\c<=maxLen/\(l=[] ∨ ∃b o,a=some ⟨b,o,none⟩/\K b/\b < w.heap.size/\∀(j:Nat) x,l[j]?=some x->bI w b (o+j * 8) x)
theorem bJ.move {K K':Nat->Prop} {w w':World} {v:Value} {l:List Ot} (h:bJ K w v l) (hm:Moves K K' w w'):bJ K' w' v l:=by
 obtain ⟨a,c,rfl,h1,h2,h3⟩:=h;refine ⟨a,c,rfl,h1,h2,h3.imp id ?_⟩;rintro ⟨b,o,rfl,hk,hb,hc⟩;obtain ⟨k',hh⟩:=hm.2 b hb hk;exact ⟨b,o,rfl,k',Nat.lt_of_lt_of_le hb hm.1,fun j x hj=>(hc j x hj).of hh⟩
theorem bJ.Bu {w w':World} {v:Value} {l:List Ot} (h:bJ All w v l) (hb:Below w.heap.size w w'):bJ All w' v l:=h.move (Below.moves hb)
theorem bJ.nil (K:Nat->Prop) (w:World):bJ K w (.slice none 0 0) []:=⟨none,0,rfl,by simp,by simp [maxLen],Or.inl rfl⟩
theorem bJ.form {K:Nat->Prop} {w:World} {v:Value} {xs:List Ot} (h:bJ K w v xs):∃a c,v=.slice a xs.length c/\xs.length<=c/\c<=9223372036854775807:=by
 obtain ⟨a,c,rfl,h1,h2,_⟩:=h;exact ⟨a,c,rfl,h1,by unfold maxLen at h2;exact h2⟩
theorem bJ.get {K:Nat->Prop} {w:World} {a:Option Addr} {n c:Nat} {ls:List Ot} (h:bJ K w (.slice a n c) ls) (k:Nat) (hk:k < ls.length) :
  ∃b o,a=some ⟨b,o,none⟩/\b < w.heap.size/\ls[k]?=some ls[k]/\bI w b (o+k * 8) ls[k]:=by
 obtain ⟨a',c',he,h1,h2,h3⟩:=h;have ha:a=a':=by injection he
 subst ha;rcases h3 with h|⟨b,o,ha,_,hb,hc⟩
 ·subst h;simp at hk
 ·have hx:=List.getElem?_eq_getElem hk;exact ⟨b,o,ha,hb,hx,hc k _ hx⟩
def bM (B:Nat) (w:World) (v:Value) (l:List Ot):Prop:=w.ownsRow B TO 8 v l.length (ocs l)
theorem zK {K:Nat->Prop} {w:World} {base:Nat} {v:Value} {l:List Ot} (h:bM base w v l) (hK:∀b,base<=b->K b):bJ K w v l:=by
 obtain ⟨hl,h⟩:=h;rcases h with ⟨rfl,h0⟩|⟨g,cap,cur,rfl,hbg,hg,h1,h2,hs,ht⟩
 ·obtain rfl:=List.length_eq_zero_iff.1 h0;exact bJ.nil _ _
 ·refine ⟨_,cap,rfl,h1,h2,Or.inr ⟨g,0,rfl,hK g hbg,(Array.getElem?_eq_some_iff.1 hg).1,fun j x hj=>?_⟩⟩;have hjl:j < l.length:=(List.getElem?_eq_some_iff.1 hj).1;have e:∀i,i < 8->w.cell? ⟨g,0+j * 8+i,none⟩=(oc x)[i]?:=fun i hi=>by
   have q:=yH l j x hj i hi;rw [←ht,List.getElem?_take,if_pos (by omega)] at q;rw [cell_of_row w g _ cur _ (0,0) hg,Nat.zero_add];simpa using q
  exact ⟨e 0 (by omega),e 1 (by omega),e 2 (by omega),e 3 (by omega),e 4 (by omega),e 5 (by omega),e 6 (by omega),e 7 (by omega)⟩
theorem Ae (B:Nat) (w:World):bM B w (.slice none 0 0) []:=⟨rfl,Or.inl ⟨rfl,rfl⟩⟩
theorem Aa {w w':World} {B:Nat} {v:Value} {l:List Ot} (h:bM B w v l) (hb:Below w.heap.size w w'):bM B w' v l:=by
 refine ⟨h.1,h.2.imp id ?_⟩;rintro ⟨g,c,cur,rfl,h0,hh,hr⟩;exact ⟨g,c,cur,rfl,h0,tV hh hb,hr⟩
theorem Ad {w:World} {B:Nat} {v:Value} {l:List Ot} (h:bM B w v l):∃a c,v=.slice a l.length c/\l.length<=c/\c<=9223372036854775807:=(zK (K:=All) h fun _ _=>trivial).form
def EN (cs:List Value) (o:Nat) (a0 a1 a2 a3 a4 a5 a6 a7:Value):List Value:=(((((((cs.set o a0).set (o+1) a1).set (o+2) a2).set (o+3) a3).set (o+4) a4).set (o+5) a5).set (o+6) a6).set (o+7) a7
theorem EO (x:Ot):∀(l:List Ot) (i:Nat),i < l.length->EN (ocs l) (i * 8) (iI x.al) (iI x.de) (iI x.cp) (iI x.cn) (iI x.plan) (iI x.wr) (iI x.pr) (iI x.deny)=ocs (l.set i x)
 | [],i,h=>by simp at h
 | y :: r,0,_=>by simp [EN,ocs]
 | y :: r,i+1,h=>by
  have ih:=EO x r i (by simpa using h);rw [show (i+1) * 8=i * 8+8 by omega];unfold EN at ih ⊢;simp only [ocs,List.set_cons_succ,List.set_cons_zero];rw [←ih]
theorem BU {w:World} {b o:Nat} {cs:Array Value} {T:TypeId} (h:w.heap[b]?=some (.cells cs T (0,0))) (a0 a1 a2 a3 a4 a5 a6 a7:Value) :
  ((((((((w.setCell ⟨b,o,none⟩ a0).setCell ⟨b,o+1,none⟩ a1).setCell ⟨b,o+2,none⟩ a2).setCell ⟨b,o+3,none⟩ a3).setCell ⟨b,o+4,none⟩ a4).setCell ⟨b,o+5,none⟩ a5).setCell ⟨b,o+6,none⟩ a6).setCell ⟨b,o+7,none⟩ a7).heap[b]?=some (.cells ⟨EN cs.toList o a0 a1 a2 a3 a4 a5 a6 a7⟩ T (0,0)):=by
 have h0:=Ac.heap_set h o a0;have h1:=Ac.heap_set h0 (o+1) a1;have h2:=Ac.heap_set h1 (o+2) a2;have h3:=Ac.heap_set h2 (o+3) a3;have h4:=Ac.heap_set h3 (o+4) a4;have h5:=Ac.heap_set h4 (o+5) a5;have h6:=Ac.heap_set h5 (o+6) a6;have h7:=Ac.heap_set h6 (o+7) a7;have e:(((((((cs.setIfInBounds o a0).setIfInBounds (o+1) a1).setIfInBounds (o+2) a2).setIfInBounds (o+3) a3).setIfInBounds (o+4) a4).setIfInBounds (o+5) a5).setIfInBounds (o+6) a6).setIfInBounds (o+7) a7=⟨EN cs.toList o a0 a1 a2 a3 a4 a5 a6 a7⟩:=by
  apply Array.ext';simp only [Array.toList_setIfInBounds,EN]
 exact h7.trans (congrArg (fun z=>some (Obj.cells z T (0,0))) e)
end Ju
namespace Ce
open Go.RowKit
theorem fu (x y:Int) (w:World) (x0:0<=x) (x1:x < 18446744073709551616) (y0:0<=y) (y1:y < 18446744073709551616) :
  Calls Tryz.prog 128 #[.int .u64 x,.int .u64 y] w fun e w'=>e=.returned (.tuple #[.int .u64 (x * y / 18446744073709551616),.int .u64 (x * y % 18446744073709551616)])/\w'=w:=by
 have h:=Tryz.bits_Mul64 x.toNat y.toNat (by omega) (by omega) w;have ex:((x.toNat:Nat):Int)=x:=by omega
 have ey:((y.toNat:Nat):Int)=y:=by omega
 simp only [Int.natCast_ediv,Int.natCast_emod,Int.natCast_mul,ex,ey] at h;exact h
theorem yx (x y p:Int) (w:World) (x0:0<=x) (x1:x < 18446744073709551616) (y0:0<=y) (y1:y < 18446744073709551616) (h:x * y=p) (hp:p < 18446744073709551616) :
  Calls Tryz.prog 128 #[.int .u64 x,.int .u64 y] w fun e w'=>e=.returned (.tuple #[.int .u64 0,.int .u64 p])/\w'=w:=by
 refine (fu x y w x0 x1 y0 y1).mono ?_;rintro e w' ⟨rfl,rfl⟩;have p0:0<=p:=by rw [←h];exact Int.mul_nonneg x0 y0
 have e1:x * y / 18446744073709551616=0:=by rw [h];omega
 have e2:x * y % 18446744073709551616=p:=by rw [h];omega
 rw [e1,e2];exact ⟨rfl,rfl⟩
theorem nC (lo d:Int) (w:World) (l0:0<=lo) (l1:lo < 18446744073709551616) (d0:1<=d) (d1:d<=9223372036854775807) :
  Calls Tryz.prog 129 #[.int .u64 0,.int .u64 lo,.int .u64 d] w fun e w'=>e=.returned (.tuple #[.int .u64 (lo / d),.int .u64 (lo % d)])/\∃k,w'=w.drewN k:=by
 have hd:(d == 0)=false:=by simp;omega
 go_enter Tryz.func129,Tryz.ntmps129
 go_wp2;go_quiet (fail)
 go_wp2;go_ret2;exact ⟨rfl,_,rfl⟩
end Ce
namespace Ce
open Go.RowKit
theorem EH (a n d:Int) (w:World) (h:¬ (good a=true/\0<=n/\1<=d)) :
  Calls Tryz.prog 88 #[iI a,iI n,iI d] w fun e w'=>e=.returned (.tuple #[iI (EG a n d),iI (EF a n d)])/\w'=w:=by
 have e1:EG a n d=0:=by unfold EG;rw [if_neg];intro hh;exact h ⟨hh.1,hh.2.1,hh.2.2.1⟩
 have e2:EF a n d=1:=by unfold EF;rw [if_neg h]
 rw [e1,e2];cases ga:good a
 ·clear h;go_enter Tryz.func88,Tryz.ntmps88
  go_wp2_with (go_at_call 76;refine (qh _ _).mono ?_;rintro e w' ⟨rfl,rfl⟩)
  go_ret2;exact ⟨rfl,rfl⟩
 ·by_cases hn:n < 0
  ·clear h;go_enter Tryz.func88,Tryz.ntmps88
   go_wp2_with (go_at_call 76;refine (qh _ _).mono ?_;rintro e w' ⟨rfl,rfl⟩)
   go_ret2;exact ⟨rfl,rfl⟩
  ·have hd:d < 1:=by
    refine Int.not_le.1 fun hh=>h ⟨ga,by omega,by omega⟩
   clear h;go_enter Tryz.func88,Tryz.ntmps88
   go_wp2_with (go_at_call 76;refine (qh _ _).mono ?_;rintro e w' ⟨rfl,rfl⟩)
   go_ret2;exact ⟨rfl,rfl⟩
theorem gL (a n d p:Int) (w:World) (ga:good a=true) (n0:0<=n) (n1:n<=9223372036854775807) (d0:1<=d) (d1:d<=9223372036854775807) (hp:a * n=p) (hs:p < 18446744073709551616) :
  Calls Tryz.prog 88 #[iI a,iI n,iI d] w fun e w'=>e=.returned (.tuple #[iI (EG a n d),iI (EF a n d)])/\∃k,w'=w.drewN k:=by
 obtain ⟨a0,a1⟩:=(ql a).1 ga;have p0:0<=p:=by rw [←hp];exact Int.mul_nonneg a0 n0
 have q0:0<=p / d:=Int.ediv_nonneg p0 (by omega);have q1:p / d<=p:=Int.ediv_le_self d p0;by_cases hq:10000000000000 < p / d
 ·have gq:good (a * n / d)=false:=(qm _).2 (by rw [hp];omega);have e1:EG a n d=0:=by simp [EG,gq]
  have e2:EF a n d=2:=by unfold EF;rw [if_pos ⟨ga,n0,d0⟩,if_neg (by simp [gq])]
  rw [e1,e2];clear gq e1 e2;have H:Hid (a * n=p):=hp;clear hp;go_enter Tryz.func88,Tryz.ntmps88
  go_wp2_with (first|(go_at_call 76;refine (qh _ _).mono ?_;rintro e w' ⟨rfl,rfl⟩)|(go_at_call 128;refine (yx _ _ p _ (by omega) (by omega) (by omega) (by omega) H.out hs).mono ?_;rintro e w' ⟨rfl,rfl⟩)|(go_at_call 129;refine (nC _ _ _ (by omega) (by omega) (by omega) (by omega)).mono ?_;rintro e w' ⟨rfl,k,rfl⟩))
  go_ret2;exact ⟨rfl,_,rfl⟩
 ·have gq:good (a * n / d)=true:=(ql _).2 (by rw [hp];omega);have e1:EG a n d=p / d:=by unfold EG;rw [if_pos ⟨ga,n0,d0,gq⟩,hp]
  have e2:EF a n d=0:=by unfold EF;rw [if_pos ⟨ga,n0,d0⟩,if_pos gq]
  rw [e1,e2];clear gq e1 e2;have H:Hid (a * n=p):=hp;clear hp;go_enter Tryz.func88,Tryz.ntmps88
  go_wp2_with (first|(go_at_call 76;refine (qh _ _).mono ?_;rintro e w' ⟨rfl,rfl⟩)|(go_at_call 128;refine (yx _ _ p _ (by omega) (by omega) (by omega) (by omega) H.out hs).mono ?_;rintro e w' ⟨rfl,rfl⟩)|(go_at_call 129;refine (nC _ _ _ (by omega) (by omega) (by omega) (by omega)).mono ?_;rintro e w' ⟨rfl,k,rfl⟩))
  go_ret2;exact ⟨rfl,_,rfl⟩
theorem Ba (a p:Int) (w:World) :
  Calls Tryz.prog 134 #[iI a,iI p] w fun e w'=>e=.returned (.tuple #[iI (AZ a p),iI (AY a p)])/\∃k,w'=w.drewN k:=by
 by_cases h0:p < 0
 ·have e1:AZ a p=0:=by unfold AZ;rw [if_neg (by omega)]
  have e2:AY a p=1:=by unfold AY;rw [if_neg (by omega)]
  rw [e1,e2];go_enter Tryz.func134,Tryz.ntmps134
  go_wp2;go_ret2;exact ⟨rfl,0,rfl⟩
 ·by_cases h1:10000 < p
  ·have e1:AZ a p=0:=by unfold AZ;rw [if_neg (by omega)]
   have e2:AY a p=1:=by unfold AY;rw [if_neg (by omega)]
   rw [e1,e2];go_enter Tryz.func134,Tryz.ntmps134
   go_wp2;go_ret2;exact ⟨rfl,0,rfl⟩
  ·have e1:AZ a p=EG a p 10000:=by unfold AZ;rw [if_pos (by omega)]
   have e2:AY a p=EF a p 10000:=by unfold AY;rw [if_pos (by omega)]
   rw [e1,e2];have hc:∀w,Calls Tryz.prog 88 #[iI a,iI p,iI 10000] w fun e w'=>e=.returned (.tuple #[iI (EG a p 10000),iI (EF a p 10000)])/\∃k,w'=w.drewN k:=by
    intro w;cases ga:good a
    ·refine (EH a p 10000 w (by simp [ga])).mono ?_;rintro e w' ⟨rfl,rfl⟩;exact ⟨rfl,0,rfl⟩
    ·obtain ⟨a0,a1⟩:=(ql a).1 ga;have hb:a * p<=10000000000000 * 10000:=Int.mul_le_mul a1 (by omega) (by omega) (by omega);exact gL a p 10000 (a * p) w ga (by omega) (by omega) (by omega) (by omega) rfl (by omega)
   clear e1 e2;go_enter Tryz.func134,Tryz.ntmps134
   go_wp2_with (go_at_call 88;refine (hc _).mono ?_;rintro e w' ⟨rfl,k,rfl⟩)
   go_ret2;exact ⟨rfl,_,rfl⟩
theorem EI (a n:Int) (w:World) (n1:n<=9223372036854775807) :
  Calls Tryz.prog 88 #[iI a,iI n,iI 1] w fun e w'=>e=.returned (.tuple #[iI (EG a n 1),iI (EF a n 1)])/\∃k,w'=w.drewN k:=by
 by_cases h:good a=true/\0<=n/\(1:Int)<=1
 ·obtain ⟨ga,n0,-⟩:=h;obtain ⟨a0,a1⟩:=(ql a).1 ga;have p0:0<=a * n:=Int.mul_nonneg a0 n0;by_cases hs:a * n < 18446744073709551616
  ·exact gL a n 1 (a * n) w ga n0 n1 (by omega) (by omega) rfl hs
  ·have gq:good (a * n / 1)=false:=(qm _).2 (by rw [Int.ediv_one];omega);have e1:EG a n 1=0:=by unfold EG;rw [if_neg];intro h;rw [gq] at h;exact absurd h.2.2.2 (by decide)
   have e2:EF a n 1=2:=by unfold EF;rw [if_pos ⟨ga,n0,by omega⟩,if_neg (by rw [gq];decide)]
   rw [e1,e2];have hm:=fun w=>fu a n w a0 (by omega) n0 (by omega);obtain ⟨p,hp⟩:∃p,Hid (a * n=p):=⟨_,rfl⟩;rw [hp.out] at p0 hm hs;obtain ⟨hi,eh⟩:∃hi,p / 18446744073709551616=hi:=⟨_,rfl⟩;obtain ⟨lo,el⟩:∃lo,p % 18446744073709551616=lo:=⟨_,rfl⟩;rw [eh,el] at hm;have h0:1<=hi:=by omega
   clear gq e1 e2 eh el;go_enter Tryz.func88,Tryz.ntmps88
   go_wp2_with (first|(go_at_call 76;refine (qh _ _).mono ?_;rintro e w' ⟨rfl,rfl⟩)|(go_at_call 128;refine (hm _).mono ?_;rintro e w' ⟨rfl,rfl⟩))
   go_ret2;exact ⟨rfl,0,rfl⟩
 ·refine (EH a n 1 w h).mono ?_;rintro e w' ⟨rfl,rfl⟩;exact ⟨rfl,0,rfl⟩
end Ce
namespace Sh
open Go.RowKit
theorem DT {fn:Func} {t u v x:Tmp} (h:fn.results=#[.tmp t,.tmp u,.tmp v,.tmp x]) (tmps:Array Value) (P:Program) (w:World) :
  (results fn tmps).run P w=.ok (.tuple #[tmps.getD t undef,tmps.getD u undef,tmps.getD v undef,tmps.getD x undef]) w:=by
 simp [results,h]
theorem Ey {w w':World} {b:Nat} {o:Obj} (h:w'.heap=w.heap) (hb:w.heap[b]?=some o):w'.heap[b]?=some o:=by rw [h];exact hb
theorem jw {w:World} {b:Nat} {v0 v1 v2 v3:Value} {T:TypeId} (h:w.heap[b]?=some (.cells #[v0,v1,v2,v3] T (0,0))):w.cell? ⟨b,0,none⟩=some v0/\w.cell? ⟨b,1,none⟩=some v1/\w.cell? ⟨b,2,none⟩=some v2/\w.cell? ⟨b,3,none⟩=some v3:=by
 refine ⟨?_,?_,?_,?_⟩<;>(rw [cell_of_row w b _ _ T (0,0) h];rfl)
theorem fM (w:World) (cs ds:Array Value) (t u:TypeId):((w.alloc (.cells cs t)).alloc (.cells ds u)).heap[w.heap.size+1]?=some (.cells ds u (0,0)):=by
 have:=fK (w.alloc (.cells cs t)) ds u;rwa [World.size_alloc] at this
def Fits (x l v m:Int):Prop:=0<=x/\x<=10000000000000/\0<=l/\l<=10000000000000/\least x l=v/\l - v=m
theorem GY (x l v m:Int) (q:Nat) (w:World) (h:w.heap[q]?=some (.cells #[iI l] 2 (0,0))) (hn:Fits x l v m) :
  Calls Tryz.prog 157 #[iI x,pP q 0] w fun e w'=>e=.returned (iI v)/\dH q m w w':=by
 obtain ⟨x0,x1,l0,l1,hv,hm⟩:=hn;have:=iA x l q w h x0 x1 l0 l1;rw [hv,hm] at this;exact this
theorem iw (al:Int) (co dd:Bool) (cp cn de oo net:Int) (w:World) (Ca:[al,cp,de,oo].all Ce.good=false) :
  Calls Tryz.prog 90 #[iI al,.agg #[.bool co,.bool dd,iI cp,iI cn],iI de,iI oo,iI net] w fun e w'=>e=.returned (.tuple #[iI 0,iI 0,iI 0,iI 1])/\Below w.heap.size w w':=by
 have HAM:=zZ (fU [al,cp,de,oo] (w.heap.size+1) 4 4 ((w.alloc (.cells #[.bool co,.bool dd,iI cp,iI cn] 99)).alloc (.cells #[iI al,iI cp,iI de,iI oo] 2)) (fM w _ _ _ _) rfl (by simp));have HX0:=zZ (tV (fK w #[.bool co,.bool dd,iI cp,iI cn] 99) (iU (w.alloc (.cells #[.bool co,.bool dd,iI cp,iI cn] 99)) (.cells #[iI al,iI cp,iI de,iI oo] 2)));have HB0:=zZ (jg (iU w (.cells #[.bool co,.bool dd,iI cp,iI cn] 99)) (iU (w.alloc (.cells #[.bool co,.bool dd,iI cp,iI cn] 99)) (.cells #[iI al,iI cp,iI de,iI oo] 2)));rw [Ca] at HAM;clear Ca;go_enter Tryz.func90,Tryz.ntmps90
 go_wp2_with fail
 go_at_call 132
 refine HAM.out.mono ?_;rintro e w' ⟨rfl,rfl⟩;go_wp2
 (try simp only [Exit.inBlock,Exit.then]);refine bodyPost_ret (DT rfl _ _ _) rfl ?_
 exact ⟨rfl,HB0.out⟩
end Sh
end Go.Proofs.YtfbfeoplldjbpaaGreatDoor
