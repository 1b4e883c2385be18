/-
  Texts put together (merge.py): JSame.
-/
import Derived.Test.YtfoooldkmokjpaaGreatDoorMj23
set_option linter.unusedSimpArgs false
set_option linter.unusedVariables false
section
set_option maxRecDepth 100000
namespace Go.Proofs.YtfoooldkmokjpaaGreatDoor.Ju
open Go.RowKit
open Sh (Ot)
set_option maxHeartbeats 4000000 in
theorem osame_eq (l : List Ot) (v u : Value) (w : World) (h : OtsAt All w v l) (g : OtsAt All w u l) (hl : l.length ≤ 100000) :
  Calls Tryz.prog 13 #[v, u] w fun e w' => e = .returned (.bool true) ∧ Below w.heap.size w w' := by
 obtain ⟨fa, fk, rfl, hm1, hm2⟩ := h.form
 obtain ⟨ga, gk, rfl, hm3, hm4⟩ := g.form
 have HF := Lib.hid h
 have HG := Lib.hid g
 clear h g
 go_enter Tryz.func13, Tryz.ntmps13
 go_wp2
 go_loopg [5] (l.length) (fun gg s5 wr => ∃ k : Nat, s5 = .int .i64 k ∧ k ≤ l.length ∧ l.length - k ≤ gg ∧ Hid (Below w.heap.size w wr))
 case atStart => exact ⟨0, rfl, Nat.zero_le _, by omega, Below.refl _ _⟩
 case round =>
  obtain ⟨k, rfl, hk, hgk, HBn⟩ := hrel
  by_cases hlt : k < l.length
  ·have hltz : (k : Int) < (l.length : Int) := by omega
   obtain ⟨b, oo, rfl, -, -, hc⟩ := OtsAt.get (HF.out.grw HBn.out) k hlt
   obtain ⟨b2, o2, rfl, -, -, hc2⟩ := OtsAt.get (HG.out.grw HBn.out) k hlt
   generalize l[k] = x at *
   obtain ⟨x0, x1, x2, x3, x4, x5, x6, x7⟩ := hc
   obtain ⟨y0, y1, y2, y3, y4, y5, y6, y7⟩ := hc2
   have hi1 : k < l.length := hlt
   have HD := Lib.hid (Below.drew HBn.out)
   go_wp2_with fail
   go_quiet (fail)
   have HBW : Hid (Below w.heap.size w (wr.drewN nq)) := HBn.out.trans ⟨rfl, rfl, rfl, Nat.le_refl _, fun _ _ => rfl⟩
   go_wp2
   go_roundg (l.length - (k + 1))
   case measure => omega
   case rel => exact ⟨k + 1, by first | rfl | go_num | (congr 1; omega), by omega, by omega, HBW.out⟩
  ·have hltz : ¬ (k : Int) < (l.length : Int) := by omega
   go_wp2
   go_ret
   exact ⟨rfl, HBn.out⟩
end Go.Proofs.YtfoooldkmokjpaaGreatDoor.Ju
end
