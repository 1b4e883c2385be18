/-
  Texts put together (merge.py): HBear, HSet0.
-/
import Derived.Deep.Cut
import Derived.Deep.RegionWith
import Derived.Test.YtfoooldkmokjpaaGreatDoorMj24
import Derived.Test.YtfoooldkmokjpaaGreatDoorMj25
import Derived.Test.YtfoooldkmokjpaaGreatDoorMj20
set_option linter.unusedSimpArgs false
set_option linter.unusedVariables false
section
set_option maxRecDepth 100000
namespace Go.Proofs.YtfoooldkmokjpaaGreatDoor.Sh
open Go.RowKit
theorem part_to (a p : Int) : Hid (∀ w : World, Calls Tryz.prog 137 #[.int .i64 a, .int .i64 p] w fun e w' => e = .returned (.tuple #[.int .i64 (Ce.partV a p), .int .i64 (Ce.partE a p)]) ∧ w'.heap = w.heap ∧ Below w.heap.size w w') := fun w => by
 refine (Ce.part_any a p w).mono ?_
 rintro e w' ⟨rfl, k, rfl⟩
 exact ⟨rfl, rfl, (Below.refl _ _).trans ⟨rfl, rfl, rfl, Nat.le_refl _, fun _ _ => rfl⟩⟩
theorem part_bad (a p : Int) (h : ¬ (0 ≤ p ∧ p ≤ 10000)) : Ce.partV a p = 0 ∧ Ce.partE a p = 1 := by
 unfold Ce.partV Ce.partE
 rw [if_neg h, if_neg h]
 exact ⟨rfl, rfl⟩
theorem part_ok (a p : Int) (h : 0 ≤ p ∧ p ≤ 10000) (h0 : 0 ≤ a) (h1 : a ≤ 10000000000000) : Ce.partE a p = 0 := by
 have e1 : 0 ≤ a * p := Int.mul_nonneg h0 h.1
 have e2 : a * p ≤ a * 10000 := Int.mul_le_mul_of_nonneg_left h.2 h0
 unfold Ce.partE Ce.scaleE
 rw [if_pos h, if_pos ⟨(Ce.good_iff _).2 ⟨h0, h1⟩, h.1, by omega⟩, if_pos ((Ce.good_iff _).2 (by omega))]
theorem fits (x l : Int) (h0 : 0 ≤ x) (h1 : x ≤ 10000000000000) (h2 : 0 ≤ l) (h3 : l ≤ 10000000000000) : Fits x l (least x l) (l - least x l) := ⟨h0, h1, h2, h3, rfl, rfl⟩
theorem fits_all (x l : Int) (h1 : x ≤ 10000000000000) (h2 : 0 ≤ l) (h3 : l ≤ x) : Fits x l l 0 := ⟨by omega, h1, h2, by omega, by unfold least; split <;> omega, by omega⟩
theorem least_bd (x l : Int) (h0 : 0 ≤ x) (h2 : 0 ≤ l) : 0 ≤ least x l ∧ least x l ≤ x ∧ least x l ≤ l := by unfold least; split <;> omega
theorem all_four (al cp de oo : Int) : [al, cp, de, oo].all Ce.good = (Ce.good al && (Ce.good cp && (Ce.good de && Ce.good oo))) := by simp
theorem bear_any (al : Int) (co dd : Bool) (cp cn de oo net : Int) (w : World) :
  Calls Tryz.prog 93 #[.int .i64 al, .agg #[.bool co, .bool dd, .int .i64 cp, .int .i64 cn], .int .i64 de, .int .i64 oo, .int .i64 net] w fun e w' => e = .returned (.tuple #[.int .i64 (bD al dd cp cn de oo net), .int .i64 (bC al dd cp cn de oo net), .int .i64 (bK al dd cp cn de oo net), .int .i64 (bE al cp cn de oo)]) ∧ Below w.heap.size w w' := by
 cases hAll : [al, cp, de, oo].all Ce.good
 ·have hb : bearB al cp cn de oo = false := by unfold bearB; rw [← all_four, hAll]; rfl
  rw [show bD al dd cp cn de oo net = 0 by simp [bD, hb], show bC al dd cp cn de oo net = 0 by simp [bC, hb], show bK al dd cp cn de oo net = 0 by simp [bK, hb], show bE al cp cn de oo = 1 by simp [bE, hb]]
  exact bear_bad al co dd cp cn de oo net w hAll
 have hq := all_four al cp de oo
 rw [hAll] at hq
 have hq := hq.symm
 simp only [Bool.and_eq_true, Ce.good_iff] at hq
 obtain ⟨⟨a0, a1⟩, ⟨c0', c1⟩, ⟨e0, e1⟩, o0, o1⟩ := hq
 have hd := least_bd de al e0 a0
 have hc1 := least_bd cp (al - least de al) c0' (by omega)
 have hc2 := least_bd cp al c0' a0
 by_cases hn : 0 ≤ cn ∧ cn ≤ 10000
 ·have hb : bearB al cp cn de oo = true := (bear_iff al cp cn de oo).2 ⟨⟨a0, a1⟩, ⟨c0', c1⟩, ⟨e0, e1⟩, ⟨o0, o1⟩, hn.1, hn.2⟩
  rw [show bE al cp cn de oo = 0 by simp [bE, hb]]
  by_cases hz : net = 0
  ·subst hz
   cases dd
   ·have hd0 : d0 al false de 0 = 0 := by simp [d0]
    have hc0 : c0 al false cp de 0 = least cp al := by simp [c0, hd0]
    have hk0 : k0 al false cp cn de 0 = Ce.partV (al - least cp al) cn := by simp [k0, hd0, hc0]
    have hk := part_in (al - least cp al) cn (by omega) hn.1 hn.2
    have hx := least_bd 0 oo (by omega) o0
    have hy := least_bd (least cp al) (oo - least 0 oo) (by omega) (by omega)
    have x1 : bD al false cp cn de oo 0 = least 0 oo := by simp [bD, hb, hd0]
    have x2 : bC al false cp cn de oo 0 = least (least cp al) (oo - least 0 oo) := by simp only [bC, hb, if_true, x1, hc0]
    have x3 : bK al false cp cn de oo 0 = least (Ce.partV (al - least cp al) cn) (oo - least 0 oo - least (least cp al) (oo - least 0 oo)) := by simp only [bK, hb, if_true, x1, x2, hk0]
    rw [x1, x2, x3]
    have HP := part_to (al - least cp al) cn
    rw [part_ok (al - least cp al) cn hn (by omega) (by omega)] at HP
    exact bear_fi al co cp cn de oo w _ _ (Lib.hid (fits cp al c0' c1 a0 a1)) (Lib.hid (fits_all al _ a1 (by omega) (by omega))) hAll _ _ _ _ _ _ _ (Lib.hid (fits 0 oo (by omega) (by omega) o0 o1)) (Lib.hid (fits _ _ (by omega) (by omega) (by omega) (by omega))) (Lib.hid (fits _ _ (by omega) (by omega) (by omega) (by omega))) HP
   ·have hd0 : d0 al true de 0 = least de al := by simp [d0]
    have hc0 : c0 al true cp de 0 = least cp (al - least de al) := by simp [c0, hd0]
    have hk0 : k0 al true cp cn de 0 = Ce.partV (al - least de al - least cp (al - least de al)) cn := by simp [k0, hd0, hc0]
    have hk := part_in (al - least de al - least cp (al - least de al)) cn (by omega) hn.1 hn.2
    have hx := least_bd (least de al) oo (by omega) o0
    have hy := least_bd (least cp (al - least de al)) (oo - least (least de al) oo) (by omega) (by omega)
    have x1 : bD al true cp cn de oo 0 = least (least de al) oo := by simp [bD, hb, hd0]
    have x2 : bC al true cp cn de oo 0 = least (least cp (al - least de al)) (oo - least (least de al) oo) := by simp only [bC, hb, if_true, x1, hc0]
    have x3 : bK al true cp cn de oo 0 = least (Ce.partV (al - least de al - least cp (al - least de al)) cn) (oo - least (least de al) oo - least (least cp (al - least de al)) (oo - least (least de al) oo)) := by simp only [bK, hb, if_true, x1, x2, hk0]
    rw [x1, x2, x3]
    have HP := part_to (al - least de al - least cp (al - least de al)) cn
    rw [part_ok (al - least de al - least cp (al - least de al)) cn hn (by omega) (by omega)] at HP
    exact bear_ti al co cp cn de oo w _ _ _ _ (Lib.hid (fits de al e0 e1 a0 a1)) (Lib.hid (fits cp _ c0' c1 (by omega) (by omega))) (Lib.hid (fits_all al _ a1 (by omega) (by omega))) hAll _ _ _ _ _ _ _ (Lib.hid (fits _ oo (by omega) (by omega) o0 o1)) (Lib.hid (fits _ _ (by omega) (by omega) (by omega) (by omega))) (Lib.hid (fits _ _ (by omega) (by omega) (by omega) (by omega))) HP
  ·have hz' : (net == 0) = false := by simpa using hz
   have hd0 : d0 al dd de net = 0 := by simp [d0, hz]
   have hc0 : c0 al dd cp de net = least cp al := by simp [c0, hd0]
   have hk0 : k0 al dd cp cn de net = Ce.partV (al - least cp al) cn := by simp [k0, hd0, hc0]
   rw [show bD al dd cp cn de oo net = 0 by simp [bD, hb, hz, hd0], show bC al dd cp cn de oo net = least cp al by simp [bC, hb, hz, hc0], show bK al dd cp cn de oo net = Ce.partV (al - least cp al) cn by simp [bK, hb, hz, hk0]]
   have HP := part_to (al - least cp al) cn
   rw [part_ok (al - least cp al) cn hn (by omega) (by omega)] at HP
   cases dd
   ·exact bear_fo al co cp cn de oo net w hz' _ _ (Lib.hid (fits cp al c0' c1 a0 a1)) (Lib.hid (fits_all al _ a1 (by omega) (by omega))) hAll _ HP
   ·exact bear_to al co cp cn de oo net w hz' _ _ (Lib.hid (fits cp al c0' c1 a0 a1)) (Lib.hid (fits_all al _ a1 (by omega) (by omega))) hAll _ HP
 ·have hb : bearB al cp cn de oo = false := by
   cases h : bearB al cp cn de oo
   ·rfl
   ·have := (bear_iff al cp cn de oo).1 h
    exact absurd ⟨this.2.2.2.2.1, this.2.2.2.2.2⟩ hn
  rw [show bD al dd cp cn de oo net = 0 by simp [bD, hb], show bC al dd cp cn de oo net = 0 by simp [bC, hb], show bK al dd cp cn de oo net = 0 by simp [bK, hb], show bE al cp cn de oo = 1 by simp [bE, hb]]
  have hP (a : Int) : Hid (∀ w : World, Calls Tryz.prog 137 #[.int .i64 a, .int .i64 cn] w fun e w' => e = .returned (.tuple #[.int .i64 0, .int .i64 1]) ∧ w'.heap = w.heap ∧ Below w.heap.size w w') := by
   have := part_to a cn
   rw [(part_bad a cn hn).1, (part_bad a cn hn).2] at this
   exact this
  by_cases hz : net = 0
  ·subst hz
   cases dd
   ·exact bear_fip al co cp cn de oo w _ _ (Lib.hid (fits cp al c0' c1 a0 a1)) (Lib.hid (fits_all al _ a1 (by omega) (by omega))) hAll (hP _)
   ·exact bear_tip al co cp cn de oo w _ _ _ _ (Lib.hid (fits de al e0 e1 a0 a1)) (Lib.hid (fits cp _ c0' c1 (by omega) (by omega))) (Lib.hid (fits_all al _ a1 (by omega) (by omega))) hAll (hP _)
  ·have hz' : (net == 0) = false := by simpa using hz
   cases dd
   ·exact bear_fop al co cp cn de oo net w hz' _ _ (Lib.hid (fits cp al c0' c1 a0 a1)) (Lib.hid (fits_all al _ a1 (by omega) (by omega))) hAll (hP _)
   ·exact bear_top al co cp cn de oo net w hz' _ _ (Lib.hid (fits cp al c0' c1 a0 a1)) (Lib.hid (fits_all al _ a1 (by omega) (by omega))) hAll (hP _)
end Go.Proofs.YtfoooldkmokjpaaGreatDoor.Sh
end
section
set_option maxRecDepth 100000
namespace Go.Proofs.YtfoooldkmokjpaaGreatDoor.Sh
open Go.RowKit
set_option maxHeartbeats 4000000 in
theorem set_bad (bi al pr de cp cn : Int) (w : World) (hAll : [bi, al, pr, de, cp, cn].all Ce.good = false) :
  Calls Tryz.prog 94 #[.int .i64 bi, .int .i64 al, .int .i64 pr, .int .i64 de, .int .i64 cp, .int .i64 cn] w fun e w' => e = .returned (.tuple #[.agg #[.int .i64 0, .int .i64 0, .int .i64 0, .int .i64 0, .int .i64 0, .int .i64 0, .int .i64 0, .int .i64 0], .int .i64 1]) ∧ Below w.heap.size w w' := by
 have HAM := Lib.hid (amounts_any [bi, al, pr, de, cp, cn] (w.heap.size + 1) 6 6 ((w.alloc (.cells #[.int .i64 0, .int .i64 0, .int .i64 0, .int .i64 0, .int .i64 0, .int .i64 0, .int .i64 0, .int .i64 0] 48)).alloc (.cells #[.int .i64 bi, .int .i64 al, .int .i64 pr, .int .i64 de, .int .i64 cp, .int .i64 cn] 2)) (alloc_two w _ _ _ _) rfl (by simp))
 have HX0 := Lib.hid (keepB (alloc_new w #[.int .i64 0, .int .i64 0, .int .i64 0, .int .i64 0, .int .i64 0, .int .i64 0, .int .i64 0, .int .i64 0] 48) (below_alloc (w.alloc (.cells #[.int .i64 0, .int .i64 0, .int .i64 0, .int .i64 0, .int .i64 0, .int .i64 0, .int .i64 0, .int .i64 0] 48)) (.cells #[.int .i64 bi, .int .i64 al, .int .i64 pr, .int .i64 de, .int .i64 cp, .int .i64 cn] 2)))
 have HB0 := Lib.hid (below_trans (below_alloc w (.cells #[.int .i64 0, .int .i64 0, .int .i64 0, .int .i64 0, .int .i64 0, .int .i64 0, .int .i64 0, .int .i64 0] 48)) (below_alloc (w.alloc (.cells #[.int .i64 0, .int .i64 0, .int .i64 0, .int .i64 0, .int .i64 0, .int .i64 0, .int .i64 0, .int .i64 0] 48)) (.cells #[.int .i64 bi, .int .i64 al, .int .i64 pr, .int .i64 de, .int .i64 cp, .int .i64 cn] 2)))
 have HP0 : Hid (w.heap.size < ((w.alloc (.cells #[.int .i64 0, .int .i64 0, .int .i64 0, .int .i64 0, .int .i64 0, .int .i64 0, .int .i64 0, .int .i64 0] 48)).alloc (.cells #[.int .i64 bi, .int .i64 al, .int .i64 pr, .int .i64 de, .int .i64 cp, .int .i64 cn] 2)).heap.size) := lt_of_block HX0.out
 rw [hAll] at HAM
 clear hAll
 go_enter Tryz.func94, Tryz.ntmps94
 go_wp2_with fail
 go_at_call 135
 refine HAM.out.mono ?_
 rintro e w' ⟨rfl, rfl⟩
 clear HAM
 generalize ((w.alloc (.cells #[.int .i64 0, .int .i64 0, .int .i64 0, .int .i64 0, .int .i64 0, .int .i64 0, .int .i64 0, .int .i64 0] 48)).alloc (.cells #[.int .i64 bi, .int .i64 al, .int .i64 pr, .int .i64 de, .int .i64 cp, .int .i64 cn] 2)) = W0 at *
 generalize hp : w.heap.size = p at *
 obtain ⟨b0, b1, b2, b3, b4, b5, b6, b7⟩ := eight HX0.out
 obtain ⟨f0, f1, f2, f3, f4, f5, f6, f7⟩ := frz HX0.out
 go_wp2
 clear b0 b1 b2 b3 b4 b5 b6 b7 f0 f1 f2 f3 f4 f5 f6 f7
 have HXF : Hid (((((((((W0.setCell ⟨p, 0, none⟩ (.int .i64 0)).setCell ⟨p, 1, none⟩ (.int .i64 0)).setCell ⟨p, 2, none⟩ (.int .i64 0)).setCell ⟨p, 3, none⟩ (.int .i64 0)).setCell ⟨p, 4, none⟩ (.int .i64 0)).setCell ⟨p, 5, none⟩ (.int .i64 0)).setCell ⟨p, 6, none⟩ (.int .i64 0)).setCell ⟨p, 7, none⟩ (.int .i64 0)).heap[p]? = some (.cells #[.int .i64 0, .int .i64 0, .int .i64 0, .int .i64 0, .int .i64 0, .int .i64 0, .int .i64 0, .int .i64 0] 48 (0, 0))) := put8_heap HX0.out
 have HBF : Hid (Below p w ((((((((W0.setCell ⟨p, 0, none⟩ (.int .i64 0)).setCell ⟨p, 1, none⟩ (.int .i64 0)).setCell ⟨p, 2, none⟩ (.int .i64 0)).setCell ⟨p, 3, none⟩ (.int .i64 0)).setCell ⟨p, 4, none⟩ (.int .i64 0)).setCell ⟨p, 5, none⟩ (.int .i64 0)).setCell ⟨p, 6, none⟩ (.int .i64 0)).setCell ⟨p, 7, none⟩ (.int .i64 0))) := put8_below HB0.out p (Nat.le_refl _) _ _ _ _ _ _ _ _
 generalize ((((((((W0.setCell ⟨p, 0, none⟩ (.int .i64 0)).setCell ⟨p, 1, none⟩ (.int .i64 0)).setCell ⟨p, 2, none⟩ (.int .i64 0)).setCell ⟨p, 3, none⟩ (.int .i64 0)).setCell ⟨p, 4, none⟩ (.int .i64 0)).setCell ⟨p, 5, none⟩ (.int .i64 0)).setCell ⟨p, 6, none⟩ (.int .i64 0)).setCell ⟨p, 7, none⟩ (.int .i64 0)) = WF at *
 obtain ⟨b0, b1, b2, b3, b4, b5, b6, b7⟩ := eight HXF.out
 try simp only [Exit.inBlock, Exit.then]
 refine bodyPost_ret (v := .tuple #[.agg #[.int .i64 0, .int .i64 0, .int .i64 0, .int .i64 0, .int .i64 0, .int .i64 0, .int .i64 0, .int .i64 0], .int .i64 1]) (by simp [results, Tryz.results94, go_sem, b0, b1, b2, b3, b4, b5, b6, b7]) rfl ?_
 exact ⟨rfl, by first | exact HBF.out | (rw [hp]; exact HBF.out)⟩
set_option maxHeartbeats 4000000 in
theorem set_o1 (bi al pr de cp cn : Int) (w : World) (bi0 : 0 ≤ bi) (bi1 : bi ≤ 10000000000000) (al0 : 0 ≤ al) (al1 : al ≤ 10000000000000) (pr0 : 0 ≤ pr) (pr1 : pr ≤ 10000000000000) (de0 : 0 ≤ de) (de1 : de ≤ 10000000000000) (cp0 : 0 ≤ cp) (cp1 : cp ≤ 10000000000000) (cn0 : 0 ≤ cn) (cn1 : cn ≤ 10000000000000) (hAll : [bi, al, pr, de, cp, cn].all Ce.good = true) (h1 : bi < al) :
  Calls Tryz.prog 94 #[.int .i64 bi, .int .i64 al, .int .i64 pr, .int .i64 de, .int .i64 cp, .int .i64 cn] w fun e w' => e = .returned (.tuple #[.agg #[.int .i64 0, .int .i64 0, .int .i64 0, .int .i64 0, .int .i64 0, .int .i64 0, .int .i64 0, .int .i64 0], .int .i64 3]) ∧ Below w.heap.size w w' := by
 have HAM := Lib.hid (amounts_any [bi, al, pr, de, cp, cn] (w.heap.size + 1) 6 6 ((w.alloc (.cells #[.int .i64 0, .int .i64 0, .int .i64 0, .int .i64 0, .int .i64 0, .int .i64 0, .int .i64 0, .int .i64 0] 48)).alloc (.cells #[.int .i64 bi, .int .i64 al, .int .i64 pr, .int .i64 de, .int .i64 cp, .int .i64 cn] 2)) (alloc_two w _ _ _ _) rfl (by simp))
 have HX0 := Lib.hid (keepB (alloc_new w #[.int .i64 0, .int .i64 0, .int .i64 0, .int .i64 0, .int .i64 0, .int .i64 0, .int .i64 0, .int .i64 0] 48) (below_alloc (w.alloc (.cells #[.int .i64 0, .int .i64 0, .int .i64 0, .int .i64 0, .int .i64 0, .int .i64 0, .int .i64 0, .int .i64 0] 48)) (.cells #[.int .i64 bi, .int .i64 al, .int .i64 pr, .int .i64 de, .int .i64 cp, .int .i64 cn] 2)))
 have HB0 := Lib.hid (below_trans (below_alloc w (.cells #[.int .i64 0, .int .i64 0, .int .i64 0, .int .i64 0, .int .i64 0, .int .i64 0, .int .i64 0, .int .i64 0] 48)) (below_alloc (w.alloc (.cells #[.int .i64 0, .int .i64 0, .int .i64 0, .int .i64 0, .int .i64 0, .int .i64 0, .int .i64 0, .int .i64 0] 48)) (.cells #[.int .i64 bi, .int .i64 al, .int .i64 pr, .int .i64 de, .int .i64 cp, .int .i64 cn] 2)))
 have HP0 : Hid (w.heap.size < ((w.alloc (.cells #[.int .i64 0, .int .i64 0, .int .i64 0, .int .i64 0, .int .i64 0, .int .i64 0, .int .i64 0, .int .i64 0] 48)).alloc (.cells #[.int .i64 bi, .int .i64 al, .int .i64 pr, .int .i64 de, .int .i64 cp, .int .i64 cn] 2)).heap.size) := lt_of_block HX0.out
 rw [hAll] at HAM
 clear hAll
 go_enter Tryz.func94, Tryz.ntmps94
 go_wp2_with fail
 go_at_call 135
 refine HAM.out.mono ?_
 rintro e w' ⟨rfl, rfl⟩
 clear HAM
 generalize ((w.alloc (.cells #[.int .i64 0, .int .i64 0, .int .i64 0, .int .i64 0, .int .i64 0, .int .i64 0, .int .i64 0, .int .i64 0] 48)).alloc (.cells #[.int .i64 bi, .int .i64 al, .int .i64 pr, .int .i64 de, .int .i64 cp, .int .i64 cn] 2)) = W0 at *
 generalize hp : w.heap.size = p at *
 obtain ⟨b0, b1, b2, b3, b4, b5, b6, b7⟩ := eight HX0.out
 obtain ⟨f0, f1, f2, f3, f4, f5, f6, f7⟩ := frz HX0.out
 go_wp2
 clear b0 b1 b2 b3 b4 b5 b6 b7 f0 f1 f2 f3 f4 f5 f6 f7
 have HXF : Hid (((((((((W0.setCell ⟨p, 0, none⟩ (.int .i64 0)).setCell ⟨p, 1, none⟩ (.int .i64 0)).setCell ⟨p, 2, none⟩ (.int .i64 0)).setCell ⟨p, 3, none⟩ (.int .i64 0)).setCell ⟨p, 4, none⟩ (.int .i64 0)).setCell ⟨p, 5, none⟩ (.int .i64 0)).setCell ⟨p, 6, none⟩ (.int .i64 0)).setCell ⟨p, 7, none⟩ (.int .i64 0)).heap[p]? = some (.cells #[.int .i64 0, .int .i64 0, .int .i64 0, .int .i64 0, .int .i64 0, .int .i64 0, .int .i64 0, .int .i64 0] 48 (0, 0))) := put8_heap HX0.out
 have HBF : Hid (Below p w ((((((((W0.setCell ⟨p, 0, none⟩ (.int .i64 0)).setCell ⟨p, 1, none⟩ (.int .i64 0)).setCell ⟨p, 2, none⟩ (.int .i64 0)).setCell ⟨p, 3, none⟩ (.int .i64 0)).setCell ⟨p, 4, none⟩ (.int .i64 0)).setCell ⟨p, 5, none⟩ (.int .i64 0)).setCell ⟨p, 6, none⟩ (.int .i64 0)).setCell ⟨p, 7, none⟩ (.int .i64 0))) := put8_below HB0.out p (Nat.le_refl _) _ _ _ _ _ _ _ _
 generalize ((((((((W0.setCell ⟨p, 0, none⟩ (.int .i64 0)).setCell ⟨p, 1, none⟩ (.int .i64 0)).setCell ⟨p, 2, none⟩ (.int .i64 0)).setCell ⟨p, 3, none⟩ (.int .i64 0)).setCell ⟨p, 4, none⟩ (.int .i64 0)).setCell ⟨p, 5, none⟩ (.int .i64 0)).setCell ⟨p, 6, none⟩ (.int .i64 0)).setCell ⟨p, 7, none⟩ (.int .i64 0)) = WF at *
 obtain ⟨b0, b1, b2, b3, b4, b5, b6, b7⟩ := eight HXF.out
 try simp only [Exit.inBlock, Exit.then]
 refine bodyPost_ret (v := .tuple #[.agg #[.int .i64 0, .int .i64 0, .int .i64 0, .int .i64 0, .int .i64 0, .int .i64 0, .int .i64 0, .int .i64 0], .int .i64 3]) (by simp [results, Tryz.results94, go_sem, b0, b1, b2, b3, b4, b5, b6, b7]) rfl ?_
 exact ⟨rfl, by first | exact HBF.out | (rw [hp]; exact HBF.out)⟩
set_option maxHeartbeats 4000000 in
theorem set_o2 (bi al pr de cp cn : Int) (w : World) (bi0 : 0 ≤ bi) (bi1 : bi ≤ 10000000000000) (al0 : 0 ≤ al) (al1 : al ≤ 10000000000000) (pr0 : 0 ≤ pr) (pr1 : pr ≤ 10000000000000) (de0 : 0 ≤ de) (de1 : de ≤ 10000000000000) (cp0 : 0 ≤ cp) (cp1 : cp ≤ 10000000000000) (cn0 : 0 ≤ cn) (cn1 : cn ≤ 10000000000000) (hAll : [bi, al, pr, de, cp, cn].all Ce.good = true) (h1 : ¬ bi < al) (h2 : bi < pr) :
  Calls Tryz.prog 94 #[.int .i64 bi, .int .i64 al, .int .i64 pr, .int .i64 de, .int .i64 cp, .int .i64 cn] w fun e w' => e = .returned (.tuple #[.agg #[.int .i64 0, .int .i64 0, .int .i64 0, .int .i64 0, .int .i64 0, .int .i64 0, .int .i64 0, .int .i64 0], .int .i64 3]) ∧ Below w.heap.size w w' := by
 have HAM := Lib.hid (amounts_any [bi, al, pr, de, cp, cn] (w.heap.size + 1) 6 6 ((w.alloc (.cells #[.int .i64 0, .int .i64 0, .int .i64 0, .int .i64 0, .int .i64 0, .int .i64 0, .int .i64 0, .int .i64 0] 48)).alloc (.cells #[.int .i64 bi, .int .i64 al, .int .i64 pr, .int .i64 de, .int .i64 cp, .int .i64 cn] 2)) (alloc_two w _ _ _ _) rfl (by simp))
 have HX0 := Lib.hid (keepB (alloc_new w #[.int .i64 0, .int .i64 0, .int .i64 0, .int .i64 0, .int .i64 0, .int .i64 0, .int .i64 0, .int .i64 0] 48) (below_alloc (w.alloc (.cells #[.int .i64 0, .int .i64 0, .int .i64 0, .int .i64 0, .int .i64 0, .int .i64 0, .int .i64 0, .int .i64 0] 48)) (.cells #[.int .i64 bi, .int .i64 al, .int .i64 pr, .int .i64 de, .int .i64 cp, .int .i64 cn] 2)))
 have HB0 := Lib.hid (below_trans (below_alloc w (.cells #[.int .i64 0, .int .i64 0, .int .i64 0, .int .i64 0, .int .i64 0, .int .i64 0, .int .i64 0, .int .i64 0] 48)) (below_alloc (w.alloc (.cells #[.int .i64 0, .int .i64 0, .int .i64 0, .int .i64 0, .int .i64 0, .int .i64 0, .int .i64 0, .int .i64 0] 48)) (.cells #[.int .i64 bi, .int .i64 al, .int .i64 pr, .int .i64 de, .int .i64 cp, .int .i64 cn] 2)))
 have HP0 : Hid (w.heap.size < ((w.alloc (.cells #[.int .i64 0, .int .i64 0, .int .i64 0, .int .i64 0, .int .i64 0, .int .i64 0, .int .i64 0, .int .i64 0] 48)).alloc (.cells #[.int .i64 bi, .int .i64 al, .int .i64 pr, .int .i64 de, .int .i64 cp, .int .i64 cn] 2)).heap.size) := lt_of_block HX0.out
 rw [hAll] at HAM
 clear hAll
 go_enter Tryz.func94, Tryz.ntmps94
 go_wp2_with fail
 go_at_call 135
 refine HAM.out.mono ?_
 rintro e w' ⟨rfl, rfl⟩
 clear HAM
 generalize ((w.alloc (.cells #[.int .i64 0, .int .i64 0, .int .i64 0, .int .i64 0, .int .i64 0, .int .i64 0, .int .i64 0, .int .i64 0] 48)).alloc (.cells #[.int .i64 bi, .int .i64 al, .int .i64 pr, .int .i64 de, .int .i64 cp, .int .i64 cn] 2)) = W0 at *
 generalize hp : w.heap.size = p at *
 obtain ⟨b0, b1, b2, b3, b4, b5, b6, b7⟩ := eight HX0.out
 obtain ⟨f0, f1, f2, f3, f4, f5, f6, f7⟩ := frz HX0.out
 go_wp2
 clear b0 b1 b2 b3 b4 b5 b6 b7 f0 f1 f2 f3 f4 f5 f6 f7
 have HXF : Hid (((((((((W0.setCell ⟨p, 0, none⟩ (.int .i64 0)).setCell ⟨p, 1, none⟩ (.int .i64 0)).setCell ⟨p, 2, none⟩ (.int .i64 0)).setCell ⟨p, 3, none⟩ (.int .i64 0)).setCell ⟨p, 4, none⟩ (.int .i64 0)).setCell ⟨p, 5, none⟩ (.int .i64 0)).setCell ⟨p, 6, none⟩ (.int .i64 0)).setCell ⟨p, 7, none⟩ (.int .i64 0)).heap[p]? = some (.cells #[.int .i64 0, .int .i64 0, .int .i64 0, .int .i64 0, .int .i64 0, .int .i64 0, .int .i64 0, .int .i64 0] 48 (0, 0))) := put8_heap HX0.out
 have HBF : Hid (Below p w ((((((((W0.setCell ⟨p, 0, none⟩ (.int .i64 0)).setCell ⟨p, 1, none⟩ (.int .i64 0)).setCell ⟨p, 2, none⟩ (.int .i64 0)).setCell ⟨p, 3, none⟩ (.int .i64 0)).setCell ⟨p, 4, none⟩ (.int .i64 0)).setCell ⟨p, 5, none⟩ (.int .i64 0)).setCell ⟨p, 6, none⟩ (.int .i64 0)).setCell ⟨p, 7, none⟩ (.int .i64 0))) := put8_below HB0.out p (Nat.le_refl _) _ _ _ _ _ _ _ _
 generalize ((((((((W0.setCell ⟨p, 0, none⟩ (.int .i64 0)).setCell ⟨p, 1, none⟩ (.int .i64 0)).setCell ⟨p, 2, none⟩ (.int .i64 0)).setCell ⟨p, 3, none⟩ (.int .i64 0)).setCell ⟨p, 4, none⟩ (.int .i64 0)).setCell ⟨p, 5, none⟩ (.int .i64 0)).setCell ⟨p, 6, none⟩ (.int .i64 0)).setCell ⟨p, 7, none⟩ (.int .i64 0)) = WF at *
 obtain ⟨b0, b1, b2, b3, b4, b5, b6, b7⟩ := eight HXF.out
 try simp only [Exit.inBlock, Exit.then]
 refine bodyPost_ret (v := .tuple #[.agg #[.int .i64 0, .int .i64 0, .int .i64 0, .int .i64 0, .int .i64 0, .int .i64 0, .int .i64 0, .int .i64 0], .int .i64 3]) (by simp [results, Tryz.results94, go_sem, b0, b1, b2, b3, b4, b5, b6, b7]) rfl ?_
 exact ⟨rfl, by first | exact HBF.out | (rw [hp]; exact HBF.out)⟩
set_option maxHeartbeats 4000000 in
theorem set_o3 (bi al pr de cp cn : Int) (w : World) (bi0 : 0 ≤ bi) (bi1 : bi ≤ 10000000000000) (al0 : 0 ≤ al) (al1 : al ≤ 10000000000000) (pr0 : 0 ≤ pr) (pr1 : pr ≤ 10000000000000) (de0 : 0 ≤ de) (de1 : de ≤ 10000000000000) (cp0 : 0 ≤ cp) (cp1 : cp ≤ 10000000000000) (cn0 : 0 ≤ cn) (cn1 : cn ≤ 10000000000000) (hAll : [bi, al, pr, de, cp, cn].all Ce.good = true) (h1 : ¬ bi < al) (h2 : ¬ bi < pr) (h3 : al < de + cp + cn) :
  Calls Tryz.prog 94 #[.int .i64 bi, .int .i64 al, .int .i64 pr, .int .i64 de, .int .i64 cp, .int .i64 cn] w fun e w' => e = .returned (.tuple #[.agg #[.int .i64 0, .int .i64 0, .int .i64 0, .int .i64 0, .int .i64 0, .int .i64 0, .int .i64 0, .int .i64 0], .int .i64 3]) ∧ Below w.heap.size w w' := by
 have HAM := Lib.hid (amounts_any [bi, al, pr, de, cp, cn] (w.heap.size + 1) 6 6 ((w.alloc (.cells #[.int .i64 0, .int .i64 0, .int .i64 0, .int .i64 0, .int .i64 0, .int .i64 0, .int .i64 0, .int .i64 0] 48)).alloc (.cells #[.int .i64 bi, .int .i64 al, .int .i64 pr, .int .i64 de, .int .i64 cp, .int .i64 cn] 2)) (alloc_two w _ _ _ _) rfl (by simp))
 have HX0 := Lib.hid (keepB (alloc_new w #[.int .i64 0, .int .i64 0, .int .i64 0, .int .i64 0, .int .i64 0, .int .i64 0, .int .i64 0, .int .i64 0] 48) (below_alloc (w.alloc (.cells #[.int .i64 0, .int .i64 0, .int .i64 0, .int .i64 0, .int .i64 0, .int .i64 0, .int .i64 0, .int .i64 0] 48)) (.cells #[.int .i64 bi, .int .i64 al, .int .i64 pr, .int .i64 de, .int .i64 cp, .int .i64 cn] 2)))
 have HB0 := Lib.hid (below_trans (below_alloc w (.cells #[.int .i64 0, .int .i64 0, .int .i64 0, .int .i64 0, .int .i64 0, .int .i64 0, .int .i64 0, .int .i64 0] 48)) (below_alloc (w.alloc (.cells #[.int .i64 0, .int .i64 0, .int .i64 0, .int .i64 0, .int .i64 0, .int .i64 0, .int .i64 0, .int .i64 0] 48)) (.cells #[.int .i64 bi, .int .i64 al, .int .i64 pr, .int .i64 de, .int .i64 cp, .int .i64 cn] 2)))
 have HP0 : Hid (w.heap.size < ((w.alloc (.cells #[.int .i64 0, .int .i64 0, .int .i64 0, .int .i64 0, .int .i64 0, .int .i64 0, .int .i64 0, .int .i64 0] 48)).alloc (.cells #[.int .i64 bi, .int .i64 al, .int .i64 pr, .int .i64 de, .int .i64 cp, .int .i64 cn] 2)).heap.size) := lt_of_block HX0.out
 rw [hAll] at HAM
 clear hAll
 go_enter Tryz.func94, Tryz.ntmps94
 go_wp2_with fail
 go_at_call 135
 refine HAM.out.mono ?_
 rintro e w' ⟨rfl, rfl⟩
 clear HAM
 generalize ((w.alloc (.cells #[.int .i64 0, .int .i64 0, .int .i64 0, .int .i64 0, .int .i64 0, .int .i64 0, .int .i64 0, .int .i64 0] 48)).alloc (.cells #[.int .i64 bi, .int .i64 al, .int .i64 pr, .int .i64 de, .int .i64 cp, .int .i64 cn] 2)) = W0 at *
 generalize hp : w.heap.size = p at *
 obtain ⟨b0, b1, b2, b3, b4, b5, b6, b7⟩ := eight HX0.out
 obtain ⟨f0, f1, f2, f3, f4, f5, f6, f7⟩ := frz HX0.out
 go_wp2
 clear b0 b1 b2 b3 b4 b5 b6 b7 f0 f1 f2 f3 f4 f5 f6 f7
 have HXF : Hid (((((((((W0.setCell ⟨p, 0, none⟩ (.int .i64 0)).setCell ⟨p, 1, none⟩ (.int .i64 0)).setCell ⟨p, 2, none⟩ (.int .i64 0)).setCell ⟨p, 3, none⟩ (.int .i64 0)).setCell ⟨p, 4, none⟩ (.int .i64 0)).setCell ⟨p, 5, none⟩ (.int .i64 0)).setCell ⟨p, 6, none⟩ (.int .i64 0)).setCell ⟨p, 7, none⟩ (.int .i64 0)).heap[p]? = some (.cells #[.int .i64 0, .int .i64 0, .int .i64 0, .int .i64 0, .int .i64 0, .int .i64 0, .int .i64 0, .int .i64 0] 48 (0, 0))) := put8_heap HX0.out
 have HBF : Hid (Below p w ((((((((W0.setCell ⟨p, 0, none⟩ (.int .i64 0)).setCell ⟨p, 1, none⟩ (.int .i64 0)).setCell ⟨p, 2, none⟩ (.int .i64 0)).setCell ⟨p, 3, none⟩ (.int .i64 0)).setCell ⟨p, 4, none⟩ (.int .i64 0)).setCell ⟨p, 5, none⟩ (.int .i64 0)).setCell ⟨p, 6, none⟩ (.int .i64 0)).setCell ⟨p, 7, none⟩ (.int .i64 0))) := put8_below HB0.out p (Nat.le_refl _) _ _ _ _ _ _ _ _
 generalize ((((((((W0.setCell ⟨p, 0, none⟩ (.int .i64 0)).setCell ⟨p, 1, none⟩ (.int .i64 0)).setCell ⟨p, 2, none⟩ (.int .i64 0)).setCell ⟨p, 3, none⟩ (.int .i64 0)).setCell ⟨p, 4, none⟩ (.int .i64 0)).setCell ⟨p, 5, none⟩ (.int .i64 0)).setCell ⟨p, 6, none⟩ (.int .i64 0)).setCell ⟨p, 7, none⟩ (.int .i64 0)) = WF at *
 obtain ⟨b0, b1, b2, b3, b4, b5, b6, b7⟩ := eight HXF.out
 try simp only [Exit.inBlock, Exit.then]
 refine bodyPost_ret (v := .tuple #[.agg #[.int .i64 0, .int .i64 0, .int .i64 0, .int .i64 0, .int .i64 0, .int .i64 0, .int .i64 0, .int .i64 0], .int .i64 3]) (by simp [results, Tryz.results94, go_sem, b0, b1, b2, b3, b4, b5, b6, b7]) rfl ?_
 exact ⟨rfl, by first | exact HBF.out | (rw [hp]; exact HBF.out)⟩
end Go.Proofs.YtfoooldkmokjpaaGreatDoor.Sh
end
