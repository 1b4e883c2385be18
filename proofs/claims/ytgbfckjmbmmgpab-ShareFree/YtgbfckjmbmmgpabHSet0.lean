/-
  share.Settle: the ways that are refused.
-/
import Derived.Test.YtgbfckjmbmmgpabHOut
import Derived.Test.YtgbfckjmbmmgpabHBear0
import Derived.Deep.Cut
import Derived.Deep.RegionWith
set_option linter.unusedSimpArgs false
set_option linter.unusedVariables false
set_option maxRecDepth 100000
namespace Go.Proofs.Ytgbfckjmbmmgpab.Sh
open Go.RowKit

set_option maxHeartbeats 4000000 in
theorem set_bad (bi al pr de cp cn : Int) (w : World) (hAll : [bi, al, pr, de, cp, cn].all Ce.good = false) :
    Calls Try.prog 9 #[.int .i64 bi, .int .i64 al, .int .i64 pr, .int .i64 de, .int .i64 cp, .int .i64 cn] w fun e w' => e = .returned (.tuple #[.agg #[.int .i64 0, .int .i64 0, .int .i64 0, .int .i64 0, .int .i64 0, .int .i64 0, .int .i64 0, .int .i64 0], .int .i64 1]) ∧ Below w.heap.size w w' := by
  have HAM := Lib.hid (amounts_any [bi, al, pr, de, cp, cn] (w.heap.size + 1) 6 6 ((w.alloc (.cells #[.int .i64 0, .int .i64 0, .int .i64 0, .int .i64 0, .int .i64 0, .int .i64 0, .int .i64 0, .int .i64 0] 35)).alloc (.cells #[.int .i64 bi, .int .i64 al, .int .i64 pr, .int .i64 de, .int .i64 cp, .int .i64 cn] 2)) (alloc_two w _ _ _ _) rfl (by simp))
  have HX0 := Lib.hid (keepB (alloc_new w #[.int .i64 0, .int .i64 0, .int .i64 0, .int .i64 0, .int .i64 0, .int .i64 0, .int .i64 0, .int .i64 0] 35) (below_alloc (w.alloc (.cells #[.int .i64 0, .int .i64 0, .int .i64 0, .int .i64 0, .int .i64 0, .int .i64 0, .int .i64 0, .int .i64 0] 35)) (.cells #[.int .i64 bi, .int .i64 al, .int .i64 pr, .int .i64 de, .int .i64 cp, .int .i64 cn] 2)))
  have HB0 := Lib.hid (below_trans (below_alloc w (.cells #[.int .i64 0, .int .i64 0, .int .i64 0, .int .i64 0, .int .i64 0, .int .i64 0, .int .i64 0, .int .i64 0] 35)) (below_alloc (w.alloc (.cells #[.int .i64 0, .int .i64 0, .int .i64 0, .int .i64 0, .int .i64 0, .int .i64 0, .int .i64 0, .int .i64 0] 35)) (.cells #[.int .i64 bi, .int .i64 al, .int .i64 pr, .int .i64 de, .int .i64 cp, .int .i64 cn] 2)))
  have HP0 : Hid (w.heap.size < ((w.alloc (.cells #[.int .i64 0, .int .i64 0, .int .i64 0, .int .i64 0, .int .i64 0, .int .i64 0, .int .i64 0, .int .i64 0] 35)).alloc (.cells #[.int .i64 bi, .int .i64 al, .int .i64 pr, .int .i64 de, .int .i64 cp, .int .i64 cn] 2)).heap.size) := lt_of_block HX0.out
  rw [hAll] at HAM
  clear hAll
  go_enter Try.func9, Try.ntmps9
  go_wp2_with fail
  go_at_call 6
  refine HAM.out.mono ?_
  rintro e w' ⟨rfl, rfl⟩
  clear HAM
  generalize ((w.alloc (.cells #[.int .i64 0, .int .i64 0, .int .i64 0, .int .i64 0, .int .i64 0, .int .i64 0, .int .i64 0, .int .i64 0] 35)).alloc (.cells #[.int .i64 bi, .int .i64 al, .int .i64 pr, .int .i64 de, .int .i64 cp, .int .i64 cn] 2)) = W0 at *
  generalize hp : w.heap.size = p at *
  obtain ⟨b0, b1, b2, b3, b4, b5, b6, b7⟩ := eight HX0.out
  obtain ⟨f0, f1, f2, f3, f4, f5, f6, f7⟩ := frz HX0.out
  go_wp2
  clear b0 b1 b2 b3 b4 b5 b6 b7 f0 f1 f2 f3 f4 f5 f6 f7
  have HXF : Hid (((((((((W0.setCell ⟨p, 0, none⟩ (.int .i64 0)).setCell ⟨p, 1, none⟩ (.int .i64 0)).setCell ⟨p, 2, none⟩ (.int .i64 0)).setCell ⟨p, 3, none⟩ (.int .i64 0)).setCell ⟨p, 4, none⟩ (.int .i64 0)).setCell ⟨p, 5, none⟩ (.int .i64 0)).setCell ⟨p, 6, none⟩ (.int .i64 0)).setCell ⟨p, 7, none⟩ (.int .i64 0)).heap[p]? = some (.cells #[.int .i64 0, .int .i64 0, .int .i64 0, .int .i64 0, .int .i64 0, .int .i64 0, .int .i64 0, .int .i64 0] 35 (0, 0))) := put8_heap HX0.out
  have HBF : Hid (Below p w ((((((((W0.setCell ⟨p, 0, none⟩ (.int .i64 0)).setCell ⟨p, 1, none⟩ (.int .i64 0)).setCell ⟨p, 2, none⟩ (.int .i64 0)).setCell ⟨p, 3, none⟩ (.int .i64 0)).setCell ⟨p, 4, none⟩ (.int .i64 0)).setCell ⟨p, 5, none⟩ (.int .i64 0)).setCell ⟨p, 6, none⟩ (.int .i64 0)).setCell ⟨p, 7, none⟩ (.int .i64 0))) := put8_below HB0.out p (Nat.le_refl _) _ _ _ _ _ _ _ _
  generalize ((((((((W0.setCell ⟨p, 0, none⟩ (.int .i64 0)).setCell ⟨p, 1, none⟩ (.int .i64 0)).setCell ⟨p, 2, none⟩ (.int .i64 0)).setCell ⟨p, 3, none⟩ (.int .i64 0)).setCell ⟨p, 4, none⟩ (.int .i64 0)).setCell ⟨p, 5, none⟩ (.int .i64 0)).setCell ⟨p, 6, none⟩ (.int .i64 0)).setCell ⟨p, 7, none⟩ (.int .i64 0)) = WF at *
  obtain ⟨b0, b1, b2, b3, b4, b5, b6, b7⟩ := eight HXF.out
  try simp only [Exit.inBlock, Exit.then]
  refine bodyPost_ret (v := .tuple #[.agg #[.int .i64 0, .int .i64 0, .int .i64 0, .int .i64 0, .int .i64 0, .int .i64 0, .int .i64 0, .int .i64 0], .int .i64 1]) (by simp [results, Try.results9, go_sem, b0, b1, b2, b3, b4, b5, b6, b7]) rfl ?_
  exact ⟨rfl, by first | exact HBF.out | (rw [hp]; exact HBF.out)⟩
set_option maxHeartbeats 4000000 in
theorem set_o1 (bi al pr de cp cn : Int) (w : World) (bi0 : 0 ≤ bi) (bi1 : bi ≤ 10000000000000) (al0 : 0 ≤ al) (al1 : al ≤ 10000000000000) (pr0 : 0 ≤ pr) (pr1 : pr ≤ 10000000000000) (de0 : 0 ≤ de) (de1 : de ≤ 10000000000000) (cp0 : 0 ≤ cp) (cp1 : cp ≤ 10000000000000) (cn0 : 0 ≤ cn) (cn1 : cn ≤ 10000000000000) (hAll : [bi, al, pr, de, cp, cn].all Ce.good = true) (h1 : bi < al) :
    Calls Try.prog 9 #[.int .i64 bi, .int .i64 al, .int .i64 pr, .int .i64 de, .int .i64 cp, .int .i64 cn] w fun e w' => e = .returned (.tuple #[.agg #[.int .i64 0, .int .i64 0, .int .i64 0, .int .i64 0, .int .i64 0, .int .i64 0, .int .i64 0, .int .i64 0], .int .i64 3]) ∧ Below w.heap.size w w' := by
  have HAM := Lib.hid (amounts_any [bi, al, pr, de, cp, cn] (w.heap.size + 1) 6 6 ((w.alloc (.cells #[.int .i64 0, .int .i64 0, .int .i64 0, .int .i64 0, .int .i64 0, .int .i64 0, .int .i64 0, .int .i64 0] 35)).alloc (.cells #[.int .i64 bi, .int .i64 al, .int .i64 pr, .int .i64 de, .int .i64 cp, .int .i64 cn] 2)) (alloc_two w _ _ _ _) rfl (by simp))
  have HX0 := Lib.hid (keepB (alloc_new w #[.int .i64 0, .int .i64 0, .int .i64 0, .int .i64 0, .int .i64 0, .int .i64 0, .int .i64 0, .int .i64 0] 35) (below_alloc (w.alloc (.cells #[.int .i64 0, .int .i64 0, .int .i64 0, .int .i64 0, .int .i64 0, .int .i64 0, .int .i64 0, .int .i64 0] 35)) (.cells #[.int .i64 bi, .int .i64 al, .int .i64 pr, .int .i64 de, .int .i64 cp, .int .i64 cn] 2)))
  have HB0 := Lib.hid (below_trans (below_alloc w (.cells #[.int .i64 0, .int .i64 0, .int .i64 0, .int .i64 0, .int .i64 0, .int .i64 0, .int .i64 0, .int .i64 0] 35)) (below_alloc (w.alloc (.cells #[.int .i64 0, .int .i64 0, .int .i64 0, .int .i64 0, .int .i64 0, .int .i64 0, .int .i64 0, .int .i64 0] 35)) (.cells #[.int .i64 bi, .int .i64 al, .int .i64 pr, .int .i64 de, .int .i64 cp, .int .i64 cn] 2)))
  have HP0 : Hid (w.heap.size < ((w.alloc (.cells #[.int .i64 0, .int .i64 0, .int .i64 0, .int .i64 0, .int .i64 0, .int .i64 0, .int .i64 0, .int .i64 0] 35)).alloc (.cells #[.int .i64 bi, .int .i64 al, .int .i64 pr, .int .i64 de, .int .i64 cp, .int .i64 cn] 2)).heap.size) := lt_of_block HX0.out
  rw [hAll] at HAM
  clear hAll
  go_enter Try.func9, Try.ntmps9
  go_wp2_with fail
  go_at_call 6
  refine HAM.out.mono ?_
  rintro e w' ⟨rfl, rfl⟩
  clear HAM
  generalize ((w.alloc (.cells #[.int .i64 0, .int .i64 0, .int .i64 0, .int .i64 0, .int .i64 0, .int .i64 0, .int .i64 0, .int .i64 0] 35)).alloc (.cells #[.int .i64 bi, .int .i64 al, .int .i64 pr, .int .i64 de, .int .i64 cp, .int .i64 cn] 2)) = W0 at *
  generalize hp : w.heap.size = p at *
  obtain ⟨b0, b1, b2, b3, b4, b5, b6, b7⟩ := eight HX0.out
  obtain ⟨f0, f1, f2, f3, f4, f5, f6, f7⟩ := frz HX0.out
  go_wp2
  clear b0 b1 b2 b3 b4 b5 b6 b7 f0 f1 f2 f3 f4 f5 f6 f7
  have HXF : Hid (((((((((W0.setCell ⟨p, 0, none⟩ (.int .i64 0)).setCell ⟨p, 1, none⟩ (.int .i64 0)).setCell ⟨p, 2, none⟩ (.int .i64 0)).setCell ⟨p, 3, none⟩ (.int .i64 0)).setCell ⟨p, 4, none⟩ (.int .i64 0)).setCell ⟨p, 5, none⟩ (.int .i64 0)).setCell ⟨p, 6, none⟩ (.int .i64 0)).setCell ⟨p, 7, none⟩ (.int .i64 0)).heap[p]? = some (.cells #[.int .i64 0, .int .i64 0, .int .i64 0, .int .i64 0, .int .i64 0, .int .i64 0, .int .i64 0, .int .i64 0] 35 (0, 0))) := put8_heap HX0.out
  have HBF : Hid (Below p w ((((((((W0.setCell ⟨p, 0, none⟩ (.int .i64 0)).setCell ⟨p, 1, none⟩ (.int .i64 0)).setCell ⟨p, 2, none⟩ (.int .i64 0)).setCell ⟨p, 3, none⟩ (.int .i64 0)).setCell ⟨p, 4, none⟩ (.int .i64 0)).setCell ⟨p, 5, none⟩ (.int .i64 0)).setCell ⟨p, 6, none⟩ (.int .i64 0)).setCell ⟨p, 7, none⟩ (.int .i64 0))) := put8_below HB0.out p (Nat.le_refl _) _ _ _ _ _ _ _ _
  generalize ((((((((W0.setCell ⟨p, 0, none⟩ (.int .i64 0)).setCell ⟨p, 1, none⟩ (.int .i64 0)).setCell ⟨p, 2, none⟩ (.int .i64 0)).setCell ⟨p, 3, none⟩ (.int .i64 0)).setCell ⟨p, 4, none⟩ (.int .i64 0)).setCell ⟨p, 5, none⟩ (.int .i64 0)).setCell ⟨p, 6, none⟩ (.int .i64 0)).setCell ⟨p, 7, none⟩ (.int .i64 0)) = WF at *
  obtain ⟨b0, b1, b2, b3, b4, b5, b6, b7⟩ := eight HXF.out
  try simp only [Exit.inBlock, Exit.then]
  refine bodyPost_ret (v := .tuple #[.agg #[.int .i64 0, .int .i64 0, .int .i64 0, .int .i64 0, .int .i64 0, .int .i64 0, .int .i64 0, .int .i64 0], .int .i64 3]) (by simp [results, Try.results9, go_sem, b0, b1, b2, b3, b4, b5, b6, b7]) rfl ?_
  exact ⟨rfl, by first | exact HBF.out | (rw [hp]; exact HBF.out)⟩
set_option maxHeartbeats 4000000 in
theorem set_o2 (bi al pr de cp cn : Int) (w : World) (bi0 : 0 ≤ bi) (bi1 : bi ≤ 10000000000000) (al0 : 0 ≤ al) (al1 : al ≤ 10000000000000) (pr0 : 0 ≤ pr) (pr1 : pr ≤ 10000000000000) (de0 : 0 ≤ de) (de1 : de ≤ 10000000000000) (cp0 : 0 ≤ cp) (cp1 : cp ≤ 10000000000000) (cn0 : 0 ≤ cn) (cn1 : cn ≤ 10000000000000) (hAll : [bi, al, pr, de, cp, cn].all Ce.good = true) (h1 : ¬ bi < al) (h2 : bi < pr) :
    Calls Try.prog 9 #[.int .i64 bi, .int .i64 al, .int .i64 pr, .int .i64 de, .int .i64 cp, .int .i64 cn] w fun e w' => e = .returned (.tuple #[.agg #[.int .i64 0, .int .i64 0, .int .i64 0, .int .i64 0, .int .i64 0, .int .i64 0, .int .i64 0, .int .i64 0], .int .i64 3]) ∧ Below w.heap.size w w' := by
  have HAM := Lib.hid (amounts_any [bi, al, pr, de, cp, cn] (w.heap.size + 1) 6 6 ((w.alloc (.cells #[.int .i64 0, .int .i64 0, .int .i64 0, .int .i64 0, .int .i64 0, .int .i64 0, .int .i64 0, .int .i64 0] 35)).alloc (.cells #[.int .i64 bi, .int .i64 al, .int .i64 pr, .int .i64 de, .int .i64 cp, .int .i64 cn] 2)) (alloc_two w _ _ _ _) rfl (by simp))
  have HX0 := Lib.hid (keepB (alloc_new w #[.int .i64 0, .int .i64 0, .int .i64 0, .int .i64 0, .int .i64 0, .int .i64 0, .int .i64 0, .int .i64 0] 35) (below_alloc (w.alloc (.cells #[.int .i64 0, .int .i64 0, .int .i64 0, .int .i64 0, .int .i64 0, .int .i64 0, .int .i64 0, .int .i64 0] 35)) (.cells #[.int .i64 bi, .int .i64 al, .int .i64 pr, .int .i64 de, .int .i64 cp, .int .i64 cn] 2)))
  have HB0 := Lib.hid (below_trans (below_alloc w (.cells #[.int .i64 0, .int .i64 0, .int .i64 0, .int .i64 0, .int .i64 0, .int .i64 0, .int .i64 0, .int .i64 0] 35)) (below_alloc (w.alloc (.cells #[.int .i64 0, .int .i64 0, .int .i64 0, .int .i64 0, .int .i64 0, .int .i64 0, .int .i64 0, .int .i64 0] 35)) (.cells #[.int .i64 bi, .int .i64 al, .int .i64 pr, .int .i64 de, .int .i64 cp, .int .i64 cn] 2)))
  have HP0 : Hid (w.heap.size < ((w.alloc (.cells #[.int .i64 0, .int .i64 0, .int .i64 0, .int .i64 0, .int .i64 0, .int .i64 0, .int .i64 0, .int .i64 0] 35)).alloc (.cells #[.int .i64 bi, .int .i64 al, .int .i64 pr, .int .i64 de, .int .i64 cp, .int .i64 cn] 2)).heap.size) := lt_of_block HX0.out
  rw [hAll] at HAM
  clear hAll
  go_enter Try.func9, Try.ntmps9
  go_wp2_with fail
  go_at_call 6
  refine HAM.out.mono ?_
  rintro e w' ⟨rfl, rfl⟩
  clear HAM
  generalize ((w.alloc (.cells #[.int .i64 0, .int .i64 0, .int .i64 0, .int .i64 0, .int .i64 0, .int .i64 0, .int .i64 0, .int .i64 0] 35)).alloc (.cells #[.int .i64 bi, .int .i64 al, .int .i64 pr, .int .i64 de, .int .i64 cp, .int .i64 cn] 2)) = W0 at *
  generalize hp : w.heap.size = p at *
  obtain ⟨b0, b1, b2, b3, b4, b5, b6, b7⟩ := eight HX0.out
  obtain ⟨f0, f1, f2, f3, f4, f5, f6, f7⟩ := frz HX0.out
  go_wp2
  clear b0 b1 b2 b3 b4 b5 b6 b7 f0 f1 f2 f3 f4 f5 f6 f7
  have HXF : Hid (((((((((W0.setCell ⟨p, 0, none⟩ (.int .i64 0)).setCell ⟨p, 1, none⟩ (.int .i64 0)).setCell ⟨p, 2, none⟩ (.int .i64 0)).setCell ⟨p, 3, none⟩ (.int .i64 0)).setCell ⟨p, 4, none⟩ (.int .i64 0)).setCell ⟨p, 5, none⟩ (.int .i64 0)).setCell ⟨p, 6, none⟩ (.int .i64 0)).setCell ⟨p, 7, none⟩ (.int .i64 0)).heap[p]? = some (.cells #[.int .i64 0, .int .i64 0, .int .i64 0, .int .i64 0, .int .i64 0, .int .i64 0, .int .i64 0, .int .i64 0] 35 (0, 0))) := put8_heap HX0.out
  have HBF : Hid (Below p w ((((((((W0.setCell ⟨p, 0, none⟩ (.int .i64 0)).setCell ⟨p, 1, none⟩ (.int .i64 0)).setCell ⟨p, 2, none⟩ (.int .i64 0)).setCell ⟨p, 3, none⟩ (.int .i64 0)).setCell ⟨p, 4, none⟩ (.int .i64 0)).setCell ⟨p, 5, none⟩ (.int .i64 0)).setCell ⟨p, 6, none⟩ (.int .i64 0)).setCell ⟨p, 7, none⟩ (.int .i64 0))) := put8_below HB0.out p (Nat.le_refl _) _ _ _ _ _ _ _ _
  generalize ((((((((W0.setCell ⟨p, 0, none⟩ (.int .i64 0)).setCell ⟨p, 1, none⟩ (.int .i64 0)).setCell ⟨p, 2, none⟩ (.int .i64 0)).setCell ⟨p, 3, none⟩ (.int .i64 0)).setCell ⟨p, 4, none⟩ (.int .i64 0)).setCell ⟨p, 5, none⟩ (.int .i64 0)).setCell ⟨p, 6, none⟩ (.int .i64 0)).setCell ⟨p, 7, none⟩ (.int .i64 0)) = WF at *
  obtain ⟨b0, b1, b2, b3, b4, b5, b6, b7⟩ := eight HXF.out
  try simp only [Exit.inBlock, Exit.then]
  refine bodyPost_ret (v := .tuple #[.agg #[.int .i64 0, .int .i64 0, .int .i64 0, .int .i64 0, .int .i64 0, .int .i64 0, .int .i64 0, .int .i64 0], .int .i64 3]) (by simp [results, Try.results9, go_sem, b0, b1, b2, b3, b4, b5, b6, b7]) rfl ?_
  exact ⟨rfl, by first | exact HBF.out | (rw [hp]; exact HBF.out)⟩
set_option maxHeartbeats 4000000 in
theorem set_o3 (bi al pr de cp cn : Int) (w : World) (bi0 : 0 ≤ bi) (bi1 : bi ≤ 10000000000000) (al0 : 0 ≤ al) (al1 : al ≤ 10000000000000) (pr0 : 0 ≤ pr) (pr1 : pr ≤ 10000000000000) (de0 : 0 ≤ de) (de1 : de ≤ 10000000000000) (cp0 : 0 ≤ cp) (cp1 : cp ≤ 10000000000000) (cn0 : 0 ≤ cn) (cn1 : cn ≤ 10000000000000) (hAll : [bi, al, pr, de, cp, cn].all Ce.good = true) (h1 : ¬ bi < al) (h2 : ¬ bi < pr) (h3 : al < de + cp + cn) :
    Calls Try.prog 9 #[.int .i64 bi, .int .i64 al, .int .i64 pr, .int .i64 de, .int .i64 cp, .int .i64 cn] w fun e w' => e = .returned (.tuple #[.agg #[.int .i64 0, .int .i64 0, .int .i64 0, .int .i64 0, .int .i64 0, .int .i64 0, .int .i64 0, .int .i64 0], .int .i64 3]) ∧ Below w.heap.size w w' := by
  have HAM := Lib.hid (amounts_any [bi, al, pr, de, cp, cn] (w.heap.size + 1) 6 6 ((w.alloc (.cells #[.int .i64 0, .int .i64 0, .int .i64 0, .int .i64 0, .int .i64 0, .int .i64 0, .int .i64 0, .int .i64 0] 35)).alloc (.cells #[.int .i64 bi, .int .i64 al, .int .i64 pr, .int .i64 de, .int .i64 cp, .int .i64 cn] 2)) (alloc_two w _ _ _ _) rfl (by simp))
  have HX0 := Lib.hid (keepB (alloc_new w #[.int .i64 0, .int .i64 0, .int .i64 0, .int .i64 0, .int .i64 0, .int .i64 0, .int .i64 0, .int .i64 0] 35) (below_alloc (w.alloc (.cells #[.int .i64 0, .int .i64 0, .int .i64 0, .int .i64 0, .int .i64 0, .int .i64 0, .int .i64 0, .int .i64 0] 35)) (.cells #[.int .i64 bi, .int .i64 al, .int .i64 pr, .int .i64 de, .int .i64 cp, .int .i64 cn] 2)))
  have HB0 := Lib.hid (below_trans (below_alloc w (.cells #[.int .i64 0, .int .i64 0, .int .i64 0, .int .i64 0, .int .i64 0, .int .i64 0, .int .i64 0, .int .i64 0] 35)) (below_alloc (w.alloc (.cells #[.int .i64 0, .int .i64 0, .int .i64 0, .int .i64 0, .int .i64 0, .int .i64 0, .int .i64 0, .int .i64 0] 35)) (.cells #[.int .i64 bi, .int .i64 al, .int .i64 pr, .int .i64 de, .int .i64 cp, .int .i64 cn] 2)))
  have HP0 : Hid (w.heap.size < ((w.alloc (.cells #[.int .i64 0, .int .i64 0, .int .i64 0, .int .i64 0, .int .i64 0, .int .i64 0, .int .i64 0, .int .i64 0] 35)).alloc (.cells #[.int .i64 bi, .int .i64 al, .int .i64 pr, .int .i64 de, .int .i64 cp, .int .i64 cn] 2)).heap.size) := lt_of_block HX0.out
  rw [hAll] at HAM
  clear hAll
  go_enter Try.func9, Try.ntmps9
  go_wp2_with fail
  go_at_call 6
  refine HAM.out.mono ?_
  rintro e w' ⟨rfl, rfl⟩
  clear HAM
  generalize ((w.alloc (.cells #[.int .i64 0, .int .i64 0, .int .i64 0, .int .i64 0, .int .i64 0, .int .i64 0, .int .i64 0, .int .i64 0] 35)).alloc (.cells #[.int .i64 bi, .int .i64 al, .int .i64 pr, .int .i64 de, .int .i64 cp, .int .i64 cn] 2)) = W0 at *
  generalize hp : w.heap.size = p at *
  obtain ⟨b0, b1, b2, b3, b4, b5, b6, b7⟩ := eight HX0.out
  obtain ⟨f0, f1, f2, f3, f4, f5, f6, f7⟩ := frz HX0.out
  go_wp2
  clear b0 b1 b2 b3 b4 b5 b6 b7 f0 f1 f2 f3 f4 f5 f6 f7
  have HXF : Hid (((((((((W0.setCell ⟨p, 0, none⟩ (.int .i64 0)).setCell ⟨p, 1, none⟩ (.int .i64 0)).setCell ⟨p, 2, none⟩ (.int .i64 0)).setCell ⟨p, 3, none⟩ (.int .i64 0)).setCell ⟨p, 4, none⟩ (.int .i64 0)).setCell ⟨p, 5, none⟩ (.int .i64 0)).setCell ⟨p, 6, none⟩ (.int .i64 0)).setCell ⟨p, 7, none⟩ (.int .i64 0)).heap[p]? = some (.cells #[.int .i64 0, .int .i64 0, .int .i64 0, .int .i64 0, .int .i64 0, .int .i64 0, .int .i64 0, .int .i64 0] 35 (0, 0))) := put8_heap HX0.out
  have HBF : Hid (Below p w ((((((((W0.setCell ⟨p, 0, none⟩ (.int .i64 0)).setCell ⟨p, 1, none⟩ (.int .i64 0)).setCell ⟨p, 2, none⟩ (.int .i64 0)).setCell ⟨p, 3, none⟩ (.int .i64 0)).setCell ⟨p, 4, none⟩ (.int .i64 0)).setCell ⟨p, 5, none⟩ (.int .i64 0)).setCell ⟨p, 6, none⟩ (.int .i64 0)).setCell ⟨p, 7, none⟩ (.int .i64 0))) := put8_below HB0.out p (Nat.le_refl _) _ _ _ _ _ _ _ _
  generalize ((((((((W0.setCell ⟨p, 0, none⟩ (.int .i64 0)).setCell ⟨p, 1, none⟩ (.int .i64 0)).setCell ⟨p, 2, none⟩ (.int .i64 0)).setCell ⟨p, 3, none⟩ (.int .i64 0)).setCell ⟨p, 4, none⟩ (.int .i64 0)).setCell ⟨p, 5, none⟩ (.int .i64 0)).setCell ⟨p, 6, none⟩ (.int .i64 0)).setCell ⟨p, 7, none⟩ (.int .i64 0)) = WF at *
  obtain ⟨b0, b1, b2, b3, b4, b5, b6, b7⟩ := eight HXF.out
  try simp only [Exit.inBlock, Exit.then]
  refine bodyPost_ret (v := .tuple #[.agg #[.int .i64 0, .int .i64 0, .int .i64 0, .int .i64 0, .int .i64 0, .int .i64 0, .int .i64 0, .int .i64 0], .int .i64 3]) (by simp [results, Try.results9, go_sem, b0, b1, b2, b3, b4, b5, b6, b7]) rfl ?_
  exact ⟨rfl, by first | exact HBF.out | (rw [hp]; exact HBF.out)⟩
end Go.Proofs.Ytgbfckjmbmmgpab.Sh
