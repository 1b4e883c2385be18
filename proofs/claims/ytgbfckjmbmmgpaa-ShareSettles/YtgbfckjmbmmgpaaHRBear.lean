/-
  What the reference's Bear answers, as a contract: for every amount, benefit and limit.
-/
import Derived.Test.YtgbfckjmbmmgpaaHBear
import Derived.Test.YtgbfckjmbmmgpaaCRefPrt
import Derived.Deep.Cut
set_option linter.unusedSimpArgs false
set_option linter.unusedVariables false
set_option maxRecDepth 100000
namespace Go.Proofs.Ytgbfckjmbmmgpaa.Sh
open Go.RowKit

theorem least_to (a b v : Int) (h : least a b = v) : Hid (∀ w : World, Calls Try.prog 22 #[.int .i64 a, .int .i64 b] w fun e w' => e = .returned (.int .i64 v) ∧ w' = w) := fun w => by
  rw [← h]
  exact least_any a b w
set_option maxHeartbeats 4000000 in
theorem rbear_bad1 (al : Int) (co dd : Bool) (cp cn de oo net : Int) (w : World) (ga : Ce.good al = false) :
    Calls Try.prog 10 #[.int .i64 al, .agg #[.bool co, .bool dd, .int .i64 cp, .int .i64 cn], .int .i64 de, .int .i64 oo, .int .i64 net] w fun e w' => e = .returned (.tuple #[.int .i64 0, .int .i64 0, .int .i64 0, .int .i64 1]) ∧ Below w.heap.size w w' := by
  have HX := Lib.hid (alloc_new w #[.bool co, .bool dd, .int .i64 cp, .int .i64 cn] 23)
  have HB := Lib.hid (below_alloc w (.cells #[.bool co, .bool dd, .int .i64 cp, .int .i64 cn] 23))
  go_enter Try.func10, Try.ntmps10
  go_upto_region 1 with fail
  generalize w.alloc (.cells #[.bool co, .bool dd, .int .i64 cp, .int .i64 cn] 23) = W at *
  generalize hp : w.heap.size = p at *
  obtain ⟨b0, b1, b2, b3⟩ := bfour HX.out
  go_wp2_with (go_at_call 21; refine (Ce.rgood_any _ _).mono ?_; rintro e w' ⟨rfl, rfl⟩)
  (try simp only [Exit.inBlock, Exit.then]); refine bodyPost_ret (results_tmp4 rfl _ _ _) rfl ?_
  exact ⟨rfl, by first | exact HB.out | (rw [hp]; exact HB.out)⟩
set_option maxHeartbeats 4000000 in
theorem rbear_bad2 (al : Int) (co dd : Bool) (cp cn de oo net : Int) (w : World) (ga : Ce.good al = true) (gb : Ce.good cp = false) :
    Calls Try.prog 10 #[.int .i64 al, .agg #[.bool co, .bool dd, .int .i64 cp, .int .i64 cn], .int .i64 de, .int .i64 oo, .int .i64 net] w fun e w' => e = .returned (.tuple #[.int .i64 0, .int .i64 0, .int .i64 0, .int .i64 1]) ∧ Below w.heap.size w w' := by
  have HX := Lib.hid (alloc_new w #[.bool co, .bool dd, .int .i64 cp, .int .i64 cn] 23)
  have HB := Lib.hid (below_alloc w (.cells #[.bool co, .bool dd, .int .i64 cp, .int .i64 cn] 23))
  go_enter Try.func10, Try.ntmps10
  go_upto_region 1 with fail
  generalize w.alloc (.cells #[.bool co, .bool dd, .int .i64 cp, .int .i64 cn] 23) = W at *
  generalize hp : w.heap.size = p at *
  obtain ⟨b0, b1, b2, b3⟩ := bfour HX.out
  go_wp2_with (go_at_call 21; refine (Ce.rgood_any _ _).mono ?_; rintro e w' ⟨rfl, rfl⟩)
  (try simp only [Exit.inBlock, Exit.then]); refine bodyPost_ret (results_tmp4 rfl _ _ _) rfl ?_
  exact ⟨rfl, by first | exact HB.out | (rw [hp]; exact HB.out)⟩
set_option maxHeartbeats 4000000 in
theorem rbear_bad3 (al : Int) (co dd : Bool) (cp cn de oo net : Int) (w : World) (ga : Ce.good al = true) (gb : Ce.good cp = true) (gc : Ce.good de = false) :
    Calls Try.prog 10 #[.int .i64 al, .agg #[.bool co, .bool dd, .int .i64 cp, .int .i64 cn], .int .i64 de, .int .i64 oo, .int .i64 net] w fun e w' => e = .returned (.tuple #[.int .i64 0, .int .i64 0, .int .i64 0, .int .i64 1]) ∧ Below w.heap.size w w' := by
  have HX := Lib.hid (alloc_new w #[.bool co, .bool dd, .int .i64 cp, .int .i64 cn] 23)
  have HB := Lib.hid (below_alloc w (.cells #[.bool co, .bool dd, .int .i64 cp, .int .i64 cn] 23))
  go_enter Try.func10, Try.ntmps10
  go_upto_region 1 with fail
  generalize w.alloc (.cells #[.bool co, .bool dd, .int .i64 cp, .int .i64 cn] 23) = W at *
  generalize hp : w.heap.size = p at *
  obtain ⟨b0, b1, b2, b3⟩ := bfour HX.out
  go_wp2_with (go_at_call 21; refine (Ce.rgood_any _ _).mono ?_; rintro e w' ⟨rfl, rfl⟩)
  (try simp only [Exit.inBlock, Exit.then]); refine bodyPost_ret (results_tmp4 rfl _ _ _) rfl ?_
  exact ⟨rfl, by first | exact HB.out | (rw [hp]; exact HB.out)⟩
set_option maxHeartbeats 4000000 in
theorem rbear_bad4 (al : Int) (co dd : Bool) (cp cn de oo net : Int) (w : World) (ga : Ce.good al = true) (gb : Ce.good cp = true) (gc : Ce.good de = true) (gd : Ce.good oo = false) :
    Calls Try.prog 10 #[.int .i64 al, .agg #[.bool co, .bool dd, .int .i64 cp, .int .i64 cn], .int .i64 de, .int .i64 oo, .int .i64 net] w fun e w' => e = .returned (.tuple #[.int .i64 0, .int .i64 0, .int .i64 0, .int .i64 1]) ∧ Below w.heap.size w w' := by
  have HX := Lib.hid (alloc_new w #[.bool co, .bool dd, .int .i64 cp, .int .i64 cn] 23)
  have HB := Lib.hid (below_alloc w (.cells #[.bool co, .bool dd, .int .i64 cp, .int .i64 cn] 23))
  go_enter Try.func10, Try.ntmps10
  go_upto_region 1 with fail
  generalize w.alloc (.cells #[.bool co, .bool dd, .int .i64 cp, .int .i64 cn] 23) = W at *
  generalize hp : w.heap.size = p at *
  obtain ⟨b0, b1, b2, b3⟩ := bfour HX.out
  go_wp2_with (go_at_call 21; refine (Ce.rgood_any _ _).mono ?_; rintro e w' ⟨rfl, rfl⟩)
  (try simp only [Exit.inBlock, Exit.then]); refine bodyPost_ret (results_tmp4 rfl _ _ _) rfl ?_
  exact ⟨rfl, by first | exact HB.out | (rw [hp]; exact HB.out)⟩
set_option maxHeartbeats 4000000 in
theorem rbear_bad5 (al : Int) (co dd : Bool) (cp cn de oo net : Int) (w : World) (ga : Ce.good al = true) (gb : Ce.good cp = true) (gc : Ce.good de = true) (gd : Ce.good oo = true) (hn : cn < 0) :
    Calls Try.prog 10 #[.int .i64 al, .agg #[.bool co, .bool dd, .int .i64 cp, .int .i64 cn], .int .i64 de, .int .i64 oo, .int .i64 net] w fun e w' => e = .returned (.tuple #[.int .i64 0, .int .i64 0, .int .i64 0, .int .i64 1]) ∧ Below w.heap.size w w' := by
  have HX := Lib.hid (alloc_new w #[.bool co, .bool dd, .int .i64 cp, .int .i64 cn] 23)
  have HB := Lib.hid (below_alloc w (.cells #[.bool co, .bool dd, .int .i64 cp, .int .i64 cn] 23))
  go_enter Try.func10, Try.ntmps10
  go_upto_region 1 with fail
  generalize w.alloc (.cells #[.bool co, .bool dd, .int .i64 cp, .int .i64 cn] 23) = W at *
  generalize hp : w.heap.size = p at *
  obtain ⟨b0, b1, b2, b3⟩ := bfour HX.out
  go_wp2_with (go_at_call 21; refine (Ce.rgood_any _ _).mono ?_; rintro e w' ⟨rfl, rfl⟩)
  (try simp only [Exit.inBlock, Exit.then]); refine bodyPost_ret (results_tmp4 rfl _ _ _) rfl ?_
  exact ⟨rfl, by first | exact HB.out | (rw [hp]; exact HB.out)⟩
set_option maxHeartbeats 4000000 in
theorem rbear_bad6 (al : Int) (co dd : Bool) (cp cn de oo net : Int) (w : World) (ga : Ce.good al = true) (gb : Ce.good cp = true) (gc : Ce.good de = true) (gd : Ce.good oo = true) (hn : 0 ≤ cn) (hm : 10000 < cn) :
    Calls Try.prog 10 #[.int .i64 al, .agg #[.bool co, .bool dd, .int .i64 cp, .int .i64 cn], .int .i64 de, .int .i64 oo, .int .i64 net] w fun e w' => e = .returned (.tuple #[.int .i64 0, .int .i64 0, .int .i64 0, .int .i64 1]) ∧ Below w.heap.size w w' := by
  have HX := Lib.hid (alloc_new w #[.bool co, .bool dd, .int .i64 cp, .int .i64 cn] 23)
  have HB := Lib.hid (below_alloc w (.cells #[.bool co, .bool dd, .int .i64 cp, .int .i64 cn] 23))
  go_enter Try.func10, Try.ntmps10
  go_upto_region 1 with fail
  generalize w.alloc (.cells #[.bool co, .bool dd, .int .i64 cp, .int .i64 cn] 23) = W at *
  generalize hp : w.heap.size = p at *
  obtain ⟨b0, b1, b2, b3⟩ := bfour HX.out
  go_wp2_with (go_at_call 21; refine (Ce.rgood_any _ _).mono ?_; rintro e w' ⟨rfl, rfl⟩)
  (try simp only [Exit.inBlock, Exit.then]); refine bodyPost_ret (results_tmp4 rfl _ _ _) rfl ?_
  exact ⟨rfl, by first | exact HB.out | (rw [hp]; exact HB.out)⟩
set_option maxHeartbeats 4000000 in
theorem rbear_ti (al : Int) (co : Bool) (cp cn de oo : Int) (w : World) (ga : Ce.good al = true) (gb : Ce.good cp = true) (gc : Ce.good de = true) (gd : Ce.good oo = true) (n0 : 0 ≤ cn) (n1 : cn ≤ 10000) (D C K X Y Z : Int) (a0 : 0 ≤ al) (a1 : al ≤ 10000000000000) (o0 : 0 ≤ oo) (o1 : oo ≤ 10000000000000) (d0 : 0 ≤ D) (d1 : D ≤ al) (c0 : 0 ≤ C) (c1 : C ≤ al - D) (L1 : Hid (∀ w : World, Calls Try.prog 22 #[.int .i64 de, .int .i64 al] w fun e w' => e = .returned (.int .i64 D) ∧ w' = w)) (L2 : Hid (∀ w : World, Calls Try.prog 22 #[.int .i64 cp, .int .i64 (al - D)] w fun e w' => e = .returned (.int .i64 C) ∧ w' = w)) (HPt : Hid (∀ w : World, Calls Try.prog 23 #[.int .i64 (al - D - C), .int .i64 cn] w fun e w' => e = .returned (.tuple #[.int .i64 K, .int .i64 0]) ∧ w' = w)) (x0 : 0 ≤ X) (x1 : X ≤ oo) (y0 : 0 ≤ Y) (y1 : Y ≤ oo - X) (L3 : Hid (∀ w : World, Calls Try.prog 22 #[.int .i64 D, .int .i64 oo] w fun e w' => e = .returned (.int .i64 X) ∧ w' = w)) (L4 : Hid (∀ w : World, Calls Try.prog 22 #[.int .i64 C, .int .i64 (oo - X)] w fun e w' => e = .returned (.int .i64 Y) ∧ w' = w)) (L5 : Hid (∀ w : World, Calls Try.prog 22 #[.int .i64 K, .int .i64 (oo - X - Y)] w fun e w' => e = .returned (.int .i64 Z) ∧ w' = w)) :
    Calls Try.prog 10 #[.int .i64 al, .agg #[.bool co, .bool true, .int .i64 cp, .int .i64 cn], .int .i64 de, .int .i64 oo, .int .i64 0] w fun e w' => e = .returned (.tuple #[.int .i64 X, .int .i64 Y, .int .i64 Z, .int .i64 0]) ∧ Below w.heap.size w w' := by
  have HX := Lib.hid (alloc_new w #[.bool co, .bool true, .int .i64 cp, .int .i64 cn] 23)
  have HB := Lib.hid (below_alloc w (.cells #[.bool co, .bool true, .int .i64 cp, .int .i64 cn] 23))
  go_enter Try.func10, Try.ntmps10
  go_upto_region 1 with fail
  generalize w.alloc (.cells #[.bool co, .bool true, .int .i64 cp, .int .i64 cn] 23) = W at *
  generalize hp : w.heap.size = p at *
  obtain ⟨b0, b1, b2, b3⟩ := bfour HX.out
  go_wp2_with (go_at_call 21; refine (Ce.rgood_any _ _).mono ?_; rintro e w' ⟨rfl, rfl⟩)
  go_at_call 22
  refine (L1.out _).mono ?_
  rintro e w' ⟨rfl, hw⟩
  rw [hw]
  clear hw w'
  go_wp2_with fail
  go_at_call 22
  refine (L2.out _).mono ?_
  rintro e w' ⟨rfl, hw⟩
  rw [hw]
  clear hw w'
  go_wp2_with fail
  go_at_call 23
  refine (HPt.out _).mono ?_
  rintro e w' ⟨rfl, hw⟩
  rw [hw]
  clear hw w'
  go_wp2_with fail
  go_at_call 22
  refine (L3.out _).mono ?_
  rintro e w' ⟨rfl, hw⟩
  rw [hw]
  clear hw w'
  go_wp2_with fail
  go_at_call 22
  refine (L4.out _).mono ?_
  rintro e w' ⟨rfl, hw⟩
  rw [hw]
  clear hw w'
  go_wp2_with fail
  go_at_call 22
  refine (L5.out _).mono ?_
  rintro e w' ⟨rfl, hw⟩
  rw [hw]
  clear hw w'
  go_wp2
  (try simp only [Exit.inBlock, Exit.then]); refine bodyPost_ret (results_tmp4 rfl _ _ _) rfl ?_
  exact ⟨rfl, by first | exact HB.out | (rw [hp]; exact HB.out)⟩
set_option maxHeartbeats 4000000 in
theorem rbear_fi (al : Int) (co : Bool) (cp cn de oo : Int) (w : World) (ga : Ce.good al = true) (gb : Ce.good cp = true) (gc : Ce.good de = true) (gd : Ce.good oo = true) (n0 : 0 ≤ cn) (n1 : cn ≤ 10000) (C K X Y Z : Int) (a0 : 0 ≤ al) (a1 : al ≤ 10000000000000) (o0 : 0 ≤ oo) (o1 : oo ≤ 10000000000000) (c0 : 0 ≤ C) (c1 : C ≤ al) (L2 : Hid (∀ w : World, Calls Try.prog 22 #[.int .i64 cp, .int .i64 al] w fun e w' => e = .returned (.int .i64 C) ∧ w' = w)) (HPt : Hid (∀ w : World, Calls Try.prog 23 #[.int .i64 (al - C), .int .i64 cn] w fun e w' => e = .returned (.tuple #[.int .i64 K, .int .i64 0]) ∧ w' = w)) (x0 : 0 ≤ X) (x1 : X ≤ oo) (y0 : 0 ≤ Y) (y1 : Y ≤ oo - X) (L3 : Hid (∀ w : World, Calls Try.prog 22 #[.int .i64 0, .int .i64 oo] w fun e w' => e = .returned (.int .i64 X) ∧ w' = w)) (L4 : Hid (∀ w : World, Calls Try.prog 22 #[.int .i64 C, .int .i64 (oo - X)] w fun e w' => e = .returned (.int .i64 Y) ∧ w' = w)) (L5 : Hid (∀ w : World, Calls Try.prog 22 #[.int .i64 K, .int .i64 (oo - X - Y)] w fun e w' => e = .returned (.int .i64 Z) ∧ w' = w)) :
    Calls Try.prog 10 #[.int .i64 al, .agg #[.bool co, .bool false, .int .i64 cp, .int .i64 cn], .int .i64 de, .int .i64 oo, .int .i64 0] w fun e w' => e = .returned (.tuple #[.int .i64 X, .int .i64 Y, .int .i64 Z, .int .i64 0]) ∧ Below w.heap.size w w' := by
  have HX := Lib.hid (alloc_new w #[.bool co, .bool false, .int .i64 cp, .int .i64 cn] 23)
  have HB := Lib.hid (below_alloc w (.cells #[.bool co, .bool false, .int .i64 cp, .int .i64 cn] 23))
  go_enter Try.func10, Try.ntmps10
  go_upto_region 1 with fail
  generalize w.alloc (.cells #[.bool co, .bool false, .int .i64 cp, .int .i64 cn] 23) = W at *
  generalize hp : w.heap.size = p at *
  obtain ⟨b0, b1, b2, b3⟩ := bfour HX.out
  go_wp2_with (go_at_call 21; refine (Ce.rgood_any _ _).mono ?_; rintro e w' ⟨rfl, rfl⟩)
  go_at_call 22
  refine (L2.out _).mono ?_
  rintro e w' ⟨rfl, hw⟩
  rw [hw]
  clear hw w'
  go_wp2_with fail
  go_at_call 23
  refine (HPt.out _).mono ?_
  rintro e w' ⟨rfl, hw⟩
  rw [hw]
  clear hw w'
  go_wp2_with fail
  go_at_call 22
  refine (L3.out _).mono ?_
  rintro e w' ⟨rfl, hw⟩
  rw [hw]
  clear hw w'
  go_wp2_with fail
  go_at_call 22
  refine (L4.out _).mono ?_
  rintro e w' ⟨rfl, hw⟩
  rw [hw]
  clear hw w'
  go_wp2_with fail
  go_at_call 22
  refine (L5.out _).mono ?_
  rintro e w' ⟨rfl, hw⟩
  rw [hw]
  clear hw w'
  go_wp2
  (try simp only [Exit.inBlock, Exit.then]); refine bodyPost_ret (results_tmp4 rfl _ _ _) rfl ?_
  exact ⟨rfl, by first | exact HB.out | (rw [hp]; exact HB.out)⟩
set_option maxHeartbeats 4000000 in
theorem rbear_to (al : Int) (co : Bool) (cp cn de oo net : Int) (w : World) (hz : (net == 0) = false) (ga : Ce.good al = true) (gb : Ce.good cp = true) (gc : Ce.good de = true) (gd : Ce.good oo = true) (n0 : 0 ≤ cn) (n1 : cn ≤ 10000) (C K : Int) (a0 : 0 ≤ al) (a1 : al ≤ 10000000000000) (o0 : 0 ≤ oo) (o1 : oo ≤ 10000000000000) (c0 : 0 ≤ C) (c1 : C ≤ al) (L2 : Hid (∀ w : World, Calls Try.prog 22 #[.int .i64 cp, .int .i64 al] w fun e w' => e = .returned (.int .i64 C) ∧ w' = w)) (HPt : Hid (∀ w : World, Calls Try.prog 23 #[.int .i64 (al - C), .int .i64 cn] w fun e w' => e = .returned (.tuple #[.int .i64 K, .int .i64 0]) ∧ w' = w)) :
    Calls Try.prog 10 #[.int .i64 al, .agg #[.bool co, .bool true, .int .i64 cp, .int .i64 cn], .int .i64 de, .int .i64 oo, .int .i64 net] w fun e w' => e = .returned (.tuple #[.int .i64 0, .int .i64 C, .int .i64 K, .int .i64 0]) ∧ Below w.heap.size w w' := by
  have HX := Lib.hid (alloc_new w #[.bool co, .bool true, .int .i64 cp, .int .i64 cn] 23)
  have HB := Lib.hid (below_alloc w (.cells #[.bool co, .bool true, .int .i64 cp, .int .i64 cn] 23))
  go_enter Try.func10, Try.ntmps10
  go_upto_region 1 with fail
  generalize w.alloc (.cells #[.bool co, .bool true, .int .i64 cp, .int .i64 cn] 23) = W at *
  generalize hp : w.heap.size = p at *
  obtain ⟨b0, b1, b2, b3⟩ := bfour HX.out
  go_wp2_with (go_at_call 21; refine (Ce.rgood_any _ _).mono ?_; rintro e w' ⟨rfl, rfl⟩)
  go_at_call 22
  refine (L2.out _).mono ?_
  rintro e w' ⟨rfl, hw⟩
  rw [hw]
  clear hw w'
  go_wp2_with fail
  go_at_call 23
  refine (HPt.out _).mono ?_
  rintro e w' ⟨rfl, hw⟩
  rw [hw]
  clear hw w'
  go_wp2
  (try simp only [Exit.inBlock, Exit.then]); refine bodyPost_ret (results_tmp4 rfl _ _ _) rfl ?_
  exact ⟨rfl, by first | exact HB.out | (rw [hp]; exact HB.out)⟩
set_option maxHeartbeats 4000000 in
theorem rbear_fo (al : Int) (co : Bool) (cp cn de oo net : Int) (w : World) (hz : (net == 0) = false) (ga : Ce.good al = true) (gb : Ce.good cp = true) (gc : Ce.good de = true) (gd : Ce.good oo = true) (n0 : 0 ≤ cn) (n1 : cn ≤ 10000) (C K : Int) (a0 : 0 ≤ al) (a1 : al ≤ 10000000000000) (o0 : 0 ≤ oo) (o1 : oo ≤ 10000000000000) (c0 : 0 ≤ C) (c1 : C ≤ al) (L2 : Hid (∀ w : World, Calls Try.prog 22 #[.int .i64 cp, .int .i64 al] w fun e w' => e = .returned (.int .i64 C) ∧ w' = w)) (HPt : Hid (∀ w : World, Calls Try.prog 23 #[.int .i64 (al - C), .int .i64 cn] w fun e w' => e = .returned (.tuple #[.int .i64 K, .int .i64 0]) ∧ w' = w)) :
    Calls Try.prog 10 #[.int .i64 al, .agg #[.bool co, .bool false, .int .i64 cp, .int .i64 cn], .int .i64 de, .int .i64 oo, .int .i64 net] w fun e w' => e = .returned (.tuple #[.int .i64 0, .int .i64 C, .int .i64 K, .int .i64 0]) ∧ Below w.heap.size w w' := by
  have HX := Lib.hid (alloc_new w #[.bool co, .bool false, .int .i64 cp, .int .i64 cn] 23)
  have HB := Lib.hid (below_alloc w (.cells #[.bool co, .bool false, .int .i64 cp, .int .i64 cn] 23))
  go_enter Try.func10, Try.ntmps10
  go_upto_region 1 with fail
  generalize w.alloc (.cells #[.bool co, .bool false, .int .i64 cp, .int .i64 cn] 23) = W at *
  generalize hp : w.heap.size = p at *
  obtain ⟨b0, b1, b2, b3⟩ := bfour HX.out
  go_wp2_with (go_at_call 21; refine (Ce.rgood_any _ _).mono ?_; rintro e w' ⟨rfl, rfl⟩)
  go_at_call 22
  refine (L2.out _).mono ?_
  rintro e w' ⟨rfl, hw⟩
  rw [hw]
  clear hw w'
  go_wp2_with fail
  go_at_call 23
  refine (HPt.out _).mono ?_
  rintro e w' ⟨rfl, hw⟩
  rw [hw]
  clear hw w'
  go_wp2
  (try simp only [Exit.inBlock, Exit.then]); refine bodyPost_ret (results_tmp4 rfl _ _ _) rfl ?_
  exact ⟨rfl, by first | exact HB.out | (rw [hp]; exact HB.out)⟩
theorem rpart_to (a p : Int) (h : 0 ≤ p ∧ p ≤ 10000) (h0 : 0 ≤ a) (h1 : a ≤ 10000000000000) : Hid (∀ w : World, Calls Try.prog 23 #[.int .i64 a, .int .i64 p] w fun e w' => e = .returned (.tuple #[.int .i64 (Ce.partV a p), .int .i64 0]) ∧ w' = w) := fun w => by
  have := Ce.rpart_any a p w
  rw [part_ok a p h h0 h1] at this
  exact this
theorem rbear_any (al : Int) (co dd : Bool) (cp cn de oo net : Int) (w : World) :
    Calls Try.prog 10 #[.int .i64 al, .agg #[.bool co, .bool dd, .int .i64 cp, .int .i64 cn], .int .i64 de, .int .i64 oo, .int .i64 net] w fun e w' => e = .returned (.tuple #[.int .i64 (bD al dd cp cn de oo net), .int .i64 (bC al dd cp cn de oo net), .int .i64 (bK al dd cp cn de oo net), .int .i64 (bE al cp cn de oo)]) ∧ Below w.heap.size w w' := by
  have hbad (hb : bearB al cp cn de oo = false) : bD al dd cp cn de oo net = 0 ∧ bC al dd cp cn de oo net = 0 ∧ bK al dd cp cn de oo net = 0 ∧ bE al cp cn de oo = 1 := by simp [bD, bC, bK, bE, hb]
  cases ga : Ce.good al
  · obtain ⟨q1, q2, q3, q4⟩ := hbad (by simp [bearB, ga])
    rw [q1, q2, q3, q4]
    exact rbear_bad1 al co dd cp cn de oo net w ga
  cases gb : Ce.good cp
  · obtain ⟨q1, q2, q3, q4⟩ := hbad (by simp [bearB, gb])
    rw [q1, q2, q3, q4]
    exact rbear_bad2 al co dd cp cn de oo net w ga gb
  cases gc : Ce.good de
  · obtain ⟨q1, q2, q3, q4⟩ := hbad (by simp [bearB, gc])
    rw [q1, q2, q3, q4]
    exact rbear_bad3 al co dd cp cn de oo net w ga gb gc
  cases gd : Ce.good oo
  · obtain ⟨q1, q2, q3, q4⟩ := hbad (by simp [bearB, gd])
    rw [q1, q2, q3, q4]
    exact rbear_bad4 al co dd cp cn de oo net w ga gb gc gd
  by_cases hn : 0 ≤ cn ∧ cn ≤ 10000
  · obtain ⟨a0, a1⟩ := (Ce.good_iff _).1 ga
    obtain ⟨c0', c1⟩ := (Ce.good_iff _).1 gb
    obtain ⟨e0, e1⟩ := (Ce.good_iff _).1 gc
    obtain ⟨o0, o1⟩ := (Ce.good_iff _).1 gd
    have hb : bearB al cp cn de oo = true := (bear_iff al cp cn de oo).2 ⟨⟨a0, a1⟩, ⟨c0', c1⟩, ⟨e0, e1⟩, ⟨o0, o1⟩, hn.1, hn.2⟩
    have hd := least_bd de al e0 a0
    have hc1 := least_bd cp (al - least de al) c0' (by omega)
    have hc2 := least_bd cp al c0' a0
    rw [show bE al cp cn de oo = 0 by simp [bE, hb]]
    by_cases hz : net = 0
    · subst hz
      cases dd
      · have hd0 : d0 al false de 0 = 0 := by simp [d0]
        have hc0 : c0 al false cp de 0 = least cp al := by simp [c0, hd0]
        have hk0 : k0 al false cp cn de 0 = Ce.partV (al - least cp al) cn := by simp [k0, hd0, hc0]
        have hx := least_bd 0 oo (by omega) o0
        have hy := least_bd (least cp al) (oo - least 0 oo) (by omega) (by omega)
        have x1 : bD al false cp cn de oo 0 = least 0 oo := by simp [bD, hb, hd0]
        have x2 : bC al false cp cn de oo 0 = least (least cp al) (oo - least 0 oo) := by simp only [bC, hb, if_true, x1, hc0]
        have x3 : bK al false cp cn de oo 0 = least (Ce.partV (al - least cp al) cn) (oo - least 0 oo - least (least cp al) (oo - least 0 oo)) := by simp only [bK, hb, if_true, x1, x2, hk0]
        rw [x1, x2, x3]
        exact rbear_fi al co cp cn de oo w ga gb gc gd hn.1 hn.2 _ _ _ _ _ a0 a1 o0 o1 hc2.1 hc2.2.2 (least_to _ _ _ rfl) (rpart_to _ _ hn (by omega) (by omega)) hx.1 hx.2.2 hy.1 hy.2.2 (least_to _ _ _ rfl) (least_to _ _ _ rfl) (least_to _ _ _ rfl)
      · have hd0 : d0 al true de 0 = least de al := by simp [d0]
        have hc0 : c0 al true cp de 0 = least cp (al - least de al) := by simp [c0, hd0]
        have hk0 : k0 al true cp cn de 0 = Ce.partV (al - least de al - least cp (al - least de al)) cn := by simp [k0, hd0, hc0]
        have hx := least_bd (least de al) oo (by omega) o0
        have hy := least_bd (least cp (al - least de al)) (oo - least (least de al) oo) (by omega) (by omega)
        have x1 : bD al true cp cn de oo 0 = least (least de al) oo := by simp [bD, hb, hd0]
        have x2 : bC al true cp cn de oo 0 = least (least cp (al - least de al)) (oo - least (least de al) oo) := by simp only [bC, hb, if_true, x1, hc0]
        have x3 : bK al true cp cn de oo 0 = least (Ce.partV (al - least de al - least cp (al - least de al)) cn) (oo - least (least de al) oo - least (least cp (al - least de al)) (oo - least (least de al) oo)) := by simp only [bK, hb, if_true, x1, x2, hk0]
        rw [x1, x2, x3]
        exact rbear_ti al co cp cn de oo w ga gb gc gd hn.1 hn.2 _ _ _ _ _ _ a0 a1 o0 o1 hd.1 hd.2.2 hc1.1 hc1.2.2 (least_to _ _ _ rfl) (least_to _ _ _ rfl) (rpart_to _ _ hn (by omega) (by omega)) hx.1 hx.2.2 hy.1 hy.2.2 (least_to _ _ _ rfl) (least_to _ _ _ rfl) (least_to _ _ _ rfl)
    · have hz' : (net == 0) = false := by simpa using hz
      have hd0 : d0 al dd de net = 0 := by simp [d0, hz]
      have hc0 : c0 al dd cp de net = least cp al := by simp [c0, hd0]
      have hk0 : k0 al dd cp cn de net = Ce.partV (al - least cp al) cn := by simp [k0, hd0, hc0]
      rw [show bD al dd cp cn de oo net = 0 by simp [bD, hb, hz, hd0], show bC al dd cp cn de oo net = least cp al by simp [bC, hb, hz, hc0], show bK al dd cp cn de oo net = Ce.partV (al - least cp al) cn by simp [bK, hb, hz, hk0]]
      cases dd
      · exact rbear_fo al co cp cn de oo net w hz' ga gb gc gd hn.1 hn.2 _ _ a0 a1 o0 o1 hc2.1 hc2.2.2 (least_to _ _ _ rfl) (rpart_to _ _ hn (by omega) (by omega))
      · exact rbear_to al co cp cn de oo net w hz' ga gb gc gd hn.1 hn.2 _ _ a0 a1 o0 o1 hc2.1 hc2.2.2 (least_to _ _ _ rfl) (rpart_to _ _ hn (by omega) (by omega))
  · have hb : bearB al cp cn de oo = false := by
      cases h : bearB al cp cn de oo
      · rfl
      · have := (bear_iff al cp cn de oo).1 h
        exact absurd ⟨this.2.2.2.2.1, this.2.2.2.2.2⟩ hn
    obtain ⟨q1, q2, q3, q4⟩ := hbad hb
    rw [q1, q2, q3, q4]
    by_cases h0 : cn < 0
    · exact rbear_bad5 al co dd cp cn de oo net w ga gb gc gd h0
    · exact rbear_bad6 al co dd cp cn de oo net w ga gb gc gd (by omega) (by omega)
end Go.Proofs.Ytgbfckjmbmmgpaa.Sh
