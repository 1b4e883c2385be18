/-
  Texts put together (merge.py): HBearfi, HBeartop, HBearto, HBearfop, HBearfo.
-/
import Derived.Test.YtfoooldkmokjpaaGreatDoorMj24
set_option linter.unusedSimpArgs false
set_option linter.unusedVariables false
section
set_option maxRecDepth 100000
namespace Go.Proofs.YtfoooldkmokjpaaGreatDoor.Sh
open Go.RowKit
set_option maxHeartbeats 4000000 in
theorem bear_fi (al : Int) (co : Bool) (cp cn de oo : Int) (w : World) (C l2 : Int) (N2 : Hid (Fits cp al C l2)) (NR : Hid (Fits al l2 l2 0)) (hAll : [al, cp, de, oo].all Ce.good = true) (K X m1 Y m2 Z m3 : Int) (N3 : Hid (Fits 0 oo X m1)) (N4 : Hid (Fits C m1 Y m2)) (N5 : Hid (Fits K m2 Z m3)) (HPt : Hid (∀ w : World, Calls Tryz.prog 137 #[.int .i64 l2, .int .i64 cn] w fun e w' => e = .returned (.tuple #[.int .i64 K, .int .i64 0]) ∧ w'.heap = w.heap ∧ Below w.heap.size w w')) :
  Calls Tryz.prog 93 #[.int .i64 al, .agg #[.bool co, .bool false, .int .i64 cp, .int .i64 cn], .int .i64 de, .int .i64 oo, .int .i64 0] w fun e w' => e = .returned (.tuple #[.int .i64 X, .int .i64 Y, .int .i64 Z, .int .i64 0]) ∧ Below w.heap.size w w' := by
 have HAM := Lib.hid (amounts_any [al, cp, de, oo] (w.heap.size + 1) 4 4 ((w.alloc (.cells #[.bool co, .bool false, .int .i64 cp, .int .i64 cn] 102)).alloc (.cells #[.int .i64 al, .int .i64 cp, .int .i64 de, .int .i64 oo] 2)) (alloc_two w _ _ _ _) rfl (by simp))
 have HX0 := Lib.hid (keepB (alloc_new w #[.bool co, .bool false, .int .i64 cp, .int .i64 cn] 102) (below_alloc (w.alloc (.cells #[.bool co, .bool false, .int .i64 cp, .int .i64 cn] 102)) (.cells #[.int .i64 al, .int .i64 cp, .int .i64 de, .int .i64 oo] 2)))
 have HB0 := Lib.hid (below_trans (below_alloc w (.cells #[.bool co, .bool false, .int .i64 cp, .int .i64 cn] 102)) (below_alloc (w.alloc (.cells #[.bool co, .bool false, .int .i64 cp, .int .i64 cn] 102)) (.cells #[.int .i64 al, .int .i64 cp, .int .i64 de, .int .i64 oo] 2)))
 rw [hAll] at HAM
 clear hAll
 go_enter Tryz.func93, Tryz.ntmps93
 go_wp2_with fail
 go_at_call 135
 refine HAM.out.mono ?_
 rintro e w' ⟨rfl, rfl⟩
 have HSZ : Hid (((w.alloc (.cells #[.bool co, .bool false, .int .i64 cp, .int .i64 cn] 102)).alloc (.cells #[.int .i64 al, .int .i64 cp, .int .i64 de, .int .i64 oo] 2)).heap.size = w.heap.size + 2) := by show _ = _; simp
 clear HAM
 have HP0 : Hid (w.heap.size < ((w.alloc (.cells #[.bool co, .bool false, .int .i64 cp, .int .i64 cn] 102)).alloc (.cells #[.int .i64 al, .int .i64 cp, .int .i64 de, .int .i64 oo] 2)).heap.size) := lt_of_block HX0.out
 generalize ((w.alloc (.cells #[.bool co, .bool false, .int .i64 cp, .int .i64 cn] 102)).alloc (.cells #[.int .i64 al, .int .i64 cp, .int .i64 de, .int .i64 oo] 2)) = W0 at *
 generalize hp : w.heap.size = p at *
 obtain ⟨b0, b1, b2, b3⟩ := bfour HX0.out
 clear b0 b1 b2 b3
 go_wp2_with fail
 go_at_call 136
 refine (from_new al W0).mono ?_
 rintro e w1 ⟨rfl, hl, hb⟩
 have HX1 := Lib.hid (keepB HX0.out hb)
 have HB1 := Lib.hid (below_on HB0.out hb (Nat.le_of_lt HP0.out))
 have HL1 := Lib.hid hl
 have HP1 : Hid (p < w1.heap.size) := Nat.lt_of_lt_of_le HP0.out hb.size
 have HG1 := Lib.hid (Nat.ne_of_lt HP0.out)
 have HF1 := Lib.hid (Nat.le_of_lt HP0.out)
 clear hl hb
 generalize W0.heap.size = L at *
 obtain ⟨b0, b1, b2, b3⟩ := bfour HX1.out
 go_wp2_with fail
 go_at_call 160
 refine (take_to cp al C l2 L w1 HL1.out N2.out).mono ?_
 rintro e w3 ⟨rfl, ht⟩
 have HX3 := Lib.hid (ht.keep HX1.out HG1.out)
 have HB3 := Lib.hid (below_took HB1.out ht HF1.out)
 have HL3 := Lib.hid ht.2.1
 have HP3 : Hid (p < w3.heap.size) := by show _ < _; rw [ht.1]; exact HP1.out
 have HG3 := HG1
 have HF3 := HF1
 clear ht b0 b1 b2 b3 HL1
 obtain ⟨b0, b1, b2, b3⟩ := bfour HX3.out
 go_wp2_with fail
 go_region_with (first | (go_at_call 160; refine (take_to al l2 l2 0 L w3.drew HL3.out NR.out).mono ?_; rintro e w8 ⟨rfl, ht⟩; have HX8 := Lib.hid (ht.keep HX3.out HG3.out); have HB8 := Lib.hid (below_took HB3.out.drew ht HF3.out); have HP8 : Hid (p < w8.heap.size) := (by show _ < _; rw [ht.1]; exact HP3.out); clear ht b0 b1 b2 b3; obtain ⟨b0, b1, b2, b3⟩ := bfour HX8.out) | (go_at_call 137; refine (HPt.out _).mono ?_; rintro e w9 ⟨rfl, hh9, hb9⟩; have HX9 := Lib.hid (same_heap hh9 HX8.out); have HB9 := Lib.hid (below_on HB8.out hb9 (Nat.le_of_lt HP8.out)); have HP9 : Hid (p < w9.heap.size) := (by show _ < _; rw [hh9]; exact HP8.out); clear hh9 hb9 b0 b1 b2 b3))
 all_goals (
  go_wp2_with fail
  go_at_call 136
  refine (from_new oo w9).mono ?_
  rintro e w10 ⟨rfl, hl, hb⟩
  have HX10 := Lib.hid (keepB HX9.out hb)
  have HB10 := Lib.hid (below_on HB9.out hb (Nat.le_of_lt HP9.out))
  have HL10 := Lib.hid hl
  have HP10 : Hid (p < w10.heap.size) := Nat.lt_of_lt_of_le HP9.out hb.size
  have HG10 := Lib.hid (Nat.ne_of_lt HP9.out)
  have HF10 := Lib.hid (Nat.le_of_lt HP9.out)
  clear hl hb
  generalize w9.heap.size = M at *
  obtain ⟨b0, b1, b2, b3⟩ := bfour HX10.out
  go_wp2_with fail
  go_at_call 160
  refine (take_to 0 oo X m1 M w10 HL10.out N3.out).mono ?_
  rintro e w11 ⟨rfl, ht⟩
  have HX11 := Lib.hid (ht.keep HX10.out HG10.out)
  have HB11 := Lib.hid (below_took HB10.out ht HF10.out)
  have HL11 := Lib.hid ht.2.1
  have HP11 : Hid (p < w11.heap.size) := by show _ < _; rw [ht.1]; exact HP10.out
  have HG11 := HG10
  have HF11 := HF10
  clear ht b0 b1 b2 b3 HL10
  obtain ⟨b0, b1, b2, b3⟩ := bfour HX11.out
  go_wp2_with fail
  go_at_call 160
  refine (take_to C m1 Y m2 M w11 HL11.out N4.out).mono ?_
  rintro e w12 ⟨rfl, ht⟩
  have HX12 := Lib.hid (ht.keep HX11.out HG11.out)
  have HB12 := Lib.hid (below_took HB11.out ht HF11.out)
  have HL12 := Lib.hid ht.2.1
  have HP12 : Hid (p < w12.heap.size) := by show _ < _; rw [ht.1]; exact HP11.out
  have HG12 := HG11
  have HF12 := HF11
  clear ht b0 b1 b2 b3 HL11
  obtain ⟨b0, b1, b2, b3⟩ := bfour HX12.out
  go_wp2_with fail
  go_at_call 160
  refine (take_to K m2 Z m3 M w12 HL12.out N5.out).mono ?_
  rintro e w13 ⟨rfl, ht⟩
  have HX13 := Lib.hid (ht.keep HX12.out HG12.out)
  have HB13 := Lib.hid (below_took HB12.out ht HF12.out)
  have HL13 := Lib.hid ht.2.1
  have HP13 : Hid (p < w13.heap.size) := by show _ < _; rw [ht.1]; exact HP12.out
  have HG13 := HG12
  have HF13 := HF12
  clear ht b0 b1 b2 b3 HL12
  obtain ⟨b0, b1, b2, b3⟩ := bfour HX13.out
  go_wp2
  (try simp only [Exit.inBlock, Exit.then]); refine bodyPost_ret (results_tmp4 rfl _ _ _) rfl ?_
  exact ⟨rfl, by first | exact HB13.out | (rw [hp]; exact HB13.out)⟩
 )
end Go.Proofs.YtfoooldkmokjpaaGreatDoor.Sh
end
section
set_option maxRecDepth 100000
namespace Go.Proofs.YtfoooldkmokjpaaGreatDoor.Sh
open Go.RowKit
set_option maxHeartbeats 4000000 in
theorem bear_top (al : Int) (co : Bool) (cp cn de oo net : Int) (w : World) (hn : (net == 0) = false) (C l2 : Int) (N2 : Hid (Fits cp al C l2)) (NR : Hid (Fits al l2 l2 0)) (hAll : [al, cp, de, oo].all Ce.good = true) (HPt : Hid (∀ w : World, Calls Tryz.prog 137 #[.int .i64 l2, .int .i64 cn] w fun e w' => e = .returned (.tuple #[.int .i64 0, .int .i64 1]) ∧ w'.heap = w.heap ∧ Below w.heap.size w w')) :
  Calls Tryz.prog 93 #[.int .i64 al, .agg #[.bool co, .bool true, .int .i64 cp, .int .i64 cn], .int .i64 de, .int .i64 oo, .int .i64 net] w fun e w' => e = .returned (.tuple #[.int .i64 0, .int .i64 0, .int .i64 0, .int .i64 1]) ∧ Below w.heap.size w w' := by
 have HAM := Lib.hid (amounts_any [al, cp, de, oo] (w.heap.size + 1) 4 4 ((w.alloc (.cells #[.bool co, .bool true, .int .i64 cp, .int .i64 cn] 102)).alloc (.cells #[.int .i64 al, .int .i64 cp, .int .i64 de, .int .i64 oo] 2)) (alloc_two w _ _ _ _) rfl (by simp))
 have HX0 := Lib.hid (keepB (alloc_new w #[.bool co, .bool true, .int .i64 cp, .int .i64 cn] 102) (below_alloc (w.alloc (.cells #[.bool co, .bool true, .int .i64 cp, .int .i64 cn] 102)) (.cells #[.int .i64 al, .int .i64 cp, .int .i64 de, .int .i64 oo] 2)))
 have HB0 := Lib.hid (below_trans (below_alloc w (.cells #[.bool co, .bool true, .int .i64 cp, .int .i64 cn] 102)) (below_alloc (w.alloc (.cells #[.bool co, .bool true, .int .i64 cp, .int .i64 cn] 102)) (.cells #[.int .i64 al, .int .i64 cp, .int .i64 de, .int .i64 oo] 2)))
 rw [hAll] at HAM
 clear hAll
 go_enter Tryz.func93, Tryz.ntmps93
 go_wp2_with fail
 go_at_call 135
 refine HAM.out.mono ?_
 rintro e w' ⟨rfl, rfl⟩
 have HSZ : Hid (((w.alloc (.cells #[.bool co, .bool true, .int .i64 cp, .int .i64 cn] 102)).alloc (.cells #[.int .i64 al, .int .i64 cp, .int .i64 de, .int .i64 oo] 2)).heap.size = w.heap.size + 2) := by show _ = _; simp
 clear HAM
 have HP0 : Hid (w.heap.size < ((w.alloc (.cells #[.bool co, .bool true, .int .i64 cp, .int .i64 cn] 102)).alloc (.cells #[.int .i64 al, .int .i64 cp, .int .i64 de, .int .i64 oo] 2)).heap.size) := lt_of_block HX0.out
 generalize ((w.alloc (.cells #[.bool co, .bool true, .int .i64 cp, .int .i64 cn] 102)).alloc (.cells #[.int .i64 al, .int .i64 cp, .int .i64 de, .int .i64 oo] 2)) = W0 at *
 generalize hp : w.heap.size = p at *
 obtain ⟨b0, b1, b2, b3⟩ := bfour HX0.out
 clear b0 b1 b2 b3
 go_wp2_with fail
 go_at_call 136
 refine (from_new al W0).mono ?_
 rintro e w1 ⟨rfl, hl, hb⟩
 have HX1 := Lib.hid (keepB HX0.out hb)
 have HB1 := Lib.hid (below_on HB0.out hb (Nat.le_of_lt HP0.out))
 have HL1 := Lib.hid hl
 have HP1 : Hid (p < w1.heap.size) := Nat.lt_of_lt_of_le HP0.out hb.size
 have HG1 := Lib.hid (Nat.ne_of_lt HP0.out)
 have HF1 := Lib.hid (Nat.le_of_lt HP0.out)
 clear hl hb
 generalize W0.heap.size = L at *
 obtain ⟨b0, b1, b2, b3⟩ := bfour HX1.out
 go_wp2_with fail
 go_at_call 160
 refine (take_to cp al C l2 L w1 HL1.out N2.out).mono ?_
 rintro e w3 ⟨rfl, ht⟩
 have HX3 := Lib.hid (ht.keep HX1.out HG1.out)
 have HB3 := Lib.hid (below_took HB1.out ht HF1.out)
 have HL3 := Lib.hid ht.2.1
 have HP3 : Hid (p < w3.heap.size) := by show _ < _; rw [ht.1]; exact HP1.out
 have HG3 := HG1
 have HF3 := HF1
 clear ht b0 b1 b2 b3 HL1
 obtain ⟨b0, b1, b2, b3⟩ := bfour HX3.out
 go_wp2_with fail
 go_region_with (first | (go_at_call 160; refine (take_to al l2 l2 0 L w3.drew HL3.out NR.out).mono ?_; rintro e w8 ⟨rfl, ht⟩; have HX8 := Lib.hid (ht.keep HX3.out HG3.out); have HB8 := Lib.hid (below_took HB3.out.drew ht HF3.out); have HP8 : Hid (p < w8.heap.size) := (by show _ < _; rw [ht.1]; exact HP3.out); clear ht b0 b1 b2 b3; obtain ⟨b0, b1, b2, b3⟩ := bfour HX8.out) | (go_at_call 137; refine (HPt.out _).mono ?_; rintro e w9 ⟨rfl, hh9, hb9⟩; have HX9 := Lib.hid (same_heap hh9 HX8.out); have HB9 := Lib.hid (below_on HB8.out hb9 (Nat.le_of_lt HP8.out)); have HP9 : Hid (p < w9.heap.size) := (by show _ < _; rw [hh9]; exact HP8.out); clear hh9 hb9 b0 b1 b2 b3))
 all_goals (
  go_wp2
  (try simp only [Exit.inBlock, Exit.then]); refine bodyPost_ret (results_tmp4 rfl _ _ _) rfl ?_
  exact ⟨rfl, by first | exact HB9.out | (rw [hp]; exact HB9.out)⟩
 )
end Go.Proofs.YtfoooldkmokjpaaGreatDoor.Sh
end
section
set_option maxRecDepth 100000
namespace Go.Proofs.YtfoooldkmokjpaaGreatDoor.Sh
open Go.RowKit
set_option maxHeartbeats 4000000 in
theorem bear_to (al : Int) (co : Bool) (cp cn de oo net : Int) (w : World) (hn : (net == 0) = false) (C l2 : Int) (N2 : Hid (Fits cp al C l2)) (NR : Hid (Fits al l2 l2 0)) (hAll : [al, cp, de, oo].all Ce.good = true) (K : Int) (HPt : Hid (∀ w : World, Calls Tryz.prog 137 #[.int .i64 l2, .int .i64 cn] w fun e w' => e = .returned (.tuple #[.int .i64 K, .int .i64 0]) ∧ w'.heap = w.heap ∧ Below w.heap.size w w')) :
  Calls Tryz.prog 93 #[.int .i64 al, .agg #[.bool co, .bool true, .int .i64 cp, .int .i64 cn], .int .i64 de, .int .i64 oo, .int .i64 net] w fun e w' => e = .returned (.tuple #[.int .i64 0, .int .i64 C, .int .i64 K, .int .i64 0]) ∧ Below w.heap.size w w' := by
 have HAM := Lib.hid (amounts_any [al, cp, de, oo] (w.heap.size + 1) 4 4 ((w.alloc (.cells #[.bool co, .bool true, .int .i64 cp, .int .i64 cn] 102)).alloc (.cells #[.int .i64 al, .int .i64 cp, .int .i64 de, .int .i64 oo] 2)) (alloc_two w _ _ _ _) rfl (by simp))
 have HX0 := Lib.hid (keepB (alloc_new w #[.bool co, .bool true, .int .i64 cp, .int .i64 cn] 102) (below_alloc (w.alloc (.cells #[.bool co, .bool true, .int .i64 cp, .int .i64 cn] 102)) (.cells #[.int .i64 al, .int .i64 cp, .int .i64 de, .int .i64 oo] 2)))
 have HB0 := Lib.hid (below_trans (below_alloc w (.cells #[.bool co, .bool true, .int .i64 cp, .int .i64 cn] 102)) (below_alloc (w.alloc (.cells #[.bool co, .bool true, .int .i64 cp, .int .i64 cn] 102)) (.cells #[.int .i64 al, .int .i64 cp, .int .i64 de, .int .i64 oo] 2)))
 rw [hAll] at HAM
 clear hAll
 go_enter Tryz.func93, Tryz.ntmps93
 go_wp2_with fail
 go_at_call 135
 refine HAM.out.mono ?_
 rintro e w' ⟨rfl, rfl⟩
 have HSZ : Hid (((w.alloc (.cells #[.bool co, .bool true, .int .i64 cp, .int .i64 cn] 102)).alloc (.cells #[.int .i64 al, .int .i64 cp, .int .i64 de, .int .i64 oo] 2)).heap.size = w.heap.size + 2) := by show _ = _; simp
 clear HAM
 have HP0 : Hid (w.heap.size < ((w.alloc (.cells #[.bool co, .bool true, .int .i64 cp, .int .i64 cn] 102)).alloc (.cells #[.int .i64 al, .int .i64 cp, .int .i64 de, .int .i64 oo] 2)).heap.size) := lt_of_block HX0.out
 generalize ((w.alloc (.cells #[.bool co, .bool true, .int .i64 cp, .int .i64 cn] 102)).alloc (.cells #[.int .i64 al, .int .i64 cp, .int .i64 de, .int .i64 oo] 2)) = W0 at *
 generalize hp : w.heap.size = p at *
 obtain ⟨b0, b1, b2, b3⟩ := bfour HX0.out
 clear b0 b1 b2 b3
 go_wp2_with fail
 go_at_call 136
 refine (from_new al W0).mono ?_
 rintro e w1 ⟨rfl, hl, hb⟩
 have HX1 := Lib.hid (keepB HX0.out hb)
 have HB1 := Lib.hid (below_on HB0.out hb (Nat.le_of_lt HP0.out))
 have HL1 := Lib.hid hl
 have HP1 : Hid (p < w1.heap.size) := Nat.lt_of_lt_of_le HP0.out hb.size
 have HG1 := Lib.hid (Nat.ne_of_lt HP0.out)
 have HF1 := Lib.hid (Nat.le_of_lt HP0.out)
 clear hl hb
 generalize W0.heap.size = L at *
 obtain ⟨b0, b1, b2, b3⟩ := bfour HX1.out
 go_wp2_with fail
 go_at_call 160
 refine (take_to cp al C l2 L w1 HL1.out N2.out).mono ?_
 rintro e w3 ⟨rfl, ht⟩
 have HX3 := Lib.hid (ht.keep HX1.out HG1.out)
 have HB3 := Lib.hid (below_took HB1.out ht HF1.out)
 have HL3 := Lib.hid ht.2.1
 have HP3 : Hid (p < w3.heap.size) := by show _ < _; rw [ht.1]; exact HP1.out
 have HG3 := HG1
 have HF3 := HF1
 clear ht b0 b1 b2 b3 HL1
 obtain ⟨b0, b1, b2, b3⟩ := bfour HX3.out
 go_wp2_with fail
 go_region_with (first | (go_at_call 160; refine (take_to al l2 l2 0 L w3.drew HL3.out NR.out).mono ?_; rintro e w8 ⟨rfl, ht⟩; have HX8 := Lib.hid (ht.keep HX3.out HG3.out); have HB8 := Lib.hid (below_took HB3.out.drew ht HF3.out); have HP8 : Hid (p < w8.heap.size) := (by show _ < _; rw [ht.1]; exact HP3.out); clear ht b0 b1 b2 b3; obtain ⟨b0, b1, b2, b3⟩ := bfour HX8.out) | (go_at_call 137; refine (HPt.out _).mono ?_; rintro e w9 ⟨rfl, hh9, hb9⟩; have HX9 := Lib.hid (same_heap hh9 HX8.out); have HB9 := Lib.hid (below_on HB8.out hb9 (Nat.le_of_lt HP8.out)); have HP9 : Hid (p < w9.heap.size) := (by show _ < _; rw [hh9]; exact HP8.out); clear hh9 hb9 b0 b1 b2 b3))
 all_goals (
  go_wp2
  (try simp only [Exit.inBlock, Exit.then]); refine bodyPost_ret (results_tmp4 rfl _ _ _) rfl ?_
  exact ⟨rfl, by first | exact HB9.out | (rw [hp]; exact HB9.out)⟩
 )
end Go.Proofs.YtfoooldkmokjpaaGreatDoor.Sh
end
section
set_option maxRecDepth 100000
namespace Go.Proofs.YtfoooldkmokjpaaGreatDoor.Sh
open Go.RowKit
set_option maxHeartbeats 4000000 in
theorem bear_fop (al : Int) (co : Bool) (cp cn de oo net : Int) (w : World) (hn : (net == 0) = false) (C l2 : Int) (N2 : Hid (Fits cp al C l2)) (NR : Hid (Fits al l2 l2 0)) (hAll : [al, cp, de, oo].all Ce.good = true) (HPt : Hid (∀ w : World, Calls Tryz.prog 137 #[.int .i64 l2, .int .i64 cn] w fun e w' => e = .returned (.tuple #[.int .i64 0, .int .i64 1]) ∧ w'.heap = w.heap ∧ Below w.heap.size w w')) :
  Calls Tryz.prog 93 #[.int .i64 al, .agg #[.bool co, .bool false, .int .i64 cp, .int .i64 cn], .int .i64 de, .int .i64 oo, .int .i64 net] w fun e w' => e = .returned (.tuple #[.int .i64 0, .int .i64 0, .int .i64 0, .int .i64 1]) ∧ Below w.heap.size w w' := by
 have HAM := Lib.hid (amounts_any [al, cp, de, oo] (w.heap.size + 1) 4 4 ((w.alloc (.cells #[.bool co, .bool false, .int .i64 cp, .int .i64 cn] 102)).alloc (.cells #[.int .i64 al, .int .i64 cp, .int .i64 de, .int .i64 oo] 2)) (alloc_two w _ _ _ _) rfl (by simp))
 have HX0 := Lib.hid (keepB (alloc_new w #[.bool co, .bool false, .int .i64 cp, .int .i64 cn] 102) (below_alloc (w.alloc (.cells #[.bool co, .bool false, .int .i64 cp, .int .i64 cn] 102)) (.cells #[.int .i64 al, .int .i64 cp, .int .i64 de, .int .i64 oo] 2)))
 have HB0 := Lib.hid (below_trans (below_alloc w (.cells #[.bool co, .bool false, .int .i64 cp, .int .i64 cn] 102)) (below_alloc (w.alloc (.cells #[.bool co, .bool false, .int .i64 cp, .int .i64 cn] 102)) (.cells #[.int .i64 al, .int .i64 cp, .int .i64 de, .int .i64 oo] 2)))
 rw [hAll] at HAM
 clear hAll
 go_enter Tryz.func93, Tryz.ntmps93
 go_wp2_with fail
 go_at_call 135
 refine HAM.out.mono ?_
 rintro e w' ⟨rfl, rfl⟩
 have HSZ : Hid (((w.alloc (.cells #[.bool co, .bool false, .int .i64 cp, .int .i64 cn] 102)).alloc (.cells #[.int .i64 al, .int .i64 cp, .int .i64 de, .int .i64 oo] 2)).heap.size = w.heap.size + 2) := by show _ = _; simp
 clear HAM
 have HP0 : Hid (w.heap.size < ((w.alloc (.cells #[.bool co, .bool false, .int .i64 cp, .int .i64 cn] 102)).alloc (.cells #[.int .i64 al, .int .i64 cp, .int .i64 de, .int .i64 oo] 2)).heap.size) := lt_of_block HX0.out
 generalize ((w.alloc (.cells #[.bool co, .bool false, .int .i64 cp, .int .i64 cn] 102)).alloc (.cells #[.int .i64 al, .int .i64 cp, .int .i64 de, .int .i64 oo] 2)) = W0 at *
 generalize hp : w.heap.size = p at *
 obtain ⟨b0, b1, b2, b3⟩ := bfour HX0.out
 clear b0 b1 b2 b3
 go_wp2_with fail
 go_at_call 136
 refine (from_new al W0).mono ?_
 rintro e w1 ⟨rfl, hl, hb⟩
 have HX1 := Lib.hid (keepB HX0.out hb)
 have HB1 := Lib.hid (below_on HB0.out hb (Nat.le_of_lt HP0.out))
 have HL1 := Lib.hid hl
 have HP1 : Hid (p < w1.heap.size) := Nat.lt_of_lt_of_le HP0.out hb.size
 have HG1 := Lib.hid (Nat.ne_of_lt HP0.out)
 have HF1 := Lib.hid (Nat.le_of_lt HP0.out)
 clear hl hb
 generalize W0.heap.size = L at *
 obtain ⟨b0, b1, b2, b3⟩ := bfour HX1.out
 go_wp2_with fail
 go_at_call 160
 refine (take_to cp al C l2 L w1 HL1.out N2.out).mono ?_
 rintro e w3 ⟨rfl, ht⟩
 have HX3 := Lib.hid (ht.keep HX1.out HG1.out)
 have HB3 := Lib.hid (below_took HB1.out ht HF1.out)
 have HL3 := Lib.hid ht.2.1
 have HP3 : Hid (p < w3.heap.size) := by show _ < _; rw [ht.1]; exact HP1.out
 have HG3 := HG1
 have HF3 := HF1
 clear ht b0 b1 b2 b3 HL1
 obtain ⟨b0, b1, b2, b3⟩ := bfour HX3.out
 go_wp2_with fail
 go_region_with (first | (go_at_call 160; refine (take_to al l2 l2 0 L w3.drew HL3.out NR.out).mono ?_; rintro e w8 ⟨rfl, ht⟩; have HX8 := Lib.hid (ht.keep HX3.out HG3.out); have HB8 := Lib.hid (below_took HB3.out.drew ht HF3.out); have HP8 : Hid (p < w8.heap.size) := (by show _ < _; rw [ht.1]; exact HP3.out); clear ht b0 b1 b2 b3; obtain ⟨b0, b1, b2, b3⟩ := bfour HX8.out) | (go_at_call 137; refine (HPt.out _).mono ?_; rintro e w9 ⟨rfl, hh9, hb9⟩; have HX9 := Lib.hid (same_heap hh9 HX8.out); have HB9 := Lib.hid (below_on HB8.out hb9 (Nat.le_of_lt HP8.out)); have HP9 : Hid (p < w9.heap.size) := (by show _ < _; rw [hh9]; exact HP8.out); clear hh9 hb9 b0 b1 b2 b3))
 all_goals (
  go_wp2
  (try simp only [Exit.inBlock, Exit.then]); refine bodyPost_ret (results_tmp4 rfl _ _ _) rfl ?_
  exact ⟨rfl, by first | exact HB9.out | (rw [hp]; exact HB9.out)⟩
 )
end Go.Proofs.YtfoooldkmokjpaaGreatDoor.Sh
end
section
set_option maxRecDepth 100000
namespace Go.Proofs.YtfoooldkmokjpaaGreatDoor.Sh
open Go.RowKit
set_option maxHeartbeats 4000000 in
theorem bear_fo (al : Int) (co : Bool) (cp cn de oo net : Int) (w : World) (hn : (net == 0) = false) (C l2 : Int) (N2 : Hid (Fits cp al C l2)) (NR : Hid (Fits al l2 l2 0)) (hAll : [al, cp, de, oo].all Ce.good = true) (K : Int) (HPt : Hid (∀ w : World, Calls Tryz.prog 137 #[.int .i64 l2, .int .i64 cn] w fun e w' => e = .returned (.tuple #[.int .i64 K, .int .i64 0]) ∧ w'.heap = w.heap ∧ Below w.heap.size w w')) :
  Calls Tryz.prog 93 #[.int .i64 al, .agg #[.bool co, .bool false, .int .i64 cp, .int .i64 cn], .int .i64 de, .int .i64 oo, .int .i64 net] w fun e w' => e = .returned (.tuple #[.int .i64 0, .int .i64 C, .int .i64 K, .int .i64 0]) ∧ Below w.heap.size w w' := by
 have HAM := Lib.hid (amounts_any [al, cp, de, oo] (w.heap.size + 1) 4 4 ((w.alloc (.cells #[.bool co, .bool false, .int .i64 cp, .int .i64 cn] 102)).alloc (.cells #[.int .i64 al, .int .i64 cp, .int .i64 de, .int .i64 oo] 2)) (alloc_two w _ _ _ _) rfl (by simp))
 have HX0 := Lib.hid (keepB (alloc_new w #[.bool co, .bool false, .int .i64 cp, .int .i64 cn] 102) (below_alloc (w.alloc (.cells #[.bool co, .bool false, .int .i64 cp, .int .i64 cn] 102)) (.cells #[.int .i64 al, .int .i64 cp, .int .i64 de, .int .i64 oo] 2)))
 have HB0 := Lib.hid (below_trans (below_alloc w (.cells #[.bool co, .bool false, .int .i64 cp, .int .i64 cn] 102)) (below_alloc (w.alloc (.cells #[.bool co, .bool false, .int .i64 cp, .int .i64 cn] 102)) (.cells #[.int .i64 al, .int .i64 cp, .int .i64 de, .int .i64 oo] 2)))
 rw [hAll] at HAM
 clear hAll
 go_enter Tryz.func93, Tryz.ntmps93
 go_wp2_with fail
 go_at_call 135
 refine HAM.out.mono ?_
 rintro e w' ⟨rfl, rfl⟩
 have HSZ : Hid (((w.alloc (.cells #[.bool co, .bool false, .int .i64 cp, .int .i64 cn] 102)).alloc (.cells #[.int .i64 al, .int .i64 cp, .int .i64 de, .int .i64 oo] 2)).heap.size = w.heap.size + 2) := by show _ = _; simp
 clear HAM
 have HP0 : Hid (w.heap.size < ((w.alloc (.cells #[.bool co, .bool false, .int .i64 cp, .int .i64 cn] 102)).alloc (.cells #[.int .i64 al, .int .i64 cp, .int .i64 de, .int .i64 oo] 2)).heap.size) := lt_of_block HX0.out
 generalize ((w.alloc (.cells #[.bool co, .bool false, .int .i64 cp, .int .i64 cn] 102)).alloc (.cells #[.int .i64 al, .int .i64 cp, .int .i64 de, .int .i64 oo] 2)) = W0 at *
 generalize hp : w.heap.size = p at *
 obtain ⟨b0, b1, b2, b3⟩ := bfour HX0.out
 clear b0 b1 b2 b3
 go_wp2_with fail
 go_at_call 136
 refine (from_new al W0).mono ?_
 rintro e w1 ⟨rfl, hl, hb⟩
 have HX1 := Lib.hid (keepB HX0.out hb)
 have HB1 := Lib.hid (below_on HB0.out hb (Nat.le_of_lt HP0.out))
 have HL1 := Lib.hid hl
 have HP1 : Hid (p < w1.heap.size) := Nat.lt_of_lt_of_le HP0.out hb.size
 have HG1 := Lib.hid (Nat.ne_of_lt HP0.out)
 have HF1 := Lib.hid (Nat.le_of_lt HP0.out)
 clear hl hb
 generalize W0.heap.size = L at *
 obtain ⟨b0, b1, b2, b3⟩ := bfour HX1.out
 go_wp2_with fail
 go_at_call 160
 refine (take_to cp al C l2 L w1 HL1.out N2.out).mono ?_
 rintro e w3 ⟨rfl, ht⟩
 have HX3 := Lib.hid (ht.keep HX1.out HG1.out)
 have HB3 := Lib.hid (below_took HB1.out ht HF1.out)
 have HL3 := Lib.hid ht.2.1
 have HP3 : Hid (p < w3.heap.size) := by show _ < _; rw [ht.1]; exact HP1.out
 have HG3 := HG1
 have HF3 := HF1
 clear ht b0 b1 b2 b3 HL1
 obtain ⟨b0, b1, b2, b3⟩ := bfour HX3.out
 go_wp2_with fail
 go_region_with (first | (go_at_call 160; refine (take_to al l2 l2 0 L w3.drew HL3.out NR.out).mono ?_; rintro e w8 ⟨rfl, ht⟩; have HX8 := Lib.hid (ht.keep HX3.out HG3.out); have HB8 := Lib.hid (below_took HB3.out.drew ht HF3.out); have HP8 : Hid (p < w8.heap.size) := (by show _ < _; rw [ht.1]; exact HP3.out); clear ht b0 b1 b2 b3; obtain ⟨b0, b1, b2, b3⟩ := bfour HX8.out) | (go_at_call 137; refine (HPt.out _).mono ?_; rintro e w9 ⟨rfl, hh9, hb9⟩; have HX9 := Lib.hid (same_heap hh9 HX8.out); have HB9 := Lib.hid (below_on HB8.out hb9 (Nat.le_of_lt HP8.out)); have HP9 : Hid (p < w9.heap.size) := (by show _ < _; rw [hh9]; exact HP8.out); clear hh9 hb9 b0 b1 b2 b3))
 all_goals (
  go_wp2
  (try simp only [Exit.inBlock, Exit.then]); refine bodyPost_ret (results_tmp4 rfl _ _ _) rfl ?_
  exact ⟨rfl, by first | exact HB9.out | (rw [hp]; exact HB9.out)⟩
 )
end Go.Proofs.YtfoooldkmokjpaaGreatDoor.Sh
end
