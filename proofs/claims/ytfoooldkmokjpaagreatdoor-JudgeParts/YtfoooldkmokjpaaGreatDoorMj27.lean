/-
  Texts put together (merge.py): HSetA, HSettle, RTail.
-/
import Derived.Test.YtfoooldkmokjpaaGreatDoorMj26
import Derived.Test.YtfoooldkmokjpaaGreatDoorMj9
set_option linter.unusedSimpArgs false
set_option linter.unusedVariables false
section
set_option maxRecDepth 100000
namespace Go.Proofs.YtfoooldkmokjpaaGreatDoor.Sh
open Go.RowKit
set_option maxHeartbeats 4000000 in
theorem set_A (bi al pr de cp cn : Int) (w : World) (bi0 : 0 ≤ bi) (bi1 : bi ≤ 10000000000000) (al0 : 0 ≤ al) (al1 : al ≤ 10000000000000) (pr0 : 0 ≤ pr) (pr1 : pr ≤ 10000000000000) (de0 : 0 ≤ de) (de1 : de ≤ 10000000000000) (cp0 : 0 ≤ cp) (cp1 : cp ≤ 10000000000000) (cn0 : 0 ≤ cn) (cn1 : cn ≤ 10000000000000) (hAll : [bi, al, pr, de, cp, cn].all Ce.good = true) (h1 : ¬ bi < al) (h2 : ¬ bi < pr) (h3 : ¬ al < de + cp + cn) (R P D C K M l1 l2 l3 l4 : Int) (HR : Hid (max (al - pr) 0 = R)) (N1 : Hid (Fits (al - (de + cp + cn)) R P l1)) (N2 : Hid (Fits de l1 D l2)) (N3 : Hid (Fits cp l2 C l3)) (N4 : Hid (Fits cn l3 K l4)) (HM : Hid (∀ w : World, Calls Tryz.prog 138 #[.agg #[.int .i64 al, .int .i64 D, .int .i64 C, .int .i64 K, .int .i64 P, .int .i64 0, .int .i64 pr, .int .i64 0]] w fun e w' => e = .returned (.int .i64 M) ∧ Below w.heap.size w w')) (P0 : 0 ≤ P) (P1 : P ≤ 10000000000000) (M0 : 0 ≤ M) (M1 : M ≤ 10000000000000) :
  Calls Tryz.prog 94 #[.int .i64 bi, .int .i64 al, .int .i64 pr, .int .i64 de, .int .i64 cp, .int .i64 cn] w fun e w' => e = .returned (.tuple #[.agg #[.int .i64 al, .int .i64 D, .int .i64 C, .int .i64 K, .int .i64 P, .int .i64 (bi - pr - P - M), .int .i64 pr, .int .i64 0], .int .i64 0]) ∧ Below w.heap.size w w' := by
 have HAM := Lib.hid (amounts_any [bi, al, pr, de, cp, cn] (w.heap.size + 1) 6 6 ((w.alloc (.cells #[.int .i64 0, .int .i64 0, .int .i64 0, .int .i64 0, .int .i64 0, .int .i64 0, .int .i64 0, .int .i64 0] 48)).alloc (.cells #[.int .i64 bi, .int .i64 al, .int .i64 pr, .int .i64 de, .int .i64 cp, .int .i64 cn] 2)) (alloc_two w _ _ _ _) rfl (by simp))
 have HX0 := Lib.hid (keepB (alloc_new w #[.int .i64 0, .int .i64 0, .int .i64 0, .int .i64 0, .int .i64 0, .int .i64 0, .int .i64 0, .int .i64 0] 48) (below_alloc (w.alloc (.cells #[.int .i64 0, .int .i64 0, .int .i64 0, .int .i64 0, .int .i64 0, .int .i64 0, .int .i64 0, .int .i64 0] 48)) (.cells #[.int .i64 bi, .int .i64 al, .int .i64 pr, .int .i64 de, .int .i64 cp, .int .i64 cn] 2)))
 have HB0 := Lib.hid (below_trans (below_alloc w (.cells #[.int .i64 0, .int .i64 0, .int .i64 0, .int .i64 0, .int .i64 0, .int .i64 0, .int .i64 0, .int .i64 0] 48)) (below_alloc (w.alloc (.cells #[.int .i64 0, .int .i64 0, .int .i64 0, .int .i64 0, .int .i64 0, .int .i64 0, .int .i64 0, .int .i64 0] 48)) (.cells #[.int .i64 bi, .int .i64 al, .int .i64 pr, .int .i64 de, .int .i64 cp, .int .i64 cn] 2)))
 have HP0 : Hid (w.heap.size < ((w.alloc (.cells #[.int .i64 0, .int .i64 0, .int .i64 0, .int .i64 0, .int .i64 0, .int .i64 0, .int .i64 0, .int .i64 0] 48)).alloc (.cells #[.int .i64 bi, .int .i64 al, .int .i64 pr, .int .i64 de, .int .i64 cp, .int .i64 cn] 2)).heap.size) := lt_of_block HX0.out
 rw [hAll] at HAM
 clear hAll
 go_enter Tryz.func94, Tryz.ntmps94
 go_wp2_with fail
 go_at_call 135
 refine HAM.out.mono ?_
 rintro e w' ⟨rfl, rfl⟩
 clear HAM
 generalize ((w.alloc (.cells #[.int .i64 0, .int .i64 0, .int .i64 0, .int .i64 0, .int .i64 0, .int .i64 0, .int .i64 0, .int .i64 0] 48)).alloc (.cells #[.int .i64 bi, .int .i64 al, .int .i64 pr, .int .i64 de, .int .i64 cp, .int .i64 cn] 2)) = W0 at *
 generalize hp : w.heap.size = p at *
 obtain ⟨b0, b1, b2, b3, b4, b5, b6, b7⟩ := eight HX0.out
 obtain ⟨f0, f1, f2, f3, f4, f5, f6, f7⟩ := frz HX0.out
 go_upto_region 6 with fail
 clear b0 b1 b2 b3 b4 b5 b6 b7 f0 f1 f2 f3 f4 f5 f6 f7
 have HO1 := Lib.hid (alloc_new W0 #[.int .i64 al, .int .i64 0, .int .i64 0, .int .i64 0, .int .i64 0, .int .i64 0, .int .i64 pr, .int .i64 0] 48)
 have HX1 := Lib.hid (keepB HX0.out (below_alloc W0 (.cells #[.int .i64 al, .int .i64 0, .int .i64 0, .int .i64 0, .int .i64 0, .int .i64 0, .int .i64 pr, .int .i64 0] 48)))
 have HB1 := Lib.hid (below_on HB0.out (below_alloc W0 (.cells #[.int .i64 al, .int .i64 0, .int .i64 0, .int .i64 0, .int .i64 0, .int .i64 0, .int .i64 pr, .int .i64 0] 48)) (Nat.le_of_lt HP0.out))
 go_upto_region 7 with fail
 generalize hq : W0.heap.size = q at *
 have HPQ := Lib.hid HP0.out
 generalize (W0.alloc (.cells #[.int .i64 al, .int .i64 0, .int .i64 0, .int .i64 0, .int .i64 0, .int .i64 0, .int .i64 pr, .int .i64 0] 48)) = W1 at *
 have HQ1 := Lib.hid (lt_of_block HO1.out)
 go_wp2_with fail
 go_at_call 136
 refine (from_new (max (al - pr) 0) W1).mono ?_
 rintro e w2 ⟨rfl, hl, hb⟩
 rw [HR.out] at hl
 have HX2 := Lib.hid (keepB HX1.out hb)
 have HO2 := Lib.hid (keepB HO1.out hb)
 have HB2 := Lib.hid (below_on HB1.out hb (Nat.le_of_lt (Nat.lt_trans HPQ.out HQ1.out)))
 have HL2 := Lib.hid hl
 have HQL := Lib.hid (Nat.ne_of_lt HQ1.out)
 have HPL := Lib.hid (Nat.ne_of_lt (Nat.lt_trans HPQ.out HQ1.out))
 have HPl := Lib.hid (Nat.le_of_lt (Nat.lt_trans HPQ.out HQ1.out))
 clear hl hb
 generalize W1.heap.size = L at *
 go_wp2_with fail
 go_at_call 160
 refine (take_to (al - (de + cp + cn)) R P l1 L w2 HL2.out N1.out).mono ?_
 rintro e w3 ⟨rfl, ht⟩
 have HX3 := Lib.hid (ht.keep HX2.out HPL.out)
 have HO3 := Lib.hid (ht.keep HO2.out HQL.out)
 have HB3 := Lib.hid (below_took HB2.out ht HPl.out)
 have HL3 := Lib.hid ht.2.1
 clear ht HL2
 obtain ⟨b0, b1, b2, b3, b4, b5, b6, b7⟩ := eight HO3.out
 obtain ⟨f0, f1, f2, f3, f4, f5, f6, f7⟩ := frz HO3.out
 go_wp2_with fail
 clear b0 b1 b2 b3 b4 b5 b6 b7 f0 f1 f2 f3 f4 f5 f6 f7
 have HX4 := Lib.hid (heap_far (j := 4) (u := .int .i64 P) HX3.out (Nat.ne_of_lt HPQ.out))
 have HL4 := Lib.hid (heap_far (j := 4) (u := .int .i64 P) HL3.out (Ne.symm HQL.out))
 have HB4 := Lib.hid (HB3.out.setCell (p := ⟨q, 4, none⟩) (Nat.le_of_lt HPQ.out) (.int .i64 P))
 have HO4 : Hid ((w3.setCell ⟨q, 4, none⟩ (.int .i64 P)).heap[q]? = some (.cells #[.int .i64 al, .int .i64 0, .int .i64 0, .int .i64 0, .int .i64 P, .int .i64 0, .int .i64 pr, .int .i64 0] 48 (0, 0))) := by show _ = _; rw [heap_set HO3.out]; rfl
 generalize w3.setCell ⟨q, 4, none⟩ (.int .i64 P) = w4 at *
 go_wp2_with fail
 go_at_call 160
 refine (take_to de l1 D l2 L w4 HL4.out N2.out).mono ?_
 rintro e w5 ⟨rfl, ht⟩
 have HX5 := Lib.hid (ht.keep HX4.out HPL.out)
 have HO5 := Lib.hid (ht.keep HO4.out HQL.out)
 have HB5 := Lib.hid (below_took HB4.out ht HPl.out)
 have HL5 := Lib.hid ht.2.1
 clear ht HL4
 obtain ⟨b0, b1, b2, b3, b4, b5, b6, b7⟩ := eight HO5.out
 obtain ⟨f0, f1, f2, f3, f4, f5, f6, f7⟩ := frz HO5.out
 go_wp2_with fail
 clear b0 b1 b2 b3 b4 b5 b6 b7 f0 f1 f2 f3 f4 f5 f6 f7
 have HX6 := Lib.hid (heap_far (j := 1) (u := .int .i64 D) HX5.out (Nat.ne_of_lt HPQ.out))
 have HL6 := Lib.hid (heap_far (j := 1) (u := .int .i64 D) HL5.out (Ne.symm HQL.out))
 have HB6 := Lib.hid (HB5.out.setCell (p := ⟨q, 1, none⟩) (Nat.le_of_lt HPQ.out) (.int .i64 D))
 have HO6 : Hid ((w5.setCell ⟨q, 1, none⟩ (.int .i64 D)).heap[q]? = some (.cells #[.int .i64 al, .int .i64 D, .int .i64 0, .int .i64 0, .int .i64 P, .int .i64 0, .int .i64 pr, .int .i64 0] 48 (0, 0))) := by show _ = _; rw [heap_set HO5.out]; rfl
 generalize w5.setCell ⟨q, 1, none⟩ (.int .i64 D) = w6 at *
 go_wp2_with fail
 go_at_call 160
 refine (take_to cp l2 C l3 L w6 HL6.out N3.out).mono ?_
 rintro e w7 ⟨rfl, ht⟩
 have HX7 := Lib.hid (ht.keep HX6.out HPL.out)
 have HO7 := Lib.hid (ht.keep HO6.out HQL.out)
 have HB7 := Lib.hid (below_took HB6.out ht HPl.out)
 have HL7 := Lib.hid ht.2.1
 clear ht HL6
 obtain ⟨b0, b1, b2, b3, b4, b5, b6, b7⟩ := eight HO7.out
 obtain ⟨f0, f1, f2, f3, f4, f5, f6, f7⟩ := frz HO7.out
 go_wp2_with fail
 clear b0 b1 b2 b3 b4 b5 b6 b7 f0 f1 f2 f3 f4 f5 f6 f7
 have HX8 := Lib.hid (heap_far (j := 2) (u := .int .i64 C) HX7.out (Nat.ne_of_lt HPQ.out))
 have HL8 := Lib.hid (heap_far (j := 2) (u := .int .i64 C) HL7.out (Ne.symm HQL.out))
 have HB8 := Lib.hid (HB7.out.setCell (p := ⟨q, 2, none⟩) (Nat.le_of_lt HPQ.out) (.int .i64 C))
 have HO8 : Hid ((w7.setCell ⟨q, 2, none⟩ (.int .i64 C)).heap[q]? = some (.cells #[.int .i64 al, .int .i64 D, .int .i64 C, .int .i64 0, .int .i64 P, .int .i64 0, .int .i64 pr, .int .i64 0] 48 (0, 0))) := by show _ = _; rw [heap_set HO7.out]; rfl
 generalize w7.setCell ⟨q, 2, none⟩ (.int .i64 C) = w8 at *
 go_wp2_with fail
 go_at_call 160
 refine (take_to cn l3 K l4 L w8 HL8.out N4.out).mono ?_
 rintro e w9 ⟨rfl, ht⟩
 have HX9 := Lib.hid (ht.keep HX8.out HPL.out)
 have HO9 := Lib.hid (ht.keep HO8.out HQL.out)
 have HB9 := Lib.hid (below_took HB8.out ht HPl.out)
 have HL9 := Lib.hid ht.2.1
 clear ht HL8
 obtain ⟨b0, b1, b2, b3, b4, b5, b6, b7⟩ := eight HO9.out
 obtain ⟨f0, f1, f2, f3, f4, f5, f6, f7⟩ := frz HO9.out
 go_wp2_with fail
 clear b0 b1 b2 b3 b4 b5 b6 b7 f0 f1 f2 f3 f4 f5 f6 f7
 have HX10 := Lib.hid (heap_far (j := 3) (u := .int .i64 K) HX9.out (Nat.ne_of_lt HPQ.out))
 have HL10 := Lib.hid (heap_far (j := 3) (u := .int .i64 K) HL9.out (Ne.symm HQL.out))
 have HB10 := Lib.hid (HB9.out.setCell (p := ⟨q, 3, none⟩) (Nat.le_of_lt HPQ.out) (.int .i64 K))
 have HO10 : Hid ((w9.setCell ⟨q, 3, none⟩ (.int .i64 K)).heap[q]? = some (.cells #[.int .i64 al, .int .i64 D, .int .i64 C, .int .i64 K, .int .i64 P, .int .i64 0, .int .i64 pr, .int .i64 0] 48 (0, 0))) := by show _ = _; rw [heap_set HO9.out]; rfl
 generalize w9.setCell ⟨q, 3, none⟩ (.int .i64 K) = w10 at *
 obtain ⟨b0, b1, b2, b3, b4, b5, b6, b7⟩ := eight HO10.out
 obtain ⟨f0, f1, f2, f3, f4, f5, f6, f7⟩ := frz HO10.out
 have HPw : Hid (p ≤ w10.heap.size) := Nat.le_of_lt (lt_of_block HX10.out)
 have u1 : IntKind.i64.wrap (bi - pr) = bi - pr := by rw [IntKind.wrap_i64]; omega
 have u2 : IntKind.i64.wrap (bi - pr - P) = bi - pr - P := by rw [IntKind.wrap_i64]; omega
 have u3 : IntKind.i64.wrap (bi - pr - P - M) = bi - pr - P - M := by rw [IntKind.wrap_i64]; omega
 go_region_with (go_at_call 138; refine (HM.out _).mono ?_; rintro e wm ⟨rfl, hm⟩; have HXm := Lib.hid (keepB (w := w10.drew) HX10.out hm); have HOm := Lib.hid (keepB (w := w10.drew) HO10.out hm); have HBm := Lib.hid (below_on HB10.out.drew hm HPw.out); clear b0 b1 b2 b3 b4 b5 b6 b7 f0 f1 f2 f3 f4 f5 f6 f7; clear hm; obtain ⟨b0, b1, b2, b3, b4, b5, b6, b7⟩ := eight HOm.out; obtain ⟨f0, f1, f2, f3, f4, f5, f6, f7⟩ := frz HOm.out)
 all_goals (
  try simp only [u1, u2, u3]
  go_upto_region 13 with fail
  clear b0 b1 b2 b3 b4 b5 b6 b7 f0 f1 f2 f3 f4 f5 f6 f7
  have HXn := Lib.hid (heap_far (j := 5) (u := .int .i64 (bi - pr - P - M)) HXm.out (Nat.ne_of_lt HPQ.out))
  have HBn := Lib.hid (HBm.out.setCell (p := ⟨q, 5, none⟩) (Nat.le_of_lt HPQ.out) (.int .i64 (bi - pr - P - M)))
  have HOn : Hid ((wm.setCell ⟨q, 5, none⟩ (.int .i64 (bi - pr - P - M))).heap[q]? = some (.cells #[.int .i64 al, .int .i64 D, .int .i64 C, .int .i64 K, .int .i64 P, .int .i64 (bi - pr - P - M), .int .i64 pr, .int .i64 0] 48 (0, 0))) := by show _ = _; rw [heap_set HOm.out]; rfl
  generalize wm.setCell ⟨q, 5, none⟩ (.int .i64 (bi - pr - P - M)) = wn at *
  obtain ⟨b0, b1, b2, b3, b4, b5, b6, b7⟩ := eight HOn.out
  obtain ⟨f0, f1, f2, f3, f4, f5, f6, f7⟩ := frz HOn.out
  obtain ⟨d0, d1, d2, d3, d4, d5, d6, d7⟩ := eight HXn.out
  obtain ⟨g0, g1, g2, g3, g4, g5, g6, g7⟩ := frz HXn.out
  go_wp2
  clear d0 d1 d2 d3 d4 d5 d6 d7 g0 g1 g2 g3 g4 g5 g6 g7
  clear b0 b1 b2 b3 b4 b5 b6 b7 f0 f1 f2 f3 f4 f5 f6 f7
  have HXF : Hid (((((((((wn.setCell ⟨p, 0, none⟩ (.int .i64 al)).setCell ⟨p, 1, none⟩ (.int .i64 D)).setCell ⟨p, 2, none⟩ (.int .i64 C)).setCell ⟨p, 3, none⟩ (.int .i64 K)).setCell ⟨p, 4, none⟩ (.int .i64 P)).setCell ⟨p, 5, none⟩ (.int .i64 (bi - pr - P - M))).setCell ⟨p, 6, none⟩ (.int .i64 pr)).setCell ⟨p, 7, none⟩ (.int .i64 0)).heap[p]? = some (.cells #[.int .i64 al, .int .i64 D, .int .i64 C, .int .i64 K, .int .i64 P, .int .i64 (bi - pr - P - M), .int .i64 pr, .int .i64 0] 48 (0, 0))) := put8_heap HXn.out
  have HBF : Hid (Below p w ((((((((wn.setCell ⟨p, 0, none⟩ (.int .i64 al)).setCell ⟨p, 1, none⟩ (.int .i64 D)).setCell ⟨p, 2, none⟩ (.int .i64 C)).setCell ⟨p, 3, none⟩ (.int .i64 K)).setCell ⟨p, 4, none⟩ (.int .i64 P)).setCell ⟨p, 5, none⟩ (.int .i64 (bi - pr - P - M))).setCell ⟨p, 6, none⟩ (.int .i64 pr)).setCell ⟨p, 7, none⟩ (.int .i64 0))) := put8_below HBn.out p (Nat.le_refl _) _ _ _ _ _ _ _ _
  generalize ((((((((wn.setCell ⟨p, 0, none⟩ (.int .i64 al)).setCell ⟨p, 1, none⟩ (.int .i64 D)).setCell ⟨p, 2, none⟩ (.int .i64 C)).setCell ⟨p, 3, none⟩ (.int .i64 K)).setCell ⟨p, 4, none⟩ (.int .i64 P)).setCell ⟨p, 5, none⟩ (.int .i64 (bi - pr - P - M))).setCell ⟨p, 6, none⟩ (.int .i64 pr)).setCell ⟨p, 7, none⟩ (.int .i64 0)) = WF at *
  obtain ⟨b0, b1, b2, b3, b4, b5, b6, b7⟩ := eight HXF.out
  try simp only [Exit.inBlock, Exit.then]
  refine bodyPost_ret (v := .tuple #[.agg #[.int .i64 al, .int .i64 D, .int .i64 C, .int .i64 K, .int .i64 P, .int .i64 (bi - pr - P - M), .int .i64 pr, .int .i64 0], .int .i64 0]) (by simp [results, Tryz.results94, go_sem, b0, b1, b2, b3, b4, b5, b6, b7]) rfl ?_
  exact ⟨rfl, by first | exact HBF.out | (rw [hp]; exact HBF.out)⟩
 )
end Go.Proofs.YtfoooldkmokjpaaGreatDoor.Sh
end
section
set_option maxRecDepth 100000
namespace Go.Proofs.YtfoooldkmokjpaaGreatDoor.Sh
open Go.RowKit
theorem six (bi al pr de cp cn : Int) : [bi, al, pr, de, cp, cn].all Ce.good = sixB bi al pr de cp cn := by simp [sixB]
theorem six_iff {bi al pr de cp cn : Int} (h : [bi, al, pr, de, cp, cn].all Ce.good = true) : (0 ≤ bi ∧ bi ≤ 10000000000000) ∧ (0 ≤ al ∧ al ≤ 10000000000000) ∧ (0 ≤ pr ∧ pr ≤ 10000000000000) ∧ (0 ≤ de ∧ de ≤ 10000000000000) ∧ (0 ≤ cp ∧ cp ≤ 10000000000000) ∧ (0 ≤ cn ∧ cn ≤ 10000000000000) := by
 simp only [List.all_cons, List.all_nil, Bool.and_true, Bool.and_eq_true, Ce.good_iff] at h
 exact h
theorem set_zero {bi al pr de cp cn E : Int} (h : setE bi al pr de cp cn = E) (hE : E ≠ 0) : setV bi al pr de cp cn = ot0 := by unfold setV; rw [h, if_neg hE]
theorem setE_bad {bi al pr de cp cn : Int} (h : [bi, al, pr, de, cp, cn].all Ce.good = false) : setE bi al pr de cp cn = 1 := by unfold setE; rw [← six, h]; rfl
theorem setE_over {bi al pr de cp cn : Int} (h : [bi, al, pr, de, cp, cn].all Ce.good = true) (h2 : bi < al ∨ bi < pr ∨ al < de + cp + cn) : setE bi al pr de cp cn = 3 := by
 unfold setE
 rw [← six, if_pos h, if_neg]
 simp only [fitB, Bool.and_eq_true, decide_eq_true_eq]
 omega
theorem setE_ok {bi al pr de cp cn : Int} (h : [bi, al, pr, de, cp, cn].all Ce.good = true) (h1 : ¬ bi < al) (h2 : ¬ bi < pr) (h3 : ¬ al < de + cp + cn) : setE bi al pr de cp cn = 0 := by
 unfold setE
 rw [← six, if_pos h, if_pos]
 simp only [fitB, Bool.and_eq_true, decide_eq_true_eq]
 omega
theorem rest_max (al pr : Int) : max (al - pr) 0 = rest al pr := by unfold rest; split <;> omega
theorem settle_any (bi al pr de cp cn : Int) (w : World) :
  Calls Tryz.prog 94 #[.int .i64 bi, .int .i64 al, .int .i64 pr, .int .i64 de, .int .i64 cp, .int .i64 cn] w fun e w' => e = .returned (.tuple #[.agg #[.int .i64 (setV bi al pr de cp cn).al, .int .i64 (setV bi al pr de cp cn).de, .int .i64 (setV bi al pr de cp cn).cp, .int .i64 (setV bi al pr de cp cn).cn, .int .i64 (setV bi al pr de cp cn).plan, .int .i64 (setV bi al pr de cp cn).wr, .int .i64 (setV bi al pr de cp cn).pr, .int .i64 (setV bi al pr de cp cn).deny], .int .i64 (setE bi al pr de cp cn)]) ∧ Below w.heap.size w w' := by
 cases hAll : [bi, al, pr, de, cp, cn].all Ce.good
 ·have e := setE_bad hAll
  rw [set_zero e (by decide), e]
  exact set_bad bi al pr de cp cn w hAll
 obtain ⟨⟨a0, a1⟩, ⟨b0, b1⟩, ⟨c0', c1⟩, ⟨e0, e1⟩, ⟨f0, f1⟩, ⟨g0, g1⟩⟩ := six_iff hAll
 by_cases h1 : bi < al
 ·have e := setE_over hAll (Or.inl h1)
  rw [set_zero e (by decide), e]
  exact set_o1 bi al pr de cp cn w a0 a1 b0 b1 c0' c1 e0 e1 f0 f1 g0 g1 hAll h1
 by_cases h2 : bi < pr
 ·have e := setE_over hAll (Or.inr (Or.inl h2))
  rw [set_zero e (by decide), e]
  exact set_o2 bi al pr de cp cn w a0 a1 b0 b1 c0' c1 e0 e1 f0 f1 g0 g1 hAll h1 h2
 by_cases h3 : al < de + cp + cn
 ·have e := setE_over hAll (Or.inr (Or.inr h3))
  rw [set_zero e (by decide), e]
  exact set_o3 bi al pr de cp cn w a0 a1 b0 b1 c0' c1 e0 e1 f0 f1 g0 g1 hAll h1 h2 h3
 have e := setE_ok hAll h1 h2 h3
 obtain ⟨r0, r1, r2, q0, q1, q2, q3, q4, q5, q6, q7⟩ := set_parts e
 have ev : setV bi al pr de cp cn = ⟨al, sD al pr de cp cn, sC al pr de cp cn, sK al pr de cp cn, sP al pr de cp cn, bi - pr - sP al pr de cp cn - sD al pr de cp cn - sC al pr de cp cn - sK al pr de cp cn, pr, 0⟩ := by unfold setV; rw [if_pos e]
 rw [ev, e]
 have x0 : least (al - de - cp - cn) (rest al pr) = sP al pr de cp cn := rfl
 have x1 : least de (rest al pr - sP al pr de cp cn) = sD al pr de cp cn := rfl
 have x2 : least cp (rest al pr - sP al pr de cp cn - sD al pr de cp cn) = sC al pr de cp cn := rfl
 have x3 : least cn (rest al pr - sP al pr de cp cn - sD al pr de cp cn - sC al pr de cp cn) = sK al pr de cp cn := rfl
 clear ev
 have k1' : sD al pr de cp cn ≤ 10000000000000 := by omega
 have k2' : sC al pr de cp cn ≤ 10000000000000 := by omega
 have k3' : sK al pr de cp cn ≤ 10000000000000 := by omega
 have HR : Hid (max (al - pr) 0 = rest al pr) := rest_max al pr
 have HM : Hid (∀ w : World, Calls Tryz.prog 138 #[.agg #[.int .i64 al, .int .i64 (sD al pr de cp cn), .int .i64 (sC al pr de cp cn), .int .i64 (sK al pr de cp cn), .int .i64 (sP al pr de cp cn), .int .i64 0, .int .i64 pr, .int .i64 0]] w fun e w' => e = .returned (.int .i64 (sD al pr de cp cn + sC al pr de cp cn + sK al pr de cp cn)) ∧ Below w.heap.size w w') := fun w => member_any ⟨al, sD al pr de cp cn, sC al pr de cp cn, sK al pr de cp cn, sP al pr de cp cn, 0, pr, 0⟩ w q1 k1' q2 k2' q3 k3'
 generalize sP al pr de cp cn = P at *
 generalize sD al pr de cp cn = D at *
 generalize sC al pr de cp cn = C at *
 generalize sK al pr de cp cn = K at *
 generalize rest al pr = R at *
 rw [show bi - pr - P - D - C - K = bi - pr - P - (D + C + K) by omega]
 rw [show al - de - cp - cn = al - (de + cp + cn) by omega] at x0
 exact set_A bi al pr de cp cn w a0 a1 b0 b1 c0' c1 e0 e1 f0 f1 g0 g1 hAll h1 h2 h3 R P D C K (D + C + K) (R - P) (R - P - D) (R - P - D - C) (R - P - D - C - K) HR (Lib.hid ⟨by omega, by omega, by omega, by omega, x0, rfl⟩) (Lib.hid ⟨by omega, by omega, by omega, by omega, x1, rfl⟩) (Lib.hid ⟨by omega, by omega, by omega, by omega, x2, rfl⟩) (Lib.hid ⟨by omega, by omega, by omega, by omega, x3, rfl⟩) HM (by omega) (by omega) (by omega) (by omega)
end Go.Proofs.YtfoooldkmokjpaaGreatDoor.Sh
end
section
namespace Go.Proofs.YtfoooldkmokjpaaGreatDoor.Ri
open Go
def reach (l : List Oper) : Nat → Nat → Nat → Bool
 | 0, _, _ => false
 | f + 1, k, t => match l[t]? with
  | none => false
  | some o => (o.after.any fun e => Region.binds .any e && e.on == k) || (o.after.any fun e => Region.binds .any e && reach l f k e.on)
theorem reach_spec {l : List Oper} {listed : Nat → Prop} (hcl : ∀ j o, listed j → l[j]? = some o → ∀ e ∈ o.after, Region.binds .any e = true → listed e.on) (k : Nat) :
  ∀ (f t : Nat), (∀ o, l[t]? = some o → ∀ e ∈ o.after, Region.binds .any e = true → listed e.on) → reach l f k t = true → listed k := by
 intro f
 induction f with
 | zero => intro t _ h; cases h
 | succ f ih =>
  intro t hp h
  unfold reach at h
  split at h
  ·cases h
  ·next o ho =>
   simp only [Bool.or_eq_true, Array.any_eq_true', Bool.and_eq_true, beq_iff_eq] at h
   rcases h with ⟨e, he, hb, rfl⟩ | ⟨e, he, hb, hr⟩
   ·exact hp o ho e he hb
   ·exact ih e.on (fun o' ho' e' he' hb' => hcl e.on o' (hp o ho e he hb) ho' e' he' hb') hr
def tailOk (l : List Oper) (s : Nat) : Bool := (List.range l.length).all fun t => decide (t < s) || (((List.range t).all fun k => reach l l.length k t) && ((l[t]?).bind (·.guard)).isNone)
theorem tailOk_spec {l : List Oper} {s : Nat} (h : tailOk l s = true) (t : Nat) (o : Oper) (hst : s ≤ t) (ho : l[t]? = some o) : (∀ k, k < t → reach l l.length k t = true) ∧ o.guard = none := by
 unfold tailOk at h
 have := List.all_eq_true.1 h t (List.mem_range.2 (List.getElem?_eq_some_iff.1 ho).1)
 rw [decide_eq_false (by omega), Bool.false_or, Bool.and_eq_true, ho] at this
 exact ⟨fun k hk => List.all_eq_true.1 this.1 k (List.mem_range.2 hk), Option.isNone_iff_eq_none.1 this.2⟩
def Tail (P : Program) (l : List Oper) (Q : Exit → Act → World → Prop) (a0 : Act) : Nat → List Oper → (Nat → Value) → World → Prop
 | _, [], vs, w => Q .normal (puts l 0 vs a0) w
 | t, o :: r, vs, w => ∀ (A : Act), (∀ t : Nat, A.tmps[t]?.getD undef = (puts l 0 vs a0).tmps[t]?.getD undef) → ∀ K : Act → World → Prop, (∀ v w', Tail P l Q a0 (t + 1) r (upd vs t v) w' → K (A.put o.dst v) w') → o.wp P A w K Q
end Go.Proofs.YtfoooldkmokjpaaGreatDoor.Ri
end
