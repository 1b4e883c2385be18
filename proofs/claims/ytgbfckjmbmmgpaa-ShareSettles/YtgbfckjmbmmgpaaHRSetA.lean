/-
  The reference's Settle: a way that is answered.
-/
import Derived.Test.YtgbfckjmbmmgpaaHRSet0
set_option linter.unusedSimpArgs false
set_option linter.unusedVariables false
set_option maxRecDepth 100000
namespace Go.Proofs.Ytgbfckjmbmmgpaa.Sh
open Go.RowKit

set_option maxHeartbeats 4000000 in
theorem rset_A (bi al pr de cp cn : Int) (w : World) (bi0 : 0 ≤ bi) (bi1 : bi ≤ 10000000000000) (al0 : 0 ≤ al) (al1 : al ≤ 10000000000000) (pr0 : 0 ≤ pr) (pr1 : pr ≤ 10000000000000) (de0 : 0 ≤ de) (de1 : de ≤ 10000000000000) (cp0 : 0 ≤ cp) (cp1 : cp ≤ 10000000000000) (cn0 : 0 ≤ cn) (cn1 : cn ≤ 10000000000000) (hAll : [bi, al, pr, de, cp, cn].all Ce.good = true) (h1 : ¬ bi < al) (h2 : ¬ bi < pr) (h3 : ¬ al < de + cp + cn) (hr : pr < al) (P D C K : Int) (P0 : 0 ≤ P) (P1 : P ≤ 10000000000000) (D0 : 0 ≤ D) (D1 : D ≤ 10000000000000) (C0 : 0 ≤ C) (C1 : C ≤ 10000000000000) (K0 : 0 ≤ K) (K1 : K ≤ 10000000000000) (L1 : Hid (∀ w : World, Calls Try.prog 22 #[.int .i64 (al - de - cp - cn), .int .i64 (al - pr)] w fun e w' => e = .returned (.int .i64 P) ∧ w' = w)) (L2 : Hid (∀ w : World, Calls Try.prog 22 #[.int .i64 de, .int .i64 ((al - pr) - P)] w fun e w' => e = .returned (.int .i64 D) ∧ w' = w)) (L3 : Hid (∀ w : World, Calls Try.prog 22 #[.int .i64 cp, .int .i64 ((al - pr) - P - D)] w fun e w' => e = .returned (.int .i64 C) ∧ w' = w)) (L4 : Hid (∀ w : World, Calls Try.prog 22 #[.int .i64 cn, .int .i64 ((al - pr) - P - D - C)] w fun e w' => e = .returned (.int .i64 K) ∧ w' = w)) :
    Calls Try.prog 13 #[.int .i64 bi, .int .i64 al, .int .i64 pr, .int .i64 de, .int .i64 cp, .int .i64 cn] w fun e w' => e = .returned (.tuple #[.agg #[.int .i64 al, .int .i64 D, .int .i64 C, .int .i64 K, .int .i64 P, .int .i64 (bi - pr - P - D - C - K), .int .i64 pr, .int .i64 0], .int .i64 0]) ∧ Below w.heap.size w w' := by
  have HRW := Lib.hid (alloc_two w #[.int .i64 0, .int .i64 0, .int .i64 0, .int .i64 0, .int .i64 0, .int .i64 0, .int .i64 0, .int .i64 0] (ints [bi, al, pr, de, cp, cn]).toArray 31 2)
  have HX0 := Lib.hid (keepB (alloc_new w #[.int .i64 0, .int .i64 0, .int .i64 0, .int .i64 0, .int .i64 0, .int .i64 0, .int .i64 0, .int .i64 0] 31) (below_alloc (w.alloc (.cells #[.int .i64 0, .int .i64 0, .int .i64 0, .int .i64 0, .int .i64 0, .int .i64 0, .int .i64 0, .int .i64 0] 31)) (.cells #[.int .i64 bi, .int .i64 al, .int .i64 pr, .int .i64 de, .int .i64 cp, .int .i64 cn] 2)))
  have HB0 := Lib.hid (below_trans (below_alloc w (.cells #[.int .i64 0, .int .i64 0, .int .i64 0, .int .i64 0, .int .i64 0, .int .i64 0, .int .i64 0, .int .i64 0] 31)) (below_alloc (w.alloc (.cells #[.int .i64 0, .int .i64 0, .int .i64 0, .int .i64 0, .int .i64 0, .int .i64 0, .int .i64 0, .int .i64 0] 31)) (.cells #[.int .i64 bi, .int .i64 al, .int .i64 pr, .int .i64 de, .int .i64 cp, .int .i64 cn] 2)))
  have HP0 : Hid (w.heap.size < ((w.alloc (.cells #[.int .i64 0, .int .i64 0, .int .i64 0, .int .i64 0, .int .i64 0, .int .i64 0, .int .i64 0, .int .i64 0] 31)).alloc (.cells #[.int .i64 bi, .int .i64 al, .int .i64 pr, .int .i64 de, .int .i64 cp, .int .i64 cn] 2)).heap.size) := lt_of_block HX0.out
  have HA : Hid (Ce.allG (fun i => [bi, al, pr, de, cp, cn].getD i 0) 6 = true) := by
    show _ = _
    rw [allG_list [bi, al, pr, de, cp, cn] 6 (by simp)]
    exact hAll
  clear hAll
  go_enter Try.func13, Try.ntmps13
  go_upto_region 2 with fail
  have HRW' : Hid (((w.alloc (.cells #[.int .i64 0, .int .i64 0, .int .i64 0, .int .i64 0, .int .i64 0, .int .i64 0, .int .i64 0, .int .i64 0] 31)).alloc (.cells #[.int .i64 bi, .int .i64 al, .int .i64 pr, .int .i64 de, .int .i64 cp, .int .i64 cn] 2)).heap[w.heap.size + 1]? = some (.cells (ints [bi, al, pr, de, cp, cn]).toArray 2 (0, 0))) := HRW.out
  clear HRW
  generalize ((w.alloc (.cells #[.int .i64 0, .int .i64 0, .int .i64 0, .int .i64 0, .int .i64 0, .int .i64 0, .int .i64 0, .int .i64 0] 31)).alloc (.cells #[.int .i64 bi, .int .i64 al, .int .i64 pr, .int .i64 de, .int .i64 cp, .int .i64 cn] 2)) = W0 at *
  generalize hp : w.heap.size = p at *
  generalize hf : (fun i => [bi, al, pr, de, cp, cn].getD i 0) = f at *
  have HC : Hid (∀ k, k < 6 → W0.cell? ⟨p + 1, k, none⟩ = some (.int .i64 (f k))) := fun k hk => by rw [← hf]; exact ints_at HRW'.out k (by simpa using hk)
  clear hf HRW'
  go_wp2_with fail
  go_loop [15] (fun i => ∃ k : Nat, k ≤ 6 ∧ i = .int .i64 k ∧ Hid (Ce.allG f k = true)) (fun i => 6 - (intOf i).toNat)
  case atStart => exact ⟨0, Nat.zero_le _, rfl, rfl⟩
  case round =>
    obtain ⟨k, hk, rfl, hg⟩ := hrel
    by_cases hlt : k < 6
    · have hcell := HC.out k hlt
      cases gk : Ce.good (f k)
      · exact absurd (Ce.allG_not f 6 k hlt gk) (by rw [HA.out]; decide)
      · go_wp2_with (go_at_call 21; refine (Ce.rgood_any _ _).mono ?_; rintro e w' ⟨rfl, hw⟩; rw [hw]; clear hw w')
        go_round
        case rel => exact ⟨k + 1, by omega, by go_num, Ce.allG_more f k hg.out gk⟩
        case measure => simp [intOf]; omega
    · have hkk : k = 6 := by omega
      subst hkk
      clear hlt hk
      have HO1 := Lib.hid (alloc_new W0 #[.int .i64 al, .int .i64 0, .int .i64 0, .int .i64 0, .int .i64 0, .int .i64 0, .int .i64 pr, .int .i64 0] 31)
      have HX1 := Lib.hid (keepB HX0.out (below_alloc W0 (.cells #[.int .i64 al, .int .i64 0, .int .i64 0, .int .i64 0, .int .i64 0, .int .i64 0, .int .i64 pr, .int .i64 0] 31)))
      have HB1 := Lib.hid (below_on HB0.out (below_alloc W0 (.cells #[.int .i64 al, .int .i64 0, .int .i64 0, .int .i64 0, .int .i64 0, .int .i64 0, .int .i64 pr, .int .i64 0] 31)) (Nat.le_of_lt HP0.out))
      go_upto_region 13 with fail
      generalize hq : W0.heap.size = q at *
      have HPQ := Lib.hid HP0.out
      generalize (W0.alloc (.cells #[.int .i64 al, .int .i64 0, .int .i64 0, .int .i64 0, .int .i64 0, .int .i64 0, .int .i64 pr, .int .i64 0] 31)) = w1 at *
      obtain ⟨b0, b1, b2, b3, b4, b5, b6, b7⟩ := eight HO1.out
      obtain ⟨f0, f1, f2, f3, f4, f5, f6, f7⟩ := frz HO1.out
      go_wp2_with fail
      go_at_call 22
      refine (L1.out _).mono ?_
      rintro e w' ⟨rfl, hw⟩
      rw [hw]
      clear hw w'
      go_upto_region 14 with fail
      clear b0 b1 b2 b3 b4 b5 b6 b7 f0 f1 f2 f3 f4 f5 f6 f7
      have HX2 := Lib.hid (heap_far (j := 4) (u := .int .i64 P) HX1.out (Nat.ne_of_lt HPQ.out))
      have HB2 := Lib.hid (HB1.out.setCell (p := ⟨q, 4, none⟩) (Nat.le_of_lt HPQ.out) (.int .i64 P))
      have HO2 : Hid ((w1.setCell ⟨q, 4, none⟩ (.int .i64 P)).heap[q]? = some (.cells #[.int .i64 al, .int .i64 0, .int .i64 0, .int .i64 0, .int .i64 P, .int .i64 0, .int .i64 pr, .int .i64 0] 31 (0, 0))) := by show _ = _; rw [heap_set HO1.out]; rfl
      generalize w1.setCell ⟨q, 4, none⟩ (.int .i64 P) = w2 at *
      obtain ⟨b0, b1, b2, b3, b4, b5, b6, b7⟩ := eight HO2.out
      obtain ⟨f0, f1, f2, f3, f4, f5, f6, f7⟩ := frz HO2.out
      go_wp2_with fail
      go_at_call 22
      refine (L2.out _).mono ?_
      rintro e w' ⟨rfl, hw⟩
      rw [hw]
      clear hw w'
      go_upto_region 15 with fail
      clear b0 b1 b2 b3 b4 b5 b6 b7 f0 f1 f2 f3 f4 f5 f6 f7
      have HX3 := Lib.hid (heap_far (j := 1) (u := .int .i64 D) HX2.out (Nat.ne_of_lt HPQ.out))
      have HB3 := Lib.hid (HB2.out.setCell (p := ⟨q, 1, none⟩) (Nat.le_of_lt HPQ.out) (.int .i64 D))
      have HO3 : Hid ((w2.setCell ⟨q, 1, none⟩ (.int .i64 D)).heap[q]? = some (.cells #[.int .i64 al, .int .i64 D, .int .i64 0, .int .i64 0, .int .i64 P, .int .i64 0, .int .i64 pr, .int .i64 0] 31 (0, 0))) := by show _ = _; rw [heap_set HO2.out]; rfl
      generalize w2.setCell ⟨q, 1, none⟩ (.int .i64 D) = w3 at *
      obtain ⟨b0, b1, b2, b3, b4, b5, b6, b7⟩ := eight HO3.out
      obtain ⟨f0, f1, f2, f3, f4, f5, f6, f7⟩ := frz HO3.out
      go_wp2_with fail
      go_at_call 22
      refine (L3.out _).mono ?_
      rintro e w' ⟨rfl, hw⟩
      rw [hw]
      clear hw w'
      go_upto_region 16 with fail
      clear b0 b1 b2 b3 b4 b5 b6 b7 f0 f1 f2 f3 f4 f5 f6 f7
      have HX4 := Lib.hid (heap_far (j := 2) (u := .int .i64 C) HX3.out (Nat.ne_of_lt HPQ.out))
      have HB4 := Lib.hid (HB3.out.setCell (p := ⟨q, 2, none⟩) (Nat.le_of_lt HPQ.out) (.int .i64 C))
      have HO4 : Hid ((w3.setCell ⟨q, 2, none⟩ (.int .i64 C)).heap[q]? = some (.cells #[.int .i64 al, .int .i64 D, .int .i64 C, .int .i64 0, .int .i64 P, .int .i64 0, .int .i64 pr, .int .i64 0] 31 (0, 0))) := by show _ = _; rw [heap_set HO3.out]; rfl
      generalize w3.setCell ⟨q, 2, none⟩ (.int .i64 C) = w4 at *
      obtain ⟨b0, b1, b2, b3, b4, b5, b6, b7⟩ := eight HO4.out
      obtain ⟨f0, f1, f2, f3, f4, f5, f6, f7⟩ := frz HO4.out
      go_wp2_with fail
      go_at_call 22
      refine (L4.out _).mono ?_
      rintro e w' ⟨rfl, hw⟩
      rw [hw]
      clear hw w'
      go_upto_region 17 with fail
      clear b0 b1 b2 b3 b4 b5 b6 b7 f0 f1 f2 f3 f4 f5 f6 f7
      have HX5 := Lib.hid (heap_far (j := 3) (u := .int .i64 K) HX4.out (Nat.ne_of_lt HPQ.out))
      have HB5 := Lib.hid (HB4.out.setCell (p := ⟨q, 3, none⟩) (Nat.le_of_lt HPQ.out) (.int .i64 K))
      have HO5 : Hid ((w4.setCell ⟨q, 3, none⟩ (.int .i64 K)).heap[q]? = some (.cells #[.int .i64 al, .int .i64 D, .int .i64 C, .int .i64 K, .int .i64 P, .int .i64 0, .int .i64 pr, .int .i64 0] 31 (0, 0))) := by show _ = _; rw [heap_set HO4.out]; rfl
      generalize w4.setCell ⟨q, 3, none⟩ (.int .i64 K) = w5 at *
      obtain ⟨b0, b1, b2, b3, b4, b5, b6, b7⟩ := eight HO5.out
      obtain ⟨f0, f1, f2, f3, f4, f5, f6, f7⟩ := frz HO5.out
      go_upto_region 18 with fail
      clear b0 b1 b2 b3 b4 b5 b6 b7 f0 f1 f2 f3 f4 f5 f6 f7
      have HX6 := Lib.hid (heap_far (j := 5) (u := .int .i64 (bi - pr - P - D - C - K)) HX5.out (Nat.ne_of_lt HPQ.out))
      have HB6 := Lib.hid (HB5.out.setCell (p := ⟨q, 5, none⟩) (Nat.le_of_lt HPQ.out) (.int .i64 (bi - pr - P - D - C - K)))
      have HO6 : Hid ((w5.setCell ⟨q, 5, none⟩ (.int .i64 (bi - pr - P - D - C - K))).heap[q]? = some (.cells #[.int .i64 al, .int .i64 D, .int .i64 C, .int .i64 K, .int .i64 P, .int .i64 (bi - pr - P - D - C - K), .int .i64 pr, .int .i64 0] 31 (0, 0))) := by show _ = _; rw [heap_set HO5.out]; rfl
      generalize w5.setCell ⟨q, 5, none⟩ (.int .i64 (bi - pr - P - D - C - K)) = w6 at *
      obtain ⟨b0, b1, b2, b3, b4, b5, b6, b7⟩ := eight HO6.out
      obtain ⟨f0, f1, f2, f3, f4, f5, f6, f7⟩ := frz HO6.out
      obtain ⟨d0, d1, d2, d3, d4, d5, d6, d7⟩ := eight HX6.out
      obtain ⟨g0, g1, g2, g3, g4, g5, g6, g7⟩ := frz HX6.out
      go_wp2
      clear d0 d1 d2 d3 d4 d5 d6 d7 g0 g1 g2 g3 g4 g5 g6 g7
      clear b0 b1 b2 b3 b4 b5 b6 b7 f0 f1 f2 f3 f4 f5 f6 f7
      have HXF : Hid (((((((((w6.setCell ⟨p, 0, none⟩ (.int .i64 al)).setCell ⟨p, 1, none⟩ (.int .i64 D)).setCell ⟨p, 2, none⟩ (.int .i64 C)).setCell ⟨p, 3, none⟩ (.int .i64 K)).setCell ⟨p, 4, none⟩ (.int .i64 P)).setCell ⟨p, 5, none⟩ (.int .i64 (bi - pr - P - D - C - K))).setCell ⟨p, 6, none⟩ (.int .i64 pr)).setCell ⟨p, 7, none⟩ (.int .i64 0)).heap[p]? = some (.cells #[.int .i64 al, .int .i64 D, .int .i64 C, .int .i64 K, .int .i64 P, .int .i64 (bi - pr - P - D - C - K), .int .i64 pr, .int .i64 0] 31 (0, 0))) := put8_heap HX6.out
      have HBF : Hid (Below p w ((((((((w6.setCell ⟨p, 0, none⟩ (.int .i64 al)).setCell ⟨p, 1, none⟩ (.int .i64 D)).setCell ⟨p, 2, none⟩ (.int .i64 C)).setCell ⟨p, 3, none⟩ (.int .i64 K)).setCell ⟨p, 4, none⟩ (.int .i64 P)).setCell ⟨p, 5, none⟩ (.int .i64 (bi - pr - P - D - C - K))).setCell ⟨p, 6, none⟩ (.int .i64 pr)).setCell ⟨p, 7, none⟩ (.int .i64 0))) := put8_below HB6.out p (Nat.le_refl _) _ _ _ _ _ _ _ _
      generalize ((((((((w6.setCell ⟨p, 0, none⟩ (.int .i64 al)).setCell ⟨p, 1, none⟩ (.int .i64 D)).setCell ⟨p, 2, none⟩ (.int .i64 C)).setCell ⟨p, 3, none⟩ (.int .i64 K)).setCell ⟨p, 4, none⟩ (.int .i64 P)).setCell ⟨p, 5, none⟩ (.int .i64 (bi - pr - P - D - C - K))).setCell ⟨p, 6, none⟩ (.int .i64 pr)).setCell ⟨p, 7, none⟩ (.int .i64 0)) = WF at *
      obtain ⟨b0, b1, b2, b3, b4, b5, b6, b7⟩ := eight HXF.out
      try simp only [Exit.inBlock, Exit.then]
      refine bodyPost_ret (v := .tuple #[.agg #[.int .i64 al, .int .i64 D, .int .i64 C, .int .i64 K, .int .i64 P, .int .i64 (bi - pr - P - D - C - K), .int .i64 pr, .int .i64 0], .int .i64 0]) (by simp [results, Try.results13, go_sem, b0, b1, b2, b3, b4, b5, b6, b7]) rfl ?_
      exact ⟨rfl, by first | exact HBF.out | (rw [hp]; exact HBF.out)⟩
end Go.Proofs.Ytgbfckjmbmmgpaa.Sh
