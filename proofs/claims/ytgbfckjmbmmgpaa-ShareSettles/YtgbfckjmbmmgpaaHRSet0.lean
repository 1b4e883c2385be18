/-
  The reference's Settle: the ways that are refused.
-/
import Derived.Test.YtgbfckjmbmmgpaaHSettle
import Derived.Test.YtgbfckjmbmmgpaaHRBear
import Derived.Test.YtgbfckjmbmmgpaaCRefs
import Derived.Deep.Cut
set_option linter.unusedSimpArgs false
set_option linter.unusedVariables false
set_option maxRecDepth 100000
namespace Go.Proofs.Ytgbfckjmbmmgpaa.Sh
open Go.RowKit

set_option maxHeartbeats 4000000 in
theorem rset_bad (bi al pr de cp cn : Int) (w : World) (hAll : [bi, al, pr, de, cp, cn].all Ce.good = false) :
    Calls Try.prog 13 #[.int .i64 bi, .int .i64 al, .int .i64 pr, .int .i64 de, .int .i64 cp, .int .i64 cn] w fun e w' => e = .returned (.tuple #[.agg #[.int .i64 0, .int .i64 0, .int .i64 0, .int .i64 0, .int .i64 0, .int .i64 0, .int .i64 0, .int .i64 0], .int .i64 1]) ∧ Below w.heap.size w w' := by
  have HRW := Lib.hid (alloc_two w #[.int .i64 0, .int .i64 0, .int .i64 0, .int .i64 0, .int .i64 0, .int .i64 0, .int .i64 0, .int .i64 0] (ints [bi, al, pr, de, cp, cn]).toArray 31 2)
  have HX0 := Lib.hid (keepB (alloc_new w #[.int .i64 0, .int .i64 0, .int .i64 0, .int .i64 0, .int .i64 0, .int .i64 0, .int .i64 0, .int .i64 0] 31) (below_alloc (w.alloc (.cells #[.int .i64 0, .int .i64 0, .int .i64 0, .int .i64 0, .int .i64 0, .int .i64 0, .int .i64 0, .int .i64 0] 31)) (.cells #[.int .i64 bi, .int .i64 al, .int .i64 pr, .int .i64 de, .int .i64 cp, .int .i64 cn] 2)))
  have HB0 := Lib.hid (below_trans (below_alloc w (.cells #[.int .i64 0, .int .i64 0, .int .i64 0, .int .i64 0, .int .i64 0, .int .i64 0, .int .i64 0, .int .i64 0] 31)) (below_alloc (w.alloc (.cells #[.int .i64 0, .int .i64 0, .int .i64 0, .int .i64 0, .int .i64 0, .int .i64 0, .int .i64 0, .int .i64 0] 31)) (.cells #[.int .i64 bi, .int .i64 al, .int .i64 pr, .int .i64 de, .int .i64 cp, .int .i64 cn] 2)))
  have HP0 : Hid (w.heap.size < ((w.alloc (.cells #[.int .i64 0, .int .i64 0, .int .i64 0, .int .i64 0, .int .i64 0, .int .i64 0, .int .i64 0, .int .i64 0] 31)).alloc (.cells #[.int .i64 bi, .int .i64 al, .int .i64 pr, .int .i64 de, .int .i64 cp, .int .i64 cn] 2)).heap.size) := lt_of_block HX0.out
  have HA : Hid (Ce.allG (fun i => [bi, al, pr, de, cp, cn].getD i 0) 6 = false) := by
    show _ = _
    rw [allG_list [bi, al, pr, de, cp, cn] 6 (by simp)]
    exact hAll
  clear hAll
  go_enter Try.func13, Try.ntmps13
  go_upto_region 2 with fail
  have HRW' : Hid (((w.alloc (.cells #[.int .i64 0, .int .i64 0, .int .i64 0, .int .i64 0, .int .i64 0, .int .i64 0, .int .i64 0, .int .i64 0] 31)).alloc (.cells #[.int .i64 bi, .int .i64 al, .int .i64 pr, .int .i64 de, .int .i64 cp, .int .i64 cn] 2)).heap[w.heap.size + 1]? = some (.cells (ints [bi, al, pr, de, cp, cn]).toArray 2 (0, 0))) := HRW.out
  clear HRW
  generalize ((w.alloc (.cells #[.int .i64 0, .int .i64 0, .int .i64 0, .int .i64 0, .int .i64 0, .int .i64 0, .int .i64 0, .int .i64 0] 31)).alloc (.cells #[.int .i64 bi, .int .i64 al, .int .i64 pr, .int .i64 de, .int .i64 cp, .int .i64 cn] 2)) = W0 at *
  generalize hp : w.heap.size = p at *
  generalize hf : (fun i => [bi, al, pr, de, cp, cn].getD i 0) = f at *
  have HC : Hid (∀ k, k < 6 → W0.cell? ⟨p + 1, k, none⟩ = some (.int .i64 (f k))) := fun k hk => by rw [← hf]; exact ints_at HRW'.out k (by simpa using hk)
  clear hf HRW'
  go_wp2_with fail
  go_loop [15] (fun i => ∃ k : Nat, k ≤ 6 ∧ i = .int .i64 k ∧ Hid (Ce.allG f k = true)) (fun i => 6 - (intOf i).toNat)
  case atStart => exact ⟨0, Nat.zero_le _, rfl, rfl⟩
  case round =>
    obtain ⟨k, hk, rfl, hg⟩ := hrel
    by_cases hlt : k < 6
    · have hcell := HC.out k hlt
      cases gk : Ce.good (f k)
      · obtain ⟨b0, b1, b2, b3, b4, b5, b6, b7⟩ := eight HX0.out
        obtain ⟨f0, f1, f2, f3, f4, f5, f6, f7⟩ := frz HX0.out
        go_wp2_with (go_at_call 21; refine (Ce.rgood_any _ _).mono ?_; rintro e w' ⟨rfl, hw⟩; rw [hw]; clear hw w')
        clear b0 b1 b2 b3 b4 b5 b6 b7 f0 f1 f2 f3 f4 f5 f6 f7
        have HXF : Hid (((((((((W0.setCell ⟨p, 0, none⟩ (.int .i64 0)).setCell ⟨p, 1, none⟩ (.int .i64 0)).setCell ⟨p, 2, none⟩ (.int .i64 0)).setCell ⟨p, 3, none⟩ (.int .i64 0)).setCell ⟨p, 4, none⟩ (.int .i64 0)).setCell ⟨p, 5, none⟩ (.int .i64 0)).setCell ⟨p, 6, none⟩ (.int .i64 0)).setCell ⟨p, 7, none⟩ (.int .i64 0)).heap[p]? = some (.cells #[.int .i64 0, .int .i64 0, .int .i64 0, .int .i64 0, .int .i64 0, .int .i64 0, .int .i64 0, .int .i64 0] 31 (0, 0))) := put8_heap HX0.out
        have HBF : Hid (Below p w ((((((((W0.setCell ⟨p, 0, none⟩ (.int .i64 0)).setCell ⟨p, 1, none⟩ (.int .i64 0)).setCell ⟨p, 2, none⟩ (.int .i64 0)).setCell ⟨p, 3, none⟩ (.int .i64 0)).setCell ⟨p, 4, none⟩ (.int .i64 0)).setCell ⟨p, 5, none⟩ (.int .i64 0)).setCell ⟨p, 6, none⟩ (.int .i64 0)).setCell ⟨p, 7, none⟩ (.int .i64 0))) := put8_below HB0.out p (Nat.le_refl _) _ _ _ _ _ _ _ _
        generalize ((((((((W0.setCell ⟨p, 0, none⟩ (.int .i64 0)).setCell ⟨p, 1, none⟩ (.int .i64 0)).setCell ⟨p, 2, none⟩ (.int .i64 0)).setCell ⟨p, 3, none⟩ (.int .i64 0)).setCell ⟨p, 4, none⟩ (.int .i64 0)).setCell ⟨p, 5, none⟩ (.int .i64 0)).setCell ⟨p, 6, none⟩ (.int .i64 0)).setCell ⟨p, 7, none⟩ (.int .i64 0)) = WF at *
        obtain ⟨b0, b1, b2, b3, b4, b5, b6, b7⟩ := eight HXF.out
        try simp only [Exit.inBlock, Exit.then]
        refine bodyPost_ret (v := .tuple #[.agg #[.int .i64 0, .int .i64 0, .int .i64 0, .int .i64 0, .int .i64 0, .int .i64 0, .int .i64 0, .int .i64 0], .int .i64 1]) (by simp [results, Try.results13, go_sem, b0, b1, b2, b3, b4, b5, b6, b7]) rfl ?_
        exact ⟨rfl, by first | exact HBF.out | (rw [hp]; exact HBF.out)⟩
      · go_wp2_with (go_at_call 21; refine (Ce.rgood_any _ _).mono ?_; rintro e w' ⟨rfl, hw⟩; rw [hw]; clear hw w')
        go_round
        case rel => exact ⟨k + 1, by omega, by go_num, Ce.allG_more f k hg.out gk⟩
        case measure => simp [intOf]; omega
    · have hkk : k = 6 := by omega
      subst hkk
      exact absurd hg.out (by rw [HA.out]; decide)
set_option maxHeartbeats 4000000 in
theorem rset_o1 (bi al pr de cp cn : Int) (w : World) (bi0 : 0 ≤ bi) (bi1 : bi ≤ 10000000000000) (al0 : 0 ≤ al) (al1 : al ≤ 10000000000000) (pr0 : 0 ≤ pr) (pr1 : pr ≤ 10000000000000) (de0 : 0 ≤ de) (de1 : de ≤ 10000000000000) (cp0 : 0 ≤ cp) (cp1 : cp ≤ 10000000000000) (cn0 : 0 ≤ cn) (cn1 : cn ≤ 10000000000000) (hAll : [bi, al, pr, de, cp, cn].all Ce.good = true) (h1 : bi < al) :
    Calls Try.prog 13 #[.int .i64 bi, .int .i64 al, .int .i64 pr, .int .i64 de, .int .i64 cp, .int .i64 cn] w fun e w' => e = .returned (.tuple #[.agg #[.int .i64 0, .int .i64 0, .int .i64 0, .int .i64 0, .int .i64 0, .int .i64 0, .int .i64 0, .int .i64 0], .int .i64 3]) ∧ Below w.heap.size w w' := by
  have HRW := Lib.hid (alloc_two w #[.int .i64 0, .int .i64 0, .int .i64 0, .int .i64 0, .int .i64 0, .int .i64 0, .int .i64 0, .int .i64 0] (ints [bi, al, pr, de, cp, cn]).toArray 31 2)
  have HX0 := Lib.hid (keepB (alloc_new w #[.int .i64 0, .int .i64 0, .int .i64 0, .int .i64 0, .int .i64 0, .int .i64 0, .int .i64 0, .int .i64 0] 31) (below_alloc (w.alloc (.cells #[.int .i64 0, .int .i64 0, .int .i64 0, .int .i64 0, .int .i64 0, .int .i64 0, .int .i64 0, .int .i64 0] 31)) (.cells #[.int .i64 bi, .int .i64 al, .int .i64 pr, .int .i64 de, .int .i64 cp, .int .i64 cn] 2)))
  have HB0 := Lib.hid (below_trans (below_alloc w (.cells #[.int .i64 0, .int .i64 0, .int .i64 0, .int .i64 0, .int .i64 0, .int .i64 0, .int .i64 0, .int .i64 0] 31)) (below_alloc (w.alloc (.cells #[.int .i64 0, .int .i64 0, .int .i64 0, .int .i64 0, .int .i64 0, .int .i64 0, .int .i64 0, .int .i64 0] 31)) (.cells #[.int .i64 bi, .int .i64 al, .int .i64 pr, .int .i64 de, .int .i64 cp, .int .i64 cn] 2)))
  have HP0 : Hid (w.heap.size < ((w.alloc (.cells #[.int .i64 0, .int .i64 0, .int .i64 0, .int .i64 0, .int .i64 0, .int .i64 0, .int .i64 0, .int .i64 0] 31)).alloc (.cells #[.int .i64 bi, .int .i64 al, .int .i64 pr, .int .i64 de, .int .i64 cp, .int .i64 cn] 2)).heap.size) := lt_of_block HX0.out
  have HA : Hid (Ce.allG (fun i => [bi, al, pr, de, cp, cn].getD i 0) 6 = true) := by
    show _ = _
    rw [allG_list [bi, al, pr, de, cp, cn] 6 (by simp)]
    exact hAll
  clear hAll
  go_enter Try.func13, Try.ntmps13
  go_upto_region 2 with fail
  have HRW' : Hid (((w.alloc (.cells #[.int .i64 0, .int .i64 0, .int .i64 0, .int .i64 0, .int .i64 0, .int .i64 0, .int .i64 0, .int .i64 0] 31)).alloc (.cells #[.int .i64 bi, .int .i64 al, .int .i64 pr, .int .i64 de, .int .i64 cp, .int .i64 cn] 2)).heap[w.heap.size + 1]? = some (.cells (ints [bi, al, pr, de, cp, cn]).toArray 2 (0, 0))) := HRW.out
  clear HRW
  generalize ((w.alloc (.cells #[.int .i64 0, .int .i64 0, .int .i64 0, .int .i64 0, .int .i64 0, .int .i64 0, .int .i64 0, .int .i64 0] 31)).alloc (.cells #[.int .i64 bi, .int .i64 al, .int .i64 pr, .int .i64 de, .int .i64 cp, .int .i64 cn] 2)) = W0 at *
  generalize hp : w.heap.size = p at *
  generalize hf : (fun i => [bi, al, pr, de, cp, cn].getD i 0) = f at *
  have HC : Hid (∀ k, k < 6 → W0.cell? ⟨p + 1, k, none⟩ = some (.int .i64 (f k))) := fun k hk => by rw [← hf]; exact ints_at HRW'.out k (by simpa using hk)
  clear hf HRW'
  go_wp2_with fail
  go_loop [15] (fun i => ∃ k : Nat, k ≤ 6 ∧ i = .int .i64 k ∧ Hid (Ce.allG f k = true)) (fun i => 6 - (intOf i).toNat)
  case atStart => exact ⟨0, Nat.zero_le _, rfl, rfl⟩
  case round =>
    obtain ⟨k, hk, rfl, hg⟩ := hrel
    by_cases hlt : k < 6
    · have hcell := HC.out k hlt
      cases gk : Ce.good (f k)
      · exact absurd (Ce.allG_not f 6 k hlt gk) (by rw [HA.out]; decide)
      · go_wp2_with (go_at_call 21; refine (Ce.rgood_any _ _).mono ?_; rintro e w' ⟨rfl, hw⟩; rw [hw]; clear hw w')
        go_round
        case rel => exact ⟨k + 1, by omega, by go_num, Ce.allG_more f k hg.out gk⟩
        case measure => simp [intOf]; omega
    · have hkk : k = 6 := by omega
      subst hkk
      clear hlt hk
      obtain ⟨b0, b1, b2, b3, b4, b5, b6, b7⟩ := eight HX0.out
      obtain ⟨f0, f1, f2, f3, f4, f5, f6, f7⟩ := frz HX0.out
      go_wp2
      clear b0 b1 b2 b3 b4 b5 b6 b7 f0 f1 f2 f3 f4 f5 f6 f7
      have HXF : Hid (((((((((W0.setCell ⟨p, 0, none⟩ (.int .i64 0)).setCell ⟨p, 1, none⟩ (.int .i64 0)).setCell ⟨p, 2, none⟩ (.int .i64 0)).setCell ⟨p, 3, none⟩ (.int .i64 0)).setCell ⟨p, 4, none⟩ (.int .i64 0)).setCell ⟨p, 5, none⟩ (.int .i64 0)).setCell ⟨p, 6, none⟩ (.int .i64 0)).setCell ⟨p, 7, none⟩ (.int .i64 0)).heap[p]? = some (.cells #[.int .i64 0, .int .i64 0, .int .i64 0, .int .i64 0, .int .i64 0, .int .i64 0, .int .i64 0, .int .i64 0] 31 (0, 0))) := put8_heap HX0.out
      have HBF : Hid (Below p w ((((((((W0.setCell ⟨p, 0, none⟩ (.int .i64 0)).setCell ⟨p, 1, none⟩ (.int .i64 0)).setCell ⟨p, 2, none⟩ (.int .i64 0)).setCell ⟨p, 3, none⟩ (.int .i64 0)).setCell ⟨p, 4, none⟩ (.int .i64 0)).setCell ⟨p, 5, none⟩ (.int .i64 0)).setCell ⟨p, 6, none⟩ (.int .i64 0)).setCell ⟨p, 7, none⟩ (.int .i64 0))) := put8_below HB0.out p (Nat.le_refl _) _ _ _ _ _ _ _ _
      generalize ((((((((W0.setCell ⟨p, 0, none⟩ (.int .i64 0)).setCell ⟨p, 1, none⟩ (.int .i64 0)).setCell ⟨p, 2, none⟩ (.int .i64 0)).setCell ⟨p, 3, none⟩ (.int .i64 0)).setCell ⟨p, 4, none⟩ (.int .i64 0)).setCell ⟨p, 5, none⟩ (.int .i64 0)).setCell ⟨p, 6, none⟩ (.int .i64 0)).setCell ⟨p, 7, none⟩ (.int .i64 0)) = WF at *
      obtain ⟨b0, b1, b2, b3, b4, b5, b6, b7⟩ := eight HXF.out
      try simp only [Exit.inBlock, Exit.then]
      refine bodyPost_ret (v := .tuple #[.agg #[.int .i64 0, .int .i64 0, .int .i64 0, .int .i64 0, .int .i64 0, .int .i64 0, .int .i64 0, .int .i64 0], .int .i64 3]) (by simp [results, Try.results13, go_sem, b0, b1, b2, b3, b4, b5, b6, b7]) rfl ?_
      exact ⟨rfl, by first | exact HBF.out | (rw [hp]; exact HBF.out)⟩
set_option maxHeartbeats 4000000 in
theorem rset_o2 (bi al pr de cp cn : Int) (w : World) (bi0 : 0 ≤ bi) (bi1 : bi ≤ 10000000000000) (al0 : 0 ≤ al) (al1 : al ≤ 10000000000000) (pr0 : 0 ≤ pr) (pr1 : pr ≤ 10000000000000) (de0 : 0 ≤ de) (de1 : de ≤ 10000000000000) (cp0 : 0 ≤ cp) (cp1 : cp ≤ 10000000000000) (cn0 : 0 ≤ cn) (cn1 : cn ≤ 10000000000000) (hAll : [bi, al, pr, de, cp, cn].all Ce.good = true) (h1 : ¬ bi < al) (h2 : bi < pr) :
    Calls Try.prog 13 #[.int .i64 bi, .int .i64 al, .int .i64 pr, .int .i64 de, .int .i64 cp, .int .i64 cn] w fun e w' => e = .returned (.tuple #[.agg #[.int .i64 0, .int .i64 0, .int .i64 0, .int .i64 0, .int .i64 0, .int .i64 0, .int .i64 0, .int .i64 0], .int .i64 3]) ∧ Below w.heap.size w w' := by
  have HRW := Lib.hid (alloc_two w #[.int .i64 0, .int .i64 0, .int .i64 0, .int .i64 0, .int .i64 0, .int .i64 0, .int .i64 0, .int .i64 0] (ints [bi, al, pr, de, cp, cn]).toArray 31 2)
  have HX0 := Lib.hid (keepB (alloc_new w #[.int .i64 0, .int .i64 0, .int .i64 0, .int .i64 0, .int .i64 0, .int .i64 0, .int .i64 0, .int .i64 0] 31) (below_alloc (w.alloc (.cells #[.int .i64 0, .int .i64 0, .int .i64 0, .int .i64 0, .int .i64 0, .int .i64 0, .int .i64 0, .int .i64 0] 31)) (.cells #[.int .i64 bi, .int .i64 al, .int .i64 pr, .int .i64 de, .int .i64 cp, .int .i64 cn] 2)))
  have HB0 := Lib.hid (below_trans (below_alloc w (.cells #[.int .i64 0, .int .i64 0, .int .i64 0, .int .i64 0, .int .i64 0, .int .i64 0, .int .i64 0, .int .i64 0] 31)) (below_alloc (w.alloc (.cells #[.int .i64 0, .int .i64 0, .int .i64 0, .int .i64 0, .int .i64 0, .int .i64 0, .int .i64 0, .int .i64 0] 31)) (.cells #[.int .i64 bi, .int .i64 al, .int .i64 pr, .int .i64 de, .int .i64 cp, .int .i64 cn] 2)))
  have HP0 : Hid (w.heap.size < ((w.alloc (.cells #[.int .i64 0, .int .i64 0, .int .i64 0, .int .i64 0, .int .i64 0, .int .i64 0, .int .i64 0, .int .i64 0] 31)).alloc (.cells #[.int .i64 bi, .int .i64 al, .int .i64 pr, .int .i64 de, .int .i64 cp, .int .i64 cn] 2)).heap.size) := lt_of_block HX0.out
  have HA : Hid (Ce.allG (fun i => [bi, al, pr, de, cp, cn].getD i 0) 6 = true) := by
    show _ = _
    rw [allG_list [bi, al, pr, de, cp, cn] 6 (by simp)]
    exact hAll
  clear hAll
  go_enter Try.func13, Try.ntmps13
  go_upto_region 2 with fail
  have HRW' : Hid (((w.alloc (.cells #[.int .i64 0, .int .i64 0, .int .i64 0, .int .i64 0, .int .i64 0, .int .i64 0, .int .i64 0, .int .i64 0] 31)).alloc (.cells #[.int .i64 bi, .int .i64 al, .int .i64 pr, .int .i64 de, .int .i64 cp, .int .i64 cn] 2)).heap[w.heap.size + 1]? = some (.cells (ints [bi, al, pr, de, cp, cn]).toArray 2 (0, 0))) := HRW.out
  clear HRW
  generalize ((w.alloc (.cells #[.int .i64 0, .int .i64 0, .int .i64 0, .int .i64 0, .int .i64 0, .int .i64 0, .int .i64 0, .int .i64 0] 31)).alloc (.cells #[.int .i64 bi, .int .i64 al, .int .i64 pr, .int .i64 de, .int .i64 cp, .int .i64 cn] 2)) = W0 at *
  generalize hp : w.heap.size = p at *
  generalize hf : (fun i => [bi, al, pr, de, cp, cn].getD i 0) = f at *
  have HC : Hid (∀ k, k < 6 → W0.cell? ⟨p + 1, k, none⟩ = some (.int .i64 (f k))) := fun k hk => by rw [← hf]; exact ints_at HRW'.out k (by simpa using hk)
  clear hf HRW'
  go_wp2_with fail
  go_loop [15] (fun i => ∃ k : Nat, k ≤ 6 ∧ i = .int .i64 k ∧ Hid (Ce.allG f k = true)) (fun i => 6 - (intOf i).toNat)
  case atStart => exact ⟨0, Nat.zero_le _, rfl, rfl⟩
  case round =>
    obtain ⟨k, hk, rfl, hg⟩ := hrel
    by_cases hlt : k < 6
    · have hcell := HC.out k hlt
      cases gk : Ce.good (f k)
      · exact absurd (Ce.allG_not f 6 k hlt gk) (by rw [HA.out]; decide)
      · go_wp2_with (go_at_call 21; refine (Ce.rgood_any _ _).mono ?_; rintro e w' ⟨rfl, hw⟩; rw [hw]; clear hw w')
        go_round
        case rel => exact ⟨k + 1, by omega, by go_num, Ce.allG_more f k hg.out gk⟩
        case measure => simp [intOf]; omega
    · have hkk : k = 6 := by omega
      subst hkk
      clear hlt hk
      obtain ⟨b0, b1, b2, b3, b4, b5, b6, b7⟩ := eight HX0.out
      obtain ⟨f0, f1, f2, f3, f4, f5, f6, f7⟩ := frz HX0.out
      go_wp2
      clear b0 b1 b2 b3 b4 b5 b6 b7 f0 f1 f2 f3 f4 f5 f6 f7
      have HXF : Hid (((((((((W0.setCell ⟨p, 0, none⟩ (.int .i64 0)).setCell ⟨p, 1, none⟩ (.int .i64 0)).setCell ⟨p, 2, none⟩ (.int .i64 0)).setCell ⟨p, 3, none⟩ (.int .i64 0)).setCell ⟨p, 4, none⟩ (.int .i64 0)).setCell ⟨p, 5, none⟩ (.int .i64 0)).setCell ⟨p, 6, none⟩ (.int .i64 0)).setCell ⟨p, 7, none⟩ (.int .i64 0)).heap[p]? = some (.cells #[.int .i64 0, .int .i64 0, .int .i64 0, .int .i64 0, .int .i64 0, .int .i64 0, .int .i64 0, .int .i64 0] 31 (0, 0))) := put8_heap HX0.out
      have HBF : Hid (Below p w ((((((((W0.setCell ⟨p, 0, none⟩ (.int .i64 0)).setCell ⟨p, 1, none⟩ (.int .i64 0)).setCell ⟨p, 2, none⟩ (.int .i64 0)).setCell ⟨p, 3, none⟩ (.int .i64 0)).setCell ⟨p, 4, none⟩ (.int .i64 0)).setCell ⟨p, 5, none⟩ (.int .i64 0)).setCell ⟨p, 6, none⟩ (.int .i64 0)).setCell ⟨p, 7, none⟩ (.int .i64 0))) := put8_below HB0.out p (Nat.le_refl _) _ _ _ _ _ _ _ _
      generalize ((((((((W0.setCell ⟨p, 0, none⟩ (.int .i64 0)).setCell ⟨p, 1, none⟩ (.int .i64 0)).setCell ⟨p, 2, none⟩ (.int .i64 0)).setCell ⟨p, 3, none⟩ (.int .i64 0)).setCell ⟨p, 4, none⟩ (.int .i64 0)).setCell ⟨p, 5, none⟩ (.int .i64 0)).setCell ⟨p, 6, none⟩ (.int .i64 0)).setCell ⟨p, 7, none⟩ (.int .i64 0)) = WF at *
      obtain ⟨b0, b1, b2, b3, b4, b5, b6, b7⟩ := eight HXF.out
      try simp only [Exit.inBlock, Exit.then]
      refine bodyPost_ret (v := .tuple #[.agg #[.int .i64 0, .int .i64 0, .int .i64 0, .int .i64 0, .int .i64 0, .int .i64 0, .int .i64 0, .int .i64 0], .int .i64 3]) (by simp [results, Try.results13, go_sem, b0, b1, b2, b3, b4, b5, b6, b7]) rfl ?_
      exact ⟨rfl, by first | exact HBF.out | (rw [hp]; exact HBF.out)⟩
set_option maxHeartbeats 4000000 in
theorem rset_o3 (bi al pr de cp cn : Int) (w : World) (bi0 : 0 ≤ bi) (bi1 : bi ≤ 10000000000000) (al0 : 0 ≤ al) (al1 : al ≤ 10000000000000) (pr0 : 0 ≤ pr) (pr1 : pr ≤ 10000000000000) (de0 : 0 ≤ de) (de1 : de ≤ 10000000000000) (cp0 : 0 ≤ cp) (cp1 : cp ≤ 10000000000000) (cn0 : 0 ≤ cn) (cn1 : cn ≤ 10000000000000) (hAll : [bi, al, pr, de, cp, cn].all Ce.good = true) (h1 : ¬ bi < al) (h2 : ¬ bi < pr) (h3 : al < de + cp + cn) :
    Calls Try.prog 13 #[.int .i64 bi, .int .i64 al, .int .i64 pr, .int .i64 de, .int .i64 cp, .int .i64 cn] w fun e w' => e = .returned (.tuple #[.agg #[.int .i64 0, .int .i64 0, .int .i64 0, .int .i64 0, .int .i64 0, .int .i64 0, .int .i64 0, .int .i64 0], .int .i64 3]) ∧ Below w.heap.size w w' := by
  have HRW := Lib.hid (alloc_two w #[.int .i64 0, .int .i64 0, .int .i64 0, .int .i64 0, .int .i64 0, .int .i64 0, .int .i64 0, .int .i64 0] (ints [bi, al, pr, de, cp, cn]).toArray 31 2)
  have HX0 := Lib.hid (keepB (alloc_new w #[.int .i64 0, .int .i64 0, .int .i64 0, .int .i64 0, .int .i64 0, .int .i64 0, .int .i64 0, .int .i64 0] 31) (below_alloc (w.alloc (.cells #[.int .i64 0, .int .i64 0, .int .i64 0, .int .i64 0, .int .i64 0, .int .i64 0, .int .i64 0, .int .i64 0] 31)) (.cells #[.int .i64 bi, .int .i64 al, .int .i64 pr, .int .i64 de, .int .i64 cp, .int .i64 cn] 2)))
  have HB0 := Lib.hid (below_trans (below_alloc w (.cells #[.int .i64 0, .int .i64 0, .int .i64 0, .int .i64 0, .int .i64 0, .int .i64 0, .int .i64 0, .int .i64 0] 31)) (below_alloc (w.alloc (.cells #[.int .i64 0, .int .i64 0, .int .i64 0, .int .i64 0, .int .i64 0, .int .i64 0, .int .i64 0, .int .i64 0] 31)) (.cells #[.int .i64 bi, .int .i64 al, .int .i64 pr, .int .i64 de, .int .i64 cp, .int .i64 cn] 2)))
  have HP0 : Hid (w.heap.size < ((w.alloc (.cells #[.int .i64 0, .int .i64 0, .int .i64 0, .int .i64 0, .int .i64 0, .int .i64 0, .int .i64 0, .int .i64 0] 31)).alloc (.cells #[.int .i64 bi, .int .i64 al, .int .i64 pr, .int .i64 de, .int .i64 cp, .int .i64 cn] 2)).heap.size) := lt_of_block HX0.out
  have HA : Hid (Ce.allG (fun i => [bi, al, pr, de, cp, cn].getD i 0) 6 = true) := by
    show _ = _
    rw [allG_list [bi, al, pr, de, cp, cn] 6 (by simp)]
    exact hAll
  clear hAll
  go_enter Try.func13, Try.ntmps13
  go_upto_region 2 with fail
  have HRW' : Hid (((w.alloc (.cells #[.int .i64 0, .int .i64 0, .int .i64 0, .int .i64 0, .int .i64 0, .int .i64 0, .int .i64 0, .int .i64 0] 31)).alloc (.cells #[.int .i64 bi, .int .i64 al, .int .i64 pr, .int .i64 de, .int .i64 cp, .int .i64 cn] 2)).heap[w.heap.size + 1]? = some (.cells (ints [bi, al, pr, de, cp, cn]).toArray 2 (0, 0))) := HRW.out
  clear HRW
  generalize ((w.alloc (.cells #[.int .i64 0, .int .i64 0, .int .i64 0, .int .i64 0, .int .i64 0, .int .i64 0, .int .i64 0, .int .i64 0] 31)).alloc (.cells #[.int .i64 bi, .int .i64 al, .int .i64 pr, .int .i64 de, .int .i64 cp, .int .i64 cn] 2)) = W0 at *
  generalize hp : w.heap.size = p at *
  generalize hf : (fun i => [bi, al, pr, de, cp, cn].getD i 0) = f at *
  have HC : Hid (∀ k, k < 6 → W0.cell? ⟨p + 1, k, none⟩ = some (.int .i64 (f k))) := fun k hk => by rw [← hf]; exact ints_at HRW'.out k (by simpa using hk)
  clear hf HRW'
  go_wp2_with fail
  go_loop [15] (fun i => ∃ k : Nat, k ≤ 6 ∧ i = .int .i64 k ∧ Hid (Ce.allG f k = true)) (fun i => 6 - (intOf i).toNat)
  case atStart => exact ⟨0, Nat.zero_le _, rfl, rfl⟩
  case round =>
    obtain ⟨k, hk, rfl, hg⟩ := hrel
    by_cases hlt : k < 6
    · have hcell := HC.out k hlt
      cases gk : Ce.good (f k)
      · exact absurd (Ce.allG_not f 6 k hlt gk) (by rw [HA.out]; decide)
      · go_wp2_with (go_at_call 21; refine (Ce.rgood_any _ _).mono ?_; rintro e w' ⟨rfl, hw⟩; rw [hw]; clear hw w')
        go_round
        case rel => exact ⟨k + 1, by omega, by go_num, Ce.allG_more f k hg.out gk⟩
        case measure => simp [intOf]; omega
    · have hkk : k = 6 := by omega
      subst hkk
      clear hlt hk
      obtain ⟨b0, b1, b2, b3, b4, b5, b6, b7⟩ := eight HX0.out
      obtain ⟨f0, f1, f2, f3, f4, f5, f6, f7⟩ := frz HX0.out
      go_wp2
      clear b0 b1 b2 b3 b4 b5 b6 b7 f0 f1 f2 f3 f4 f5 f6 f7
      have HXF : Hid (((((((((W0.setCell ⟨p, 0, none⟩ (.int .i64 0)).setCell ⟨p, 1, none⟩ (.int .i64 0)).setCell ⟨p, 2, none⟩ (.int .i64 0)).setCell ⟨p, 3, none⟩ (.int .i64 0)).setCell ⟨p, 4, none⟩ (.int .i64 0)).setCell ⟨p, 5, none⟩ (.int .i64 0)).setCell ⟨p, 6, none⟩ (.int .i64 0)).setCell ⟨p, 7, none⟩ (.int .i64 0)).heap[p]? = some (.cells #[.int .i64 0, .int .i64 0, .int .i64 0, .int .i64 0, .int .i64 0, .int .i64 0, .int .i64 0, .int .i64 0] 31 (0, 0))) := put8_heap HX0.out
      have HBF : Hid (Below p w ((((((((W0.setCell ⟨p, 0, none⟩ (.int .i64 0)).setCell ⟨p, 1, none⟩ (.int .i64 0)).setCell ⟨p, 2, none⟩ (.int .i64 0)).setCell ⟨p, 3, none⟩ (.int .i64 0)).setCell ⟨p, 4, none⟩ (.int .i64 0)).setCell ⟨p, 5, none⟩ (.int .i64 0)).setCell ⟨p, 6, none⟩ (.int .i64 0)).setCell ⟨p, 7, none⟩ (.int .i64 0))) := put8_below HB0.out p (Nat.le_refl _) _ _ _ _ _ _ _ _
      generalize ((((((((W0.setCell ⟨p, 0, none⟩ (.int .i64 0)).setCell ⟨p, 1, none⟩ (.int .i64 0)).setCell ⟨p, 2, none⟩ (.int .i64 0)).setCell ⟨p, 3, none⟩ (.int .i64 0)).setCell ⟨p, 4, none⟩ (.int .i64 0)).setCell ⟨p, 5, none⟩ (.int .i64 0)).setCell ⟨p, 6, none⟩ (.int .i64 0)).setCell ⟨p, 7, none⟩ (.int .i64 0)) = WF at *
      obtain ⟨b0, b1, b2, b3, b4, b5, b6, b7⟩ := eight HXF.out
      try simp only [Exit.inBlock, Exit.then]
      refine bodyPost_ret (v := .tuple #[.agg #[.int .i64 0, .int .i64 0, .int .i64 0, .int .i64 0, .int .i64 0, .int .i64 0, .int .i64 0, .int .i64 0], .int .i64 3]) (by simp [results, Try.results13, go_sem, b0, b1, b2, b3, b4, b5, b6, b7]) rfl ?_
      exact ⟨rfl, by first | exact HBF.out | (rw [hp]; exact HBF.out)⟩
end Go.Proofs.Ytgbfckjmbmmgpaa.Sh
