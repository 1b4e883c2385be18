/-
  Texts put together (merge.py): PWs.
-/
import Derived.Test.YtfkhehkfeibdpaaGreatDoorMc33
import Derived.Test.YtfkhehkfeibdpaaGreatDoorMc22
/-
  What the writer's set and head do, as contracts.
-/
section
set_option linter.unusedSimpArgs false
set_option linter.unusedVariables false
set_option maxRecDepth 100000
namespace Go.Proofs.YtfkhehkfeibdpaaGreatDoor.Pl
open Go.RowKit
open Wo (Wd WdsAt box_cell box_two keepB heap_far)

theorem yes_any (n : Int) (h0 : 0 ≤ n) (h1 : n ≤ 1) (w : World) :
    Calls Tryz.prog 64 #[.int .i64 n] w fun e w' => e = .returned (.string (mk (yesW n))) ∧ w' = w := by
  obtain rfl | rfl : n = 0 ∨ n = 1 := by omega
  · go_enter Tryz.func64, Tryz.ntmps64
    go_wp2
    go_ret
    exact ⟨rfl, rfl⟩
  · go_enter Tryz.func64, Tryz.ntmps64
    go_wp2
    go_ret
    exact ⟨rfl, rfl⟩
set_option maxHeartbeats 8000000 in
theorem ws_set1 (q : Nat) (ws : List Tx) (w : World) (h : WrAt q ws w) (hT : TabQ q w) (n : Int) (hn1 : 0 ≤ n) (hn2 : n ≤ 1) (hsz : szW ws + szW [tCover, yesW n] ≤ 65537) :
    Calls Tryz.prog 40 #[.pointer (some ⟨q, 0, none⟩), .agg #[.int .i64 1, .int .i64 n]] w fun e w' => DN q (ws ++ [tCover, yesW n]) w e w' := by
  have hq := h.lt
  have hb0 := below_alloc w (.cells #[.int .i64 1, .int .i64 n] 67)
  have HW0 := Lib.hid (h.grw hb0)
  have HK0 := Lib.hid (KeptW.of hb0 hq)
  have HT0 := Lib.hid (hT.kept (hb0.mono (Nat.le_of_lt hq)))
  have HB0 := Lib.hid (heap_alloc_new w (.cells #[.int .i64 1, .int .i64 n] 67))
  obtain ⟨x0, x1, -, -⟩ := box_two HB0.out
  have HI : Hid (∀ W, Nu.Tab W → Calls Tryz.prog 64 #[.int .i64 n] W fun e w' => e = .returned (.string (mk (yesW n))) ∧ Below W.heap.size W w') := fun W _ => (yes_any n hn1 hn2 W).mono fun _ _ ⟨a, b⟩ => ⟨a, by rw [b]; exact Below.refl _ _⟩
  generalize yesW n = t at *
  clear h hb0 hT
  go_enter Tryz.func40, Tryz.ntmps40
  go_upto_region 1 with fail
  generalize w.alloc (.cells #[.int .i64 1, .int .i64 n] 67) = W0 at *
  generalize w.heap.size = p0 at *
  go_wp2_with fail
  go_at_call 64
  refine (HI.out W0 HT0.out.1).mono ?_
  rintro e w1 ⟨rfl, hb1⟩
  have HW1 := Lib.hid (HW0.out.grw hb1)
  have HK1 := Lib.hid (HK0.out.trans (KeptW.of hb1 HW0.out.lt))
  clear hb1
  go_wp2_with fail
  go_at_call 36
  refine (add2 q ws tCover t w1 HW1.out hsz).mono ?_
  rintro e w2 ⟨rfl, h1, h2⟩
  have H1 := Lib.hid h1
  have H2 := Lib.hid (HK1.out.trans h2)
  clear h1 h2
  go_wp2
  go_end0
  exact ⟨rfl, H1.out, H2.out⟩
set_option maxHeartbeats 8000000 in
theorem ws_set2 (q : Nat) (ws : List Tx) (w : World) (h : WrAt q ws w) (hT : TabQ q w) (n : Int) (hn1 : 0 ≤ n) (hn2 : n ≤ 1) (hsz : szW ws + szW [tDed, yesW n] ≤ 65537) :
    Calls Tryz.prog 40 #[.pointer (some ⟨q, 0, none⟩), .agg #[.int .i64 2, .int .i64 n]] w fun e w' => DN q (ws ++ [tDed, yesW n]) w e w' := by
  have hq := h.lt
  have hb0 := below_alloc w (.cells #[.int .i64 2, .int .i64 n] 67)
  have HW0 := Lib.hid (h.grw hb0)
  have HK0 := Lib.hid (KeptW.of hb0 hq)
  have HT0 := Lib.hid (hT.kept (hb0.mono (Nat.le_of_lt hq)))
  have HB0 := Lib.hid (heap_alloc_new w (.cells #[.int .i64 2, .int .i64 n] 67))
  obtain ⟨x0, x1, -, -⟩ := box_two HB0.out
  have HI : Hid (∀ W, Nu.Tab W → Calls Tryz.prog 64 #[.int .i64 n] W fun e w' => e = .returned (.string (mk (yesW n))) ∧ Below W.heap.size W w') := fun W _ => (yes_any n hn1 hn2 W).mono fun _ _ ⟨a, b⟩ => ⟨a, by rw [b]; exact Below.refl _ _⟩
  generalize yesW n = t at *
  clear h hb0 hT
  go_enter Tryz.func40, Tryz.ntmps40
  go_upto_region 1 with fail
  generalize w.alloc (.cells #[.int .i64 2, .int .i64 n] 67) = W0 at *
  generalize w.heap.size = p0 at *
  go_wp2_with fail
  go_at_call 64
  refine (HI.out W0 HT0.out.1).mono ?_
  rintro e w1 ⟨rfl, hb1⟩
  have HW1 := Lib.hid (HW0.out.grw hb1)
  have HK1 := Lib.hid (HK0.out.trans (KeptW.of hb1 HW0.out.lt))
  clear hb1
  go_wp2_with fail
  go_at_call 36
  refine (add2 q ws tDed t w1 HW1.out hsz).mono ?_
  rintro e w2 ⟨rfl, h1, h2⟩
  have H1 := Lib.hid h1
  have H2 := Lib.hid (HK1.out.trans h2)
  clear h1 h2
  go_wp2
  go_end0
  exact ⟨rfl, H1.out, H2.out⟩
set_option maxHeartbeats 8000000 in
theorem ws_set3 (q : Nat) (ws : List Tx) (w : World) (h : WrAt q ws w) (hT : TabQ q w) (n : Int) (hn1 : -9223372036854775808 ≤ n) (hn2 : n ≤ 9223372036854775807) (hsz : szW ws + szW [tCopay, Nu.moneyL n] ≤ 65537) :
    Calls Tryz.prog 40 #[.pointer (some ⟨q, 0, none⟩), .agg #[.int .i64 3, .int .i64 n]] w fun e w' => DN q (ws ++ [tCopay, Nu.moneyL n]) w e w' := by
  have hq := h.lt
  have hb0 := below_alloc w (.cells #[.int .i64 3, .int .i64 n] 67)
  have HW0 := Lib.hid (h.grw hb0)
  have HK0 := Lib.hid (KeptW.of hb0 hq)
  have HT0 := Lib.hid (hT.kept (hb0.mono (Nat.le_of_lt hq)))
  have HB0 := Lib.hid (heap_alloc_new w (.cells #[.int .i64 3, .int .i64 n] 67))
  obtain ⟨x0, x1, -, -⟩ := box_two HB0.out
  have HI : Hid (∀ W, Nu.Tab W → Calls Tryz.prog 37 #[.int .i64 n] W fun e w' => e = .returned (.string (mk (Nu.moneyL n))) ∧ Below W.heap.size W w') := fun W hW => Nu.money_any n hn1 hn2 W hW
  generalize Nu.moneyL n = t at *
  clear h hb0 hT
  go_enter Tryz.func40, Tryz.ntmps40
  go_upto_region 1 with fail
  generalize w.alloc (.cells #[.int .i64 3, .int .i64 n] 67) = W0 at *
  generalize w.heap.size = p0 at *
  go_wp2_with fail
  go_at_call 37
  refine (HI.out W0 HT0.out.1).mono ?_
  rintro e w1 ⟨rfl, hb1⟩
  have HW1 := Lib.hid (HW0.out.grw hb1)
  have HK1 := Lib.hid (HK0.out.trans (KeptW.of hb1 HW0.out.lt))
  clear hb1
  go_wp2_with fail
  go_at_call 36
  refine (add2 q ws tCopay t w1 HW1.out hsz).mono ?_
  rintro e w2 ⟨rfl, h1, h2⟩
  have H1 := Lib.hid h1
  have H2 := Lib.hid (HK1.out.trans h2)
  clear h1 h2
  go_wp2
  go_end0
  exact ⟨rfl, H1.out, H2.out⟩
set_option maxHeartbeats 8000000 in
theorem ws_set4 (q : Nat) (ws : List Tx) (w : World) (h : WrAt q ws w) (hT : TabQ q w) (n : Int) (hn1 : -9223372036854775808 ≤ n) (hn2 : n ≤ 9223372036854775807) (hsz : szW ws + szW [tCoins, Lib.itoa n] ≤ 65537) :
    Calls Tryz.prog 40 #[.pointer (some ⟨q, 0, none⟩), .agg #[.int .i64 4, .int .i64 n]] w fun e w' => DN q (ws ++ [tCoins, Lib.itoa n]) w e w' := by
  have hq := h.lt
  have hb0 := below_alloc w (.cells #[.int .i64 4, .int .i64 n] 67)
  have HW0 := Lib.hid (h.grw hb0)
  have HK0 := Lib.hid (KeptW.of hb0 hq)
  have HT0 := Lib.hid (hT.kept (hb0.mono (Nat.le_of_lt hq)))
  have HB0 := Lib.hid (heap_alloc_new w (.cells #[.int .i64 4, .int .i64 n] 67))
  obtain ⟨x0, x1, -, -⟩ := box_two HB0.out
  have HI : Hid (∀ W, Nu.Tab W → Calls Tryz.prog 38 #[.int .i64 n] W fun e w' => e = .returned (.string (mk (Lib.itoa n))) ∧ Below W.heap.size W w') := fun W hW => Nu.int_any n hn1 hn2 W hW
  generalize Lib.itoa n = t at *
  clear h hb0 hT
  go_enter Tryz.func40, Tryz.ntmps40
  go_upto_region 1 with fail
  generalize w.alloc (.cells #[.int .i64 4, .int .i64 n] 67) = W0 at *
  generalize w.heap.size = p0 at *
  go_wp2_with fail
  go_at_call 38
  refine (HI.out W0 HT0.out.1).mono ?_
  rintro e w1 ⟨rfl, hb1⟩
  have HW1 := Lib.hid (HW0.out.grw hb1)
  have HK1 := Lib.hid (HK0.out.trans (KeptW.of hb1 HW0.out.lt))
  clear hb1
  go_wp2_with fail
  go_at_call 36
  refine (add2 q ws tCoins t w1 HW1.out hsz).mono ?_
  rintro e w2 ⟨rfl, h1, h2⟩
  have H1 := Lib.hid h1
  have H2 := Lib.hid (HK1.out.trans h2)
  clear h1 h2
  go_wp2
  go_end0
  exact ⟨rfl, H1.out, H2.out⟩
theorem ws_set (q : Nat) (ws : List Tx) (s : St) (w : World) (h : WrAt q ws w) (hT : TabQ q w) (hs : setB s = true) (hsz : szW ws + szW (setW s) ≤ 65537) :
    Calls Tryz.prog 40 #[.pointer (some ⟨q, 0, none⟩), stv s] w fun e w' => DN q (ws ++ setW s) w e w' := by
  obtain ⟨k, n⟩ := s
  simp only [setB, Bool.and_eq_true, decide_eq_true_eq] at hs
  obtain ⟨h0, hs⟩ := hs
  by_cases h1 : k = 1
  · subst h1
    have hn : n ≤ 1 := by simpa using hs
    exact ws_set1 q ws w h hT n h0 hn hsz
  by_cases h2 : k = 2
  · subst h2
    have hn : n ≤ 1 := by simpa using hs
    exact ws_set2 q ws w h hT n h0 hn hsz
  by_cases h3 : k = 3
  · subst h3
    have hn : goodB n = true := by simpa using hs
    simp only [goodB, Bool.and_eq_true, decide_eq_true_eq] at hn
    exact ws_set3 q ws w h hT n (by omega) (by omega) hsz
  by_cases h4 : k = 4
  · subst h4
    have hn : n ≤ 10000 := by simpa using hs
    exact ws_set4 q ws w h hT n (by omega) (by omega) hsz
  · simp [h1, h2, h3, h4] at hs
end Go.Proofs.YtfkhehkfeibdpaaGreatDoor.Pl
end
