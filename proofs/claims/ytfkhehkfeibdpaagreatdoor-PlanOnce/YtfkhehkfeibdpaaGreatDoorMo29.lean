/-
  Texts put together (merge.py): PWs, PChb.
-/
import Derived.Test.YtfkhehkfeibdpaaGreatDoorMo27
import Derived.Test.YtfkhehkfeibdpaaGreatDoorMo28
/-
  What the writer's set and head do, as contracts.
-/
section
set_option linter.unusedSimpArgs false
set_option linter.unusedVariables false
set_option maxRecDepth 100000
namespace Go.Proofs.YtfkhehkfeibdpaaGreatDoor.Pl
open Go.RowKit
open Wo (Wd WdsAt box_cell box_two keepB heap_far)

theorem yes_any (n : Int) (h0 : 0 ≤ n) (h1 : n ≤ 1) (w : World) :
    Calls Tryz.prog 64 #[.int .i64 n] w fun e w' => e = .returned (.string (mk (yesW n))) ∧ w' = w := by
  obtain rfl | rfl : n = 0 ∨ n = 1 := by omega
  · go_enter Tryz.func64, Tryz.ntmps64
    go_wp2
    go_ret
    exact ⟨rfl, rfl⟩
  · go_enter Tryz.func64, Tryz.ntmps64
    go_wp2
    go_ret
    exact ⟨rfl, rfl⟩
set_option maxHeartbeats 8000000 in
theorem ws_set1 (q : Nat) (ws : List Tx) (w : World) (h : WrAt q ws w) (hT : TabQ q w) (n : Int) (hn1 : 0 ≤ n) (hn2 : n ≤ 1) (hsz : szW ws + szW [tCover, yesW n] ≤ 65537) :
    Calls Tryz.prog 40 #[.pointer (some ⟨q, 0, none⟩), .agg #[.int .i64 1, .int .i64 n]] w fun e w' => DN q (ws ++ [tCover, yesW n]) w e w' := by
  have hq := h.lt
  have hb0 := below_alloc w (.cells #[.int .i64 1, .int .i64 n] 67)
  have HW0 := Lib.hid (h.grw hb0)
  have HK0 := Lib.hid (KeptW.of hb0 hq)
  have HT0 := Lib.hid (hT.kept (hb0.mono (Nat.le_of_lt hq)))
  have HB0 := Lib.hid (heap_alloc_new w (.cells #[.int .i64 1, .int .i64 n] 67))
  obtain ⟨x0, x1, -, -⟩ := box_two HB0.out
  have HI : Hid (∀ W, Nu.Tab W → Calls Tryz.prog 64 #[.int .i64 n] W fun e w' => e = .returned (.string (mk (yesW n))) ∧ Below W.heap.size W w') := fun W _ => (yes_any n hn1 hn2 W).mono fun _ _ ⟨a, b⟩ => ⟨a, by rw [b]; exact Below.refl _ _⟩
  generalize yesW n = t at *
  clear h hb0 hT
  go_enter Tryz.func40, Tryz.ntmps40
  go_upto_region 1 with fail
  generalize w.alloc (.cells #[.int .i64 1, .int .i64 n] 67) = W0 at *
  generalize w.heap.size = p0 at *
  go_wp2_with fail
  go_at_call 64
  refine (HI.out W0 HT0.out.1).mono ?_
  rintro e w1 ⟨rfl, hb1⟩
  have HW1 := Lib.hid (HW0.out.grw hb1)
  have HK1 := Lib.hid (HK0.out.trans (KeptW.of hb1 HW0.out.lt))
  clear hb1
  go_wp2_with fail
  go_at_call 36
  refine (add2 q ws tCover t w1 HW1.out hsz).mono ?_
  rintro e w2 ⟨rfl, h1, h2⟩
  have H1 := Lib.hid h1
  have H2 := Lib.hid (HK1.out.trans h2)
  clear h1 h2
  go_wp2
  go_end0
  exact ⟨rfl, H1.out, H2.out⟩
set_option maxHeartbeats 8000000 in
theorem ws_set2 (q : Nat) (ws : List Tx) (w : World) (h : WrAt q ws w) (hT : TabQ q w) (n : Int) (hn1 : 0 ≤ n) (hn2 : n ≤ 1) (hsz : szW ws + szW [tDed, yesW n] ≤ 65537) :
    Calls Tryz.prog 40 #[.pointer (some ⟨q, 0, none⟩), .agg #[.int .i64 2, .int .i64 n]] w fun e w' => DN q (ws ++ [tDed, yesW n]) w e w' := by
  have hq := h.lt
  have hb0 := below_alloc w (.cells #[.int .i64 2, .int .i64 n] 67)
  have HW0 := Lib.hid (h.grw hb0)
  have HK0 := Lib.hid (KeptW.of hb0 hq)
  have HT0 := Lib.hid (hT.kept (hb0.mono (Nat.le_of_lt hq)))
  have HB0 := Lib.hid (heap_alloc_new w (.cells #[.int .i64 2, .int .i64 n] 67))
  obtain ⟨x0, x1, -, -⟩ := box_two HB0.out
  have HI : Hid (∀ W, Nu.Tab W → Calls Tryz.prog 64 #[.int .i64 n] W fun e w' => e = .returned (.string (mk (yesW n))) ∧ Below W.heap.size W w') := fun W _ => (yes_any n hn1 hn2 W).mono fun _ _ ⟨a, b⟩ => ⟨a, by rw [b]; exact Below.refl _ _⟩
  generalize yesW n = t at *
  clear h hb0 hT
  go_enter Tryz.func40, Tryz.ntmps40
  go_upto_region 1 with fail
  generalize w.alloc (.cells #[.int .i64 2, .int .i64 n] 67) = W0 at *
  generalize w.heap.size = p0 at *
  go_wp2_with fail
  go_at_call 64
  refine (HI.out W0 HT0.out.1).mono ?_
  rintro e w1 ⟨rfl, hb1⟩
  have HW1 := Lib.hid (HW0.out.grw hb1)
  have HK1 := Lib.hid (HK0.out.trans (KeptW.of hb1 HW0.out.lt))
  clear hb1
  go_wp2_with fail
  go_at_call 36
  refine (add2 q ws tDed t w1 HW1.out hsz).mono ?_
  rintro e w2 ⟨rfl, h1, h2⟩
  have H1 := Lib.hid h1
  have H2 := Lib.hid (HK1.out.trans h2)
  clear h1 h2
  go_wp2
  go_end0
  exact ⟨rfl, H1.out, H2.out⟩
set_option maxHeartbeats 8000000 in
theorem ws_set3 (q : Nat) (ws : List Tx) (w : World) (h : WrAt q ws w) (hT : TabQ q w) (n : Int) (hn1 : -9223372036854775808 ≤ n) (hn2 : n ≤ 9223372036854775807) (hsz : szW ws + szW [tCopay, Nu.moneyL n] ≤ 65537) :
    Calls Tryz.prog 40 #[.pointer (some ⟨q, 0, none⟩), .agg #[.int .i64 3, .int .i64 n]] w fun e w' => DN q (ws ++ [tCopay, Nu.moneyL n]) w e w' := by
  have hq := h.lt
  have hb0 := below_alloc w (.cells #[.int .i64 3, .int .i64 n] 67)
  have HW0 := Lib.hid (h.grw hb0)
  have HK0 := Lib.hid (KeptW.of hb0 hq)
  have HT0 := Lib.hid (hT.kept (hb0.mono (Nat.le_of_lt hq)))
  have HB0 := Lib.hid (heap_alloc_new w (.cells #[.int .i64 3, .int .i64 n] 67))
  obtain ⟨x0, x1, -, -⟩ := box_two HB0.out
  have HI : Hid (∀ W, Nu.Tab W → Calls Tryz.prog 37 #[.int .i64 n] W fun e w' => e = .returned (.string (mk (Nu.moneyL n))) ∧ Below W.heap.size W w') := fun W hW => Nu.money_any n hn1 hn2 W hW
  generalize Nu.moneyL n = t at *
  clear h hb0 hT
  go_enter Tryz.func40, Tryz.ntmps40
  go_upto_region 1 with fail
  generalize w.alloc (.cells #[.int .i64 3, .int .i64 n] 67) = W0 at *
  generalize w.heap.size = p0 at *
  go_wp2_with fail
  go_at_call 37
  refine (HI.out W0 HT0.out.1).mono ?_
  rintro e w1 ⟨rfl, hb1⟩
  have HW1 := Lib.hid (HW0.out.grw hb1)
  have HK1 := Lib.hid (HK0.out.trans (KeptW.of hb1 HW0.out.lt))
  clear hb1
  go_wp2_with fail
  go_at_call 36
  refine (add2 q ws tCopay t w1 HW1.out hsz).mono ?_
  rintro e w2 ⟨rfl, h1, h2⟩
  have H1 := Lib.hid h1
  have H2 := Lib.hid (HK1.out.trans h2)
  clear h1 h2
  go_wp2
  go_end0
  exact ⟨rfl, H1.out, H2.out⟩
set_option maxHeartbeats 8000000 in
theorem ws_set4 (q : Nat) (ws : List Tx) (w : World) (h : WrAt q ws w) (hT : TabQ q w) (n : Int) (hn1 : -9223372036854775808 ≤ n) (hn2 : n ≤ 9223372036854775807) (hsz : szW ws + szW [tCoins, Lib.itoa n] ≤ 65537) :
    Calls Tryz.prog 40 #[.pointer (some ⟨q, 0, none⟩), .agg #[.int .i64 4, .int .i64 n]] w fun e w' => DN q (ws ++ [tCoins, Lib.itoa n]) w e w' := by
  have hq := h.lt
  have hb0 := below_alloc w (.cells #[.int .i64 4, .int .i64 n] 67)
  have HW0 := Lib.hid (h.grw hb0)
  have HK0 := Lib.hid (KeptW.of hb0 hq)
  have HT0 := Lib.hid (hT.kept (hb0.mono (Nat.le_of_lt hq)))
  have HB0 := Lib.hid (heap_alloc_new w (.cells #[.int .i64 4, .int .i64 n] 67))
  obtain ⟨x0, x1, -, -⟩ := box_two HB0.out
  have HI : Hid (∀ W, Nu.Tab W → Calls Tryz.prog 38 #[.int .i64 n] W fun e w' => e = .returned (.string (mk (Lib.itoa n))) ∧ Below W.heap.size W w') := fun W hW => Nu.int_any n hn1 hn2 W hW
  generalize Lib.itoa n = t at *
  clear h hb0 hT
  go_enter Tryz.func40, Tryz.ntmps40
  go_upto_region 1 with fail
  generalize w.alloc (.cells #[.int .i64 4, .int .i64 n] 67) = W0 at *
  generalize w.heap.size = p0 at *
  go_wp2_with fail
  go_at_call 38
  refine (HI.out W0 HT0.out.1).mono ?_
  rintro e w1 ⟨rfl, hb1⟩
  have HW1 := Lib.hid (HW0.out.grw hb1)
  have HK1 := Lib.hid (HK0.out.trans (KeptW.of hb1 HW0.out.lt))
  clear hb1
  go_wp2_with fail
  go_at_call 36
  refine (add2 q ws tCoins t w1 HW1.out hsz).mono ?_
  rintro e w2 ⟨rfl, h1, h2⟩
  have H1 := Lib.hid h1
  have H2 := Lib.hid (HK1.out.trans h2)
  clear h1 h2
  go_wp2
  go_end0
  exact ⟨rfl, H1.out, H2.out⟩
theorem ws_set (q : Nat) (ws : List Tx) (s : St) (w : World) (h : WrAt q ws w) (hT : TabQ q w) (hs : setB s = true) (hsz : szW ws + szW (setW s) ≤ 65537) :
    Calls Tryz.prog 40 #[.pointer (some ⟨q, 0, none⟩), stv s] w fun e w' => DN q (ws ++ setW s) w e w' := by
  obtain ⟨k, n⟩ := s
  simp only [setB, Bool.and_eq_true, decide_eq_true_eq] at hs
  obtain ⟨h0, hs⟩ := hs
  by_cases h1 : k = 1
  · subst h1
    have hn : n ≤ 1 := by simpa using hs
    exact ws_set1 q ws w h hT n h0 hn hsz
  by_cases h2 : k = 2
  · subst h2
    have hn : n ≤ 1 := by simpa using hs
    exact ws_set2 q ws w h hT n h0 hn hsz
  by_cases h3 : k = 3
  · subst h3
    have hn : goodB n = true := by simpa using hs
    simp only [goodB, Bool.and_eq_true, decide_eq_true_eq] at hn
    exact ws_set3 q ws w h hT n (by omega) (by omega) hsz
  by_cases h4 : k = 4
  · subst h4
    have hn : n ≤ 10000 := by simpa using hs
    exact ws_set4 q ws w h hT n (by omega) (by omega) hsz
  · simp [h1, h2, h3, h4] at hs
end Go.Proofs.YtfkhehkfeibdpaaGreatDoor.Pl
end

/-
  What plan.limits, rule and Check answer, as contracts.
-/
section
set_option linter.unusedSimpArgs false
set_option linter.unusedVariables false
set_option maxRecDepth 100000
namespace Go.Proofs.YtfkhehkfeibdpaaGreatDoor.Pl
open Go.RowKit
open Wo (Wd WdsAt box_cell box_two keepB heap_far)

theorem bsix_ {w : World} {q : Nat} {a0 a1 a2 a3 a4 a5 : Value} {T : TypeId} (h : w.heap[q]? = some (.cells #[a0, a1, a2, a3, a4, a5] T (0, 0))) : w.cell? ⟨q, 0, none⟩ = some a0 ∧ w.cell? ⟨q, 1, none⟩ = some a1 ∧ w.cell? ⟨q, 2, none⟩ = some a2 ∧ w.cell? ⟨q, 3, none⟩ = some a3 ∧ w.cell? ⟨q, 4, none⟩ = some a4 ∧ w.cell? ⟨q, 5, none⟩ = some a5 := by
  refine ⟨?_, ?_, ?_, ?_, ?_, ?_⟩ <;> rw [cell_of_row w q _ _ T (0, 0) h] <;> rfl
theorem beight {w : World} {q : Nat} {a0 a1 a2 a3 a4 a5 a6 a7 : Value} {T : TypeId} (h : w.heap[q]? = some (.cells #[a0, a1, a2, a3, a4, a5, a6, a7] T (0, 0))) : w.cell? ⟨q, 0, none⟩ = some a0 ∧ w.cell? ⟨q, 1, none⟩ = some a1 ∧ w.cell? ⟨q, 2, none⟩ = some a2 ∧ w.cell? ⟨q, 3, none⟩ = some a3 ∧ w.cell? ⟨q, 4, none⟩ = some a4 ∧ w.cell? ⟨q, 5, none⟩ = some a5 ∧ w.cell? ⟨q, 6, none⟩ = some a6 ∧ w.cell? ⟨q, 7, none⟩ = some a7 := by
  refine ⟨?_, ?_, ?_, ?_, ?_, ?_, ?_, ?_⟩ <;> rw [cell_of_row w q _ _ T (0, 0) h] <;> rfl
theorem ruleB_eq (r : Ru) : ruleB r = ((decide (0 ≤ r.rank) && decide (r.rank ≤ 9999)) && (condB 16 r.cif && (decide (r.unl.length ≤ 1) && (r.unl.all (condB 16) && (decide (1 ≤ r.sets.length) && setsB [] r.sets))))) := rfl
set_option maxHeartbeats 16000000 in
theorem chk_rule (r : Ru) (k u s : Value) (w : World) (h : RuIn All w r k u s) :
    Calls Tryz.prog 17 #[ruv r k u s] w fun e w' => e = .returned (.bool (ruleB r)) ∧ Below w.heap.size w w' := by
  obtain ⟨h64, hok, hul, hk, hu, hs⟩ := h
  have hb := below_alloc w (.cells #[.int .i64 r.rank, .int .i64 r.cif.kind, .string (mk r.cif.lo), .string (mk r.cif.hi), .int .i64 r.cif.n, k, u, s] 42)
  have HB := Lib.hid hb
  have HX := Lib.hid (heap_alloc_new w (.cells #[.int .i64 r.rank, .int .i64 r.cif.kind, .string (mk r.cif.lo), .string (mk r.cif.hi), .int .i64 r.cif.n, k, u, s] 42))
  have HU := Lib.hid (hu.grw hb)
  have HS := Lib.hid (hs.grw hb)
  have HC := Lib.hid fun W (hW : Below w.heap.size w W) => chk_cond 16 1 (by decide) (by decide) r.cif k W (hk.grw hW) hok
  obtain ⟨ka, kc, rfl, -, -⟩ := hk.form
  obtain ⟨ua, uc, rfl, hu1, hu2⟩ := hu.form
  obtain ⟨sa, sc, rfl, -, -, -⟩ := hs.form
  obtain ⟨x0, x1, x2, x3, x4, x5, x6, x7⟩ := beight HX.out
  have HR := Lib.hid (ruleB_eq r)
  have hul2 : r.unl.length ≤ 281474976710656 := hul
  clear hb hk hu hs h64 hok hul
  generalize ruleB r = R at *
  by_cases c1 : r.rank < 0
  · have HRES : Hid (R = false) := by show _ = _; rw [HR.out, decide_eq_false (show ¬ 0 ≤ r.rank by omega)]; simp
    clear HR HC HU HS
    go_enter Tryz.func17, Tryz.ntmps17
    go_wp2
    go_ret
    exact ⟨by rw [HRES.out]; rfl, HB.out⟩
  by_cases c2 : 9999 < r.rank
  · have HRES : Hid (R = false) := by show _ = _; rw [HR.out, decide_eq_false (show ¬ r.rank ≤ 9999 by omega)]; simp
    clear HR HC HU HS
    go_enter Tryz.func17, Tryz.ntmps17
    go_wp2
    go_ret
    exact ⟨by rw [HRES.out]; rfl, HB.out⟩
  by_cases c3 : 1 < r.unl.length
  · have HRES : Hid (R = false) := by show _ = _; rw [HR.out, decide_eq_false (show ¬ r.unl.length ≤ 1 by omega)]; simp
    clear HR HC HU HS
    go_enter Tryz.func17, Tryz.ntmps17
    go_wp2
    go_ret
    exact ⟨by rw [HRES.out]; rfl, HB.out⟩
  have HR2 : Hid (R = (condB 16 r.cif && (r.unl.all (condB 16) && (decide (1 ≤ r.sets.length) && setsB [] r.sets)))) := by
    show _ = _
    rw [HR.out, decide_eq_true (show 0 ≤ r.rank by omega), decide_eq_true (show r.rank ≤ 9999 by omega), decide_eq_true (show r.unl.length ≤ 1 by omega)]
    simp
  clear HR
  cases hc : condB 16 r.cif
  · rw [hc] at HC HR2
    have HRES : Hid (R = false) := HR2.out
    clear HR2 HU HS hc
    go_enter Tryz.func17, Tryz.ntmps17
    go_wp2_with (first | (go_at_call 32; refine (HC.out _ HB.out).mono ?_; rintro e w1 ⟨rfl, hb1⟩; have HB1 := Lib.hid hb1; clear hb1))
    go_ret
    exact ⟨by rw [HRES.out]; rfl, below_trans HB.out HB1.out⟩
  rw [hc] at HC HR2
  clear hc
  go_enter Tryz.func17, Tryz.ntmps17
  go_wp2_with fail
  go_at_call 32
  refine (HC.out _ HB.out).mono ?_
  rintro e w1 ⟨rfl, hb1⟩
  have HB1 := Lib.hid (below_trans HB.out hb1)
  have HU1 := Lib.hid (HU.out.grw hb1)
  have HS1 := Lib.hid (HS.out.grw hb1)
  have HX1 := Lib.hid (keepB HX.out hb1)
  obtain ⟨x0, x1, x2, x3, x4, x5, x6, x7⟩ := beight HX1.out
  have HW0 := Lib.hid (Below.refl w1.heap.size w1)
  clear hb1 HB HX HU HS HC
  go_wp2
  go_loopg [28] (r.unl.length) (fun g i wr => ∃ n : Nat, n ≤ r.unl.length ∧ g = r.unl.length - n ∧ i = .int .i64 n ∧ Hid (Below w1.heap.size w1 wr) ∧ Hid ((r.unl.take n).all (condB 16) = true))
  case atStart => exact ⟨0, Nat.zero_le _, rfl, rfl, HW0.out, rfl⟩
  case round =>
    clear HW0 x0 x1 x2 x3 x4 x5 x6 x7
    obtain ⟨n, hn, hgk, rfl, HBr, HA⟩ := hrel
    by_cases hlt : n < r.unl.length
    · obtain ⟨b, o, mv, rfl, hbs, hx, hcc, hkk, hok⟩ := KsAt.get (HU1.out.grw HBr.out) n hlt
      obtain ⟨y0, y1, y2, y3, y4⟩ := hcc
      obtain ⟨ma, mc, rfl, -, -⟩ := hkk.form
      have hbz := below_alloc wr (.cells #[.int .i64 r.unl[n].kind, .string (mk r.unl[n].lo), .string (mk r.unl[n].hi), .int .i64 r.unl[n].n, .slice ma r.unl[n].kids.length mc] 39)
      have HC := Lib.hid (chk_cond 16 1 (by decide) (by decide) r.unl[n] _ _ (hkk.grw hbz) hok)
      have HBz := Lib.hid (below_trans HBr.out hbz)
      have HT := Lib.hid fun h => all_take1 (p := condB 16) r.unl n _ hx HA.out h
      have HN := Lib.hid fun h => all_not1 (p := condB 16) r.unl n _ hx h
      clear hx hkk hok hbz
      generalize r.unl[n] = kd at *
      cases hq : condB 16 kd
      · rw [hq] at HC
        have HN2 := Lib.hid (HN.out hq)
        clear hq HT HN
        go_wp2_with (go_at_call 32; refine HC.out.mono ?_; rintro e w3 ⟨rfl, hb3⟩; have HB3 := Lib.hid hb3; clear hb3)
        go_ret
        exact ⟨by rw [HR2.out, HN2.out]; rfl, below_trans HB1.out (below_trans HBz.out HB3.out)⟩
      · rw [hq] at HC
        have HT2 := Lib.hid (HT.out hq)
        clear hq HT HN
        go_wp2_with (go_at_call 32; refine HC.out.mono ?_; rintro e w3 ⟨rfl, hb3⟩; have HB3 := Lib.hid hb3; clear hb3)
        go_roundg (r.unl.length - (n + 1))
        case rel => exact ⟨n + 1, by omega, rfl, by go_num, below_trans HBz.out HB3.out, HT2.out⟩
        case measure => omega
    · have hall : r.unl.take n = r.unl := List.take_of_length_le (by omega)
      rw [hall] at HA
      have HCS := Lib.hid (chk_sets _ r.sets wr (HS1.out.grw HBr.out))
      obtain ⟨x0, x1, x2, x3, x4, x5, x6, x7⟩ := beight (keepB HX1.out HBr.out)
      clear hall
      have HR3 := HR2.out
      rw [HA.out] at HR3
      simp only [Bool.true_and] at HR3
      have HR4 := Lib.hid HR3
      clear HR3
      generalize (decide (1 ≤ r.sets.length) && setsB [] r.sets) = Z at *
      go_wp2_with (go_at_call 33; refine HCS.out.mono ?_; rintro e w3 ⟨rfl, hb3⟩; have HB3 := Lib.hid hb3; clear hb3)
      go_ret
      exact ⟨by rw [HR4.out]; rfl, below_trans HB1.out (below_trans HBr.out HB3.out)⟩
end Go.Proofs.YtfkhehkfeibdpaaGreatDoor.Pl
end
