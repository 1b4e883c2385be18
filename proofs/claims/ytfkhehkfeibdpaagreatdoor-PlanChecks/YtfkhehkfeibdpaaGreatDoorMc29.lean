/-
  Texts put together (merge.py): PSet.
-/
import Derived.Test.YtfkhehkfeibdpaaGreatDoorMc28
import Derived.Test.YtfkhehkfeibdpaaGreatDoorMc19
/-
  What the reader's set and sets do, as contracts.
-/
section
set_option linter.unusedSimpArgs false
set_option linter.unusedVariables false
set_option maxRecDepth 100000
namespace Go.Proofs.YtfkhehkfeibdpaaGreatDoor.Pl
open Go.RowKit
open Wo (Wd WdsAt box_cell box_two keepB heap_far)

/-- One set, behind the word that names it. -/
def pSetX (E : Nat) (x : Wd) (r : List Wd) : R St :=
  if x.1 = tCover then (match pTruth E r with | .error e => .error e | .ok (n, r) => .ok (⟨1, n⟩, r))
  else if x.1 = tDed then (match pTruth E r with | .error e => .error e | .ok (n, r) => .ok (⟨2, n⟩, r))
  else if x.1 = tCopay then (match pMoney E r with | .error e => .error e | .ok (n, r) => .ok (⟨3, n⟩, r))
  else if x.1 = tCoins then (match pNum E 10000 r with | .error e => .error e | .ok (n, r) => .ok (⟨4, n⟩, r))
  else .error (4, x.2)
theorem pSet_tk (E : Nat) (l : List Wd) : pSet E l = pSetX E (tkW E l) l.tail := by
  cases l with
  | nil => rfl
  | cons x r => rfl
def Stv (s : St) (v : Value) (_ : World) : Prop := v = stv s ∧ Cm.I64 s.what ∧ Cm.I64 s.n
abbrev put2 (w : World) (p : Nat) (a b : Value) : World := (w.setCell ⟨p, 0, none⟩ a).setCell ⟨p, 1, none⟩ b
theorem grown_put2 {w W : World} {q : Option Nat} (h : w.grownBy W q) {p : Nat} (hp : w.heap.size ≤ p) (a b : Value) : w.grownBy (put2 W p a b) q := grown_new (grown_new h hp 0 a) hp 1 b
theorem rd_put2 {q E p : Nat} {l : List Wd} {w : World} (h : RdAt q E l w) (hp : q < p) (a b : Value) : RdAt q E l (put2 w p a b) := rd_set (rd_set h hp 0 a) hp 1 b
set_option maxHeartbeats 8000000 in
theorem set_any (q E : Nat) (x : Wd) (r : List Wd) (w : World) (h : RdAt q E r w) :
    Calls Tryz.prog 102 #[.pointer (some ⟨q, 0, none⟩), wdv x] w fun e w' => Ans q E w Stv (pSetX E x r) e w' := by
  have hq := h.lt
  have hb0 := below_trans (below_alloc w (.cells #[.string (mk x.1), .int .i64 (x.2 : Nat)] 75)) (below_alloc _ (.cells #[.int .i64 0, .int .i64 0] 67))
  have HR2 := Lib.hid (h.grw hb0)
  have HG2 := Lib.hid (grown_of (p := some q) hb0)
  have HX := Lib.hid (keepB (heap_alloc_new w (.cells #[.string (mk x.1), .int .i64 (x.2 : Nat)] 75)) (below_alloc _ (.cells #[.int .i64 0, .int .i64 0] 67)))
  have hz : (w.alloc (.cells #[.string (mk x.1), .int .i64 (x.2 : Nat)] 75)).heap.size = w.heap.size + 1 := by simp
  have HB2 := Lib.hid (heap_alloc_new (w.alloc (.cells #[.string (mk x.1), .int .i64 (x.2 : Nat)] 75)) (.cells #[.int .i64 0, .int .i64 0] 67))
  rw [hz] at HB2
  obtain ⟨d0, d1, -, -⟩ := box_two HX.out
  clear h hb0 hz
  have HF := Lib.hid fun W => fault_any 4 x W
  by_cases h0 : x.1 = tCover
  · have hRR : pSetX E x r = (match pTruth E r with | .error e => .error e | .ok (n, r) => .ok (⟨1, n⟩, r)) := by unfold pSetX; rw [if_pos h0]
    have b0 : ((mk x.1).toList == [99, 111, 118, 101, 114]) = true := lit_t h0
    have HRR := Lib.hid hRR
    clear hRR h0
    generalize pSetX E x r = RR at *
    go_enter Tryz.func102, Tryz.ntmps102
    go_upto_region 1 with fail
    generalize (w.alloc (.cells #[.string (mk x.1), .int .i64 (x.2 : Nat)] 75)).alloc (.cells #[.int .i64 0, .int .i64 0] 67) = W2 at *
    go_wp2_with fail
    go_at_call 110
    refine (answer_any q E r W2 HR2.out).mono ?_
    rintro e w3 ⟨hg, ha⟩
    have HG3 := Lib.hid (grown_tr HG2.out hg)
    have HB3 := Lib.hid (grown_heap HB2.out hg (by omega))
    cases hc : pTruth E r with
    | error fl =>
      rw [hc] at ha
      obtain rfl := ha
      refine thrown rfl ⟨HG3.out, ?_⟩
      rw [HRR.out]
      simp only [hc]
    | ok z =>
      obtain ⟨y, s⟩ := z
      rw [hc] at ha
      obtain ⟨⟨v, rfl, hv⟩, hr⟩ := ha
      obtain rfl : v = .int .i64 y := hv
      obtain ⟨-, hb1, hb2⟩ := truth_inv hc
      have HR3 := Lib.hid hr
      have HC := Lib.hid hc
      obtain ⟨g0, g1, f0, f1⟩ := box_two HB3.out
      clear hr hg hc HG2 HB2 HR2 HX d0 d1
      go_wp2
      refine bodyPost_ret (v := stv ⟨1, y⟩) (by simp [results, Tryz.results102, go_sem, g0, g1]) rfl ?_
      refine ⟨grown_put2 HG3.out (p := w.heap.size + 1) (by omega) _ _, ?_⟩
      rw [HRR.out]
      simp only [HC.out]
      exact ⟨⟨_, rfl, rfl, ⟨by show (-9223372036854775808 : Int) ≤ 1; decide, by show (1 : Int) ≤ 9223372036854775807; decide⟩, ⟨by show (-9223372036854775808 : Int) ≤ y; omega, by show y ≤ 9223372036854775807; omega⟩⟩, rd_put2 HR3.out (by omega) _ _⟩
  by_cases h1 : x.1 = tDed
  · have hRR : pSetX E x r = (match pTruth E r with | .error e => .error e | .ok (n, r) => .ok (⟨2, n⟩, r)) := by unfold pSetX; rw [if_neg h0, if_pos h1]
    have b0 : ((mk x.1).toList == [99, 111, 118, 101, 114]) = false := lit_f h0
    have b1 : ((mk x.1).toList == [100, 101, 100, 117, 99, 116]) = true := lit_t h1
    have HRR := Lib.hid hRR
    clear hRR h0 h1
    generalize pSetX E x r = RR at *
    go_enter Tryz.func102, Tryz.ntmps102
    go_upto_region 1 with fail
    generalize (w.alloc (.cells #[.string (mk x.1), .int .i64 (x.2 : Nat)] 75)).alloc (.cells #[.int .i64 0, .int .i64 0] 67) = W2 at *
    go_wp2_with fail
    go_at_call 110
    refine (answer_any q E r W2 HR2.out).mono ?_
    rintro e w3 ⟨hg, ha⟩
    have HG3 := Lib.hid (grown_tr HG2.out hg)
    have HB3 := Lib.hid (grown_heap HB2.out hg (by omega))
    cases hc : pTruth E r with
    | error fl =>
      rw [hc] at ha
      obtain rfl := ha
      refine thrown rfl ⟨HG3.out, ?_⟩
      rw [HRR.out]
      simp only [hc]
    | ok z =>
      obtain ⟨y, s⟩ := z
      rw [hc] at ha
      obtain ⟨⟨v, rfl, hv⟩, hr⟩ := ha
      obtain rfl : v = .int .i64 y := hv
      obtain ⟨-, hb1, hb2⟩ := truth_inv hc
      have HR3 := Lib.hid hr
      have HC := Lib.hid hc
      obtain ⟨g0, g1, f0, f1⟩ := box_two HB3.out
      clear hr hg hc HG2 HB2 HR2 HX d0 d1
      go_wp2
      refine bodyPost_ret (v := stv ⟨2, y⟩) (by simp [results, Tryz.results102, go_sem, g0, g1]) rfl ?_
      refine ⟨grown_put2 HG3.out (p := w.heap.size + 1) (by omega) _ _, ?_⟩
      rw [HRR.out]
      simp only [HC.out]
      exact ⟨⟨_, rfl, rfl, ⟨by show (-9223372036854775808 : Int) ≤ 2; decide, by show (2 : Int) ≤ 9223372036854775807; decide⟩, ⟨by show (-9223372036854775808 : Int) ≤ y; omega, by show y ≤ 9223372036854775807; omega⟩⟩, rd_put2 HR3.out (by omega) _ _⟩
  by_cases h2 : x.1 = tCopay
  · have hRR : pSetX E x r = (match pMoney E r with | .error e => .error e | .ok (n, r) => .ok (⟨3, n⟩, r)) := by unfold pSetX; rw [if_neg h0, if_neg h1, if_pos h2]
    have b0 : ((mk x.1).toList == [99, 111, 118, 101, 114]) = false := lit_f h0
    have b1 : ((mk x.1).toList == [100, 101, 100, 117, 99, 116]) = false := lit_f h1
    have b2 : ((mk x.1).toList == [99, 111, 112, 97, 121]) = true := lit_t h2
    have HRR := Lib.hid hRR
    clear hRR h0 h1 h2
    generalize pSetX E x r = RR at *
    go_enter Tryz.func102, Tryz.ntmps102
    go_upto_region 1 with fail
    generalize (w.alloc (.cells #[.string (mk x.1), .int .i64 (x.2 : Nat)] 75)).alloc (.cells #[.int .i64 0, .int .i64 0] 67) = W2 at *
    go_wp2_with fail
    go_at_call 52
    refine (amount_any q E r W2 HR2.out).mono ?_
    rintro e w3 ⟨hg, ha⟩
    have HG3 := Lib.hid (grown_tr HG2.out hg)
    have HB3 := Lib.hid (grown_heap HB2.out hg (by omega))
    cases hc : pMoney E r with
    | error fl =>
      rw [hc] at ha
      obtain rfl := ha
      refine thrown rfl ⟨HG3.out, ?_⟩
      rw [HRR.out]
      simp only [hc]
    | ok z =>
      obtain ⟨y, s⟩ := z
      rw [hc] at ha
      obtain ⟨⟨v, rfl, hv⟩, hr⟩ := ha
      obtain rfl : v = .int .i64 y := hv
      obtain ⟨_, _, -, -, hgb⟩ := money_inv hc; simp only [goodB, Bool.and_eq_true, decide_eq_true_eq] at hgb; obtain ⟨hb1, hb2⟩ := hgb
      have HR3 := Lib.hid hr
      have HC := Lib.hid hc
      obtain ⟨g0, g1, f0, f1⟩ := box_two HB3.out
      clear hr hg hc HG2 HB2 HR2 HX d0 d1
      go_wp2
      refine bodyPost_ret (v := stv ⟨3, y⟩) (by simp [results, Tryz.results102, go_sem, g0, g1]) rfl ?_
      refine ⟨grown_put2 HG3.out (p := w.heap.size + 1) (by omega) _ _, ?_⟩
      rw [HRR.out]
      simp only [HC.out]
      exact ⟨⟨_, rfl, rfl, ⟨by show (-9223372036854775808 : Int) ≤ 3; decide, by show (3 : Int) ≤ 9223372036854775807; decide⟩, ⟨by show (-9223372036854775808 : Int) ≤ y; omega, by show y ≤ 9223372036854775807; omega⟩⟩, rd_put2 HR3.out (by omega) _ _⟩
  by_cases h3 : x.1 = tCoins
  · have hRR : pSetX E x r = (match pNum E 10000 r with | .error e => .error e | .ok (n, r) => .ok (⟨4, n⟩, r)) := by unfold pSetX; rw [if_neg h0, if_neg h1, if_neg h2, if_pos h3]
    have b0 : ((mk x.1).toList == [99, 111, 118, 101, 114]) = false := lit_f h0
    have b1 : ((mk x.1).toList == [100, 101, 100, 117, 99, 116]) = false := lit_f h1
    have b2 : ((mk x.1).toList == [99, 111, 112, 97, 121]) = false := lit_f h2
    have b3 : ((mk x.1).toList == [99, 111, 105, 110, 115]) = true := lit_t h3
    have HRR := Lib.hid hRR
    clear hRR h0 h1 h2 h3
    generalize pSetX E x r = RR at *
    go_enter Tryz.func102, Tryz.ntmps102
    go_upto_region 1 with fail
    generalize (w.alloc (.cells #[.string (mk x.1), .int .i64 (x.2 : Nat)] 75)).alloc (.cells #[.int .i64 0, .int .i64 0] 67) = W2 at *
    go_wp2_with fail
    go_at_call 85
    refine (number_any q E 10000 r W2 HR2.out).mono ?_
    rintro e w3 ⟨hg, ha⟩
    have HG3 := Lib.hid (grown_tr HG2.out hg)
    have HB3 := Lib.hid (grown_heap HB2.out hg (by omega))
    cases hc : pNum E 10000 r with
    | error fl =>
      rw [hc] at ha
      obtain rfl := ha
      refine thrown rfl ⟨HG3.out, ?_⟩
      rw [HRR.out]
      simp only [hc]
    | ok z =>
      obtain ⟨y, s⟩ := z
      rw [hc] at ha
      obtain ⟨⟨v, rfl, hv⟩, hr⟩ := ha
      obtain rfl : v = .int .i64 y := hv
      obtain ⟨_, _, -, hb1, hb2, -⟩ := num_inv hc
      have HR3 := Lib.hid hr
      have HC := Lib.hid hc
      obtain ⟨g0, g1, f0, f1⟩ := box_two HB3.out
      clear hr hg hc HG2 HB2 HR2 HX d0 d1
      go_wp2
      refine bodyPost_ret (v := stv ⟨4, y⟩) (by simp [results, Tryz.results102, go_sem, g0, g1]) rfl ?_
      refine ⟨grown_put2 HG3.out (p := w.heap.size + 1) (by omega) _ _, ?_⟩
      rw [HRR.out]
      simp only [HC.out]
      exact ⟨⟨_, rfl, rfl, ⟨by show (-9223372036854775808 : Int) ≤ 4; decide, by show (4 : Int) ≤ 9223372036854775807; decide⟩, ⟨by show (-9223372036854775808 : Int) ≤ y; omega, by show y ≤ 9223372036854775807; omega⟩⟩, rd_put2 HR3.out (by omega) _ _⟩
  · have hRR : pSetX E x r = .error (4, x.2) := by unfold pSetX; rw [if_neg h0, if_neg h1, if_neg h2, if_neg h3]
    have b0 : ((mk x.1).toList == [99, 111, 118, 101, 114]) = false := lit_f h0
    have b1 : ((mk x.1).toList == [100, 101, 100, 117, 99, 116]) = false := lit_f h1
    have b2 : ((mk x.1).toList == [99, 111, 112, 97, 121]) = false := lit_f h2
    have b3 : ((mk x.1).toList == [99, 111, 105, 110, 115]) = false := lit_f h3
    have HRR := Lib.hid hRR
    clear hRR h0 h1 h2 h3
    generalize pSetX E x r = RR at *
    go_enter Tryz.func102, Tryz.ntmps102
    go_upto_region 1 with fail
    generalize (w.alloc (.cells #[.string (mk x.1), .int .i64 (x.2 : Nat)] 75)).alloc (.cells #[.int .i64 0, .int .i64 0] 67) = W2 at *
    go_wp2_with (first | (go_at_call 71; refine (HF.out _).mono ?_; rintro e w3 ⟨rfl, hb3⟩; have HB3 := Lib.hid hb3; clear hb3))
    refine ⟨rfl, grown_tr HG2.out (grown_of HB3.out), ?_⟩
    rw [HRR.out]
end Go.Proofs.YtfkhehkfeibdpaaGreatDoor.Pl
end
