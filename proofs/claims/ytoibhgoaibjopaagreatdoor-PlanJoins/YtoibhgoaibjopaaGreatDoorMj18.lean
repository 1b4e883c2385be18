/-
  Texts put together (merge.py): PCne.
-/
import Derived.Test.YtoibhgoaibjopaaGreatDoorMj17
/-
  What the reader's condition does, as a contract: not, two in brackets, words that begin none, too deep; all of it.
-/
section
set_option linter.unusedSimpArgs false
set_option linter.unusedVariables false
set_option maxRecDepth 100000
namespace Go.Proofs.YtoibhgoaibjopaaGreatDoor.Pl
open Go.RowKit
open Wo (Wd WdsAt box_cell box_two keepB heap_far)

def pNt (E f : Nat) (r : List Wd) : R Cd := match pC E f r with | .error e => .error e | .ok (c, r) => .ok (.mk 6 [] [] 0 [c], r)
set_option maxHeartbeats 8000000 in
theorem cond_not (q E a : Nat) (r : List Wd) (d : Int) (hd0 : 1 ≤ d) (hd : d ≤ 16) (w : World) (f : Nat) (IH : ∀ l w, RdAt q E l w → Calls Tryz.prog 80 #[.pointer (some ⟨q, 0, none⟩), .int .i64 (d + 1)] w fun e w' => Ans q E w (Cnd w.heap.size) (pC E f l) e w') (h : RdAt q E ((tNot, a) :: r) w) :
    Calls Tryz.prog 80 #[.pointer (some ⟨q, 0, none⟩), .int .i64 d] w fun e w' => Ans q E w (Cnd w.heap.size) (pNt E f r) e w' := by
  have hq := h.lt
  have hb0 := below_alloc w (.cells z5 32)
  have HT : Hid (Calls Tryz.prog 63 #[.pointer (some ⟨q, 0, none⟩)] (w.alloc (.cells z5 32)) fun e w' => e = .returned (.agg #[.string (mk tNot), .int .i64 (a : Nat)]) ∧ RdAt q E r w' ∧ (w.alloc (.cells z5 32)).grownBy w' (some q)) := take_any q E ((tNot, a) :: r) _ (h.grw hb0)
  have HKD : Hid (∀ W, Calls Tryz.prog 95 #[.string (mk tNot)] W fun e w' => e = .returned (.tuple #[.int .i64 6, .bool true]) ∧ w' = W) := fun W => kindOf_any tNot W
  have HG0 := Lib.hid (grown_of (p := some q) hb0)
  have HB0 := Lib.hid (heap_alloc_new w (.cells z5 32))
  have hz0 : w.heap.size + 1 ≤ (w.alloc (.cells z5 32)).heap.size := by simp
  clear h hb0
  generalize hX : mk tNot = X at *
  clear hX
  go_enter Tryz.func80, Tryz.ntmps80
  go_upto_region 1 with fail
  generalize w.alloc (.cells z5 32) = Wa at *
  go_wp2_with fail
  go_at_call 63
  refine HT.out.mono ?_
  rintro e w1 ⟨rfl, hr, hg⟩
  have hbw := below_alloc w1 (.cells #[.string X, .int .i64 (a : Nat)] 73)
  have hs1 := hg.size
  have HR1 := Lib.hid (hr.grw hbw)
  have HG1 := Lib.hid (grown_tr HG0.out (grown_alloc hg (.cells #[.string X, .int .i64 (a : Nat)] 73)))
  have HB1 := Lib.hid (keepB (grown_heap HB0.out hg (by omega)) hbw)
  have HX := Lib.hid (heap_alloc_new w1 (.cells #[.string X, .int .i64 (a : Nat)] 73))
  obtain ⟨d0, d1, -, -⟩ := box_two HX.out
  have hz1 : w.heap.size + 2 ≤ (w1.alloc (.cells #[.string X, .int .i64 (a : Nat)] 73)).heap.size := by simp; omega
  clear hr hg hbw HT HG0 HB0 hz0 hs1
  go_upto_region 2 with fail
  generalize w1.alloc (.cells #[.string X, .int .i64 (a : Nat)] 73) = W1 at *
  generalize w1.heap.size = p5 at *
  have hbc := below_alloc W1 (.cells #[.int .i64 6, .string ⟨#[]⟩, .string ⟨#[]⟩, .int .i64 0, .slice none 0 0] 32)
  have HR2 := Lib.hid (HR1.out.grw hbc)
  have HG2 := Lib.hid (grown_tr HG1.out (grown_of hbc))
  have HB2 := Lib.hid (keepB HB1.out hbc)
  have HC2 := Lib.hid (heap_alloc_new W1 (.cells #[.int .i64 6, .string ⟨#[]⟩, .string ⟨#[]⟩, .int .i64 0, .slice none 0 0] 32))
  have hz2 : w.heap.size + 3 ≤ (W1.alloc (.cells #[.int .i64 6, .string ⟨#[]⟩, .string ⟨#[]⟩, .int .i64 0, .slice none 0 0] 32)).heap.size := by simp; omega
  have hp8 : w.heap.size + 2 ≤ W1.heap.size := hz1
  have hz8 : W1.heap.size < (W1.alloc (.cells #[.int .i64 6, .string ⟨#[]⟩, .string ⟨#[]⟩, .int .i64 0, .slice none 0 0] 32)).heap.size := by simp
  clear hbc HR1 HG1 HB1
  go_upto_region 19 with (go_at_call 95; refine (HKD.out _).mono ?_; rintro e w2 ⟨rfl, hw2⟩; rw [hw2]; clear hw2 w2)
  generalize W1.alloc (.cells #[.int .i64 6, .string ⟨#[]⟩, .string ⟨#[]⟩, .int .i64 0, .slice none 0 0] 32) = W2 at *
  generalize W1.heap.size = p8 at *
  go_wp2_with fail
  go_at_call 80
  refine (IH r W2 HR2.out).mono ?_
  rintro e v2 ⟨hg2, ha2⟩
  have hsv2 := hg2.size
  have HG2' := Lib.hid (grown_tr HG2.out hg2)
  have HB2' := Lib.hid (grown_heap HB2.out hg2 (by omega))
  have HC2' := Lib.hid (grown_heap HC2.out hg2 (by omega))
  cases hc2 : pC E f r with
  | error fl =>
    rw [hc2] at ha2
    obtain rfl := ha2
    refine thrown rfl ⟨HG2'.out, ?_⟩
    unfold pNt; simp only [hc2]
  | ok z2 =>
    obtain ⟨y2, s2⟩ := z2
    rw [hc2] at ha2
    obtain ⟨⟨v, rfl, ka, kn, kc, rfl, hK, hO⟩, hr2⟩ := ha2
    have HC := Lib.hid hc2
    have hbu := below_alloc v2 (.cells #[.int .i64 y2.kind, .string (mk y2.lo), .string (mk y2.hi), .int .i64 y2.n, .slice ka kn kc] 32)
    have HN := Lib.hid (heap_alloc_new v2 (.cells #[.int .i64 y2.kind, .string (mk y2.lo), .string (mk y2.hi), .int .i64 y2.n, .slice ka kn kc] 32))
    have hru := hr2.grw hbu
    have HGu := Lib.hid (grown_tr HG2'.out (grown_of hbu))
    have HBu := Lib.hid (keepB HB2'.out hbu)
    have hCu := keepB HC2'.out hbu
    have HKu := Lib.hid (ks_one (K := fun b => W2.heap.size ≤ b) HN.out hsv2 (hK.move (moves_new hbu)) hO)
    have HK3 := Lib.hid (HKu.out.move (moves_set (p := p8) (j := 4) _ (.slice (some ⟨v2.heap.size, 0, none⟩) 1 1) hz8))
    have HR3 := Lib.hid (rd_set hru (p := p8) (by omega) 4 (.slice (some ⟨v2.heap.size, 0, none⟩) 1 1))
    have HG3 := Lib.hid (grown_new HGu.out (q := p8) (by omega) 4 (.slice (some ⟨v2.heap.size, 0, none⟩) 1 1))
    have HB3 := Lib.hid (heap_far (q := p8) (j := 4) (u := .slice (some ⟨v2.heap.size, 0, none⟩) 1 1) HBu.out (by omega))
    have HC3 : Hid (((v2.alloc (.cells #[.int .i64 y2.kind, .string (mk y2.lo), .string (mk y2.hi), .int .i64 y2.n, .slice ka kn kc] 32)).setCell ⟨p8, 4, none⟩ (.slice (some ⟨v2.heap.size, 0, none⟩) 1 1)).heap[p8]? = some (.cells #[.int .i64 6, .string ⟨#[]⟩, .string ⟨#[]⟩, .int .i64 0, .slice (some ⟨v2.heap.size, 0, none⟩) 1 1] 32 (0, 0))) := heap_setCell_same _ p8 4 _ _ _ hCu
    obtain ⟨m0, m1, m2, m3, m4⟩ := box_five hCu
    have mf := box_froz hCu 4
    have hlt2 : w.heap.size < W2.heap.size := by omega
    clear hr2 hg2 HR2 HG2 HB2 HC2 HG2' HB2' HC2' hK hO hc2 hbu HN hru HGu HBu HKu hCu
    go_upto_region 22 with fail
    generalize hW3 : (v2.alloc (.cells #[.int .i64 y2.kind, .string (mk y2.lo), .string (mk y2.hi), .int .i64 y2.n, .slice ka kn kc] 32)).setCell ⟨p8, 4, none⟩ (.slice (some ⟨v2.heap.size, 0, none⟩) 1 1) = W3 at *
    clear hW3 m0 m1 m2 m3 m4 mf
    obtain ⟨x0, x1, x2, x3, x4⟩ := box_five HC3.out
    obtain ⟨g0, g1, g2, g3, g4⟩ := box_five HB3.out
    have f0 := box_froz HB3.out 0
    have f1 := box_froz HB3.out 1
    have f2 := box_froz HB3.out 2
    have f3 := box_froz HB3.out 3
    have f4 := box_froz HB3.out 4
    go_wp2
    refine bodyPost_ret (v := .agg #[.int .i64 6, .string ⟨#[]⟩, .string ⟨#[]⟩, .int .i64 0, .slice (some ⟨v2.heap.size, 0, none⟩) 1 1]) (by simp [results, Tryz.results80, go_sem, g0, g1, g2, g3, g4]) rfl ?_
    refine ⟨grown_put5 HG3.out (Nat.le_refl _) _ _ _ _ _, ?_⟩
    unfold pNt; simp only [HC.out]
    exact ⟨⟨_, rfl, _, _, _, rfl, (HK3.out.move (moves_put5 _ _ _ _ _ _ hlt2)).move (moves_low _ (Nat.le_of_lt hlt2)), ok1_zero ⟨by decide, by decide⟩ _ (by show 1 ≤ 281474976710656; omega)⟩, rd_put5 HR3.out hq _ _ _ _ _⟩
set_option maxHeartbeats 8000000 in
theorem cond_pair (q E a : Nat) (r : List Wd) (d : Int) (hd0 : 1 ≤ d) (hd : d ≤ 16) (w : World) (f : Nat) (IH : ∀ l w, RdAt q E l w → Calls Tryz.prog 80 #[.pointer (some ⟨q, 0, none⟩), .int .i64 (d + 1)] w fun e w' => Ans q E w (Cnd w.heap.size) (pC E f l) e w') (h : RdAt q E ((tO, a) :: r) w) :
    Calls Tryz.prog 80 #[.pointer (some ⟨q, 0, none⟩), .int .i64 d] w fun e w' => Ans q E w (Cnd w.heap.size) (pPair E f r) e w' := by
  have hq := h.lt
  have hb0 := below_alloc w (.cells z5 32)
  have HT : Hid (Calls Tryz.prog 63 #[.pointer (some ⟨q, 0, none⟩)] (w.alloc (.cells z5 32)) fun e w' => e = .returned (.agg #[.string (mk tO), .int .i64 (a : Nat)]) ∧ RdAt q E r w' ∧ (w.alloc (.cells z5 32)).grownBy w' (some q)) := take_any q E ((tO, a) :: r) _ (h.grw hb0)
  have HKD : Hid (∀ W, Calls Tryz.prog 95 #[.string (mk tO)] W fun e w' => e = .returned (.tuple #[.int .i64 7, .bool true]) ∧ w' = W) := fun W => kindOf_any tO W
  have HG0 := Lib.hid (grown_of (p := some q) hb0)
  have HB0 := Lib.hid (heap_alloc_new w (.cells z5 32))
  have hz0 : w.heap.size + 1 ≤ (w.alloc (.cells z5 32)).heap.size := by simp
  clear h hb0
  generalize hX : mk tO = X at *
  clear hX
  go_enter Tryz.func80, Tryz.ntmps80
  go_upto_region 1 with fail
  generalize w.alloc (.cells z5 32) = Wa at *
  go_wp2_with fail
  go_at_call 63
  refine HT.out.mono ?_
  rintro e w1 ⟨rfl, hr, hg⟩
  have hbw := below_alloc w1 (.cells #[.string X, .int .i64 (a : Nat)] 73)
  have hs1 := hg.size
  have HR1 := Lib.hid (hr.grw hbw)
  have HG1 := Lib.hid (grown_tr HG0.out (grown_alloc hg (.cells #[.string X, .int .i64 (a : Nat)] 73)))
  have HB1 := Lib.hid (keepB (grown_heap HB0.out hg (by omega)) hbw)
  have HX := Lib.hid (heap_alloc_new w1 (.cells #[.string X, .int .i64 (a : Nat)] 73))
  obtain ⟨d0, d1, -, -⟩ := box_two HX.out
  have hz1 : w.heap.size + 2 ≤ (w1.alloc (.cells #[.string X, .int .i64 (a : Nat)] 73)).heap.size := by simp; omega
  clear hr hg hbw HT HG0 HB0 hz0 hs1
  go_upto_region 2 with fail
  generalize w1.alloc (.cells #[.string X, .int .i64 (a : Nat)] 73) = W1 at *
  generalize w1.heap.size = p5 at *
  have hbc := below_alloc W1 (.cells #[.int .i64 7, .string ⟨#[]⟩, .string ⟨#[]⟩, .int .i64 0, .slice none 0 0] 32)
  have HR2 := Lib.hid (HR1.out.grw hbc)
  have HG2 := Lib.hid (grown_tr HG1.out (grown_of hbc))
  have HB2 := Lib.hid (keepB HB1.out hbc)
  have HC2 := Lib.hid (heap_alloc_new W1 (.cells #[.int .i64 7, .string ⟨#[]⟩, .string ⟨#[]⟩, .int .i64 0, .slice none 0 0] 32))
  have hz2 : w.heap.size + 3 ≤ (W1.alloc (.cells #[.int .i64 7, .string ⟨#[]⟩, .string ⟨#[]⟩, .int .i64 0, .slice none 0 0] 32)).heap.size := by simp; omega
  have hp8 : w.heap.size + 2 ≤ W1.heap.size := hz1
  have hz8 : W1.heap.size < (W1.alloc (.cells #[.int .i64 7, .string ⟨#[]⟩, .string ⟨#[]⟩, .int .i64 0, .slice none 0 0] 32)).heap.size := by simp
  clear hbc HR1 HG1 HB1
  go_upto_region 21 with (go_at_call 95; refine (HKD.out _).mono ?_; rintro e w2 ⟨rfl, hw2⟩; rw [hw2]; clear hw2 w2)
  generalize W1.alloc (.cells #[.int .i64 7, .string ⟨#[]⟩, .string ⟨#[]⟩, .int .i64 0, .slice none 0 0] 32) = W2 at *
  generalize W1.heap.size = p8 at *
  go_wp2_with fail
  go_at_call 97
  refine (pair_any f (d + 1) q E IH r W2 HR2.out).mono ?_
  rintro e v2 ⟨hg2, ha2⟩
  have hsv2 := hg2.size
  have HG2' := Lib.hid (grown_tr HG2.out hg2)
  have HB2' := Lib.hid (grown_heap HB2.out hg2 (by omega))
  have HC2' := Lib.hid (grown_heap HC2.out hg2 (by omega))
  cases hc2 : pPair E f r with
  | error fl =>
    rw [hc2] at ha2
    obtain rfl := ha2
    refine thrown rfl ⟨HG2'.out, ?_⟩
    rw [hc2]
  | ok z2 =>
    obtain ⟨y2, s2⟩ := z2
    rw [hc2] at ha2
    obtain ⟨⟨v, rfl, ka, kn, kc, rfl, hK, hO⟩, hr2⟩ := ha2
    have HC := Lib.hid hc2
    have HK := Lib.hid hK
    have HO := Lib.hid hO
    have HR := Lib.hid hr2
    have hlt2 : w.heap.size < W2.heap.size := by omega
    obtain ⟨g0, g1, g2, g3, g4⟩ := box_five HB2'.out
    have f0 := box_froz HB2'.out 0
    have f1 := box_froz HB2'.out 1
    have f2 := box_froz HB2'.out 2
    have f3 := box_froz HB2'.out 3
    have f4 := box_froz HB2'.out 4
    clear hr2 hg2 HR2 HG2 HB2 HC2 HB2' HC2' hK hO hc2
    go_wp2
    refine bodyPost_ret (v := cdv y2 (.slice ka kn kc)) (by simp [results, Tryz.results80, go_sem, g0, g1, g2, g3, g4]) rfl ?_
    refine ⟨grown_put5 HG2'.out (Nat.le_refl _) _ _ _ _ _, ?_⟩
    rw [HC.out]
    exact ⟨⟨_, rfl, _, _, _, rfl, (HK.out.move (moves_put5 _ _ _ _ _ _ hlt2)).move (moves_low _ (Nat.le_of_lt hlt2)), HO.out⟩, rd_put5 HR.out hq _ _ _ _ _⟩
set_option maxHeartbeats 8000000 in
theorem cond_none (q E : Nat) (l : List Wd) (d : Int) (hk : kdW (tkW E l).1 = none) (w : World) (h : RdAt q E l w) :
    Calls Tryz.prog 80 #[.pointer (some ⟨q, 0, none⟩), .int .i64 d] w fun e w' => Ans q E w (Cnd w.heap.size) (.error (4, (tkW E l).2)) e w' := by
  have hb0 := below_alloc w (.cells z5 32)
  have HT := Lib.hid (take_any q E l _ (h.grw hb0))
  have HKD : Hid (∀ W, Calls Tryz.prog 95 #[.string (mk (tkW E l).1)] W fun e w' => e = .returned (.tuple #[.int .i64 0, .bool false]) ∧ w' = W) := fun W => by have := kindOf_any (tkW E l).1 W; rw [hk] at this; exact this
  have HF := Lib.hid fun W => fault_any 4 (tkW E l) W
  have HG0 := Lib.hid (grown_of (p := some q) hb0)
  clear h hb0 hk
  generalize tkW E l = x at *
  go_enter Tryz.func80, Tryz.ntmps80
  go_upto_region 1 with fail
  generalize w.alloc (.cells z5 32) = Wa at *
  go_wp2_with fail
  go_at_call 63
  refine HT.out.mono ?_
  rintro e w1 ⟨rfl, hr, hg⟩
  have HG1 := Lib.hid (grown_tr HG0.out (grown_alloc hg (.cells #[.string (mk x.1), .int .i64 (x.2 : Nat)] 73)))
  have HX := Lib.hid (heap_alloc_new w1 (.cells #[.string (mk x.1), .int .i64 (x.2 : Nat)] 73))
  obtain ⟨d0, d1, -, -⟩ := box_two HX.out
  clear hr hg HT HG0
  go_upto_region 2 with fail
  generalize w1.alloc (.cells #[.string (mk x.1), .int .i64 (x.2 : Nat)] 73) = W1 at *
  generalize w1.heap.size = p5 at *
  go_wp2_with (first | (go_at_call 95; refine (HKD.out _).mono ?_; rintro e w2 ⟨rfl, hw2⟩; rw [hw2]; clear hw2 w2) | (go_at_call 65; refine (HF.out _).mono ?_; rintro e w3 ⟨rfl, hb3⟩; have HB3 := Lib.hid hb3; clear hb3))
  exact ⟨rfl, grown_tr HG1.out (grown_of HB3.out), rfl⟩
set_option maxHeartbeats 8000000 in
theorem cond_deep (q E : Nat) (l : List Wd) (d : Int) (k : Int) (hk : kdW (tkW E l).1 = some k) (hd : 16 < d) (w : World) (h : RdAt q E l w) :
    Calls Tryz.prog 80 #[.pointer (some ⟨q, 0, none⟩), .int .i64 d] w fun e w' => Ans q E w (Cnd w.heap.size) (.error (10, (tkW E l).2)) e w' := by
  have hb0 := below_alloc w (.cells z5 32)
  have HT := Lib.hid (take_any q E l _ (h.grw hb0))
  have HKD : Hid (∀ W, Calls Tryz.prog 95 #[.string (mk (tkW E l).1)] W fun e w' => e = .returned (.tuple #[.int .i64 k, .bool true]) ∧ w' = W) := fun W => by have := kindOf_any (tkW E l).1 W; rw [hk] at this; exact this
  have HF := Lib.hid fun W => fault_any 10 (tkW E l) W
  have HG0 := Lib.hid (grown_of (p := some q) hb0)
  clear h hb0 hk
  generalize tkW E l = x at *
  go_enter Tryz.func80, Tryz.ntmps80
  go_upto_region 1 with fail
  generalize w.alloc (.cells z5 32) = Wa at *
  go_wp2_with fail
  go_at_call 63
  refine HT.out.mono ?_
  rintro e w1 ⟨rfl, hr, hg⟩
  have HG1 := Lib.hid (grown_tr HG0.out (grown_alloc hg (.cells #[.string (mk x.1), .int .i64 (x.2 : Nat)] 73)))
  have HX := Lib.hid (heap_alloc_new w1 (.cells #[.string (mk x.1), .int .i64 (x.2 : Nat)] 73))
  obtain ⟨d0, d1, -, -⟩ := box_two HX.out
  clear hr hg HT HG0
  go_upto_region 2 with fail
  generalize w1.alloc (.cells #[.string (mk x.1), .int .i64 (x.2 : Nat)] 73) = W1 at *
  generalize w1.heap.size = p5 at *
  go_wp2_with (first | (go_at_call 95; refine (HKD.out _).mono ?_; rintro e w2 ⟨rfl, hw2⟩; rw [hw2]; clear hw2 w2) | (go_at_call 65; refine (HF.out _).mono ?_; rintro e w3 ⟨rfl, hb3⟩; have HB3 := Lib.hid hb3; clear hb3))
  exact ⟨rfl, grown_tr HG1.out (grown_of HB3.out), rfl⟩
theorem kd_cases (x : Tx) : kdW x = none ∨ (x = tAll ∧ kdW x = some 0) ∨ (x = tProc ∧ kdW x = some 1) ∨ (x = tMod ∧ kdW x = some 2) ∨ (x = tUnits ∧ kdW x = some 3) ∨ (x = tBilled ∧ kdW x = some 4) ∨ (x = tOut ∧ kdW x = some 5) ∨ (x = tNot ∧ kdW x = some 6) ∨ (x = tO ∧ kdW x = some 7) := by
  by_cases h0 : x = tAll
  · subst h0; exact Or.inr (Or.inl ⟨rfl, rfl⟩)
  by_cases h1 : x = tProc
  · subst h1; exact Or.inr (Or.inr (Or.inl ⟨rfl, rfl⟩))
  by_cases h2 : x = tMod
  · subst h2; exact Or.inr (Or.inr (Or.inr (Or.inl ⟨rfl, rfl⟩)))
  by_cases h3 : x = tUnits
  · subst h3; exact Or.inr (Or.inr (Or.inr (Or.inr (Or.inl ⟨rfl, rfl⟩))))
  by_cases h4 : x = tBilled
  · subst h4; exact Or.inr (Or.inr (Or.inr (Or.inr (Or.inr (Or.inl ⟨rfl, rfl⟩)))))
  by_cases h5 : x = tOut
  · subst h5; exact Or.inr (Or.inr (Or.inr (Or.inr (Or.inr (Or.inr (Or.inl ⟨rfl, rfl⟩))))))
  by_cases h6 : x = tNot
  · subst h6; exact Or.inr (Or.inr (Or.inr (Or.inr (Or.inr (Or.inr (Or.inr (Or.inl ⟨rfl, rfl⟩)))))))
  by_cases h7 : x = tO
  · subst h7; exact Or.inr (Or.inr (Or.inr (Or.inr (Or.inr (Or.inr (Or.inr (Or.inr ⟨rfl, rfl⟩)))))))
  · left; unfold kdW; rw [if_neg h0, if_neg h1, if_neg h2, if_neg h3, if_neg h4, if_neg h5, if_neg h6, if_neg h7]
theorem kd_none {x : Tx} (h : kdW x = none) : x ≠ tAll ∧ x ≠ tProc ∧ x ≠ tMod ∧ x ≠ tUnits ∧ x ≠ tBilled ∧ x ≠ tOut ∧ x ≠ tNot ∧ x ≠ tO := by
  refine ⟨?_, ?_, ?_, ?_, ?_, ?_, ?_, ?_⟩ <;> (rintro rfl; revert h; decide)
theorem pC_none {E f : Nat} {l : List Wd} (h : kdW (tkW E l).1 = none) : pC E f l = .error (4, (tkW E l).2) := by
  cases l with
  | nil => cases f <;> rfl
  | cons x r =>
    obtain ⟨x, a⟩ := x
    obtain ⟨h0, h1, h2, h3, h4, h5, h6, h7⟩ := kd_none (x := x) h
    cases f with
    | zero =>
      have hb : begB x = false := by unfold begB; exact decide_eq_false (by simp [h0, h1, h2, h3, h4, h5, h6, h7])
      show (.error (if begB x = true then 10 else 4, a) : R Cd) = .error (4, a)
      rw [hb]; rfl
    | succ f => unfold pC; simp only; rw [if_neg h0, if_neg h1, if_neg h2, if_neg h3, if_neg h4, if_neg h5, if_neg h6, if_neg h7]; rfl
theorem pC_deep {E : Nat} {l : List Wd} {k : Int} (h : kdW (tkW E l).1 = some k) : pC E 0 l = .error (10, (tkW E l).2) := by
  cases l with
  | nil => exact absurd h (by show ¬ kdW [] = some k; rw [show kdW [] = none by decide]; simp)
  | cons x r =>
    obtain ⟨x, a⟩ := x
    have hb : begB x = true := by
      unfold begB
      have h : kdW x = some k := h
      rcases kd_cases x with e | ⟨rfl, _⟩ | ⟨rfl, _⟩ | ⟨rfl, _⟩ | ⟨rfl, _⟩ | ⟨rfl, _⟩ | ⟨rfl, _⟩ | ⟨rfl, _⟩ | ⟨rfl, _⟩
      · rw [e] at h; cases h
      all_goals exact decide_eq_true (by simp)
    show (.error (if begB x = true then 10 else 4, a) : R Cd) = .error (10, a)
    rw [hb]; rfl
/-- What condition does, at whatever depth. -/
theorem cond_any : ∀ (f : Nat) (d : Int), d + f = 17 → f ≤ 16 → ∀ (q E : Nat) (l : List Wd) (w : World), RdAt q E l w →
    Calls Tryz.prog 80 #[.pointer (some ⟨q, 0, none⟩), .int .i64 d] w fun e w' => Ans q E w (Cnd w.heap.size) (pC E f l) e w' := by
  intro f
  induction f with
  | zero =>
    intro d hd _ q E l w h
    cases hk : kdW (tkW E l).1 with
    | none => rw [pC_none hk]; exact cond_none q E l d hk w h
    | some k => rw [pC_deep hk]; exact cond_deep q E l d k hk (by omega) w h
  | succ f ih =>
    intro d hd hf q E l w h
    have IH := fun l w h => ih (d + 1) (by omega) (by omega) q E l w h
    cases hk : kdW (tkW E l).1 with
    | none => rw [pC_none hk]; exact cond_none q E l d hk w h
    | some k =>
      cases l with
      | nil => exact absurd hk (by show ¬ kdW [] = some k; rw [show kdW [] = none by decide]; simp)
      | cons x r =>
        obtain ⟨x, a⟩ := x
        rcases kd_cases x with e | ⟨rfl, _⟩ | ⟨rfl, _⟩ | ⟨rfl, _⟩ | ⟨rfl, _⟩ | ⟨rfl, _⟩ | ⟨rfl, _⟩ | ⟨rfl, _⟩ | ⟨rfl, _⟩
        · rw [show kdW (tkW E ((x, a) :: r)).1 = kdW x from rfl, e] at hk; cases hk
        · exact cond_all q E a r d (by omega) (by omega) w h
        · exact cond_proc q E a r d (by omega) (by omega) w h
        · exact cond_mod q E a r d (by omega) (by omega) w h
        · exact cond_units q E a r d (by omega) (by omega) w h
        · exact cond_billed q E a r d (by omega) (by omega) w h
        · exact cond_out q E a r d (by omega) (by omega) w h
        · exact cond_not q E a r d (by omega) (by omega) w f IH h
        · exact cond_pair q E a r d (by omega) (by omega) w f IH h
end Go.Proofs.YtoibhgoaibjopaaGreatDoor.Pl
end
