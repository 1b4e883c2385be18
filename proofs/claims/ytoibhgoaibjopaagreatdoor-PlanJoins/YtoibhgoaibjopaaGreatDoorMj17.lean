/-
  Texts put together (merge.py): PCnd.
-/
import Derived.Test.YtoibhgoaibjopaaGreatDoorMj16
/-
  What the reader's condition does, as a contract, kind by kind and by depth.
-/
section
set_option linter.unusedSimpArgs false
set_option linter.unusedVariables false
set_option maxRecDepth 100000
namespace Go.Proofs.YtoibhgoaibjopaaGreatDoor.Pl
open Go.RowKit
open Wo (Wd WdsAt box_cell box_two keepB heap_far)

def pMd (E : Nat) (r : List Wd) : R Cd := match pCode E 2 r with | .error e => .error e | .ok (lo, r) => .ok (.mk 2 lo [] 0 [], r)
def pPr (E : Nat) (r : List Wd) : R Cd := match pCode E 5 r with | .error e => .error e | .ok (lo, r) => match pCode E 5 r with | .error e => .error e | .ok (hi, r) => .ok (.mk 1 lo hi 0 [], r)
def pUn (E : Nat) (r : List Wd) : R Cd := match pNum E 9999 r with | .error e => .error e | .ok (n, r) => .ok (.mk 3 [] [] n [], r)
def pBi (E : Nat) (r : List Wd) : R Cd := match pMoney E r with | .error e => .error e | .ok (n, r) => .ok (.mk 4 [] [] n [], r)
set_option maxHeartbeats 8000000 in
theorem cond_all (q E a : Nat) (r : List Wd) (d : Int) (hd0 : 1 ≤ d) (hd : d ≤ 16) (w : World) (h : RdAt q E ((tAll, a) :: r) w) :
    Calls Tryz.prog 80 #[.pointer (some ⟨q, 0, none⟩), .int .i64 d] w fun e w' => Ans q E w (Cnd w.heap.size) (.ok (cd0, r)) e w' := by
  have hq := h.lt
  have hb0 := below_alloc w (.cells z5 32)
  have HT : Hid (Calls Tryz.prog 63 #[.pointer (some ⟨q, 0, none⟩)] (w.alloc (.cells z5 32)) fun e w' => e = .returned (.agg #[.string (mk tAll), .int .i64 (a : Nat)]) ∧ RdAt q E r w' ∧ (w.alloc (.cells z5 32)).grownBy w' (some q)) := take_any q E ((tAll, a) :: r) _ (h.grw hb0)
  have HKD : Hid (∀ W, Calls Tryz.prog 95 #[.string (mk tAll)] W fun e w' => e = .returned (.tuple #[.int .i64 0, .bool true]) ∧ w' = W) := fun W => kindOf_any tAll W
  have HG0 := Lib.hid (grown_of (p := some q) hb0)
  have HB0 := Lib.hid (heap_alloc_new w (.cells z5 32))
  have hz0 : w.heap.size + 1 ≤ (w.alloc (.cells z5 32)).heap.size := by simp
  clear h hb0
  generalize hX : mk tAll = X at *
  clear hX
  go_enter Tryz.func80, Tryz.ntmps80
  go_upto_region 1 with fail
  generalize w.alloc (.cells z5 32) = Wa at *
  go_wp2_with fail
  go_at_call 63
  refine HT.out.mono ?_
  rintro e w1 ⟨rfl, hr, hg⟩
  have hbw := below_alloc w1 (.cells #[.string X, .int .i64 (a : Nat)] 73)
  have hs1 := hg.size
  have HR1 := Lib.hid (hr.grw hbw)
  have HG1 := Lib.hid (grown_tr HG0.out (grown_alloc hg (.cells #[.string X, .int .i64 (a : Nat)] 73)))
  have HB1 := Lib.hid (keepB (grown_heap HB0.out hg (by omega)) hbw)
  have HX := Lib.hid (heap_alloc_new w1 (.cells #[.string X, .int .i64 (a : Nat)] 73))
  obtain ⟨d0, d1, -, -⟩ := box_two HX.out
  have hz1 : w.heap.size + 2 ≤ (w1.alloc (.cells #[.string X, .int .i64 (a : Nat)] 73)).heap.size := by simp; omega
  clear hr hg hbw HT HG0 HB0 hz0 hs1
  go_upto_region 2 with fail
  generalize w1.alloc (.cells #[.string X, .int .i64 (a : Nat)] 73) = W1 at *
  generalize w1.heap.size = p5 at *
  have hbc := below_alloc W1 (.cells #[.int .i64 0, .string ⟨#[]⟩, .string ⟨#[]⟩, .int .i64 0, .slice none 0 0] 32)
  have HR2 := Lib.hid (HR1.out.grw hbc)
  have HG2 := Lib.hid (grown_tr HG1.out (grown_of hbc))
  have HB2 := Lib.hid (keepB HB1.out hbc)
  have HC2 := Lib.hid (heap_alloc_new W1 (.cells #[.int .i64 0, .string ⟨#[]⟩, .string ⟨#[]⟩, .int .i64 0, .slice none 0 0] 32))
  have hz2 : w.heap.size + 3 ≤ (W1.alloc (.cells #[.int .i64 0, .string ⟨#[]⟩, .string ⟨#[]⟩, .int .i64 0, .slice none 0 0] 32)).heap.size := by simp; omega
  have hp8 : w.heap.size + 2 ≤ W1.heap.size := hz1
  have hz8 : W1.heap.size < (W1.alloc (.cells #[.int .i64 0, .string ⟨#[]⟩, .string ⟨#[]⟩, .int .i64 0, .slice none 0 0] 32)).heap.size := by simp
  clear hbc HR1 HG1 HB1
  go_upto_region 22 with (go_at_call 95; refine (HKD.out _).mono ?_; rintro e w2 ⟨rfl, hw2⟩; rw [hw2]; clear hw2 w2)
  generalize W1.alloc (.cells #[.int .i64 0, .string ⟨#[]⟩, .string ⟨#[]⟩, .int .i64 0, .slice none 0 0] 32) = W2 at *
  generalize W1.heap.size = p8 at *
  obtain ⟨x0, x1, x2, x3, x4⟩ := box_five HC2.out
  obtain ⟨g0, g1, g2, g3, g4⟩ := box_five HB2.out
  have f0 := box_froz HB2.out 0
  have f1 := box_froz HB2.out 1
  have f2 := box_froz HB2.out 2
  have f3 := box_froz HB2.out 3
  have f4 := box_froz HB2.out 4
  go_wp2
  refine bodyPost_ret (v := .agg #[.int .i64 0, .string ⟨#[]⟩, .string ⟨#[]⟩, .int .i64 0, .slice none 0 0]) (by simp [results, Tryz.results80, go_sem, g0, g1, g2, g3, g4]) rfl ?_
  refine ⟨grown_put5 HG2.out (Nat.le_refl _) _ _ _ _ _, ?_⟩
  exact ⟨⟨_, rfl, _, _, _, rfl, KsAt.nil _ _, ok1_zero ⟨by decide, by decide⟩ _ (Nat.zero_le _)⟩, rd_put5 HR2.out hq _ _ _ _ _⟩
set_option maxHeartbeats 8000000 in
theorem cond_out (q E a : Nat) (r : List Wd) (d : Int) (hd0 : 1 ≤ d) (hd : d ≤ 16) (w : World) (h : RdAt q E ((tOut, a) :: r) w) :
    Calls Tryz.prog 80 #[.pointer (some ⟨q, 0, none⟩), .int .i64 d] w fun e w' => Ans q E w (Cnd w.heap.size) (.ok (.mk 5 [] [] 0 [], r)) e w' := by
  have hq := h.lt
  have hb0 := below_alloc w (.cells z5 32)
  have HT : Hid (Calls Tryz.prog 63 #[.pointer (some ⟨q, 0, none⟩)] (w.alloc (.cells z5 32)) fun e w' => e = .returned (.agg #[.string (mk tOut), .int .i64 (a : Nat)]) ∧ RdAt q E r w' ∧ (w.alloc (.cells z5 32)).grownBy w' (some q)) := take_any q E ((tOut, a) :: r) _ (h.grw hb0)
  have HKD : Hid (∀ W, Calls Tryz.prog 95 #[.string (mk tOut)] W fun e w' => e = .returned (.tuple #[.int .i64 5, .bool true]) ∧ w' = W) := fun W => kindOf_any tOut W
  have HG0 := Lib.hid (grown_of (p := some q) hb0)
  have HB0 := Lib.hid (heap_alloc_new w (.cells z5 32))
  have hz0 : w.heap.size + 1 ≤ (w.alloc (.cells z5 32)).heap.size := by simp
  clear h hb0
  generalize hX : mk tOut = X at *
  clear hX
  go_enter Tryz.func80, Tryz.ntmps80
  go_upto_region 1 with fail
  generalize w.alloc (.cells z5 32) = Wa at *
  go_wp2_with fail
  go_at_call 63
  refine HT.out.mono ?_
  rintro e w1 ⟨rfl, hr, hg⟩
  have hbw := below_alloc w1 (.cells #[.string X, .int .i64 (a : Nat)] 73)
  have hs1 := hg.size
  have HR1 := Lib.hid (hr.grw hbw)
  have HG1 := Lib.hid (grown_tr HG0.out (grown_alloc hg (.cells #[.string X, .int .i64 (a : Nat)] 73)))
  have HB1 := Lib.hid (keepB (grown_heap HB0.out hg (by omega)) hbw)
  have HX := Lib.hid (heap_alloc_new w1 (.cells #[.string X, .int .i64 (a : Nat)] 73))
  obtain ⟨d0, d1, -, -⟩ := box_two HX.out
  have hz1 : w.heap.size + 2 ≤ (w1.alloc (.cells #[.string X, .int .i64 (a : Nat)] 73)).heap.size := by simp; omega
  clear hr hg hbw HT HG0 HB0 hz0 hs1
  go_upto_region 2 with fail
  generalize w1.alloc (.cells #[.string X, .int .i64 (a : Nat)] 73) = W1 at *
  generalize w1.heap.size = p5 at *
  have hbc := below_alloc W1 (.cells #[.int .i64 5, .string ⟨#[]⟩, .string ⟨#[]⟩, .int .i64 0, .slice none 0 0] 32)
  have HR2 := Lib.hid (HR1.out.grw hbc)
  have HG2 := Lib.hid (grown_tr HG1.out (grown_of hbc))
  have HB2 := Lib.hid (keepB HB1.out hbc)
  have HC2 := Lib.hid (heap_alloc_new W1 (.cells #[.int .i64 5, .string ⟨#[]⟩, .string ⟨#[]⟩, .int .i64 0, .slice none 0 0] 32))
  have hz2 : w.heap.size + 3 ≤ (W1.alloc (.cells #[.int .i64 5, .string ⟨#[]⟩, .string ⟨#[]⟩, .int .i64 0, .slice none 0 0] 32)).heap.size := by simp; omega
  have hp8 : w.heap.size + 2 ≤ W1.heap.size := hz1
  have hz8 : W1.heap.size < (W1.alloc (.cells #[.int .i64 5, .string ⟨#[]⟩, .string ⟨#[]⟩, .int .i64 0, .slice none 0 0] 32)).heap.size := by simp
  clear hbc HR1 HG1 HB1
  go_upto_region 22 with (go_at_call 95; refine (HKD.out _).mono ?_; rintro e w2 ⟨rfl, hw2⟩; rw [hw2]; clear hw2 w2)
  generalize W1.alloc (.cells #[.int .i64 5, .string ⟨#[]⟩, .string ⟨#[]⟩, .int .i64 0, .slice none 0 0] 32) = W2 at *
  generalize W1.heap.size = p8 at *
  obtain ⟨x0, x1, x2, x3, x4⟩ := box_five HC2.out
  obtain ⟨g0, g1, g2, g3, g4⟩ := box_five HB2.out
  have f0 := box_froz HB2.out 0
  have f1 := box_froz HB2.out 1
  have f2 := box_froz HB2.out 2
  have f3 := box_froz HB2.out 3
  have f4 := box_froz HB2.out 4
  go_wp2
  refine bodyPost_ret (v := .agg #[.int .i64 5, .string ⟨#[]⟩, .string ⟨#[]⟩, .int .i64 0, .slice none 0 0]) (by simp [results, Tryz.results80, go_sem, g0, g1, g2, g3, g4]) rfl ?_
  refine ⟨grown_put5 HG2.out (Nat.le_refl _) _ _ _ _ _, ?_⟩
  exact ⟨⟨_, rfl, _, _, _, rfl, KsAt.nil _ _, ok1_zero ⟨by decide, by decide⟩ _ (Nat.zero_le _)⟩, rd_put5 HR2.out hq _ _ _ _ _⟩
set_option maxHeartbeats 8000000 in
theorem cond_mod (q E a : Nat) (r : List Wd) (d : Int) (hd0 : 1 ≤ d) (hd : d ≤ 16) (w : World) (h : RdAt q E ((tMod, a) :: r) w) :
    Calls Tryz.prog 80 #[.pointer (some ⟨q, 0, none⟩), .int .i64 d] w fun e w' => Ans q E w (Cnd w.heap.size) (pMd E r) e w' := by
  have hq := h.lt
  have hb0 := below_alloc w (.cells z5 32)
  have HT : Hid (Calls Tryz.prog 63 #[.pointer (some ⟨q, 0, none⟩)] (w.alloc (.cells z5 32)) fun e w' => e = .returned (.agg #[.string (mk tMod), .int .i64 (a : Nat)]) ∧ RdAt q E r w' ∧ (w.alloc (.cells z5 32)).grownBy w' (some q)) := take_any q E ((tMod, a) :: r) _ (h.grw hb0)
  have HKD : Hid (∀ W, Calls Tryz.prog 95 #[.string (mk tMod)] W fun e w' => e = .returned (.tuple #[.int .i64 2, .bool true]) ∧ w' = W) := fun W => kindOf_any tMod W
  have HG0 := Lib.hid (grown_of (p := some q) hb0)
  have HB0 := Lib.hid (heap_alloc_new w (.cells z5 32))
  have hz0 : w.heap.size + 1 ≤ (w.alloc (.cells z5 32)).heap.size := by simp
  clear h hb0
  generalize hX : mk tMod = X at *
  clear hX
  go_enter Tryz.func80, Tryz.ntmps80
  go_upto_region 1 with fail
  generalize w.alloc (.cells z5 32) = Wa at *
  go_wp2_with fail
  go_at_call 63
  refine HT.out.mono ?_
  rintro e w1 ⟨rfl, hr, hg⟩
  have hbw := below_alloc w1 (.cells #[.string X, .int .i64 (a : Nat)] 73)
  have hs1 := hg.size
  have HR1 := Lib.hid (hr.grw hbw)
  have HG1 := Lib.hid (grown_tr HG0.out (grown_alloc hg (.cells #[.string X, .int .i64 (a : Nat)] 73)))
  have HB1 := Lib.hid (keepB (grown_heap HB0.out hg (by omega)) hbw)
  have HX := Lib.hid (heap_alloc_new w1 (.cells #[.string X, .int .i64 (a : Nat)] 73))
  obtain ⟨d0, d1, -, -⟩ := box_two HX.out
  have hz1 : w.heap.size + 2 ≤ (w1.alloc (.cells #[.string X, .int .i64 (a : Nat)] 73)).heap.size := by simp; omega
  clear hr hg hbw HT HG0 HB0 hz0 hs1
  go_upto_region 2 with fail
  generalize w1.alloc (.cells #[.string X, .int .i64 (a : Nat)] 73) = W1 at *
  generalize w1.heap.size = p5 at *
  have hbc := below_alloc W1 (.cells #[.int .i64 2, .string ⟨#[]⟩, .string ⟨#[]⟩, .int .i64 0, .slice none 0 0] 32)
  have HR2 := Lib.hid (HR1.out.grw hbc)
  have HG2 := Lib.hid (grown_tr HG1.out (grown_of hbc))
  have HB2 := Lib.hid (keepB HB1.out hbc)
  have HC2 := Lib.hid (heap_alloc_new W1 (.cells #[.int .i64 2, .string ⟨#[]⟩, .string ⟨#[]⟩, .int .i64 0, .slice none 0 0] 32))
  have hz2 : w.heap.size + 3 ≤ (W1.alloc (.cells #[.int .i64 2, .string ⟨#[]⟩, .string ⟨#[]⟩, .int .i64 0, .slice none 0 0] 32)).heap.size := by simp; omega
  have hp8 : w.heap.size + 2 ≤ W1.heap.size := hz1
  have hz8 : W1.heap.size < (W1.alloc (.cells #[.int .i64 2, .string ⟨#[]⟩, .string ⟨#[]⟩, .int .i64 0, .slice none 0 0] 32)).heap.size := by simp
  clear hbc HR1 HG1 HB1
  go_upto_region 13 with (go_at_call 95; refine (HKD.out _).mono ?_; rintro e w2 ⟨rfl, hw2⟩; rw [hw2]; clear hw2 w2)
  generalize W1.alloc (.cells #[.int .i64 2, .string ⟨#[]⟩, .string ⟨#[]⟩, .int .i64 0, .slice none 0 0] 32) = W2 at *
  generalize W1.heap.size = p8 at *
  go_wp2_with fail
  go_at_call 96
  refine (code2_any q E r W2 HR2.out).mono ?_
  rintro e v2 ⟨hg2, ha2⟩
  have hsv2 := hg2.size
  have HG2' := Lib.hid (grown_tr HG2.out hg2)
  have HB2' := Lib.hid (grown_heap HB2.out hg2 (by omega))
  have HC2' := Lib.hid (grown_heap HC2.out hg2 (by omega))
  cases hc2 : pCode E 2 r with
  | error fl =>
    rw [hc2] at ha2
    obtain rfl := ha2
    refine thrown rfl ⟨HG2'.out, ?_⟩
    unfold pMd; simp only [hc2]
  | ok z2 =>
    obtain ⟨y2, s2⟩ := z2
    rw [hc2] at ha2
    obtain ⟨⟨v, rfl, hv⟩, hr2⟩ := ha2
    obtain rfl : v = .string (mk y2) := hv
    have hln : y2.length ≤ 65536 := by obtain ⟨pp, -, hcb⟩ := code_inv hc2; simp only [Cm.codeB, Bool.and_eq_true, decide_eq_true_eq] at hcb; omega
    have HC := Lib.hid hc2
    clear hc2
    have HR3 := Lib.hid (rd_set hr2 (p := p8) (by omega) 1 (.string (mk y2)))
    have HG3 := Lib.hid (grown_new HG2'.out (q := p8) (by omega) 1 (.string (mk y2)))
    have HB3 := Lib.hid (heap_far (q := p8) (j := 1) (u := .string (mk y2)) HB2'.out (by omega))
    have HC3 : Hid ((v2.setCell ⟨p8, 1, none⟩ (.string (mk y2))).heap[p8]? = some (.cells #[.int .i64 2, .string (mk y2), .string ⟨#[]⟩, .int .i64 0, .slice none 0 0] 32 (0, 0))) := heap_setCell_same v2 p8 1 _ _ (.string (mk y2)) HC2'.out
    have hzz3 : (v2.setCell ⟨p8, 1, none⟩ (.string (mk y2))).heap.size = v2.heap.size := by simp [World.setCell]
    have hz3 : w.heap.size + 3 ≤ (v2.setCell ⟨p8, 1, none⟩ (.string (mk y2))).heap.size := by omega
    obtain ⟨m0, m1, m2, m3, m4⟩ := box_five HC2'.out
    have mf := box_froz HC2'.out 1
    clear hr2 hg2 HR2 HG2 HB2 HC2 HG2' HB2' HC2' hzz3
    go_upto_region 22 with fail
    generalize hW3 : v2.setCell ⟨p8, 1, none⟩ (.string (mk y2)) = W3 at *
    clear hW3 m0 m1 m2 m3 m4 mf
    obtain ⟨x0, x1, x2, x3, x4⟩ := box_five HC3.out
    obtain ⟨g0, g1, g2, g3, g4⟩ := box_five HB3.out
    have f0 := box_froz HB3.out 0
    have f1 := box_froz HB3.out 1
    have f2 := box_froz HB3.out 2
    have f3 := box_froz HB3.out 3
    have f4 := box_froz HB3.out 4
    go_wp2
    refine bodyPost_ret (v := .agg #[.int .i64 2, .string (mk y2), .string ⟨#[]⟩, .int .i64 0, .slice none 0 0]) (by simp [results, Tryz.results80, go_sem, g0, g1, g2, g3, g4]) rfl ?_
    refine ⟨grown_put5 HG3.out (Nat.le_refl _) _ _ _ _ _, ?_⟩
    unfold pMd; simp only [HC.out]
    exact ⟨⟨_, rfl, _, _, _, rfl, KsAt.nil _ _, ⟨⟨by show (-9223372036854775808 : Int) ≤ 2; decide, by show (2 : Int) ≤ 9223372036854775807; decide⟩, ⟨by show (-9223372036854775808 : Int) ≤ 0; decide, by show (0 : Int) ≤ 9223372036854775807; decide⟩, by show y2.length ≤ 281474976710656; omega, Nat.zero_le _, Nat.zero_le _⟩⟩, rd_put5 HR3.out hq _ _ _ _ _⟩
set_option maxHeartbeats 8000000 in
theorem cond_proc (q E a : Nat) (r : List Wd) (d : Int) (hd0 : 1 ≤ d) (hd : d ≤ 16) (w : World) (h : RdAt q E ((tProc, a) :: r) w) :
    Calls Tryz.prog 80 #[.pointer (some ⟨q, 0, none⟩), .int .i64 d] w fun e w' => Ans q E w (Cnd w.heap.size) (pPr E r) e w' := by
  have hq := h.lt
  have hb0 := below_alloc w (.cells z5 32)
  have HT : Hid (Calls Tryz.prog 63 #[.pointer (some ⟨q, 0, none⟩)] (w.alloc (.cells z5 32)) fun e w' => e = .returned (.agg #[.string (mk tProc), .int .i64 (a : Nat)]) ∧ RdAt q E r w' ∧ (w.alloc (.cells z5 32)).grownBy w' (some q)) := take_any q E ((tProc, a) :: r) _ (h.grw hb0)
  have HKD : Hid (∀ W, Calls Tryz.prog 95 #[.string (mk tProc)] W fun e w' => e = .returned (.tuple #[.int .i64 1, .bool true]) ∧ w' = W) := fun W => kindOf_any tProc W
  have HG0 := Lib.hid (grown_of (p := some q) hb0)
  have HB0 := Lib.hid (heap_alloc_new w (.cells z5 32))
  have hz0 : w.heap.size + 1 ≤ (w.alloc (.cells z5 32)).heap.size := by simp
  clear h hb0
  generalize hX : mk tProc = X at *
  clear hX
  go_enter Tryz.func80, Tryz.ntmps80
  go_upto_region 1 with fail
  generalize w.alloc (.cells z5 32) = Wa at *
  go_wp2_with fail
  go_at_call 63
  refine HT.out.mono ?_
  rintro e w1 ⟨rfl, hr, hg⟩
  have hbw := below_alloc w1 (.cells #[.string X, .int .i64 (a : Nat)] 73)
  have hs1 := hg.size
  have HR1 := Lib.hid (hr.grw hbw)
  have HG1 := Lib.hid (grown_tr HG0.out (grown_alloc hg (.cells #[.string X, .int .i64 (a : Nat)] 73)))
  have HB1 := Lib.hid (keepB (grown_heap HB0.out hg (by omega)) hbw)
  have HX := Lib.hid (heap_alloc_new w1 (.cells #[.string X, .int .i64 (a : Nat)] 73))
  obtain ⟨d0, d1, -, -⟩ := box_two HX.out
  have hz1 : w.heap.size + 2 ≤ (w1.alloc (.cells #[.string X, .int .i64 (a : Nat)] 73)).heap.size := by simp; omega
  clear hr hg hbw HT HG0 HB0 hz0 hs1
  go_upto_region 2 with fail
  generalize w1.alloc (.cells #[.string X, .int .i64 (a : Nat)] 73) = W1 at *
  generalize w1.heap.size = p5 at *
  have hbc := below_alloc W1 (.cells #[.int .i64 1, .string ⟨#[]⟩, .string ⟨#[]⟩, .int .i64 0, .slice none 0 0] 32)
  have HR2 := Lib.hid (HR1.out.grw hbc)
  have HG2 := Lib.hid (grown_tr HG1.out (grown_of hbc))
  have HB2 := Lib.hid (keepB HB1.out hbc)
  have HC2 := Lib.hid (heap_alloc_new W1 (.cells #[.int .i64 1, .string ⟨#[]⟩, .string ⟨#[]⟩, .int .i64 0, .slice none 0 0] 32))
  have hz2 : w.heap.size + 3 ≤ (W1.alloc (.cells #[.int .i64 1, .string ⟨#[]⟩, .string ⟨#[]⟩, .int .i64 0, .slice none 0 0] 32)).heap.size := by simp; omega
  have hp8 : w.heap.size + 2 ≤ W1.heap.size := hz1
  have hz8 : W1.heap.size < (W1.alloc (.cells #[.int .i64 1, .string ⟨#[]⟩, .string ⟨#[]⟩, .int .i64 0, .slice none 0 0] 32)).heap.size := by simp
  clear hbc HR1 HG1 HB1
  go_upto_region 10 with (go_at_call 95; refine (HKD.out _).mono ?_; rintro e w2 ⟨rfl, hw2⟩; rw [hw2]; clear hw2 w2)
  generalize W1.alloc (.cells #[.int .i64 1, .string ⟨#[]⟩, .string ⟨#[]⟩, .int .i64 0, .slice none 0 0] 32) = W2 at *
  generalize W1.heap.size = p8 at *
  go_wp2_with fail
  go_at_call 96
  refine (code5_any q E r W2 HR2.out).mono ?_
  rintro e v2 ⟨hg2, ha2⟩
  have hsv2 := hg2.size
  have HG2' := Lib.hid (grown_tr HG2.out hg2)
  have HB2' := Lib.hid (grown_heap HB2.out hg2 (by omega))
  have HC2' := Lib.hid (grown_heap HC2.out hg2 (by omega))
  cases hc2 : pCode E 5 r with
  | error fl =>
    rw [hc2] at ha2
    obtain rfl := ha2
    refine thrown rfl ⟨HG2'.out, ?_⟩
    unfold pPr; simp only [hc2]
  | ok z2 =>
    obtain ⟨y2, s2⟩ := z2
    rw [hc2] at ha2
    obtain ⟨⟨v, rfl, hv⟩, hr2⟩ := ha2
    obtain rfl : v = .string (mk y2) := hv
    have hln : y2.length ≤ 65536 := by obtain ⟨pp, -, hcb⟩ := code_inv hc2; simp only [Cm.codeB, Bool.and_eq_true, decide_eq_true_eq] at hcb; omega
    have HCA := Lib.hid hc2
    clear hc2
    have HR3 := Lib.hid (rd_set hr2 (p := p8) (by omega) 1 (.string (mk y2)))
    have HG3 := Lib.hid (grown_new HG2'.out (q := p8) (by omega) 1 (.string (mk y2)))
    have HB3 := Lib.hid (heap_far (q := p8) (j := 1) (u := .string (mk y2)) HB2'.out (by omega))
    have HC3 : Hid ((v2.setCell ⟨p8, 1, none⟩ (.string (mk y2))).heap[p8]? = some (.cells #[.int .i64 1, .string (mk y2), .string ⟨#[]⟩, .int .i64 0, .slice none 0 0] 32 (0, 0))) := heap_setCell_same v2 p8 1 _ _ (.string (mk y2)) HC2'.out
    have hzz3 : (v2.setCell ⟨p8, 1, none⟩ (.string (mk y2))).heap.size = v2.heap.size := by simp [World.setCell]
    have hz3 : w.heap.size + 3 ≤ (v2.setCell ⟨p8, 1, none⟩ (.string (mk y2))).heap.size := by omega
    obtain ⟨m0, m1, m2, m3, m4⟩ := box_five HC2'.out
    have mf := box_froz HC2'.out 1
    clear hr2 hg2 HR2 HG2 HB2 HC2 HG2' HB2' HC2' hzz3
    go_upto_region 11 with fail
    generalize hW3 : v2.setCell ⟨p8, 1, none⟩ (.string (mk y2)) = W3 at *
    clear hW3 m0 m1 m2 m3 m4 mf
    go_wp2_with fail
    go_at_call 96
    refine (code5_any q E s2 W3 HR3.out).mono ?_
    rintro e v3 ⟨hg3, ha3⟩
    have hsv3 := hg3.size
    have HG3' := Lib.hid (grown_tr HG3.out hg3)
    have HB3' := Lib.hid (grown_heap HB3.out hg3 (by omega))
    have HC3' := Lib.hid (grown_heap HC3.out hg3 (by omega))
    cases hc3 : pCode E 5 s2 with
    | error fl =>
      rw [hc3] at ha3
      obtain rfl := ha3
      refine thrown rfl ⟨HG3'.out, ?_⟩
      unfold pPr; simp only [HCA.out, hc3]
    | ok z3 =>
      obtain ⟨y3, s3⟩ := z3
      rw [hc3] at ha3
      obtain ⟨⟨v, rfl, hv⟩, hr3⟩ := ha3
      obtain rfl : v = .string (mk y3) := hv
      have hln2 : y3.length ≤ 65536 := by obtain ⟨pp, -, hcb⟩ := code_inv hc3; simp only [Cm.codeB, Bool.and_eq_true, decide_eq_true_eq] at hcb; omega
      have HCB := Lib.hid hc3
      clear hc3
      have HR4 := Lib.hid (rd_set hr3 (p := p8) (by omega) 2 (.string (mk y3)))
      have HG4 := Lib.hid (grown_new HG3'.out (q := p8) (by omega) 2 (.string (mk y3)))
      have HB4 := Lib.hid (heap_far (q := p8) (j := 2) (u := .string (mk y3)) HB3'.out (by omega))
      have HC4 : Hid ((v3.setCell ⟨p8, 2, none⟩ (.string (mk y3))).heap[p8]? = some (.cells #[.int .i64 1, .string (mk y2), .string (mk y3), .int .i64 0, .slice none 0 0] 32 (0, 0))) := heap_setCell_same v3 p8 2 _ _ (.string (mk y3)) HC3'.out
      have hzz4 : (v3.setCell ⟨p8, 2, none⟩ (.string (mk y3))).heap.size = v3.heap.size := by simp [World.setCell]
      have hz4 : w.heap.size + 3 ≤ (v3.setCell ⟨p8, 2, none⟩ (.string (mk y3))).heap.size := by omega
      obtain ⟨m0, m1, m2, m3, m4⟩ := box_five HC3'.out
      have mf := box_froz HC3'.out 2
      clear hr3 hg3 HR3 HG3 HB3 HC3 HG3' HB3' HC3' hzz4
      go_upto_region 22 with fail
      generalize hW4 : v3.setCell ⟨p8, 2, none⟩ (.string (mk y3)) = W4 at *
      clear hW4 m0 m1 m2 m3 m4 mf
      obtain ⟨x0, x1, x2, x3, x4⟩ := box_five HC4.out
      obtain ⟨g0, g1, g2, g3, g4⟩ := box_five HB4.out
      have f0 := box_froz HB4.out 0
      have f1 := box_froz HB4.out 1
      have f2 := box_froz HB4.out 2
      have f3 := box_froz HB4.out 3
      have f4 := box_froz HB4.out 4
      go_wp2
      refine bodyPost_ret (v := .agg #[.int .i64 1, .string (mk y2), .string (mk y3), .int .i64 0, .slice none 0 0]) (by simp [results, Tryz.results80, go_sem, g0, g1, g2, g3, g4]) rfl ?_
      refine ⟨grown_put5 HG4.out (Nat.le_refl _) _ _ _ _ _, ?_⟩
      unfold pPr; simp only [HCA.out, HCB.out]
      exact ⟨⟨_, rfl, _, _, _, rfl, KsAt.nil _ _, ⟨⟨by show (-9223372036854775808 : Int) ≤ 1; decide, by show (1 : Int) ≤ 9223372036854775807; decide⟩, ⟨by show (-9223372036854775808 : Int) ≤ 0; decide, by show (0 : Int) ≤ 9223372036854775807; decide⟩, by show y2.length ≤ 281474976710656; omega, by show y3.length ≤ 281474976710656; omega, Nat.zero_le _⟩⟩, rd_put5 HR4.out hq _ _ _ _ _⟩
set_option maxHeartbeats 8000000 in
theorem cond_units (q E a : Nat) (r : List Wd) (d : Int) (hd0 : 1 ≤ d) (hd : d ≤ 16) (w : World) (h : RdAt q E ((tUnits, a) :: r) w) :
    Calls Tryz.prog 80 #[.pointer (some ⟨q, 0, none⟩), .int .i64 d] w fun e w' => Ans q E w (Cnd w.heap.size) (pUn E r) e w' := by
  have hq := h.lt
  have hb0 := below_alloc w (.cells z5 32)
  have HT : Hid (Calls Tryz.prog 63 #[.pointer (some ⟨q, 0, none⟩)] (w.alloc (.cells z5 32)) fun e w' => e = .returned (.agg #[.string (mk tUnits), .int .i64 (a : Nat)]) ∧ RdAt q E r w' ∧ (w.alloc (.cells z5 32)).grownBy w' (some q)) := take_any q E ((tUnits, a) :: r) _ (h.grw hb0)
  have HKD : Hid (∀ W, Calls Tryz.prog 95 #[.string (mk tUnits)] W fun e w' => e = .returned (.tuple #[.int .i64 3, .bool true]) ∧ w' = W) := fun W => kindOf_any tUnits W
  have HG0 := Lib.hid (grown_of (p := some q) hb0)
  have HB0 := Lib.hid (heap_alloc_new w (.cells z5 32))
  have hz0 : w.heap.size + 1 ≤ (w.alloc (.cells z5 32)).heap.size := by simp
  clear h hb0
  generalize hX : mk tUnits = X at *
  clear hX
  go_enter Tryz.func80, Tryz.ntmps80
  go_upto_region 1 with fail
  generalize w.alloc (.cells z5 32) = Wa at *
  go_wp2_with fail
  go_at_call 63
  refine HT.out.mono ?_
  rintro e w1 ⟨rfl, hr, hg⟩
  have hbw := below_alloc w1 (.cells #[.string X, .int .i64 (a : Nat)] 73)
  have hs1 := hg.size
  have HR1 := Lib.hid (hr.grw hbw)
  have HG1 := Lib.hid (grown_tr HG0.out (grown_alloc hg (.cells #[.string X, .int .i64 (a : Nat)] 73)))
  have HB1 := Lib.hid (keepB (grown_heap HB0.out hg (by omega)) hbw)
  have HX := Lib.hid (heap_alloc_new w1 (.cells #[.string X, .int .i64 (a : Nat)] 73))
  obtain ⟨d0, d1, -, -⟩ := box_two HX.out
  have hz1 : w.heap.size + 2 ≤ (w1.alloc (.cells #[.string X, .int .i64 (a : Nat)] 73)).heap.size := by simp; omega
  clear hr hg hbw HT HG0 HB0 hz0 hs1
  go_upto_region 2 with fail
  generalize w1.alloc (.cells #[.string X, .int .i64 (a : Nat)] 73) = W1 at *
  generalize w1.heap.size = p5 at *
  have hbc := below_alloc W1 (.cells #[.int .i64 3, .string ⟨#[]⟩, .string ⟨#[]⟩, .int .i64 0, .slice none 0 0] 32)
  have HR2 := Lib.hid (HR1.out.grw hbc)
  have HG2 := Lib.hid (grown_tr HG1.out (grown_of hbc))
  have HB2 := Lib.hid (keepB HB1.out hbc)
  have HC2 := Lib.hid (heap_alloc_new W1 (.cells #[.int .i64 3, .string ⟨#[]⟩, .string ⟨#[]⟩, .int .i64 0, .slice none 0 0] 32))
  have hz2 : w.heap.size + 3 ≤ (W1.alloc (.cells #[.int .i64 3, .string ⟨#[]⟩, .string ⟨#[]⟩, .int .i64 0, .slice none 0 0] 32)).heap.size := by simp; omega
  have hp8 : w.heap.size + 2 ≤ W1.heap.size := hz1
  have hz8 : W1.heap.size < (W1.alloc (.cells #[.int .i64 3, .string ⟨#[]⟩, .string ⟨#[]⟩, .int .i64 0, .slice none 0 0] 32)).heap.size := by simp
  clear hbc HR1 HG1 HB1
  go_upto_region 15 with (go_at_call 95; refine (HKD.out _).mono ?_; rintro e w2 ⟨rfl, hw2⟩; rw [hw2]; clear hw2 w2)
  generalize W1.alloc (.cells #[.int .i64 3, .string ⟨#[]⟩, .string ⟨#[]⟩, .int .i64 0, .slice none 0 0] 32) = W2 at *
  generalize W1.heap.size = p8 at *
  go_wp2_with fail
  go_at_call 79
  refine (number_any q E 9999 r W2 HR2.out).mono ?_
  rintro e v2 ⟨hg2, ha2⟩
  have hsv2 := hg2.size
  have HG2' := Lib.hid (grown_tr HG2.out hg2)
  have HB2' := Lib.hid (grown_heap HB2.out hg2 (by omega))
  have HC2' := Lib.hid (grown_heap HC2.out hg2 (by omega))
  cases hc2 : pNum E 9999 r with
  | error fl =>
    rw [hc2] at ha2
    obtain rfl := ha2
    refine thrown rfl ⟨HG2'.out, ?_⟩
    unfold pUn; simp only [hc2]
  | ok z2 =>
    obtain ⟨y2, s2⟩ := z2
    rw [hc2] at ha2
    obtain ⟨⟨v, rfl, hv⟩, hr2⟩ := ha2
    obtain rfl : v = .int .i64 y2 := hv
    obtain ⟨_, _, -, hb1, hb2, -⟩ := num_inv hc2
    have HC := Lib.hid hc2
    clear hc2
    have HR3 := Lib.hid (rd_set hr2 (p := p8) (by omega) 3 (.int .i64 y2))
    have HG3 := Lib.hid (grown_new HG2'.out (q := p8) (by omega) 3 (.int .i64 y2))
    have HB3 := Lib.hid (heap_far (q := p8) (j := 3) (u := .int .i64 y2) HB2'.out (by omega))
    have HC3 : Hid ((v2.setCell ⟨p8, 3, none⟩ (.int .i64 y2)).heap[p8]? = some (.cells #[.int .i64 3, .string ⟨#[]⟩, .string ⟨#[]⟩, .int .i64 y2, .slice none 0 0] 32 (0, 0))) := heap_setCell_same v2 p8 3 _ _ (.int .i64 y2) HC2'.out
    have hzz3 : (v2.setCell ⟨p8, 3, none⟩ (.int .i64 y2)).heap.size = v2.heap.size := by simp [World.setCell]
    have hz3 : w.heap.size + 3 ≤ (v2.setCell ⟨p8, 3, none⟩ (.int .i64 y2)).heap.size := by omega
    obtain ⟨m0, m1, m2, m3, m4⟩ := box_five HC2'.out
    have mf := box_froz HC2'.out 3
    clear hr2 hg2 HR2 HG2 HB2 HC2 HG2' HB2' HC2' hzz3
    go_upto_region 22 with fail
    generalize hW3 : v2.setCell ⟨p8, 3, none⟩ (.int .i64 y2) = W3 at *
    clear hW3 m0 m1 m2 m3 m4 mf
    obtain ⟨x0, x1, x2, x3, x4⟩ := box_five HC3.out
    obtain ⟨g0, g1, g2, g3, g4⟩ := box_five HB3.out
    have f0 := box_froz HB3.out 0
    have f1 := box_froz HB3.out 1
    have f2 := box_froz HB3.out 2
    have f3 := box_froz HB3.out 3
    have f4 := box_froz HB3.out 4
    go_wp2
    refine bodyPost_ret (v := .agg #[.int .i64 3, .string ⟨#[]⟩, .string ⟨#[]⟩, .int .i64 y2, .slice none 0 0]) (by simp [results, Tryz.results80, go_sem, g0, g1, g2, g3, g4]) rfl ?_
    refine ⟨grown_put5 HG3.out (Nat.le_refl _) _ _ _ _ _, ?_⟩
    unfold pUn; simp only [HC.out]
    exact ⟨⟨_, rfl, _, _, _, rfl, KsAt.nil _ _, ⟨⟨by show (-9223372036854775808 : Int) ≤ 3; decide, by show (3 : Int) ≤ 9223372036854775807; decide⟩, ⟨by show (-9223372036854775808 : Int) ≤ y2; omega, by show y2 ≤ 9223372036854775807; omega⟩, Nat.zero_le _, Nat.zero_le _, Nat.zero_le _⟩⟩, rd_put5 HR3.out hq _ _ _ _ _⟩
set_option maxHeartbeats 8000000 in
theorem cond_billed (q E a : Nat) (r : List Wd) (d : Int) (hd0 : 1 ≤ d) (hd : d ≤ 16) (w : World) (h : RdAt q E ((tBilled, a) :: r) w) :
    Calls Tryz.prog 80 #[.pointer (some ⟨q, 0, none⟩), .int .i64 d] w fun e w' => Ans q E w (Cnd w.heap.size) (pBi E r) e w' := by
  have hq := h.lt
  have hb0 := below_alloc w (.cells z5 32)
  have HT : Hid (Calls Tryz.prog 63 #[.pointer (some ⟨q, 0, none⟩)] (w.alloc (.cells z5 32)) fun e w' => e = .returned (.agg #[.string (mk tBilled), .int .i64 (a : Nat)]) ∧ RdAt q E r w' ∧ (w.alloc (.cells z5 32)).grownBy w' (some q)) := take_any q E ((tBilled, a) :: r) _ (h.grw hb0)
  have HKD : Hid (∀ W, Calls Tryz.prog 95 #[.string (mk tBilled)] W fun e w' => e = .returned (.tuple #[.int .i64 4, .bool true]) ∧ w' = W) := fun W => kindOf_any tBilled W
  have HG0 := Lib.hid (grown_of (p := some q) hb0)
  have HB0 := Lib.hid (heap_alloc_new w (.cells z5 32))
  have hz0 : w.heap.size + 1 ≤ (w.alloc (.cells z5 32)).heap.size := by simp
  clear h hb0
  generalize hX : mk tBilled = X at *
  clear hX
  go_enter Tryz.func80, Tryz.ntmps80
  go_upto_region 1 with fail
  generalize w.alloc (.cells z5 32) = Wa at *
  go_wp2_with fail
  go_at_call 63
  refine HT.out.mono ?_
  rintro e w1 ⟨rfl, hr, hg⟩
  have hbw := below_alloc w1 (.cells #[.string X, .int .i64 (a : Nat)] 73)
  have hs1 := hg.size
  have HR1 := Lib.hid (hr.grw hbw)
  have HG1 := Lib.hid (grown_tr HG0.out (grown_alloc hg (.cells #[.string X, .int .i64 (a : Nat)] 73)))
  have HB1 := Lib.hid (keepB (grown_heap HB0.out hg (by omega)) hbw)
  have HX := Lib.hid (heap_alloc_new w1 (.cells #[.string X, .int .i64 (a : Nat)] 73))
  obtain ⟨d0, d1, -, -⟩ := box_two HX.out
  have hz1 : w.heap.size + 2 ≤ (w1.alloc (.cells #[.string X, .int .i64 (a : Nat)] 73)).heap.size := by simp; omega
  clear hr hg hbw HT HG0 HB0 hz0 hs1
  go_upto_region 2 with fail
  generalize w1.alloc (.cells #[.string X, .int .i64 (a : Nat)] 73) = W1 at *
  generalize w1.heap.size = p5 at *
  have hbc := below_alloc W1 (.cells #[.int .i64 4, .string ⟨#[]⟩, .string ⟨#[]⟩, .int .i64 0, .slice none 0 0] 32)
  have HR2 := Lib.hid (HR1.out.grw hbc)
  have HG2 := Lib.hid (grown_tr HG1.out (grown_of hbc))
  have HB2 := Lib.hid (keepB HB1.out hbc)
  have HC2 := Lib.hid (heap_alloc_new W1 (.cells #[.int .i64 4, .string ⟨#[]⟩, .string ⟨#[]⟩, .int .i64 0, .slice none 0 0] 32))
  have hz2 : w.heap.size + 3 ≤ (W1.alloc (.cells #[.int .i64 4, .string ⟨#[]⟩, .string ⟨#[]⟩, .int .i64 0, .slice none 0 0] 32)).heap.size := by simp; omega
  have hp8 : w.heap.size + 2 ≤ W1.heap.size := hz1
  have hz8 : W1.heap.size < (W1.alloc (.cells #[.int .i64 4, .string ⟨#[]⟩, .string ⟨#[]⟩, .int .i64 0, .slice none 0 0] 32)).heap.size := by simp
  clear hbc HR1 HG1 HB1
  go_upto_region 17 with (go_at_call 95; refine (HKD.out _).mono ?_; rintro e w2 ⟨rfl, hw2⟩; rw [hw2]; clear hw2 w2)
  generalize W1.alloc (.cells #[.int .i64 4, .string ⟨#[]⟩, .string ⟨#[]⟩, .int .i64 0, .slice none 0 0] 32) = W2 at *
  generalize W1.heap.size = p8 at *
  go_wp2_with fail
  go_at_call 47
  refine (amount_any q E r W2 HR2.out).mono ?_
  rintro e v2 ⟨hg2, ha2⟩
  have hsv2 := hg2.size
  have HG2' := Lib.hid (grown_tr HG2.out hg2)
  have HB2' := Lib.hid (grown_heap HB2.out hg2 (by omega))
  have HC2' := Lib.hid (grown_heap HC2.out hg2 (by omega))
  cases hc2 : pMoney E r with
  | error fl =>
    rw [hc2] at ha2
    obtain rfl := ha2
    refine thrown rfl ⟨HG2'.out, ?_⟩
    unfold pBi; simp only [hc2]
  | ok z2 =>
    obtain ⟨y2, s2⟩ := z2
    rw [hc2] at ha2
    obtain ⟨⟨v, rfl, hv⟩, hr2⟩ := ha2
    obtain rfl : v = .int .i64 y2 := hv
    obtain ⟨_, _, -, -, hgb⟩ := money_inv hc2; simp only [goodB, Bool.and_eq_true, decide_eq_true_eq] at hgb; obtain ⟨hb1, hb2⟩ := hgb
    have HC := Lib.hid hc2
    clear hc2
    have HR3 := Lib.hid (rd_set hr2 (p := p8) (by omega) 3 (.int .i64 y2))
    have HG3 := Lib.hid (grown_new HG2'.out (q := p8) (by omega) 3 (.int .i64 y2))
    have HB3 := Lib.hid (heap_far (q := p8) (j := 3) (u := .int .i64 y2) HB2'.out (by omega))
    have HC3 : Hid ((v2.setCell ⟨p8, 3, none⟩ (.int .i64 y2)).heap[p8]? = some (.cells #[.int .i64 4, .string ⟨#[]⟩, .string ⟨#[]⟩, .int .i64 y2, .slice none 0 0] 32 (0, 0))) := heap_setCell_same v2 p8 3 _ _ (.int .i64 y2) HC2'.out
    have hzz3 : (v2.setCell ⟨p8, 3, none⟩ (.int .i64 y2)).heap.size = v2.heap.size := by simp [World.setCell]
    have hz3 : w.heap.size + 3 ≤ (v2.setCell ⟨p8, 3, none⟩ (.int .i64 y2)).heap.size := by omega
    obtain ⟨m0, m1, m2, m3, m4⟩ := box_five HC2'.out
    have mf := box_froz HC2'.out 3
    clear hr2 hg2 HR2 HG2 HB2 HC2 HG2' HB2' HC2' hzz3
    go_upto_region 22 with fail
    generalize hW3 : v2.setCell ⟨p8, 3, none⟩ (.int .i64 y2) = W3 at *
    clear hW3 m0 m1 m2 m3 m4 mf
    obtain ⟨x0, x1, x2, x3, x4⟩ := box_five HC3.out
    obtain ⟨g0, g1, g2, g3, g4⟩ := box_five HB3.out
    have f0 := box_froz HB3.out 0
    have f1 := box_froz HB3.out 1
    have f2 := box_froz HB3.out 2
    have f3 := box_froz HB3.out 3
    have f4 := box_froz HB3.out 4
    go_wp2
    refine bodyPost_ret (v := .agg #[.int .i64 4, .string ⟨#[]⟩, .string ⟨#[]⟩, .int .i64 y2, .slice none 0 0]) (by simp [results, Tryz.results80, go_sem, g0, g1, g2, g3, g4]) rfl ?_
    refine ⟨grown_put5 HG3.out (Nat.le_refl _) _ _ _ _ _, ?_⟩
    unfold pBi; simp only [HC.out]
    exact ⟨⟨_, rfl, _, _, _, rfl, KsAt.nil _ _, ⟨⟨by show (-9223372036854775808 : Int) ≤ 4; decide, by show (4 : Int) ≤ 9223372036854775807; decide⟩, ⟨by show (-9223372036854775808 : Int) ≤ y2; omega, by show y2 ≤ 9223372036854775807; omega⟩, Nat.zero_le _, Nat.zero_le _, Nat.zero_le _⟩⟩, rd_put5 HR3.out hq _ _ _ _ _⟩
end Go.Proofs.YtoibhgoaibjopaaGreatDoor.Pl
end
