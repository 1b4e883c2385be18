/-
  Texts put together (merge.py): XWord.
-/
import Derived.Test.YtgloihilnbjmeaaDoorMp26
/-
  What the reader's code, number and answer do, as contracts: the next word, and the fault that is kept.
-/
section
set_option linter.unusedSimpArgs false
set_option linter.unusedVariables false
set_option maxRecDepth 100000
namespace Go.Proofs.YtgloihilnbjmeaaDoor.Ex
open Go.RowKit
open Wo (Wd WdsAt box_cell box_two keepB heap_far below_alloc below_trans)

theorem tk_len {E : Nat} {l : List Wd} (h : Wb l) : (tkW E l).1.length ≤ 65536 := by
  cases l with
  | nil => simp [tkW]
  | cons x r => exact h.1 x List.mem_cons_self
theorem cd_yes {E : Nat} {o : Tx} {l : List Wd} (f : Int × Nat) (h1 : Cm.codeB (tkW E l).1 5 5 = true) (h2 : ¬ (tkW E l).1 = o) : cdF E o l f = tkF E l f := by
  unfold cdF
  rw [if_pos (by unfold cdB; rw [h1, decide_eq_false h2]; rfl)]
theorem cd_no1 {E : Nat} {o : Tx} {l : List Wd} (f : Int × Nat) (h1 : Cm.codeB (tkW E l).1 5 5 = false) : cdF E o l f = kp (tkF E l f) 9 (tkW E l).2 := by
  unfold cdF
  rw [if_neg (by unfold cdB; rw [h1]; simp)]
theorem cd_no2 {E : Nat} {o : Tx} {l : List Wd} (f : Int × Nat) (h2 : (tkW E l).1 = o) : cdF E o l f = kp (tkF E l f) 9 (tkW E l).2 := by
  unfold cdF
  rw [if_neg (by unfold cdB; rw [decide_eq_true h2]; simp)]
theorem nm_yes {E : Nat} {l : List Wd} (f : Int × Nat) (h1 : Nu.riE (tkW E l).1 4 = 0) (h2 : ¬ Nu.riV (tkW E l).1 4 = 0) : nmF E l f = tkF E l f := by
  unfold nmF
  rw [if_pos (by unfold nmB; rw [decide_eq_true h1, decide_eq_false h2]; rfl)]
theorem nm_no1 {E : Nat} {l : List Wd} (f : Int × Nat) (h1 : ¬ Nu.riE (tkW E l).1 4 = 0) : nmF E l f = kp (tkF E l f) 4 (tkW E l).2 := by
  unfold nmF
  rw [if_neg (by unfold nmB; rw [decide_eq_false h1]; simp)]
theorem nm_no2 {E : Nat} {l : List Wd} (f : Int × Nat) (h2 : Nu.riV (tkW E l).1 4 = 0) : nmF E l f = kp (tkF E l f) 4 (tkW E l).2 := by
  unfold nmF
  rw [if_neg (by unfold nmB; rw [decide_eq_true h2]; simp)]
theorem an_yes {E : Nat} {l : List Wd} (f : Int × Nat) (h : (tkW E l).1 = Pl.tYes ∨ (tkW E l).1 = Pl.tNo) : anF E l f = tkF E l f := by
  unfold anF
  rw [if_pos]
  unfold anB
  rcases h with h | h <;> rw [decide_eq_true h] <;> simp
theorem an_no {E : Nat} {l : List Wd} (f : Int × Nat) (h1 : ¬ (tkW E l).1 = Pl.tYes) (h2 : ¬ (tkW E l).1 = Pl.tNo) : anF E l f = kp (tkF E l f) 4 (tkW E l).2 := by
  unfold anF
  rw [if_neg]
  unfold anB
  rw [decide_eq_false h1, decide_eq_false h2]
  simp
set_option maxHeartbeats 4000000 in
theorem code_any (q E : Nat) (o : Tx) (l : List Wd) (f : Int × Nat) (w : World) (h : RdAt q E l f w) :
    Calls Tryd.prog 62 #[.pointer (some ⟨q, 0, none⟩), .string (mk o)] w fun e w' => e = .returned (.string (mk (tkW E l).1)) ∧ RdAt q E l.tail (cdF E o l f) w' ∧ w.grownBy w' (some q) := by
  have HT := Lib.hid (take_any q E l f w h)
  have hlen := tk_len (E := E) h.wb
  have HP := Lib.hid fun W => proc_any (tkW E l).1 W (by omega)
  have HY := Lib.hid (fun h1 h2 => cd_yes (E := E) (o := o) (l := l) f h1 h2)
  have HN1 := Lib.hid (fun h1 => cd_no1 (E := E) (o := o) (l := l) f h1)
  have HN2 := Lib.hid (fun h2 => cd_no2 (E := E) (o := o) (l := l) f h2)
  generalize cdF E o l f = RR at *
  generalize tkF E l f = g at *
  generalize tkW E l = x at *
  clear h hlen
  go_enter Tryd.func62, Tryd.ntmps62
  go_wp2_with fail
  go_at_call 44
  refine HT.out.mono ?_
  rintro e w1 ⟨rfl, hr, hg⟩
  have hb := below_alloc w1 (.cells #[.string (mk x.1), .int .i64 (x.2 : Nat)] 61)
  have HR1 := Lib.hid (hr.grw hb)
  have HG1 := Lib.hid (grown_alloc hg (.cells #[.string (mk x.1), .int .i64 (x.2 : Nat)] 61))
  have HX := Lib.hid (heap_alloc_new w1 (.cells #[.string (mk x.1), .int .i64 (x.2 : Nat)] 61))
  have HPQ : Hid (w1.heap.size ≠ q) := (Nat.ne_of_lt hr.lt).symm
  clear hr hg hb HT
  go_upto_region 2 with fail
  generalize w1.alloc (.cells #[.string (mk x.1), .int .i64 (x.2 : Nat)] 61) = W at *
  generalize w1.heap.size = p at *
  obtain ⟨d0, d1, -, -⟩ := box_two HX.out
  cases hc : Cm.codeB x.1 5 5
  · obtain rfl := HN1.out hc
    rw [hc] at HP
    clear hc HY HN1 HN2
    have HFl := Lib.hid (fail_any q E l.tail g 9 x.2 W HR1.out)
    go_wp2_with (first | (go_at_call 35; refine (HP.out _).mono ?_; rintro e w9 ⟨rfl, hw9⟩; rw [hw9]; clear hw9 w9) | fail)
    go_at_call 45
    refine HFl.out.mono ?_
    rintro e w2 ⟨rfl, hr2, hg2⟩
    have HR2 := Lib.hid hr2
    have HG2 := Lib.hid (grown_tr HG1.out hg2)
    have HX2 := Lib.hid (grown_heap HX.out hg2 HPQ.out)
    clear hr2 hg2 d0 d1 HFl
    obtain ⟨d0, d1, -, -⟩ := box_two HX2.out
    go_wp2
    go_ret
    exact ⟨rfl, HR2.out, HG2.out⟩
  rw [hc] at HP
  by_cases ho : x.1 = o
  · obtain rfl := HN2.out ho
    have q1 : ((mk x.1).toList == (mk o).toList) = true := by rw [mk_eqs']; exact decide_eq_true ho
    clear hc ho HY HN1 HN2
    have HFl := Lib.hid (fail_any q E l.tail g 9 x.2 W HR1.out)
    go_wp2_with (first | (go_at_call 35; refine (HP.out _).mono ?_; rintro e w9 ⟨rfl, hw9⟩; rw [hw9]; clear hw9 w9) | fail)
    go_at_call 45
    refine HFl.out.mono ?_
    rintro e w2 ⟨rfl, hr2, hg2⟩
    have HR2 := Lib.hid hr2
    have HG2 := Lib.hid (grown_tr HG1.out hg2)
    have HX2 := Lib.hid (grown_heap HX.out hg2 HPQ.out)
    clear hr2 hg2 d0 d1 HFl
    obtain ⟨d0, d1, -, -⟩ := box_two HX2.out
    go_wp2
    go_ret
    exact ⟨rfl, HR2.out, HG2.out⟩
  obtain rfl := HY.out hc ho
  have q1 : ((mk x.1).toList == (mk o).toList) = false := by rw [mk_eqs']; exact decide_eq_false ho
  clear hc ho HY HN1 HN2
  go_wp2_with (first | (go_at_call 35; refine (HP.out _).mono ?_; rintro e w9 ⟨rfl, hw9⟩; rw [hw9]; clear hw9 w9))
  go_ret
  exact ⟨rfl, HR1.out, HG1.out⟩
set_option maxHeartbeats 4000000 in
theorem number_any (q E : Nat) (l : List Wd) (f : Int × Nat) (w : World) (h : RdAt q E l f w) :
    Calls Tryd.prog 63 #[.pointer (some ⟨q, 0, none⟩)] w fun e w' => e = .returned (.int .i64 (Nu.riV (tkW E l).1 4)) ∧ RdAt q E l.tail (nmF E l f) w' ∧ w.grownBy w' (some q) := by
  have HT := Lib.hid (take_any q E l f w h)
  have hlen := tk_len (E := E) h.wb
  have HI := Lib.hid fun W => Nu.readInt_any (mk (tkW E l).1) 4 W (by rw [mk_size]; unfold maxLen; omega)
  rw [mk_list] at HI
  have HY := Lib.hid (fun h1 h2 => nm_yes (E := E) (l := l) f h1 h2)
  have HN1 := Lib.hid (fun h1 => nm_no1 (E := E) (l := l) f h1)
  have HN2 := Lib.hid (fun h2 => nm_no2 (E := E) (l := l) f h2)
  generalize nmF E l f = RR at *
  generalize tkF E l f = g at *
  generalize tkW E l = x at *
  generalize Nu.riV x.1 4 = nv at *
  generalize Nu.riE x.1 4 = ne at *
  clear h hlen
  go_enter Tryd.func63, Tryd.ntmps63
  go_wp2_with fail
  go_at_call 44
  refine HT.out.mono ?_
  rintro e w1 ⟨rfl, hr, hg⟩
  have hb := below_alloc w1 (.cells #[.string (mk x.1), .int .i64 (x.2 : Nat)] 61)
  have HR1 := Lib.hid (hr.grw hb)
  have HG1 := Lib.hid (grown_alloc hg (.cells #[.string (mk x.1), .int .i64 (x.2 : Nat)] 61))
  have HX := Lib.hid (heap_alloc_new w1 (.cells #[.string (mk x.1), .int .i64 (x.2 : Nat)] 61))
  have HPQ : Hid (w1.heap.size ≠ q) := (Nat.ne_of_lt hr.lt).symm
  clear hr hg hb HT
  go_upto_region 2 with fail
  generalize w1.alloc (.cells #[.string (mk x.1), .int .i64 (x.2 : Nat)] 61) = W at *
  generalize w1.heap.size = p at *
  obtain ⟨d0, d1, -, -⟩ := box_two HX.out
  by_cases he : ne = 0
  rotate_left
  · obtain rfl := HN1.out he
    have q1 : (ne != 0) = true := by simpa using he
    clear he HY HN1 HN2
    have HFl := Lib.hid (fail_any q E l.tail g 4 x.2 W HR1.out)
    go_wp2_with (first | (go_at_call 71; refine (HI.out _).mono ?_; rintro e w9 ⟨rfl, hw9⟩; rw [hw9]; clear hw9 w9) | fail)
    go_at_call 45
    refine HFl.out.mono ?_
    rintro e w2 ⟨rfl, hr2, hg2⟩
    have HR2 := Lib.hid hr2
    have HG2 := Lib.hid (grown_tr HG1.out hg2)
    have HX2 := Lib.hid (grown_heap HX.out hg2 HPQ.out)
    clear hr2 hg2 d0 d1 HFl
    obtain ⟨d0, d1, -, -⟩ := box_two HX2.out
    go_wp2
    go_ret
    exact ⟨rfl, HR2.out, HG2.out⟩
  have q1 : (ne != 0) = false := by rw [he]; rfl
  by_cases hn : nv = 0
  · obtain rfl := HN2.out hn
    obtain ⟨V, hV, q2⟩ : ∃ V : Bool, V = true ∧ (nv == 0) = V := ⟨_, by rw [beq_iff_eq]; exact hn, rfl⟩
    clear he hn HY HN1 HN2
    have HFl := Lib.hid (fail_any q E l.tail g 4 x.2 W HR1.out)
    go_wp2_with (first | (go_at_call 71; refine (HI.out _).mono ?_; rintro e w9 ⟨rfl, hw9⟩; rw [hw9]; clear hw9 w9) | fail)
    go_at_call 45
    refine HFl.out.mono ?_
    rintro e w2 ⟨rfl, hr2, hg2⟩
    have HR2 := Lib.hid hr2
    have HG2 := Lib.hid (grown_tr HG1.out hg2)
    have HX2 := Lib.hid (grown_heap HX.out hg2 HPQ.out)
    clear hr2 hg2 d0 d1 HFl
    obtain ⟨d0, d1, -, -⟩ := box_two HX2.out
    go_wp2
    go_ret
    exact ⟨rfl, HR2.out, HG2.out⟩
  obtain rfl := HY.out he hn
  have q2 : (nv == 0) = false := by rw [beq_eq_false_iff_ne]; exact hn
  clear he hn HY HN1 HN2
  go_wp2_with (first | (go_at_call 71; refine (HI.out _).mono ?_; rintro e w9 ⟨rfl, hw9⟩; rw [hw9]; clear hw9 w9))
  go_ret
  exact ⟨rfl, HR1.out, HG1.out⟩
set_option maxHeartbeats 4000000 in
theorem answer_any (q E : Nat) (l : List Wd) (f : Int × Nat) (w : World) (h : RdAt q E l f w) :
    Calls Tryd.prog 61 #[.pointer (some ⟨q, 0, none⟩)] w fun e w' => e = .returned (.bool (decide ((tkW E l).1 = Pl.tYes))) ∧ RdAt q E l.tail (anF E l f) w' ∧ w.grownBy w' (some q) := by
  have HT := Lib.hid (take_any q E l f w h)
  have HY := Lib.hid (fun h1 => an_yes (E := E) (l := l) f h1)
  have HN1 := Lib.hid (fun h1 h2 => an_no (E := E) (l := l) f h1 h2)
  generalize anF E l f = RR at *
  generalize tkF E l f = g at *
  generalize tkW E l = x at *
  obtain ⟨AV, HAV⟩ : ∃ z, Hid (decide (x.1 = Pl.tYes) = z) := ⟨_, rfl⟩
  rw [HAV.out]
  clear h
  go_enter Tryd.func61, Tryd.ntmps61
  go_wp2_with fail
  go_at_call 44
  refine HT.out.mono ?_
  rintro e w1 ⟨rfl, hr, hg⟩
  have hb := below_alloc w1 (.cells #[.string (mk x.1), .int .i64 (x.2 : Nat)] 61)
  have HR1 := Lib.hid (hr.grw hb)
  have HG1 := Lib.hid (grown_alloc hg (.cells #[.string (mk x.1), .int .i64 (x.2 : Nat)] 61))
  have HX := Lib.hid (heap_alloc_new w1 (.cells #[.string (mk x.1), .int .i64 (x.2 : Nat)] 61))
  have HPQ : Hid (w1.heap.size ≠ q) := (Nat.ne_of_lt hr.lt).symm
  clear hr hg hb HT
  go_upto_region 2 with fail
  generalize w1.alloc (.cells #[.string (mk x.1), .int .i64 (x.2 : Nat)] 61) = W at *
  generalize w1.heap.size = p at *
  obtain ⟨d0, d1, -, -⟩ := box_two HX.out
  by_cases h1 : x.1 = Pl.tYes
  · obtain rfl := HY.out (Or.inl h1)
    have q1 : ((mk x.1).toList == [121, 101, 115]) = true := lit_t h1
    have q2 : ((mk x.1).toList != [121, 101, 115]) = false := by rw [bne, q1]; rfl
    obtain rfl : AV = true := HAV.out.symm.trans (decide_eq_true h1)
    clear h1 HY HN1
    go_wp2
    go_ret
    exact ⟨rfl, HR1.out, HG1.out⟩
  have q1 : ((mk x.1).toList == [121, 101, 115]) = false := lit_f h1
  have q2 : ((mk x.1).toList != [121, 101, 115]) = true := by rw [bne, q1]; rfl
  by_cases h2 : x.1 = Pl.tNo
  · obtain rfl := HY.out (Or.inr h2)
    have q3 : ((mk x.1).toList == [110, 111]) = true := lit_t h2
    have q4 : ((mk x.1).toList != [110, 111]) = false := by rw [bne, q3]; rfl
    obtain rfl : AV = false := HAV.out.symm.trans (decide_eq_false h1)
    clear h1 h2 HY HN1
    go_wp2
    go_ret
    exact ⟨rfl, HR1.out, HG1.out⟩
  obtain rfl := HN1.out h1 h2
  have q3 : ((mk x.1).toList == [110, 111]) = false := lit_f h2
  have q4 : ((mk x.1).toList != [110, 111]) = true := by rw [bne, q3]; rfl
  obtain rfl : AV = false := HAV.out.symm.trans (decide_eq_false h1)
  clear h1 h2 HY HN1
  have HFl := Lib.hid (fail_any q E l.tail g 4 x.2 W HR1.out)
  go_wp2_with fail
  go_at_call 45
  refine HFl.out.mono ?_
  rintro e w2 ⟨rfl, hr2, hg2⟩
  have HR2 := Lib.hid hr2
  have HG2 := Lib.hid (grown_tr HG1.out hg2)
  have HX2 := Lib.hid (grown_heap HX.out hg2 HPQ.out)
  clear hr2 hg2 d0 d1 HFl
  obtain ⟨d0, d1, -, -⟩ := box_two HX2.out
  go_wp2
  go_ret
  exact ⟨rfl, HR2.out, HG2.out⟩
end Go.Proofs.YtgloihilnbjmeaaDoor.Ex
end
