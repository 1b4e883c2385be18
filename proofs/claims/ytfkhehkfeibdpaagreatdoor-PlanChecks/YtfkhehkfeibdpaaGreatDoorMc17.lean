/-
  Texts put together (merge.py): PRe, CAdds.
-/
import Derived.WalkKit
import Derived.Test.YtfkhehkfeibdpaaGreatDoorMc15
import Derived.Test.YtfkhehkfeibdpaaGreatDoorMc16
import Derived.Test.YtfkhehkfeibdpaaGreatDoorProg
import Derived.Test.YtfkhehkfeibdpaaGreatDoorMc3
/-
  What the reader's number, code, answer and kindOf do, as contracts.
-/
section
set_option linter.unusedSimpArgs false
set_option linter.unusedVariables false
set_option maxRecDepth 100000
namespace Go.Proofs.YtfkhehkfeibdpaaGreatDoor.Pl
open Go.RowKit
open Wo (Wd WdsAt box_cell box_two keepB heap_far)

theorem tk_len {q E : Nat} {l : List Wd} {w : World} (h : RdAt q E l w) : (tkW E l).1.length ≤ 65536 := by
  cases l with
  | nil => simp [tkW]
  | cons x r => exact h.len x List.mem_cons_self
theorem num_cases (E : Nat) (most : Int) (l : List Wd) : (Nu.riE (tkW E l).1 5 = 0 ∧ Nu.riV (tkW E l).1 5 ≤ most ∧ pNum E most l = .ok (Nu.riV (tkW E l).1 5, l.tail)) ∨ ((¬ Nu.riE (tkW E l).1 5 = 0 ∨ (Nu.riE (tkW E l).1 5 = 0 ∧ ¬ Nu.riV (tkW E l).1 5 ≤ most)) ∧ pNum E most l = .error (4, (tkW E l).2)) := by
  cases l with
  | nil => exact Or.inr ⟨Or.inl (by show ¬ Nu.riE [] 5 = 0; decide), rfl⟩
  | cons x r =>
    obtain ⟨t, a⟩ := x
    show (Nu.riE t 5 = 0 ∧ Nu.riV t 5 ≤ most ∧ pNum E most ((t, a) :: r) = .ok (Nu.riV t 5, r)) ∨ ((¬ Nu.riE t 5 = 0 ∨ (Nu.riE t 5 = 0 ∧ ¬ Nu.riV t 5 ≤ most)) ∧ pNum E most ((t, a) :: r) = .error (4, a))
    by_cases h1 : Nu.riE t 5 = 0
    · by_cases h2 : Nu.riV t 5 ≤ most
      · exact Or.inl ⟨h1, h2, by simp [pNum, h1, h2]⟩
      · exact Or.inr ⟨Or.inr ⟨h1, h2⟩, by simp [pNum, h1, h2]⟩
    · exact Or.inr ⟨Or.inl h1, by simp [pNum, h1]⟩
set_option maxHeartbeats 4000000 in
theorem number_any (q E : Nat) (most : Int) (l : List Wd) (w : World) (h : RdAt q E l w) :
    Calls Tryz.prog 85 #[.pointer (some ⟨q, 0, none⟩), .int .i64 most] w fun e w' => Ans q E w Num (pNum E most l) e w' := by
  have HT := Lib.hid (take_any q E l w h)
  have HI := Lib.hid fun W => Nu.readInt_any (mk (tkW E l).1) 5 W (by rw [mk_size]; have := tk_len h; unfold maxLen; omega)
  rw [mk_list] at HI
  have HF := Lib.hid fun W => fault_any 4 (tkW E l) W
  have hP := num_cases E most l
  have hb := (Nu.ri_bd (tkW E l).1 5)
  generalize pNum E most l = RR at *
  generalize tkW E l = x at *
  generalize Nu.riV x.1 5 = nv at *
  generalize Nu.riE x.1 5 = ne at *
  have HP := Lib.hid hP
  clear h hP
  obtain ⟨hb0, hb1⟩ := hb
  go_enter Tryz.func85, Tryz.ntmps85
  go_wp2_with fail
  go_at_call 69
  refine HT.out.mono ?_
  rintro e w1 ⟨rfl, hr, hg⟩
  have hb := below_alloc w1 (.cells #[.string (mk x.1), .int .i64 (x.2 : Nat)] 75)
  have HR1 := Lib.hid (hr.grw hb)
  have HG1 := Lib.hid (grown_alloc hg (.cells #[.string (mk x.1), .int .i64 (x.2 : Nat)] 75))
  have HX := Lib.hid (heap_alloc_new w1 (.cells #[.string (mk x.1), .int .i64 (x.2 : Nat)] 75))
  obtain ⟨d0, d1, -, -⟩ := box_two HX.out
  clear hr hg hb HT
  go_upto_region 2 with fail
  generalize w1.alloc (.cells #[.string (mk x.1), .int .i64 (x.2 : Nat)] 75) = W at *
  generalize w1.heap.size = p at *
  rcases HP.out with ⟨h1, h2, hres⟩ | ⟨h1, hres⟩
  · subst h1
    have HRES := Lib.hid hres
    clear HP hres
    go_wp2_with (first | (go_at_call 83; refine (HI.out _).mono ?_; rintro e w2 ⟨rfl, rfl⟩))
    go_ret
    refine ⟨HG1.out, ?_⟩
    rw [HRES.out]
    exact ⟨⟨_, rfl, rfl⟩, HR1.out⟩
  · have HRES := Lib.hid hres
    clear HP hres
    rcases h1 with h1 | ⟨h1, h2⟩
    · have h1 : (ne != 0) = true := by simpa using h1
      go_wp2_with (first | (go_at_call 83; refine (HI.out _).mono ?_; rintro e w2 ⟨rfl, rfl⟩) | (go_at_call 71; refine (HF.out _).mono ?_; rintro e w2 ⟨rfl, hb2⟩; have HB2 := Lib.hid hb2; clear hb2))
      refine ⟨rfl, grown_tr HG1.out (grown_of HB2.out), ?_⟩
      rw [HRES.out]
    · subst h1
      have h2 : most < nv := by omega
      go_wp2_with (first | (go_at_call 83; refine (HI.out _).mono ?_; rintro e w2 ⟨rfl, rfl⟩) | (go_at_call 71; refine (HF.out _).mono ?_; rintro e w2 ⟨rfl, hb2⟩; have HB2 := Lib.hid hb2; clear hb2))
      refine ⟨rfl, grown_tr HG1.out (grown_of HB2.out), ?_⟩
      rw [HRES.out]
theorem proc_any (s : Tx) (w : World) (hs : s.length ≤ 9223372036854775807) :
    Calls Tryz.prog 74 #[.string (mk s)] w fun e w' => e = .returned (.bool (Cm.codeB s 5 5)) ∧ w' = w := by
  have HC := Lib.hid fun w => Cm.code_any s 5 5 w hs
  generalize Cm.codeB s 5 5 = R at *
  go_enter Tryz.func74, Tryz.ntmps74
  go_wp2_with (go_at_call 88; refine (HC.out _).mono ?_; rintro e w' ⟨rfl, rfl⟩)
  go_ret
  exact ⟨rfl, rfl⟩
theorem mod_any (s : Tx) (w : World) (hs : s.length ≤ 9223372036854775807) :
    Calls Tryz.prog 75 #[.string (mk s)] w fun e w' => e = .returned (.bool (Cm.codeB s 2 2)) ∧ w' = w := by
  have HC := Lib.hid fun w => Cm.code_any s 2 2 w hs
  generalize Cm.codeB s 2 2 = R at *
  go_enter Tryz.func75, Tryz.ntmps75
  go_wp2_with (go_at_call 88; refine (HC.out _).mono ?_; rintro e w' ⟨rfl, rfl⟩)
  go_ret
  exact ⟨rfl, rfl⟩
theorem code_cases (E : Nat) (n : Int) (l : List Wd) (hn : 1 ≤ n) : (Cm.codeB (tkW E l).1 n n = true ∧ pCode E n l = .ok ((tkW E l).1, l.tail)) ∨ (Cm.codeB (tkW E l).1 n n = false ∧ pCode E n l = .error (9, (tkW E l).2)) := by
  cases l with
  | nil => exact Or.inr ⟨by show Cm.codeB [] n n = false; simp [Cm.codeB]; omega, rfl⟩
  | cons x r =>
    obtain ⟨t, a⟩ := x
    show (Cm.codeB t n n = true ∧ pCode E n ((t, a) :: r) = .ok (t, r)) ∨ (Cm.codeB t n n = false ∧ pCode E n ((t, a) :: r) = .error (9, a))
    cases h : Cm.codeB t n n
    · exact Or.inr ⟨rfl, by simp [pCode, h]⟩
    · exact Or.inl ⟨rfl, by simp [pCode, h]⟩
set_option maxHeartbeats 4000000 in
theorem code5_any (q E : Nat) (l : List Wd) (w : World) (h : RdAt q E l w) :
    Calls Tryz.prog 100 #[.pointer (some ⟨q, 0, none⟩), .func (.func 74) #[] #[]] w fun e w' => Ans q E w Str (pCode E 5 l) e w' := by
  have HT := Lib.hid (take_any q E l w h)
  have HI := Lib.hid fun W => proc_any (tkW E l).1 W (by have := tk_len h; omega)
  have HF := Lib.hid fun W => fault_any 9 (tkW E l) W
  have hP := code_cases E 5 l (by decide)
  generalize pCode E 5 l = RR at *
  generalize tkW E l = x at *
  generalize Cm.codeB x.1 5 5 = nv at *
  have HP := Lib.hid hP
  clear h hP
  go_enter Tryz.func100, Tryz.ntmps100
  go_wp2_with fail
  go_at_call 69
  refine HT.out.mono ?_
  rintro e w1 ⟨rfl, hr, hg⟩
  have hb := below_alloc w1 (.cells #[.string (mk x.1), .int .i64 (x.2 : Nat)] 75)
  have HR1 := Lib.hid (hr.grw hb)
  have HG1 := Lib.hid (grown_alloc hg (.cells #[.string (mk x.1), .int .i64 (x.2 : Nat)] 75))
  have HX := Lib.hid (heap_alloc_new w1 (.cells #[.string (mk x.1), .int .i64 (x.2 : Nat)] 75))
  obtain ⟨d0, d1, -, -⟩ := box_two HX.out
  clear hr hg hb HT
  go_upto_region 2 with fail
  generalize w1.alloc (.cells #[.string (mk x.1), .int .i64 (x.2 : Nat)] 75) = W at *
  generalize w1.heap.size = p at *
  rcases HP.out with ⟨rfl, hres⟩ | ⟨rfl, hres⟩
  · have HRES := Lib.hid hres
    clear HP hres
    go_wp2_with (first | (go_at_call 74; refine (HI.out _).mono ?_; rintro e w2 ⟨rfl, rfl⟩))
    go_ret
    refine ⟨HG1.out, ?_⟩
    rw [HRES.out]
    exact ⟨⟨_, rfl, rfl⟩, HR1.out⟩
  · have HRES := Lib.hid hres
    clear HP hres
    go_wp2_with (first | (go_at_call 74; refine (HI.out _).mono ?_; rintro e w2 ⟨rfl, rfl⟩) | (go_at_call 71; refine (HF.out _).mono ?_; rintro e w2 ⟨rfl, hb2⟩; have HB2 := Lib.hid hb2; clear hb2))
    refine ⟨rfl, grown_tr HG1.out (grown_of HB2.out), ?_⟩
    rw [HRES.out]
set_option maxHeartbeats 4000000 in
theorem code2_any (q E : Nat) (l : List Wd) (w : World) (h : RdAt q E l w) :
    Calls Tryz.prog 100 #[.pointer (some ⟨q, 0, none⟩), .func (.func 75) #[] #[]] w fun e w' => Ans q E w Str (pCode E 2 l) e w' := by
  have HT := Lib.hid (take_any q E l w h)
  have HI := Lib.hid fun W => mod_any (tkW E l).1 W (by have := tk_len h; omega)
  have HF := Lib.hid fun W => fault_any 9 (tkW E l) W
  have hP := code_cases E 2 l (by decide)
  generalize pCode E 2 l = RR at *
  generalize tkW E l = x at *
  generalize Cm.codeB x.1 2 2 = nv at *
  have HP := Lib.hid hP
  clear h hP
  go_enter Tryz.func100, Tryz.ntmps100
  go_wp2_with fail
  go_at_call 69
  refine HT.out.mono ?_
  rintro e w1 ⟨rfl, hr, hg⟩
  have hb := below_alloc w1 (.cells #[.string (mk x.1), .int .i64 (x.2 : Nat)] 75)
  have HR1 := Lib.hid (hr.grw hb)
  have HG1 := Lib.hid (grown_alloc hg (.cells #[.string (mk x.1), .int .i64 (x.2 : Nat)] 75))
  have HX := Lib.hid (heap_alloc_new w1 (.cells #[.string (mk x.1), .int .i64 (x.2 : Nat)] 75))
  obtain ⟨d0, d1, -, -⟩ := box_two HX.out
  clear hr hg hb HT
  go_upto_region 2 with fail
  generalize w1.alloc (.cells #[.string (mk x.1), .int .i64 (x.2 : Nat)] 75) = W at *
  generalize w1.heap.size = p at *
  rcases HP.out with ⟨rfl, hres⟩ | ⟨rfl, hres⟩
  · have HRES := Lib.hid hres
    clear HP hres
    go_wp2_with (first | (go_at_call 75; refine (HI.out _).mono ?_; rintro e w2 ⟨rfl, rfl⟩))
    go_ret
    refine ⟨HG1.out, ?_⟩
    rw [HRES.out]
    exact ⟨⟨_, rfl, rfl⟩, HR1.out⟩
  · have HRES := Lib.hid hres
    clear HP hres
    go_wp2_with (first | (go_at_call 75; refine (HI.out _).mono ?_; rintro e w2 ⟨rfl, rfl⟩) | (go_at_call 71; refine (HF.out _).mono ?_; rintro e w2 ⟨rfl, hb2⟩; have HB2 := Lib.hid hb2; clear hb2))
    refine ⟨rfl, grown_tr HG1.out (grown_of HB2.out), ?_⟩
    rw [HRES.out]

/-- Which kind begins with a word. -/
def kdW (x : Tx) : Option Int := if x = tAll then some 0 else if x = tProc then some 1 else if x = tMod then some 2 else if x = tUnits then some 3 else if x = tBilled then some 4 else if x = tOut then some 5 else if x = tNot then some 6 else if x = tO then some 7 else none
abbrev kdV (o : Option Int) : Value := match o with | some k => .tuple #[.int .i64 k, .bool true] | none => .tuple #[.int .i64 0, .bool false]
theorem eq_lit (x t : Tx) : ((mk x).toList == t) = decide (x = t) := by
  rw [Lib.toList_data, mk_list, Bool.eq_iff_iff]
  simp
theorem lit_t {x t : Tx} (h : x = t) : ((mk x).toList == t) = true := by rw [eq_lit]; exact decide_eq_true h
theorem lit_f {x t : Tx} (h : ¬ x = t) : ((mk x).toList == t) = false := by rw [eq_lit]; exact decide_eq_false h
set_option maxHeartbeats 4000000 in
theorem kindOf_any (x : Tx) (w : World) :
    Calls Tryz.prog 99 #[.string (mk x)] w fun e w' => e = .returned (kdV (kdW x)) ∧ w' = w := by
  by_cases h0 : x = tAll
  · have HK : Hid (kdW x = some 0) := by show _ = _; unfold kdW; rw [if_pos h0]
    have b0 : ((mk x).toList == [97, 108, 108]) = true := lit_t h0
    clear h0
    generalize mk x = X at *
    go_enter Tryz.func99, Tryz.ntmps99
    go_wp2
    go_ret2
    exact ⟨by rw [HK.out]; rfl, rfl⟩
  by_cases h1 : x = tProc
  · have HK : Hid (kdW x = some 1) := by show _ = _; unfold kdW; rw [if_neg h0, if_pos h1]
    have b0 : ((mk x).toList == [97, 108, 108]) = false := lit_f h0
    have b1 : ((mk x).toList == [112, 114, 111, 99]) = true := lit_t h1
    clear h0 h1
    generalize mk x = X at *
    go_enter Tryz.func99, Tryz.ntmps99
    go_wp2
    go_ret2
    exact ⟨by rw [HK.out]; rfl, rfl⟩
  by_cases h2 : x = tMod
  · have HK : Hid (kdW x = some 2) := by show _ = _; unfold kdW; rw [if_neg h0, if_neg h1, if_pos h2]
    have b0 : ((mk x).toList == [97, 108, 108]) = false := lit_f h0
    have b1 : ((mk x).toList == [112, 114, 111, 99]) = false := lit_f h1
    have b2 : ((mk x).toList == [109, 111, 100]) = true := lit_t h2
    clear h0 h1 h2
    generalize mk x = X at *
    go_enter Tryz.func99, Tryz.ntmps99
    go_wp2
    go_ret2
    exact ⟨by rw [HK.out]; rfl, rfl⟩
  by_cases h3 : x = tUnits
  · have HK : Hid (kdW x = some 3) := by show _ = _; unfold kdW; rw [if_neg h0, if_neg h1, if_neg h2, if_pos h3]
    have b0 : ((mk x).toList == [97, 108, 108]) = false := lit_f h0
    have b1 : ((mk x).toList == [112, 114, 111, 99]) = false := lit_f h1
    have b2 : ((mk x).toList == [109, 111, 100]) = false := lit_f h2
    have b3 : ((mk x).toList == [117, 110, 105, 116, 115]) = true := lit_t h3
    clear h0 h1 h2 h3
    generalize mk x = X at *
    go_enter Tryz.func99, Tryz.ntmps99
    go_wp2
    go_ret2
    exact ⟨by rw [HK.out]; rfl, rfl⟩
  by_cases h4 : x = tBilled
  · have HK : Hid (kdW x = some 4) := by show _ = _; unfold kdW; rw [if_neg h0, if_neg h1, if_neg h2, if_neg h3, if_pos h4]
    have b0 : ((mk x).toList == [97, 108, 108]) = false := lit_f h0
    have b1 : ((mk x).toList == [112, 114, 111, 99]) = false := lit_f h1
    have b2 : ((mk x).toList == [109, 111, 100]) = false := lit_f h2
    have b3 : ((mk x).toList == [117, 110, 105, 116, 115]) = false := lit_f h3
    have b4 : ((mk x).toList == [98, 105, 108, 108, 101, 100]) = true := lit_t h4
    clear h0 h1 h2 h3 h4
    generalize mk x = X at *
    go_enter Tryz.func99, Tryz.ntmps99
    go_wp2
    go_ret2
    exact ⟨by rw [HK.out]; rfl, rfl⟩
  by_cases h5 : x = tOut
  · have HK : Hid (kdW x = some 5) := by show _ = _; unfold kdW; rw [if_neg h0, if_neg h1, if_neg h2, if_neg h3, if_neg h4, if_pos h5]
    have b0 : ((mk x).toList == [97, 108, 108]) = false := lit_f h0
    have b1 : ((mk x).toList == [112, 114, 111, 99]) = false := lit_f h1
    have b2 : ((mk x).toList == [109, 111, 100]) = false := lit_f h2
    have b3 : ((mk x).toList == [117, 110, 105, 116, 115]) = false := lit_f h3
    have b4 : ((mk x).toList == [98, 105, 108, 108, 101, 100]) = false := lit_f h4
    have b5 : ((mk x).toList == [111, 117, 116]) = true := lit_t h5
    clear h0 h1 h2 h3 h4 h5
    generalize mk x = X at *
    go_enter Tryz.func99, Tryz.ntmps99
    go_wp2
    go_ret2
    exact ⟨by rw [HK.out]; rfl, rfl⟩
  by_cases h6 : x = tNot
  · have HK : Hid (kdW x = some 6) := by show _ = _; unfold kdW; rw [if_neg h0, if_neg h1, if_neg h2, if_neg h3, if_neg h4, if_neg h5, if_pos h6]
    have b0 : ((mk x).toList == [97, 108, 108]) = false := lit_f h0
    have b1 : ((mk x).toList == [112, 114, 111, 99]) = false := lit_f h1
    have b2 : ((mk x).toList == [109, 111, 100]) = false := lit_f h2
    have b3 : ((mk x).toList == [117, 110, 105, 116, 115]) = false := lit_f h3
    have b4 : ((mk x).toList == [98, 105, 108, 108, 101, 100]) = false := lit_f h4
    have b5 : ((mk x).toList == [111, 117, 116]) = false := lit_f h5
    have b6 : ((mk x).toList == [110, 111, 116]) = true := lit_t h6
    clear h0 h1 h2 h3 h4 h5 h6
    generalize mk x = X at *
    go_enter Tryz.func99, Tryz.ntmps99
    go_wp2
    go_ret2
    exact ⟨by rw [HK.out]; rfl, rfl⟩
  by_cases h7 : x = tO
  · have HK : Hid (kdW x = some 7) := by show _ = _; unfold kdW; rw [if_neg h0, if_neg h1, if_neg h2, if_neg h3, if_neg h4, if_neg h5, if_neg h6, if_pos h7]
    have b0 : ((mk x).toList == [97, 108, 108]) = false := lit_f h0
    have b1 : ((mk x).toList == [112, 114, 111, 99]) = false := lit_f h1
    have b2 : ((mk x).toList == [109, 111, 100]) = false := lit_f h2
    have b3 : ((mk x).toList == [117, 110, 105, 116, 115]) = false := lit_f h3
    have b4 : ((mk x).toList == [98, 105, 108, 108, 101, 100]) = false := lit_f h4
    have b5 : ((mk x).toList == [111, 117, 116]) = false := lit_f h5
    have b6 : ((mk x).toList == [110, 111, 116]) = false := lit_f h6
    have b7 : ((mk x).toList == [40]) = true := lit_t h7
    clear h0 h1 h2 h3 h4 h5 h6 h7
    generalize mk x = X at *
    go_enter Tryz.func99, Tryz.ntmps99
    go_wp2
    go_ret2
    exact ⟨by rw [HK.out]; rfl, rfl⟩
  · have HK : Hid (kdW x = none) := by show _ = _; unfold kdW; rw [if_neg h0, if_neg h1, if_neg h2, if_neg h3, if_neg h4, if_neg h5, if_neg h6, if_neg h7]
    have b0 : ((mk x).toList == [97, 108, 108]) = false := lit_f h0
    have b1 : ((mk x).toList == [112, 114, 111, 99]) = false := lit_f h1
    have b2 : ((mk x).toList == [109, 111, 100]) = false := lit_f h2
    have b3 : ((mk x).toList == [117, 110, 105, 116, 115]) = false := lit_f h3
    have b4 : ((mk x).toList == [98, 105, 108, 108, 101, 100]) = false := lit_f h4
    have b5 : ((mk x).toList == [111, 117, 116]) = false := lit_f h5
    have b6 : ((mk x).toList == [110, 111, 116]) = false := lit_f h6
    have b7 : ((mk x).toList == [40]) = false := lit_f h7
    clear h0 h1 h2 h3 h4 h5 h6 h7
    generalize mk x = X at *
    go_enter Tryz.func99, Tryz.ntmps99
    go_wp2
    go_ret2
    exact ⟨by rw [HK.out]; rfl, rfl⟩

end Go.Proofs.YtfkhehkfeibdpaaGreatDoor.Pl
end

/-
  What cents.Good and Add answer, as contracts: for every int64.
-/
section
namespace Go.Proofs.YtfkhehkfeibdpaaGreatDoor.Ce
open Go.RowKit

theorem good_any (a : Int) (w : World) :
    Calls Tryz.prog 31 #[.int .i64 a] w fun e w' => e = .returned (.bool (good a)) ∧ w' = w := by
  by_cases h0 : 0 ≤ a
  · by_cases h1 : a ≤ 10000000000000
    · have g : good a = true := (good_iff a).2 ⟨h0, h1⟩
      rw [g]
      go_enter Tryz.func31, Tryz.ntmps31
      go_wp2
      go_ret
      exact ⟨rfl, rfl⟩
    · have g : good a = false := (good_not a).2 (by omega)
      rw [g]
      go_enter Tryz.func31, Tryz.ntmps31
      go_wp2
      go_ret
      exact ⟨rfl, rfl⟩
  · have g : good a = false := (good_not a).2 (by omega)
    rw [g]
    go_enter Tryz.func31, Tryz.ntmps31
    go_wp2
    go_ret
    exact ⟨rfl, rfl⟩

end Go.Proofs.YtfkhehkfeibdpaaGreatDoor.Ce
end
