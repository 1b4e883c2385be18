/-
  What claim.Line and the reference's Line answer, as contracts: for every service.
-/
import Derived.Test.YtpmlmoclocccoaaDoorLCode
import Derived.Test.YtpmlmoclocccoaaDoorDRef
import Derived.Test.YtpmlmoclocccoaaDoorCRefs
set_option linter.unusedSimpArgs false
namespace Go.Proofs.YtpmlmoclocccoaaDoor.Cm
open Go.RowKit

theorem line9 {x : Ln} (h : codesB x = false) : lineE x = 9 := by simp [lineE, h]
theorem line7 {x : Ln} (h : codesB x = true) (h1 : Da.good x.date = false) : lineE x = 7 := by simp [lineE, h, h1]
theorem line3 {x : Ln} (h : codesB x = true) (h1 : Da.good x.date = true) (h2 : unitsB x.units = false) : lineE x = 3 := by simp [lineE, h, h1, h2]
theorem line8 {x : Ln} (h : codesB x = true) (h1 : Da.good x.date = true) (h2 : unitsB x.units = true) (h3 : moneyB x = false) : lineE x = 8 := by simp [lineE, h, h1, h2, h3]
theorem line0 {x : Ln} (h : codesB x = true) (h1 : Da.good x.date = true) (h2 : unitsB x.units = true) (h3 : moneyB x = true) : lineE x = 0 := by simp [lineE, h, h1, h2, h3]

set_option maxHeartbeats 1000000 in
theorem line_any (x : Ln) (m : Value) (w : World) (hm : TxAt All w m x.mods) (hx : LnOk x) (hT : Da.Tab w) :
    Calls Tryd.prog 15 #[lnv x m] w fun e w' => e = .returned (.int .i64 (lineE x)) ∧ Below w.heap.size w w' := by
  obtain ⟨i1, i2, i3, i4, z1, z2, z3⟩ := hx
  have HC := Lib.hid fun w => code_any x.proc 5 5 w (by omega)
  have HM := Lib.hid fun o => mods_any m x.mods (w.alloc o) (TxAt.move hm (Below.moves (below_alloc w o))) z3
  have HD := Lib.hid fun o => Da.good_any x.date (w.alloc o) (tab_below hT (below_alloc w o)) i1.1 i1.2
  have HB := Lib.hid fun o => below_alloc w o
  have H9 := Lib.hid (@line9 x)
  have H7 := Lib.hid (@line7 x)
  have H3 := Lib.hid (@line3 x)
  have H8 := Lib.hid (@line8 x)
  have H0 := Lib.hid (@line0 x)
  obtain ⟨a, c, rfl, -, -⟩ := TxAt.form hm
  unfold codesB at H9 H7 H3 H8 H0
  unfold unitsB at H3 H8 H0
  unfold moneyB at H8 H0
  clear hm hT i1 i2 i3 i4 z1 z2 z3
  generalize lineE x = R at *
  cases h1 : codeB x.proc 5 5
  · rw [h1] at HC
    rw [H9.out (by rw [h1]; rfl)]
    clear h1 H9 H7 H3 H8 H0
    go_enter Tryd.func15, Tryd.ntmps15
    go_wp2_with (go_at_call 17; refine (HC.out _).mono ?_; rintro e w' ⟨rfl, rfl⟩)
    go_ret
    exact ⟨rfl, HB.out _⟩
  cases h2 : modsB x.mods
  · rw [h1] at HC
    rw [h2] at HM
    rw [H9.out (by rw [h1, h2]; rfl)]
    clear h1 h2 H9 H7 H3 H8 H0
    go_enter Tryd.func15, Tryd.ntmps15
    go_wp2_with (first | (go_at_call 17; refine (HC.out _).mono ?_; rintro e w' ⟨rfl, rfl⟩) | (go_at_call 30; refine (HM.out _).mono ?_; rintro e w' ⟨rfl, rfl⟩))
    go_ret
    exact ⟨rfl, HB.out _⟩
  rw [h1] at HC
  rw [h2] at HM
  have hcd : (codeB x.proc 5 5 && modsB x.mods) = true := by rw [h1, h2]; rfl
  clear h1 h2
  cases h3 : Da.good x.date
  · rw [h3] at HD
    rw [H7.out hcd h3]
    clear hcd h3 H9 H7 H3 H8 H0
    go_enter Tryd.func15, Tryd.ntmps15
    go_wp2_with (first | (go_at_call 17; refine (HC.out _).mono ?_; rintro e w' ⟨rfl, rfl⟩) | (go_at_call 30; refine (HM.out _).mono ?_; rintro e w' ⟨rfl, rfl⟩) | (go_at_call 31; refine (HD.out _).mono ?_; rintro e w' ⟨rfl, rfl⟩))
    go_ret
    exact ⟨rfl, HB.out _⟩
  rw [h3] at HD
  by_cases h4 : x.units < 1
  · have d4 : decide (x.units < 1) = true := decide_eq_true h4
    rw [H3.out hcd h3 (by rw [decide_eq_false (by omega)]; rfl)]
    clear hcd h3 H9 H7 H3 H8 H0
    go_enter Tryd.func15, Tryd.ntmps15
    go_wp2_with (first | (go_at_call 17; refine (HC.out _).mono ?_; rintro e w' ⟨rfl, rfl⟩) | (go_at_call 30; refine (HM.out _).mono ?_; rintro e w' ⟨rfl, rfl⟩) | (go_at_call 31; refine (HD.out _).mono ?_; rintro e w' ⟨rfl, rfl⟩))
    go_ret
    exact ⟨rfl, HB.out _⟩
  have d4 : decide (x.units < 1) = false := decide_eq_false h4
  by_cases h5 : 9999 < x.units
  · have d5 : decide (9999 < x.units) = true := decide_eq_true h5
    rw [H3.out hcd h3 (by rw [decide_eq_false (p := x.units ≤ 9999) (by omega), Bool.and_false])]
    clear hcd h3 H9 H7 H3 H8 H0
    go_enter Tryd.func15, Tryd.ntmps15
    go_wp2_with (first | (go_at_call 17; refine (HC.out _).mono ?_; rintro e w' ⟨rfl, rfl⟩) | (go_at_call 30; refine (HM.out _).mono ?_; rintro e w' ⟨rfl, rfl⟩) | (go_at_call 31; refine (HD.out _).mono ?_; rintro e w' ⟨rfl, rfl⟩))
    go_ret
    exact ⟨rfl, HB.out _⟩
  have d5 : decide (9999 < x.units) = false := decide_eq_false h5
  have hu : (decide (1 ≤ x.units) && decide (x.units ≤ 9999)) = true := by rw [decide_eq_true (by omega), decide_eq_true (by omega)]; rfl
  have HGB := Lib.hid fun w => Ce.good_any x.billed w
  have HGP := Lib.hid fun w => Ce.good_any x.prior w
  cases h6 : Ce.good x.billed
  · rw [h6] at HGB
    rw [H8.out hcd h3 hu (by rw [h6]; rfl)]
    clear hcd h3 hu h6 H9 H7 H3 H8 H0 HGP
    go_enter Tryd.func15, Tryd.ntmps15
    go_wp2_with (first | (go_at_call 17; refine (HC.out _).mono ?_; rintro e w' ⟨rfl, rfl⟩) | (go_at_call 30; refine (HM.out _).mono ?_; rintro e w' ⟨rfl, rfl⟩) | (go_at_call 31; refine (HD.out _).mono ?_; rintro e w' ⟨rfl, rfl⟩) | (go_at_call 32; refine (HGB.out _).mono ?_; rintro e w' ⟨rfl, rfl⟩))
    go_ret
    exact ⟨rfl, HB.out _⟩
  cases h7 : Ce.good x.prior
  · rw [h6] at HGB
    rw [h7] at HGP
    rw [H8.out hcd h3 hu (by rw [h6, h7]; rfl)]
    clear hcd h3 hu H9 H7 H3 H8 H0 HGB HGP
    go_enter Tryd.func15, Tryd.ntmps15
    go_wp2_with (first | (go_at_call 17; refine (HC.out _).mono ?_; rintro e w' ⟨rfl, rfl⟩) | (go_at_call 30; refine (HM.out _).mono ?_; rintro e w' ⟨rfl, rfl⟩) | (go_at_call 31; refine (HD.out _).mono ?_; rintro e w' ⟨rfl, rfl⟩) | (go_at_call 32; refine (Ce.good_any _ _).mono ?_; rintro e w' ⟨rfl, rfl⟩))
    go_ret
    exact ⟨rfl, HB.out _⟩
  by_cases h8 : x.billed < x.prior
  · have d8 : decide (x.billed < x.prior) = true := decide_eq_true h8
    rw [H8.out hcd h3 hu (by rw [decide_eq_false (by omega), Bool.and_false])]
    clear hcd h3 hu H9 H7 H3 H8 H0 HGB HGP
    go_enter Tryd.func15, Tryd.ntmps15
    go_wp2_with (first | (go_at_call 17; refine (HC.out _).mono ?_; rintro e w' ⟨rfl, rfl⟩) | (go_at_call 30; refine (HM.out _).mono ?_; rintro e w' ⟨rfl, rfl⟩) | (go_at_call 31; refine (HD.out _).mono ?_; rintro e w' ⟨rfl, rfl⟩) | (go_at_call 32; refine (Ce.good_any _ _).mono ?_; rintro e w' ⟨rfl, rfl⟩))
    go_ret
    exact ⟨rfl, HB.out _⟩
  have d8 : decide (x.billed < x.prior) = false := decide_eq_false h8
  rw [H0.out hcd h3 hu (by rw [h6, h7, decide_eq_true (by omega)]; rfl)]
  clear hcd h3 hu H9 H7 H3 H8 H0 HGB HGP
  go_enter Tryd.func15, Tryd.ntmps15
  go_wp2_with (first | (go_at_call 17; refine (HC.out _).mono ?_; rintro e w' ⟨rfl, rfl⟩) | (go_at_call 30; refine (HM.out _).mono ?_; rintro e w' ⟨rfl, rfl⟩) | (go_at_call 31; refine (HD.out _).mono ?_; rintro e w' ⟨rfl, rfl⟩) | (go_at_call 32; refine (Ce.good_any _ _).mono ?_; rintro e w' ⟨rfl, rfl⟩))
  go_ret
  exact ⟨rfl, HB.out _⟩
end Go.Proofs.YtpmlmoclocccoaaDoor.Cm
