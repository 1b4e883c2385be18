/-
  What claim.sameLine and the reference's SameLine answer, as contracts: whether two services are the same.
-/
import Derived.Test.YtpmlmoclocccoaaDoorLTexts
set_option linter.unusedSimpArgs false
namespace Go.Proofs.YtpmlmoclocccoaaDoor.Cm
open Go.RowKit
open Classical

abbrev boxl (x : Ln) (m : Value) : Obj := .cells #[.string (mk x.proc), m, .int .i64 x.date, .int .i64 x.units, .int .i64 x.billed, .int .i64 x.prior] 35
theorem ln_ne (x y : Ln) (h : decide (x.proc = y.proc) = false ∨ decide (x.mods = y.mods) = false ∨ decide (x.date = y.date) = false ∨ decide (x.units = y.units) = false ∨ decide (x.billed = y.billed) = false ∨ decide (x.prior = y.prior) = false) : decide (x = y) = false := by
  rw [decide_eq_false_iff_not]
  rintro rfl
  simp at h
theorem ln_same (x y : Ln) (h1 : decide (x.proc = y.proc) = true) (h3 : decide (x.date = y.date) = true) (h4 : decide (x.units = y.units) = true) (h5 : decide (x.billed = y.billed) = true) (h6 : decide (x.prior = y.prior) = true) (h2 : decide (x.mods = y.mods) = true) : decide (x = y) = true := by
  rw [decide_eq_true_eq] at *
  obtain ⟨p, m, d, u, b, r⟩ := x
  obtain ⟨p', m', d', u', b', r'⟩ := y
  simp at h1 h2 h3 h4 h5 h6
  simp [h1, h2, h3, h4, h5, h6]

set_option maxHeartbeats 4000000 in
theorem sameLine_any (x y : Ln) (m m' : Value) (w : World) (hm : TxAt All w m x.mods) (hm' : TxAt All w m' y.mods) :
    Calls Tryd.prog 37 #[lnv x m, lnv y m'] w fun e w' => e = .returned (.bool (decide (x = y))) ∧ Below w.heap.size w w' := by
  have HG : Hid (∀ o1 o2, Below w.heap.size w ((w.alloc o1).alloc o2)) := fun o1 o2 => below_trans (below_alloc w o1) (below_alloc _ o2)
  have HE := Lib.hid fun o1 o2 => equal_b m m' x.mods y.mods ((w.alloc o1).alloc o2) (TxAt.move hm (Below.moves (HG.out o1 o2))) (TxAt.move hm' (Below.moves (HG.out o1 o2)))
  have HX : Hid (∀ w1, Below ((w.alloc (boxl x m)).alloc (boxl y m')).heap.size ((w.alloc (boxl x m)).alloc (boxl y m')) w1 → LnBox w1 w.heap.size x m ∧ LnBox w1 (w.heap.size + 1) y m') := fun w1 hb => by
    refine ⟨(LnBox.new w x m _).grw (below_trans (below_alloc _ _) hb), ?_⟩
    have := (LnBox.new (w.alloc (boxl x m)) y m' 35).grw hb
    rwa [show (w.alloc (boxl x m)).heap.size = w.heap.size + 1 from by simp] at this
  obtain ⟨a, c, rfl, -, -⟩ := TxAt.form hm
  obtain ⟨a', c', rfl, -, -⟩ := TxAt.form hm'
  clear hm hm'
  have e_proc := mk_ne x.proc y.proc
  have e_date : (x.date == y.date) = decide (x.date = y.date) := by rw [Bool.eq_iff_iff]; simp
  have n_date : (x.date != y.date) = !decide (x.date = y.date) := by rw [Bool.eq_iff_iff]; simp
  have e_units : (x.units == y.units) = decide (x.units = y.units) := by rw [Bool.eq_iff_iff]; simp
  have n_units : (x.units != y.units) = !decide (x.units = y.units) := by rw [Bool.eq_iff_iff]; simp
  have e_billed : (x.billed == y.billed) = decide (x.billed = y.billed) := by rw [Bool.eq_iff_iff]; simp
  have n_billed : (x.billed != y.billed) = !decide (x.billed = y.billed) := by rw [Bool.eq_iff_iff]; simp
  have e_prior : (x.prior == y.prior) = decide (x.prior = y.prior) := by rw [Bool.eq_iff_iff]; simp
  have n_prior : (x.prior != y.prior) = !decide (x.prior = y.prior) := by rw [Bool.eq_iff_iff]; simp
  cases h_proc : decide (x.proc = y.proc)
  · rw [h_proc] at e_proc
    have hF : decide (x = y) = false := ln_ne x y (by simp [h_proc])
    rw [hF]
    clear hF
    clear e_date e_units e_billed e_prior n_date n_units n_billed n_prior h_proc
    go_enter Tryd.func37, Tryd.ntmps37
    go_wp2
    go_ret
    exact ⟨rfl, HG.out _ _⟩
  rw [h_proc] at e_proc
  cases h_date : decide (x.date = y.date)
  · rw [h_date] at e_date n_date
    have hF : decide (x = y) = false := ln_ne x y (by simp [h_date])
    rw [hF]
    clear hF
    clear e_units e_billed e_prior n_units n_billed n_prior h_proc h_date
    go_enter Tryd.func37, Tryd.ntmps37
    go_wp2
    go_ret
    exact ⟨rfl, HG.out _ _⟩
  rw [h_date] at e_date n_date
  cases h_units : decide (x.units = y.units)
  · rw [h_units] at e_units n_units
    have hF : decide (x = y) = false := ln_ne x y (by simp [h_units])
    rw [hF]
    clear hF
    clear e_billed e_prior n_billed n_prior h_proc h_date h_units
    go_enter Tryd.func37, Tryd.ntmps37
    go_wp2
    go_ret
    exact ⟨rfl, HG.out _ _⟩
  rw [h_units] at e_units n_units
  cases h_billed : decide (x.billed = y.billed)
  · rw [h_billed] at e_billed n_billed
    have hF : decide (x = y) = false := ln_ne x y (by simp [h_billed])
    rw [hF]
    clear hF
    clear e_prior n_prior h_proc h_date h_units h_billed
    go_enter Tryd.func37, Tryd.ntmps37
    go_wp2
    go_ret
    exact ⟨rfl, HG.out _ _⟩
  rw [h_billed] at e_billed n_billed
  cases h_prior : decide (x.prior = y.prior)
  · rw [h_prior] at e_prior n_prior
    have hF : decide (x = y) = false := ln_ne x y (by simp [h_prior])
    rw [hF]
    clear hF
    clear h_proc h_date h_units h_billed h_prior
    go_enter Tryd.func37, Tryd.ntmps37
    go_wp2
    go_ret
    exact ⟨rfl, HG.out _ _⟩
  rw [h_prior] at e_prior n_prior
  cases h_mods : decide (x.mods = y.mods)
  · rw [h_mods] at HE
    have hF : decide (x = y) = false := ln_ne x y (by simp [h_mods])
    rw [hF]
    clear hF
    clear h_proc h_date h_units h_billed h_prior h_mods
    go_enter Tryd.func37, Tryd.ntmps37
    go_wp2_with (first | (go_at_call 48; refine (HE.out _ _).mono ?_; rintro e w' ⟨rfl, hb⟩; have HB2 := Lib.hid (below_trans (HG.out _ _) hb); obtain ⟨⟨p0, p1, p2, p3, p4, p5⟩, r0, r1, r2, r3, r4, r5⟩ := HX.out _ hb; clear hb))
    go_ret
    exact ⟨rfl, HB2.out⟩
  rw [h_mods] at HE
  have hF : decide (x = y) = true := ln_same x y h_proc h_date h_units h_billed h_prior h_mods
  rw [hF]
  clear hF h_proc h_date h_units h_billed h_prior h_mods
  go_enter Tryd.func37, Tryd.ntmps37
  go_wp2_with (first | (go_at_call 48; refine (HE.out _ _).mono ?_; rintro e w' ⟨rfl, hb⟩; have HB2 := Lib.hid (below_trans (HG.out _ _) hb); obtain ⟨⟨p0, p1, p2, p3, p4, p5⟩, r0, r1, r2, r3, r4, r5⟩ := HX.out _ hb; clear hb))
  go_ret
  exact ⟨rfl, HB2.out⟩

set_option maxHeartbeats 4000000 in
theorem rsameLine_any (x y : Ln) (m m' : Value) (w : World) (hm : TxAt All w m x.mods) (hm' : TxAt All w m' y.mods) :
    Calls Tryd.prog 38 #[lnv x m, lnv y m'] w fun e w' => e = .returned (.bool (decide (x = y))) ∧ Below w.heap.size w w' := by
  have HG : Hid (∀ o1 o2, Below w.heap.size w ((w.alloc o1).alloc o2)) := fun o1 o2 => below_trans (below_alloc w o1) (below_alloc _ o2)
  have HE := Lib.hid fun o1 o2 => texts_b m m' x.mods y.mods ((w.alloc o1).alloc o2) (TxAt.move hm (Below.moves (HG.out o1 o2))) (TxAt.move hm' (Below.moves (HG.out o1 o2)))
  have HX : Hid (∀ w1, Below ((w.alloc (boxl x m)).alloc (boxl y m')).heap.size ((w.alloc (boxl x m)).alloc (boxl y m')) w1 → LnBox w1 w.heap.size x m ∧ LnBox w1 (w.heap.size + 1) y m') := fun w1 hb => by
    refine ⟨(LnBox.new w x m _).grw (below_trans (below_alloc _ _) hb), ?_⟩
    have := (LnBox.new (w.alloc (boxl x m)) y m' 35).grw hb
    rwa [show (w.alloc (boxl x m)).heap.size = w.heap.size + 1 from by simp] at this
  obtain ⟨a, c, rfl, -, -⟩ := TxAt.form hm
  obtain ⟨a', c', rfl, -, -⟩ := TxAt.form hm'
  clear hm hm'
  have e_proc := mk_ne x.proc y.proc
  have e_date : (x.date == y.date) = decide (x.date = y.date) := by rw [Bool.eq_iff_iff]; simp
  have n_date : (x.date != y.date) = !decide (x.date = y.date) := by rw [Bool.eq_iff_iff]; simp
  have e_units : (x.units == y.units) = decide (x.units = y.units) := by rw [Bool.eq_iff_iff]; simp
  have n_units : (x.units != y.units) = !decide (x.units = y.units) := by rw [Bool.eq_iff_iff]; simp
  have e_billed : (x.billed == y.billed) = decide (x.billed = y.billed) := by rw [Bool.eq_iff_iff]; simp
  have n_billed : (x.billed != y.billed) = !decide (x.billed = y.billed) := by rw [Bool.eq_iff_iff]; simp
  have e_prior : (x.prior == y.prior) = decide (x.prior = y.prior) := by rw [Bool.eq_iff_iff]; simp
  have n_prior : (x.prior != y.prior) = !decide (x.prior = y.prior) := by rw [Bool.eq_iff_iff]; simp
  cases h_proc : decide (x.proc = y.proc)
  · rw [h_proc] at e_proc
    have hF : decide (x = y) = false := ln_ne x y (by simp [h_proc])
    rw [hF]
    clear hF
    clear e_date e_units e_billed e_prior n_date n_units n_billed n_prior h_proc
    go_enter Tryd.func38, Tryd.ntmps38
    go_wp2
    go_ret
    exact ⟨rfl, HG.out _ _⟩
  rw [h_proc] at e_proc
  cases h_mods : decide (x.mods = y.mods)
  · rw [h_mods] at HE
    have hF : decide (x = y) = false := ln_ne x y (by simp [h_mods])
    rw [hF]
    clear hF
    clear e_date e_units e_billed e_prior n_date n_units n_billed n_prior h_proc h_mods
    go_enter Tryd.func38, Tryd.ntmps38
    go_wp2_with (first | (go_at_call 49; refine (HE.out _ _).mono ?_; rintro e w' ⟨rfl, hb⟩; have HB2 := Lib.hid (below_trans (HG.out _ _) hb); obtain ⟨⟨p0, p1, p2, p3, p4, p5⟩, r0, r1, r2, r3, r4, r5⟩ := HX.out _ hb; clear hb))
    go_ret
    exact ⟨rfl, HB2.out⟩
  rw [h_mods] at HE
  cases h_date : decide (x.date = y.date)
  · rw [h_date] at e_date n_date
    have hF : decide (x = y) = false := ln_ne x y (by simp [h_date])
    rw [hF]
    clear hF
    clear e_units e_billed e_prior n_units n_billed n_prior h_proc h_mods h_date
    go_enter Tryd.func38, Tryd.ntmps38
    go_wp2_with (first | (go_at_call 49; refine (HE.out _ _).mono ?_; rintro e w' ⟨rfl, hb⟩; have HB2 := Lib.hid (below_trans (HG.out _ _) hb); obtain ⟨⟨p0, p1, p2, p3, p4, p5⟩, r0, r1, r2, r3, r4, r5⟩ := HX.out _ hb; clear hb))
    go_ret
    exact ⟨rfl, HB2.out⟩
  rw [h_date] at e_date n_date
  cases h_units : decide (x.units = y.units)
  · rw [h_units] at e_units n_units
    have hF : decide (x = y) = false := ln_ne x y (by simp [h_units])
    rw [hF]
    clear hF
    clear e_billed e_prior n_billed n_prior h_proc h_mods h_date h_units
    go_enter Tryd.func38, Tryd.ntmps38
    go_wp2_with (first | (go_at_call 49; refine (HE.out _ _).mono ?_; rintro e w' ⟨rfl, hb⟩; have HB2 := Lib.hid (below_trans (HG.out _ _) hb); obtain ⟨⟨p0, p1, p2, p3, p4, p5⟩, r0, r1, r2, r3, r4, r5⟩ := HX.out _ hb; clear hb))
    go_ret
    exact ⟨rfl, HB2.out⟩
  rw [h_units] at e_units n_units
  cases h_billed : decide (x.billed = y.billed)
  · rw [h_billed] at e_billed n_billed
    have hF : decide (x = y) = false := ln_ne x y (by simp [h_billed])
    rw [hF]
    clear hF
    clear e_prior n_prior h_proc h_mods h_date h_units h_billed
    go_enter Tryd.func38, Tryd.ntmps38
    go_wp2_with (first | (go_at_call 49; refine (HE.out _ _).mono ?_; rintro e w' ⟨rfl, hb⟩; have HB2 := Lib.hid (below_trans (HG.out _ _) hb); obtain ⟨⟨p0, p1, p2, p3, p4, p5⟩, r0, r1, r2, r3, r4, r5⟩ := HX.out _ hb; clear hb))
    go_ret
    exact ⟨rfl, HB2.out⟩
  rw [h_billed] at e_billed n_billed
  cases h_prior : decide (x.prior = y.prior)
  · rw [h_prior] at e_prior n_prior
    have hF : decide (x = y) = false := ln_ne x y (by simp [h_prior])
    rw [hF]
    clear hF
    clear h_proc h_mods h_date h_units h_billed h_prior
    go_enter Tryd.func38, Tryd.ntmps38
    go_wp2_with (first | (go_at_call 49; refine (HE.out _ _).mono ?_; rintro e w' ⟨rfl, hb⟩; have HB2 := Lib.hid (below_trans (HG.out _ _) hb); obtain ⟨⟨p0, p1, p2, p3, p4, p5⟩, r0, r1, r2, r3, r4, r5⟩ := HX.out _ hb; clear hb))
    go_ret
    exact ⟨rfl, HB2.out⟩
  rw [h_prior] at e_prior n_prior
  have hF : decide (x = y) = true := ln_same x y h_proc h_date h_units h_billed h_prior h_mods
  rw [hF]
  clear hF h_proc h_mods h_date h_units h_billed h_prior
  go_enter Tryd.func38, Tryd.ntmps38
  go_wp2_with (first | (go_at_call 49; refine (HE.out _ _).mono ?_; rintro e w' ⟨rfl, hb⟩; have HB2 := Lib.hid (below_trans (HG.out _ _) hb); obtain ⟨⟨p0, p1, p2, p3, p4, p5⟩, r0, r1, r2, r3, r4, r5⟩ := HX.out _ hb; clear hb))
  go_ret
  exact ⟨rfl, HB2.out⟩
end Go.Proofs.YtpmlmoclocccoaaDoor.Cm
