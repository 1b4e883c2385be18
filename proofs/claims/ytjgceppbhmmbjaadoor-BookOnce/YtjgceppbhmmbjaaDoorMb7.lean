/-
  Texts put together (merge.py): DRef, CAdds, CRefs, LLine, LLines, LHead.
-/
import Derived.RowKit3
import Derived.WalkKit
import Derived.Test.YtjgceppbhmmbjaaDoorMb4
import Derived.Test.YtjgceppbhmmbjaaDoorProg
import Derived.Test.YtjgceppbhmmbjaaDoorMb1
import Derived.Test.YtjgceppbhmmbjaaDoorMb6
/-
  What the reference's leap, long and Good answer, as contracts. long lays a new table each time: the world grows.
-/
section
namespace Go.Proofs.YtjgceppbhmmbjaaDoor.Da
open Go.RowKit

theorem grown_trans {a b c : World} (h : Grown a b) (k : Grown b c) : Grown a c :=
  ⟨World.keptBut_trans h.1 (World.keptBut_mono (fun _ f => f.elim) k.1), fun x => (k.2.1 x).trans (h.2.1 x), Nat.le_trans h.2.2 k.2.2⟩
theorem tab_grown {w w' : World} (h : Tab w) (g : Grown w w') : Tab w' := fun i hi => by
  have c := h i hi
  have hb : (0 : Nat) < w.heap.size := World.block_lt_of_cell? w ⟨0, i, none⟩ c
  rw [g.1.cell hb (fun f => f)]
  exact c

theorem rleap_any (y : Int) (w : World) (h : 0 ≤ y) :
    Calls Tryd.prog 69 #[.int .i64 y] w fun e w' => e = .returned (.bool (leapB y)) ∧ w' = w := by
  cases h3 : (y % 400 == 0)
  · cases h2 : (y % 100 == 0)
    · have e : leapB y = (y % 4 == 0) := by simp [leapB, h3, bne, h2]
      go_enter Tryd.func69, Tryd.ntmps69
      go_wp2
      go_ret
      exact ⟨by rw [e]; rfl, rfl⟩
    · have e : leapB y = false := by simp [leapB, h3, bne, h2]
      go_enter Tryd.func69, Tryd.ntmps69
      go_wp2
      go_ret
      exact ⟨by rw [e]; rfl, rfl⟩
  · have e : leapB y = true := by simp [leapB, h3]
    go_enter Tryd.func69, Tryd.ntmps69
    go_wp2
    go_ret
    exact ⟨by rw [e]; rfl, rfl⟩

set_option maxHeartbeats 1000000 in
theorem long_any (y m : Int) (w : World) (h : 0 ≤ y) (h1 : 1 ≤ m) (h2 : m ≤ 12) :
    Calls Tryd.prog 67 #[.int .i64 y, .int .i64 m] w fun e w' => e = .returned (.int .i64 (lenM y m)) ∧ Grown w w' := by
  rcases month_cases m h1 h2 with rfl | rfl | rfl | rfl | rfl | rfl | rfl | rfl | rfl | rfl | rfl | rfl
  case inr.inl =>
    cases b : leapB y
    · go_enter Tryd.func67, Tryd.ntmps67
      go_wp2_with (go_at_call 69; refine (rleap_any _ _ h).mono ?_; rintro e w' ⟨rfl, rfl⟩)
      go_ret
      exact ⟨by simp [lenM, b, lenT, lens], (Grown.refl _).alloc _ _⟩
    · go_enter Tryd.func67, Tryd.ntmps67
      go_wp2_with (go_at_call 69; refine (rleap_any _ _ h).mono ?_; rintro e w' ⟨rfl, rfl⟩)
      go_ret
      exact ⟨by simp [lenM, b], (Grown.refl _).alloc _ _⟩
  all_goals
    go_enter Tryd.func67, Tryd.ntmps67
    go_wp2
    go_ret
    exact ⟨rfl, (Grown.refl _).alloc _ _⟩

theorem good_ref (n : Int) (h1 : 10101 ≤ n) (h2 : n ≤ 99991231) : good n = true ↔ (1 ≤ n / 100 % 100 ∧ n / 100 % 100 ≤ 12 ∧ 1 ≤ n % 100 ∧ n % 100 ≤ lenM (n / 10000) (n / 100 % 100)) := by
  rw [good_iff, yr_eq n (by omega), mo_eq n (by omega), da_eq n (by omega)]
  constructor
  · exact fun h => h.2.2
  · exact fun h => ⟨by omega, by omega, h⟩
theorem good_refn (n : Int) (h1 : 10101 ≤ n) (h2 : n ≤ 99991231) (h : ¬ (1 ≤ n / 100 % 100 ∧ n / 100 % 100 ≤ 12 ∧ 1 ≤ n % 100 ∧ n % 100 ≤ lenM (n / 10000) (n / 100 % 100))) : good n = false := by
  rw [← good_ref n h1 h2] at h
  simpa using h

set_option maxHeartbeats 400000 in
theorem rgood_any (n : Int) (w : World) :
    Calls Tryd.prog 62 #[.int .i64 n] w fun e w' => e = .returned (.bool (good n)) ∧ Grown w w' := by
  by_cases c1 : n < 10101
  · have g : good n = false := by
      cases g : good n
      · rfl
      · have := good_bd n g; omega
    rw [g]
    go_enter Tryd.func62, Tryd.ntmps62
    go_wp2
    go_ret
    exact ⟨rfl, Grown.refl _⟩
  by_cases c2 : n > 99991231
  · have g : good n = false := by
      cases g : good n
      · rfl
      · have := good_bd n g; omega
    rw [g]
    go_enter Tryd.func62, Tryd.ntmps62
    go_wp2
    go_ret
    exact ⟨rfl, Grown.refl _⟩
  have G := good_refn n (by omega) (by omega)
  by_cases c3 : n / 100 % 100 < 1
  · have g : good n = false := G (by omega)
    rw [g]
    clear G
    go_enter Tryd.func62, Tryd.ntmps62
    go_wp2
    go_ret
    exact ⟨rfl, Grown.refl _⟩
  by_cases c4 : n / 100 % 100 > 12
  · have g : good n = false := G (by omega)
    rw [g]
    clear G
    go_enter Tryd.func62, Tryd.ntmps62
    go_wp2
    go_ret
    exact ⟨rfl, Grown.refl _⟩
  by_cases c5 : n % 100 ≥ 1
  · by_cases c6 : n % 100 ≤ lenM (n / 10000) (n / 100 % 100)
    · have g : good n = true := (good_ref n (by omega) (by omega)).2 (by omega)
      have d6 : decide (n % 100 ≤ lenM (n / 10000) (n / 100 % 100)) = true := by simpa using c6
      rw [g]
      clear G
      go_enter Tryd.func62, Tryd.ntmps62
      go_wp2_with (go_at_call 67; refine (long_any _ _ _ (by omega) (by omega) (by omega)).mono ?_; rintro e w' ⟨rfl, hg⟩)
      go_ret
      exact ⟨rfl, hg⟩
    · have g : good n = false := G (by omega)
      have d6 : decide (n % 100 ≤ lenM (n / 10000) (n / 100 % 100)) = false := by simpa using c6
      rw [g]
      clear G
      go_enter Tryd.func62, Tryd.ntmps62
      go_wp2_with (go_at_call 67; refine (long_any _ _ _ (by omega) (by omega) (by omega)).mono ?_; rintro e w' ⟨rfl, hg⟩)
      go_ret
      exact ⟨rfl, hg⟩
  · have g : good n = false := G (by omega)
    rw [g]
    clear G
    go_enter Tryd.func62, Tryd.ntmps62
    go_wp2
    go_ret
    exact ⟨rfl, Grown.refl _⟩

end Go.Proofs.YtjgceppbhmmbjaaDoor.Da
end

/-
  What cents.Good and Add answer, as contracts: for every int64.
-/
section
namespace Go.Proofs.YtjgceppbhmmbjaaDoor.Ce
open Go.RowKit

theorem good_any (a : Int) (w : World) :
    Calls Tryd.prog 58 #[.int .i64 a] w fun e w' => e = .returned (.bool (good a)) ∧ w' = w := by
  by_cases h0 : 0 ≤ a
  · by_cases h1 : a ≤ 10000000000000
    · have g : good a = true := (good_iff a).2 ⟨h0, h1⟩
      rw [g]
      go_enter Tryd.func58, Tryd.ntmps58
      go_wp2
      go_ret
      exact ⟨rfl, rfl⟩
    · have g : good a = false := (good_not a).2 (by omega)
      rw [g]
      go_enter Tryd.func58, Tryd.ntmps58
      go_wp2
      go_ret
      exact ⟨rfl, rfl⟩
  · have g : good a = false := (good_not a).2 (by omega)
    rw [g]
    go_enter Tryd.func58, Tryd.ntmps58
    go_wp2
    go_ret
    exact ⟨rfl, rfl⟩

theorem add_any (a b : Int) (w : World) :
    Calls Tryd.prog 61 #[.int .i64 a, .int .i64 b] w fun e w' => e = .returned (.tuple #[.int .i64 (addV a b), .int .i64 (addE a b)]) ∧ w' = w := by
  cases ga : good a
  · have e1 : addV a b = 0 := by simp [addV, ga]
    have e2 : addE a b = 1 := by simp [addE, ga]
    rw [e1, e2]
    go_enter Tryd.func61, Tryd.ntmps61
    go_wp2_with (go_at_call 58; refine (good_any _ _).mono ?_; rintro e w' ⟨rfl, rfl⟩)
    go_ret2
    exact ⟨rfl, rfl⟩
  · cases gb : good b
    · have e1 : addV a b = 0 := by simp [addV, gb]
      have e2 : addE a b = 1 := by simp [addE, gb]
      rw [e1, e2]
      go_enter Tryd.func61, Tryd.ntmps61
      go_wp2_with (go_at_call 58; refine (good_any _ _).mono ?_; rintro e w' ⟨rfl, rfl⟩)
      go_ret2
      exact ⟨rfl, rfl⟩
    · have ba := (good_iff a).1 ga
      have bb := (good_iff b).1 gb
      obtain ⟨a0, a1⟩ := ba
      obtain ⟨b0, b1⟩ := bb
      cases gc : good (a + b)
      · have e1 : addV a b = 0 := by simp [addV, gc]
        have e2 : addE a b = 2 := by simp [addE, ga, gb, gc]
        rw [e1, e2]
        go_enter Tryd.func61, Tryd.ntmps61
        go_wp2_with (go_at_call 58; refine (good_any _ _).mono ?_; rintro e w' ⟨rfl, rfl⟩)
        go_ret2
        exact ⟨rfl, rfl⟩
      · have e1 : addV a b = a + b := by simp [addV, ga, gb, gc]
        have e2 : addE a b = 0 := by simp [addE, ga, gb, gc]
        rw [e1, e2]
        go_enter Tryd.func61, Tryd.ntmps61
        go_wp2_with (go_at_call 58; refine (good_any _ _).mono ?_; rintro e w' ⟨rfl, rfl⟩)
        go_ret2
        exact ⟨rfl, rfl⟩

end Go.Proofs.YtjgceppbhmmbjaaDoor.Ce
end

/-
  What the reference's Good answers, as contracts: for every int64.
-/
section
namespace Go.Proofs.YtjgceppbhmmbjaaDoor.Ce
open Go.RowKit

theorem rgood_any (a : Int) (w : World) :
    Calls Tryd.prog 63 #[.int .i64 a] w fun e w' => e = .returned (.bool (good a)) ∧ w' = w := by
  by_cases h0 : a < 0
  · have g : good a = false := (good_not a).2 (by omega)
    rw [g]
    go_enter Tryd.func63, Tryd.ntmps63
    go_wp2
    go_ret
    exact ⟨rfl, rfl⟩
  · by_cases h1 : 10000000000000 < a
    · have g : good a = false := (good_not a).2 (by omega)
      rw [g]
      go_enter Tryd.func63, Tryd.ntmps63
      go_wp2
      go_ret
      exact ⟨rfl, rfl⟩
    · have g : good a = true := (good_iff a).2 (by omega)
      rw [g]
      go_enter Tryd.func63, Tryd.ntmps63
      go_wp2
      go_ret
      exact ⟨rfl, rfl⟩

end Go.Proofs.YtjgceppbhmmbjaaDoor.Ce
end

/-
  What claim.Line and the reference's Line answer, as contracts: for every service.
-/
section
set_option linter.unusedSimpArgs false
namespace Go.Proofs.YtjgceppbhmmbjaaDoor.Cm
open Go.RowKit

theorem line9 {x : Ln} (h : codesB x = false) : lineE x = 9 := by simp [lineE, h]
theorem line7 {x : Ln} (h : codesB x = true) (h1 : Da.good x.date = false) : lineE x = 7 := by simp [lineE, h, h1]
theorem line3 {x : Ln} (h : codesB x = true) (h1 : Da.good x.date = true) (h2 : unitsB x.units = false) : lineE x = 3 := by simp [lineE, h, h1, h2]
theorem line8 {x : Ln} (h : codesB x = true) (h1 : Da.good x.date = true) (h2 : unitsB x.units = true) (h3 : moneyB x = false) : lineE x = 8 := by simp [lineE, h, h1, h2, h3]
theorem line0 {x : Ln} (h : codesB x = true) (h1 : Da.good x.date = true) (h2 : unitsB x.units = true) (h3 : moneyB x = true) : lineE x = 0 := by simp [lineE, h, h1, h2, h3]

set_option maxHeartbeats 1000000 in
theorem line_any (x : Ln) (m : Value) (w : World) (hm : TxAt All w m x.mods) (hx : LnOk x) (hT : Da.Tab w) :
    Calls Tryd.prog 49 #[lnv x m] w fun e w' => e = .returned (.int .i64 (lineE x)) ∧ Below w.heap.size w w' := by
  obtain ⟨i1, i2, i3, i4, z1, z2, z3⟩ := hx
  have HC := Lib.hid fun w => code_any x.proc 5 5 w (by omega)
  have HM := Lib.hid fun o => mods_any m x.mods (w.alloc o) (TxAt.move hm (Below.moves (below_alloc w o))) z3
  have HD := Lib.hid fun o => Da.good_any x.date (w.alloc o) (tab_below hT (below_alloc w o)) i1.1 i1.2
  have HB := Lib.hid fun o => below_alloc w o
  have H9 := Lib.hid (@line9 x)
  have H7 := Lib.hid (@line7 x)
  have H3 := Lib.hid (@line3 x)
  have H8 := Lib.hid (@line8 x)
  have H0 := Lib.hid (@line0 x)
  obtain ⟨a, c, rfl, -, -⟩ := TxAt.form hm
  unfold codesB at H9 H7 H3 H8 H0
  unfold unitsB at H3 H8 H0
  unfold moneyB at H8 H0
  clear hm hT i1 i2 i3 i4 z1 z2 z3
  generalize lineE x = R at *
  cases h1 : codeB x.proc 5 5
  · rw [h1] at HC
    rw [H9.out (by rw [h1]; rfl)]
    clear h1 H9 H7 H3 H8 H0
    go_enter Tryd.func49, Tryd.ntmps49
    go_wp2_with (go_at_call 55; refine (HC.out _).mono ?_; rintro e w' ⟨rfl, rfl⟩)
    go_ret
    exact ⟨rfl, HB.out _⟩
  cases h2 : modsB x.mods
  · rw [h1] at HC
    rw [h2] at HM
    rw [H9.out (by rw [h1, h2]; rfl)]
    clear h1 h2 H9 H7 H3 H8 H0
    go_enter Tryd.func49, Tryd.ntmps49
    go_wp2_with (first | (go_at_call 55; refine (HC.out _).mono ?_; rintro e w' ⟨rfl, rfl⟩) | (go_at_call 56; refine (HM.out _).mono ?_; rintro e w' ⟨rfl, rfl⟩))
    go_ret
    exact ⟨rfl, HB.out _⟩
  rw [h1] at HC
  rw [h2] at HM
  have hcd : (codeB x.proc 5 5 && modsB x.mods) = true := by rw [h1, h2]; rfl
  clear h1 h2
  cases h3 : Da.good x.date
  · rw [h3] at HD
    rw [H7.out hcd h3]
    clear hcd h3 H9 H7 H3 H8 H0
    go_enter Tryd.func49, Tryd.ntmps49
    go_wp2_with (first | (go_at_call 55; refine (HC.out _).mono ?_; rintro e w' ⟨rfl, rfl⟩) | (go_at_call 56; refine (HM.out _).mono ?_; rintro e w' ⟨rfl, rfl⟩) | (go_at_call 57; refine (HD.out _).mono ?_; rintro e w' ⟨rfl, rfl⟩))
    go_ret
    exact ⟨rfl, HB.out _⟩
  rw [h3] at HD
  by_cases h4 : x.units < 1
  · have d4 : decide (x.units < 1) = true := decide_eq_true h4
    rw [H3.out hcd h3 (by rw [decide_eq_false (by omega)]; rfl)]
    clear hcd h3 H9 H7 H3 H8 H0
    go_enter Tryd.func49, Tryd.ntmps49
    go_wp2_with (first | (go_at_call 55; refine (HC.out _).mono ?_; rintro e w' ⟨rfl, rfl⟩) | (go_at_call 56; refine (HM.out _).mono ?_; rintro e w' ⟨rfl, rfl⟩) | (go_at_call 57; refine (HD.out _).mono ?_; rintro e w' ⟨rfl, rfl⟩))
    go_ret
    exact ⟨rfl, HB.out _⟩
  have d4 : decide (x.units < 1) = false := decide_eq_false h4
  by_cases h5 : 9999 < x.units
  · have d5 : decide (9999 < x.units) = true := decide_eq_true h5
    rw [H3.out hcd h3 (by rw [decide_eq_false (p := x.units ≤ 9999) (by omega), Bool.and_false])]
    clear hcd h3 H9 H7 H3 H8 H0
    go_enter Tryd.func49, Tryd.ntmps49
    go_wp2_with (first | (go_at_call 55; refine (HC.out _).mono ?_; rintro e w' ⟨rfl, rfl⟩) | (go_at_call 56; refine (HM.out _).mono ?_; rintro e w' ⟨rfl, rfl⟩) | (go_at_call 57; refine (HD.out _).mono ?_; rintro e w' ⟨rfl, rfl⟩))
    go_ret
    exact ⟨rfl, HB.out _⟩
  have d5 : decide (9999 < x.units) = false := decide_eq_false h5
  have hu : (decide (1 ≤ x.units) && decide (x.units ≤ 9999)) = true := by rw [decide_eq_true (by omega), decide_eq_true (by omega)]; rfl
  have HGB := Lib.hid fun w => Ce.good_any x.billed w
  have HGP := Lib.hid fun w => Ce.good_any x.prior w
  cases h6 : Ce.good x.billed
  · rw [h6] at HGB
    rw [H8.out hcd h3 hu (by rw [h6]; rfl)]
    clear hcd h3 hu h6 H9 H7 H3 H8 H0 HGP
    go_enter Tryd.func49, Tryd.ntmps49
    go_wp2_with (first | (go_at_call 55; refine (HC.out _).mono ?_; rintro e w' ⟨rfl, rfl⟩) | (go_at_call 56; refine (HM.out _).mono ?_; rintro e w' ⟨rfl, rfl⟩) | (go_at_call 57; refine (HD.out _).mono ?_; rintro e w' ⟨rfl, rfl⟩) | (go_at_call 58; refine (HGB.out _).mono ?_; rintro e w' ⟨rfl, rfl⟩))
    go_ret
    exact ⟨rfl, HB.out _⟩
  cases h7 : Ce.good x.prior
  · rw [h6] at HGB
    rw [h7] at HGP
    rw [H8.out hcd h3 hu (by rw [h6, h7]; rfl)]
    clear hcd h3 hu H9 H7 H3 H8 H0 HGB HGP
    go_enter Tryd.func49, Tryd.ntmps49
    go_wp2_with (first | (go_at_call 55; refine (HC.out _).mono ?_; rintro e w' ⟨rfl, rfl⟩) | (go_at_call 56; refine (HM.out _).mono ?_; rintro e w' ⟨rfl, rfl⟩) | (go_at_call 57; refine (HD.out _).mono ?_; rintro e w' ⟨rfl, rfl⟩) | (go_at_call 58; refine (Ce.good_any _ _).mono ?_; rintro e w' ⟨rfl, rfl⟩))
    go_ret
    exact ⟨rfl, HB.out _⟩
  by_cases h8 : x.billed < x.prior
  · have d8 : decide (x.billed < x.prior) = true := decide_eq_true h8
    rw [H8.out hcd h3 hu (by rw [decide_eq_false (by omega), Bool.and_false])]
    clear hcd h3 hu H9 H7 H3 H8 H0 HGB HGP
    go_enter Tryd.func49, Tryd.ntmps49
    go_wp2_with (first | (go_at_call 55; refine (HC.out _).mono ?_; rintro e w' ⟨rfl, rfl⟩) | (go_at_call 56; refine (HM.out _).mono ?_; rintro e w' ⟨rfl, rfl⟩) | (go_at_call 57; refine (HD.out _).mono ?_; rintro e w' ⟨rfl, rfl⟩) | (go_at_call 58; refine (Ce.good_any _ _).mono ?_; rintro e w' ⟨rfl, rfl⟩))
    go_ret
    exact ⟨rfl, HB.out _⟩
  have d8 : decide (x.billed < x.prior) = false := decide_eq_false h8
  rw [H0.out hcd h3 hu (by rw [h6, h7, decide_eq_true (by omega)]; rfl)]
  clear hcd h3 hu H9 H7 H3 H8 H0 HGB HGP
  go_enter Tryd.func49, Tryd.ntmps49
  go_wp2_with (first | (go_at_call 55; refine (HC.out _).mono ?_; rintro e w' ⟨rfl, rfl⟩) | (go_at_call 56; refine (HM.out _).mono ?_; rintro e w' ⟨rfl, rfl⟩) | (go_at_call 57; refine (HD.out _).mono ?_; rintro e w' ⟨rfl, rfl⟩) | (go_at_call 58; refine (Ce.good_any _ _).mono ?_; rintro e w' ⟨rfl, rfl⟩))
  go_ret
  exact ⟨rfl, HB.out _⟩
end Go.Proofs.YtjgceppbhmmbjaaDoor.Cm
end

/-
  What claim.lines answers, as a contract: the first service's error that may not be beside those ahead of it.
-/
section
set_option linter.unusedSimpArgs false
namespace Go.Proofs.YtjgceppbhmmbjaaDoor.Cm
open Go.RowKit

theorem yearV_good {n : Int} (h : Da.good n = true) : Da.yearV n = Da.yr n := by simp [Da.yearV, h]

set_option maxHeartbeats 2000000 in
theorem lines_any (v : Value) (ls : List Ln) (w : World) (h : LnsAt All w v ls) (hz : ∀ x ∈ ls, LnOk x) (hT : Da.Tab w) :
    Calls Tryd.prog 40 #[v] w fun e w' => e = .returned (.int .i64 (linesE ls)) ∧ Below w.heap.size w w' := by
  have HV := Lib.hid h
  have HZ := Lib.hid hz
  have HT := Lib.hid hT
  obtain ⟨a, c, rfl, h1, h2⟩ := LnsAt.form h
  clear h hz hT
  unfold linesE
  obtain ⟨y, hy⟩ : ∃ y, y = Da.yr (ls.getD 0 ln0).date := ⟨_, rfl⟩
  rw [← hy]
  have HY := Lib.hid hy
  clear hy
  go_enter Tryd.func40, Tryd.ntmps40
  go_wp2
  go_step3
  go_wp2
  go_step3
  go_wp2
  go_loopg [7] (ls.length) (fun g i wr => ∃ k : Nat, k ≤ ls.length ∧ g = ls.length - k ∧ i = .int .i64 k ∧ Hid (Below w.heap.size w wr) ∧ Hid (firstE y (ls.drop k) = firstE y ls) ∧ Hid (∀ x, ls[0]? = some x → 0 < k → lineE x = 0))
  case atStart => exact ⟨0, Nat.zero_le _, rfl, rfl, Below.refl _ _, by rfl, fun _ _ h => absurd h (by omega)⟩
  case round =>
    obtain ⟨k, hk, hg, rfl, HB, HF, H0⟩ := hrel
    by_cases hlt : k < ls.length
    · have hL := LnsAt.move HV.out (Below.moves HB.out)
      have hpos : 0 < ls.length := by omega
      obtain ⟨b, o, m, rfl, hx, hc, hr⟩ := LnsAt.get hL k hlt
      obtain ⟨b', o', m0, e0, hx0, hc0, -⟩ := LnsAt.get hL 0 hpos
      injection e0 with e0
      injection e0 with e1 e2
      subst e1 e2
      have hzk := HZ.out _ (List.mem_of_getElem? hx)
      have hz0 := HZ.out _ (List.mem_of_getElem? hx0)
      have HC := Lib.hid (line_any ls[k] m wr hr hzk (tab_below HT.out HB.out))
      have HX : Hid (∀ w1, Below wr.heap.size wr w1 → w1.cell? ⟨b, o + k * 6 + 2, none⟩ = some (.int .i64 ls[k].date) ∧ w1.cell? ⟨b, o + 2, none⟩ = some (.int .i64 ls[0].date) ∧ Da.Tab w1) := fun w1 hb => by
        have hbl := World.block_lt_of_cell? wr _ hc.1
        refine ⟨(hc.of (hb.block _ hbl)).2.2.1, ?_, tab_below (tab_below HT.out HB.out) hb⟩
        have := (hc0.of (hb.block _ hbl)).2.2.1
        simpa using this
      obtain ⟨c0, c1, c2, c3, c4, c5⟩ := hc
      obtain ⟨am, cm, rfl, -, -⟩ := TxAt.form hr
      have hik := hzk.1
      have hi0 := hz0.1
      obtain ⟨l1, l2⟩ := hik
      obtain ⟨l3, l4⟩ := hi0
      have HBAD := Lib.hid (firstE_bad y ls k _ hx HF.out)
      have HYR := Lib.hid (firstE_yr y ls k _ hx HF.out)
      have HST := Lib.hid (firstE_step y ls k _ hx HF.out)
      by_cases he : lineE ls[k] = 0
      · have hgk := lineE_date he
        have hg0 : Da.good ls[0].date = true := by
          by_cases hk0 : k = 0
          · subst hk0; exact hgk
          · exact lineE_date (H0.out _ hx0 (by omega))
        have hy0 : y = Da.yr ls[0].date := by rw [HY.out, List.getD_eq_getElem?_getD, hx0]; rfl
        have H0' : Hid (∀ x, ls[0]? = some x → 0 < k + 1 → lineE x = 0) := fun x hx1 _ => by
          by_cases hk0 : k = 0
          · subst hk0
            rw [hx] at hx1
            rw [← Option.some.inj hx1]; exact he
          · exact H0.out x hx1 (by omega)
        rw [he] at HC
        have hyk := yearV_good hgk
        have hy0' := yearV_good hg0
        rw [← hy0] at hy0'
        clear hy0 hx hx0 hr hL hzk hz0 hc0 HBAD
        by_cases hyy : Da.yr ls[k].date = y
        · have HQ := Lib.hid (HST.out he hyy)
          have hbe : (Da.yearV ls[k].date == Da.yearV ls[0].date) = true := by rw [hyk, hy0', hyy]; simp
          clear hyy hyk hy0' hgk hg0 he
          go_wp2_with (first | (go_at_call 49; refine (HC.out).mono ?_; rintro e w1 ⟨rfl, hb⟩; obtain ⟨n1, n2, n3⟩ := HX.out _ hb; have HB2 := Lib.hid (below_trans HB.out hb); have HT1 := Lib.hid n3; clear n3 hb))
          go_quiet (first | (go_at_call 50; refine Calls.quiet_of_same (Da.year_any _ _ HT1.out (by assumption) (by assumption))))
          go_wp2
          go_roundg (ls.length - (k + 1))
          case rel => exact ⟨k + 1, by omega, rfl, by go_num, below_trans HB2.out (below_drewq ⟨_, rfl⟩), HQ.out, H0'.out⟩
          case measure => omega
        · have HQ := Lib.hid (HYR.out he hyy)
          have hbe : (Da.yearV ls[k].date == Da.yearV ls[0].date) = false := by rw [hyk, hy0']; simpa using hyy
          clear hyy hyk hy0' hgk hg0 he
          go_wp2_with (first | (go_at_call 49; refine (HC.out).mono ?_; rintro e w1 ⟨rfl, hb⟩; obtain ⟨n1, n2, n3⟩ := HX.out _ hb; have HB2 := Lib.hid (below_trans HB.out hb); have HT1 := Lib.hid n3; clear n3 hb))
          go_quiet (first | (go_at_call 50; refine Calls.quiet_of_same (Da.year_any _ _ HT1.out (by assumption) (by assumption))))
          go_wp2
          try rw [Exit.noGoto_ret]
          go_ret
          exact ⟨by rw [HQ.out]; rfl, below_trans HB2.out (below_drewq ⟨_, rfl⟩)⟩
      · have HQ := Lib.hid (HBAD.out he)
        have hbe : (lineE ls[k] != 0) = true := by simpa using he
        clear hx hx0 hr hL hzk hz0 hc0 HBAD he HX
        go_wp2_with (first | (go_at_call 49; refine (HC.out).mono ?_; rintro e w1 ⟨rfl, hb⟩; have HB2 := Lib.hid (below_trans HB.out hb); clear hb))
        try rw [Exit.noGoto_ret]
        go_ret
        exact ⟨by rw [HQ.out]; rfl, HB2.out⟩
    · have HQ := Lib.hid (firstE_end y ls k (by omega) HF.out)
      go_wp2
      try rw [Exit.noGoto_ret]
      go_ret
      exact ⟨by rw [HQ.out]; rfl, HB.out⟩
end Go.Proofs.YtjgceppbhmmbjaaDoor.Cm
end

/-
  What claim.ref and head answer, as contracts: for every claim; services are not looked at.
-/
section
set_option linter.unusedSimpArgs false
namespace Go.Proofs.YtjgceppbhmmbjaaDoor.Cm
open Go.RowKit

theorem mk_empty (s : Tx) : (mk s).toList.isEmpty = decide (s = []) := by
  rw [Lib.toList_data, mk_list]
  rw [Bool.eq_iff_iff]
  simp

set_option maxHeartbeats 1000000 in
theorem ref_any (c : Cl) (m : Value) (w : World) (hm : ∃ a n k, m = .slice a n k) (hz : c.ref.length ≤ 281474976710656) :
    Calls Tryd.prog 48 #[clv c m] w fun e w' => e = .returned (.bool (refB c)) ∧ Below w.heap.size w w' := by
  obtain ⟨a, n, k, rfl⟩ := hm
  have HB := Lib.hid fun o => below_alloc w o
  by_cases h1 : c.does = 1
  · have hr : refB c = decide (c.ref = []) := by unfold refB; rw [if_pos h1]
    have he := mk_empty c.ref
    rw [hr]
    clear hr
    have hb : (c.does == 1) = true := by simpa using h1
    generalize decide (c.ref = []) = R at *
    clear h1
    go_enter Tryd.func48, Tryd.ntmps48
    go_wp2
    go_ret
    exact ⟨by simp [he], HB.out _⟩
  · have hr : refB c = codeB c.ref 1 12 := by unfold refB; rw [if_neg h1]
    have HN := Lib.hid fun w => name_any c.ref w (by omega)
    have hb : (c.does == 1) = false := by simpa using h1
    rw [hr]
    clear hr
    generalize codeB c.ref 1 12 = R at *
    go_enter Tryd.func48, Tryd.ntmps48
    go_wp2_with (go_at_call 47; refine (HN.out _).mono ?_; rintro e w' ⟨rfl, rfl⟩)
    go_ret
    exact ⟨rfl, HB.out _⟩
theorem head9 {x : Cl} (h : namesB x = false) : headE x = 9 := by simp [headE, h]
theorem head3 {x : Cl} (h : namesB x = true) (h1 : netB x.net = false) : headE x = 3 := by simp [headE, h, h1]
theorem head9' {x : Cl} (h : namesB x = true) (h1 : netB x.net = true) (h2 : refB x = false) : headE x = 9 := by simp [headE, h, h1, h2]
theorem head3' {x : Cl} (h : namesB x = true) (h1 : netB x.net = true) (h2 : refB x = true) (h3 : doesB x.does = false) : headE x = 3 := by simp [headE, h, h1, h2, h3]
theorem head0 {x : Cl} (h : namesB x = true) (h1 : netB x.net = true) (h2 : refB x = true) (h3 : doesB x.does = true) : headE x = 0 := by simp [headE, h, h1, h2, h3]
def ClShort (c : Cl) : Prop := c.id.length ≤ 281474976710656 ∧ c.mem.length ≤ 281474976710656 ∧ c.fam.length ≤ 281474976710656 ∧ c.ref.length ≤ 281474976710656
theorem ClOk.short {c : Cl} (h : ClOk c) : ClShort c := ⟨h.2.2.1, h.2.2.2.1, h.2.2.2.2.1, h.2.2.2.2.2.1⟩

set_option maxHeartbeats 2000000 in
theorem head_any (c : Cl) (m : Value) (w : World) (hm : ∃ a n k, m = .slice a n k) (hz : ClShort c) :
    Calls Tryd.prog 39 #[clv c m] w fun e w' => e = .returned (.int .i64 (headE c)) ∧ Below w.heap.size w w' := by
  obtain ⟨z1, z2, z3, z4⟩ := hz
  have HN := Lib.hid fun (s : Tx) (hs : s.length ≤ 281474976710656) w => name_any s w (by omega)
  have HR := Lib.hid fun w => ref_any c m w hm z4
  have HB := Lib.hid fun o => below_alloc w o
  have H9 := Lib.hid (@head9 c)
  have H3 := Lib.hid (@head3 c)
  have H9' := Lib.hid (@head9' c)
  have H3' := Lib.hid (@head3' c)
  have H0 := Lib.hid (@head0 c)
  unfold namesB at H9 H3 H9' H3' H0
  have HBX : Hid (∀ w', Below (w.alloc (.cells #[.string (mk c.id), .string (mk c.mem), .string (mk c.fam), .int .i64 c.net, .int .i64 c.does, .string (mk c.ref), m] 25)).heap.size (w.alloc (.cells #[.string (mk c.id), .string (mk c.mem), .string (mk c.fam), .int .i64 c.net, .int .i64 c.does, .string (mk c.ref), m] 25)) w' → ClBox w' w.heap.size c m) := fun w' hb => (ClBox.new w c m _).grw hb
  obtain ⟨a, n, k, rfl⟩ := hm
  cases h1 : codeB c.id 1 12
  · rw [H9.out (by rw [h1]; rfl)]
    clear H9 H3 H9' H3' H0
    go_enter Tryd.func39, Tryd.ntmps39
    go_wp2_with (first | (go_at_call 47; refine (HN.out _ (by assumption) _).mono ?_; rintro e w' ⟨rfl, rfl⟩))
    go_ret
    exact ⟨rfl, HB.out _⟩
  cases h2 : codeB c.mem 1 12
  · rw [H9.out (by rw [h1, h2]; rfl)]
    clear H9 H3 H9' H3' H0
    go_enter Tryd.func39, Tryd.ntmps39
    go_wp2_with (first | (go_at_call 47; refine (HN.out _ (by assumption) _).mono ?_; rintro e w' ⟨rfl, rfl⟩))
    go_ret
    exact ⟨rfl, HB.out _⟩
  cases h3 : codeB c.fam 1 12
  · rw [H9.out (by rw [h1, h2, h3]; rfl)]
    clear H9 H3 H9' H3' H0
    go_enter Tryd.func39, Tryd.ntmps39
    go_wp2_with (first | (go_at_call 47; refine (HN.out _ (by assumption) _).mono ?_; rintro e w' ⟨rfl, rfl⟩))
    go_ret
    exact ⟨rfl, HB.out _⟩
  have hn : (codeB c.id 1 12 && (codeB c.mem 1 12 && codeB c.fam 1 12)) = true := by rw [h1, h2, h3]; rfl
  have b0 : (c.net != 0) = !decide (c.net = 0) := by rw [Bool.eq_iff_iff]; simp
  have b1 : (c.net != 1) = !decide (c.net = 1) := by rw [Bool.eq_iff_iff]; simp
  cases h4 : netB c.net
  · rw [H3.out hn h4]
    clear H9 H3 H9' H3' H0 hn
    unfold netB at h4
    rw [Bool.or_eq_false_iff] at h4
    rw [h4.1] at b0
    rw [h4.2] at b1
    clear h4
    go_enter Tryd.func39, Tryd.ntmps39
    go_wp2_with (first | (go_at_call 47; refine (HN.out _ (by assumption) _).mono ?_; rintro e w' ⟨rfl, rfl⟩))
    go_ret
    exact ⟨rfl, HB.out _⟩
  have h5 : (c.net != 0) = false ∨ ((c.net != 0) = true ∧ (c.net != 1) = false) := by
    rw [b0, b1]
    unfold netB at h4
    rw [Bool.or_eq_true] at h4
    rcases h4 with h4 | h4
    · left; rw [h4]; rfl
    · right
      rw [h4]
      rw [decide_eq_true_eq] at h4
      rw [decide_eq_false (by omega)]
      exact ⟨rfl, rfl⟩
  clear b0 b1
  have d1 : (c.does != 1) = !decide (c.does = 1) := by rw [Bool.eq_iff_iff]; simp
  have d7 : (c.does != 7) = !decide (c.does = 7) := by rw [Bool.eq_iff_iff]; simp
  have d8 : (c.does != 8) = !decide (c.does = 8) := by rw [Bool.eq_iff_iff]; simp
  cases h6 : refB c
  · rw [H9'.out hn h4 h6]
    rw [h6] at HR
    clear H9 H3 H9' H3' H0 hn h4 d1 d7 d8
    rcases h5 with h5 | ⟨h5, h5'⟩ <;>
    · go_enter Tryd.func39, Tryd.ntmps39
      go_wp2_with (first | (go_at_call 47; refine (HN.out _ (by assumption) _).mono ?_; rintro e w' ⟨rfl, rfl⟩) | (go_at_call 48; refine (HR.out _).mono ?_; rintro e w1 ⟨rfl, hb⟩; have HB1 := Lib.hid hb; clear hb))
      go_ret
      exact ⟨rfl, below_trans (HB.out _) HB1.out⟩
  rw [h6] at HR
  cases h7 : doesB c.does
  · rw [H3'.out hn h4 h6 h7]
    clear H9 H3 H9' H3' H0 hn h4
    unfold doesB at h7
    simp only [Bool.or_eq_false_iff] at h7
    rw [h7.1] at d1
    rw [h7.2.1] at d7
    rw [h7.2.2] at d8
    clear h7
    rcases h5 with h5 | ⟨h5, h5'⟩ <;>
    · go_enter Tryd.func39, Tryd.ntmps39
      go_wp2_with (first | (go_at_call 47; refine (HN.out _ (by assumption) _).mono ?_; rintro e w' ⟨rfl, rfl⟩) | (go_at_call 48; refine (HR.out _).mono ?_; rintro e w1 ⟨rfl, hb⟩; obtain ⟨n0, n1, n2, n3, n4, n5, n6⟩ := HBX.out _ hb; have HB1 := Lib.hid hb; clear hb))
      go_ret
      exact ⟨rfl, below_trans (HB.out _) HB1.out⟩
  rw [H0.out hn h4 h6 h7]
  clear H9 H3 H9' H3' H0 hn h4
  have h8 : (c.does != 1) = false ∨ ((c.does != 1) = true ∧ (c.does != 7) = false) ∨ ((c.does != 1) = true ∧ (c.does != 7) = true ∧ (c.does != 8) = false) := by
    rw [d1, d7, d8]
    unfold doesB at h7
    simp only [Bool.or_eq_true, decide_eq_true_eq] at h7
    rcases h7 with h7 | h7 | h7 <;> simp [h7]
  clear d1 d7 d8 h7
  rcases h5 with h5 | ⟨h5, h5'⟩ <;> rcases h8 with h8 | ⟨h8, h8'⟩ | ⟨h8, h8', h8''⟩ <;>
  · go_enter Tryd.func39, Tryd.ntmps39
    go_wp2_with (first | (go_at_call 47; refine (HN.out _ (by assumption) _).mono ?_; rintro e w' ⟨rfl, rfl⟩) | (go_at_call 48; refine (HR.out _).mono ?_; rintro e w1 ⟨rfl, hb⟩; obtain ⟨n0, n1, n2, n3, n4, n5, n6⟩ := HBX.out _ hb; have HB1 := Lib.hid hb; clear hb))
    go_ret
    exact ⟨rfl, below_trans (HB.out _) HB1.out⟩
end Go.Proofs.YtjgceppbhmmbjaaDoor.Cm
end
