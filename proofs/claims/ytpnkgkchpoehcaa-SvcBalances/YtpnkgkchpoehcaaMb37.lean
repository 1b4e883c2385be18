/-
  Texts put together (merge.py): DRefB, LRLine.
-/
import Derived.Below
import Derived.Test.YtpnkgkchpoehcaaMb36
/-
  What the reference's long and Good answer, as contracts over 'Below' (DRef has them over 'Grown').
-/
section
namespace Go.Proofs.Ytpnkgkchpoehcaa.Da
open Go.RowKit

set_option maxHeartbeats 1000000 in
theorem long_b (y m : Int) (w : World) (h : 0 ≤ y) (h1 : 1 ≤ m) (h2 : m ≤ 12) :
    Calls Try.prog 49 #[.int .i64 y, .int .i64 m] w fun e w' => e = .returned (.int .i64 (lenM y m)) ∧ Below w.heap.size w w' := by
  rcases month_cases m h1 h2 with rfl | rfl | rfl | rfl | rfl | rfl | rfl | rfl | rfl | rfl | rfl | rfl
  case inr.inl =>
    cases b : leapB y
    · go_enter Try.func49, Try.ntmps49
      go_wp2_with (go_at_call 50; refine (rleap_any _ _ h).mono ?_; rintro e w' ⟨rfl, rfl⟩)
      go_ret
      exact ⟨by simp [lenM, b, lenT, lens], (Below.refl _ _).alloc (Nat.le_refl _) _⟩
    · go_enter Try.func49, Try.ntmps49
      go_wp2_with (go_at_call 50; refine (rleap_any _ _ h).mono ?_; rintro e w' ⟨rfl, rfl⟩)
      go_ret
      exact ⟨by simp [lenM, b], (Below.refl _ _).alloc (Nat.le_refl _) _⟩
  all_goals
    go_enter Try.func49, Try.ntmps49
    go_wp2
    go_ret
    exact ⟨rfl, (Below.refl _ _).alloc (Nat.le_refl _) _⟩

set_option maxHeartbeats 400000 in
theorem rgood_b (n : Int) (w : World) :
    Calls Try.prog 47 #[.int .i64 n] w fun e w' => e = .returned (.bool (good n)) ∧ Below w.heap.size w w' := by
  by_cases c1 : n < 10101
  · have g : good n = false := by
      cases g : good n
      · rfl
      · have := good_bd n g; omega
    rw [g]
    go_enter Try.func47, Try.ntmps47
    go_wp2
    go_ret
    exact ⟨rfl, Below.refl _ _⟩
  by_cases c2 : n > 99991231
  · have g : good n = false := by
      cases g : good n
      · rfl
      · have := good_bd n g; omega
    rw [g]
    go_enter Try.func47, Try.ntmps47
    go_wp2
    go_ret
    exact ⟨rfl, Below.refl _ _⟩
  have G := good_refn n (by omega) (by omega)
  by_cases c3 : n / 100 % 100 < 1
  · have g : good n = false := G (by omega)
    rw [g]
    clear G
    go_enter Try.func47, Try.ntmps47
    go_wp2
    go_ret
    exact ⟨rfl, Below.refl _ _⟩
  by_cases c4 : n / 100 % 100 > 12
  · have g : good n = false := G (by omega)
    rw [g]
    clear G
    go_enter Try.func47, Try.ntmps47
    go_wp2
    go_ret
    exact ⟨rfl, Below.refl _ _⟩
  by_cases c5 : n % 100 ≥ 1
  · by_cases c6 : n % 100 ≤ lenM (n / 10000) (n / 100 % 100)
    · have g : good n = true := (good_ref n (by omega) (by omega)).2 (by omega)
      have d6 : decide (n % 100 ≤ lenM (n / 10000) (n / 100 % 100)) = true := by simpa using c6
      rw [g]
      clear G
      go_enter Try.func47, Try.ntmps47
      go_wp2_with (go_at_call 49; refine (long_b _ _ _ (by omega) (by omega) (by omega)).mono ?_; rintro e w' ⟨rfl, hg⟩)
      go_ret
      exact ⟨rfl, hg⟩
    · have g : good n = false := G (by omega)
      have d6 : decide (n % 100 ≤ lenM (n / 10000) (n / 100 % 100)) = false := by simpa using c6
      rw [g]
      clear G
      go_enter Try.func47, Try.ntmps47
      go_wp2_with (go_at_call 49; refine (long_b _ _ _ (by omega) (by omega) (by omega)).mono ?_; rintro e w' ⟨rfl, hg⟩)
      go_ret
      exact ⟨rfl, hg⟩
  · have g : good n = false := G (by omega)
    rw [g]
    clear G
    go_enter Try.func47, Try.ntmps47
    go_wp2
    go_ret
    exact ⟨rfl, Below.refl _ _⟩

end Go.Proofs.Ytpnkgkchpoehcaa.Da
end

/-
  What the reference's Line answers, as a contract: for every service.
-/
section
set_option linter.unusedSimpArgs false
namespace Go.Proofs.Ytpnkgkchpoehcaa.Cm
open Go.RowKit

theorem bool_eq (b c : Bool) (h : b = true ↔ c = true) : b = c := Bool.eq_iff_iff.2 h
theorem money_ref (x : Ln) : moneyB x = (Ce.good x.billed && (decide (0 ≤ x.prior) && decide (x.prior ≤ x.billed))) := by
  unfold moneyB
  apply bool_eq
  simp only [Bool.and_eq_true, decide_eq_true_eq, Ce.good_iff]
  omega

/-- What is there of the modifiers behind some rounds. -/
def modsK (l : List Tx) (k : Nat) : Bool := (l.take k).all fun x => codeB x 2 2
theorem modsK_step (l : List Tx) (k : Nat) (c : Tx) (h : l[k]? = some c) (hk : modsK l k = true) : modsK l (k + 1) = codeB c 2 2 := by
  unfold modsK at *
  rw [List.take_add_one, h]; simp_all
theorem modsK_all (l : List Tx) (k : Nat) (h : l.length ≤ 4) (hk : l.length ≤ k) : modsB l = modsK l k := by
  unfold modsB modsK; rw [List.take_of_length_le hk, decide_eq_true h]; rfl
theorem modsK_not (l : List Tx) (k : Nat) (hk : modsK l k = false) : modsB l = false := by
  unfold modsK at hk
  have : (l.all fun x => codeB x 2 2) = false := by
    rw [List.all_eq_false] at hk ⊢
    obtain ⟨x, hx, hc⟩ := hk
    exact ⟨x, List.mem_of_mem_take hx, hc⟩
  unfold modsB; rw [this]; simp

set_option maxHeartbeats 2000000 in
theorem rline_any (x : Ln) (m : Value) (w : World) (hm : TxAt All w m x.mods) (hx : LnOk x) :
    Calls Try.prog 43 #[lnv x m] w fun e w' => e = .returned (.int .i64 (lineE x)) ∧ Below w.heap.size w w' := by
  obtain ⟨i1, i2, i3, i4, z1, z2, z3⟩ := hx
  have HC := Lib.hid fun w => rcode_any x.proc 5 5 w (by omega)
  have HM := Lib.hid hm
  have HZ := Lib.hid z3
  have HMO := Lib.hid fun o => TxAt.move hm (Below.moves (below_alloc w o))
  have HB := Lib.hid fun o => below_alloc w o
  have H9 := Lib.hid (@line9 x)
  have H7 := Lib.hid (@line7 x)
  have H3 := Lib.hid (@line3 x)
  have H8 := Lib.hid (@line8 x)
  have H0 := Lib.hid (@line0 x)
  obtain ⟨a, c, rfl, f1, f2⟩ := TxAt.form hm
  clear hm i1 i2 i3 i4 z1 z2 z3
  generalize hR : lineE x = R at *
  clear hR
  have HD := Lib.hid fun w => Da.rgood_b x.date w
  cases h1 : codeB x.proc 5 5
  · rw [h1] at HC
    rw [H9.out (by unfold codesB; rw [h1]; rfl)]
    clear h1
    clear H9 H7 H3 H8 H0
    go_enter Try.func43, Try.ntmps43
    go_wp2_with (go_at_call 28; refine (HC.out _).mono ?_; rintro e w' ⟨rfl, rfl⟩)
    go_loopg [3, 4] 1 (fun g ok i wr => g = 1 ∧ ok = .bool false ∧ i = .int .i64 0 ∧ wr = w.alloc (.cells #[.string (mk x.proc), .slice a x.mods.length c, .int .i64 x.date, .int .i64 x.units, .int .i64 x.billed, .int .i64 x.prior] 43))
    case atStart => exact ⟨rfl, rfl, rfl, rfl⟩
    case round =>
      obtain ⟨_, rfl, rfl, hw⟩ := hrel
      rw [hw]
      clear hw wr
      by_cases hlt : 0 < x.mods.length
      · go_wp2
        go_ret
        exact ⟨rfl, HB.out _⟩
      · have hlt' : ¬ (0 : Int) < (x.mods.length : Int) := by omega
        first
          | (exfalso; omega)
          | (go_wp2
             go_ret
             exact ⟨rfl, HB.out _⟩)

  rw [h1] at HC
  by_cases h4 : x.mods.length ≤ 4
  case neg =>
    have d4 : decide ((x.mods.length : Int) ≤ 4) = false := decide_eq_false (by omega)
    have h4' : ¬ (x.mods.length : Int) ≤ 4 := by omega
    rw [H9.out (by unfold codesB; rw [mods_many _ h4, Bool.and_false])]
    clear h1
    clear H9 H7 H3 H8 H0
    go_enter Try.func43, Try.ntmps43
    go_wp2_with (go_at_call 28; refine (HC.out _).mono ?_; rintro e w' ⟨rfl, rfl⟩)
    go_loopg [3, 4] 1 (fun g ok i wr => g = 1 ∧ ok = .bool false ∧ i = .int .i64 0 ∧ wr = w.alloc (.cells #[.string (mk x.proc), .slice a x.mods.length c, .int .i64 x.date, .int .i64 x.units, .int .i64 x.billed, .int .i64 x.prior] 43))
    case atStart => exact ⟨rfl, rfl, rfl, rfl⟩
    case round =>
      obtain ⟨_, rfl, rfl, hw⟩ := hrel
      rw [hw]
      clear hw wr
      by_cases hlt : 0 < x.mods.length
      · go_wp2
        go_ret
        exact ⟨rfl, HB.out _⟩
      · have hlt' : ¬ (0 : Int) < (x.mods.length : Int) := by omega
        first
          | (exfalso; omega)
          | (go_wp2
             go_ret
             exact ⟨rfl, HB.out _⟩)

  have d4 : decide ((x.mods.length : Int) ≤ 4) = true := decide_eq_true (by omega)
  have h4' : (x.mods.length : Int) ≤ 4 := by omega
  have HK := Lib.hid (modsK_step x.mods)
  have HA := Lib.hid (fun k => modsK_all x.mods k h4)
  have HN := Lib.hid (modsK_not x.mods)
  have HBX : Hid (∀ w', Below (w.alloc (.cells #[.string (mk x.proc), .slice a x.mods.length c, .int .i64 x.date, .int .i64 x.units, .int .i64 x.billed, .int .i64 x.prior] 43)).heap.size (w.alloc (.cells #[.string (mk x.proc), .slice a x.mods.length c, .int .i64 x.date, .int .i64 x.units, .int .i64 x.billed, .int .i64 x.prior] 43)) w' → LnBox w' w.heap.size x (.slice a x.mods.length c)) := fun w' hb => (LnBox.new w x _ _).grw hb
  unfold codesB at H9 H7 H3 H8 H0
  rw [h1, Bool.true_and] at H9 H7 H3 H8 H0
  clear h1
  go_enter Try.func43, Try.ntmps43
  go_wp2_with (go_at_call 28; refine (HC.out _).mono ?_; rintro e w' ⟨rfl, rfl⟩)
  go_loopg [3, 4] (x.mods.length + 1) (fun g ok i wr => ∃ k : Nat, ∃ b : Bool, k ≤ x.mods.length ∧ g = x.mods.length + 1 - k ∧ i = .int .i64 k ∧ ok = .bool b ∧ Hid (modsK x.mods k = b) ∧ wr = w.alloc (.cells #[.string (mk x.proc), .slice a x.mods.length c, .int .i64 x.date, .int .i64 x.units, .int .i64 x.billed, .int .i64 x.prior] 43))
  case atStart => exact ⟨0, true, Nat.zero_le _, rfl, rfl, rfl, rfl, rfl⟩
  case round =>
    obtain ⟨k, b, hk, hg, rfl, rfl, HQ, hw⟩ := hrel
    rw [hw]
    clear hw wr
    cases b
    · have HE := Lib.hid (H9.out (HN.out k HQ.out))
      clear H9 H7 H3 H8 H0
      by_cases hlt : k < x.mods.length
      · go_wp2
        go_ret
        exact ⟨by rw [HE.out]; rfl, HB.out _⟩
      · have hlt' : ¬ (k : Int) < (x.mods.length : Int) := by omega
        go_wp2
        go_ret
        exact ⟨by rw [HE.out]; rfl, HB.out _⟩
    by_cases hlt : k < x.mods.length
    · obtain ⟨b, o, rfl, hx, hu⟩ := tx_get (HMO.out (.cells #[.string (mk x.proc), .slice a x.mods.length c, .int .i64 x.date, .int .i64 x.units, .int .i64 x.billed, .int .i64 x.prior] 43)) k hlt
      have hq := HZ.out _ (List.mem_of_getElem? hx)
      have hne : b ≠ w.heap.size := by
        obtain ⟨b', o', e, -, hu'⟩ := tx_get HM.out k hlt
        have hl := World.block_lt_of_cell? w _ hu'
        injection e with e
        injection e with e1 e2
        subst e1
        exact Nat.ne_of_lt hl
      have HC2 := Lib.hid fun w => rcode_any x.mods[k] 2 2 w (by omega)
      have HQ2 := Lib.hid (HK.out k _ hx HQ.out)
      clear hq hx
      obtain ⟨B, hB⟩ : ∃ B, B = codeB x.mods[k] 2 2 := ⟨_, rfl⟩
      rw [← hB] at HC2 HQ2
      clear hB
      go_wp2_with (go_at_call 28; refine (HC2.out _).mono ?_; rintro e w' ⟨rfl, rfl⟩)
      go_roundg (x.mods.length + 1 - (k + 1))
      case rel => exact ⟨k + 1, B, by omega, rfl, by go_num, rfl, HQ2.out, rfl⟩
      case measure => omega
    · have hlt' : ¬ (k : Int) < (x.mods.length : Int) := by omega
      have hcd : modsB x.mods = true := (HA.out k (by omega)).trans HQ.out
      cases h3 : Da.good x.date
      · rw [h3] at HD
        have HE := Lib.hid (H7.out hcd h3)
        clear hcd h3 H9 H7 H3 H8 H0
        go_wp2_with (first | (go_at_call 47; refine (HD.out _).mono ?_; rintro e w1 ⟨rfl, hb⟩; obtain ⟨b0, b1, b2, b3, b4, b5⟩ := HBX.out _ hb; have hb2 := Lib.hid hb; clear hb))
        go_ret
        exact ⟨by rw [HE.out]; rfl, below_trans (HB.out _) hb2.out⟩
      rw [h3] at HD
      by_cases h5 : x.units < 1
      · have d5 : decide (x.units < 1) = true := decide_eq_true h5
        have HE := Lib.hid (H3.out hcd h3 (by unfold unitsB; rw [decide_eq_false (by omega)]; rfl))
        clear hcd h3 H9 H7 H3 H8 H0
        go_wp2_with (first | (go_at_call 47; refine (HD.out _).mono ?_; rintro e w1 ⟨rfl, hb⟩; obtain ⟨b0, b1, b2, b3, b4, b5⟩ := HBX.out _ hb; have hb2 := Lib.hid hb; clear hb))
        go_ret
        exact ⟨by rw [HE.out]; rfl, below_trans (HB.out _) hb2.out⟩
      have d5 : decide (x.units < 1) = false := decide_eq_false h5
      by_cases h6 : 9999 < x.units
      · have d6 : decide (9999 < x.units) = true := decide_eq_true h6
        have HE := Lib.hid (H3.out hcd h3 (by unfold unitsB; rw [decide_eq_false (p := x.units ≤ 9999) (by omega), Bool.and_false]))
        clear hcd h3 H9 H7 H3 H8 H0
        go_wp2_with (first | (go_at_call 47; refine (HD.out _).mono ?_; rintro e w1 ⟨rfl, hb⟩; obtain ⟨b0, b1, b2, b3, b4, b5⟩ := HBX.out _ hb; have hb2 := Lib.hid hb; clear hb))
        go_ret
        exact ⟨by rw [HE.out]; rfl, below_trans (HB.out _) hb2.out⟩
      have d6 : decide (9999 < x.units) = false := decide_eq_false h6
      have hu : unitsB x.units = true := by unfold unitsB; rw [decide_eq_true (by omega), decide_eq_true (by omega)]; rfl
      rw [money_ref] at H8 H0
      cases h7 : Ce.good x.billed
      · have HE := Lib.hid (H8.out hcd h3 hu (by rw [h7]; rfl))
        clear hcd h3 hu H9 H7 H3 H8 H0
        go_wp2_with (first | (go_at_call 47; refine (HD.out _).mono ?_; rintro e w1 ⟨rfl, hb⟩; obtain ⟨b0, b1, b2, b3, b4, b5⟩ := HBX.out _ hb; have hb2 := Lib.hid hb; clear hb) | (go_at_call 41; refine (Ce.rgood_any _ _).mono ?_; rintro e w2 ⟨rfl, rfl⟩))
        go_ret
        exact ⟨by rw [HE.out]; rfl, below_trans (HB.out _) hb2.out⟩
      by_cases h8 : x.prior < 0
      · have d8 : decide (x.prior < 0) = true := decide_eq_true h8
        have HE := Lib.hid (H8.out hcd h3 hu (by rw [h7, decide_eq_false (p := 0 ≤ x.prior) (by omega)]; rfl))
        clear hcd h3 hu H9 H7 H3 H8 H0
        go_wp2_with (first | (go_at_call 47; refine (HD.out _).mono ?_; rintro e w1 ⟨rfl, hb⟩; obtain ⟨b0, b1, b2, b3, b4, b5⟩ := HBX.out _ hb; have hb2 := Lib.hid hb; clear hb) | (go_at_call 41; refine (Ce.rgood_any _ _).mono ?_; rintro e w2 ⟨rfl, rfl⟩))
        go_ret
        exact ⟨by rw [HE.out]; rfl, below_trans (HB.out _) hb2.out⟩
      have d8 : decide (x.prior < 0) = false := decide_eq_false h8
      by_cases h9 : x.billed < x.prior
      · have d9 : decide (x.billed < x.prior) = true := decide_eq_true h9
        have HE := Lib.hid (H8.out hcd h3 hu (by rw [decide_eq_false (p := x.prior ≤ x.billed) (by omega), Bool.and_false, Bool.and_false]))
        clear hcd h3 hu H9 H7 H3 H8 H0
        go_wp2_with (first | (go_at_call 47; refine (HD.out _).mono ?_; rintro e w1 ⟨rfl, hb⟩; obtain ⟨b0, b1, b2, b3, b4, b5⟩ := HBX.out _ hb; have hb2 := Lib.hid hb; clear hb) | (go_at_call 41; refine (Ce.rgood_any _ _).mono ?_; rintro e w2 ⟨rfl, rfl⟩))
        go_ret
        exact ⟨by rw [HE.out]; rfl, below_trans (HB.out _) hb2.out⟩
      have d9 : decide (x.billed < x.prior) = false := decide_eq_false h9
      have HE := Lib.hid (H0.out hcd h3 hu (by rw [h7, decide_eq_true (p := 0 ≤ x.prior) (by omega), decide_eq_true (p := x.prior ≤ x.billed) (by omega)]; rfl))
      clear hcd h3 hu H9 H7 H3 H8 H0
      go_wp2_with (first | (go_at_call 47; refine (HD.out _).mono ?_; rintro e w1 ⟨rfl, hb⟩; obtain ⟨b0, b1, b2, b3, b4, b5⟩ := HBX.out _ hb; have hb2 := Lib.hid hb; clear hb) | (go_at_call 41; refine (Ce.rgood_any _ _).mono ?_; rintro e w2 ⟨rfl, rfl⟩))
      go_ret
      exact ⟨by rw [HE.out]; rfl, below_trans (HB.out _) hb2.out⟩
end Go.Proofs.Ytpnkgkchpoehcaa.Cm
end
