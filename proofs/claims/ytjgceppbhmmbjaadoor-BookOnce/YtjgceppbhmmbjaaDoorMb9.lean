/-
  Texts put together (merge.py): LRLine, LRCheck, LRCk.
-/
import Derived.Test.YtjgceppbhmmbjaaDoorMb7
import Derived.Test.YtjgceppbhmmbjaaDoorMb8
/-
  What the reference's Line answers, as a contract: for every service.
-/
section
set_option linter.unusedSimpArgs false
namespace Go.Proofs.YtjgceppbhmmbjaaDoor.Cm
open Go.RowKit

theorem bool_eq (b c : Bool) (h : b = true ↔ c = true) : b = c := Bool.eq_iff_iff.2 h
theorem money_ref (x : Ln) : moneyB x = (Ce.good x.billed && (decide (0 ≤ x.prior) && decide (x.prior ≤ x.billed))) := by
  unfold moneyB
  apply bool_eq
  simp only [Bool.and_eq_true, decide_eq_true_eq, Ce.good_iff]
  omega

/-- What is there of the modifiers behind some rounds. -/
def modsK (l : List Tx) (k : Nat) : Bool := (l.take k).all fun x => codeB x 2 2
theorem modsK_step (l : List Tx) (k : Nat) (c : Tx) (h : l[k]? = some c) (hk : modsK l k = true) : modsK l (k + 1) = codeB c 2 2 := by
  unfold modsK at *
  rw [List.take_add_one, h]; simp_all
theorem modsK_all (l : List Tx) (k : Nat) (h : l.length ≤ 4) (hk : l.length ≤ k) : modsB l = modsK l k := by
  unfold modsB modsK; rw [List.take_of_length_le hk, decide_eq_true h]; rfl
theorem modsK_not (l : List Tx) (k : Nat) (hk : modsK l k = false) : modsB l = false := by
  unfold modsK at hk
  have : (l.all fun x => codeB x 2 2) = false := by
    rw [List.all_eq_false] at hk ⊢
    obtain ⟨x, hx, hc⟩ := hk
    exact ⟨x, List.mem_of_mem_take hx, hc⟩
  unfold modsB; rw [this]; simp

set_option maxHeartbeats 2000000 in
theorem rline_any (x : Ln) (m : Value) (w : World) (hm : TxAt All w m x.mods) (hx : LnOk x) :
    Calls Tryd.prog 52 #[lnv x m] w fun e w' => e = .returned (.int .i64 (lineE x)) ∧ Below w.heap.size w w' := by
  obtain ⟨i1, i2, i3, i4, z1, z2, z3⟩ := hx
  have HC := Lib.hid fun w => rcode_any x.proc 5 5 w (by omega)
  have HM := Lib.hid hm
  have HZ := Lib.hid z3
  have HMO := Lib.hid fun o => TxAt.move hm (Below.moves (below_alloc w o))
  have HB := Lib.hid fun o => below_alloc w o
  have H9 := Lib.hid (@line9 x)
  have H7 := Lib.hid (@line7 x)
  have H3 := Lib.hid (@line3 x)
  have H8 := Lib.hid (@line8 x)
  have H0 := Lib.hid (@line0 x)
  obtain ⟨a, c, rfl, f1, f2⟩ := TxAt.form hm
  clear hm i1 i2 i3 i4 z1 z2 z3
  generalize hR : lineE x = R at *
  clear hR
  have HD := Lib.hid fun w => Da.rgood_b x.date w
  cases h1 : codeB x.proc 5 5
  · rw [h1] at HC
    rw [H9.out (by unfold codesB; rw [h1]; rfl)]
    clear h1
    clear H9 H7 H3 H8 H0
    go_enter Tryd.func52, Tryd.ntmps52
    go_wp2_with (go_at_call 42; refine (HC.out _).mono ?_; rintro e w' ⟨rfl, rfl⟩)
    go_loopg [3, 4] 1 (fun g ok i wr => g = 1 ∧ ok = .bool false ∧ i = .int .i64 0 ∧ wr = w.alloc (.cells #[.string (mk x.proc), .slice a x.mods.length c, .int .i64 x.date, .int .i64 x.units, .int .i64 x.billed, .int .i64 x.prior] 58))
    case atStart => exact ⟨rfl, rfl, rfl, rfl⟩
    case round =>
      obtain ⟨_, rfl, rfl, hw⟩ := hrel
      rw [hw]
      clear hw wr
      by_cases hlt : 0 < x.mods.length
      · go_wp2
        go_ret
        exact ⟨rfl, HB.out _⟩
      · have hlt' : ¬ (0 : Int) < (x.mods.length : Int) := by omega
        first
          | (exfalso; omega)
          | (go_wp2
             go_ret
             exact ⟨rfl, HB.out _⟩)

  rw [h1] at HC
  by_cases h4 : x.mods.length ≤ 4
  case neg =>
    have d4 : decide ((x.mods.length : Int) ≤ 4) = false := decide_eq_false (by omega)
    have h4' : ¬ (x.mods.length : Int) ≤ 4 := by omega
    rw [H9.out (by unfold codesB; rw [mods_many _ h4, Bool.and_false])]
    clear h1
    clear H9 H7 H3 H8 H0
    go_enter Tryd.func52, Tryd.ntmps52
    go_wp2_with (go_at_call 42; refine (HC.out _).mono ?_; rintro e w' ⟨rfl, rfl⟩)
    go_loopg [3, 4] 1 (fun g ok i wr => g = 1 ∧ ok = .bool false ∧ i = .int .i64 0 ∧ wr = w.alloc (.cells #[.string (mk x.proc), .slice a x.mods.length c, .int .i64 x.date, .int .i64 x.units, .int .i64 x.billed, .int .i64 x.prior] 58))
    case atStart => exact ⟨rfl, rfl, rfl, rfl⟩
    case round =>
      obtain ⟨_, rfl, rfl, hw⟩ := hrel
      rw [hw]
      clear hw wr
      by_cases hlt : 0 < x.mods.length
      · go_wp2
        go_ret
        exact ⟨rfl, HB.out _⟩
      · have hlt' : ¬ (0 : Int) < (x.mods.length : Int) := by omega
        first
          | (exfalso; omega)
          | (go_wp2
             go_ret
             exact ⟨rfl, HB.out _⟩)

  have d4 : decide ((x.mods.length : Int) ≤ 4) = true := decide_eq_true (by omega)
  have h4' : (x.mods.length : Int) ≤ 4 := by omega
  have HK := Lib.hid (modsK_step x.mods)
  have HA := Lib.hid (fun k => modsK_all x.mods k h4)
  have HN := Lib.hid (modsK_not x.mods)
  have HBX : Hid (∀ w', Below (w.alloc (.cells #[.string (mk x.proc), .slice a x.mods.length c, .int .i64 x.date, .int .i64 x.units, .int .i64 x.billed, .int .i64 x.prior] 58)).heap.size (w.alloc (.cells #[.string (mk x.proc), .slice a x.mods.length c, .int .i64 x.date, .int .i64 x.units, .int .i64 x.billed, .int .i64 x.prior] 58)) w' → LnBox w' w.heap.size x (.slice a x.mods.length c)) := fun w' hb => (LnBox.new w x _ _).grw hb
  unfold codesB at H9 H7 H3 H8 H0
  rw [h1, Bool.true_and] at H9 H7 H3 H8 H0
  clear h1
  go_enter Tryd.func52, Tryd.ntmps52
  go_wp2_with (go_at_call 42; refine (HC.out _).mono ?_; rintro e w' ⟨rfl, rfl⟩)
  go_loopg [3, 4] (x.mods.length + 1) (fun g ok i wr => ∃ k : Nat, ∃ b : Bool, k ≤ x.mods.length ∧ g = x.mods.length + 1 - k ∧ i = .int .i64 k ∧ ok = .bool b ∧ Hid (modsK x.mods k = b) ∧ wr = w.alloc (.cells #[.string (mk x.proc), .slice a x.mods.length c, .int .i64 x.date, .int .i64 x.units, .int .i64 x.billed, .int .i64 x.prior] 58))
  case atStart => exact ⟨0, true, Nat.zero_le _, rfl, rfl, rfl, rfl, rfl⟩
  case round =>
    obtain ⟨k, b, hk, hg, rfl, rfl, HQ, hw⟩ := hrel
    rw [hw]
    clear hw wr
    cases b
    · have HE := Lib.hid (H9.out (HN.out k HQ.out))
      clear H9 H7 H3 H8 H0
      by_cases hlt : k < x.mods.length
      · go_wp2
        go_ret
        exact ⟨by rw [HE.out]; rfl, HB.out _⟩
      · have hlt' : ¬ (k : Int) < (x.mods.length : Int) := by omega
        go_wp2
        go_ret
        exact ⟨by rw [HE.out]; rfl, HB.out _⟩
    by_cases hlt : k < x.mods.length
    · obtain ⟨b, o, rfl, hx, hu⟩ := tx_get (HMO.out (.cells #[.string (mk x.proc), .slice a x.mods.length c, .int .i64 x.date, .int .i64 x.units, .int .i64 x.billed, .int .i64 x.prior] 58)) k hlt
      have hq := HZ.out _ (List.mem_of_getElem? hx)
      have hne : b ≠ w.heap.size := by
        obtain ⟨b', o', e, -, hu'⟩ := tx_get HM.out k hlt
        have hl := World.block_lt_of_cell? w _ hu'
        injection e with e
        injection e with e1 e2
        subst e1
        exact Nat.ne_of_lt hl
      have HC2 := Lib.hid fun w => rcode_any x.mods[k] 2 2 w (by omega)
      have HQ2 := Lib.hid (HK.out k _ hx HQ.out)
      clear hq hx
      obtain ⟨B, hB⟩ : ∃ B, B = codeB x.mods[k] 2 2 := ⟨_, rfl⟩
      rw [← hB] at HC2 HQ2
      clear hB
      go_wp2_with (go_at_call 42; refine (HC2.out _).mono ?_; rintro e w' ⟨rfl, rfl⟩)
      go_roundg (x.mods.length + 1 - (k + 1))
      case rel => exact ⟨k + 1, B, by omega, rfl, by go_num, rfl, HQ2.out, rfl⟩
      case measure => omega
    · have hlt' : ¬ (k : Int) < (x.mods.length : Int) := by omega
      have hcd : modsB x.mods = true := (HA.out k (by omega)).trans HQ.out
      cases h3 : Da.good x.date
      · rw [h3] at HD
        have HE := Lib.hid (H7.out hcd h3)
        clear hcd h3 H9 H7 H3 H8 H0
        go_wp2_with (first | (go_at_call 62; refine (HD.out _).mono ?_; rintro e w1 ⟨rfl, hb⟩; obtain ⟨b0, b1, b2, b3, b4, b5⟩ := HBX.out _ hb; have hb2 := Lib.hid hb; clear hb))
        go_ret
        exact ⟨by rw [HE.out]; rfl, below_trans (HB.out _) hb2.out⟩
      rw [h3] at HD
      by_cases h5 : x.units < 1
      · have d5 : decide (x.units < 1) = true := decide_eq_true h5
        have HE := Lib.hid (H3.out hcd h3 (by unfold unitsB; rw [decide_eq_false (by omega)]; rfl))
        clear hcd h3 H9 H7 H3 H8 H0
        go_wp2_with (first | (go_at_call 62; refine (HD.out _).mono ?_; rintro e w1 ⟨rfl, hb⟩; obtain ⟨b0, b1, b2, b3, b4, b5⟩ := HBX.out _ hb; have hb2 := Lib.hid hb; clear hb))
        go_ret
        exact ⟨by rw [HE.out]; rfl, below_trans (HB.out _) hb2.out⟩
      have d5 : decide (x.units < 1) = false := decide_eq_false h5
      by_cases h6 : 9999 < x.units
      · have d6 : decide (9999 < x.units) = true := decide_eq_true h6
        have HE := Lib.hid (H3.out hcd h3 (by unfold unitsB; rw [decide_eq_false (p := x.units ≤ 9999) (by omega), Bool.and_false]))
        clear hcd h3 H9 H7 H3 H8 H0
        go_wp2_with (first | (go_at_call 62; refine (HD.out _).mono ?_; rintro e w1 ⟨rfl, hb⟩; obtain ⟨b0, b1, b2, b3, b4, b5⟩ := HBX.out _ hb; have hb2 := Lib.hid hb; clear hb))
        go_ret
        exact ⟨by rw [HE.out]; rfl, below_trans (HB.out _) hb2.out⟩
      have d6 : decide (9999 < x.units) = false := decide_eq_false h6
      have hu : unitsB x.units = true := by unfold unitsB; rw [decide_eq_true (by omega), decide_eq_true (by omega)]; rfl
      rw [money_ref] at H8 H0
      cases h7 : Ce.good x.billed
      · have HE := Lib.hid (H8.out hcd h3 hu (by rw [h7]; rfl))
        clear hcd h3 hu H9 H7 H3 H8 H0
        go_wp2_with (first | (go_at_call 62; refine (HD.out _).mono ?_; rintro e w1 ⟨rfl, hb⟩; obtain ⟨b0, b1, b2, b3, b4, b5⟩ := HBX.out _ hb; have hb2 := Lib.hid hb; clear hb) | (go_at_call 63; refine (Ce.rgood_any _ _).mono ?_; rintro e w2 ⟨rfl, rfl⟩))
        go_ret
        exact ⟨by rw [HE.out]; rfl, below_trans (HB.out _) hb2.out⟩
      by_cases h8 : x.prior < 0
      · have d8 : decide (x.prior < 0) = true := decide_eq_true h8
        have HE := Lib.hid (H8.out hcd h3 hu (by rw [h7, decide_eq_false (p := 0 ≤ x.prior) (by omega)]; rfl))
        clear hcd h3 hu H9 H7 H3 H8 H0
        go_wp2_with (first | (go_at_call 62; refine (HD.out _).mono ?_; rintro e w1 ⟨rfl, hb⟩; obtain ⟨b0, b1, b2, b3, b4, b5⟩ := HBX.out _ hb; have hb2 := Lib.hid hb; clear hb) | (go_at_call 63; refine (Ce.rgood_any _ _).mono ?_; rintro e w2 ⟨rfl, rfl⟩))
        go_ret
        exact ⟨by rw [HE.out]; rfl, below_trans (HB.out _) hb2.out⟩
      have d8 : decide (x.prior < 0) = false := decide_eq_false h8
      by_cases h9 : x.billed < x.prior
      · have d9 : decide (x.billed < x.prior) = true := decide_eq_true h9
        have HE := Lib.hid (H8.out hcd h3 hu (by rw [decide_eq_false (p := x.prior ≤ x.billed) (by omega), Bool.and_false, Bool.and_false]))
        clear hcd h3 hu H9 H7 H3 H8 H0
        go_wp2_with (first | (go_at_call 62; refine (HD.out _).mono ?_; rintro e w1 ⟨rfl, hb⟩; obtain ⟨b0, b1, b2, b3, b4, b5⟩ := HBX.out _ hb; have hb2 := Lib.hid hb; clear hb) | (go_at_call 63; refine (Ce.rgood_any _ _).mono ?_; rintro e w2 ⟨rfl, rfl⟩))
        go_ret
        exact ⟨by rw [HE.out]; rfl, below_trans (HB.out _) hb2.out⟩
      have d9 : decide (x.billed < x.prior) = false := decide_eq_false h9
      have HE := Lib.hid (H0.out hcd h3 hu (by rw [h7, decide_eq_true (p := 0 ≤ x.prior) (by omega), decide_eq_true (p := x.prior ≤ x.billed) (by omega)]; rfl))
      clear hcd h3 hu H9 H7 H3 H8 H0
      go_wp2_with (first | (go_at_call 62; refine (HD.out _).mono ?_; rintro e w1 ⟨rfl, hb⟩; obtain ⟨b0, b1, b2, b3, b4, b5⟩ := HBX.out _ hb; have hb2 := Lib.hid hb; clear hb) | (go_at_call 63; refine (Ce.rgood_any _ _).mono ?_; rintro e w2 ⟨rfl, rfl⟩))
      go_ret
      exact ⟨by rw [HE.out]; rfl, below_trans (HB.out _) hb2.out⟩
end Go.Proofs.YtjgceppbhmmbjaaDoor.Cm
end

/-
  What the reference's lines, Check and Batch answer, as contracts.
-/
section
set_option linter.unusedSimpArgs false
namespace Go.Proofs.YtjgceppbhmmbjaaDoor.Cm
open Go.RowKit

/-- What the reference's lines answers: the services' error, or Total's. -/
def tailE (ls : List Ln) : Int := if linesE ls = 0 then totE ls else linesE ls
theorem tail_bad {ls : List Ln} (h : linesE ls ≠ 0) : tailE ls = linesE ls := by unfold tailE; rw [if_neg h]
theorem tail_ok {ls : List Ln} (h : linesE ls = 0) : tailE ls = totE ls := by unfold tailE; rw [if_pos h]

set_option maxHeartbeats 2000000 in
theorem rlines_any (c : Cl) (m : Value) (w : World) (hm : LnsAt All w m c.lines) (hz : ∀ x ∈ c.lines, LnOk x) (hl : c.lines.length ≤ 1000000) :
    Calls Tryd.prog 43 #[clv c m] w fun e w' => e = .returned (.int .i64 (tailE c.lines)) ∧ Below w.heap.size w w' := by
  have HV := Lib.hid hm
  have HZ := Lib.hid hz
  have HBX : Hid (∀ w', Below (w.alloc (boxc c m)).heap.size (w.alloc (boxc c m)) w' → ClBox w' w.heap.size c m ∧ Below w.heap.size w w') := fun w' hb => ⟨(ClBox.new w c m _).grw hb, below_trans (below_alloc w _) hb⟩
  have HTT := Lib.hid fun w' (hb : Below w.heap.size w w') => rtotal_any c m w' (LnsAt.move hm (Below.moves hb)) hl
  obtain ⟨a, kc, rfl, h1, h2⟩ := LnsAt.form hm
  clear hm hz hl
  obtain ⟨y, hy⟩ : ∃ y, y = Da.yr (c.lines.getD 0 ln0).date := ⟨_, rfl⟩
  have HBAD : Hid (firstE y c.lines ≠ 0 → tailE c.lines = firstE y c.lines) := fun h => by rw [hy] at h ⊢; exact tail_bad h
  have HOK : Hid (firstE y c.lines = 0 → tailE c.lines = totE c.lines) := fun h => by rw [hy] at h; exact tail_ok h
  have HY := Lib.hid hy
  clear hy
  generalize tailE c.lines = R at *
  generalize totE c.lines = TE at *
  generalize totV c.lines = TV at *
  go_enter Tryd.func43, Tryd.ntmps43
  go_wp2
  go_loopg [3] (c.lines.length) (fun g i wr => ∃ k : Nat, k ≤ c.lines.length ∧ g = c.lines.length - k ∧ i = .int .i64 k ∧ Hid (Below (w.alloc (boxc c (.slice a c.lines.length kc))).heap.size (w.alloc (boxc c (.slice a c.lines.length kc))) wr) ∧ Hid (firstE y (c.lines.drop k) = firstE y c.lines))
  case atStart => exact ⟨0, Nat.zero_le _, rfl, rfl, Below.refl _ _, by rfl⟩
  case round =>
    obtain ⟨k, hk, hg, rfl, HB, HF⟩ := hrel
    obtain ⟨⟨x0, x1, x2, x3, x4, x5, x6⟩, hbw⟩ := HBX.out _ HB.out
    have HBW := Lib.hid hbw
    by_cases hlt : k < c.lines.length
    · have hL := LnsAt.move HV.out (Below.moves hbw)
      have hpos : 0 < c.lines.length := by omega
      obtain ⟨b, o, m, rfl, hx, hc, hr⟩ := LnsAt.get hL k hlt
      obtain ⟨b', o', m0, e0, hx0, hc0, -⟩ := LnsAt.get hL 0 hpos
      injection e0 with e0
      injection e0 with e1 e2
      subst e1 e2
      have hzk := HZ.out _ (List.mem_of_getElem? hx)
      have hz0 := HZ.out _ (List.mem_of_getElem? hx0)
      have HC := Lib.hid (rline_any c.lines[k] m wr hr hzk)
      have HX : Hid (∀ w1, Below wr.heap.size wr w1 → w1.cell? ⟨b, o + k * 6 + 2, none⟩ = some (.int .i64 c.lines[k].date) ∧ w1.cell? ⟨b, o + 2, none⟩ = some (.int .i64 c.lines[0].date) ∧ ClBox w1 w.heap.size c (.slice (some ⟨b, o, none⟩) c.lines.length kc)) := fun w1 hb => by
        have hbl := World.block_lt_of_cell? wr _ hc.1
        refine ⟨(hc.of (hb.block _ hbl)).2.2.1, ?_, (HBX.out _ (below_trans HB.out hb)).1⟩
        have := (hc0.of (hb.block _ hbl)).2.2.1
        simpa using this
      obtain ⟨c0, c1, c2, c3, c4, c5⟩ := hc
      obtain ⟨am, cm, rfl, -, -⟩ := TxAt.form hr
      have HFB := Lib.hid (firstE_bad y c.lines k _ hx HF.out)
      have HYR := Lib.hid (firstE_yr y c.lines k _ hx HF.out)
      have HST := Lib.hid (firstE_step y c.lines k _ hx HF.out)
      by_cases he : lineE c.lines[k] = 0
      · have hy0 : y = Da.yr c.lines[0].date := by rw [HY.out, List.getD_eq_getElem?_getD, hx0]; rfl
        obtain ⟨q1, q2⟩ := Da.quo_bd c.lines[k].date 10000 hzk.1.1 hzk.1.2 (by omega)
        obtain ⟨q3, q4⟩ := Da.quo_bd c.lines[0].date 10000 hz0.1.1 hz0.1.2 (by omega)
        rw [he] at HC
        clear hx hx0 hr hL hzk hz0 hc0 HFB hbw
        by_cases hyy : Da.yr c.lines[k].date = y
        · have HQ := Lib.hid (HST.out he hyy)
          have hbe : (c.lines[k].date.tdiv 10000 != c.lines[0].date.tdiv 10000) = false := by
            rw [hy0] at hyy
            unfold Da.yr at hyy
            rw [hyy]; simp
          clear hyy he hy0
          go_wp2_with (first | (go_at_call 52; refine (HC.out).mono ?_; rintro e w1 ⟨rfl, hb⟩; obtain ⟨n1, n2, g0, g1, g2, g3, g4, g5, g6⟩ := HX.out _ hb; have HB2 := Lib.hid (below_trans HB.out hb); clear hb))
          go_quiet (fail)
          go_wp2
          go_roundg (c.lines.length - (k + 1))
          case rel => exact ⟨k + 1, by omega, rfl, by go_num, below_trans HB2.out (below_drewq ⟨_, rfl⟩), HQ.out⟩
          case measure => omega
        · have HQ := Lib.hid (HYR.out he hyy)
          have HQ2 := Lib.hid (HBAD.out (by rw [HQ.out]; omega))
          have hbe : (c.lines[k].date.tdiv 10000 != c.lines[0].date.tdiv 10000) = true := by
            rw [hy0] at hyy
            unfold Da.yr at hyy
            simpa using hyy
          clear hyy he hy0
          go_wp2_with (first | (go_at_call 52; refine (HC.out).mono ?_; rintro e w1 ⟨rfl, hb⟩; obtain ⟨n1, n2, g0, g1, g2, g3, g4, g5, g6⟩ := HX.out _ hb; have HB2 := Lib.hid (below_trans HBW.out hb); clear hb))
          go_quiet (fail)
          go_wp2
          go_ret
          exact ⟨by rw [HQ2.out, HQ.out]; rfl, below_trans HB2.out (below_drewq ⟨_, rfl⟩)⟩
      · have HQ := Lib.hid (HFB.out he)
        have HQ2 := Lib.hid (HBAD.out (by rw [HQ.out]; exact he))
        have hbe : (lineE c.lines[k] != 0) = true := by simpa using he
        clear hx hx0 hr hL hzk hz0 hc0 HFB he HX hbw
        go_wp2_with (first | (go_at_call 52; refine (HC.out).mono ?_; rintro e w1 ⟨rfl, hb⟩; have HB2 := Lib.hid (below_trans HBW.out hb); clear hb))
        go_ret
        exact ⟨by rw [HQ2.out, HQ.out]; rfl, HB2.out⟩
    · have HQ := Lib.hid (HOK.out (firstE_end y c.lines k (by omega) HF.out))
      clear hbw
      go_wp2_with (first | (go_at_call 53; refine (HTT.out _ HBW.out).mono ?_; rintro e w1 ⟨rfl, hb⟩; have HB2 := Lib.hid (below_trans HBW.out hb); clear hb))
      go_ret
      exact ⟨by rw [HQ.out]; rfl, HB2.out⟩
end Go.Proofs.YtjgceppbhmmbjaaDoor.Cm
end

/-
  What the reference's Check answers, as a contract (by gen_rcheck.py: one walk a way).
-/
section
set_option linter.unusedSimpArgs false
namespace Go.Proofs.YtjgceppbhmmbjaaDoor.Cm
open Go.RowKit

theorem raw_empty (s : Tx) : ((mk s).toList == (ByteArray.toList { data := #[] })) = decide (s = []) := by
  rw [Lib.toList_data, Lib.toList_data, mk_list]
  rw [Bool.eq_iff_iff]
  simp
theorem ck_head {c : Cl} (h : headE c ≠ 0) : checkE c = headE c := by unfold checkE; rw [if_neg h]
theorem ck_rest {c : Cl} (h : headE c = 0) : checkE c = restE c := by unfold checkE; rw [if_pos h]
theorem ck9 {c : Cl} (h : namesB c = false) : checkE c = 9 := by rw [ck_head (by rw [head9 h]; omega), head9 h]
theorem ck3 {c : Cl} (h : namesB c = true) (h1 : netB c.net = false) : checkE c = 3 := by rw [ck_head (by rw [head3 h h1]; omega), head3 h h1]
theorem ck9' {c : Cl} (h : namesB c = true) (h1 : netB c.net = true) (h2 : refB c = false) : checkE c = 9 := by rw [ck_head (by rw [head9' h h1 h2]; omega), head9' h h1 h2]
theorem ck3' {c : Cl} (h : namesB c = true) (h1 : netB c.net = true) (h2 : refB c = true) (h3 : doesB c.does = false) : checkE c = 3 := by rw [ck_head (by rw [head3' h h1 h2 h3]; omega), head3' h h1 h2 h3]
theorem ckR {c : Cl} (h : namesB c = true) (h1 : netB c.net = true) (h2 : refB c = true) (h3 : doesB c.does = true) : checkE c = restE c := ck_rest (head0 h h1 h2 h3)
theorem restTail {c : Cl} (h : c.lines.length ≤ 999) (h1 : voidB c = true) : restE c = tailE c.lines := by unfold restE tailE; rw [if_pos h, if_pos h1]

set_option maxHeartbeats 8000000 in
theorem rcheck_any (c : Cl) (m : Value) (w : World) (hm : LnsAt All w m c.lines) (hz : ClOk c) (hl : c.lines.length ≤ 1000000) :
    Calls Tryd.prog 32 #[clv c m] w fun e w' => e = .returned (.int .i64 (checkE c)) ∧ Below w.heap.size w w' := by
  obtain ⟨z1, z2, z3, z4⟩ := hz.short
  have HN := Lib.hid fun (s : Tx) (hs : s.length ≤ 281474976710656) w => rcode_any s 1 12 w (by omega)
  have HB := Lib.hid fun o => below_alloc w o
  have HL := Lib.hid (rlines_any c m (w.alloc (boxc c m)) (LnsAt.move hm (Below.moves (below_alloc w _))) hz.2.2.2.2.2.2.2 hl)
  obtain ⟨a, k, rfl, f1, f2⟩ := LnsAt.form hm
  have HBO := Lib.hid hl
  clear hm hz hl
  have H9 := Lib.hid (@ck9 c)
  have H3 := Lib.hid (@ck3 c)
  have H9' := Lib.hid (@ck9' c)
  have H3' := Lib.hid (@ck3' c)
  have HR := Lib.hid (@ckR c)
  have H10 := Lib.hid (@rest10 c)
  have H6 := Lib.hid (@rest6 c)
  have HT := Lib.hid (@restTail c)
  generalize checkE c = R at *
  generalize restE c = RR at *
  generalize tailE c.lines = TE at *
  cases h0 : codeB c.id 1 12
  · rw [H9.out (by unfold namesB; rw [h0]; rfl)]
    clear H9 H3 H9' H3' HR H10 H6 HT
    go_enter Tryd.func32, Tryd.ntmps32
    go_wp2_with (first | (go_at_call 42; refine (HN.out _ (by assumption) _).mono ?_; rintro e w' ⟨rfl, rfl⟩))
    go_ret
    exact ⟨rfl, HB.out _⟩
  cases h1 : codeB c.mem 1 12
  · rw [H9.out (by unfold namesB; rw [h0, h1]; rfl)]
    clear H9 H3 H9' H3' HR H10 H6 HT
    go_enter Tryd.func32, Tryd.ntmps32
    go_wp2_with (first | (go_at_call 42; refine (HN.out _ (by assumption) _).mono ?_; rintro e w' ⟨rfl, rfl⟩))
    go_ret
    exact ⟨rfl, HB.out _⟩
  cases h2 : codeB c.fam 1 12
  · rw [H9.out (by unfold namesB; rw [h0, h1, h2]; rfl)]
    clear H9 H3 H9' H3' HR H10 H6 HT
    go_enter Tryd.func32, Tryd.ntmps32
    go_wp2_with (first | (go_at_call 42; refine (HN.out _ (by assumption) _).mono ?_; rintro e w' ⟨rfl, rfl⟩))
    go_ret
    exact ⟨rfl, HB.out _⟩
  have hn : namesB c = true := by unfold namesB; rw [h0, h1, h2]; rfl
  clear H9
  by_cases g1 : c.net < 0
  · have d1 : decide (c.net < 0) = true := decide_eq_true g1
    rw [H3.out hn (by unfold netB; rw [decide_eq_false (by omega), decide_eq_false (by omega)]; rfl)]
    clear H3 H9' H3' HR H10 H6 HT
    go_enter Tryd.func32, Tryd.ntmps32
    go_wp2_with (first | (go_at_call 42; refine (HN.out _ (by assumption) _).mono ?_; rintro e w' ⟨rfl, rfl⟩))
    go_ret
    exact ⟨rfl, HB.out _⟩
  have d1 : decide (c.net < 0) = false := decide_eq_false g1
  by_cases g2 : 1 < c.net
  · have d2 : decide (1 < c.net) = true := decide_eq_true g2
    rw [H3.out hn (by unfold netB; rw [decide_eq_false (by omega), decide_eq_false (by omega)]; rfl)]
    clear H3 H9' H3' HR H10 H6 HT
    go_enter Tryd.func32, Tryd.ntmps32
    go_wp2_with (first | (go_at_call 42; refine (HN.out _ (by assumption) _).mono ?_; rintro e w' ⟨rfl, rfl⟩))
    go_ret
    exact ⟨rfl, HB.out _⟩
  have d2 : decide (1 < c.net) = false := decide_eq_false g2
  have hnet : netB c.net = true := by
    unfold netB
    rw [Bool.or_eq_true, decide_eq_true_eq, decide_eq_true_eq]
    omega
  clear H3
  have r0 := mk_empty c.ref
  have r1 := raw_empty c.ref
  have e1 : (c.does == 1) = decide (c.does = 1) := by rw [Bool.eq_iff_iff]; simp
  have e7 : (c.does == 7) = decide (c.does = 7) := by rw [Bool.eq_iff_iff]; simp
  have e8 : (c.does == 8) = decide (c.does = 8) := by rw [Bool.eq_iff_iff]; simp
  have n1 : (c.does != 1) = !decide (c.does = 1) := by rw [Bool.eq_iff_iff]; simp
  have n7 : (c.does != 7) = !decide (c.does = 7) := by rw [Bool.eq_iff_iff]; simp
  have n8 : (c.does != 8) = !decide (c.does = 8) := by rw [Bool.eq_iff_iff]; simp
  obtain ⟨V1, hV1⟩ : ∃ V, V = decide (c.does = 1) := ⟨_, rfl⟩
  obtain ⟨V7, hV7⟩ : ∃ V, V = decide (c.does = 7) := ⟨_, rfl⟩
  obtain ⟨V8, hV8⟩ : ∃ V, V = decide (c.does = 8) := ⟨_, rfl⟩
  rw [← hV1] at e1 n1
  rw [← hV7] at e7 n7
  rw [← hV8] at e8 n8
  by_cases q1 : c.does = 1
  · have hrb : refB c = decide (c.ref = []) := by unfold refB; rw [if_pos q1]
    rw [decide_eq_true q1] at hV1
    rw [decide_eq_false (by omega)] at hV7 hV8
    have hdb : doesB c.does = true := by unfold doesB; rw [decide_eq_true q1]; rfl
    have hvb : voidB c = (false == decide (c.lines.length = 0)) := by unfold voidB; rw [decide_eq_false (p := c.does = 8) (by omega)]
    clear q1
    cases h3 : decide (c.ref = [])
    · rw [h3] at r0 r1 hrb
      rw [H9'.out hn hnet hrb]
      clear H9' H3' HR H10 H6 HT hvb hdb hrb h3
      go_enter Tryd.func32, Tryd.ntmps32
      go_wp2_with (first | (go_at_call 42; refine (HN.out _ (by assumption) _).mono ?_; rintro e w' ⟨rfl, rfl⟩))
      go_ret
      exact ⟨rfl, HB.out _⟩
    rw [h3] at r0 r1 hrb
    rw [HR.out hn hnet hrb hdb]
    clear H9' H3' HR hrb hdb h3 hn hnet
    by_cases l9 : c.lines.length ≤ 999
    case neg =>
      rw [H10.out l9]
      have l9' : (999 : Int) < (c.lines.length : Int) := by omega
      clear H10 H6 HT hvb l9
      go_enter Tryd.func32, Tryd.ntmps32
      go_wp2_with (first | (go_at_call 42; refine (HN.out _ (by assumption) _).mono ?_; rintro e w' ⟨rfl, rfl⟩))
      go_ret
      exact ⟨rfl, HB.out _⟩
    have l9' : ¬ (999 : Int) < (c.lines.length : Int) := by omega
    by_cases lz : c.lines.length = 0
    · rw [decide_eq_true lz] at hvb
      rw [H6.out l9 hvb]
      clear H10 H6 HT hvb l9
      generalize c.lines.length = N at *
      subst lz
      go_enter Tryd.func32, Tryd.ntmps32
      go_wp2_with (first | (go_at_call 42; refine (HN.out _ (by assumption) _).mono ?_; rintro e w' ⟨rfl, rfl⟩))
      go_ret
      exact ⟨rfl, HB.out _⟩
    · rw [decide_eq_false lz] at hvb
      rw [HT.out l9 hvb]
      have hpos : 0 < c.lines.length := by omega
      have ez : ((c.lines.length : Int) == 0) = false := by rw [beq_eq_false_iff_ne]; omega
      clear H10 H6 HT hvb l9 lz
      go_enter Tryd.func32, Tryd.ntmps32
      go_wp2_with (first | (go_at_call 42; refine (HN.out _ (by assumption) _).mono ?_; rintro e w' ⟨rfl, rfl⟩) | (go_at_call 43; refine (HL.out).mono ?_; rintro e w1 ⟨rfl, hb⟩; have HB1 := Lib.hid (below_trans (HB.out _) hb); clear hb))
      go_ret
      exact ⟨rfl, HB1.out⟩
  rw [decide_eq_false q1] at hV1
  have hrb : refB c = codeB c.ref 1 12 := by unfold refB; rw [if_neg q1]
  clear r0 r1
  cases h3 : codeB c.ref 1 12
  · rw [h3] at hrb
    rw [H9'.out hn hnet hrb]
    clear H9' H3' HR H10 H6 HT hrb e7 n7 e8 n8 hV7 hV8
    go_enter Tryd.func32, Tryd.ntmps32
    go_wp2_with (first | (go_at_call 42; refine (HN.out _ (by assumption) _).mono ?_; rintro e w' ⟨rfl, rfl⟩))
    go_ret
    exact ⟨rfl, HB.out _⟩
  rw [h3] at hrb
  by_cases q7 : c.does = 7
  · rw [decide_eq_true q7] at hV7
    rw [decide_eq_false (by omega)] at hV8
    have hdb : doesB c.does = true := by unfold doesB; rw [decide_eq_true q7]; simp
    have hvb : voidB c = (false == decide (c.lines.length = 0)) := by unfold voidB; rw [decide_eq_false (p := c.does = 8) (by omega)]
    clear q1 q7
    rw [HR.out hn hnet hrb hdb]
    clear H9' H3' HR hrb hdb hn hnet
    by_cases l9 : c.lines.length ≤ 999
    case neg =>
      rw [H10.out l9]
      have l9' : (999 : Int) < (c.lines.length : Int) := by omega
      clear H10 H6 HT hvb l9
      go_enter Tryd.func32, Tryd.ntmps32
      go_wp2_with (first | (go_at_call 42; refine (HN.out _ (by assumption) _).mono ?_; rintro e w' ⟨rfl, rfl⟩))
      go_ret
      exact ⟨rfl, HB.out _⟩
    have l9' : ¬ (999 : Int) < (c.lines.length : Int) := by omega
    by_cases lz : c.lines.length = 0
    · rw [decide_eq_true lz] at hvb
      rw [H6.out l9 hvb]
      clear H10 H6 HT hvb l9
      generalize c.lines.length = N at *
      subst lz
      go_enter Tryd.func32, Tryd.ntmps32
      go_wp2_with (first | (go_at_call 42; refine (HN.out _ (by assumption) _).mono ?_; rintro e w' ⟨rfl, rfl⟩))
      go_ret
      exact ⟨rfl, HB.out _⟩
    · rw [decide_eq_false lz] at hvb
      rw [HT.out l9 hvb]
      have hpos : 0 < c.lines.length := by omega
      have ez : ((c.lines.length : Int) == 0) = false := by rw [beq_eq_false_iff_ne]; omega
      clear H10 H6 HT hvb l9 lz
      go_enter Tryd.func32, Tryd.ntmps32
      go_wp2_with (first | (go_at_call 42; refine (HN.out _ (by assumption) _).mono ?_; rintro e w' ⟨rfl, rfl⟩) | (go_at_call 43; refine (HL.out).mono ?_; rintro e w1 ⟨rfl, hb⟩; have HB1 := Lib.hid (below_trans (HB.out _) hb); clear hb))
      go_ret
      exact ⟨rfl, HB1.out⟩
  rw [decide_eq_false q7] at hV7
  by_cases q8 : c.does = 8
  · rw [decide_eq_true q8] at hV8
    have hdb : doesB c.does = true := by unfold doesB; rw [decide_eq_true q8]; simp
    have hvb : voidB c = (true == decide (c.lines.length = 0)) := by unfold voidB; rw [decide_eq_true q8]
    clear q1 q7 q8
    rw [HR.out hn hnet hrb hdb]
    clear H9' H3' HR hrb hdb hn hnet
    by_cases l9 : c.lines.length ≤ 999
    case neg =>
      rw [H10.out l9]
      have l9' : (999 : Int) < (c.lines.length : Int) := by omega
      clear H10 H6 HT hvb l9
      go_enter Tryd.func32, Tryd.ntmps32
      go_wp2_with (first | (go_at_call 42; refine (HN.out _ (by assumption) _).mono ?_; rintro e w' ⟨rfl, rfl⟩))
      go_ret
      exact ⟨rfl, HB.out _⟩
    have l9' : ¬ (999 : Int) < (c.lines.length : Int) := by omega
    by_cases lz : c.lines.length = 0
    · rw [decide_eq_true lz] at hvb
      rw [HT.out l9 hvb]
      clear H10 H6 HT hvb l9
      generalize c.lines.length = N at *
      subst lz
      go_enter Tryd.func32, Tryd.ntmps32
      go_wp2_with (first | (go_at_call 42; refine (HN.out _ (by assumption) _).mono ?_; rintro e w' ⟨rfl, rfl⟩) | (go_at_call 43; refine (HL.out).mono ?_; rintro e w1 ⟨rfl, hb⟩; have HB1 := Lib.hid (below_trans (HB.out _) hb); clear hb))
      go_ret
      exact ⟨rfl, HB1.out⟩
    · rw [decide_eq_false lz] at hvb
      rw [H6.out l9 hvb]
      have hpos : 0 < c.lines.length := by omega
      have ez : ((c.lines.length : Int) == 0) = false := by rw [beq_eq_false_iff_ne]; omega
      clear H10 H6 HT hvb l9 lz
      go_enter Tryd.func32, Tryd.ntmps32
      go_wp2_with (first | (go_at_call 42; refine (HN.out _ (by assumption) _).mono ?_; rintro e w' ⟨rfl, rfl⟩))
      go_ret
      exact ⟨rfl, HB.out _⟩
  rw [decide_eq_false q8] at hV8
  rw [H3'.out hn hnet hrb (by unfold doesB; rw [decide_eq_false q1, decide_eq_false q7, decide_eq_false q8]; rfl)]
  clear H9' H3' HR H10 H6 HT hrb q1 q7 q8 hn hnet
  go_enter Tryd.func32, Tryd.ntmps32
  go_wp2_with (first | (go_at_call 42; refine (HN.out _ (by assumption) _).mono ?_; rintro e w' ⟨rfl, rfl⟩))
  go_ret
  exact ⟨rfl, HB.out _⟩
end Go.Proofs.YtjgceppbhmmbjaaDoor.Cm
end
