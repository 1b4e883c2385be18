/-
  Texts put together (merge.py): LSameLn, LCode, DRef, CAdds, CRefs.
-/
import Derived.RowKit3
import Derived.WalkKit
import Derived.Test.YtpmnepihaljamaaGreatDoorM3
import Derived.Test.YtpmnepihaljamaaGreatDoorProg
import Derived.Test.YtpmnepihaljamaaGreatDoorM1
/-
  What claim.sameLine and the reference's SameLine answer, as contracts: whether two services are the same.
-/
section
set_option linter.unusedSimpArgs false
namespace Go.Proofs.YtpmnepihaljamaaGreatDoor.Cm
open Go.RowKit
open Classical

abbrev boxl (x : Ln) (m : Value) : Obj := .cells #[.string (mk x.proc), m, .int .i64 x.date, .int .i64 x.units, .int .i64 x.billed, .int .i64 x.prior] 47
theorem ln_ne (x y : Ln) (h : decide (x.proc = y.proc) = false ∨ decide (x.mods = y.mods) = false ∨ decide (x.date = y.date) = false ∨ decide (x.units = y.units) = false ∨ decide (x.billed = y.billed) = false ∨ decide (x.prior = y.prior) = false) : decide (x = y) = false := by
  rw [decide_eq_false_iff_not]
  rintro rfl
  simp at h
theorem ln_same (x y : Ln) (h1 : decide (x.proc = y.proc) = true) (h3 : decide (x.date = y.date) = true) (h4 : decide (x.units = y.units) = true) (h5 : decide (x.billed = y.billed) = true) (h6 : decide (x.prior = y.prior) = true) (h2 : decide (x.mods = y.mods) = true) : decide (x = y) = true := by
  rw [decide_eq_true_eq] at *
  obtain ⟨p, m, d, u, b, r⟩ := x
  obtain ⟨p', m', d', u', b', r'⟩ := y
  simp at h1 h2 h3 h4 h5 h6
  simp [h1, h2, h3, h4, h5, h6]

set_option maxHeartbeats 4000000 in
theorem rsameLine_any (x y : Ln) (m m' : Value) (w : World) (hm : TxAt All w m x.mods) (hm' : TxAt All w m' y.mods) :
    Calls Tryz.prog 39 #[lnv x m, lnv y m'] w fun e w' => e = .returned (.bool (decide (x = y))) ∧ Below w.heap.size w w' := by
  have HG : Hid (∀ o1 o2, Below w.heap.size w ((w.alloc o1).alloc o2)) := fun o1 o2 => below_trans (below_alloc w o1) (below_alloc _ o2)
  have HE := Lib.hid fun o1 o2 => texts_b m m' x.mods y.mods ((w.alloc o1).alloc o2) (TxAt.move hm (Below.moves (HG.out o1 o2))) (TxAt.move hm' (Below.moves (HG.out o1 o2)))
  have HX : Hid (∀ w1, Below ((w.alloc (boxl x m)).alloc (boxl y m')).heap.size ((w.alloc (boxl x m)).alloc (boxl y m')) w1 → LnBox w1 w.heap.size x m ∧ LnBox w1 (w.heap.size + 1) y m') := fun w1 hb => by
    refine ⟨(LnBox.new w x m _).grw (below_trans (below_alloc _ _) hb), ?_⟩
    have := (LnBox.new (w.alloc (boxl x m)) y m' 47).grw hb
    rwa [show (w.alloc (boxl x m)).heap.size = w.heap.size + 1 from by simp] at this
  obtain ⟨a, c, rfl, -, -⟩ := TxAt.form hm
  obtain ⟨a', c', rfl, -, -⟩ := TxAt.form hm'
  clear hm hm'
  have e_proc := mk_ne x.proc y.proc
  have e_date : (x.date == y.date) = decide (x.date = y.date) := by rw [Bool.eq_iff_iff]; simp
  have n_date : (x.date != y.date) = !decide (x.date = y.date) := by rw [Bool.eq_iff_iff]; simp
  have e_units : (x.units == y.units) = decide (x.units = y.units) := by rw [Bool.eq_iff_iff]; simp
  have n_units : (x.units != y.units) = !decide (x.units = y.units) := by rw [Bool.eq_iff_iff]; simp
  have e_billed : (x.billed == y.billed) = decide (x.billed = y.billed) := by rw [Bool.eq_iff_iff]; simp
  have n_billed : (x.billed != y.billed) = !decide (x.billed = y.billed) := by rw [Bool.eq_iff_iff]; simp
  have e_prior : (x.prior == y.prior) = decide (x.prior = y.prior) := by rw [Bool.eq_iff_iff]; simp
  have n_prior : (x.prior != y.prior) = !decide (x.prior = y.prior) := by rw [Bool.eq_iff_iff]; simp
  cases h_proc : decide (x.proc = y.proc)
  · rw [h_proc] at e_proc
    have hF : decide (x = y) = false := ln_ne x y (by simp [h_proc])
    rw [hF]
    clear hF
    clear e_date e_units e_billed e_prior n_date n_units n_billed n_prior h_proc
    go_enter Tryz.func39, Tryz.ntmps39
    go_wp2
    go_ret
    exact ⟨rfl, HG.out _ _⟩
  rw [h_proc] at e_proc
  cases h_mods : decide (x.mods = y.mods)
  · rw [h_mods] at HE
    have hF : decide (x = y) = false := ln_ne x y (by simp [h_mods])
    rw [hF]
    clear hF
    clear e_date e_units e_billed e_prior n_date n_units n_billed n_prior h_proc h_mods
    go_enter Tryz.func39, Tryz.ntmps39
    go_wp2_with (first | (go_at_call 74; refine (HE.out _ _).mono ?_; rintro e w' ⟨rfl, hb⟩; have HB2 := Lib.hid (below_trans (HG.out _ _) hb); obtain ⟨⟨p0, p1, p2, p3, p4, p5⟩, r0, r1, r2, r3, r4, r5⟩ := HX.out _ hb; clear hb))
    go_ret
    exact ⟨rfl, HB2.out⟩
  rw [h_mods] at HE
  cases h_date : decide (x.date = y.date)
  · rw [h_date] at e_date n_date
    have hF : decide (x = y) = false := ln_ne x y (by simp [h_date])
    rw [hF]
    clear hF
    clear e_units e_billed e_prior n_units n_billed n_prior h_proc h_mods h_date
    go_enter Tryz.func39, Tryz.ntmps39
    go_wp2_with (first | (go_at_call 74; refine (HE.out _ _).mono ?_; rintro e w' ⟨rfl, hb⟩; have HB2 := Lib.hid (below_trans (HG.out _ _) hb); obtain ⟨⟨p0, p1, p2, p3, p4, p5⟩, r0, r1, r2, r3, r4, r5⟩ := HX.out _ hb; clear hb))
    go_ret
    exact ⟨rfl, HB2.out⟩
  rw [h_date] at e_date n_date
  cases h_units : decide (x.units = y.units)
  · rw [h_units] at e_units n_units
    have hF : decide (x = y) = false := ln_ne x y (by simp [h_units])
    rw [hF]
    clear hF
    clear e_billed e_prior n_billed n_prior h_proc h_mods h_date h_units
    go_enter Tryz.func39, Tryz.ntmps39
    go_wp2_with (first | (go_at_call 74; refine (HE.out _ _).mono ?_; rintro e w' ⟨rfl, hb⟩; have HB2 := Lib.hid (below_trans (HG.out _ _) hb); obtain ⟨⟨p0, p1, p2, p3, p4, p5⟩, r0, r1, r2, r3, r4, r5⟩ := HX.out _ hb; clear hb))
    go_ret
    exact ⟨rfl, HB2.out⟩
  rw [h_units] at e_units n_units
  cases h_billed : decide (x.billed = y.billed)
  · rw [h_billed] at e_billed n_billed
    have hF : decide (x = y) = false := ln_ne x y (by simp [h_billed])
    rw [hF]
    clear hF
    clear e_prior n_prior h_proc h_mods h_date h_units h_billed
    go_enter Tryz.func39, Tryz.ntmps39
    go_wp2_with (first | (go_at_call 74; refine (HE.out _ _).mono ?_; rintro e w' ⟨rfl, hb⟩; have HB2 := Lib.hid (below_trans (HG.out _ _) hb); obtain ⟨⟨p0, p1, p2, p3, p4, p5⟩, r0, r1, r2, r3, r4, r5⟩ := HX.out _ hb; clear hb))
    go_ret
    exact ⟨rfl, HB2.out⟩
  rw [h_billed] at e_billed n_billed
  cases h_prior : decide (x.prior = y.prior)
  · rw [h_prior] at e_prior n_prior
    have hF : decide (x = y) = false := ln_ne x y (by simp [h_prior])
    rw [hF]
    clear hF
    clear h_proc h_mods h_date h_units h_billed h_prior
    go_enter Tryz.func39, Tryz.ntmps39
    go_wp2_with (first | (go_at_call 74; refine (HE.out _ _).mono ?_; rintro e w' ⟨rfl, hb⟩; have HB2 := Lib.hid (below_trans (HG.out _ _) hb); obtain ⟨⟨p0, p1, p2, p3, p4, p5⟩, r0, r1, r2, r3, r4, r5⟩ := HX.out _ hb; clear hb))
    go_ret
    exact ⟨rfl, HB2.out⟩
  rw [h_prior] at e_prior n_prior
  have hF : decide (x = y) = true := ln_same x y h_proc h_date h_units h_billed h_prior h_mods
  rw [hF]
  clear hF h_proc h_mods h_date h_units h_billed h_prior
  go_enter Tryz.func39, Tryz.ntmps39
  go_wp2_with (first | (go_at_call 74; refine (HE.out _ _).mono ?_; rintro e w' ⟨rfl, hb⟩; have HB2 := Lib.hid (below_trans (HG.out _ _) hb); obtain ⟨⟨p0, p1, p2, p3, p4, p5⟩, r0, r1, r2, r3, r4, r5⟩ := HX.out _ hb; clear hb))
  go_ret
  exact ⟨rfl, HB2.out⟩
end Go.Proofs.YtpmnepihaljamaaGreatDoor.Cm
end

/-
  What claim.codeSign, Code, name, mods and the reference's Code answer, as contracts: for every text; the world stands.
-/
section
set_option linter.unusedSimpArgs false
namespace Go.Proofs.YtpmnepihaljamaaGreatDoor.Cm
open Go.RowKit

theorem sign_any (c : UInt8) (w : World) :
    Calls Tryz.prog 147 #[.int .u8 c.toNat] w fun e w' => e = .returned (.bool (signB c)) ∧ w' = w := by
  unfold signB
  generalize c.toNat = n
  cases h1 : decide (65 ≤ n) <;> cases h2 : decide (n ≤ 90) <;> cases h3 : decide (48 ≤ n) <;> cases h4 : decide (n ≤ 57) <;>
  · simp only [decide_eq_true_eq, decide_eq_false_iff_not] at h1 h2 h3 h4
    first
      | omega
      | (go_enter Tryz.func147, Tryz.ntmps147
         go_wp2
         go_ret
         exact ⟨by first | rfl | (simp; omega), rfl⟩)

theorem all_take {p : UInt8 → Bool} (s : Tx) (k : Nat) (c : UInt8) (h : s[k]? = some c) (hk : (s.take k).all p = true) (hc : p c = true) : (s.take (k + 1)).all p = true := by
  rw [List.take_add_one, h]; simp_all
theorem all_not {p : UInt8 → Bool} (s : Tx) (k : Nat) (c : UInt8) (h : s[k]? = some c) (hc : p c = false) : s.all p = false := by
  rw [List.all_eq_false]
  exact ⟨c, List.mem_of_getElem? h, by simp [hc]⟩
theorem code_short (s : Tx) (f t : Int) (h : (s.length : Int) < f) : codeB s f t = false := by unfold codeB; rw [decide_eq_false (by omega)]; simp
theorem code_long (s : Tx) (f t : Int) (h : t < (s.length : Int)) : codeB s f t = false := by unfold codeB; rw [decide_eq_false (p := (s.length : Int) ≤ t) (by omega)]; simp
theorem code_in (s : Tx) (f t : Int) (h1 : f ≤ (s.length : Int)) (h2 : (s.length : Int) ≤ t) : codeB s f t = s.all signB := by unfold codeB; rw [decide_eq_true h1, decide_eq_true h2]; simp
theorem mk_at (s : Tx) (k : Nat) (hk : k < (mk s).size) : s[k]? = some (mk s)[k] := by
  have hl : k < s.length := by rw [← mk_size]; exact hk
  rw [List.getElem?_eq_getElem hl]
  rfl

set_option maxHeartbeats 1000000 in
theorem code_any (s : Tx) (f t : Int) (w : World) (hs : s.length ≤ 9223372036854775807) :
    Calls Tryz.prog 130 #[.string (mk s), .int .i64 f, .int .i64 t] w fun e w' => e = .returned (.bool (codeB s f t)) ∧ w' = w := by
  have hz := mk_size s
  have HS := Lib.hid hs
  have HAT := Lib.hid (mk_at s)
  have HSH := Lib.hid (code_short s f t)
  have HLO := Lib.hid (code_long s f t)
  have HIN := Lib.hid (code_in s f t)
  generalize codeB s f t = R at *
  rw [← hz] at hs HSH HLO HIN
  have HZ := Lib.hid hz
  clear hz
  generalize mk s = X at *
  by_cases h1 : (X.size : Int) < f
  · rw [HSH.out h1]
    go_enter Tryz.func130, Tryz.ntmps130
    go_wp2
    go_ret
    exact ⟨rfl, rfl⟩
  by_cases h2 : t < (X.size : Int)
  · rw [HLO.out h2]
    go_enter Tryz.func130, Tryz.ntmps130
    go_wp2
    go_ret
    exact ⟨rfl, rfl⟩
  rw [HIN.out (by omega) (by omega)]
  go_enter Tryz.func130, Tryz.ntmps130
  go_wp2
  go_loopg [20] (X.size) (fun g i wr => ∃ k : Nat, k ≤ X.size ∧ g = X.size - k ∧ i = .int .i64 k ∧ wr = w ∧ Hid ((s.take k).all signB = true))
  case atStart => exact ⟨0, Nat.zero_le _, rfl, rfl, rfl, rfl⟩
  case round =>
    obtain ⟨k, hk, hg, rfl, hw, HA⟩ := hrel
    rw [hw]
    clear hw wr
    by_cases hlt : k < X.size
    · have HC := Lib.hid (HAT.out k hlt)
      cases hq : signB X[k]
      · go_wp2_with (go_at_call 147; refine (sign_any _ _).mono ?_; rintro e w' ⟨rfl, rfl⟩)
        go_ret
        exact ⟨by rw [all_not s k _ HC.out hq]; rfl, rfl⟩
      · go_wp2_with (go_at_call 147; refine (sign_any _ _).mono ?_; rintro e w' ⟨rfl, rfl⟩)
        go_roundg (X.size - (k + 1))
        case rel => exact ⟨k + 1, by omega, rfl, by go_num, rfl, all_take s k _ HC.out HA.out hq⟩
        case measure => omega
    · have hall : (s.take k) = s := List.take_of_length_le (by rw [← HZ.out]; omega)
      rw [hall] at HA
      clear hall
      go_wp2
      go_ret
      exact ⟨by rw [HA.out]; rfl, rfl⟩

set_option maxHeartbeats 1000000 in
theorem rcode_any (s : Tx) (f t : Int) (w : World) (hs : s.length ≤ 9223372036854775807) :
    Calls Tryz.prog 72 #[.string (mk s), .int .i64 f, .int .i64 t] w fun e w' => e = .returned (.bool (codeB s f t)) ∧ w' = w := by
  have hz := mk_size s
  have HS := Lib.hid hs
  have HAT := Lib.hid (mk_at s)
  have HSH := Lib.hid (code_short s f t)
  have HLO := Lib.hid (code_long s f t)
  have HIN := Lib.hid (code_in s f t)
  generalize codeB s f t = R at *
  rw [← hz] at hs HSH HLO HIN
  have HZ := Lib.hid hz
  clear hz
  generalize mk s = X at *
  by_cases h1 : (X.size : Int) < f
  · rw [HSH.out h1]
    go_enter Tryz.func72, Tryz.ntmps72
    go_wp2
    go_ret
    exact ⟨rfl, rfl⟩
  by_cases h2 : t < (X.size : Int)
  · rw [HLO.out h2]
    go_enter Tryz.func72, Tryz.ntmps72
    go_wp2
    go_ret
    exact ⟨rfl, rfl⟩
  rw [HIN.out (by omega) (by omega)]
  go_enter Tryz.func72, Tryz.ntmps72
  go_wp2
  go_loopg [7] (X.size) (fun g i wr => ∃ k : Nat, k ≤ X.size ∧ g = X.size - k ∧ i = .int .i64 k ∧ wr = w ∧ Hid ((s.take k).all signB = true))
  case atStart => exact ⟨0, Nat.zero_le _, rfl, rfl, rfl, rfl⟩
  case round =>
    obtain ⟨k, hk, hg, rfl, hw, HA⟩ := hrel
    rw [hw]
    clear hw wr
    by_cases hlt : k < X.size
    · have HC := Lib.hid (HAT.out k hlt)
      have HQ : Hid (signB X[k] = ((decide (65 ≤ X[k].toNat) && decide (X[k].toNat ≤ 90)) || (decide (48 ≤ X[k].toNat) && decide (X[k].toNat ≤ 57)))) := rfl
      by_cases g1 : 65 ≤ X[k].toNat ∧ X[k].toNat ≤ 90
      · obtain ⟨g1, g2⟩ := g1
        have g3 : 48 ≤ X[k].toNat := by omega
        have g4 : ¬ X[k].toNat ≤ 57 := by omega
        have d4 : decide ((X[k].toNat : Int) ≤ 57) = false := decide_eq_false (by omega)
        have d2 : decide ((X[k].toNat : Int) ≤ 90) = true := decide_eq_true (by omega)
        have hq := HQ.out
        rw [decide_eq_true g1, decide_eq_true g2] at hq
        have HQ2 := Lib.hid hq
        clear hq
        go_wp2
        go_roundg (X.size - (k + 1))
        case rel => exact ⟨k + 1, by omega, rfl, by go_num, rfl, all_take s k _ HC.out HA.out HQ2.out⟩
        case measure => omega
      by_cases g3 : 48 ≤ X[k].toNat ∧ X[k].toNat ≤ 57
      · obtain ⟨g3, g4⟩ := g3
        have g5 : ¬ 65 ≤ X[k].toNat := by omega
        have d4 : decide ((X[k].toNat : Int) ≤ 57) = true := decide_eq_true (by omega)
        have hq := HQ.out
        rw [decide_eq_true g3, decide_eq_true g4, Bool.and_self, Bool.or_true] at hq
        have HQ2 := Lib.hid hq
        clear hq g1
        go_wp2
        go_roundg (X.size - (k + 1))
        case rel => exact ⟨k + 1, by omega, rfl, by go_num, rfl, all_take s k _ HC.out HA.out HQ2.out⟩
        case measure => omega
      have HQ2 : Hid (signB X[k] = false) := by
        show _ = _
        rw [HQ.out]
        simp
        omega
      by_cases g5 : 65 ≤ X[k].toNat
      · have g6 : ¬ X[k].toNat ≤ 90 := by omega
        have g7 : 48 ≤ X[k].toNat := by omega
        have g8 : ¬ X[k].toNat ≤ 57 := by omega
        have d4 : decide ((X[k].toNat : Int) ≤ 57) = false := decide_eq_false (by omega)
        have d2 : decide ((X[k].toNat : Int) ≤ 90) = false := decide_eq_false (by omega)
        clear g1 g3
        go_wp2
        go_ret
        exact ⟨by rw [all_not s k _ HC.out HQ2.out]; rfl, rfl⟩
      · by_cases g7 : 48 ≤ X[k].toNat
        · have g8 : ¬ X[k].toNat ≤ 57 := by omega
          have d4 : decide ((X[k].toNat : Int) ≤ 57) = false := decide_eq_false (by omega)
          clear g1 g3
          go_wp2
          go_ret
          exact ⟨by rw [all_not s k _ HC.out HQ2.out]; rfl, rfl⟩
        · clear g1 g3
          go_wp2
          go_ret
          exact ⟨by rw [all_not s k _ HC.out HQ2.out]; rfl, rfl⟩
    · have hall : (s.take k) = s := List.take_of_length_le (by rw [← HZ.out]; omega)
      rw [hall] at HA
      clear hall
      go_wp2
      go_ret
      exact ⟨by rw [HA.out]; rfl, rfl⟩

theorem name_any (s : Tx) (w : World) (hs : s.length ≤ 9223372036854775807) :
    Calls Tryz.prog 106 #[.string (mk s)] w fun e w' => e = .returned (.bool (codeB s 1 12)) ∧ w' = w := by
  have HC := Lib.hid fun w => code_any s 1 12 w hs
  generalize codeB s 1 12 = R at *
  go_enter Tryz.func106, Tryz.ntmps106
  go_wp2_with (go_at_call 130; refine (HC.out _).mono ?_; rintro e w' ⟨rfl, rfl⟩)
  go_ret
  exact ⟨rfl, rfl⟩

theorem mods_take (l : List Tx) (k : Nat) (c : Tx) (h : l[k]? = some c) (hk : ((l.take k).all fun x => codeB x 2 2) = true) (hc : codeB c 2 2 = true) : ((l.take (k + 1)).all fun x => codeB x 2 2) = true := by
  rw [List.take_add_one, h]; simp_all
theorem mods_not (l : List Tx) (k : Nat) (c : Tx) (h : l[k]? = some c) (hc : codeB c 2 2 = false) : modsB l = false := by
  unfold modsB
  have : (l.all fun x => codeB x 2 2) = false := by
    rw [List.all_eq_false]
    exact ⟨c, List.mem_of_getElem? h, by simp [hc]⟩
  rw [this]; simp
theorem mods_many (l : List Tx) (h : ¬ l.length ≤ 4) : modsB l = false := by unfold modsB; rw [decide_eq_false h]; rfl
theorem mods_all (l : List Tx) (k : Nat) (h : l.length ≤ 4) (hk : l.length ≤ k) (ha : ((l.take k).all fun x => codeB x 2 2) = true) : modsB l = true := by
  rw [List.take_of_length_le hk] at ha
  unfold modsB; rw [decide_eq_true h, ha]; rfl

set_option maxHeartbeats 1000000 in
theorem mods_any (v : Value) (l : List Tx) (w : World) (h : TxAt All w v l) (hz : ∀ t ∈ l, t.length ≤ 281474976710656) :
    Calls Tryz.prog 131 #[v] w fun e w' => e = .returned (.bool (modsB l)) ∧ w' = w := by
  have HV := Lib.hid h
  have HZ := Lib.hid hz
  obtain ⟨a, c, rfl, h1, h2⟩ := TxAt.form h
  clear h hz
  have HM := Lib.hid (mods_many l)
  have HALL := Lib.hid (mods_all l)
  have HNO := Lib.hid (mods_not l)
  generalize modsB l = R at *
  by_cases h4 : l.length ≤ 4
  · have h4' : ¬ (4 : Int) < (l.length : Int) := by omega
    go_enter Tryz.func131, Tryz.ntmps131
    go_wp2
    go_loopg [10] (l.length) (fun g i wr => ∃ k : Nat, k ≤ l.length ∧ g = l.length - k ∧ i = .int .i64 k ∧ wr = w ∧ Hid (((l.take k).all fun x => codeB x 2 2) = true))
    case atStart => exact ⟨0, Nat.zero_le _, rfl, rfl, rfl, rfl⟩
    case round =>
      obtain ⟨k, hk, hg, rfl, hw, HA⟩ := hrel
      rw [hw]
      clear hw wr
      by_cases hlt : k < l.length
      · obtain ⟨b, o, rfl, hx, hu⟩ := tx_get HV.out k hlt
        have HX := Lib.hid hx
        have hq := HZ.out _ (List.mem_of_getElem? hx)
        have HC := Lib.hid fun w => code_any l[k] 2 2 w (by omega)
        clear hq hx
        cases hq : codeB l[k] 2 2
        · rw [hq] at HC
          have HQ := Lib.hid (HNO.out k _ HX.out hq)
          clear hq
          go_wp2_with (go_at_call 130; refine (HC.out _).mono ?_; rintro e w' ⟨rfl, rfl⟩)
          go_ret
          exact ⟨by rw [HQ.out]; rfl, rfl⟩
        · rw [hq] at HC
          have HQ := Lib.hid (mods_take l k _ HX.out HA.out hq)
          clear hq
          go_wp2_with (go_at_call 130; refine (HC.out _).mono ?_; rintro e w' ⟨rfl, rfl⟩)
          go_roundg (l.length - (k + 1))
          case rel => exact ⟨k + 1, by omega, rfl, by go_num, rfl, HQ.out⟩
          case measure => omega
      · have HQ := Lib.hid (HALL.out k h4 (by omega) HA.out)
        go_wp2
        go_ret
        exact ⟨by rw [HQ.out]; rfl, rfl⟩
  · rw [HM.out h4]
    have h4' : (4 : Int) < (l.length : Int) := by omega
    go_enter Tryz.func131, Tryz.ntmps131
    go_wp2
    go_ret
    exact ⟨rfl, rfl⟩
end Go.Proofs.YtpmnepihaljamaaGreatDoor.Cm
end

/-
  What the reference's leap, long and Good answer, as contracts. long lays a new table each time: the world grows.
-/
section
namespace Go.Proofs.YtpmnepihaljamaaGreatDoor.Da
open Go.RowKit

theorem grown_trans {a b c : World} (h : Grown a b) (k : Grown b c) : Grown a c :=
  ⟨World.keptBut_trans h.1 (World.keptBut_mono (fun _ f => f.elim) k.1), fun x => (k.2.1 x).trans (h.2.1 x), Nat.le_trans h.2.2 k.2.2⟩
theorem tab_grown {w w' : World} (h : Tab w) (g : Grown w w') : Tab w' := fun i hi => by
  have c := h i hi
  have hb : (1 : Nat) < w.heap.size := World.block_lt_of_cell? w ⟨1, i, none⟩ c
  rw [g.1.cell hb (fun f => f)]
  exact c

theorem rleap_any (y : Int) (w : World) (h : 0 ≤ y) :
    Calls Tryz.prog 159 #[.int .i64 y] w fun e w' => e = .returned (.bool (leapB y)) ∧ w' = w := by
  cases h3 : (y % 400 == 0)
  · cases h2 : (y % 100 == 0)
    · have e : leapB y = (y % 4 == 0) := by simp [leapB, h3, bne, h2]
      go_enter Tryz.func159, Tryz.ntmps159
      go_wp2
      go_ret
      exact ⟨by rw [e]; rfl, rfl⟩
    · have e : leapB y = false := by simp [leapB, h3, bne, h2]
      go_enter Tryz.func159, Tryz.ntmps159
      go_wp2
      go_ret
      exact ⟨by rw [e]; rfl, rfl⟩
  · have e : leapB y = true := by simp [leapB, h3]
    go_enter Tryz.func159, Tryz.ntmps159
    go_wp2
    go_ret
    exact ⟨by rw [e]; rfl, rfl⟩

set_option maxHeartbeats 1000000 in
theorem long_any (y m : Int) (w : World) (h : 0 ≤ y) (h1 : 1 ≤ m) (h2 : m ≤ 12) :
    Calls Tryz.prog 146 #[.int .i64 y, .int .i64 m] w fun e w' => e = .returned (.int .i64 (lenM y m)) ∧ Grown w w' := by
  rcases month_cases m h1 h2 with rfl | rfl | rfl | rfl | rfl | rfl | rfl | rfl | rfl | rfl | rfl | rfl
  case inr.inl =>
    cases b : leapB y
    · go_enter Tryz.func146, Tryz.ntmps146
      go_wp2_with (go_at_call 159; refine (rleap_any _ _ h).mono ?_; rintro e w' ⟨rfl, rfl⟩)
      go_ret
      exact ⟨by simp [lenM, b, lenT, lens], (Grown.refl _).alloc _ _⟩
    · go_enter Tryz.func146, Tryz.ntmps146
      go_wp2_with (go_at_call 159; refine (rleap_any _ _ h).mono ?_; rintro e w' ⟨rfl, rfl⟩)
      go_ret
      exact ⟨by simp [lenM, b], (Grown.refl _).alloc _ _⟩
  all_goals
    go_enter Tryz.func146, Tryz.ntmps146
    go_wp2
    go_ret
    exact ⟨rfl, (Grown.refl _).alloc _ _⟩

theorem good_ref (n : Int) (h1 : 10101 ≤ n) (h2 : n ≤ 99991231) : good n = true ↔ (1 ≤ n / 100 % 100 ∧ n / 100 % 100 ≤ 12 ∧ 1 ≤ n % 100 ∧ n % 100 ≤ lenM (n / 10000) (n / 100 % 100)) := by
  rw [good_iff, yr_eq n (by omega), mo_eq n (by omega), da_eq n (by omega)]
  constructor
  · exact fun h => h.2.2
  · exact fun h => ⟨by omega, by omega, h⟩
theorem good_refn (n : Int) (h1 : 10101 ≤ n) (h2 : n ≤ 99991231) (h : ¬ (1 ≤ n / 100 % 100 ∧ n / 100 % 100 ≤ 12 ∧ 1 ≤ n % 100 ∧ n % 100 ≤ lenM (n / 10000) (n / 100 % 100))) : good n = false := by
  rw [← good_ref n h1 h2] at h
  simpa using h

set_option maxHeartbeats 400000 in
theorem rgood_any (n : Int) (w : World) :
    Calls Tryz.prog 129 #[.int .i64 n] w fun e w' => e = .returned (.bool (good n)) ∧ Grown w w' := by
  by_cases c1 : n < 10101
  · have g : good n = false := by
      cases g : good n
      · rfl
      · have := good_bd n g; omega
    rw [g]
    go_enter Tryz.func129, Tryz.ntmps129
    go_wp2
    go_ret
    exact ⟨rfl, Grown.refl _⟩
  by_cases c2 : n > 99991231
  · have g : good n = false := by
      cases g : good n
      · rfl
      · have := good_bd n g; omega
    rw [g]
    go_enter Tryz.func129, Tryz.ntmps129
    go_wp2
    go_ret
    exact ⟨rfl, Grown.refl _⟩
  have G := good_refn n (by omega) (by omega)
  by_cases c3 : n / 100 % 100 < 1
  · have g : good n = false := G (by omega)
    rw [g]
    clear G
    go_enter Tryz.func129, Tryz.ntmps129
    go_wp2
    go_ret
    exact ⟨rfl, Grown.refl _⟩
  by_cases c4 : n / 100 % 100 > 12
  · have g : good n = false := G (by omega)
    rw [g]
    clear G
    go_enter Tryz.func129, Tryz.ntmps129
    go_wp2
    go_ret
    exact ⟨rfl, Grown.refl _⟩
  by_cases c5 : n % 100 ≥ 1
  · by_cases c6 : n % 100 ≤ lenM (n / 10000) (n / 100 % 100)
    · have g : good n = true := (good_ref n (by omega) (by omega)).2 (by omega)
      have d6 : decide (n % 100 ≤ lenM (n / 10000) (n / 100 % 100)) = true := by simpa using c6
      rw [g]
      clear G
      go_enter Tryz.func129, Tryz.ntmps129
      go_wp2_with (go_at_call 146; refine (long_any _ _ _ (by omega) (by omega) (by omega)).mono ?_; rintro e w' ⟨rfl, hg⟩)
      go_ret
      exact ⟨rfl, hg⟩
    · have g : good n = false := G (by omega)
      have d6 : decide (n % 100 ≤ lenM (n / 10000) (n / 100 % 100)) = false := by simpa using c6
      rw [g]
      clear G
      go_enter Tryz.func129, Tryz.ntmps129
      go_wp2_with (go_at_call 146; refine (long_any _ _ _ (by omega) (by omega) (by omega)).mono ?_; rintro e w' ⟨rfl, hg⟩)
      go_ret
      exact ⟨rfl, hg⟩
  · have g : good n = false := G (by omega)
    rw [g]
    clear G
    go_enter Tryz.func129, Tryz.ntmps129
    go_wp2
    go_ret
    exact ⟨rfl, Grown.refl _⟩

end Go.Proofs.YtpmnepihaljamaaGreatDoor.Da
end

/-
  What cents.Good and Add answer, as contracts: for every int64.
-/
section
namespace Go.Proofs.YtpmnepihaljamaaGreatDoor.Ce
open Go.RowKit

theorem good_any (a : Int) (w : World) :
    Calls Tryz.prog 133 #[.int .i64 a] w fun e w' => e = .returned (.bool (good a)) ∧ w' = w := by
  by_cases h0 : 0 ≤ a
  · by_cases h1 : a ≤ 10000000000000
    · have g : good a = true := (good_iff a).2 ⟨h0, h1⟩
      rw [g]
      go_enter Tryz.func133, Tryz.ntmps133
      go_wp2
      go_ret
      exact ⟨rfl, rfl⟩
    · have g : good a = false := (good_not a).2 (by omega)
      rw [g]
      go_enter Tryz.func133, Tryz.ntmps133
      go_wp2
      go_ret
      exact ⟨rfl, rfl⟩
  · have g : good a = false := (good_not a).2 (by omega)
    rw [g]
    go_enter Tryz.func133, Tryz.ntmps133
    go_wp2
    go_ret
    exact ⟨rfl, rfl⟩

theorem add_any (a b : Int) (w : World) :
    Calls Tryz.prog 112 #[.int .i64 a, .int .i64 b] w fun e w' => e = .returned (.tuple #[.int .i64 (addV a b), .int .i64 (addE a b)]) ∧ w' = w := by
  cases ga : good a
  · have e1 : addV a b = 0 := by simp [addV, ga]
    have e2 : addE a b = 1 := by simp [addE, ga]
    rw [e1, e2]
    go_enter Tryz.func112, Tryz.ntmps112
    go_wp2_with (go_at_call 133; refine (good_any _ _).mono ?_; rintro e w' ⟨rfl, rfl⟩)
    go_ret2
    exact ⟨rfl, rfl⟩
  · cases gb : good b
    · have e1 : addV a b = 0 := by simp [addV, gb]
      have e2 : addE a b = 1 := by simp [addE, gb]
      rw [e1, e2]
      go_enter Tryz.func112, Tryz.ntmps112
      go_wp2_with (go_at_call 133; refine (good_any _ _).mono ?_; rintro e w' ⟨rfl, rfl⟩)
      go_ret2
      exact ⟨rfl, rfl⟩
    · have ba := (good_iff a).1 ga
      have bb := (good_iff b).1 gb
      obtain ⟨a0, a1⟩ := ba
      obtain ⟨b0, b1⟩ := bb
      cases gc : good (a + b)
      · have e1 : addV a b = 0 := by simp [addV, gc]
        have e2 : addE a b = 2 := by simp [addE, ga, gb, gc]
        rw [e1, e2]
        go_enter Tryz.func112, Tryz.ntmps112
        go_wp2_with (go_at_call 133; refine (good_any _ _).mono ?_; rintro e w' ⟨rfl, rfl⟩)
        go_ret2
        exact ⟨rfl, rfl⟩
      · have e1 : addV a b = a + b := by simp [addV, ga, gb, gc]
        have e2 : addE a b = 0 := by simp [addE, ga, gb, gc]
        rw [e1, e2]
        go_enter Tryz.func112, Tryz.ntmps112
        go_wp2_with (go_at_call 133; refine (good_any _ _).mono ?_; rintro e w' ⟨rfl, rfl⟩)
        go_ret2
        exact ⟨rfl, rfl⟩

end Go.Proofs.YtpmnepihaljamaaGreatDoor.Ce
end

/-
  What the reference's Good answers, as contracts: for every int64.
-/
section
namespace Go.Proofs.YtpmnepihaljamaaGreatDoor.Ce
open Go.RowKit

theorem rgood_any (a : Int) (w : World) :
    Calls Tryz.prog 118 #[.int .i64 a] w fun e w' => e = .returned (.bool (good a)) ∧ w' = w := by
  by_cases h0 : a < 0
  · have g : good a = false := (good_not a).2 (by omega)
    rw [g]
    go_enter Tryz.func118, Tryz.ntmps118
    go_wp2
    go_ret
    exact ⟨rfl, rfl⟩
  · by_cases h1 : 10000000000000 < a
    · have g : good a = false := (good_not a).2 (by omega)
      rw [g]
      go_enter Tryz.func118, Tryz.ntmps118
      go_wp2
      go_ret
      exact ⟨rfl, rfl⟩
    · have g : good a = true := (good_iff a).2 (by omega)
      rw [g]
      go_enter Tryz.func118, Tryz.ntmps118
      go_wp2
      go_ret
      exact ⟨rfl, rfl⟩

end Go.Proofs.YtpmnepihaljamaaGreatDoor.Ce
end
