/-
  Texts put together (merge.py): LCode, DRef, CAdds, CRefs, LLine, LLines.
-/
import Derived.RowKit3
import Derived.WalkKit
import Derived.Test.YtpmnepihaljamaaGreatDoorM3
import Derived.Test.YtpmnepihaljamaaGreatDoorProg
import Derived.Test.YtpmnepihaljamaaGreatDoorM1
/-
  What claim.codeSign, Code, name, mods and the reference's Code answer, as contracts: for every text; the world stands.
-/
section
set_option linter.unusedSimpArgs false
namespace Go.Proofs.YtpmnepihaljamaaGreatDoor.Cm
open Go.RowKit

theorem sign_any (c : UInt8) (w : World) :
    Calls Tryz.prog 147 #[.int .u8 c.toNat] w fun e w' => e = .returned (.bool (signB c)) ∧ w' = w := by
  unfold signB
  generalize c.toNat = n
  cases h1 : decide (65 ≤ n) <;> cases h2 : decide (n ≤ 90) <;> cases h3 : decide (48 ≤ n) <;> cases h4 : decide (n ≤ 57) <;>
  · simp only [decide_eq_true_eq, decide_eq_false_iff_not] at h1 h2 h3 h4
    first
      | omega
      | (go_enter Tryz.func147, Tryz.ntmps147
         go_wp2
         go_ret
         exact ⟨by first | rfl | (simp; omega), rfl⟩)

theorem all_take {p : UInt8 → Bool} (s : Tx) (k : Nat) (c : UInt8) (h : s[k]? = some c) (hk : (s.take k).all p = true) (hc : p c = true) : (s.take (k + 1)).all p = true := by
  rw [List.take_add_one, h]; simp_all
theorem all_not {p : UInt8 → Bool} (s : Tx) (k : Nat) (c : UInt8) (h : s[k]? = some c) (hc : p c = false) : s.all p = false := by
  rw [List.all_eq_false]
  exact ⟨c, List.mem_of_getElem? h, by simp [hc]⟩
theorem code_short (s : Tx) (f t : Int) (h : (s.length : Int) < f) : codeB s f t = false := by unfold codeB; rw [decide_eq_false (by omega)]; simp
theorem code_long (s : Tx) (f t : Int) (h : t < (s.length : Int)) : codeB s f t = false := by unfold codeB; rw [decide_eq_false (p := (s.length : Int) ≤ t) (by omega)]; simp
theorem code_in (s : Tx) (f t : Int) (h1 : f ≤ (s.length : Int)) (h2 : (s.length : Int) ≤ t) : codeB s f t = s.all signB := by unfold codeB; rw [decide_eq_true h1, decide_eq_true h2]; simp
theorem mk_at (s : Tx) (k : Nat) (hk : k < (mk s).size) : s[k]? = some (mk s)[k] := by
  have hl : k < s.length := by rw [← mk_size]; exact hk
  rw [List.getElem?_eq_getElem hl]
  rfl

set_option maxHeartbeats 1000000 in
theorem code_any (s : Tx) (f t : Int) (w : World) (hs : s.length ≤ 9223372036854775807) :
    Calls Tryz.prog 130 #[.string (mk s), .int .i64 f, .int .i64 t] w fun e w' => e = .returned (.bool (codeB s f t)) ∧ w' = w := by
  have hz := mk_size s
  have HS := Lib.hid hs
  have HAT := Lib.hid (mk_at s)
  have HSH := Lib.hid (code_short s f t)
  have HLO := Lib.hid (code_long s f t)
  have HIN := Lib.hid (code_in s f t)
  generalize codeB s f t = R at *
  rw [← hz] at hs HSH HLO HIN
  have HZ := Lib.hid hz
  clear hz
  generalize mk s = X at *
  by_cases h1 : (X.size : Int) < f
  · rw [HSH.out h1]
    go_enter Tryz.func130, Tryz.ntmps130
    go_wp2
    go_ret
    exact ⟨rfl, rfl⟩
  by_cases h2 : t < (X.size : Int)
  · rw [HLO.out h2]
    go_enter Tryz.func130, Tryz.ntmps130
    go_wp2
    go_ret
    exact ⟨rfl, rfl⟩
  rw [HIN.out (by omega) (by omega)]
  go_enter Tryz.func130, Tryz.ntmps130
  go_wp2
  go_loopg [20] (X.size) (fun g i wr => ∃ k : Nat, k ≤ X.size ∧ g = X.size - k ∧ i = .int .i64 k ∧ wr = w ∧ Hid ((s.take k).all signB = true))
  case atStart => exact ⟨0, Nat.zero_le _, rfl, rfl, rfl, rfl⟩
  case round =>
    obtain ⟨k, hk, hg, rfl, hw, HA⟩ := hrel
    rw [hw]
    clear hw wr
    by_cases hlt : k < X.size
    · have HC := Lib.hid (HAT.out k hlt)
      cases hq : signB X[k]
      · go_wp2_with (go_at_call 147; refine (sign_any _ _).mono ?_; rintro e w' ⟨rfl, rfl⟩)
        go_ret
        exact ⟨by rw [all_not s k _ HC.out hq]; rfl, rfl⟩
      · go_wp2_with (go_at_call 147; refine (sign_any _ _).mono ?_; rintro e w' ⟨rfl, rfl⟩)
        go_roundg (X.size - (k + 1))
        case rel => exact ⟨k + 1, by omega, rfl, by go_num, rfl, all_take s k _ HC.out HA.out hq⟩
        case measure => omega
    · have hall : (s.take k) = s := List.take_of_length_le (by rw [← HZ.out]; omega)
      rw [hall] at HA
      clear hall
      go_wp2
      go_ret
      exact ⟨by rw [HA.out]; rfl, rfl⟩

set_option maxHeartbeats 1000000 in
theorem rcode_any (s : Tx) (f t : Int) (w : World) (hs : s.length ≤ 9223372036854775807) :
    Calls Tryz.prog 72 #[.string (mk s), .int .i64 f, .int .i64 t] w fun e w' => e = .returned (.bool (codeB s f t)) ∧ w' = w := by
  have hz := mk_size s
  have HS := Lib.hid hs
  have HAT := Lib.hid (mk_at s)
  have HSH := Lib.hid (code_short s f t)
  have HLO := Lib.hid (code_long s f t)
  have HIN := Lib.hid (code_in s f t)
  generalize codeB s f t = R at *
  rw [← hz] at hs HSH HLO HIN
  have HZ := Lib.hid hz
  clear hz
  generalize mk s = X at *
  by_cases h1 : (X.size : Int) < f
  · rw [HSH.out h1]
    go_enter Tryz.func72, Tryz.ntmps72
    go_wp2
    go_ret
    exact ⟨rfl, rfl⟩
  by_cases h2 : t < (X.size : Int)
  · rw [HLO.out h2]
    go_enter Tryz.func72, Tryz.ntmps72
    go_wp2
    go_ret
    exact ⟨rfl, rfl⟩
  rw [HIN.out (by omega) (by omega)]
  go_enter Tryz.func72, Tryz.ntmps72
  go_wp2
  go_loopg [7] (X.size) (fun g i wr => ∃ k : Nat, k ≤ X.size ∧ g = X.size - k ∧ i = .int .i64 k ∧ wr = w ∧ Hid ((s.take k).all signB = true))
  case atStart => exact ⟨0, Nat.zero_le _, rfl, rfl, rfl, rfl⟩
  case round =>
    obtain ⟨k, hk, hg, rfl, hw, HA⟩ := hrel
    rw [hw]
    clear hw wr
    by_cases hlt : k < X.size
    · have HC := Lib.hid (HAT.out k hlt)
      have HQ : Hid (signB X[k] = ((decide (65 ≤ X[k].toNat) && decide (X[k].toNat ≤ 90)) || (decide (48 ≤ X[k].toNat) && decide (X[k].toNat ≤ 57)))) := rfl
      by_cases g1 : 65 ≤ X[k].toNat ∧ X[k].toNat ≤ 90
      · obtain ⟨g1, g2⟩ := g1
        have g3 : 48 ≤ X[k].toNat := by omega
        have g4 : ¬ X[k].toNat ≤ 57 := by omega
        have d4 : decide ((X[k].toNat : Int) ≤ 57) = false := decide_eq_false (by omega)
        have d2 : decide ((X[k].toNat : Int) ≤ 90) = true := decide_eq_true (by omega)
        have hq := HQ.out
        rw [decide_eq_true g1, decide_eq_true g2] at hq
        have HQ2 := Lib.hid hq
        clear hq
        go_wp2
        go_roundg (X.size - (k + 1))
        case rel => exact ⟨k + 1, by omega, rfl, by go_num, rfl, all_take s k _ HC.out HA.out HQ2.out⟩
        case measure => omega
      by_cases g3 : 48 ≤ X[k].toNat ∧ X[k].toNat ≤ 57
      · obtain ⟨g3, g4⟩ := g3
        have g5 : ¬ 65 ≤ X[k].toNat := by omega
        have d4 : decide ((X[k].toNat : Int) ≤ 57) = true := decide_eq_true (by omega)
        have hq := HQ.out
        rw [decide_eq_true g3, decide_eq_true g4, Bool.and_self, Bool.or_true] at hq
        have HQ2 := Lib.hid hq
        clear hq g1
        go_wp2
        go_roundg (X.size - (k + 1))
        case rel => exact ⟨k + 1, by omega, rfl, by go_num, rfl, all_take s k _ HC.out HA.out HQ2.out⟩
        case measure => omega
      have HQ2 : Hid (signB X[k] = false) := by
        show _ = _
        rw [HQ.out]
        simp
        omega
      by_cases g5 : 65 ≤ X[k].toNat
      · have g6 : ¬ X[k].toNat ≤ 90 := by omega
        have g7 : 48 ≤ X[k].toNat := by omega
        have g8 : ¬ X[k].toNat ≤ 57 := by omega
        have d4 : decide ((X[k].toNat : Int) ≤ 57) = false := decide_eq_false (by omega)
        have d2 : decide ((X[k].toNat : Int) ≤ 90) = false := decide_eq_false (by omega)
        clear g1 g3
        go_wp2
        go_ret
        exact ⟨by rw [all_not s k _ HC.out HQ2.out]; rfl, rfl⟩
      · by_cases g7 : 48 ≤ X[k].toNat
        · have g8 : ¬ X[k].toNat ≤ 57 := by omega
          have d4 : decide ((X[k].toNat : Int) ≤ 57) = false := decide_eq_false (by omega)
          clear g1 g3
          go_wp2
          go_ret
          exact ⟨by rw [all_not s k _ HC.out HQ2.out]; rfl, rfl⟩
        · clear g1 g3
          go_wp2
          go_ret
          exact ⟨by rw [all_not s k _ HC.out HQ2.out]; rfl, rfl⟩
    · have hall : (s.take k) = s := List.take_of_length_le (by rw [← HZ.out]; omega)
      rw [hall] at HA
      clear hall
      go_wp2
      go_ret
      exact ⟨by rw [HA.out]; rfl, rfl⟩

theorem name_any (s : Tx) (w : World) (hs : s.length ≤ 9223372036854775807) :
    Calls Tryz.prog 106 #[.string (mk s)] w fun e w' => e = .returned (.bool (codeB s 1 12)) ∧ w' = w := by
  have HC := Lib.hid fun w => code_any s 1 12 w hs
  generalize codeB s 1 12 = R at *
  go_enter Tryz.func106, Tryz.ntmps106
  go_wp2_with (go_at_call 130; refine (HC.out _).mono ?_; rintro e w' ⟨rfl, rfl⟩)
  go_ret
  exact ⟨rfl, rfl⟩

theorem mods_take (l : List Tx) (k : Nat) (c : Tx) (h : l[k]? = some c) (hk : ((l.take k).all fun x => codeB x 2 2) = true) (hc : codeB c 2 2 = true) : ((l.take (k + 1)).all fun x => codeB x 2 2) = true := by
  rw [List.take_add_one, h]; simp_all
theorem mods_not (l : List Tx) (k : Nat) (c : Tx) (h : l[k]? = some c) (hc : codeB c 2 2 = false) : modsB l = false := by
  unfold modsB
  have : (l.all fun x => codeB x 2 2) = false := by
    rw [List.all_eq_false]
    exact ⟨c, List.mem_of_getElem? h, by simp [hc]⟩
  rw [this]; simp
theorem mods_many (l : List Tx) (h : ¬ l.length ≤ 4) : modsB l = false := by unfold modsB; rw [decide_eq_false h]; rfl
theorem mods_all (l : List Tx) (k : Nat) (h : l.length ≤ 4) (hk : l.length ≤ k) (ha : ((l.take k).all fun x => codeB x 2 2) = true) : modsB l = true := by
  rw [List.take_of_length_le hk] at ha
  unfold modsB; rw [decide_eq_true h, ha]; rfl

set_option maxHeartbeats 1000000 in
theorem mods_any (v : Value) (l : List Tx) (w : World) (h : TxAt All w v l) (hz : ∀ t ∈ l, t.length ≤ 281474976710656) :
    Calls Tryz.prog 131 #[v] w fun e w' => e = .returned (.bool (modsB l)) ∧ w' = w := by
  have HV := Lib.hid h
  have HZ := Lib.hid hz
  obtain ⟨a, c, rfl, h1, h2⟩ := TxAt.form h
  clear h hz
  have HM := Lib.hid (mods_many l)
  have HALL := Lib.hid (mods_all l)
  have HNO := Lib.hid (mods_not l)
  generalize modsB l = R at *
  by_cases h4 : l.length ≤ 4
  · have h4' : ¬ (4 : Int) < (l.length : Int) := by omega
    go_enter Tryz.func131, Tryz.ntmps131
    go_wp2
    go_loopg [10] (l.length) (fun g i wr => ∃ k : Nat, k ≤ l.length ∧ g = l.length - k ∧ i = .int .i64 k ∧ wr = w ∧ Hid (((l.take k).all fun x => codeB x 2 2) = true))
    case atStart => exact ⟨0, Nat.zero_le _, rfl, rfl, rfl, rfl⟩
    case round =>
      obtain ⟨k, hk, hg, rfl, hw, HA⟩ := hrel
      rw [hw]
      clear hw wr
      by_cases hlt : k < l.length
      · obtain ⟨b, o, rfl, hx, hu⟩ := tx_get HV.out k hlt
        have HX := Lib.hid hx
        have hq := HZ.out _ (List.mem_of_getElem? hx)
        have HC := Lib.hid fun w => code_any l[k] 2 2 w (by omega)
        clear hq hx
        cases hq : codeB l[k] 2 2
        · rw [hq] at HC
          have HQ := Lib.hid (HNO.out k _ HX.out hq)
          clear hq
          go_wp2_with (go_at_call 130; refine (HC.out _).mono ?_; rintro e w' ⟨rfl, rfl⟩)
          go_ret
          exact ⟨by rw [HQ.out]; rfl, rfl⟩
        · rw [hq] at HC
          have HQ := Lib.hid (mods_take l k _ HX.out HA.out hq)
          clear hq
          go_wp2_with (go_at_call 130; refine (HC.out _).mono ?_; rintro e w' ⟨rfl, rfl⟩)
          go_roundg (l.length - (k + 1))
          case rel => exact ⟨k + 1, by omega, rfl, by go_num, rfl, HQ.out⟩
          case measure => omega
      · have HQ := Lib.hid (HALL.out k h4 (by omega) HA.out)
        go_wp2
        go_ret
        exact ⟨by rw [HQ.out]; rfl, rfl⟩
  · rw [HM.out h4]
    have h4' : (4 : Int) < (l.length : Int) := by omega
    go_enter Tryz.func131, Tryz.ntmps131
    go_wp2
    go_ret
    exact ⟨rfl, rfl⟩
end Go.Proofs.YtpmnepihaljamaaGreatDoor.Cm
end

/-
  What the reference's leap, long and Good answer, as contracts. long lays a new table each time: the world grows.
-/
section
namespace Go.Proofs.YtpmnepihaljamaaGreatDoor.Da
open Go.RowKit

theorem grown_trans {a b c : World} (h : Grown a b) (k : Grown b c) : Grown a c :=
  ⟨World.keptBut_trans h.1 (World.keptBut_mono (fun _ f => f.elim) k.1), fun x => (k.2.1 x).trans (h.2.1 x), Nat.le_trans h.2.2 k.2.2⟩
theorem tab_grown {w w' : World} (h : Tab w) (g : Grown w w') : Tab w' := fun i hi => by
  have c := h i hi
  have hb : (1 : Nat) < w.heap.size := World.block_lt_of_cell? w ⟨1, i, none⟩ c
  rw [g.1.cell hb (fun f => f)]
  exact c

theorem rleap_any (y : Int) (w : World) (h : 0 ≤ y) :
    Calls Tryz.prog 159 #[.int .i64 y] w fun e w' => e = .returned (.bool (leapB y)) ∧ w' = w := by
  cases h3 : (y % 400 == 0)
  · cases h2 : (y % 100 == 0)
    · have e : leapB y = (y % 4 == 0) := by simp [leapB, h3, bne, h2]
      go_enter Tryz.func159, Tryz.ntmps159
      go_wp2
      go_ret
      exact ⟨by rw [e]; rfl, rfl⟩
    · have e : leapB y = false := by simp [leapB, h3, bne, h2]
      go_enter Tryz.func159, Tryz.ntmps159
      go_wp2
      go_ret
      exact ⟨by rw [e]; rfl, rfl⟩
  · have e : leapB y = true := by simp [leapB, h3]
    go_enter Tryz.func159, Tryz.ntmps159
    go_wp2
    go_ret
    exact ⟨by rw [e]; rfl, rfl⟩

set_option maxHeartbeats 1000000 in
theorem long_any (y m : Int) (w : World) (h : 0 ≤ y) (h1 : 1 ≤ m) (h2 : m ≤ 12) :
    Calls Tryz.prog 146 #[.int .i64 y, .int .i64 m] w fun e w' => e = .returned (.int .i64 (lenM y m)) ∧ Grown w w' := by
  rcases month_cases m h1 h2 with rfl | rfl | rfl | rfl | rfl | rfl | rfl | rfl | rfl | rfl | rfl | rfl
  case inr.inl =>
    cases b : leapB y
    · go_enter Tryz.func146, Tryz.ntmps146
      go_wp2_with (go_at_call 159; refine (rleap_any _ _ h).mono ?_; rintro e w' ⟨rfl, rfl⟩)
      go_ret
      exact ⟨by simp [lenM, b, lenT, lens], (Grown.refl _).alloc _ _⟩
    · go_enter Tryz.func146, Tryz.ntmps146
      go_wp2_with (go_at_call 159; refine (rleap_any _ _ h).mono ?_; rintro e w' ⟨rfl, rfl⟩)
      go_ret
      exact ⟨by simp [lenM, b], (Grown.refl _).alloc _ _⟩
  all_goals
    go_enter Tryz.func146, Tryz.ntmps146
    go_wp2
    go_ret
    exact ⟨rfl, (Grown.refl _).alloc _ _⟩

theorem good_ref (n : Int) (h1 : 10101 ≤ n) (h2 : n ≤ 99991231) : good n = true ↔ (1 ≤ n / 100 % 100 ∧ n / 100 % 100 ≤ 12 ∧ 1 ≤ n % 100 ∧ n % 100 ≤ lenM (n / 10000) (n / 100 % 100)) := by
  rw [good_iff, yr_eq n (by omega), mo_eq n (by omega), da_eq n (by omega)]
  constructor
  · exact fun h => h.2.2
  · exact fun h => ⟨by omega, by omega, h⟩
theorem good_refn (n : Int) (h1 : 10101 ≤ n) (h2 : n ≤ 99991231) (h : ¬ (1 ≤ n / 100 % 100 ∧ n / 100 % 100 ≤ 12 ∧ 1 ≤ n % 100 ∧ n % 100 ≤ lenM (n / 10000) (n / 100 % 100))) : good n = false := by
  rw [← good_ref n h1 h2] at h
  simpa using h

set_option maxHeartbeats 400000 in
theorem rgood_any (n : Int) (w : World) :
    Calls Tryz.prog 129 #[.int .i64 n] w fun e w' => e = .returned (.bool (good n)) ∧ Grown w w' := by
  by_cases c1 : n < 10101
  · have g : good n = false := by
      cases g : good n
      · rfl
      · have := good_bd n g; omega
    rw [g]
    go_enter Tryz.func129, Tryz.ntmps129
    go_wp2
    go_ret
    exact ⟨rfl, Grown.refl _⟩
  by_cases c2 : n > 99991231
  · have g : good n = false := by
      cases g : good n
      · rfl
      · have := good_bd n g; omega
    rw [g]
    go_enter Tryz.func129, Tryz.ntmps129
    go_wp2
    go_ret
    exact ⟨rfl, Grown.refl _⟩
  have G := good_refn n (by omega) (by omega)
  by_cases c3 : n / 100 % 100 < 1
  · have g : good n = false := G (by omega)
    rw [g]
    clear G
    go_enter Tryz.func129, Tryz.ntmps129
    go_wp2
    go_ret
    exact ⟨rfl, Grown.refl _⟩
  by_cases c4 : n / 100 % 100 > 12
  · have g : good n = false := G (by omega)
    rw [g]
    clear G
    go_enter Tryz.func129, Tryz.ntmps129
    go_wp2
    go_ret
    exact ⟨rfl, Grown.refl _⟩
  by_cases c5 : n % 100 ≥ 1
  · by_cases c6 : n % 100 ≤ lenM (n / 10000) (n / 100 % 100)
    · have g : good n = true := (good_ref n (by omega) (by omega)).2 (by omega)
      have d6 : decide (n % 100 ≤ lenM (n / 10000) (n / 100 % 100)) = true := by simpa using c6
      rw [g]
      clear G
      go_enter Tryz.func129, Tryz.ntmps129
      go_wp2_with (go_at_call 146; refine (long_any _ _ _ (by omega) (by omega) (by omega)).mono ?_; rintro e w' ⟨rfl, hg⟩)
      go_ret
      exact ⟨rfl, hg⟩
    · have g : good n = false := G (by omega)
      have d6 : decide (n % 100 ≤ lenM (n / 10000) (n / 100 % 100)) = false := by simpa using c6
      rw [g]
      clear G
      go_enter Tryz.func129, Tryz.ntmps129
      go_wp2_with (go_at_call 146; refine (long_any _ _ _ (by omega) (by omega) (by omega)).mono ?_; rintro e w' ⟨rfl, hg⟩)
      go_ret
      exact ⟨rfl, hg⟩
  · have g : good n = false := G (by omega)
    rw [g]
    clear G
    go_enter Tryz.func129, Tryz.ntmps129
    go_wp2
    go_ret
    exact ⟨rfl, Grown.refl _⟩

end Go.Proofs.YtpmnepihaljamaaGreatDoor.Da
end

/-
  What cents.Good and Add answer, as contracts: for every int64.
-/
section
namespace Go.Proofs.YtpmnepihaljamaaGreatDoor.Ce
open Go.RowKit

theorem good_any (a : Int) (w : World) :
    Calls Tryz.prog 133 #[.int .i64 a] w fun e w' => e = .returned (.bool (good a)) ∧ w' = w := by
  by_cases h0 : 0 ≤ a
  · by_cases h1 : a ≤ 10000000000000
    · have g : good a = true := (good_iff a).2 ⟨h0, h1⟩
      rw [g]
      go_enter Tryz.func133, Tryz.ntmps133
      go_wp2
      go_ret
      exact ⟨rfl, rfl⟩
    · have g : good a = false := (good_not a).2 (by omega)
      rw [g]
      go_enter Tryz.func133, Tryz.ntmps133
      go_wp2
      go_ret
      exact ⟨rfl, rfl⟩
  · have g : good a = false := (good_not a).2 (by omega)
    rw [g]
    go_enter Tryz.func133, Tryz.ntmps133
    go_wp2
    go_ret
    exact ⟨rfl, rfl⟩

theorem add_any (a b : Int) (w : World) :
    Calls Tryz.prog 112 #[.int .i64 a, .int .i64 b] w fun e w' => e = .returned (.tuple #[.int .i64 (addV a b), .int .i64 (addE a b)]) ∧ w' = w := by
  cases ga : good a
  · have e1 : addV a b = 0 := by simp [addV, ga]
    have e2 : addE a b = 1 := by simp [addE, ga]
    rw [e1, e2]
    go_enter Tryz.func112, Tryz.ntmps112
    go_wp2_with (go_at_call 133; refine (good_any _ _).mono ?_; rintro e w' ⟨rfl, rfl⟩)
    go_ret2
    exact ⟨rfl, rfl⟩
  · cases gb : good b
    · have e1 : addV a b = 0 := by simp [addV, gb]
      have e2 : addE a b = 1 := by simp [addE, gb]
      rw [e1, e2]
      go_enter Tryz.func112, Tryz.ntmps112
      go_wp2_with (go_at_call 133; refine (good_any _ _).mono ?_; rintro e w' ⟨rfl, rfl⟩)
      go_ret2
      exact ⟨rfl, rfl⟩
    · have ba := (good_iff a).1 ga
      have bb := (good_iff b).1 gb
      obtain ⟨a0, a1⟩ := ba
      obtain ⟨b0, b1⟩ := bb
      cases gc : good (a + b)
      · have e1 : addV a b = 0 := by simp [addV, gc]
        have e2 : addE a b = 2 := by simp [addE, ga, gb, gc]
        rw [e1, e2]
        go_enter Tryz.func112, Tryz.ntmps112
        go_wp2_with (go_at_call 133; refine (good_any _ _).mono ?_; rintro e w' ⟨rfl, rfl⟩)
        go_ret2
        exact ⟨rfl, rfl⟩
      · have e1 : addV a b = a + b := by simp [addV, ga, gb, gc]
        have e2 : addE a b = 0 := by simp [addE, ga, gb, gc]
        rw [e1, e2]
        go_enter Tryz.func112, Tryz.ntmps112
        go_wp2_with (go_at_call 133; refine (good_any _ _).mono ?_; rintro e w' ⟨rfl, rfl⟩)
        go_ret2
        exact ⟨rfl, rfl⟩

end Go.Proofs.YtpmnepihaljamaaGreatDoor.Ce
end

/-
  What the reference's Good answers, as contracts: for every int64.
-/
section
namespace Go.Proofs.YtpmnepihaljamaaGreatDoor.Ce
open Go.RowKit

theorem rgood_any (a : Int) (w : World) :
    Calls Tryz.prog 118 #[.int .i64 a] w fun e w' => e = .returned (.bool (good a)) ∧ w' = w := by
  by_cases h0 : a < 0
  · have g : good a = false := (good_not a).2 (by omega)
    rw [g]
    go_enter Tryz.func118, Tryz.ntmps118
    go_wp2
    go_ret
    exact ⟨rfl, rfl⟩
  · by_cases h1 : 10000000000000 < a
    · have g : good a = false := (good_not a).2 (by omega)
      rw [g]
      go_enter Tryz.func118, Tryz.ntmps118
      go_wp2
      go_ret
      exact ⟨rfl, rfl⟩
    · have g : good a = true := (good_iff a).2 (by omega)
      rw [g]
      go_enter Tryz.func118, Tryz.ntmps118
      go_wp2
      go_ret
      exact ⟨rfl, rfl⟩

end Go.Proofs.YtpmnepihaljamaaGreatDoor.Ce
end

/-
  What claim.Line and the reference's Line answer, as contracts: for every service.
-/
section
set_option linter.unusedSimpArgs false
namespace Go.Proofs.YtpmnepihaljamaaGreatDoor.Cm
open Go.RowKit

theorem line9 {x : Ln} (h : codesB x = false) : lineE x = 9 := by simp [lineE, h]
theorem line7 {x : Ln} (h : codesB x = true) (h1 : Da.good x.date = false) : lineE x = 7 := by simp [lineE, h, h1]
theorem line3 {x : Ln} (h : codesB x = true) (h1 : Da.good x.date = true) (h2 : unitsB x.units = false) : lineE x = 3 := by simp [lineE, h, h1, h2]
theorem line8 {x : Ln} (h : codesB x = true) (h1 : Da.good x.date = true) (h2 : unitsB x.units = true) (h3 : moneyB x = false) : lineE x = 8 := by simp [lineE, h, h1, h2, h3]
theorem line0 {x : Ln} (h : codesB x = true) (h1 : Da.good x.date = true) (h2 : unitsB x.units = true) (h3 : moneyB x = true) : lineE x = 0 := by simp [lineE, h, h1, h2, h3]

set_option maxHeartbeats 1000000 in
theorem line_any (x : Ln) (m : Value) (w : World) (hm : TxAt All w m x.mods) (hx : LnOk x) (hT : Da.Tab w) :
    Calls Tryz.prog 108 #[lnv x m] w fun e w' => e = .returned (.int .i64 (lineE x)) ∧ Below w.heap.size w w' := by
  obtain ⟨i1, i2, i3, i4, z1, z2, z3⟩ := hx
  have HC := Lib.hid fun w => code_any x.proc 5 5 w (by omega)
  have HM := Lib.hid fun o => mods_any m x.mods (w.alloc o) (TxAt.move hm (Below.moves (below_alloc w o))) z3
  have HD := Lib.hid fun o => Da.good_any x.date (w.alloc o) (tab_below hT (below_alloc w o)) i1.1 i1.2
  have HB := Lib.hid fun o => below_alloc w o
  have H9 := Lib.hid (@line9 x)
  have H7 := Lib.hid (@line7 x)
  have H3 := Lib.hid (@line3 x)
  have H8 := Lib.hid (@line8 x)
  have H0 := Lib.hid (@line0 x)
  obtain ⟨a, c, rfl, -, -⟩ := TxAt.form hm
  unfold codesB at H9 H7 H3 H8 H0
  unfold unitsB at H3 H8 H0
  unfold moneyB at H8 H0
  clear hm hT i1 i2 i3 i4 z1 z2 z3
  generalize lineE x = R at *
  cases h1 : codeB x.proc 5 5
  · rw [h1] at HC
    rw [H9.out (by rw [h1]; rfl)]
    clear h1 H9 H7 H3 H8 H0
    go_enter Tryz.func108, Tryz.ntmps108
    go_wp2_with (go_at_call 130; refine (HC.out _).mono ?_; rintro e w' ⟨rfl, rfl⟩)
    go_ret
    exact ⟨rfl, HB.out _⟩
  cases h2 : modsB x.mods
  · rw [h1] at HC
    rw [h2] at HM
    rw [H9.out (by rw [h1, h2]; rfl)]
    clear h1 h2 H9 H7 H3 H8 H0
    go_enter Tryz.func108, Tryz.ntmps108
    go_wp2_with (first | (go_at_call 130; refine (HC.out _).mono ?_; rintro e w' ⟨rfl, rfl⟩) | (go_at_call 131; refine (HM.out _).mono ?_; rintro e w' ⟨rfl, rfl⟩))
    go_ret
    exact ⟨rfl, HB.out _⟩
  rw [h1] at HC
  rw [h2] at HM
  have hcd : (codeB x.proc 5 5 && modsB x.mods) = true := by rw [h1, h2]; rfl
  clear h1 h2
  cases h3 : Da.good x.date
  · rw [h3] at HD
    rw [H7.out hcd h3]
    clear hcd h3 H9 H7 H3 H8 H0
    go_enter Tryz.func108, Tryz.ntmps108
    go_wp2_with (first | (go_at_call 130; refine (HC.out _).mono ?_; rintro e w' ⟨rfl, rfl⟩) | (go_at_call 131; refine (HM.out _).mono ?_; rintro e w' ⟨rfl, rfl⟩) | (go_at_call 132; refine (HD.out _).mono ?_; rintro e w' ⟨rfl, rfl⟩))
    go_ret
    exact ⟨rfl, HB.out _⟩
  rw [h3] at HD
  by_cases h4 : x.units < 1
  · have d4 : decide (x.units < 1) = true := decide_eq_true h4
    rw [H3.out hcd h3 (by rw [decide_eq_false (by omega)]; rfl)]
    clear hcd h3 H9 H7 H3 H8 H0
    go_enter Tryz.func108, Tryz.ntmps108
    go_wp2_with (first | (go_at_call 130; refine (HC.out _).mono ?_; rintro e w' ⟨rfl, rfl⟩) | (go_at_call 131; refine (HM.out _).mono ?_; rintro e w' ⟨rfl, rfl⟩) | (go_at_call 132; refine (HD.out _).mono ?_; rintro e w' ⟨rfl, rfl⟩))
    go_ret
    exact ⟨rfl, HB.out _⟩
  have d4 : decide (x.units < 1) = false := decide_eq_false h4
  by_cases h5 : 9999 < x.units
  · have d5 : decide (9999 < x.units) = true := decide_eq_true h5
    rw [H3.out hcd h3 (by rw [decide_eq_false (p := x.units ≤ 9999) (by omega), Bool.and_false])]
    clear hcd h3 H9 H7 H3 H8 H0
    go_enter Tryz.func108, Tryz.ntmps108
    go_wp2_with (first | (go_at_call 130; refine (HC.out _).mono ?_; rintro e w' ⟨rfl, rfl⟩) | (go_at_call 131; refine (HM.out _).mono ?_; rintro e w' ⟨rfl, rfl⟩) | (go_at_call 132; refine (HD.out _).mono ?_; rintro e w' ⟨rfl, rfl⟩))
    go_ret
    exact ⟨rfl, HB.out _⟩
  have d5 : decide (9999 < x.units) = false := decide_eq_false h5
  have hu : (decide (1 ≤ x.units) && decide (x.units ≤ 9999)) = true := by rw [decide_eq_true (by omega), decide_eq_true (by omega)]; rfl
  have HGB := Lib.hid fun w => Ce.good_any x.billed w
  have HGP := Lib.hid fun w => Ce.good_any x.prior w
  cases h6 : Ce.good x.billed
  · rw [h6] at HGB
    rw [H8.out hcd h3 hu (by rw [h6]; rfl)]
    clear hcd h3 hu h6 H9 H7 H3 H8 H0 HGP
    go_enter Tryz.func108, Tryz.ntmps108
    go_wp2_with (first | (go_at_call 130; refine (HC.out _).mono ?_; rintro e w' ⟨rfl, rfl⟩) | (go_at_call 131; refine (HM.out _).mono ?_; rintro e w' ⟨rfl, rfl⟩) | (go_at_call 132; refine (HD.out _).mono ?_; rintro e w' ⟨rfl, rfl⟩) | (go_at_call 133; refine (HGB.out _).mono ?_; rintro e w' ⟨rfl, rfl⟩))
    go_ret
    exact ⟨rfl, HB.out _⟩
  cases h7 : Ce.good x.prior
  · rw [h6] at HGB
    rw [h7] at HGP
    rw [H8.out hcd h3 hu (by rw [h6, h7]; rfl)]
    clear hcd h3 hu H9 H7 H3 H8 H0 HGB HGP
    go_enter Tryz.func108, Tryz.ntmps108
    go_wp2_with (first | (go_at_call 130; refine (HC.out _).mono ?_; rintro e w' ⟨rfl, rfl⟩) | (go_at_call 131; refine (HM.out _).mono ?_; rintro e w' ⟨rfl, rfl⟩) | (go_at_call 132; refine (HD.out _).mono ?_; rintro e w' ⟨rfl, rfl⟩) | (go_at_call 133; refine (Ce.good_any _ _).mono ?_; rintro e w' ⟨rfl, rfl⟩))
    go_ret
    exact ⟨rfl, HB.out _⟩
  by_cases h8 : x.billed < x.prior
  · have d8 : decide (x.billed < x.prior) = true := decide_eq_true h8
    rw [H8.out hcd h3 hu (by rw [decide_eq_false (by omega), Bool.and_false])]
    clear hcd h3 hu H9 H7 H3 H8 H0 HGB HGP
    go_enter Tryz.func108, Tryz.ntmps108
    go_wp2_with (first | (go_at_call 130; refine (HC.out _).mono ?_; rintro e w' ⟨rfl, rfl⟩) | (go_at_call 131; refine (HM.out _).mono ?_; rintro e w' ⟨rfl, rfl⟩) | (go_at_call 132; refine (HD.out _).mono ?_; rintro e w' ⟨rfl, rfl⟩) | (go_at_call 133; refine (Ce.good_any _ _).mono ?_; rintro e w' ⟨rfl, rfl⟩))
    go_ret
    exact ⟨rfl, HB.out _⟩
  have d8 : decide (x.billed < x.prior) = false := decide_eq_false h8
  rw [H0.out hcd h3 hu (by rw [h6, h7, decide_eq_true (by omega)]; rfl)]
  clear hcd h3 hu H9 H7 H3 H8 H0 HGB HGP
  go_enter Tryz.func108, Tryz.ntmps108
  go_wp2_with (first | (go_at_call 130; refine (HC.out _).mono ?_; rintro e w' ⟨rfl, rfl⟩) | (go_at_call 131; refine (HM.out _).mono ?_; rintro e w' ⟨rfl, rfl⟩) | (go_at_call 132; refine (HD.out _).mono ?_; rintro e w' ⟨rfl, rfl⟩) | (go_at_call 133; refine (Ce.good_any _ _).mono ?_; rintro e w' ⟨rfl, rfl⟩))
  go_ret
  exact ⟨rfl, HB.out _⟩
end Go.Proofs.YtpmnepihaljamaaGreatDoor.Cm
end

/-
  What claim.lines answers, as a contract: the first service's error that may not be beside those ahead of it.
-/
section
set_option linter.unusedSimpArgs false
namespace Go.Proofs.YtpmnepihaljamaaGreatDoor.Cm
open Go.RowKit

theorem yearV_good {n : Int} (h : Da.good n = true) : Da.yearV n = Da.yr n := by simp [Da.yearV, h]

set_option maxHeartbeats 2000000 in
theorem lines_any (v : Value) (ls : List Ln) (w : World) (h : LnsAt All w v ls) (hz : ∀ x ∈ ls, LnOk x) (hT : Da.Tab w) :
    Calls Tryz.prog 76 #[v] w fun e w' => e = .returned (.int .i64 (linesE ls)) ∧ Below w.heap.size w w' := by
  have HV := Lib.hid h
  have HZ := Lib.hid hz
  have HT := Lib.hid hT
  obtain ⟨a, c, rfl, h1, h2⟩ := LnsAt.form h
  clear h hz hT
  unfold linesE
  obtain ⟨y, hy⟩ : ∃ y, y = Da.yr (ls.getD 0 ln0).date := ⟨_, rfl⟩
  rw [← hy]
  have HY := Lib.hid hy
  clear hy
  go_enter Tryz.func76, Tryz.ntmps76
  go_wp2
  go_step3
  go_wp2
  go_step3
  go_wp2
  go_loopg [7] (ls.length) (fun g i wr => ∃ k : Nat, k ≤ ls.length ∧ g = ls.length - k ∧ i = .int .i64 k ∧ Hid (Below w.heap.size w wr) ∧ Hid (firstE y (ls.drop k) = firstE y ls) ∧ Hid (∀ x, ls[0]? = some x → 0 < k → lineE x = 0))
  case atStart => exact ⟨0, Nat.zero_le _, rfl, rfl, Below.refl _ _, by rfl, fun _ _ h => absurd h (by omega)⟩
  case round =>
    obtain ⟨k, hk, hg, rfl, HB, HF, H0⟩ := hrel
    by_cases hlt : k < ls.length
    · have hL := LnsAt.move HV.out (Below.moves HB.out)
      have hpos : 0 < ls.length := by omega
      obtain ⟨b, o, m, rfl, hx, hc, hr⟩ := LnsAt.get hL k hlt
      obtain ⟨b', o', m0, e0, hx0, hc0, -⟩ := LnsAt.get hL 0 hpos
      injection e0 with e0
      injection e0 with e1 e2
      subst e1 e2
      have hzk := HZ.out _ (List.mem_of_getElem? hx)
      have hz0 := HZ.out _ (List.mem_of_getElem? hx0)
      have HC := Lib.hid (line_any ls[k] m wr hr hzk (tab_below HT.out HB.out))
      have HX : Hid (∀ w1, Below wr.heap.size wr w1 → w1.cell? ⟨b, o + k * 6 + 2, none⟩ = some (.int .i64 ls[k].date) ∧ w1.cell? ⟨b, o + 2, none⟩ = some (.int .i64 ls[0].date) ∧ Da.Tab w1) := fun w1 hb => by
        have hbl := World.block_lt_of_cell? wr _ hc.1
        refine ⟨(hc.of (hb.block _ hbl)).2.2.1, ?_, tab_below (tab_below HT.out HB.out) hb⟩
        have := (hc0.of (hb.block _ hbl)).2.2.1
        simpa using this
      obtain ⟨c0, c1, c2, c3, c4, c5⟩ := hc
      obtain ⟨am, cm, rfl, -, -⟩ := TxAt.form hr
      have hik := hzk.1
      have hi0 := hz0.1
      obtain ⟨l1, l2⟩ := hik
      obtain ⟨l3, l4⟩ := hi0
      have HBAD := Lib.hid (firstE_bad y ls k _ hx HF.out)
      have HYR := Lib.hid (firstE_yr y ls k _ hx HF.out)
      have HST := Lib.hid (firstE_step y ls k _ hx HF.out)
      by_cases he : lineE ls[k] = 0
      · have hgk := lineE_date he
        have hg0 : Da.good ls[0].date = true := by
          by_cases hk0 : k = 0
          · subst hk0; exact hgk
          · exact lineE_date (H0.out _ hx0 (by omega))
        have hy0 : y = Da.yr ls[0].date := by rw [HY.out, List.getD_eq_getElem?_getD, hx0]; rfl
        have H0' : Hid (∀ x, ls[0]? = some x → 0 < k + 1 → lineE x = 0) := fun x hx1 _ => by
          by_cases hk0 : k = 0
          · subst hk0
            rw [hx] at hx1
            rw [← Option.some.inj hx1]; exact he
          · exact H0.out x hx1 (by omega)
        rw [he] at HC
        have hyk := yearV_good hgk
        have hy0' := yearV_good hg0
        rw [← hy0] at hy0'
        clear hy0 hx hx0 hr hL hzk hz0 hc0 HBAD
        by_cases hyy : Da.yr ls[k].date = y
        · have HQ := Lib.hid (HST.out he hyy)
          have hbe : (Da.yearV ls[k].date == Da.yearV ls[0].date) = true := by rw [hyk, hy0', hyy]; simp
          clear hyy hyk hy0' hgk hg0 he
          go_wp2_with (first | (go_at_call 108; refine (HC.out).mono ?_; rintro e w1 ⟨rfl, hb⟩; obtain ⟨n1, n2, n3⟩ := HX.out _ hb; have HB2 := Lib.hid (below_trans HB.out hb); have HT1 := Lib.hid n3; clear n3 hb))
          go_quiet (first | (go_at_call 109; refine Calls.quiet_of_same (Da.year_any _ _ HT1.out (by assumption) (by assumption))))
          go_wp2
          go_roundg (ls.length - (k + 1))
          case rel => exact ⟨k + 1, by omega, rfl, by go_num, below_trans HB2.out (below_drewq ⟨_, rfl⟩), HQ.out, H0'.out⟩
          case measure => omega
        · have HQ := Lib.hid (HYR.out he hyy)
          have hbe : (Da.yearV ls[k].date == Da.yearV ls[0].date) = false := by rw [hyk, hy0']; simpa using hyy
          clear hyy hyk hy0' hgk hg0 he
          go_wp2_with (first | (go_at_call 108; refine (HC.out).mono ?_; rintro e w1 ⟨rfl, hb⟩; obtain ⟨n1, n2, n3⟩ := HX.out _ hb; have HB2 := Lib.hid (below_trans HB.out hb); have HT1 := Lib.hid n3; clear n3 hb))
          go_quiet (first | (go_at_call 109; refine Calls.quiet_of_same (Da.year_any _ _ HT1.out (by assumption) (by assumption))))
          go_wp2
          try rw [Exit.noGoto_ret]
          go_ret
          exact ⟨by rw [HQ.out]; rfl, below_trans HB2.out (below_drewq ⟨_, rfl⟩)⟩
      · have HQ := Lib.hid (HBAD.out he)
        have hbe : (lineE ls[k] != 0) = true := by simpa using he
        clear hx hx0 hr hL hzk hz0 hc0 HBAD he HX
        go_wp2_with (first | (go_at_call 108; refine (HC.out).mono ?_; rintro e w1 ⟨rfl, hb⟩; have HB2 := Lib.hid (below_trans HB.out hb); clear hb))
        try rw [Exit.noGoto_ret]
        go_ret
        exact ⟨by rw [HQ.out]; rfl, HB2.out⟩
    · have HQ := Lib.hid (firstE_end y ls k (by omega) HF.out)
      go_wp2
      try rw [Exit.noGoto_ret]
      go_ret
      exact ⟨by rw [HQ.out]; rfl, HB.out⟩
end Go.Proofs.YtpmnepihaljamaaGreatDoor.Cm
end
