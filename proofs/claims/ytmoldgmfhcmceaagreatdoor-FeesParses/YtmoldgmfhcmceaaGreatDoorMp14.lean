/-
  Texts put together (merge.py): LCode, DRef, DRefB, CAdds, CRefs.
-/
import Derived.RowKit3
import Derived.Below
import Derived.WalkKit
import Derived.Test.YtmoldgmfhcmceaaGreatDoorMp11
import Derived.Test.YtmoldgmfhcmceaaGreatDoorMp10
import Derived.Test.YtmoldgmfhcmceaaGreatDoorProg
import Derived.Test.YtmoldgmfhcmceaaGreatDoorMp2
/-
  What claim.codeSign, Code, name, mods and the reference's Code answer, as contracts: for every text; the world stands.
-/
section
set_option linter.unusedSimpArgs false
namespace Go.Proofs.YtmoldgmfhcmceaaGreatDoor.Cm
open Go.RowKit

theorem sign_any (c : UInt8) (w : World) :
    Calls Tryz.prog 96 #[.int .u8 c.toNat] w fun e w' => e = .returned (.bool (signB c)) ∧ w' = w := by
  unfold signB
  generalize c.toNat = n
  cases h1 : decide (65 ≤ n) <;> cases h2 : decide (n ≤ 90) <;> cases h3 : decide (48 ≤ n) <;> cases h4 : decide (n ≤ 57) <;>
  · simp only [decide_eq_true_eq, decide_eq_false_iff_not] at h1 h2 h3 h4
    first
      | omega
      | (go_enter Tryz.func96, Tryz.ntmps96
         go_wp2
         go_ret
         exact ⟨by first | rfl | (simp; omega), rfl⟩)

theorem all_take {p : UInt8 → Bool} (s : Tx) (k : Nat) (c : UInt8) (h : s[k]? = some c) (hk : (s.take k).all p = true) (hc : p c = true) : (s.take (k + 1)).all p = true := by
  rw [List.take_add_one, h]; simp_all
theorem all_not {p : UInt8 → Bool} (s : Tx) (k : Nat) (c : UInt8) (h : s[k]? = some c) (hc : p c = false) : s.all p = false := by
  rw [List.all_eq_false]
  exact ⟨c, List.mem_of_getElem? h, by simp [hc]⟩
theorem code_short (s : Tx) (f t : Int) (h : (s.length : Int) < f) : codeB s f t = false := by unfold codeB; rw [decide_eq_false (by omega)]; simp
theorem code_long (s : Tx) (f t : Int) (h : t < (s.length : Int)) : codeB s f t = false := by unfold codeB; rw [decide_eq_false (p := (s.length : Int) ≤ t) (by omega)]; simp
theorem code_in (s : Tx) (f t : Int) (h1 : f ≤ (s.length : Int)) (h2 : (s.length : Int) ≤ t) : codeB s f t = s.all signB := by unfold codeB; rw [decide_eq_true h1, decide_eq_true h2]; simp
theorem mk_at (s : Tx) (k : Nat) (hk : k < (mk s).size) : s[k]? = some (mk s)[k] := by
  have hl : k < s.length := by rw [← mk_size]; exact hk
  rw [List.getElem?_eq_getElem hl]
  rfl

set_option maxHeartbeats 1000000 in
theorem code_any (s : Tx) (f t : Int) (w : World) (hs : s.length ≤ 9223372036854775807) :
    Calls Tryz.prog 77 #[.string (mk s), .int .i64 f, .int .i64 t] w fun e w' => e = .returned (.bool (codeB s f t)) ∧ w' = w := by
  have hz := mk_size s
  have HS := Lib.hid hs
  have HAT := Lib.hid (mk_at s)
  have HSH := Lib.hid (code_short s f t)
  have HLO := Lib.hid (code_long s f t)
  have HIN := Lib.hid (code_in s f t)
  generalize codeB s f t = R at *
  rw [← hz] at hs HSH HLO HIN
  have HZ := Lib.hid hz
  clear hz
  generalize mk s = X at *
  by_cases h1 : (X.size : Int) < f
  · rw [HSH.out h1]
    go_enter Tryz.func77, Tryz.ntmps77
    go_wp2
    go_ret
    exact ⟨rfl, rfl⟩
  by_cases h2 : t < (X.size : Int)
  · rw [HLO.out h2]
    go_enter Tryz.func77, Tryz.ntmps77
    go_wp2
    go_ret
    exact ⟨rfl, rfl⟩
  rw [HIN.out (by omega) (by omega)]
  go_enter Tryz.func77, Tryz.ntmps77
  go_wp2
  go_loopg [20] (X.size) (fun g i wr => ∃ k : Nat, k ≤ X.size ∧ g = X.size - k ∧ i = .int .i64 k ∧ wr = w ∧ Hid ((s.take k).all signB = true))
  case atStart => exact ⟨0, Nat.zero_le _, rfl, rfl, rfl, rfl⟩
  case round =>
    obtain ⟨k, hk, hg, rfl, hw, HA⟩ := hrel
    rw [hw]
    clear hw wr
    by_cases hlt : k < X.size
    · have HC := Lib.hid (HAT.out k hlt)
      cases hq : signB X[k]
      · go_wp2_with (go_at_call 96; refine (sign_any _ _).mono ?_; rintro e w' ⟨rfl, rfl⟩)
        go_ret
        exact ⟨by rw [all_not s k _ HC.out hq]; rfl, rfl⟩
      · go_wp2_with (go_at_call 96; refine (sign_any _ _).mono ?_; rintro e w' ⟨rfl, rfl⟩)
        go_roundg (X.size - (k + 1))
        case rel => exact ⟨k + 1, by omega, rfl, by go_num, rfl, all_take s k _ HC.out HA.out hq⟩
        case measure => omega
    · have hall : (s.take k) = s := List.take_of_length_le (by rw [← HZ.out]; omega)
      rw [hall] at HA
      clear hall
      go_wp2
      go_ret
      exact ⟨by rw [HA.out]; rfl, rfl⟩

set_option maxHeartbeats 1000000 in
theorem rcode_any (s : Tx) (f t : Int) (w : World) (hs : s.length ≤ 9223372036854775807) :
    Calls Tryz.prog 46 #[.string (mk s), .int .i64 f, .int .i64 t] w fun e w' => e = .returned (.bool (codeB s f t)) ∧ w' = w := by
  have hz := mk_size s
  have HS := Lib.hid hs
  have HAT := Lib.hid (mk_at s)
  have HSH := Lib.hid (code_short s f t)
  have HLO := Lib.hid (code_long s f t)
  have HIN := Lib.hid (code_in s f t)
  generalize codeB s f t = R at *
  rw [← hz] at hs HSH HLO HIN
  have HZ := Lib.hid hz
  clear hz
  generalize mk s = X at *
  by_cases h1 : (X.size : Int) < f
  · rw [HSH.out h1]
    go_enter Tryz.func46, Tryz.ntmps46
    go_wp2
    go_ret
    exact ⟨rfl, rfl⟩
  by_cases h2 : t < (X.size : Int)
  · rw [HLO.out h2]
    go_enter Tryz.func46, Tryz.ntmps46
    go_wp2
    go_ret
    exact ⟨rfl, rfl⟩
  rw [HIN.out (by omega) (by omega)]
  go_enter Tryz.func46, Tryz.ntmps46
  go_wp2
  go_loopg [7] (X.size) (fun g i wr => ∃ k : Nat, k ≤ X.size ∧ g = X.size - k ∧ i = .int .i64 k ∧ wr = w ∧ Hid ((s.take k).all signB = true))
  case atStart => exact ⟨0, Nat.zero_le _, rfl, rfl, rfl, rfl⟩
  case round =>
    obtain ⟨k, hk, hg, rfl, hw, HA⟩ := hrel
    rw [hw]
    clear hw wr
    by_cases hlt : k < X.size
    · have HC := Lib.hid (HAT.out k hlt)
      have HQ : Hid (signB X[k] = ((decide (65 ≤ X[k].toNat) && decide (X[k].toNat ≤ 90)) || (decide (48 ≤ X[k].toNat) && decide (X[k].toNat ≤ 57)))) := rfl
      by_cases g1 : 65 ≤ X[k].toNat ∧ X[k].toNat ≤ 90
      · obtain ⟨g1, g2⟩ := g1
        have g3 : 48 ≤ X[k].toNat := by omega
        have g4 : ¬ X[k].toNat ≤ 57 := by omega
        have d4 : decide ((X[k].toNat : Int) ≤ 57) = false := decide_eq_false (by omega)
        have d2 : decide ((X[k].toNat : Int) ≤ 90) = true := decide_eq_true (by omega)
        have hq := HQ.out
        rw [decide_eq_true g1, decide_eq_true g2] at hq
        have HQ2 := Lib.hid hq
        clear hq
        go_wp2
        go_roundg (X.size - (k + 1))
        case rel => exact ⟨k + 1, by omega, rfl, by go_num, rfl, all_take s k _ HC.out HA.out HQ2.out⟩
        case measure => omega
      by_cases g3 : 48 ≤ X[k].toNat ∧ X[k].toNat ≤ 57
      · obtain ⟨g3, g4⟩ := g3
        have g5 : ¬ 65 ≤ X[k].toNat := by omega
        have d4 : decide ((X[k].toNat : Int) ≤ 57) = true := decide_eq_true (by omega)
        have hq := HQ.out
        rw [decide_eq_true g3, decide_eq_true g4, Bool.and_self, Bool.or_true] at hq
        have HQ2 := Lib.hid hq
        clear hq g1
        go_wp2
        go_roundg (X.size - (k + 1))
        case rel => exact ⟨k + 1, by omega, rfl, by go_num, rfl, all_take s k _ HC.out HA.out HQ2.out⟩
        case measure => omega
      have HQ2 : Hid (signB X[k] = false) := by
        show _ = _
        rw [HQ.out]
        simp
        omega
      by_cases g5 : 65 ≤ X[k].toNat
      · have g6 : ¬ X[k].toNat ≤ 90 := by omega
        have g7 : 48 ≤ X[k].toNat := by omega
        have g8 : ¬ X[k].toNat ≤ 57 := by omega
        have d4 : decide ((X[k].toNat : Int) ≤ 57) = false := decide_eq_false (by omega)
        have d2 : decide ((X[k].toNat : Int) ≤ 90) = false := decide_eq_false (by omega)
        clear g1 g3
        go_wp2
        go_ret
        exact ⟨by rw [all_not s k _ HC.out HQ2.out]; rfl, rfl⟩
      · by_cases g7 : 48 ≤ X[k].toNat
        · have g8 : ¬ X[k].toNat ≤ 57 := by omega
          have d4 : decide ((X[k].toNat : Int) ≤ 57) = false := decide_eq_false (by omega)
          clear g1 g3
          go_wp2
          go_ret
          exact ⟨by rw [all_not s k _ HC.out HQ2.out]; rfl, rfl⟩
        · clear g1 g3
          go_wp2
          go_ret
          exact ⟨by rw [all_not s k _ HC.out HQ2.out]; rfl, rfl⟩
    · have hall : (s.take k) = s := List.take_of_length_le (by rw [← HZ.out]; omega)
      rw [hall] at HA
      clear hall
      go_wp2
      go_ret
      exact ⟨by rw [HA.out]; rfl, rfl⟩

theorem mods_take (l : List Tx) (k : Nat) (c : Tx) (h : l[k]? = some c) (hk : ((l.take k).all fun x => codeB x 2 2) = true) (hc : codeB c 2 2 = true) : ((l.take (k + 1)).all fun x => codeB x 2 2) = true := by
  rw [List.take_add_one, h]; simp_all
theorem mods_not (l : List Tx) (k : Nat) (c : Tx) (h : l[k]? = some c) (hc : codeB c 2 2 = false) : modsB l = false := by
  unfold modsB
  have : (l.all fun x => codeB x 2 2) = false := by
    rw [List.all_eq_false]
    exact ⟨c, List.mem_of_getElem? h, by simp [hc]⟩
  rw [this]; simp
theorem mods_many (l : List Tx) (h : ¬ l.length ≤ 4) : modsB l = false := by unfold modsB; rw [decide_eq_false h]; rfl
theorem mods_all (l : List Tx) (k : Nat) (h : l.length ≤ 4) (hk : l.length ≤ k) (ha : ((l.take k).all fun x => codeB x 2 2) = true) : modsB l = true := by
  rw [List.take_of_length_le hk] at ha
  unfold modsB; rw [decide_eq_true h, ha]; rfl

end Go.Proofs.YtmoldgmfhcmceaaGreatDoor.Cm
end

/-
  What the reference's leap, long and Good answer, as contracts. long lays a new table each time: the world grows.
-/
section
namespace Go.Proofs.YtmoldgmfhcmceaaGreatDoor.Da
open Go.RowKit

theorem grown_trans {a b c : World} (h : Grown a b) (k : Grown b c) : Grown a c :=
  ⟨World.keptBut_trans h.1 (World.keptBut_mono (fun _ f => f.elim) k.1), fun x => (k.2.1 x).trans (h.2.1 x), Nat.le_trans h.2.2 k.2.2⟩
theorem tab_grown {w w' : World} (h : Tab w) (g : Grown w w') : Tab w' := fun i hi => by
  have c := h i hi
  have hb : (2 : Nat) < w.heap.size := World.block_lt_of_cell? w ⟨2, i, none⟩ c
  rw [g.1.cell hb (fun f => f)]
  exact c

theorem rleap_any (y : Int) (w : World) (h : 0 ≤ y) :
    Calls Tryz.prog 89 #[.int .i64 y] w fun e w' => e = .returned (.bool (leapB y)) ∧ w' = w := by
  cases h3 : (y % 400 == 0)
  · cases h2 : (y % 100 == 0)
    · have e : leapB y = (y % 4 == 0) := by simp [leapB, h3, bne, h2]
      go_enter Tryz.func89, Tryz.ntmps89
      go_wp2
      go_ret
      exact ⟨by rw [e]; rfl, rfl⟩
    · have e : leapB y = false := by simp [leapB, h3, bne, h2]
      go_enter Tryz.func89, Tryz.ntmps89
      go_wp2
      go_ret
      exact ⟨by rw [e]; rfl, rfl⟩
  · have e : leapB y = true := by simp [leapB, h3]
    go_enter Tryz.func89, Tryz.ntmps89
    go_wp2
    go_ret
    exact ⟨by rw [e]; rfl, rfl⟩

set_option maxHeartbeats 1000000 in
theorem long_any (y m : Int) (w : World) (h : 0 ≤ y) (h1 : 1 ≤ m) (h2 : m ≤ 12) :
    Calls Tryz.prog 71 #[.int .i64 y, .int .i64 m] w fun e w' => e = .returned (.int .i64 (lenM y m)) ∧ Grown w w' := by
  rcases month_cases m h1 h2 with rfl | rfl | rfl | rfl | rfl | rfl | rfl | rfl | rfl | rfl | rfl | rfl
  case inr.inl =>
    cases b : leapB y
    · go_enter Tryz.func71, Tryz.ntmps71
      go_wp2_with (go_at_call 89; refine (rleap_any _ _ h).mono ?_; rintro e w' ⟨rfl, rfl⟩)
      go_ret
      exact ⟨by simp [lenM, b, lenT, lens], (Grown.refl _).alloc _ _⟩
    · go_enter Tryz.func71, Tryz.ntmps71
      go_wp2_with (go_at_call 89; refine (rleap_any _ _ h).mono ?_; rintro e w' ⟨rfl, rfl⟩)
      go_ret
      exact ⟨by simp [lenM, b], (Grown.refl _).alloc _ _⟩
  all_goals
    go_enter Tryz.func71, Tryz.ntmps71
    go_wp2
    go_ret
    exact ⟨rfl, (Grown.refl _).alloc _ _⟩

theorem good_ref (n : Int) (h1 : 10101 ≤ n) (h2 : n ≤ 99991231) : good n = true ↔ (1 ≤ n / 100 % 100 ∧ n / 100 % 100 ≤ 12 ∧ 1 ≤ n % 100 ∧ n % 100 ≤ lenM (n / 10000) (n / 100 % 100)) := by
  rw [good_iff, yr_eq n (by omega), mo_eq n (by omega), da_eq n (by omega)]
  constructor
  · exact fun h => h.2.2
  · exact fun h => ⟨by omega, by omega, h⟩
theorem good_refn (n : Int) (h1 : 10101 ≤ n) (h2 : n ≤ 99991231) (h : ¬ (1 ≤ n / 100 % 100 ∧ n / 100 % 100 ≤ 12 ∧ 1 ≤ n % 100 ∧ n % 100 ≤ lenM (n / 10000) (n / 100 % 100))) : good n = false := by
  rw [← good_ref n h1 h2] at h
  simpa using h

set_option maxHeartbeats 400000 in
theorem rgood_any (n : Int) (w : World) :
    Calls Tryz.prog 47 #[.int .i64 n] w fun e w' => e = .returned (.bool (good n)) ∧ Grown w w' := by
  by_cases c1 : n < 10101
  · have g : good n = false := by
      cases g : good n
      · rfl
      · have := good_bd n g; omega
    rw [g]
    go_enter Tryz.func47, Tryz.ntmps47
    go_wp2
    go_ret
    exact ⟨rfl, Grown.refl _⟩
  by_cases c2 : n > 99991231
  · have g : good n = false := by
      cases g : good n
      · rfl
      · have := good_bd n g; omega
    rw [g]
    go_enter Tryz.func47, Tryz.ntmps47
    go_wp2
    go_ret
    exact ⟨rfl, Grown.refl _⟩
  have G := good_refn n (by omega) (by omega)
  by_cases c3 : n / 100 % 100 < 1
  · have g : good n = false := G (by omega)
    rw [g]
    clear G
    go_enter Tryz.func47, Tryz.ntmps47
    go_wp2
    go_ret
    exact ⟨rfl, Grown.refl _⟩
  by_cases c4 : n / 100 % 100 > 12
  · have g : good n = false := G (by omega)
    rw [g]
    clear G
    go_enter Tryz.func47, Tryz.ntmps47
    go_wp2
    go_ret
    exact ⟨rfl, Grown.refl _⟩
  by_cases c5 : n % 100 ≥ 1
  · by_cases c6 : n % 100 ≤ lenM (n / 10000) (n / 100 % 100)
    · have g : good n = true := (good_ref n (by omega) (by omega)).2 (by omega)
      have d6 : decide (n % 100 ≤ lenM (n / 10000) (n / 100 % 100)) = true := by simpa using c6
      rw [g]
      clear G
      go_enter Tryz.func47, Tryz.ntmps47
      go_wp2_with (go_at_call 71; refine (long_any _ _ _ (by omega) (by omega) (by omega)).mono ?_; rintro e w' ⟨rfl, hg⟩)
      go_ret
      exact ⟨rfl, hg⟩
    · have g : good n = false := G (by omega)
      have d6 : decide (n % 100 ≤ lenM (n / 10000) (n / 100 % 100)) = false := by simpa using c6
      rw [g]
      clear G
      go_enter Tryz.func47, Tryz.ntmps47
      go_wp2_with (go_at_call 71; refine (long_any _ _ _ (by omega) (by omega) (by omega)).mono ?_; rintro e w' ⟨rfl, hg⟩)
      go_ret
      exact ⟨rfl, hg⟩
  · have g : good n = false := G (by omega)
    rw [g]
    clear G
    go_enter Tryz.func47, Tryz.ntmps47
    go_wp2
    go_ret
    exact ⟨rfl, Grown.refl _⟩

end Go.Proofs.YtmoldgmfhcmceaaGreatDoor.Da
end

/-
  What the reference's long and Good answer, as contracts over 'Below' (DRef has them over 'Grown').
-/
section
namespace Go.Proofs.YtmoldgmfhcmceaaGreatDoor.Da
open Go.RowKit

set_option maxHeartbeats 1000000 in
theorem long_b (y m : Int) (w : World) (h : 0 ≤ y) (h1 : 1 ≤ m) (h2 : m ≤ 12) :
    Calls Tryz.prog 71 #[.int .i64 y, .int .i64 m] w fun e w' => e = .returned (.int .i64 (lenM y m)) ∧ Below w.heap.size w w' := by
  rcases month_cases m h1 h2 with rfl | rfl | rfl | rfl | rfl | rfl | rfl | rfl | rfl | rfl | rfl | rfl
  case inr.inl =>
    cases b : leapB y
    · go_enter Tryz.func71, Tryz.ntmps71
      go_wp2_with (go_at_call 89; refine (rleap_any _ _ h).mono ?_; rintro e w' ⟨rfl, rfl⟩)
      go_ret
      exact ⟨by simp [lenM, b, lenT, lens], (Below.refl _ _).alloc (Nat.le_refl _) _⟩
    · go_enter Tryz.func71, Tryz.ntmps71
      go_wp2_with (go_at_call 89; refine (rleap_any _ _ h).mono ?_; rintro e w' ⟨rfl, rfl⟩)
      go_ret
      exact ⟨by simp [lenM, b], (Below.refl _ _).alloc (Nat.le_refl _) _⟩
  all_goals
    go_enter Tryz.func71, Tryz.ntmps71
    go_wp2
    go_ret
    exact ⟨rfl, (Below.refl _ _).alloc (Nat.le_refl _) _⟩

set_option maxHeartbeats 400000 in
theorem rgood_b (n : Int) (w : World) :
    Calls Tryz.prog 47 #[.int .i64 n] w fun e w' => e = .returned (.bool (good n)) ∧ Below w.heap.size w w' := by
  by_cases c1 : n < 10101
  · have g : good n = false := by
      cases g : good n
      · rfl
      · have := good_bd n g; omega
    rw [g]
    go_enter Tryz.func47, Tryz.ntmps47
    go_wp2
    go_ret
    exact ⟨rfl, Below.refl _ _⟩
  by_cases c2 : n > 99991231
  · have g : good n = false := by
      cases g : good n
      · rfl
      · have := good_bd n g; omega
    rw [g]
    go_enter Tryz.func47, Tryz.ntmps47
    go_wp2
    go_ret
    exact ⟨rfl, Below.refl _ _⟩
  have G := good_refn n (by omega) (by omega)
  by_cases c3 : n / 100 % 100 < 1
  · have g : good n = false := G (by omega)
    rw [g]
    clear G
    go_enter Tryz.func47, Tryz.ntmps47
    go_wp2
    go_ret
    exact ⟨rfl, Below.refl _ _⟩
  by_cases c4 : n / 100 % 100 > 12
  · have g : good n = false := G (by omega)
    rw [g]
    clear G
    go_enter Tryz.func47, Tryz.ntmps47
    go_wp2
    go_ret
    exact ⟨rfl, Below.refl _ _⟩
  by_cases c5 : n % 100 ≥ 1
  · by_cases c6 : n % 100 ≤ lenM (n / 10000) (n / 100 % 100)
    · have g : good n = true := (good_ref n (by omega) (by omega)).2 (by omega)
      have d6 : decide (n % 100 ≤ lenM (n / 10000) (n / 100 % 100)) = true := by simpa using c6
      rw [g]
      clear G
      go_enter Tryz.func47, Tryz.ntmps47
      go_wp2_with (go_at_call 71; refine (long_b _ _ _ (by omega) (by omega) (by omega)).mono ?_; rintro e w' ⟨rfl, hg⟩)
      go_ret
      exact ⟨rfl, hg⟩
    · have g : good n = false := G (by omega)
      have d6 : decide (n % 100 ≤ lenM (n / 10000) (n / 100 % 100)) = false := by simpa using c6
      rw [g]
      clear G
      go_enter Tryz.func47, Tryz.ntmps47
      go_wp2_with (go_at_call 71; refine (long_b _ _ _ (by omega) (by omega) (by omega)).mono ?_; rintro e w' ⟨rfl, hg⟩)
      go_ret
      exact ⟨rfl, hg⟩
  · have g : good n = false := G (by omega)
    rw [g]
    clear G
    go_enter Tryz.func47, Tryz.ntmps47
    go_wp2
    go_ret
    exact ⟨rfl, Below.refl _ _⟩

end Go.Proofs.YtmoldgmfhcmceaaGreatDoor.Da
end

/-
  What cents.Good and Add answer, as contracts: for every int64.
-/
section
namespace Go.Proofs.YtmoldgmfhcmceaaGreatDoor.Ce
open Go.RowKit

theorem good_any (a : Int) (w : World) :
    Calls Tryz.prog 55 #[.int .i64 a] w fun e w' => e = .returned (.bool (good a)) ∧ w' = w := by
  by_cases h0 : 0 ≤ a
  · by_cases h1 : a ≤ 10000000000000
    · have g : good a = true := (good_iff a).2 ⟨h0, h1⟩
      rw [g]
      go_enter Tryz.func55, Tryz.ntmps55
      go_wp2
      go_ret
      exact ⟨rfl, rfl⟩
    · have g : good a = false := (good_not a).2 (by omega)
      rw [g]
      go_enter Tryz.func55, Tryz.ntmps55
      go_wp2
      go_ret
      exact ⟨rfl, rfl⟩
  · have g : good a = false := (good_not a).2 (by omega)
    rw [g]
    go_enter Tryz.func55, Tryz.ntmps55
    go_wp2
    go_ret
    exact ⟨rfl, rfl⟩

end Go.Proofs.YtmoldgmfhcmceaaGreatDoor.Ce
end

/-
  What the reference's Good answers, as contracts: for every int64.
-/
section
namespace Go.Proofs.YtmoldgmfhcmceaaGreatDoor.Ce
open Go.RowKit

theorem rgood_any (a : Int) (w : World) :
    Calls Tryz.prog 48 #[.int .i64 a] w fun e w' => e = .returned (.bool (good a)) ∧ w' = w := by
  by_cases h0 : a < 0
  · have g : good a = false := (good_not a).2 (by omega)
    rw [g]
    go_enter Tryz.func48, Tryz.ntmps48
    go_wp2
    go_ret
    exact ⟨rfl, rfl⟩
  · by_cases h1 : 10000000000000 < a
    · have g : good a = false := (good_not a).2 (by omega)
      rw [g]
      go_enter Tryz.func48, Tryz.ntmps48
      go_wp2
      go_ret
      exact ⟨rfl, rfl⟩
    · have g : good a = true := (good_iff a).2 (by omega)
      rw [g]
      go_enter Tryz.func48, Tryz.ntmps48
      go_wp2
      go_ret
      exact ⟨rfl, rfl⟩

end Go.Proofs.YtmoldgmfhcmceaaGreatDoor.Ce
end
