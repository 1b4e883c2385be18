/-
  What digits.Money answers, as a contract: for every int64.
-/
import Derived.Test.YtollmclcogmlbaaDoorNRefInt
namespace Go.Proofs.YtollmclcogmlbaaDoor
open Go.RowKit Go.Sort Go.Lib

theorem formatUint_int (v : Int) (u : Nat) (h : v = (u : Int)) (hu : u < 18446744073709551616) (w : World) (hT : Tab w) (l : List UInt8) (hl : decDigits u = l) :
    Calls Tryd.prog 21 #[.int .u64 v, .int .i64 10] w fun e w' => e = .returned (.string ⟨l.toArray⟩) ∧ Grw w w' := by
  subst h; subst hl
  exact formatUint_any u hu w hT
theorem cents_one (u : Nat) (h : u % 100 < 10) : ∃ c, decDigits (u % 100) = [c] ∧ two u = [48, c] := by
  refine ⟨_, dec_small _ h, ?_⟩
  unfold two
  rw [show u / 10 % 10 = 0 by omega, show u % 10 = u % 100 by omega]
  rfl
theorem cents_two (u : Nat) (h : ¬ u % 100 < 10) : ∃ c d, decDigits (u % 100) = [c, d] ∧ two u = [c, d] := by
  refine ⟨UInt8.ofNat (48 + u % 100 / 10), UInt8.ofNat (48 + u % 100 % 10), Lib.decDigits_two h (by omega), ?_⟩
  unfold two
  rw [show u / 10 % 10 = u % 100 / 10 by omega, show u % 10 = u % 100 % 10 by omega]
theorem money_pos (u : Nat) (D t : List UInt8) (hD : decDigits (u / 100) = D) (ht : two u = t) : moneyL (u : Int) = D ++ 46 :: t := by
  unfold moneyL moneyU
  rw [if_neg (by omega), List.nil_append, show ((u : Int)).natAbs = u by omega, hD, ht]
theorem money_neg (u : Nat) (h : 1 ≤ u) (D t : List UInt8) (hD : decDigits (u / 100) = D) (ht : two u = t) : moneyL (-(u : Int)) = 45 :: (D ++ 46 :: t) := by
  unfold moneyL moneyU
  rw [if_pos (by omega), show (-(u : Int)).natAbs = u by omega, hD, ht]
  rfl

set_option maxHeartbeats 2000000 in
theorem money_any (a : Int) (h0 : -9223372036854775808 ≤ a) (h1 : a ≤ 9223372036854775807) (w : World) (hT : Tab w) :
    Calls Tryd.prog 11 #[.int .i64 a] w fun e w' => e = .returned (.string ⟨(moneyL a).toArray⟩) ∧ Grw w w' := by
  have hw : Grw w w := grw_refl w
  by_cases hn : a < 0
  · obtain ⟨u, rfl⟩ : ∃ u : Nat, a = -(u : Int) := ⟨a.natAbs, by omega⟩
    have hu1 : 1 ≤ u := by omega
    have hu : u < 18446744073709551616 := by omega
    have hwr : IntKind.u64.wrap (-IntKind.u64.wrap (-(u : Int))) = (u : Int) := by rw [IntKind.wrap_u64, IntKind.wrap_u64]; omega
    obtain ⟨D, hD⟩ : ∃ D, Hid (decDigits (u / 100) = D) := ⟨_, rfl⟩
    have hDl : D.length ≤ 20 := by rw [← hD.out]; exact dec_len _ 20 (by omega) (by omega)
    by_cases hc : u % 100 < 10
    · obtain ⟨c, ec, et⟩ := cents_one u hc
      have H : Hid ((⟨(moneyL (-(u : Int))).toArray⟩ : ByteArray) = ⟨#[45]⟩ ++ ⟨D.toArray⟩ ++ ⟨#[46]⟩ ++ (⟨#[48]⟩ ++ ⟨[c].toArray⟩)) := by
        show _ = _
        rw [money_neg u hu1 D _ hD.out et]
        apply ByteArray.ext; simp
      have EC := Lib.hid ec
      clear ec et
      go_enter Tryd.func11, Tryd.ntmps11
      go_wp2_with (first | (go_at_call 21; refine (formatUint_int _ (u % 100) (by omega) (by omega) _ hT _ EC.out).mono ?_; rintro e w1 ⟨rfl, g1⟩; replace hw := grw_trans hw g1; replace hT := tab_grw hT g1; clear g1 EC) | (go_at_call 21; refine (formatUint_int _ (u / 100) (by omega) (by omega) _ hT _ hD.out).mono ?_; rintro e w1 ⟨rfl, g1⟩; replace hw := grw_trans hw g1; replace hT := tab_grw hT g1; clear g1))
      go_ret
      exact ⟨by rw [H.out]; first | rfl | simp, hw⟩
    · obtain ⟨c, d, ec, et⟩ := cents_two u hc
      have H : Hid ((⟨(moneyL (-(u : Int))).toArray⟩ : ByteArray) = ⟨#[45]⟩ ++ ⟨D.toArray⟩ ++ ⟨#[46]⟩ ++ ⟨[c, d].toArray⟩) := by
        show _ = _
        rw [money_neg u hu1 D _ hD.out et]
        apply ByteArray.ext; simp
      have EC := Lib.hid ec
      clear ec et
      go_enter Tryd.func11, Tryd.ntmps11
      go_wp2_with (first | (go_at_call 21; refine (formatUint_int _ (u % 100) (by omega) (by omega) _ hT _ EC.out).mono ?_; rintro e w1 ⟨rfl, g1⟩; replace hw := grw_trans hw g1; replace hT := tab_grw hT g1; clear g1 EC) | (go_at_call 21; refine (formatUint_int _ (u / 100) (by omega) (by omega) _ hT _ hD.out).mono ?_; rintro e w1 ⟨rfl, g1⟩; replace hw := grw_trans hw g1; replace hT := tab_grw hT g1; clear g1))
      go_ret
      exact ⟨by rw [H.out]; first | rfl | simp, hw⟩
  · obtain ⟨u, rfl⟩ : ∃ u : Nat, a = (u : Int) := ⟨a.natAbs, by omega⟩
    have hu : u < 18446744073709551616 := by omega
    obtain ⟨D, hD⟩ : ∃ D, Hid (decDigits (u / 100) = D) := ⟨_, rfl⟩
    have hDl : D.length ≤ 20 := by rw [← hD.out]; exact dec_len _ 20 (by omega) (by omega)
    by_cases hc : u % 100 < 10
    · obtain ⟨c, ec, et⟩ := cents_one u hc
      have H : Hid ((⟨(moneyL (u : Int)).toArray⟩ : ByteArray) = ⟨#[]⟩ ++ ⟨D.toArray⟩ ++ ⟨#[46]⟩ ++ (⟨#[48]⟩ ++ ⟨[c].toArray⟩)) := by
        show _ = _
        rw [money_pos u D _ hD.out et]
        apply ByteArray.ext; simp
      have EC := Lib.hid ec
      clear ec et
      go_enter Tryd.func11, Tryd.ntmps11
      go_wp2_with (first | (go_at_call 21; refine (formatUint_int _ (u % 100) (by omega) (by omega) _ hT _ EC.out).mono ?_; rintro e w1 ⟨rfl, g1⟩; replace hw := grw_trans hw g1; replace hT := tab_grw hT g1; clear g1 EC) | (go_at_call 21; refine (formatUint_int _ (u / 100) (by omega) (by omega) _ hT _ hD.out).mono ?_; rintro e w1 ⟨rfl, g1⟩; replace hw := grw_trans hw g1; replace hT := tab_grw hT g1; clear g1))
      go_ret
      exact ⟨by rw [H.out]; first | rfl | simp, hw⟩
    · obtain ⟨c, d, ec, et⟩ := cents_two u hc
      have H : Hid ((⟨(moneyL (u : Int)).toArray⟩ : ByteArray) = ⟨#[]⟩ ++ ⟨D.toArray⟩ ++ ⟨#[46]⟩ ++ ⟨[c, d].toArray⟩) := by
        show _ = _
        rw [money_pos u D _ hD.out et]
        apply ByteArray.ext; simp
      have EC := Lib.hid ec
      clear ec et
      go_enter Tryd.func11, Tryd.ntmps11
      go_wp2_with (first | (go_at_call 21; refine (formatUint_int _ (u % 100) (by omega) (by omega) _ hT _ EC.out).mono ?_; rintro e w1 ⟨rfl, g1⟩; replace hw := grw_trans hw g1; replace hT := tab_grw hT g1; clear g1 EC) | (go_at_call 21; refine (formatUint_int _ (u / 100) (by omega) (by omega) _ hT _ hD.out).mono ?_; rintro e w1 ⟨rfl, g1⟩; replace hw := grw_trans hw g1; replace hT := tab_grw hT g1; clear g1))
      go_ret
      exact ⟨by rw [H.out]; first | rfl | simp, hw⟩
end Go.Proofs.YtollmclcogmlbaaDoor
