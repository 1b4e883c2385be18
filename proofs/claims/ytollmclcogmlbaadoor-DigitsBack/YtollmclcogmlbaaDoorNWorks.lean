/-
  The law's own works: it returns true.
-/
import Derived.Test.YtollmclcogmlbaaDoorNRS
import Derived.Test.YtollmclcogmlbaaDoorNMon
namespace Go.Proofs.YtollmclcogmlbaaDoor
open Go.RowKit Go.Sort Go.Lib

theorem readSigned_at (s : ByteArray) (w : World) (hs : s.size ≤ maxLen) (v e : Int) (hv : sgV s.data.toList = v) (he : sgE s.data.toList = e) :
    Calls Tryd.prog 18 #[.string s] w fun r w' => r = .returned (.tuple #[.int .i64 v, .int .i64 e]) ∧ Grw w w' := by
  subst hv; subst he; exact readSigned_any s w hs
theorem readInt_at (s : ByteArray) (most : Int) (w : World) (hs : s.size ≤ maxLen) (v e : Int) (hv : riV s.data.toList most = v) (he : riE s.data.toList most = e) :
    Calls Tryd.prog 14 #[.string s, .int .i64 most] w fun r w' => r = .returned (.tuple #[.int .i64 v, .int .i64 e]) ∧ Grw w w' := by
  subst hv; subst he
  refine (readInt_any s most w hs).mono ?_
  rintro r w' ⟨rfl, rfl⟩
  exact ⟨rfl, grw_refl _⟩
theorem money_at (a : Int) (h0 : -9223372036854775808 ≤ a) (h1 : a ≤ 9223372036854775807) (w : World) (hT : Tab w) (t : ByteArray) (ht : (⟨(moneyL a).toArray⟩ : ByteArray) = t) :
    Calls Tryd.prog 11 #[.int .i64 a] w fun e w' => e = .returned (.string t) ∧ Grw w w' := by
  subst ht; exact money_any a h0 h1 w hT
theorem int_at (a : Int) (h0 : -9223372036854775808 ≤ a) (h1 : a ≤ 9223372036854775807) (w : World) (hT : Tab w) (t : ByteArray) (ht : (⟨(Lib.itoa a).toArray⟩ : ByteArray) = t) :
    Calls Tryd.prog 9 #[.int .i64 a] w fun e w' => e = .returned (.string t) ∧ Grw w w' := by
  subst ht; exact int_any a h0 h1 w hT
theorem x5 : sgV (⟨#[45, 48, 46, 48, 55]⟩ : ByteArray).data.toList = -7 := by kernel_rfl
theorem x6 : sgE (⟨#[45, 48, 46, 48, 55]⟩ : ByteArray).data.toList = 0 := by kernel_rfl
theorem x7 : riV (⟨#[52, 48, 55]⟩ : ByteArray).data.toList 3 = 407 := by kernel_rfl
theorem x8 : riE (⟨#[52, 48, 55]⟩ : ByteArray).data.toList 3 = 0 := by kernel_rfl
theorem sz (a : ByteArray) (h : a.size ≤ 5) : a.size ≤ maxLen := by unfold maxLen; omega
theorem m7 : (⟨(moneyL (-7)).toArray⟩ : ByteArray) = ⟨#[45, 48, 46, 48, 55]⟩ := by
  have : moneyL (-7) = [45, 48, 46, 48, 55] := by
    unfold moneyL moneyU
    rw [show ((-7 : Int)).natAbs / 100 = 0 from rfl, dec_small 0 (by omega)]
    rfl
  rw [this]
theorem i40 : (⟨(Lib.itoa (-40)).toArray⟩ : ByteArray) = ⟨#[45, 52, 48]⟩ := by
  have : Lib.itoa (-40) = [45, 52, 48] := by
    unfold Lib.itoa
    rw [show ((-40 : Int)).natAbs = 40 from rfl, Lib.decDigits_two (by omega) (by omega)]
    rfl
  rw [this]

set_option maxHeartbeats 1000000 in
theorem works_any (w : World) (hT : Tab w) :
    Calls Tryd.prog 13 #[] w fun e w' => e = .returned (.bool true) ∧ Grw w w' := by
  have hw : Grw w w := grw_refl w
  go_enter Tryd.func13, Tryd.ntmps13
  go_wp2_with (first
    | (go_at_call 16; refine (readMoney_any _ _ (sz _ (by decide))).mono ?_; rintro e w1 ⟨rfl, g1⟩; replace hw := grw_trans hw g1; replace hT := tab_grw hT g1; clear g1)
    | (go_at_call 18; refine (readSigned_at ⟨#[45, 48, 46, 48, 55]⟩ _ (sz _ (by decide)) _ _ x5 x6).mono ?_; rintro e w1 ⟨rfl, g1⟩; replace hw := grw_trans hw g1; replace hT := tab_grw hT g1; clear g1)
    | (go_at_call 14; refine (readInt_at ⟨#[52, 48, 55]⟩ 3 _ (sz _ (by decide)) _ _ x7 x8).mono ?_; rintro e w1 ⟨rfl, g1⟩; replace hw := grw_trans hw g1; replace hT := tab_grw hT g1; clear g1)
    | (go_at_call 11; refine (money_at (-7) (by omega) (by omega) _ hT _ m7).mono ?_; rintro e w1 ⟨rfl, g1⟩; replace hw := grw_trans hw g1; replace hT := tab_grw hT g1; clear g1)
    | (go_at_call 9; refine (int_at (-40) (by omega) (by omega) _ hT _ i40).mono ?_; rintro e w1 ⟨rfl, g1⟩; replace hw := grw_trans hw g1; replace hT := tab_grw hT g1; clear g1))
  go_ret
  exact ⟨rfl, hw⟩
end Go.Proofs.YtollmclcogmlbaaDoor
