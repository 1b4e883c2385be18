/-
  For every text: what is read as an amount is written in one way, which is read as that amount; a number in just the way that it stood: the law returns true. The listed tables are tied to the program's text.
-/
import Derived.Test.YtollmclcogmlbaaDoorRows
import Derived.WalkKit
import Derived.ProofKit
import Derived.OpenShut
import Derived.Below
import Derived.LaidMore
import Derived.Stop.Joined
import Derived.SevenTiedAt
import Derived.Test.YtollmclcogmlbaaDoorNMore
import Derived.Test.YtollmclcogmlbaaDoorNLaid
import Derived.Test.YtollmclcogmlbaaDoorTie
import Derived.Test.YtollmclcogmlbaaDoorCards
import Derived.ShutString
namespace Go.Proofs.YtollmclcogmlbaaDoor.digitsOnce
open Go.ChangeShapes Go.WideShapes Go.ChangeAt Go.RowKit
open Go.ChangeMaps (open_string shut_string)
set_option linter.unusedVariables false      -- a walk need not use every 'w<i>' (that an integer argument fits its kind)

theorem own : ownKnob Tryd.prog.godebug = none := by kernel_rfl

/-! ### STEP 1: THE WALK: the Go text returns true. 'Grown w w'': the world has at most new blocks (Derived/RowKit3.lean). Part the cases AHEAD of 'go_enter' where a test parts the walk; take each callee by a contract of your own. -/
theorem walk (a0 : ByteArray) (w0 : a0.size ≤ maxLen) (w : World) (hT : Tab w) :
    Calls Tryd.prog 6 #[.string a0] w fun e w' => e = .returned (.bool true) ∧ Below w.heap.size w w' := by
  have hw : Grw w w := grw_refl w
  cases hr : riOk a0.data.toList 18
  · obtain ⟨v1, v2⟩ := ri_none _ _ hr
    clear hr
    cases ho : mnOk a0.data.toList
    · obtain ⟨e1, e2⟩ := mn_none _ ho
      clear ho
      go_enter Tryd.func6, Tryd.ntmps6
      go_wp2_with (first | (go_at_call 14; refine (readInt_any _ 18 _ w0).mono ?_; rintro e w' ⟨rfl, rfl⟩) | (go_at_call 16; refine (readMoney_any a0 _ w0).mono ?_; rintro e w1 ⟨rfl, g1⟩; replace hw := grw_trans hw g1; replace hT := tab_grw hT g1; clear g1; refine Hid.out ?_))
      refine Lib.hid ?_
      go_wp2_with (first | (go_at_call 13; refine (works_any _ hT).mono ?_; rintro e w1 ⟨rfl, g1⟩; replace hw := grw_trans hw g1; replace hT := tab_grw hT g1; clear g1))
      go_ret
      exact ⟨rfl, hw⟩
    · obtain ⟨-, e2⟩ := mn_some _ ho
      have hm := mn_bd a0.data.toList
      obtain ⟨k1, k2⟩ := mn_moneyL (mnV a0.data.toList) hm.1 hm.2
      have HB := Lib.hid (money_len (mnV a0.data.toList) (by omega) (by omega))
      have K1 := Lib.hid k1
      have K2 := Lib.hid k2
      obtain ⟨M, HM⟩ : ∃ M : ByteArray, Hid ((⟨(moneyL (mnV a0.data.toList)).toArray⟩ : ByteArray) = M) := ⟨_, rfl⟩
      obtain ⟨hm1, hm2⟩ := hm
      clear k1 k2 ho
      go_enter Tryd.func6, Tryd.ntmps6
      go_wp2_with (first | (go_at_call 14; refine (readInt_any _ 18 _ w0).mono ?_; rintro e w' ⟨rfl, rfl⟩) | (go_at_call 16; refine (readMoney_any a0 _ w0).mono ?_; rintro e w1 ⟨rfl, g1⟩; replace hw := grw_trans hw g1; replace hT := tab_grw hT g1; clear g1; refine Hid.out ?_))
      refine Lib.hid ?_
      go_wp2_with (first | (go_at_call 11; refine (money_at _ (by omega) (by omega) _ hT M HM.out).mono ?_; rintro e w1 ⟨rfl, g1⟩; replace hw := grw_trans hw g1; replace hT := tab_grw hT g1; clear g1) | (go_at_call 16; refine (readMoney_s M _ _ (mnV a0.data.toList) 0 HM.out.symm (by have := HB.out; omega) K1.out K2.out).mono ?_; rintro e w1 ⟨rfl, g1⟩; replace hw := grw_trans hw g1; replace hT := tab_grw hT g1; clear g1) | (go_at_call 13; refine (works_any _ hT).mono ?_; rintro e w1 ⟨rfl, g1⟩; replace hw := grw_trans hw g1; replace hT := tab_grw hT g1; clear g1))
      go_ret
      exact ⟨rfl, hw⟩
  · obtain ⟨v1, v2⟩ := ri_some _ _ hr
    have hN : numL a0.data.toList < 1000000000000000000 := by
      have := ri_bd a0.data.toList 18
      rw [v1] at this
      omega
    have hq : (Lib.itoa (numL a0.data.toList : Int) == a0.toList) = true := by
      have hc : canon a0.data.toList = true := by
        unfold riOk at hr
        simp only [Bool.and_eq_true] at hr
        exact hr.1.1
      rw [Lib.itoa_nonneg, Lib.toList_data, canon_dec _ hc]; simp
    have dn : decide ((numL a0.data.toList : Int) < 0) = false := by rw [decide_eq_false_iff_not]; omega
    clear hr
    cases ho : mnOk a0.data.toList
    · obtain ⟨e1, e2⟩ := mn_none _ ho
      clear ho
      go_enter Tryd.func6, Tryd.ntmps6
      go_wp2_with (first | (go_at_call 14; refine (readInt_any _ 18 _ w0).mono ?_; rintro e w' ⟨rfl, rfl⟩) | (go_at_call 16; refine (readMoney_any a0 _ w0).mono ?_; rintro e w1 ⟨rfl, g1⟩; replace hw := grw_trans hw g1; replace hT := tab_grw hT g1; clear g1; refine Hid.out ?_) | (go_at_call 9; refine (int_any _ (by omega) (by omega) _ hT).mono ?_; rintro e w1 ⟨rfl, g1⟩; replace hw := grw_trans hw g1; replace hT := tab_grw hT g1; clear g1))
      refine Lib.hid ?_
      go_wp2_with (first | (go_at_call 13; refine (works_any _ hT).mono ?_; rintro e w1 ⟨rfl, g1⟩; replace hw := grw_trans hw g1; replace hT := tab_grw hT g1; clear g1))
      go_ret
      exact ⟨rfl, hw⟩
    · obtain ⟨-, e2⟩ := mn_some _ ho
      have hm := mn_bd a0.data.toList
      obtain ⟨k1, k2⟩ := mn_moneyL (mnV a0.data.toList) hm.1 hm.2
      have HB := Lib.hid (money_len (mnV a0.data.toList) (by omega) (by omega))
      have K1 := Lib.hid k1
      have K2 := Lib.hid k2
      obtain ⟨M, HM⟩ : ∃ M : ByteArray, Hid ((⟨(moneyL (mnV a0.data.toList)).toArray⟩ : ByteArray) = M) := ⟨_, rfl⟩
      obtain ⟨hm1, hm2⟩ := hm
      clear k1 k2 ho
      go_enter Tryd.func6, Tryd.ntmps6
      go_wp2_with (first | (go_at_call 14; refine (readInt_any _ 18 _ w0).mono ?_; rintro e w' ⟨rfl, rfl⟩) | (go_at_call 16; refine (readMoney_any a0 _ w0).mono ?_; rintro e w1 ⟨rfl, g1⟩; replace hw := grw_trans hw g1; replace hT := tab_grw hT g1; clear g1; refine Hid.out ?_) | (go_at_call 9; refine (int_any _ (by omega) (by omega) _ hT).mono ?_; rintro e w1 ⟨rfl, g1⟩; replace hw := grw_trans hw g1; replace hT := tab_grw hT g1; clear g1))
      refine Lib.hid ?_
      go_wp2_with (first | (go_at_call 11; refine (money_at _ (by omega) (by omega) _ hT M HM.out).mono ?_; rintro e w1 ⟨rfl, g1⟩; replace hw := grw_trans hw g1; replace hT := tab_grw hT g1; clear g1) | (go_at_call 16; refine (readMoney_s M _ _ (mnV a0.data.toList) 0 HM.out.symm (by have := HB.out; omega) K1.out K2.out).mono ?_; rintro e w1 ⟨rfl, g1⟩; replace hw := grw_trans hw g1; replace hT := tab_grw hT g1; clear g1) | (go_at_call 13; refine (works_any _ hT).mono ?_; rintro e w1 ⟨rfl, g1⟩; replace hw := grw_trans hw g1; replace hT := tab_grw hT g1; clear g1))
      go_ret
      exact ⟨rfl, hw⟩

/-! ### THE ROW's STEP: WRITTEN OUT: LEAVE IT -/
set_option maxRecDepth 100000 in
theorem lifted (os : Os) (started : os.Started) (H : Type) (enc : TypeId × Value → H) :
    ReturnsInHanded {} Tryd.checked os 6 .any (fun w args => (Rows.digitsOnceSpec.pre enc Tryd.prog Tryd.f6 [] false w args ∧ laidMetH Tryd.prog laidL w) ∧ sizedMet enc Tryd.prog Tryd.f6 (OpenSpec.ofChange Rows.digitsOnceSpec) false w args) (Rows.digitsOnceSpec.post enc Tryd.prog Tryd.f6 false true false false) := by
  refine returnsInHanded_of_change_and (C := Tryd.checked) (X := fun w _ => laidMetH Tryd.prog laidL w) (fun _ _ _ hh h => h.of_heap hh) own started (by kernel_rfl) Tryd.func6
    (ChangeSpec.witness_shaped (enc := enc) (C := Tryd.checked) (os := os) (X := fun w _ => laidMetH Tryd.prog laidL w) false (World.doorLaid Tryd.prog 400 os) #[.string ByteArray.empty] 8 rfl (World.shaped_of_RefB (by kernel_rfl) (by kernel_rfl)) (by kernel_rfl) (by kernel_rfl) (by kernel_rfl) (door_met os _)) ?_
  intro W base args ds gs before hval0 hW _ _ hL _
  have hval : ∀ (j : Nat) t v, Tryd.f6.params[j]? = some t → args[j]? = some v → Value.okWide Tryd.prog W .any base t v := hval0
  have hW' := hW
  obtain ⟨p, q, hA0, hV, rfl, hfz, hnd⟩ := hW
  have hA : DataW.TrodAll enc Tryd.prog W 0 (fun _ => true) true Tryd.f6.params.toList args.toList ds p := hA0
  rw [Tryd.params6] at hA hval
  obtain ⟨v0, vs0, d0, ds0, p0, q0, hargs, rfl, rfl, h0, r0⟩ := trodAll_cons hA
  obtain ⟨rfl, rfl, rfl⟩ := trodAll_nil r0
  obtain rfl : args = #[v0] := by cases args; simp_all
  obtain ⟨rfl, rfl⟩ := trodVars_none hV
  obtain ⟨a0, rfl, rfl, rfl, w0⟩ := open_string Tryd.underlying9 (hval 0 9 v0 rfl rfl) h0
  clear hA0 hval0
  simp only [List.append_nil] at hW'
  refine (walk a0 w0 W (of_laid hL)).mono fun e W' ⟨he, bel⟩ => ?_
  subst he
  exact ⟨_, rfl, _, _, _, [], [], [], hW', (trodAll_cons_mk (shut_bool Tryd.underlying4 _) trodAll_mk0), (trodAll_cons_mk (shut_string Tryd.underlying9 w0) trodAll_mk0), rfl, bel.frame _, fun h => by cases h⟩

theorem over : Rows.digitsOnceRow.holds Tryd.pinned (OpenSpec.ofChange Rows.digitsOnceSpec) :=
  OpenClaim.holds_of_wide 6 Tryd.f6 rfl rfl rfl rfl rfl rfl rfl ⟨rfl, rfl, rfl, rfl, rfl⟩ rfl rfl rfl rfl rfl (by kernel_rfl) Tryd.func6 (by kernel_rfl)
    (of_decide_eq_true (by kernel_rfl)) (by unfold Func.isWrapper; first | (rw [if_pos (by decide +kernel)]; kernel_rfl) | (rw [if_neg (by decide +kernel)]; exact ⟨rfl, rfl⟩))
    (fun os started H enc _ => lifted os started H enc)

/-- ████ THE STATEMENT ████ -/
theorem proved : Rows.DigitsOnceSaid :=
  over
end Go.Proofs.YtollmclcogmlbaaDoor.digitsOnce
namespace Go.Proofs.YtollmclcogmlbaaDoor
theorem digitsOnce_holds : Rows.DigitsOnceCardSaid :=
  Claim7.holds_tied_plain_at .later [] [.data, .data, .data] true (true, "bfc12cd362c365bbd82ac4e39799d8475ca28f2c5fd4c40c4f92336aa7adb358") false
    digitsOnce.proved (fun _ h => by cases h) (by kernel_rfl) (fun _ h => by cases h) digitsOnce_row_tie rfl ⟨rfl, rfl⟩ (by kernel_rfl) rfl
    (fun f fn hf hfn => by
      obtain rfl : f = 6 := Option.some.inj ((show Tryd.prog.funcNamed "leechbook/leechbooklaw03.DigitsOnce" = some 6 by kernel_rfl).symm.trans hf) |>.symm
      obtain rfl : fn = Tryd.f6 := (Option.some.inj (Tryd.func6.symm.trans hfn)).symm
      exact ⟨by kernel_rfl, fun j t ht => by
        rw [Tryd.params6] at ht
        have hm : t ∈ [9] := by simpa using Array.mem_of_getElem? ht
        have hall : ([9].all fun u => !Tryd.prog.wantsStandIn u) = true := by kernel_rfl
        exact (show Tryd.prog.wantsStandIn t = false by simpa using List.all_eq_true.1 hall t hm)⟩)
    (by kernel_rfl)
#print axioms digitsOnce_holds
end Go.Proofs.YtollmclcogmlbaaDoor
