/-
  For every two int64: of two amounts of as many letters the one whose text stands first is the lesser one: the law returns true. The listed tables are tied to the program's text.
-/
import Derived.Test.YtollmclcogmlbaaDoorRows
import Derived.WalkKit
import Derived.ProofKit
import Derived.OpenShut
import Derived.Below
import Derived.LaidMore
import Derived.Stop.Joined
import Derived.SevenTiedAt
import Derived.Test.YtollmclcogmlbaaDoorNOrder
import Derived.Test.YtollmclcogmlbaaDoorNLaid
import Derived.Test.YtollmclcogmlbaaDoorTie
import Derived.Test.YtollmclcogmlbaaDoorCards
import Derived.ShutString
namespace Go.Proofs.YtollmclcogmlbaaDoor.digitsOrders
open Go.ChangeShapes Go.WideShapes Go.ChangeAt Go.RowKit
open Go.ChangeMaps (open_string shut_string)
set_option linter.unusedVariables false      -- a walk need not use every 'w<i>' (that an integer argument fits its kind)

theorem own : ownKnob Tryd.prog.godebug = none := by kernel_rfl

/-! ### STEP 1: THE WALK: the Go text returns true. 'Grown w w'': the world has at most new blocks (Derived/RowKit3.lean). Part the cases AHEAD of 'go_enter' where a test parts the walk; take each callee by a contract of your own. -/
theorem walk (a0 : Int) (a1 : Int) (w0 : (Lit.int .i64 a0).wf = true) (w1 : (Lit.int .i64 a1).wf = true) (w : World) (hT : Tab w) :
    Calls Tryd.prog 7 #[.int .i64 a0, .int .i64 a1] w fun e w' => e = .returned (.bool true) ∧ Below w.heap.size w w' := by
  obtain ⟨l0, u0⟩ := bounds_i64 w0
  obtain ⟨l1, u1⟩ := bounds_i64 w1
  have hw : Grw w w := grw_refl w
  by_cases n0 : a0 < 0
  · go_enter Tryd.func7, Tryd.ntmps7
    go_wp2_with (first | (go_at_call 13; refine (works_any _ hT).mono ?_; rintro e w1 ⟨rfl, g1⟩; replace hw := grw_trans hw g1; replace hT := tab_grw hT g1; clear g1))
    go_ret
    exact ⟨rfl, hw⟩
  by_cases n1 : a1 < 0
  · go_enter Tryd.func7, Tryd.ntmps7
    go_wp2_with (first | (go_at_call 13; refine (works_any _ hT).mono ?_; rintro e w1 ⟨rfl, g1⟩; replace hw := grw_trans hw g1; replace hT := tab_grw hT g1; clear g1))
    go_ret
    exact ⟨rfl, hw⟩
  obtain ⟨a, ha⟩ : ∃ a : Nat, a0 = (a : Int) := ⟨a0.toNat, by omega⟩
  obtain ⟨b, hb⟩ : ∃ b : Nat, a1 = (b : Int) := ⟨a1.toNat, by omega⟩
  obtain ⟨x, HX⟩ : ∃ x : ByteArray, Hid ((⟨(moneyL a0).toArray⟩ : ByteArray) = x) := ⟨_, rfl⟩
  obtain ⟨y, HY⟩ : ∃ y : ByteArray, Hid ((⟨(moneyL a1).toArray⟩ : ByteArray) = y) := ⟨_, rfl⟩
  have lx : x.toList = moneyU a := by rw [← HX.out, str_list, ha, ml_nonneg]
  have ly : y.toList = moneyU b := by rw [← HY.out, str_list, hb, ml_nonneg]
  have sx : x.size = (moneyU a).length := by rw [Lib.size_eq, ← Lib.toList_data, lx]
  have sy : y.size = (moneyU b).length := by rw [Lib.size_eq, ← Lib.toList_data, ly]
  by_cases hq : x.size = y.size
  · obtain ⟨m1, m2⟩ := mu_less a b (by omega)
    rw [← lx, ← ly] at m1 m2
    have q1 : ((x.size : Int) != (y.size : Int)) = false := by rw [hq]; simp
    clear sx sy lx ly hq w0 w1
    rcases Nat.lt_trichotomy a b with h | h | h
    · rw [decide_eq_true h] at m1
      rw [decide_eq_false (by omega)] at m2
      have d1 : decide (a0 < a1) = true := by rw [decide_eq_true_eq]; omega
      have d2 : (a0 == a1) = false := by rw [beq_eq_false_iff_ne]; omega
      clear h ha hb
      go_enter Tryd.func7, Tryd.ntmps7
      go_wp2_with (first | (go_at_call 11; refine (money_at a0 l0 u0 _ hT x HX.out).mono ?_; rintro e w1 ⟨rfl, g1⟩; replace hw := grw_trans hw g1; replace hT := tab_grw hT g1; clear g1; clear HX; refine Hid.out ?_))
      refine Lib.hid ?_
      go_wp2_with (first | (go_at_call 11; refine (money_at a1 l1 u1 _ hT y HY.out).mono ?_; rintro e w1 ⟨rfl, g1⟩; replace hw := grw_trans hw g1; replace hT := tab_grw hT g1; clear g1; clear HY) | (go_at_call 13; refine (works_any _ hT).mono ?_; rintro e w1 ⟨rfl, g1⟩; replace hw := grw_trans hw g1; replace hT := tab_grw hT g1; clear g1))
      go_ret
      exact ⟨rfl, hw⟩
    · rw [decide_eq_false (by omega)] at m1
      rw [decide_eq_true h] at m2
      have d1 : decide (a0 < a1) = false := by rw [decide_eq_false_iff_not]; omega
      have d2 : (a0 == a1) = true := by rw [beq_iff_eq]; omega
      clear h ha hb
      go_enter Tryd.func7, Tryd.ntmps7
      go_wp2_with (first | (go_at_call 11; refine (money_at a0 l0 u0 _ hT x HX.out).mono ?_; rintro e w1 ⟨rfl, g1⟩; replace hw := grw_trans hw g1; replace hT := tab_grw hT g1; clear g1; clear HX; refine Hid.out ?_))
      refine Lib.hid ?_
      go_wp2_with (first | (go_at_call 11; refine (money_at a1 l1 u1 _ hT y HY.out).mono ?_; rintro e w1 ⟨rfl, g1⟩; replace hw := grw_trans hw g1; replace hT := tab_grw hT g1; clear g1; clear HY) | (go_at_call 13; refine (works_any _ hT).mono ?_; rintro e w1 ⟨rfl, g1⟩; replace hw := grw_trans hw g1; replace hT := tab_grw hT g1; clear g1))
      go_ret
      exact ⟨rfl, hw⟩
    · rw [decide_eq_false (by omega)] at m1
      rw [decide_eq_false (by omega)] at m2
      have d1 : decide (a0 < a1) = false := by rw [decide_eq_false_iff_not]; omega
      have d2 : (a0 == a1) = false := by rw [beq_eq_false_iff_ne]; omega
      clear h ha hb
      go_enter Tryd.func7, Tryd.ntmps7
      go_wp2_with (first | (go_at_call 11; refine (money_at a0 l0 u0 _ hT x HX.out).mono ?_; rintro e w1 ⟨rfl, g1⟩; replace hw := grw_trans hw g1; replace hT := tab_grw hT g1; clear g1; clear HX; refine Hid.out ?_))
      refine Lib.hid ?_
      go_wp2_with (first | (go_at_call 11; refine (money_at a1 l1 u1 _ hT y HY.out).mono ?_; rintro e w1 ⟨rfl, g1⟩; replace hw := grw_trans hw g1; replace hT := tab_grw hT g1; clear g1; clear HY) | (go_at_call 13; refine (works_any _ hT).mono ?_; rintro e w1 ⟨rfl, g1⟩; replace hw := grw_trans hw g1; replace hT := tab_grw hT g1; clear g1))
      go_ret
      exact ⟨rfl, hw⟩
  · have q1 : ((x.size : Int) != (y.size : Int)) = true := by rw [bne_iff_ne]; omega
    have o1 := mu_lens a b
    have o2 := mu_lens b a
    by_cases h : x.size < y.size
    · have d0 : decide (x.size < y.size) = true := by rw [decide_eq_true_eq]; omega
      have d1 : decide (a0 < a1) = true := by rw [decide_eq_true_eq]; have := o1 (by omega); omega
      clear o1 o2 sx sy lx ly hq h w0 w1 ha hb
      go_enter Tryd.func7, Tryd.ntmps7
      go_wp2_with (first | (go_at_call 11; refine (money_at a0 l0 u0 _ hT x HX.out).mono ?_; rintro e w1 ⟨rfl, g1⟩; replace hw := grw_trans hw g1; replace hT := tab_grw hT g1; clear g1; clear HX; refine Hid.out ?_))
      refine Lib.hid ?_
      go_wp2_with (first | (go_at_call 11; refine (money_at a1 l1 u1 _ hT y HY.out).mono ?_; rintro e w1 ⟨rfl, g1⟩; replace hw := grw_trans hw g1; replace hT := tab_grw hT g1; clear g1; clear HY) | (go_at_call 13; refine (works_any _ hT).mono ?_; rintro e w1 ⟨rfl, g1⟩; replace hw := grw_trans hw g1; replace hT := tab_grw hT g1; clear g1))
      go_ret
      exact ⟨rfl, hw⟩
    · have d0 : decide (x.size < y.size) = false := by rw [decide_eq_false_iff_not]; omega
      have d1 : decide (a0 < a1) = false := by rw [decide_eq_false_iff_not]; have := o2 (by omega); omega
      clear o1 o2 sx sy lx ly hq h w0 w1 ha hb
      go_enter Tryd.func7, Tryd.ntmps7
      go_wp2_with (first | (go_at_call 11; refine (money_at a0 l0 u0 _ hT x HX.out).mono ?_; rintro e w1 ⟨rfl, g1⟩; replace hw := grw_trans hw g1; replace hT := tab_grw hT g1; clear g1; clear HX; refine Hid.out ?_))
      refine Lib.hid ?_
      go_wp2_with (first | (go_at_call 11; refine (money_at a1 l1 u1 _ hT y HY.out).mono ?_; rintro e w1 ⟨rfl, g1⟩; replace hw := grw_trans hw g1; replace hT := tab_grw hT g1; clear g1; clear HY) | (go_at_call 13; refine (works_any _ hT).mono ?_; rintro e w1 ⟨rfl, g1⟩; replace hw := grw_trans hw g1; replace hT := tab_grw hT g1; clear g1))
      go_ret
      exact ⟨rfl, hw⟩

/-! ### THE ROW's STEP: WRITTEN OUT: LEAVE IT -/
set_option maxRecDepth 100000 in
theorem lifted (os : Os) (started : os.Started) (H : Type) (enc : TypeId × Value → H) :
    ReturnsInHanded {} Tryd.checked os 7 .any (fun w args => (Rows.digitsOrdersSpec.pre enc Tryd.prog Tryd.f7 [] false w args ∧ laidMetH Tryd.prog laidL w) ∧ sizedMet enc Tryd.prog Tryd.f7 (OpenSpec.ofChange Rows.digitsOrdersSpec) false w args) (Rows.digitsOrdersSpec.post enc Tryd.prog Tryd.f7 false true false false) := by
  refine returnsInHanded_of_change_and (C := Tryd.checked) (X := fun w _ => laidMetH Tryd.prog laidL w) (fun _ _ _ hh h => h.of_heap hh) own started (by kernel_rfl) Tryd.func7
    (ChangeSpec.witness_shaped (enc := enc) (C := Tryd.checked) (os := os) (X := fun w _ => laidMetH Tryd.prog laidL w) false (World.doorLaid Tryd.prog 400 os) #[.int .i64 0, .int .i64 0] 8 rfl (World.shaped_of_RefB (by kernel_rfl) (by kernel_rfl)) (by kernel_rfl) (by kernel_rfl) (by kernel_rfl) (door_met os _)) ?_
  intro W base args ds gs before hval0 hW _ _ hL _
  have hval : ∀ (j : Nat) t v, Tryd.f7.params[j]? = some t → args[j]? = some v → Value.okWide Tryd.prog W .any base t v := hval0
  have hW' := hW
  obtain ⟨p, q, hA0, hV, rfl, hfz, hnd⟩ := hW
  have hA : DataW.TrodAll enc Tryd.prog W 0 (fun _ => true) true Tryd.f7.params.toList args.toList ds p := hA0
  rw [Tryd.params7] at hA hval
  obtain ⟨v0, vs0, d0, ds0, p0, q0, hargs, rfl, rfl, h0, r0⟩ := trodAll_cons hA
  obtain ⟨v1, vs1, d1, ds1, p1, q1, rfl, rfl, rfl, h1, r1⟩ := trodAll_cons r0
  obtain ⟨rfl, rfl, rfl⟩ := trodAll_nil r1
  obtain rfl : args = #[v0, v1] := by cases args; simp_all
  obtain ⟨rfl, rfl⟩ := trodVars_none hV
  obtain ⟨a0, rfl, rfl, rfl, w0⟩ := open_int Tryd.underlying2 (hval 0 2 v0 rfl rfl) h0
  obtain ⟨a1, rfl, rfl, rfl, w1⟩ := open_int Tryd.underlying2 (hval 1 2 v1 rfl rfl) h1
  clear hA0 hval0
  simp only [List.append_nil] at hW'
  refine (walk a0 a1 w0 w1 W (of_laid hL)).mono fun e W' ⟨he, bel⟩ => ?_
  subst he
  exact ⟨_, rfl, _, _, _, [], [], [], hW', (trodAll_cons_mk (shut_bool Tryd.underlying4 _) trodAll_mk0), (trodAll_cons_mk (shut_int Tryd.underlying2 w0) (trodAll_cons_mk (shut_int Tryd.underlying2 w1) trodAll_mk0)), rfl, bel.frame _, fun h => by cases h⟩

theorem over : Rows.digitsOrdersRow.holds Tryd.pinned (OpenSpec.ofChange Rows.digitsOrdersSpec) :=
  OpenClaim.holds_of_wide 7 Tryd.f7 rfl rfl rfl rfl rfl rfl rfl ⟨rfl, rfl, rfl, rfl, rfl⟩ rfl rfl rfl rfl rfl (by kernel_rfl) Tryd.func7 (by kernel_rfl)
    (of_decide_eq_true (by kernel_rfl)) (by unfold Func.isWrapper; first | (rw [if_pos (by decide +kernel)]; kernel_rfl) | (rw [if_neg (by decide +kernel)]; exact ⟨rfl, rfl⟩))
    (fun os started H enc _ => lifted os started H enc)

/-- ████ THE STATEMENT ████ -/
theorem proved : Rows.DigitsOrdersSaid :=
  over
end Go.Proofs.YtollmclcogmlbaaDoor.digitsOrders
namespace Go.Proofs.YtollmclcogmlbaaDoor
theorem digitsOrders_holds : Rows.DigitsOrdersCardSaid :=
  Claim7.holds_tied_plain_at .later [] [.data, .data, .data] true (true, "bfc12cd362c365bbd82ac4e39799d8475ca28f2c5fd4c40c4f92336aa7adb358") false
    digitsOrders.proved (fun _ h => by cases h) (by kernel_rfl) (fun _ h => by cases h) digitsOrders_row_tie rfl ⟨rfl, rfl⟩ (by kernel_rfl) rfl
    (fun f fn hf hfn => by
      obtain rfl : f = 7 := Option.some.inj ((show Tryd.prog.funcNamed "leechbook/leechbooklaw03.DigitsOrders" = some 7 by kernel_rfl).symm.trans hf) |>.symm
      obtain rfl : fn = Tryd.f7 := (Option.some.inj (Tryd.func7.symm.trans hfn)).symm
      exact ⟨by kernel_rfl, fun j t ht => by
        rw [Tryd.params7] at ht
        have hm : t ∈ [2, 2] := by simpa using Array.mem_of_getElem? ht
        have hall : ([2, 2].all fun u => !Tryd.prog.wantsStandIn u) = true := by kernel_rfl
        exact (show Tryd.prog.wantsStandIn t = false by simpa using List.all_eq_true.1 hall t hm)⟩)
    (by kernel_rfl)
#print axioms digitsOrders_holds
end Go.Proofs.YtollmclcogmlbaaDoor
