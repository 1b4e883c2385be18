/-
  PlanBack holds for every plan: one that may be, printed, is parsed again as what it was.
-/
import Derived.WalkKit
import Derived.ProofKit
import Derived.OpenShut
import Derived.ShutString
import Derived.Below
import Derived.Carry
import Derived.LaidMore
import Derived.Stop.Joined
import Derived.SevenTiedAt
import Derived.Deep.DeepCutAuto
import Derived.Test.YtoibhgoaibjopaaDoorRows
import Derived.Test.YtoibhgoaibjopaaDoorTie
import Derived.Test.YtoibhgoaibjopaaDoorCards
import Derived.Test.YtoibhgoaibjopaaDoorMb1
import Derived.Test.YtoibhgoaibjopaaDoorMb2
import Derived.Test.YtoibhgoaibjopaaDoorMb3
import Derived.Test.YtoibhgoaibjopaaDoorMb4
import Derived.Test.YtoibhgoaibjopaaDoorMb5
import Derived.Test.YtoibhgoaibjopaaDoorMb6
import Derived.Test.YtoibhgoaibjopaaDoorMb7
import Derived.Test.YtoibhgoaibjopaaDoorMb8
import Derived.Test.YtoibhgoaibjopaaDoorMb9
import Derived.Test.YtoibhgoaibjopaaDoorMb10
import Derived.Test.YtoibhgoaibjopaaDoorMb11
import Derived.Test.YtoibhgoaibjopaaDoorMb12
import Derived.Test.YtoibhgoaibjopaaDoorMb13
import Derived.Test.YtoibhgoaibjopaaDoorMb14
import Derived.Test.YtoibhgoaibjopaaDoorMb15
import Derived.Test.YtoibhgoaibjopaaDoorMb16
import Derived.Test.YtoibhgoaibjopaaDoorMb17
import Derived.Test.YtoibhgoaibjopaaDoorMb18
import Derived.Test.YtoibhgoaibjopaaDoorMb19
import Derived.Test.YtoibhgoaibjopaaDoorMb20
import Derived.Test.YtoibhgoaibjopaaDoorMb21
import Derived.Test.YtoibhgoaibjopaaDoorMb22
import Derived.Test.YtoibhgoaibjopaaDoorMb23
import Derived.Test.YtoibhgoaibjopaaDoorMb24
import Derived.Test.YtoibhgoaibjopaaDoorMb25
import Derived.Test.YtoibhgoaibjopaaDoorMb26
import Derived.Test.YtoibhgoaibjopaaDoorMb27
import Derived.Test.YtoibhgoaibjopaaDoorMb28
import Derived.Test.YtoibhgoaibjopaaDoorMb29
import Derived.Test.YtoibhgoaibjopaaDoorMb30
import Derived.Test.YtoibhgoaibjopaaDoorMb31
import Derived.Test.YtoibhgoaibjopaaDoorMb32
namespace Go.Proofs.YtoibhgoaibjopaaDoor.planBack
open Go.ChangeShapes Go.WideShapes Go.ChangeAt Go.RowKit
open Pl
open Wo (Wd WdsAt box_cell box_two keepB heap_far)
open Go.ChangeMaps (open_string)
set_option linter.unusedVariables false
set_option linter.unusedSimpArgs false


theorem own : ownKnob Tryd.prog.godebug = none := by kernel_rfl

/-! ### the walk: the law returns true -/
set_option maxHeartbeats 8000000 in
theorem walk (w : World) (x0 : Pn) (m0 : Value) (h0 : RusAt All w m0 x0.rules) (z0 : PnOk x0) (hT : Nu.Tab w) :
    Calls Tryd.prog 3 #[pnv x0 m0] w fun e w' => e = .returned (.bool true) ∧ Below w.heap.size w w' := by
  have HWK := Lib.hid fun W (hW : Below w.heap.size w W) => works_any W (Nu.tab_grw hT hW)
  have hb := below_alloc w (.cells #[.int .i64 x0.mode, .int .i64 x0.indDed, .int .i64 x0.famDed, .int .i64 x0.indOop, .int .i64 x0.famOop, m0] 24)
  have HB := Lib.hid hb
  have HX := Lib.hid (heap_alloc_new w (.cells #[.int .i64 x0.mode, .int .i64 x0.indDed, .int .i64 x0.famDed, .int .i64 x0.indOop, .int .i64 x0.famOop, m0] 24))
  have HLt := Lib.hid (light_any x0 m0 _ (h0.grw hb))
  have HM := Lib.hid fun W (hW : Below w.heap.size w W) => h0.grw hW
  have HTb := Lib.hid fun W (hW : Below w.heap.size w W) => Nu.tab_grw hT hW
  obtain ⟨ma, mc, rfl, -, -, -⟩ := h0.form
  obtain ⟨p0, p1, p2, p3, p4, p5⟩ := bsix HX.out
  clear hb h0 z0 hT
  go_enter Tryd.func3, Tryd.ntmps3
  go_wp2_with fail
  go_at_call 4
  refine HLt.out.mono ?_
  rintro e w1 ⟨⟨b, rfl, hlight⟩, hb1⟩
  have HB1 := Lib.hid (below_trans HB.out hb1)
  have HX1 := Lib.hid (keepB HX.out hb1)
  clear p0 p1 p2 p3 p4 p5 hb1 HB HX HLt
  obtain ⟨p0, p1, p2, p3, p4, p5⟩ := bsix HX1.out
  cases b
  · go_wp2_with (go_at_call 5; refine (HWK.out _ HB1.out).mono ?_; rintro x w9 ⟨rfl, hb9⟩; have HB9 := Lib.hid (below_trans HB1.out hb9); clear hb9)
    go_ret
    exact ⟨rfl, HB9.out⟩
  · have hcnt := hlight rfl
    have HPr := Lib.hid (print_any x0 _ w1 (HM.out _ HB1.out) (HTb.out _ HB1.out) (fun h => by have := planW_size h; omega))
    by_cases hE : prE x0 = 0
    case neg =>
      have hV : prV x0 = [] := by unfold prV; rw [if_neg hE]
      rw [hV] at HPr
      have hne : (prE x0 != 0) = true := by simpa using hE
      have HPr2 : Hid (Calls Tryd.prog 6 #[pnv x0 (.slice ma x0.rules.length mc)] w1 fun e w' => e = .returned (.tuple #[.string ⟨#[]⟩, .int .i64 (prE x0)]) ∧ Below w1.heap.size w1 w') := HPr.out
      clear hE hV hlight hcnt HPr
      generalize prE x0 = E at *
      go_wp2_with (first | (go_at_call 6; refine HPr2.out.mono ?_; rintro x w2 ⟨rfl, hb2⟩; have HB2 := Lib.hid (below_trans HB1.out hb2); clear hb2) | (go_at_call 5; refine (HWK.out _ HB2.out).mono ?_; rintro x w9 ⟨rfl, hb9⟩; have HB9 := Lib.hid (below_trans HB2.out hb9); clear hb9))
      go_ret
      exact ⟨rfl, HB9.out⟩
    have hback := text_back hE
    have hlen := pr_len hE
    have hpb : planB x0 = true := by
      unfold prE at hE
      split at hE
      · assumption
      · cases hE
    rw [hE] at HPr
    have HP4 := Lib.hid fun (W : World) => parse_ok (s := mk (prV x0)) W (by rw [mk_size]; unfold maxLen; omega) (by rw [mk_list]; exact hback)
    have HSm := Lib.hid fun (W : World) m m' (hm : RusAt All W m x0.rules) (hm' : RusAt All W m' x0.rules) => same_plan x0 m m' W (rules_ok hpb) hm hm'
    clear hback hlen hpb hE hlight hcnt
    generalize mk (prV x0) = T at *
    go_wp2_with fail
    go_at_call 6
    refine HPr.out.mono ?_
    rintro x w2 ⟨rfl, hb2⟩
    have HB2 := Lib.hid (below_trans HB1.out hb2)
    have HX2 := Lib.hid (keepB HX1.out hb2)
    clear hb2 HX1 HB1 HPr p0 p1 p2 p3 p4 p5
    go_wp2_with fail
    go_at_call 7
    refine (HP4.out _).mono ?_
    rintro x w4 ⟨⟨a', c', rfl, hr⟩, hb4⟩
    obtain ⟨hb5, hp5, hf5⟩ := box_pf w4 (.int .i64 x0.mode) (.int .i64 x0.indDed) (.int .i64 x0.famDed) (.int .i64 x0.indOop) (.int .i64 x0.famOop) (.slice a' x0.rules.length c') (.int .i64 0) (.int .i64 0)
    have hb45 := below_trans hb4 hb5
    have HB5 := Lib.hid (below_trans HB2.out hb45)
    have HX5 := Lib.hid (keepB HX2.out hb45)
    have HQ5 := Lib.hid (hr.grw hb5)
    have HP5 := Lib.hid hp5
    have HF5 := Lib.hid hf5
    clear hb4 hb5 hb45 hp5 hf5 hr HB2 HX2 HP4
    go_upto_region 7 with fail
    generalize (w4.alloc (.cells #[.int .i64 x0.mode, .int .i64 x0.indDed, .int .i64 x0.famDed, .int .i64 x0.indOop, .int .i64 x0.famOop, .slice a' x0.rules.length c'] 24)).alloc (.cells #[.int .i64 0, .int .i64 0] 31) = w5 at *
    generalize hq4 : w4.heap.size = q4 at *
    obtain ⟨q5, hq5⟩ : ∃ q5, q5 = q4 + 1 := ⟨_, rfl⟩
    rw [← hq5] at HF5 ⊢
    clear hq4 hq5
    obtain ⟨p0, p1, p2, p3, p4, p5⟩ := bsix HX5.out
    obtain ⟨g0, g1, g2, g3, g4, g5⟩ := bsix HP5.out
    obtain ⟨y0, y1⟩ := pair_cells HF5.out
    have HS5 := Lib.hid (HSm.out _ _ _ (HM.out _ HB5.out) HQ5.out)
    go_wp2_with (first | (go_at_call 8; refine HS5.out.mono ?_; rintro x w8 ⟨rfl, hb8⟩; have HB8 := Lib.hid (below_trans HB5.out hb8); clear hb8) | (go_at_call 5; refine (HWK.out _ HB8.out).mono ?_; rintro x w9 ⟨rfl, hb9⟩; have HB9 := Lib.hid (below_trans HB8.out hb9); clear hb9))
    go_ret
    exact ⟨rfl, HB9.out⟩

/-! ### the row's step -/
theorem laidOut : laidOutB Tryd.prog = true := by kernel_rfl
set_option maxRecDepth 100000 in
theorem lifted (os : Os) (started : os.Started) (H : Type) (enc : TypeId × Value → H) :
    ReturnsInHanded {} Tryd.checked os 3 .any (fun w args => (Rows.planBackSpec.pre enc Tryd.prog Tryd.f3 [] false w args ∧ laidMetH Tryd.prog laidL w) ∧ sizedMet enc Tryd.prog Tryd.f3 (OpenSpec.ofChange Rows.planBackSpec) false w args) (Rows.planBackSpec.post enc Tryd.prog Tryd.f3 false true false false) := by
  refine lift own started (by kernel_rfl) Tryd.func3
    (ChangeSpec.witness_shaped (enc := enc) (C := Tryd.checked) (os := os) (X := fun w _ => laidMetH Tryd.prog laidL w) false (World.laidAll Tryd.prog os laidL) #[.agg #[.int .i64 0, .int .i64 0, .int .i64 0, .int .i64 0, .int .i64 0, .slice none 0 0]] 8 (World.laidAll_os _ _ _)
      (World.shaped_of_ZipB (by kernel_rfl) (by kernel_rfl)) (by kernel_rfl) (by kernel_rfl) (by kernel_rfl)
      (by rw [MakeChecks.laidMetH_plain _ _ _ (by kernel_rfl)]; exact laidMet_laidAll _ (by kernel_rfl) (by kernel_rfl))) ?_
  intro W base args ds gs before hval0 hW hwt hT
  have hval : ∀ (j : Nat) t v, Tryd.f3.params[j]? = some t → args[j]? = some v → Value.okWide Tryd.prog W .any base t v := hval0
  have hW' := hW
  obtain ⟨p, q, hA0, hV, rfl, hfz, hnd⟩ := hW
  have hA : DataW.TrodAll enc Tryd.prog W 0 (fun _ => true) true Tryd.f3.params.toList args.toList ds p := hA0
  rw [Tryd.params3] at hA hval hwt
  obtain ⟨v0, vs0, d0, ds0, p0, q0, hargs, rfl, rfl, h0, r0⟩ := trodAll_cons hA
  obtain ⟨rfl, rfl, rfl⟩ := trodAll_nil r0
  obtain rfl : args = #[v0] := by cases args; simp_all
  obtain ⟨rfl, rfl⟩ := trodVars_none hV
  have hwl : ∀ z, (z ∈ d0.weights Tryd.prog 24 → z ≤ reachBytes) := fun z => by
    have h := List.all_eq_true.1 hwt z
    simp only [decide_eq_true_eq] at h
    refine fun hz => h ?_
    all_goals
      simp only [List.cons_append, List.nil_append, List.toList_toArray, List.append_nil, DataW.weightsEach, List.mem_append]
      simp [hz]
  have k0 := h0
  have lt0 : ∀ x ∈ p0, x.block < W.heap.size := by obtain ⟨m, hm⟩ := k0; exact DataW.trod_lt m _ _ _ hm
  obtain ⟨x0, m0, rfl, g0, z0⟩ := open_plan (hval 0 24 v0 rfl rfl) h0 (fun z hz => hwl z hz)
  clear hA0 hval0
  refine (walk W x0 m0 g0 z0 hT).mono fun e W' ⟨he, bel⟩ => ?_
  subst he
  exact ⟨_, rfl, _, _, _, [], _, [], hW', (trodAll_cons_mk (shut_bool Tryd.underlying4 _) trodAll_mk0), (trodAll_cons_mk (Below.trod laidOut (by kernel_rfl) (of_decide_eq_true (by kernel_rfl)) k0 bel lt0) trodAll_mk0), rfl, bel.frame _, fun h => by cases h⟩

theorem over : Rows.planBackRow.holds Tryd.pinned (OpenSpec.ofChange Rows.planBackSpec) :=
  OpenClaim.holds_of_wide 3 Tryd.f3 rfl rfl rfl rfl rfl rfl rfl ⟨rfl, rfl, rfl, rfl, rfl⟩ rfl rfl rfl rfl rfl (by kernel_rfl) Tryd.func3 (by kernel_rfl)
    (of_decide_eq_true (by kernel_rfl)) (by unfold Func.isWrapper; first | (rw [if_pos (by decide +kernel)]; kernel_rfl) | (rw [if_neg (by decide +kernel)]; exact ⟨rfl, rfl⟩))
    (fun os started H enc _ => lifted os started H enc)

/-- The row's statement. -/
theorem proved : Rows.PlanBackSaid := over
end Go.Proofs.YtoibhgoaibjopaaDoor.planBack
namespace Go.Proofs.YtoibhgoaibjopaaDoor
theorem planBack_holds : Rows.PlanBackCardSaid :=
  Claim7.holds_tied_plain_at .later [] [.data, .data, .data] true (true, "49bba498fdde781a3990cd311e7e0aca40440a7f1050c81aa34c7e3b0f41307f") true
    planBack.proved (fun _ h => by cases h) (by kernel_rfl) (fun _ h => by cases h) planBack_row_tie rfl ⟨rfl, rfl⟩ (by kernel_rfl) rfl
    (fun f fn hf hfn => by
      obtain rfl : f = 3 := Option.some.inj ((show Tryd.prog.funcNamed "leechbook/leechbooklaw10.PlanBack" = some 3 by kernel_rfl).symm.trans hf) |>.symm
      obtain rfl : fn = Tryd.f3 := (Option.some.inj (Tryd.func3.symm.trans hfn)).symm
      exact ⟨by kernel_rfl, fun j t ht => by
        rw [Tryd.params3] at ht
        have hm : t ∈ [24] := by simpa using Array.mem_of_getElem? ht
        have hall : ([24].all fun u => !Tryd.prog.wantsStandIn u) = true := by kernel_rfl
        exact (show Tryd.prog.wantsStandIn t = false by simpa using List.all_eq_true.1 hall t hm)⟩)
    (by kernel_rfl)
#print axioms planBack_holds
end Go.Proofs.YtoibhgoaibjopaaDoor
