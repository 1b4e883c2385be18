/-
  PlanOnce holds for every text: what is parsed may be; printed it is a text of the same plan, which is printed as it is.
-/
import Derived.WalkKit
import Derived.ProofKit
import Derived.OpenShut
import Derived.ShutString
import Derived.Below
import Derived.Carry
import Derived.LaidMore
import Derived.Stop.Joined
import Derived.SevenTiedAt
import Derived.Deep.DeepCutAuto
import Derived.Test.YtfkhehkfeibdpaaGreatDoorRows
import Derived.Test.YtfkhehkfeibdpaaGreatDoorTie
import Derived.Test.YtfkhehkfeibdpaaGreatDoorCards
import Derived.Test.YtfkhehkfeibdpaaGreatDoorMo1
import Derived.Test.YtfkhehkfeibdpaaGreatDoorMo2
import Derived.Test.YtfkhehkfeibdpaaGreatDoorMo3
import Derived.Test.YtfkhehkfeibdpaaGreatDoorMo4
import Derived.Test.YtfkhehkfeibdpaaGreatDoorMo5
import Derived.Test.YtfkhehkfeibdpaaGreatDoorMo6
import Derived.Test.YtfkhehkfeibdpaaGreatDoorMo7
import Derived.Test.YtfkhehkfeibdpaaGreatDoorMo8
import Derived.Test.YtfkhehkfeibdpaaGreatDoorMo9
import Derived.Test.YtfkhehkfeibdpaaGreatDoorMo10
import Derived.Test.YtfkhehkfeibdpaaGreatDoorMo11
import Derived.Test.YtfkhehkfeibdpaaGreatDoorMo12
import Derived.Test.YtfkhehkfeibdpaaGreatDoorMo13
import Derived.Test.YtfkhehkfeibdpaaGreatDoorMo14
import Derived.Test.YtfkhehkfeibdpaaGreatDoorMo15
import Derived.Test.YtfkhehkfeibdpaaGreatDoorMo16
import Derived.Test.YtfkhehkfeibdpaaGreatDoorMo17
import Derived.Test.YtfkhehkfeibdpaaGreatDoorMo18
import Derived.Test.YtfkhehkfeibdpaaGreatDoorMo19
import Derived.Test.YtfkhehkfeibdpaaGreatDoorMo20
import Derived.Test.YtfkhehkfeibdpaaGreatDoorMo21
import Derived.Test.YtfkhehkfeibdpaaGreatDoorMo22
import Derived.Test.YtfkhehkfeibdpaaGreatDoorMo23
import Derived.Test.YtfkhehkfeibdpaaGreatDoorMo24
import Derived.Test.YtfkhehkfeibdpaaGreatDoorMo25
import Derived.Test.YtfkhehkfeibdpaaGreatDoorMo26
import Derived.Test.YtfkhehkfeibdpaaGreatDoorMo27
import Derived.Test.YtfkhehkfeibdpaaGreatDoorMo28
import Derived.Test.YtfkhehkfeibdpaaGreatDoorMo29
import Derived.Test.YtfkhehkfeibdpaaGreatDoorMo30
import Derived.Test.YtfkhehkfeibdpaaGreatDoorMo31
import Derived.Test.YtfkhehkfeibdpaaGreatDoorMo32
import Derived.Test.YtfkhehkfeibdpaaGreatDoorMo33
import Derived.Test.YtfkhehkfeibdpaaGreatDoorMo34
import Derived.Test.YtfkhehkfeibdpaaGreatDoorMo35
import Derived.Test.YtfkhehkfeibdpaaGreatDoorMo36
import Derived.Test.YtfkhehkfeibdpaaGreatDoorMo37
import Derived.Test.YtfkhehkfeibdpaaGreatDoorMo38
import Derived.Test.YtfkhehkfeibdpaaGreatDoorMo39
import Derived.Test.YtfkhehkfeibdpaaGreatDoorMo40
import Derived.Test.YtfkhehkfeibdpaaGreatDoorMo41
import Derived.Test.YtfkhehkfeibdpaaGreatDoorMo42
import Derived.Test.YtfkhehkfeibdpaaGreatDoorMo43
import Derived.Test.YtfkhehkfeibdpaaGreatDoorMo44
import Derived.Test.YtfkhehkfeibdpaaGreatDoorMo45
import Derived.Test.YtfkhehkfeibdpaaGreatDoorMo46
import Derived.Test.YtfkhehkfeibdpaaGreatDoorMo47
namespace Go.Proofs.YtfkhehkfeibdpaaGreatDoor.planOnce
open Go.ChangeShapes Go.WideShapes Go.ChangeAt Go.RowKit
open Pl
open Wo (Wd WdsAt box_cell box_two keepB heap_far)
open Go.ChangeMaps (open_string)
set_option linter.unusedVariables false
set_option linter.unusedSimpArgs false


theorem own : ownKnob Tryz.prog.godebug = none := by kernel_rfl

/-! ### the walk: the law returns true -/
set_option maxHeartbeats 8000000 in
theorem walk (w : World) (a0 : ByteArray) (w0 : a0.size ≤ maxLen) (hT : Nu.Tab w) :
    Calls Tryz.prog 5 #[.string a0] w fun e w' => e = .returned (.bool true) ∧ Below w.heap.size w w' := by
  have HWK := Lib.hid fun W (hW : Below w.heap.size w W) => works_any W (Nu.tab_grw hT hW)
  have HTb := Lib.hid hT
  have HL : Hid (a0.data.toList.length = a0.size) := (Lib.size_eq a0).symm
  by_cases hl : 6000 < a0.size
  · have hl' : (6000 : Int) < (a0.size : Int) := by omega
    have HB0 := Lib.hid (Below.refl w.heap.size w)
    clear hl
    go_enter Tryz.func5, Tryz.ntmps5
    go_wp2_with (go_at_call 8; refine (HWK.out _ HB0.out).mono ?_; rintro x w9 ⟨rfl, hb9⟩; have HB9 := Lib.hid (below_trans HB0.out hb9); clear hb9)
    go_ret
    exact ⟨rfl, HB9.out⟩
  have hl' : ¬ (6000 : Int) < (a0.size : Int) := by omega
  cases hR : paR a0.data.toList with
  | error f =>
    obtain ⟨E, At⟩ := f
    obtain ⟨hE, hAt⟩ := text_bad hR
    have HP1 : Hid (Calls Tryz.prog 13 #[.string a0] w fun e w' => e = .returned (.tuple #[.agg #[.int .i64 0, .int .i64 0, .int .i64 0, .int .i64 0, .int .i64 0, .slice none 0 0], .agg #[.int .i64 E, .int .i64 (At : Nat)]]) ∧ Below w.heap.size w w') := parse_err w w0 hR
    have hne : (E != 0) = true := by simpa using hE
    have hA1 : (0 : Int) ≤ (At : Nat) := by omega
    have hA2 : ((At : Nat) : Int) ≤ (a0.size : Int) := by rw [HL.out] at hAt; have : At ≤ a0.size := hAt; omega
    clear hR hE hAt hl hT HL
    go_enter Tryz.func5, Tryz.ntmps5
    go_wp2_with fail
    go_at_call 13
    refine HP1.out.mono ?_
    rintro x w1 ⟨rfl, hb1⟩
    obtain ⟨hb2, hp2, hf2⟩ := box_pf w1 (.int .i64 0) (.int .i64 0) (.int .i64 0) (.int .i64 0) (.int .i64 0) (.slice none 0 0) (.int .i64 E) (.int .i64 (At : Nat))
    have HB2 := Lib.hid (below_trans hb1 hb2)
    have HP2 := Lib.hid hp2
    have HF2 := Lib.hid hf2
    clear hb1 hb2 hp2 hf2 HP1
    go_upto_region 4 with fail
    generalize (w1.alloc (.cells #[.int .i64 0, .int .i64 0, .int .i64 0, .int .i64 0, .int .i64 0, .slice none 0 0] 24)).alloc (.cells #[.int .i64 E, .int .i64 (At : Nat)] 32) = w2 at *
    generalize hq1 : w1.heap.size = q1 at *
    obtain ⟨q2, hq2⟩ : ∃ q2, q2 = q1 + 1 := ⟨_, rfl⟩
    rw [← hq2] at HF2 ⊢
    clear hq1 hq2
    obtain ⟨x0, x1, x2, x3, x4, x5⟩ := bsix HP2.out
    obtain ⟨y0, y1⟩ := pair_cells HF2.out
    have HSm : Hid (Calls Tryz.prog 14 #[.agg #[.int .i64 0, .int .i64 0, .int .i64 0, .int .i64 0, .int .i64 0, .slice none 0 0], .agg #[.int .i64 0, .int .i64 0, .int .i64 0, .int .i64 0, .int .i64 0, .slice none 0 0]] w2 fun e w' => e = .returned (.bool true) ∧ Below w2.heap.size w2 w') := same_plan pn0 _ _ w2 (by intro r hr; cases hr) (RusAt.nil _ _) (RusAt.nil _ _)
    have HFK := Lib.hid fun w' (h : Below w2.heap.size w2 w') => pair_cells (keepB HF2.out h)
    go_wp2_with (first | (go_at_call 14; refine HSm.out.mono ?_; rintro x w3 ⟨rfl, hb3⟩; have HB3 := Lib.hid (below_trans HB2.out hb3); obtain ⟨z0, z1⟩ := HFK.out _ hb3; clear hb3) | (go_at_call 8; refine (HWK.out _ HB3.out).mono ?_; rintro x w9 ⟨rfl, hb9⟩; have HB9 := Lib.hid (below_trans HB3.out hb9); clear hb9))
    go_ret
    exact ⟨rfl, HB9.out⟩
  | ok p =>
    have hl6 : a0.data.toList.length ≤ 6000 := by rw [HL.out]; omega
    obtain ⟨hpb, hpe⟩ := text_once hl6 hR
    have hsz := once_size hl6 hR
    have hback := text_back hpe
    have hlen := pr_len hpe
    have HP1 := Lib.hid (parse_ok w w0 hR)
    have HPr := Lib.hid fun (W : World) m (hW : Below w.heap.size w W) (hm : RusAt All W m p.rules) => print_any p m W hm (Nu.tab_grw hT hW) (fun _ => hsz)
    rw [hpe] at HPr
    have HP4 := Lib.hid fun (W : World) => parse_ok (s := mk (prV p)) W (by rw [mk_size]; unfold maxLen; omega) (by rw [mk_list]; exact hback)
    have hck : checkE p = 0 := by unfold checkE; rw [if_pos hpb]
    have HCk := Lib.hid fun (W : World) m (hm : RusAt All W m p.rules) => rcheck_any p m W hm
    rw [hck] at HCk
    have HSm := Lib.hid fun (W : World) m m' (hm : RusAt All W m p.rules) (hm' : RusAt All W m' p.rules) => same_plan p m m' W (rules_ok hpb) hm hm'
    have heq : ((mk (prV p)).toList == (mk (prV p)).toList) = true := by simp
    clear hR hpb hpe hsz hback hlen hck hl hT HL hl6
    generalize mk (prV p) = T at *
    go_enter Tryz.func5, Tryz.ntmps5
    go_wp2_with fail
    go_at_call 13
    refine HP1.out.mono ?_
    rintro x w1 ⟨⟨a, c, rfl, hr⟩, hb1⟩
    obtain ⟨hb2, hp2, hf2⟩ := box_pf w1 (.int .i64 p.mode) (.int .i64 p.indDed) (.int .i64 p.famDed) (.int .i64 p.indOop) (.int .i64 p.famOop) (.slice a p.rules.length c) (.int .i64 0) (.int .i64 0)
    have HB2 := Lib.hid (below_trans hb1 hb2)
    have HR2 := Lib.hid (hr.grw hb2)
    have HP2 := Lib.hid hp2
    have HF2 := Lib.hid hf2
    clear hb1 hb2 hp2 hf2 HP1 hr
    go_upto_region 4 with fail
    generalize (w1.alloc (.cells #[.int .i64 p.mode, .int .i64 p.indDed, .int .i64 p.famDed, .int .i64 p.indOop, .int .i64 p.famOop, .slice a p.rules.length c] 24)).alloc (.cells #[.int .i64 0, .int .i64 0] 32) = w2 at *
    generalize hq1 : w1.heap.size = q1 at *
    obtain ⟨q2, hq2⟩ : ∃ q2, q2 = q1 + 1 := ⟨_, rfl⟩
    rw [← hq2] at HF2 ⊢
    clear hq1 hq2
    obtain ⟨x0, x1, x2, x3, x4, x5⟩ := bsix HP2.out
    obtain ⟨y0, y1⟩ := pair_cells HF2.out
    go_wp2_with fail
    go_at_call 11
    refine (HPr.out _ _ HB2.out HR2.out).mono ?_
    rintro x w3 ⟨rfl, hb3⟩
    have HB3 := Lib.hid (below_trans HB2.out hb3)
    have HR3 := Lib.hid (HR2.out.grw hb3)
    have HP3 := Lib.hid (keepB HP2.out hb3)
    clear hb3 HB2 HR2 HP2 HF2 x0 x1 x2 x3 x4 x5 y0 y1
    go_wp2_with fail
    go_at_call 13
    refine (HP4.out _).mono ?_
    rintro x w4 ⟨⟨a', c', rfl, hr⟩, hb4⟩
    obtain ⟨hb5, hp5, hf5⟩ := box_pf w4 (.int .i64 p.mode) (.int .i64 p.indDed) (.int .i64 p.famDed) (.int .i64 p.indOop) (.int .i64 p.famOop) (.slice a' p.rules.length c') (.int .i64 0) (.int .i64 0)
    have hb45 := below_trans hb4 hb5
    have HB5 := Lib.hid (below_trans HB3.out hb45)
    have HR5 := Lib.hid (HR3.out.grw hb45)
    have HP5 := Lib.hid (keepB HP3.out hb45)
    have HQ5 := Lib.hid (hr.grw hb5)
    have HX5 := Lib.hid hp5
    have HF5 := Lib.hid hf5
    clear hb4 hb5 hb45 hp5 hf5 hr HB3 HR3 HP3 HP4
    go_upto_region 8 with fail
    generalize (w4.alloc (.cells #[.int .i64 p.mode, .int .i64 p.indDed, .int .i64 p.famDed, .int .i64 p.indOop, .int .i64 p.famOop, .slice a' p.rules.length c'] 24)).alloc (.cells #[.int .i64 0, .int .i64 0] 32) = w5 at *
    generalize hq4 : w4.heap.size = q4 at *
    obtain ⟨q5, hq5⟩ : ∃ q5, q5 = q4 + 1 := ⟨_, rfl⟩
    rw [← hq5] at HF5 ⊢
    clear hq4 hq5
    obtain ⟨x0, x1, x2, x3, x4, x5⟩ := bsix HX5.out
    go_wp2_with fail
    go_at_call 11
    refine (HPr.out _ _ HB5.out HQ5.out).mono ?_
    rintro x w6 ⟨rfl, hb6⟩
    have HB6 := Lib.hid (below_trans HB5.out hb6)
    have HR6 := Lib.hid (HR5.out.grw hb6)
    have HP6 := Lib.hid (keepB HP5.out hb6)
    have HQ6 := Lib.hid (HQ5.out.grw hb6)
    have HX6 := Lib.hid (keepB HX5.out hb6)
    have HF6 := Lib.hid (keepB HF5.out hb6)
    clear hb6 HB5 HR5 HP5 HQ5 HX5 HF5 HPr x0 x1 x2 x3 x4 x5
    obtain ⟨x0, x1, x2, x3, x4, x5⟩ := bsix HP6.out
    go_wp2_with fail
    go_at_call 10
    refine (HCk.out _ _ HR6.out).mono ?_
    rintro x w7 ⟨rfl, hb7⟩
    have HB7 := Lib.hid (below_trans HB6.out hb7)
    have HS7 := Lib.hid (HSm.out _ _ _ (HR6.out.grw hb7) (HQ6.out.grw hb7))
    obtain ⟨v0, v1, v2, v3, v4, v5⟩ := bsix (keepB HP6.out hb7)
    obtain ⟨g0, g1, g2, g3, g4, g5⟩ := bsix (keepB HX6.out hb7)
    obtain ⟨y0, y1⟩ := pair_cells (keepB HF6.out hb7)
    clear hb7 HB6 HR6 HP6 HQ6 HX6 HF6 HCk HSm x0 x1 x2 x3 x4 x5
    go_wp2_with (first | (go_at_call 14; refine HS7.out.mono ?_; rintro x w8 ⟨rfl, hb8⟩; have HB8 := Lib.hid (below_trans HB7.out hb8); clear hb8) | (go_at_call 8; refine (HWK.out _ HB8.out).mono ?_; rintro x w9 ⟨rfl, hb9⟩; have HB9 := Lib.hid (below_trans HB8.out hb9); clear hb9))
    go_ret
    exact ⟨rfl, HB9.out⟩

/-! ### the row's step -/
theorem laidOut : laidOutB Tryz.prog = true := by kernel_rfl
set_option maxRecDepth 100000 in
theorem lifted (os : Os) (started : os.Started) (H : Type) (enc : TypeId × Value → H) :
    ReturnsInHanded {} Tryz.checked os 5 .any (fun w args => (Rows.planOnceSpec.pre enc Tryz.prog Tryz.f5 [] false w args ∧ laidMetH Tryz.prog laidL w) ∧ sizedMet enc Tryz.prog Tryz.f5 (OpenSpec.ofChange Rows.planOnceSpec) false w args) (Rows.planOnceSpec.post enc Tryz.prog Tryz.f5 false true false false) := by
  refine lift own started (by kernel_rfl) Tryz.func5
    (ChangeSpec.witness_shaped (enc := enc) (C := Tryz.checked) (os := os) (X := fun w _ => laidMetH Tryz.prog laidL w) false (World.laidAll Tryz.prog os laidL) #[.string ByteArray.empty] 8 (World.laidAll_os _ _ _)
      (World.shaped_of_ZipB (by kernel_rfl) (by kernel_rfl)) (by kernel_rfl) (by kernel_rfl) (by kernel_rfl)
      (by rw [MakeChecks.laidMetH_plain _ _ _ (by kernel_rfl)]; exact laidMet_laidAll _ (by kernel_rfl) (by kernel_rfl))) ?_
  intro W base args ds gs before hval0 hW hwt hT
  have hval : ∀ (j : Nat) t v, Tryz.f5.params[j]? = some t → args[j]? = some v → Value.okWide Tryz.prog W .any base t v := hval0
  have hW' := hW
  obtain ⟨p, q, hA0, hV, rfl, hfz, hnd⟩ := hW
  have hA : DataW.TrodAll enc Tryz.prog W 0 (fun _ => true) true Tryz.f5.params.toList args.toList ds p := hA0
  rw [Tryz.params5] at hA hval hwt
  obtain ⟨v0, vs0, d0, ds0, p0, q0, hargs, rfl, rfl, h0, r0⟩ := trodAll_cons hA
  obtain ⟨rfl, rfl, rfl⟩ := trodAll_nil r0
  obtain rfl : args = #[v0] := by cases args; simp_all
  obtain ⟨rfl, rfl⟩ := trodVars_none hV
  have hwl : ∀ z, (z ∈ d0.weights Tryz.prog 9 → z ≤ reachBytes) := fun z => by
    have h := List.all_eq_true.1 hwt z
    simp only [decide_eq_true_eq] at h
    refine fun hz => h ?_
    all_goals
      simp only [List.cons_append, List.nil_append, List.toList_toArray, List.append_nil, DataW.weightsEach, List.mem_append]
      simp [hz]
  have k0 := h0
  have lt0 : ∀ x ∈ p0, x.block < W.heap.size := by obtain ⟨m, hm⟩ := k0; exact DataW.trod_lt m _ _ _ hm
  obtain ⟨a0, rfl, _, _, w0⟩ := open_string Tryz.underlying9 (hval 0 9 v0 rfl rfl) h0
  clear hA0 hval0
  refine (walk W a0 w0 hT).mono fun e W' ⟨he, bel⟩ => ?_
  subst he
  exact ⟨_, rfl, _, _, _, [], _, [], hW', (trodAll_cons_mk (shut_bool Tryz.underlying4 _) trodAll_mk0), (trodAll_cons_mk (Below.trod laidOut (by kernel_rfl) (of_decide_eq_true (by kernel_rfl)) k0 bel lt0) trodAll_mk0), rfl, bel.frame _, fun h => by cases h⟩

theorem over : Rows.planOnceRow.holds Tryz.pinned (OpenSpec.ofChange Rows.planOnceSpec) :=
  OpenClaim.holds_of_wide 5 Tryz.f5 rfl rfl rfl rfl rfl rfl rfl ⟨rfl, rfl, rfl, rfl, rfl⟩ rfl rfl rfl rfl rfl (by kernel_rfl) Tryz.func5 (by kernel_rfl)
    (of_decide_eq_true (by kernel_rfl)) (by unfold Func.isWrapper; first | (rw [if_pos (by decide +kernel)]; kernel_rfl) | (rw [if_neg (by decide +kernel)]; exact ⟨rfl, rfl⟩))
    (fun os started H enc _ => lifted os started H enc)

/-- The row's statement. -/
theorem proved : Rows.PlanOnceSaid := over
end Go.Proofs.YtfkhehkfeibdpaaGreatDoor.planOnce
namespace Go.Proofs.YtfkhehkfeibdpaaGreatDoor
theorem planOnce_holds : Rows.PlanOnceCardSaid :=
  Claim7.holds_tied_plain_at .later [] [.data, .data, .data] true (true, "0f02a1f77392981ac5d964e641216d5bc597a6b97403f1eca412e4294a5b0ebf") true
    planOnce.proved (fun _ h => by cases h) (by kernel_rfl) (fun _ h => by cases h) planOnce_row_tie rfl ⟨rfl, rfl⟩ (by kernel_rfl) rfl
    (fun f fn hf hfn => by
      obtain rfl : f = 5 := Option.some.inj ((show Tryz.prog.funcNamed "leechbook/leechbooklaw10.PlanOnce" = some 5 by kernel_rfl).symm.trans hf) |>.symm
      obtain rfl : fn = Tryz.f5 := (Option.some.inj (Tryz.func5.symm.trans hfn)).symm
      exact ⟨by kernel_rfl, fun j t ht => by
        rw [Tryz.params5] at ht
        have hm : t ∈ [9] := by simpa using Array.mem_of_getElem? ht
        have hall : ([9].all fun u => !Tryz.prog.wantsStandIn u) = true := by kernel_rfl
        exact (show Tryz.prog.wantsStandIn t = false by simpa using List.all_eq_true.1 hall t hm)⟩)
    (by kernel_rfl)
#print axioms planOnce_holds
end Go.Proofs.YtfkhehkfeibdpaaGreatDoor
