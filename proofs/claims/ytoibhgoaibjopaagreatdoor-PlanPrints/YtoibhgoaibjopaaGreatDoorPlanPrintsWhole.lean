/-
  PlanPrints holds for every plan: as a text it is what the chapter says, or it may not be.
-/
import Derived.WalkKit
import Derived.ProofKit
import Derived.OpenShut
import Derived.ShutString
import Derived.Below
import Derived.Carry
import Derived.LaidMore
import Derived.Stop.Joined
import Derived.SevenTiedAt
import Derived.Deep.DeepCutAuto
import Derived.Test.YtoibhgoaibjopaaGreatDoorRows
import Derived.Test.YtoibhgoaibjopaaGreatDoorTie
import Derived.Test.YtoibhgoaibjopaaGreatDoorCards
import Derived.Test.YtoibhgoaibjopaaGreatDoorMp1
import Derived.Test.YtoibhgoaibjopaaGreatDoorMp2
import Derived.Test.YtoibhgoaibjopaaGreatDoorMp3
import Derived.Test.YtoibhgoaibjopaaGreatDoorMp4
import Derived.Test.YtoibhgoaibjopaaGreatDoorMp5
import Derived.Test.YtoibhgoaibjopaaGreatDoorMp6
import Derived.Test.YtoibhgoaibjopaaGreatDoorMp7
import Derived.Test.YtoibhgoaibjopaaGreatDoorMp8
import Derived.Test.YtoibhgoaibjopaaGreatDoorMp9
import Derived.Test.YtoibhgoaibjopaaGreatDoorMp10
import Derived.Test.YtoibhgoaibjopaaGreatDoorMp11
import Derived.Test.YtoibhgoaibjopaaGreatDoorMp12
import Derived.Test.YtoibhgoaibjopaaGreatDoorMp13
import Derived.Test.YtoibhgoaibjopaaGreatDoorMp14
import Derived.Test.YtoibhgoaibjopaaGreatDoorMp15
import Derived.Test.YtoibhgoaibjopaaGreatDoorMp16
import Derived.Test.YtoibhgoaibjopaaGreatDoorMp17
import Derived.Test.YtoibhgoaibjopaaGreatDoorMp18
import Derived.Test.YtoibhgoaibjopaaGreatDoorMp19
import Derived.Test.YtoibhgoaibjopaaGreatDoorMp20
import Derived.Test.YtoibhgoaibjopaaGreatDoorMp21
import Derived.Test.YtoibhgoaibjopaaGreatDoorMp22
import Derived.Test.YtoibhgoaibjopaaGreatDoorMp23
import Derived.Test.YtoibhgoaibjopaaGreatDoorMp24
import Derived.Test.YtoibhgoaibjopaaGreatDoorMp25
import Derived.Test.YtoibhgoaibjopaaGreatDoorMp26
import Derived.Test.YtoibhgoaibjopaaGreatDoorMp27
import Derived.Test.YtoibhgoaibjopaaGreatDoorMp28
import Derived.Test.YtoibhgoaibjopaaGreatDoorMp29
import Derived.Test.YtoibhgoaibjopaaGreatDoorMp30
import Derived.Test.YtoibhgoaibjopaaGreatDoorMp31
import Derived.Test.YtoibhgoaibjopaaGreatDoorMp32
import Derived.Test.YtoibhgoaibjopaaGreatDoorMp33
import Derived.Test.YtoibhgoaibjopaaGreatDoorMp34
import Derived.Test.YtoibhgoaibjopaaGreatDoorMp35
import Derived.Test.YtoibhgoaibjopaaGreatDoorMp36
import Derived.Test.YtoibhgoaibjopaaGreatDoorMp37
import Derived.Test.YtoibhgoaibjopaaGreatDoorMp38
import Derived.Test.YtoibhgoaibjopaaGreatDoorMp39
namespace Go.Proofs.YtoibhgoaibjopaaGreatDoor.planPrints
open Go.ChangeShapes Go.WideShapes Go.ChangeAt Go.RowKit
open Pl
open Wo (Wd WdsAt box_cell box_two keepB heap_far)
open Go.ChangeMaps (open_string)
set_option linter.unusedVariables false
set_option linter.unusedSimpArgs false


theorem own : ownKnob Tryz.prog.godebug = none := by kernel_rfl

/-! ### the walk: the law returns true -/
set_option maxHeartbeats 8000000 in
theorem walk (w : World) (x0 : Pn) (m0 : Value) (h0 : RusAt All w m0 x0.rules) (z0 : PnOk x0) (hT : Nu.Tab w) :
    Calls Tryz.prog 3 #[pnv x0 m0] w fun e w' => e = .returned (.bool true) ∧ Below w.heap.size w w' := by
  have HWK := Lib.hid fun W (hW : Below w.heap.size w W) => works_any W (Nu.tab_grw hT hW)
  have hb := below_alloc w (.cells #[.int .i64 x0.mode, .int .i64 x0.indDed, .int .i64 x0.famDed, .int .i64 x0.indOop, .int .i64 x0.famOop, m0] 24)
  have HB := Lib.hid hb
  have HX := Lib.hid (heap_alloc_new w (.cells #[.int .i64 x0.mode, .int .i64 x0.indDed, .int .i64 x0.famDed, .int .i64 x0.indOop, .int .i64 x0.famOop, m0] 24))
  have HLt := Lib.hid (light_any x0 m0 _ (h0.grw hb))
  have HM := Lib.hid fun W (hW : Below w.heap.size w W) => h0.grw hW
  have HTb := Lib.hid fun W (hW : Below w.heap.size w W) => Nu.tab_grw hT hW
  have HZ := Lib.hid z0
  obtain ⟨ma, mc, rfl, -, -, -⟩ := h0.form
  obtain ⟨p0, p1, p2, p3, p4, p5⟩ := bsix HX.out
  clear hb h0 z0 hT
  go_enter Tryz.func3, Tryz.ntmps3
  go_wp2_with fail
  go_at_call 5
  refine HLt.out.mono ?_
  rintro e w1 ⟨⟨b, rfl, hlight⟩, hb1⟩
  have HB1 := Lib.hid (below_trans HB.out hb1)
  have HX1 := Lib.hid (keepB HX.out hb1)
  clear p0 p1 p2 p3 p4 p5 hb1 HB HX HLt
  obtain ⟨p0, p1, p2, p3, p4, p5⟩ := bsix HX1.out
  cases b
  · go_wp2_with (go_at_call 6; refine (HWK.out _ HB1.out).mono ?_; rintro x w9 ⟨rfl, hb9⟩; have HB9 := Lib.hid (below_trans HB1.out hb9); clear hb9)
    go_ret
    exact ⟨rfl, HB9.out⟩
  · have hcnt := hlight rfl
    have HSz : Hid (planB x0 = true → szW (planW x0) ≤ 65536) := fun h => by have := planW_size h; omega
    have HPr := Lib.hid (print_any x0 _ w1 (HM.out _ HB1.out) (HTb.out _ HB1.out) HSz.out)
    have HRp := Lib.hid fun W (hW : Below w.heap.size w W) => rprint_any x0 _ W (HM.out _ hW) HZ.out HSz.out
    clear hlight hcnt HSz
    generalize mk (prV x0) = T at *
    generalize prE x0 = E at *
    have bT : (T.toList == T.toList) = true := by simp
    have bE : (E == E) = true := by simp
    go_wp2_with fail
    go_at_call 7
    refine HPr.out.mono ?_
    rintro x w2 ⟨rfl, hb2⟩
    have HB2 := Lib.hid (below_trans HB1.out hb2)
    have HX2 := Lib.hid (keepB HX1.out hb2)
    clear hb2 HX1 HB1 HPr p0 p1 p2 p3 p4 p5
    obtain ⟨p0, p1, p2, p3, p4, p5⟩ := bsix HX2.out
    go_wp2_with (first | (go_at_call 8; refine (HRp.out _ HB2.out).mono ?_; rintro x w3 ⟨rfl, hb3⟩; have HB3 := Lib.hid (below_trans HB2.out hb3); clear hb3) | (go_at_call 6; refine (HWK.out _ HB3.out).mono ?_; rintro x w9 ⟨rfl, hb9⟩; have HB9 := Lib.hid (below_trans HB3.out hb9); clear hb9))
    go_ret
    exact ⟨rfl, HB9.out⟩

/-! ### the row's step -/
theorem laidOut : laidOutB Tryz.prog = true := by kernel_rfl
set_option maxRecDepth 100000 in
theorem lifted (os : Os) (started : os.Started) (H : Type) (enc : TypeId × Value → H) :
    ReturnsInHanded {} Tryz.checked os 3 .any (fun w args => (Rows.planPrintsSpec.pre enc Tryz.prog Tryz.f3 [] false w args ∧ laidMetH Tryz.prog laidL w) ∧ sizedMet enc Tryz.prog Tryz.f3 (OpenSpec.ofChange Rows.planPrintsSpec) false w args) (Rows.planPrintsSpec.post enc Tryz.prog Tryz.f3 false true false false) := by
  refine lift own started (by kernel_rfl) Tryz.func3
    (ChangeSpec.witness_shaped (enc := enc) (C := Tryz.checked) (os := os) (X := fun w _ => laidMetH Tryz.prog laidL w) false (World.laidAll Tryz.prog os laidL) #[.agg #[.int .i64 0, .int .i64 0, .int .i64 0, .int .i64 0, .int .i64 0, .slice none 0 0]] 8 (World.laidAll_os _ _ _)
      (World.shaped_of_ZipB (by kernel_rfl) (by kernel_rfl)) (by kernel_rfl) (by kernel_rfl) (by kernel_rfl)
      (by rw [MakeChecks.laidMetH_plain _ _ _ (by kernel_rfl)]; exact laidMet_laidAll _ (by kernel_rfl) (by kernel_rfl))) ?_
  intro W base args ds gs before hval0 hW hwt hT
  have hval : ∀ (j : Nat) t v, Tryz.f3.params[j]? = some t → args[j]? = some v → Value.okWide Tryz.prog W .any base t v := hval0
  have hW' := hW
  obtain ⟨p, q, hA0, hV, rfl, hfz, hnd⟩ := hW
  have hA : DataW.TrodAll enc Tryz.prog W 0 (fun _ => true) true Tryz.f3.params.toList args.toList ds p := hA0
  rw [Tryz.params3] at hA hval hwt
  obtain ⟨v0, vs0, d0, ds0, p0, q0, hargs, rfl, rfl, h0, r0⟩ := trodAll_cons hA
  obtain ⟨rfl, rfl, rfl⟩ := trodAll_nil r0
  obtain rfl : args = #[v0] := by cases args; simp_all
  obtain ⟨rfl, rfl⟩ := trodVars_none hV
  have hwl : ∀ z, (z ∈ d0.weights Tryz.prog 24 → z ≤ reachBytes) := fun z => by
    have h := List.all_eq_true.1 hwt z
    simp only [decide_eq_true_eq] at h
    refine fun hz => h ?_
    all_goals
      simp only [List.cons_append, List.nil_append, List.toList_toArray, List.append_nil, DataW.weightsEach, List.mem_append]
      simp [hz]
  have k0 := h0
  have lt0 : ∀ x ∈ p0, x.block < W.heap.size := by obtain ⟨m, hm⟩ := k0; exact DataW.trod_lt m _ _ _ hm
  obtain ⟨x0, m0, rfl, g0, z0⟩ := open_plan (hval 0 24 v0 rfl rfl) h0 (fun z hz => hwl z hz)
  clear hA0 hval0
  refine (walk W x0 m0 g0 z0 hT).mono fun e W' ⟨he, bel⟩ => ?_
  subst he
  exact ⟨_, rfl, _, _, _, [], _, [], hW', (trodAll_cons_mk (shut_bool Tryz.underlying4 _) trodAll_mk0), (trodAll_cons_mk (Below.trod laidOut (by kernel_rfl) (of_decide_eq_true (by kernel_rfl)) k0 bel lt0) trodAll_mk0), rfl, bel.frame _, fun h => by cases h⟩

theorem over : Rows.planPrintsRow.holds Tryz.pinned (OpenSpec.ofChange Rows.planPrintsSpec) :=
  OpenClaim.holds_of_wide 3 Tryz.f3 rfl rfl rfl rfl rfl rfl rfl ⟨rfl, rfl, rfl, rfl, rfl⟩ rfl rfl rfl rfl rfl (by kernel_rfl) Tryz.func3 (by kernel_rfl)
    (of_decide_eq_true (by kernel_rfl)) (by unfold Func.isWrapper; first | (rw [if_pos (by decide +kernel)]; kernel_rfl) | (rw [if_neg (by decide +kernel)]; exact ⟨rfl, rfl⟩))
    (fun os started H enc _ => lifted os started H enc)

/-- The row's statement. -/
theorem proved : Rows.PlanPrintsSaid := over
end Go.Proofs.YtoibhgoaibjopaaGreatDoor.planPrints
namespace Go.Proofs.YtoibhgoaibjopaaGreatDoor
theorem planPrints_holds : Rows.PlanPrintsCardSaid :=
  Claim7.holds_tied_plain_at .later [] [.data, .data, .data] true (true, "5fa3567b00d2522b7f41859687579a05d72e1abf6b5d4ea5e4abd50f9cf896ad") true
    planPrints.proved (fun _ h => by cases h) (by kernel_rfl) (fun _ h => by cases h) planPrints_row_tie rfl ⟨rfl, rfl⟩ (by kernel_rfl) rfl
    (fun f fn hf hfn => by
      obtain rfl : f = 3 := Option.some.inj ((show Tryz.prog.funcNamed "leechbook/leechbooklaw10.PlanPrints" = some 3 by kernel_rfl).symm.trans hf) |>.symm
      obtain rfl : fn = Tryz.f3 := (Option.some.inj (Tryz.func3.symm.trans hfn)).symm
      exact ⟨by kernel_rfl, fun j t ht => by
        rw [Tryz.params3] at ht
        have hm : t ∈ [24] := by simpa using Array.mem_of_getElem? ht
        have hall : ([24].all fun u => !Tryz.prog.wantsStandIn u) = true := by kernel_rfl
        exact (show Tryz.prog.wantsStandIn t = false by simpa using List.all_eq_true.1 hall t hm)⟩)
    (by kernel_rfl)
#print axioms planPrints_holds
end Go.Proofs.YtoibhgoaibjopaaGreatDoor
