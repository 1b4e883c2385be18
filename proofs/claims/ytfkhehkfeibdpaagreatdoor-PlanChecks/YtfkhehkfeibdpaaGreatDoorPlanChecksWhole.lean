/-
  PlanChecks holds for every plan: whether it may be is what the chapter says.
-/
import Derived.WalkKit
import Derived.ProofKit
import Derived.OpenShut
import Derived.ShutString
import Derived.Below
import Derived.Carry
import Derived.LaidMore
import Derived.Stop.Joined
import Derived.SevenTiedAt
import Derived.Deep.DeepCutAuto
import Derived.Test.YtfkhehkfeibdpaaGreatDoorRows
import Derived.Test.YtfkhehkfeibdpaaGreatDoorTie
import Derived.Test.YtfkhehkfeibdpaaGreatDoorCards
import Derived.Test.YtfkhehkfeibdpaaGreatDoorMc1
import Derived.Test.YtfkhehkfeibdpaaGreatDoorMc2
import Derived.Test.YtfkhehkfeibdpaaGreatDoorMc3
import Derived.Test.YtfkhehkfeibdpaaGreatDoorMc4
import Derived.Test.YtfkhehkfeibdpaaGreatDoorMc5
import Derived.Test.YtfkhehkfeibdpaaGreatDoorMc6
import Derived.Test.YtfkhehkfeibdpaaGreatDoorMc7
import Derived.Test.YtfkhehkfeibdpaaGreatDoorMc8
import Derived.Test.YtfkhehkfeibdpaaGreatDoorMc9
import Derived.Test.YtfkhehkfeibdpaaGreatDoorMc10
import Derived.Test.YtfkhehkfeibdpaaGreatDoorMc11
import Derived.Test.YtfkhehkfeibdpaaGreatDoorMc12
import Derived.Test.YtfkhehkfeibdpaaGreatDoorMc13
import Derived.Test.YtfkhehkfeibdpaaGreatDoorMc14
import Derived.Test.YtfkhehkfeibdpaaGreatDoorMc15
import Derived.Test.YtfkhehkfeibdpaaGreatDoorMc16
import Derived.Test.YtfkhehkfeibdpaaGreatDoorMc17
import Derived.Test.YtfkhehkfeibdpaaGreatDoorMc18
import Derived.Test.YtfkhehkfeibdpaaGreatDoorMc19
import Derived.Test.YtfkhehkfeibdpaaGreatDoorMc20
import Derived.Test.YtfkhehkfeibdpaaGreatDoorMc21
import Derived.Test.YtfkhehkfeibdpaaGreatDoorMc22
import Derived.Test.YtfkhehkfeibdpaaGreatDoorMc23
import Derived.Test.YtfkhehkfeibdpaaGreatDoorMc24
import Derived.Test.YtfkhehkfeibdpaaGreatDoorMc25
import Derived.Test.YtfkhehkfeibdpaaGreatDoorMc26
import Derived.Test.YtfkhehkfeibdpaaGreatDoorMc27
import Derived.Test.YtfkhehkfeibdpaaGreatDoorMc28
import Derived.Test.YtfkhehkfeibdpaaGreatDoorMc29
import Derived.Test.YtfkhehkfeibdpaaGreatDoorMc30
import Derived.Test.YtfkhehkfeibdpaaGreatDoorMc31
import Derived.Test.YtfkhehkfeibdpaaGreatDoorMc32
import Derived.Test.YtfkhehkfeibdpaaGreatDoorMc33
import Derived.Test.YtfkhehkfeibdpaaGreatDoorMc34
import Derived.Test.YtfkhehkfeibdpaaGreatDoorMc35
import Derived.Test.YtfkhehkfeibdpaaGreatDoorMc36
import Derived.Test.YtfkhehkfeibdpaaGreatDoorMc37
import Derived.Test.YtfkhehkfeibdpaaGreatDoorMc38
import Derived.Test.YtfkhehkfeibdpaaGreatDoorMc39
import Derived.Test.YtfkhehkfeibdpaaGreatDoorMc40
import Derived.Test.YtfkhehkfeibdpaaGreatDoorMc41
import Derived.Test.YtfkhehkfeibdpaaGreatDoorMc42
import Derived.Test.YtfkhehkfeibdpaaGreatDoorMc43
import Derived.Test.YtfkhehkfeibdpaaGreatDoorMc44
import Derived.Test.YtfkhehkfeibdpaaGreatDoorMc45
import Derived.Test.YtfkhehkfeibdpaaGreatDoorMc46
import Derived.Test.YtfkhehkfeibdpaaGreatDoorMc47
import Derived.Test.YtfkhehkfeibdpaaGreatDoorMc48
import Derived.Test.YtfkhehkfeibdpaaGreatDoorMc49
import Derived.Test.YtfkhehkfeibdpaaGreatDoorMc50
namespace Go.Proofs.YtfkhehkfeibdpaaGreatDoor.planChecks
open Go.ChangeShapes Go.WideShapes Go.ChangeAt Go.RowKit
open Pl
open Wo (Wd WdsAt box_cell box_two keepB heap_far)
open Go.ChangeMaps (open_string)
set_option linter.unusedVariables false
set_option linter.unusedSimpArgs false


theorem own : ownKnob Tryz.prog.godebug = none := by kernel_rfl

/-! ### the walk: the law returns true -/
set_option maxHeartbeats 8000000 in
theorem walk (w : World) (x0 : Pn) (m0 : Value) (h0 : RusAt All w m0 x0.rules) (z0 : PnOk x0) (hT : Nu.Tab w) :
    Calls Tryz.prog 3 #[pnv x0 m0] w fun e w' => e = .returned (.bool true) ∧ Below w.heap.size w w' := by
  have HWK := Lib.hid fun W (hW : Below w.heap.size w W) => works_any W (Nu.tab_grw hT hW)
  have hb := below_alloc w (.cells #[.int .i64 x0.mode, .int .i64 x0.indDed, .int .i64 x0.famDed, .int .i64 x0.indOop, .int .i64 x0.famOop, m0] 24)
  have HB := Lib.hid hb
  have HX := Lib.hid (heap_alloc_new w (.cells #[.int .i64 x0.mode, .int .i64 x0.indDed, .int .i64 x0.famDed, .int .i64 x0.indOop, .int .i64 x0.famOop, m0] 24))
  have HLt := Lib.hid (light_any x0 m0 _ (h0.grw hb))
  have HCk := Lib.hid fun W (hW : Below w.heap.size w W) => check_any x0 m0 W (h0.grw hW)
  have HRk := Lib.hid fun W (hW : Below w.heap.size w W) => rcheck_any x0 m0 W (h0.grw hW)
  obtain ⟨ma, mc, rfl, -, -, -⟩ := h0.form
  obtain ⟨p0, p1, p2, p3, p4, p5⟩ := bsix HX.out
  have hee : (checkE x0 == checkE x0) = true := by simp
  clear hb h0 z0 hT
  generalize checkE x0 = E at *
  go_enter Tryz.func3, Tryz.ntmps3
  go_wp2_with fail
  go_at_call 7
  refine HLt.out.mono ?_
  rintro e w1 ⟨⟨b, rfl, -⟩, hb1⟩
  have HB1 := Lib.hid (below_trans HB.out hb1)
  have HX1 := Lib.hid (keepB HX.out hb1)
  clear p0 p1 p2 p3 p4 p5 hb1 HB HX HLt
  obtain ⟨p0, p1, p2, p3, p4, p5⟩ := bsix HX1.out
  cases b
  · go_wp2_with (go_at_call 8; refine (HWK.out _ HB1.out).mono ?_; rintro x w9 ⟨rfl, hb9⟩; have HB9 := Lib.hid (below_trans HB1.out hb9); clear hb9)
    go_ret
    exact ⟨rfl, HB9.out⟩
  · have HD := Lib.hid (Below.drew (Below.refl w1.heap.size w1))
    have HXK := Lib.hid fun W (hW : Below w1.heap.size w1 W) => bsix (keepB HX1.out hW)
    go_upto_region 3 with fail
    first | (go_region_with (first | (go_at_call 9; refine (HCk.out _ (below_trans HB1.out HD.out)).mono ?_; rintro x w2 ⟨rfl, hb2⟩; obtain ⟨q0, q1, q2, q3, q4, q5⟩ := HXK.out _ (below_trans HD.out hb2); have HB2 := Lib.hid (below_trans (below_trans HB1.out HD.out) hb2); clear hb2) | (go_at_call 10; refine (HRk.out _ HB2.out).mono ?_; rintro x w3 ⟨rfl, hb3⟩; have HB3 := Lib.hid (below_trans HB2.out hb3); clear hb3) | (go_at_call 8; refine (HWK.out _ HB3.out).mono ?_; rintro x w9 ⟨rfl, hb9⟩; have HB9 := Lib.hid (below_trans HB3.out hb9); clear hb9))) | fail
    all_goals
      go_wp2_with fail
      go_ret
      exact ⟨rfl, HB9.out⟩

/-! ### the row's step -/
theorem laidOut : laidOutB Tryz.prog = true := by kernel_rfl
set_option maxRecDepth 100000 in
theorem lifted (os : Os) (started : os.Started) (H : Type) (enc : TypeId × Value → H) :
    ReturnsInHanded {} Tryz.checked os 3 .any (fun w args => (Rows.planChecksSpec.pre enc Tryz.prog Tryz.f3 [] false w args ∧ laidMetH Tryz.prog laidL w) ∧ sizedMet enc Tryz.prog Tryz.f3 (OpenSpec.ofChange Rows.planChecksSpec) false w args) (Rows.planChecksSpec.post enc Tryz.prog Tryz.f3 false true false false) := by
  refine lift own started (by kernel_rfl) Tryz.func3
    (ChangeSpec.witness_shaped (enc := enc) (C := Tryz.checked) (os := os) (X := fun w _ => laidMetH Tryz.prog laidL w) false (World.laidAll Tryz.prog os laidL) #[.agg #[.int .i64 0, .int .i64 0, .int .i64 0, .int .i64 0, .int .i64 0, .slice none 0 0]] 8 (World.laidAll_os _ _ _)
      (World.shaped_of_ZipB (by kernel_rfl) (by kernel_rfl)) (by kernel_rfl) (by kernel_rfl) (by kernel_rfl)
      (by rw [MakeChecks.laidMetH_plain _ _ _ (by kernel_rfl)]; exact laidMet_laidAll _ (by kernel_rfl) (by kernel_rfl))) ?_
  intro W base args ds gs before hval0 hW hwt hT
  have hval : ∀ (j : Nat) t v, Tryz.f3.params[j]? = some t → args[j]? = some v → Value.okWide Tryz.prog W .any base t v := hval0
  have hW' := hW
  obtain ⟨p, q, hA0, hV, rfl, hfz, hnd⟩ := hW
  have hA : DataW.TrodAll enc Tryz.prog W 0 (fun _ => true) true Tryz.f3.params.toList args.toList ds p := hA0
  rw [Tryz.params3] at hA hval hwt
  obtain ⟨v0, vs0, d0, ds0, p0, q0, hargs, rfl, rfl, h0, r0⟩ := trodAll_cons hA
  obtain ⟨rfl, rfl, rfl⟩ := trodAll_nil r0
  obtain rfl : args = #[v0] := by cases args; simp_all
  obtain ⟨rfl, rfl⟩ := trodVars_none hV
  have hwl : ∀ z, (z ∈ d0.weights Tryz.prog 24 → z ≤ reachBytes) := fun z => by
    have h := List.all_eq_true.1 hwt z
    simp only [decide_eq_true_eq] at h
    refine fun hz => h ?_
    all_goals
      simp only [List.cons_append, List.nil_append, List.toList_toArray, List.append_nil, DataW.weightsEach, List.mem_append]
      simp [hz]
  have k0 := h0
  have lt0 : ∀ x ∈ p0, x.block < W.heap.size := by obtain ⟨m, hm⟩ := k0; exact DataW.trod_lt m _ _ _ hm
  obtain ⟨x0, m0, rfl, g0, z0⟩ := open_plan (hval 0 24 v0 rfl rfl) h0 (fun z hz => hwl z hz)
  clear hA0 hval0
  refine (walk W x0 m0 g0 z0 hT).mono fun e W' ⟨he, bel⟩ => ?_
  subst he
  exact ⟨_, rfl, _, _, _, [], _, [], hW', (trodAll_cons_mk (shut_bool Tryz.underlying4 _) trodAll_mk0), (trodAll_cons_mk (Below.trod laidOut (by kernel_rfl) (of_decide_eq_true (by kernel_rfl)) k0 bel lt0) trodAll_mk0), rfl, bel.frame _, fun h => by cases h⟩

theorem over : Rows.planChecksRow.holds Tryz.pinned (OpenSpec.ofChange Rows.planChecksSpec) :=
  OpenClaim.holds_of_wide 3 Tryz.f3 rfl rfl rfl rfl rfl rfl rfl ⟨rfl, rfl, rfl, rfl, rfl⟩ rfl rfl rfl rfl rfl (by kernel_rfl) Tryz.func3 (by kernel_rfl)
    (of_decide_eq_true (by kernel_rfl)) (by unfold Func.isWrapper; first | (rw [if_pos (by decide +kernel)]; kernel_rfl) | (rw [if_neg (by decide +kernel)]; exact ⟨rfl, rfl⟩))
    (fun os started H enc _ => lifted os started H enc)

/-- The row's statement. -/
theorem proved : Rows.PlanChecksSaid := over
end Go.Proofs.YtfkhehkfeibdpaaGreatDoor.planChecks
namespace Go.Proofs.YtfkhehkfeibdpaaGreatDoor
theorem planChecks_holds : Rows.PlanChecksCardSaid :=
  Claim7.holds_tied_plain_at .later [] [.data, .data, .data] true (true, "0f02a1f77392981ac5d964e641216d5bc597a6b97403f1eca412e4294a5b0ebf") true
    planChecks.proved (fun _ h => by cases h) (by kernel_rfl) (fun _ h => by cases h) planChecks_row_tie rfl ⟨rfl, rfl⟩ (by kernel_rfl) rfl
    (fun f fn hf hfn => by
      obtain rfl : f = 3 := Option.some.inj ((show Tryz.prog.funcNamed "leechbook/leechbooklaw10.PlanChecks" = some 3 by kernel_rfl).symm.trans hf) |>.symm
      obtain rfl : fn = Tryz.f3 := (Option.some.inj (Tryz.func3.symm.trans hfn)).symm
      exact ⟨by kernel_rfl, fun j t ht => by
        rw [Tryz.params3] at ht
        have hm : t ∈ [24] := by simpa using Array.mem_of_getElem? ht
        have hall : ([24].all fun u => !Tryz.prog.wantsStandIn u) = true := by kernel_rfl
        exact (show Tryz.prog.wantsStandIn t = false by simpa using List.all_eq_true.1 hall t hm)⟩)
    (by kernel_rfl)
#print axioms planChecks_holds
end Go.Proofs.YtfkhehkfeibdpaaGreatDoor
