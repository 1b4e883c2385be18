/-
  FeesParses holds for every text: which table it is, its rows in order, or where it is none, is what the chapter says.
-/
import Derived.WalkKit
import Derived.ProofKit
import Derived.OpenShut
import Derived.ShutString
import Derived.Below
import Derived.Carry
import Derived.LaidMore
import Derived.Stop.Joined
import Derived.SevenTiedAt
import Derived.Deep.DeepCutAuto
import Derived.Test.YtmoldgmfhcmceaaGreatDoorRows
import Derived.Test.YtmoldgmfhcmceaaGreatDoorTie
import Derived.Test.YtmoldgmfhcmceaaGreatDoorCards
import Derived.Test.YtmoldgmfhcmceaaGreatDoorMp1
import Derived.Test.YtmoldgmfhcmceaaGreatDoorMp2
import Derived.Test.YtmoldgmfhcmceaaGreatDoorMp3
import Derived.Test.YtmoldgmfhcmceaaGreatDoorMp4
import Derived.Test.YtmoldgmfhcmceaaGreatDoorMp5
import Derived.Test.YtmoldgmfhcmceaaGreatDoorMp6
import Derived.Test.YtmoldgmfhcmceaaGreatDoorMp7
import Derived.Test.YtmoldgmfhcmceaaGreatDoorMp8
import Derived.Test.YtmoldgmfhcmceaaGreatDoorMp9
import Derived.Test.YtmoldgmfhcmceaaGreatDoorMp10
import Derived.Test.YtmoldgmfhcmceaaGreatDoorMp11
import Derived.Test.YtmoldgmfhcmceaaGreatDoorMp12
import Derived.Test.YtmoldgmfhcmceaaGreatDoorMp13
import Derived.Test.YtmoldgmfhcmceaaGreatDoorMp14
import Derived.Test.YtmoldgmfhcmceaaGreatDoorMp15
import Derived.Test.YtmoldgmfhcmceaaGreatDoorMp16
import Derived.Test.YtmoldgmfhcmceaaGreatDoorMp17
import Derived.Test.YtmoldgmfhcmceaaGreatDoorMp18
import Derived.Test.YtmoldgmfhcmceaaGreatDoorMp19
import Derived.Test.YtmoldgmfhcmceaaGreatDoorMp20
import Derived.Test.YtmoldgmfhcmceaaGreatDoorMp21
import Derived.Test.YtmoldgmfhcmceaaGreatDoorMp22
import Derived.Test.YtmoldgmfhcmceaaGreatDoorMp23
import Derived.Test.YtmoldgmfhcmceaaGreatDoorMp24
import Derived.Test.YtmoldgmfhcmceaaGreatDoorMp25
import Derived.Test.YtmoldgmfhcmceaaGreatDoorMp26
import Derived.Test.YtmoldgmfhcmceaaGreatDoorMp27
import Derived.Test.YtmoldgmfhcmceaaGreatDoorMp28
import Derived.Test.YtmoldgmfhcmceaaGreatDoorMp29
import Derived.Test.YtmoldgmfhcmceaaGreatDoorMp30
import Derived.Test.YtmoldgmfhcmceaaGreatDoorMp31
import Derived.Test.YtmoldgmfhcmceaaGreatDoorMp32
import Derived.Test.YtmoldgmfhcmceaaGreatDoorMp33
import Derived.Test.YtmoldgmfhcmceaaGreatDoorMp34
import Derived.Test.YtmoldgmfhcmceaaGreatDoorMp35
import Derived.Test.YtmoldgmfhcmceaaGreatDoorMp36
import Derived.Test.YtmoldgmfhcmceaaGreatDoorMp37
import Derived.Test.YtmoldgmfhcmceaaGreatDoorMp38
import Derived.Test.YtmoldgmfhcmceaaGreatDoorMp39
import Derived.Test.YtmoldgmfhcmceaaGreatDoorMp40
import Derived.Test.YtmoldgmfhcmceaaGreatDoorMp41
namespace Go.Proofs.YtmoldgmfhcmceaaGreatDoor.feesParses
open Go.ChangeShapes Go.WideShapes Go.ChangeAt Go.RowKit
open Fo
open Fe
open Cm (Ln lnv LnOk)
open Wo (Wd WdsAt box_cell box_two keepB heap_far below_alloc below_trans)
open Go.ChangeMaps (open_string)
set_option linter.unusedVariables false
set_option linter.unusedSimpArgs false


theorem own : ownKnob Tryz.prog.godebug = none := by kernel_rfl

/-! ### the walk: the law returns true -/
set_option maxHeartbeats 8000000 in
theorem walk (w : World) (a0 : ByteArray) (w0 : a0.size ≤ maxLen) (hT : Nu.Tab w ∧ Da.Tab w) :
    Calls Tryz.prog 4 #[.string a0] w fun e w' => e = .returned (.bool true) ∧ Below w.heap.size w w' := by
  obtain ⟨hN, hD⟩ := hT
  have HWk : Hid (∀ W, Below w.heap.size w W → Calls Tryz.prog 8 #[] W fun e w' => e = .returned (.bool true) ∧ Below W.heap.size W w') := fun W hW => works_any W (Cm.tab_below hD hW) (Nu.tab_grw hN hW)
  have HB0 := Lib.hid (Below.refl w.heap.size w)
  by_cases hl : 8000 < a0.size
  · have hl' : (8000 : Int) < (a0.size : Int) := by omega
    clear hl
    go_enter Tryz.func4, Tryz.ntmps4
    go_wp2_with (go_at_call 8; refine (HWk.out _ HB0.out).mono ?_; rintro e w9 ⟨rfl, hb9⟩; have HB9 := Lib.hid (below_trans HB0.out hb9); clear hb9)
    go_ret
    exact ⟨rfl, HB9.out⟩
  have hl' : ¬ (8000 : Int) < (a0.size : Int) := by omega
  have HP0 : Hid (∀ W, Below w.heap.size w W → _) := fun W hW => parse_form a0 W w0 (Cm.tab_below hD hW)
  have HP1 : Hid (∀ W : World, _) := fun W => rparse_form a0 W w0
  have hlen := par_len a0.data.toList
  have HSm := Lib.hid fun W u v hu hv => same_eq (resL (paR a0.data.toList)) u v W hu hv (by omega)
  generalize resL (paR a0.data.toList) = L at *
  generalize resE (paR a0.data.toList) = E at *
  generalize resA (paR a0.data.toList) = A at *
  clear hl w0 hN hD hlen
  go_enter Tryz.func4, Tryz.ntmps4
  go_wp2_with fail
  go_at_call 13
  refine (HP0.out _ HB0.out).mono ?_
  rintro e w1 ⟨⟨p1, c1, rfl, hr1⟩, hb1⟩
  have hb2 := below_alloc w1 (.cells #[.int .i64 E, .int .i64 (A : Nat)] 30)
  have HB2 := Lib.hid (below_trans hb1 hb2)
  have HF2 := Lib.hid (heap_alloc_new w1 (.cells #[.int .i64 E, .int .i64 (A : Nat)] 30))
  have HR2 := Lib.hid (hr1.grw hb2)
  clear hb1 hb2 hr1 HP0 HB0
  go_upto_region 4 with fail
  generalize w1.alloc (.cells #[.int .i64 E, .int .i64 (A : Nat)] 30) = W2 at *
  generalize w1.heap.size = b1 at *
  go_wp2_with fail
  go_at_call 14
  refine (HP1.out _).mono ?_
  rintro e w3 ⟨⟨p3, c3, rfl, hr3⟩, hb3⟩
  have hb4 := below_alloc w3 (.cells #[.int .i64 E, .int .i64 (A : Nat)] 30)
  have HB4 := Lib.hid (below_trans HB2.out (below_trans hb3 hb4))
  have HF4 := Lib.hid (keepB HF2.out (below_trans hb3 hb4))
  have HG4 := Lib.hid (heap_alloc_new w3 (.cells #[.int .i64 E, .int .i64 (A : Nat)] 30))
  have HS4 := Lib.hid (HSm.out _ _ _ (HR2.out.grw (below_trans hb3 hb4)) (hr3.grw hb4))
  clear hb3 hb4 hr3 HP1 HB2 HF2 HR2 HSm
  go_upto_region 5 with fail
  generalize w3.alloc (.cells #[.int .i64 E, .int .i64 (A : Nat)] 30) = W4 at *
  generalize w3.heap.size = b3 at *
  obtain ⟨f0, f1, -, -⟩ := box_two HF4.out
  obtain ⟨k0, k1, -, -⟩ := box_two HG4.out
  go_wp2_with (first | (go_at_call 15; refine HS4.out.mono ?_; rintro e w5 ⟨rfl, hb5⟩; have HB5 := Lib.hid (below_trans HB4.out hb5); clear hb5) | (go_at_call 8; refine (HWk.out _ HB5.out).mono ?_; rintro e w9 ⟨rfl, hb9⟩; have HB9 := Lib.hid (below_trans HB5.out hb9); clear hb9))
  go_ret
  exact ⟨rfl, HB9.out⟩

/-! ### the row's step -/
theorem laidOut : laidOutB Tryz.prog = true := by kernel_rfl
set_option maxRecDepth 100000 in
theorem lifted (os : Os) (started : os.Started) (H : Type) (enc : TypeId × Value → H) :
    ReturnsInHanded {} Tryz.checked os 4 .any (fun w args => (Rows.feesParsesSpec.pre enc Tryz.prog Tryz.f4 [] false w args ∧ laidMetH Tryz.prog laidL w) ∧ sizedMet enc Tryz.prog Tryz.f4 (OpenSpec.ofChange Rows.feesParsesSpec) false w args) (Rows.feesParsesSpec.post enc Tryz.prog Tryz.f4 false true false false) := by
  refine lift own started (by kernel_rfl) Tryz.func4
    (ChangeSpec.witness_shaped (enc := enc) (C := Tryz.checked) (os := os) (X := fun w _ => laidMetH Tryz.prog laidL w) false (World.laidAll Tryz.prog os laidL) #[.string ByteArray.empty] 8 (World.laidAll_os _ _ _)
      (World.shaped_of_ZipB (by kernel_rfl) (by kernel_rfl)) (by kernel_rfl) (by kernel_rfl) (by kernel_rfl)
      (by rw [MakeChecks.laidMetH_plain _ _ _ (by kernel_rfl)]; exact laidMet_laidAll _ (by kernel_rfl) (by kernel_rfl))) ?_
  intro W base args ds gs before hval0 hW hwt hT
  have hval : ∀ (j : Nat) t v, Tryz.f4.params[j]? = some t → args[j]? = some v → Value.okWide Tryz.prog W .any base t v := hval0
  have hW' := hW
  obtain ⟨p, q, hA0, hV, rfl, hfz, hnd⟩ := hW
  have hA : DataW.TrodAll enc Tryz.prog W 0 (fun _ => true) true Tryz.f4.params.toList args.toList ds p := hA0
  rw [Tryz.params4] at hA hval hwt
  obtain ⟨v0, vs0, d0, ds0, p0, q0, hargs, rfl, rfl, h0, r0⟩ := trodAll_cons hA
  obtain ⟨rfl, rfl, rfl⟩ := trodAll_nil r0
  obtain rfl : args = #[v0] := by cases args; simp_all
  obtain ⟨rfl, rfl⟩ := trodVars_none hV
  have hwl : ∀ z, (z ∈ d0.weights Tryz.prog 9 → z ≤ reachBytes) := fun z => by
    have h := List.all_eq_true.1 hwt z
    simp only [decide_eq_true_eq] at h
    refine fun hz => h ?_
    all_goals
      simp only [List.cons_append, List.nil_append, List.toList_toArray, List.append_nil, DataW.weightsEach, List.mem_append]
      simp [hz]
  have k0 := h0
  have lt0 : ∀ x ∈ p0, x.block < W.heap.size := by obtain ⟨m, hm⟩ := k0; exact DataW.trod_lt m _ _ _ hm
  obtain ⟨a0, rfl, _, _, w0⟩ := open_string Tryz.underlying9 (hval 0 9 v0 rfl rfl) h0
  clear hA0 hval0
  refine (walk W a0 w0 hT).mono fun e W' ⟨he, bel⟩ => ?_
  subst he
  exact ⟨_, rfl, _, _, _, [], _, [], hW', (trodAll_cons_mk (shut_bool Tryz.underlying4 _) trodAll_mk0), (trodAll_cons_mk (Below.trod laidOut (by kernel_rfl) (of_decide_eq_true (by kernel_rfl)) k0 bel lt0) trodAll_mk0), rfl, bel.frame _, fun h => by cases h⟩

theorem over : Rows.feesParsesRow.holds Tryz.pinned (OpenSpec.ofChange Rows.feesParsesSpec) :=
  OpenClaim.holds_of_wide 4 Tryz.f4 rfl rfl rfl rfl rfl rfl rfl ⟨rfl, rfl, rfl, rfl, rfl⟩ rfl rfl rfl rfl rfl (by kernel_rfl) Tryz.func4 (by kernel_rfl)
    (of_decide_eq_true (by kernel_rfl)) (by unfold Func.isWrapper; first | (rw [if_pos (by decide +kernel)]; kernel_rfl) | (rw [if_neg (by decide +kernel)]; exact ⟨rfl, rfl⟩))
    (fun os started H enc _ => lifted os started H enc)

/-- The row's statement. -/
theorem proved : Rows.FeesParsesSaid := over
end Go.Proofs.YtmoldgmfhcmceaaGreatDoor.feesParses
namespace Go.Proofs.YtmoldgmfhcmceaaGreatDoor
theorem feesParses_holds : Rows.FeesParsesCardSaid :=
  Claim7.holds_tied_plain_at .later [] [.data, .data, .data, .data] true (true, "80dccdd50eaf1c53024e5eea2a051199af16ff3b85190e87a6f69e571cef1663") false
    feesParses.proved (fun _ h => by cases h) (by kernel_rfl) (fun _ h => by cases h) feesParses_row_tie rfl ⟨rfl, rfl⟩ (by kernel_rfl) rfl
    (fun f fn hf hfn => by
      obtain rfl : f = 4 := Option.some.inj ((show Tryz.prog.funcNamed "leechbook/leechbooklaw12.FeesParses" = some 4 by kernel_rfl).symm.trans hf) |>.symm
      obtain rfl : fn = Tryz.f4 := (Option.some.inj (Tryz.func4.symm.trans hfn)).symm
      exact ⟨by kernel_rfl, fun j t ht => by
        rw [Tryz.params4] at ht
        have hm : t ∈ [9] := by simpa using Array.mem_of_getElem? ht
        have hall : ([9].all fun u => !Tryz.prog.wantsStandIn u) = true := by kernel_rfl
        exact (show Tryz.prog.wantsStandIn t = false by simpa using List.all_eq_true.1 hall t hm)⟩)
    (by kernel_rfl)
#print axioms feesParses_holds
end Go.Proofs.YtmoldgmfhcmceaaGreatDoor
